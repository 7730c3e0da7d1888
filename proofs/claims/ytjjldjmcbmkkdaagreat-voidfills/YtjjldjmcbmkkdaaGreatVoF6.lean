/-
  VoidFills, walked: without a wisp.
-/
import Derived.Test.YtjjldjmcbmkkdaaGreatVoFs
namespace Go.Proofs.YtjjldjmcbmkkdaaGreat
open Go.RowKit

set_option maxRecDepth 100000 in
set_option maxHeartbeats 8000000 in
theorem fills_6 (v : Value) (os : List Int) (w : World) (O : IntsIn w v os) : Calls Tryz.prog 3 #[v, .bool false] w fun e w' => e = .returned (.bool true) ∧ w.grownBy w' none := by
  obtain ⟨oa, oc, rfl, HO0⟩ := O
  have HO : Hid (0 < os.length → ∃ g o, oa = some ⟨g, o, none⟩ ∧ ∀ (j : Nat) x, os[j]? = some x → w.cell? ⟨g, o + j, none⟩ = some (.int .i64 x)) := HO0
  clear HO0
  go_enter Tryz.func3, Tryz.ntmps3
  go_wp2_with fail
  refine (list_vo w).mono ?_
  rintro e W1 ⟨g0, es0, rfl, A⟩
  have HC1 : Hid (Cr W1.heap.size specL W1 g0 es0) := A.cr
  have HM : Hid (es0.map (fun e => (e.h, e.ps)) = specL) := A.is
  have HG1 : Hid (w.grownBy W1 none) := A.gr
  have HwG : Hid (w.heap.size ≤ g0) := A.low
  obtain ⟨G, hG⟩ : ∃ G, G = g0 := ⟨_, rfl⟩
  obtain ⟨cap, hcap⟩ : ∃ cap : Nat, cap = 6 := ⟨_, rfl⟩
  rw [← hG] at HC1 HwG ⊢
  obtain ⟨V0, hV0⟩ : ∃ V0, V0 = W1 := ⟨_, rfl⟩
  subst hV0
  clear A hG hcap cap
  have HS : Hid (∀ k e, k < 6 → es0[k]? = some e → e.h.su = 5) := fun k e hk he => by
    have h1 : (es0.map fun e => (e.h, e.ps))[k]? = some (e.h, e.ps) := by rw [List.getElem?_map, he]; rfl
    rw [HM.out] at h1
    have h2 : specL[k]? = some (e.h, e.ps) := by rw [← h1]
    exact spec_su _ (List.mem_of_getElem? h2)
  have HL : Hid (es0.length = 6) := by show es0.length = 6; rw [HC1.out.crs.len]; rfl
  clear HM
  have sm6 : Small 6 := by unfold Small; decide
  have smn : Small 6 := by unfold Small; decide
  have lim0 : Hid (G < V0.heap.size) := by obtain ⟨junk, h⟩ := HC1.out.lies; exact block_lt h
  go_upto_block 0 with fail
  go_cut [6] from 31 to 54 (fun _ wc => Cr V0.heap.size specL wc G es0 ∧ w.grownBy wc none ∧ V0.heap.size ≤ wc.heap.size)
  case first =>
    go_wp2_with fail
    go_loopw [6] (fun x6 wr => ∃ k : Nat, k ≤ 6 ∧ x6 = .int .i64 (k : Int) ∧ Cr V0.heap.size specL wr G es0 ∧ w.grownBy wr none ∧ V0.heap.size ≤ wr.heap.size) (fun x6 _ => 6 - (intOf x6).toNat)
    case atStart => exact ⟨0, Nat.zero_le _, rfl, HC1.out, HG1.out, Nat.le_refl _⟩
    case round =>
      clear HC1 HG1
      obtain ⟨k, hk, rfl, C, Gr, Sz⟩ := hrel
      obtain ⟨U, hU⟩ : ∃ U, U = wr := ⟨_, rfl⟩
      subst hU
      have HC : Hid (Cr V0.heap.size specL U G es0) := C
      have HG : Hid (w.grownBy U none ∧ V0.heap.size ≤ U.heap.size) := ⟨Gr, Sz⟩
      clear C Gr Sz
      rcases (show k < 6 ∨ k = 6 from by omega) with hk6 | hk6
      · have k0 : (0 : Int) ≤ (k : Int) := by omega
        have k6 : (k : Int) < 6 := by omega
        have k7 : (k : Int) < 6 := by omega
        obtain ⟨e0, he0⟩ : ∃ e, es0[k]? = some e := ⟨_, List.getElem?_eq_getElem (by rw [HL.out]; omega)⟩
        have mem0 := List.mem_of_getElem? he0
        have HCk := HC.out.crs.chk okL mem0
        have Hsu : e0.h.su = 5 := HS.out k e0 hk6 he0
        have Hps : e0.ps.length ≤ 4 := okL.four _ (HC.out.crs.mem mem0)
        have HP := (HC.out.ps e0 mem0).1
        have HD := HC.out.lies.row he0
        have HPs : Hid (PsAt U e0.v e0.ps) := HP
        have hsmp : Small e0.ps.length := by unfold Small; omega
        clear he0 mem0 Hps
        obtain ⟨⟨nm, su, kd, co, po, he, tr, tk⟩, vv, ps⟩ := e0
        simp only at Hsu HD HPs HP hsmp HCk
        subst Hsu
        obtain ⟨xx, yy, rfl⟩ := HP.form
        clear HP
        have HK1 := ccheck_any ⟨nm, 5, kd, co, po, he, tr, tk⟩ _ ps U HPs.out hsmp
        rw [show cchk (Hd.with ⟨nm, 5, kd, co, po, he, tr, tk⟩ ps) = 0 from HCk] at HK1
        unfold cv at HK1
        obtain ⟨z0, z1, z2, z3, z4, z5, z6, z7, z8⟩ := HD
        simp only at z0 z1 z2 z3 z4 z5 z6 z7 z8
        go_wp2_with fail
        refine HK1.mono ?_
        rintro e U2 ⟨rfl, g2⟩
        have HC2 : Hid (Cr V0.heap.size specL U2 G es0) := HC.out.keep g2
        have HG2 : Hid (w.grownBy U2 none ∧ V0.heap.size ≤ U2.heap.size) := ⟨grown_trans HG.out.1 g2, Nat.le_trans HG.out.2 g2.size⟩
        have y1 := g2.cell z1 (by simp)
        clear z0 z1 z2 z3 z4 z5 z6 z7 z8 HK1 g2
        go_wp2_with fail
        go_roundw
        case rel => exact ⟨k + 1, hk6, by first | rfl | (rw [sm6.wrap hk6]; rfl), HC2.out, HG2.out.1, HG2.out.2⟩
        case measure => first | exact meas_next hk6 | (rw [sm6.wrap hk6]; exact meas_next hk6)
      · have k6 : ¬ (k : Int) < 6 := by omega
        have k7 : ¬ (k : Int) < 6 := by omega
        clear hk6
        go_wp2_with fail
        go_meet
        case rel => exact ⟨HC.out, HG.out.1, HG.out.2⟩
  case rest =>
    obtain ⟨C, Gr, Sz⟩ := hcut
    obtain ⟨V, hV⟩ : ∃ V, V = wc := ⟨_, rfl⟩
    subst hV
    have HCv : Hid (Cr V0.heap.size specL V G es0) := C
    have HGv : Hid (w.grownBy V none) := Gr
    obtain ⟨a, ha⟩ : ∃ a, a = V.heap.size := ⟨_, rfl⟩
    obtain ⟨b, hb⟩ : ∃ b, b = a + 1 := ⟨_, rfl⟩
    have ab : a < b := by omega
    have Ga : G < a := by have := lim0.out; omega
    have wa : w.heap.size ≤ a := by rw [ha]; exact Gr.size
    have HCa : Hid (Cr a specL V G es0) := by rw [ha]; exact C.up Sz
    obtain ⟨ok, hok⟩ : ∃ ok : Nat → Prop, ok = fun k => b < k := ⟨_, rfl⟩
    have na : ¬ ok a := by rw [hok]; exact Nat.lt_asymm ab
    have nb : ¬ ok b := by rw [hok]; exact Nat.lt_irrefl _
    have nw : ∀ W : World, b < W.heap.size → ∀ k, W.heap.size ≤ k → ok k := fun W h k hk => by rw [hok]; exact Nat.lt_of_lt_of_le h hk
    have nG : ∀ k, ok k → some k ≠ some G := fun k hk e => by rw [hok] at hk; injection e with e; have : b < k := hk; omega
    have nab : ∀ k, ok k → (some k ≠ some a ∧ some k ≠ some b) := fun k hk => by rw [hok] at hk; have h9 : b < k := hk; exact ⟨fun e => by injection e with e; omega, fun e => by injection e with e; omega⟩
    clear C Gr Sz HC1 HG1 hok HCv HS lim0 sm6
    go_wp2_with fail
    refine (bnew ok V).mono ?_
    rintro e V1 ⟨rfl, B1, g1, s1⟩
    rw [← ha] at B1 ⊢
    have HB1 : Hid (Book ok V1 a [] plNew) := B1
    have HG1 : Hid (V.grownBy V1 none) := g1
    have HS1 : Hid (V1.heap.size = b) := by show V1.heap.size = b; rw [s1, ← ha, hb]
    clear B1 g1 s1 ha hb
    go_wp2_with fail
    refine (bnew ok V1).mono ?_
    rintro e V2 ⟨rfl, B2, g2, s2⟩
    rw [HS1.out] at B2 ⊢
    have HA2 : Hid (Book ok V2 a [] plNew) := HB1.out.keep g2
    have HB2 : Hid (Book ok V2 b [] plNew) := B2
    have HC2 : Hid (Cr a specL V2 G es0) := (HCa.out.keep HG1.out).keep g2
    have HG2 : Hid (w.grownBy V2 none) := grown_trans HGv.out (grown_trans HG1.out g2)
    clear B2 g2 s2 HS1 HB1 HG1 HGv HCa
    go_upto_block 2 with fail
    go_cut [9] from 57 to 69 (fun _ wc => ∃ fs, Book ok wc a fs plNew ∧ sameEs fs rowL = true ∧ Book ok wc b [] plNew ∧ Cr a specL wc G es0 ∧ w.grownBy wc none)
    case first =>
      go_wp2_with fail
      go_loopw [9] (fun x9 wr => ∃ (k : Nat) (l : List Nat) (fs : List Ent), k ≤ 6 ∧ x9 = .int .i64 (k : Int) ∧ (∀ i, i ∈ l ↔ i < k) ∧ Inv es0 [] [] l fs plNew ∧ Book ok wr a fs plNew ∧ Book ok wr b [] plNew ∧ Cr a specL wr G es0 ∧ w.grownBy wr none) (fun x9 _ => 6 - (intOf x9).toNat)
      case atStart => exact ⟨0, [], [], Nat.zero_le _, rfl, fun i => by simp, Inv.nil _ _ _, HA2.out, HB2.out, HC2.out, HG2.out⟩
      case round =>
        clear HA2 HB2 HC2 HG2
        obtain ⟨k, l, fs, hk, rfl, hl, I, B, Bo, C, Gr⟩ := hrel
        obtain ⟨U, hU⟩ : ∃ U, U = wr := ⟨_, rfl⟩
        subst hU
        have HI : Hid (Inv es0 [] [] l fs plNew) := I
        have HB : Hid (Book ok U a fs plNew) := B
        have HBo : Hid (Book ok U b [] plNew) := Bo
        have HC : Hid (Cr a specL U G es0) := C
        have HG : Hid (w.grownBy U none) := Gr
        have Hl : Hid (∀ i, i ∈ l ↔ i < k) := hl
        clear I B Bo C Gr hl
        rcases (show k < 6 ∨ k = 6 from by omega) with hk6 | hk6
        · have k0 : (0 : Int) ≤ (k : Int) := by omega
          have k6 : (k : Int) < 6 := by omega
          obtain ⟨e0, he0⟩ : ∃ e, es0[k]? = some e := ⟨_, List.getElem?_eq_getElem (by rw [HL.out]; exact hk6)⟩
          have mem0 := List.mem_of_getElem? he0
          have HT := crs_takes okL HC.out.crs HI.out rfl he0 (fun h => absurd ((Hl.out k).1 h) (Nat.lt_irrefl _))
          have Hps : e0.ps.length ≤ 4 := okL.four _ (HC.out.crs.mem mem0)
          have HP := (HC.out.ps e0 mem0).1
          have HD := HC.out.lies.row he0
          have HIn : Hid (∀ u, Inv es0 [] [] (k :: l) (ins fs ⟨e0.h, u, e0.ps⟩) plNew) := fun u => HI.out.card u (fun h => absurd ((Hl.out k).1 h) (Nat.lt_irrefl _)) he0
          have Hl2 : Hid (∀ i, i ∈ k :: l ↔ i < k + 1) := fun i => by rw [List.mem_cons, Hl.out i]; omega
          have hsmp : Small e0.ps.length := by unfold Small; omega
          clear he0 mem0 HI Hl Hps
          obtain ⟨⟨nm, su, kd, co, po, he, tr, tk⟩, vv, ps⟩ := e0
          simp only at HD HP HIn hsmp HT
          have HK2 := bcard ok a fs plNew ⟨nm, su, kd, co, po, he, tr, tk⟩ _ ps U HB.out na (nw _ (HBo.out.lt)) HP hsmp
          rw [show caE plNew fs (Hd.with ⟨nm, su, kd, co, po, he, tr, tk⟩ ps) = 0 from HT] at HK2
          obtain ⟨xx, yy, rfl⟩ := HP.form
          unfold cv at HK2
          obtain ⟨z0, z1, z2, z3, z4, z5, z6, z7, z8⟩ := HD
          simp only at z0 z1 z2 z3 z4 z5 z6 z7 z8
          clear HP
          go_wp2_with fail
          refine HK2.mono ?_
          rintro e U3 ⟨u, rfl, B3, g3⟩
          (first | rw [if_pos rfl] at B3 | rw [if_pos trivial] at B3)
          have HB3 : Hid (Book ok U3 a (ins fs ⟨⟨nm, su, kd, co, po, he, tr, tk⟩, u, ps⟩) plNew) := B3
          have HO3 : Hid (Book ok U3 b [] plNew) := HBo.out.keepR g3 (fun e => by injection e with e; omega) (fun k hk => (nab k hk).1)
          have HC3 : Hid (Cr a specL U3 G es0) := HC.out.keepR g3 (fun e => by injection e with e; omega) (fun x hx e => by injection e with e; omega)
          have HG3 : Hid (w.grownBy U3 none) := grown_own HG.out g3 (fun x e => by cases e; exact wa)
          clear B3 g3 z0 z1 z2 z3 z4 z5 z6 z7 z8 HK2
          go_wp2_with fail
          go_roundw
          case rel => exact ⟨k + 1, k :: l, _, hk6, by first | rfl | (rw [smn.wrap hk6]; rfl), Hl2.out, HIn.out u, HB3.out, HO3.out, HC3.out, HG3.out⟩
          case measure => first | exact meas_next hk6 | (rw [smn.wrap hk6]; exact meas_next hk6)
        · have HSm : Hid (sameEs fs rowL = true) := crs_same okL HC.out.crs HI.out (fun i hi => (Hl.out i).2 (by rw [hk6]; exact hi)) HB.out.srt
          have k6 : ¬ (k : Int) < 6 := by omega
          clear hk6 HI Hl
          go_wp2_with fail
          go_meet
          case rel => exact ⟨fs, HB.out, HSm.out, HBo.out, HC.out, HG.out⟩
    case rest =>
      obtain ⟨fs0, B, Sm, Bo, C, Gr⟩ := hcut
      obtain ⟨V3, hV3⟩ : ∃ V3, V3 = wc := ⟨_, rfl⟩
      subst hV3
      have HA3 : Hid (Book ok V3 a fs0 plNew) := B
      have HB3 : Hid (Book ok V3 b [] plNew) := Bo
      have HC3 : Hid (Cr a specL V3 G es0) := C
      have HG3 : Hid (w.grownBy V3 none) := Gr
      have HSa : Hid (sameEs fs0 rowL = true) := Sm
      clear B Bo C Gr Sm HA2 HB2 HC2 HG2
      go_upto_block 4 with fail
      go_cut [10, 11, 12] from 70 to 104 (fun _ _ _ wc => ∃ es, Book ok wc a fs0 plNew ∧ Book ok wc b [] plNew ∧ Cr a specL wc G es ∧ w.grownBy wc none)
      case first =>
        go_wp2_with fail
        go_loopw [10, 11, 12] (fun x10 _ _ wr => ∃ (i : Nat) (es : List Ent), i ≤ 100 ∧ x10 = .int .i64 (i : Int) ∧ Book ok wr a fs0 plNew ∧ Book ok wr b [] plNew ∧ Cr a specL wr G es ∧ w.grownBy wr none) (fun x10 _ _ _ => 100 - (intOf x10).toNat)
        case atStart => exact ⟨0, es0, Nat.zero_le _, rfl, HA3.out, HB3.out, HC3.out, HG3.out⟩
        case round =>
          clear HA3 HB3 HC3 HG3
          obtain ⟨i, es, hi, rfl, B, Bo, C, Gr⟩ := hrel
          obtain ⟨U, hU⟩ : ∃ U, U = wr := ⟨_, rfl⟩
          subst hU
          have HA : Hid (Book ok U a fs0 plNew) := B
          have HB : Hid (Book ok U b [] plNew) := Bo
          have HC : Hid (Cr a specL U G es) := C
          have HG : Hid (w.grownBy U none) := Gr
          clear B Bo C Gr
          by_cases hb : i < os.length ∧ i < 100
          · obtain ⟨h1, h2⟩ := hb
            have h1' : (i : Int) < (os.length : Int) := by omega
            have h2' : (i : Int) < 100 := by omega
            have i0 : (0 : Int) ≤ (i : Int) := by omega
            obtain ⟨g, o, rfl, HOc⟩ := HO.out (by omega)
            obtain ⟨x, hx⟩ : ∃ x, os[i]? = some x := ⟨_, List.getElem?_eq_getElem h1⟩
            have cx := HG.out.cell (HOc i x hx) (by simp)
            obtain ⟨k, hk6, hkt, hke⟩ := mod_n 6 (by decide) i
            rw [show ((6 : Nat) : Int) = (6 : Int) from rfl] at hkt hke
            have hes : es.length = 6 := by rw [HC.out.crs.len]; rfl
            have Hes : Hid (es.length = 6) := hes
            have hsm : Small 100 := by unfold Small; decide
            clear hx HOc hes
            go_upto_region 18 with fail
            refine wp_region_held_drew (S := fun w' => U.grownBy w' none) (by kernel_rfl) (grown_drew _) (fun hHeld => ?_)
            refine wpAnyH_take (i := 0) (v := ?_) rfl (by kernel_rfl) (by kernel_rfl) (by kernel_rfl) (fun _ _ _ h => h) (Or.inl ⟨by rfl, ?_⟩) (by assumption) ?_
            rotate_left 1
            · (intro w0 hSw; go_simp; try with_reducible rfl)
            simp only [List.getElem_toArray, List.getElem_cons_zero]
            go_frame
            refine wpAnyH_take (i := 1) (v := ?_) rfl (by kernel_rfl) (by kernel_rfl) (by kernel_rfl) (fun _ _ _ h => h) (Or.inl ⟨by rfl, ?_⟩) (by assumption) ?_
            rotate_left 1
            · (intro w0 hSw; go_simp; try with_reducible rfl)
            simp only [List.getElem_toArray, List.getElem_cons_zero, List.getElem_cons_succ]
            go_frame
            refine wpAnyH_take (i := 2) (v := ?_) rfl (by kernel_rfl) (by kernel_rfl) (by kernel_rfl) (fun _ _ _ h => h) (Or.inl ⟨by rfl, ?_⟩) (by assumption) ?_
            rotate_left 1
            · (intro w0 hSw; go_simp; try with_reducible rfl)
            simp only [List.getElem_toArray, List.getElem_cons_zero, List.getElem_cons_succ]
            go_frame
            refine wpAnyH_take (i := 3) (v := ?_) rfl (by kernel_rfl) (by kernel_rfl) (by kernel_rfl) (fun _ _ _ h => h) (Or.inl ⟨by rfl, ?_⟩) (by assumption) ?_
            rotate_left 1
            · (intro w0 hSw; have y := World.grownBy.cell hSw cx (by simp); go_simp; try with_reducible rfl)
            simp only [List.getElem_toArray, List.getElem_cons_zero, List.getElem_cons_succ]
            go_frame
            refine wpAnyH_take (i := 4) (v := ?_) rfl (by kernel_rfl) (by kernel_rfl) (by kernel_rfl) (fun _ _ _ h => h) (Or.inl ⟨by rfl, ?_⟩) (by assumption) ?_
            rotate_left 1
            · (intro w0 hSw; go_simp; try with_reducible rfl)
            simp only [List.getElem_toArray, List.getElem_cons_zero, List.getElem_cons_succ]
            go_frame
            refine wpAnyH_take (i := 5) (v := ?_) rfl (by kernel_rfl) (by kernel_rfl) (by kernel_rfl) (fun _ _ _ h => h) (Or.inl ⟨by rfl, ?_⟩) (by assumption) ?_
            rotate_left 1
            · (intro w0 hSw; go_simp; try with_reducible rfl)
            simp only [List.getElem_toArray, List.getElem_cons_zero, List.getElem_cons_succ]
            go_frame
            refine wpAnyH_take (i := 7) (v := ?_) rfl (by kernel_rfl) (by kernel_rfl) (by kernel_rfl) (fun _ _ _ h => h) (Or.inl ⟨by rfl, ?_⟩) (by assumption) ?_
            rotate_left 1
            · (intro w0 hSw; go_simp; try with_reducible rfl)
            simp only [List.getElem_toArray, List.getElem_cons_zero, List.getElem_cons_succ]
            go_frame
            refine wpAnyH_take (i := 8) (v := ?_) rfl (by kernel_rfl) (by kernel_rfl) (by kernel_rfl) (fun _ _ _ h => h) (Or.inl ⟨by rfl, ?_⟩) (by assumption) ?_
            rotate_left 1
            · (intro w0 hSw; go_simp; try with_reducible rfl)
            simp only [List.getElem_toArray, List.getElem_cons_zero, List.getElem_cons_succ]
            go_frame
            refine wpAnyH_take (i := 9) (v := ?_) rfl (by kernel_rfl) (by kernel_rfl) (by kernel_rfl) (fun _ _ _ h => h) (Or.inl ⟨by rfl, ?_⟩) (by assumption) ?_
            rotate_left 1
            · (intro w0 hSw; go_simp; try with_reducible rfl)
            simp only [List.getElem_toArray, List.getElem_cons_zero, List.getElem_cons_succ]
            go_frame
            refine wpAnyH_take (i := 10) (v := ?_) rfl (by kernel_rfl) (by kernel_rfl) (by kernel_rfl) (fun _ _ _ h => h) (Or.inl ⟨by rfl, ?_⟩) (by assumption) ?_
            rotate_left 1
            · (intro w0 hSw; go_simp; try with_reducible rfl)
            simp only [List.getElem_toArray, List.getElem_cons_zero, List.getElem_cons_succ]
            go_frame
            refine wpAnyH_ready (rs := [6]) (by kernel_rfl) (by simp) ?_
            refine AllReadyH.cons rfl (fun K hK => ?_) AllReadyH.nil
            simp only [List.getElem_toArray, List.getElem_cons_zero, List.getElem_cons_succ]
            go_simp
            go_at_call 9
            refine (pick_any x 6 _ (by decide) (by decide)).mono ?_
            rintro e U2 ⟨⟨j, hj6, rfl⟩, hU2⟩
            obtain rfl : U.drew = U2 := hU2.symm
            refine hK.out _ _ (grown_drew _) (fun hHeld2 => ?_)
            clear hK K
            (try go_frame)
            refine wpAnyH_take (i := 11) (v := ?_) rfl (by kernel_rfl) (by kernel_rfl) (by kernel_rfl) (fun _ _ _ h => h) (Or.inl ⟨by rfl, ?_⟩) (by assumption) ?_
            rotate_left 1
            · (intro w0 hSw; go_simp; try with_reducible rfl)
            simp only [List.getElem_toArray, List.getElem_cons_zero, List.getElem_cons_succ]
            go_frame
            refine wpAnyH_take (i := 12) (v := ?_) rfl (by kernel_rfl) (by kernel_rfl) (by kernel_rfl) (fun _ _ _ h => h) (Or.inl ⟨by rfl, ?_⟩) (by assumption) ?_
            rotate_left 1
            · (intro w0 hSw; go_simp; try with_reducible rfl)
            simp only [List.getElem_toArray, List.getElem_cons_zero, List.getElem_cons_succ]
            go_frame
            refine wpAnyH_done (by kernel_rfl) ?_ _
            obtain ⟨ek, hek⟩ : ∃ e, es[k]? = some e := ⟨_, List.getElem?_eq_getElem (by rw [Hes.out]; exact hk6)⟩
            obtain ⟨ej, hej⟩ : ∃ e, es[j]? = some e := ⟨_, List.getElem?_eq_getElem (by rw [Hes.out]; exact hj6)⟩
            clear hkt hke cx hHeld
            go_upto_region 19 with fail
            obtain ⟨hdj, vj, psj⟩ := ej
            obtain ⟨hdk, vk, psk⟩ := ek
            have fj := (HC.out.ps _ (List.mem_of_getElem? hej)).1.form
            have fk := (HC.out.ps _ (List.mem_of_getElem? hek)).1.form
            simp only at fj fk
            obtain ⟨xj, yj, rfl⟩ := fj
            obtain ⟨xk, yk, rfl⟩ := fk
            obtain ⟨D, hD⟩ : ∃ D, D = World.drew U := ⟨_, rfl⟩
            rw [← hD]
            have HUD : Hid (U.grownBy D.drew none) := by rw [hD]; exact grown_trans (grown_drew _) (grown_drew _)
            have HCd : Hid (Cr a specL D.drew G es) := HC.out.keep HUD.out
            clear hD
            obtain ⟨z0, z1, z2, z3, z4, z5, z6, z7, z8⟩ := HCd.out.lies.row hej
            obtain ⟨y0, y1, y2, y3, y4, y5, y6, y7, y8⟩ := HCd.out.lies.row hek
            have zf := fun i => HCd.out.lies.free i
            simp only at z0 z1 z2 z3 z4 z5 z6 z7 z8 y0 y1 y2 y3 y4 y5 y6 y7 y8
            obtain ⟨W2, hW2⟩ : ∃ W2, W2 = set9 D.drew G (j * 9) hdk (.slice xk psk.length yk) := ⟨_, rfl⟩
            obtain ⟨W3, hW3⟩ : ∃ W3, W3 = set9 W2 G (k * 9) hdj (.slice xj psj.length yj) := ⟨_, rfl⟩
            have HC3 : Hid (Cr a specL W3 G ((es.set j ⟨hdk, .slice xk psk.length yk, psk⟩).set k ⟨hdj, .slice xj psj.length yj, psj⟩)) := by have h9 := Cr.swap HCd.out hej hek; simp only at h9; rw [← hW2, ← hW3] at h9; exact h9
            have g2 : D.drew.grownBy W2 (some G) := by rw [hW2]; exact grown_s9 D.drew G (j * 9) hdk (.slice xk psk.length yk)
            have g3 : W2.grownBy W3 (some G) := by rw [hW3]; exact grown_s9 W2 G (k * 9) hdj (.slice xj psj.length yj)
            have HG3 : Hid (w.grownBy W3 none) := grown_own (grown_own (grown_trans HG.out HUD.out) g2 (fun x e => by cases e; exact HwG.out)) g3 (fun x e => by cases e; exact HwG.out)
            have HA3 : Hid (Book ok W3 a fs0 plNew) := ((HA.out.keep HUD.out).keepR g2 (fun e => by injection e with e; omega) nG).keepR g3 (fun e => by injection e with e; omega) nG
            have HB3 : Hid (Book ok W3 b [] plNew) := ((HB.out.keep HUD.out).keepR g2 (fun e => by injection e with e; omega) nG).keepR g3 (fun e => by injection e with e; omega) nG
            clear g2 g3
            have HW2 : Hid (W2 = set9 D.drew G (j * 9) hdk (.slice xk psk.length yk)) := hW2
            have HW3 : Hid (W3 = set9 W2 G (k * 9) hdj (.slice xj psj.length yj)) := hW3
            have HT2 : Hid (W2.there G (k * 9) 9) := by rw [hW2]; exact HCd.out.there2 hej ⟨hdk, .slice xk psk.length yk, psk⟩ hek
            clear hW2 hW3
            have j0 : (0 : Int) ≤ (j : Int) := by omega
            have j1 : (j : Int) < 6 := by omega
            have k0 : (0 : Int) ≤ (k : Int) := by omega
            have k1 : (k : Int) < 6 := by omega
            refine wp_region_held_drew (S := fun _ => True) (by kernel_rfl) trivial (fun hHeld => ?_)
            refine wpAnyH_take (i := 0) (v := ?_) rfl (by kernel_rfl) (by kernel_rfl) (by kernel_rfl) (fun _ _ _ h => h) (Or.inl ⟨by rfl, ?_⟩) (by assumption) ?_
            rotate_left 1
            · (intro w0 hSw; go_simp; try with_reducible rfl)
            simp only [List.getElem_toArray, List.getElem_cons_zero]
            go_frame
            refine wpAnyH_take (i := 1) (v := ?_) rfl (by kernel_rfl) (by kernel_rfl) (by kernel_rfl) (fun _ _ _ h => h) (Or.inl ⟨by rfl, ?_⟩) (by assumption) ?_
            rotate_left 1
            · (intro w0 hSw; go_simp; try with_reducible rfl)
            simp only [List.getElem_toArray, List.getElem_cons_zero, List.getElem_cons_succ]
            go_frame
            refine wpAnyH_take (i := 2) (v := ?_) rfl (by kernel_rfl) (by kernel_rfl) (by kernel_rfl) (fun _ _ _ h => h) (Or.inl ⟨by rfl, ?_⟩) (by assumption) ?_
            rotate_left 1
            · (intro w0 hSw; go_simp; try with_reducible rfl)
            simp only [List.getElem_toArray, List.getElem_cons_zero, List.getElem_cons_succ]
            go_frame
            refine wpAnyH_take (i := 3) (v := ?_) rfl (by kernel_rfl) (by kernel_rfl) (by kernel_rfl) (fun _ _ _ h => h) (Or.inl ⟨by rfl, ?_⟩) (by assumption) ?_
            rotate_left 1
            · (intro w0 hSw; go_simp; try with_reducible rfl)
            simp only [List.getElem_toArray, List.getElem_cons_zero, List.getElem_cons_succ]
            go_frame
            refine wpAnyH_take (i := 4) (v := ?_) rfl (by kernel_rfl) (by kernel_rfl) (by kernel_rfl) (fun _ _ _ h => h) (Or.inl ⟨by rfl, ?_⟩) (by assumption) ?_
            rotate_left 1
            · (intro w0 hSw; go_simp; try with_reducible rfl)
            simp only [List.getElem_toArray, List.getElem_cons_zero, List.getElem_cons_succ]
            go_frame
            refine wpAnyH_take (i := 5) (v := ?_) rfl (by kernel_rfl) (by kernel_rfl) (by kernel_rfl) (fun _ _ _ h => h) (Or.inl ⟨by rfl, ?_⟩) (by assumption) ?_
            rotate_left 1
            · (intro w0 hSw; go_simp; try with_reducible rfl)
            simp only [List.getElem_toArray, List.getElem_cons_zero, List.getElem_cons_succ]
            go_frame
            refine wpAnyH_take (i := 6) (v := ?_) rfl (by kernel_rfl) (by kernel_rfl) (by kernel_rfl) (fun _ _ _ h => h) (Or.inl ⟨by rfl, ?_⟩) (by assumption) ?_
            rotate_left 1
            · (intro w0 hSw; go_simp; try with_reducible rfl)
            simp only [List.getElem_toArray, List.getElem_cons_zero, List.getElem_cons_succ]
            go_frame
            refine wpAnyH_take (i := 8) (v := ?_) rfl (by kernel_rfl) (by kernel_rfl) (by kernel_rfl) (fun _ _ _ h => h) (Or.inl ⟨by rfl, ?_⟩) (by assumption) ?_
            rotate_left 1
            · (intro w0 hSw; go_simp; try with_reducible rfl)
            simp only [List.getElem_toArray, List.getElem_cons_zero, List.getElem_cons_succ]
            go_frame
            refine wpAnyH_take (i := 9) (v := ?_) rfl (by kernel_rfl) (by kernel_rfl) (by kernel_rfl) (fun _ _ _ h => h) (Or.inl ⟨by rfl, ?_⟩) (by assumption) ?_
            rotate_left 1
            · (intro w0 hSw; go_simp; try with_reducible rfl)
            simp only [List.getElem_toArray, List.getElem_cons_zero, List.getElem_cons_succ]
            go_frame
            refine wpAnyH_take (i := 10) (v := ?_) rfl (by kernel_rfl) (by kernel_rfl) (by kernel_rfl) (fun _ _ _ h => h) (Or.inl ⟨by rfl, ?_⟩) (by assumption) ?_
            rotate_left 1
            · (intro w0 hSw; go_simp; try with_reducible rfl)
            simp only [List.getElem_toArray, List.getElem_cons_zero, List.getElem_cons_succ]
            go_frame
            refine wpAnyH_ready (rs := [7, 11]) (by kernel_rfl) (by simp) ?_
            refine AllReadyH.cons rfl (fun K hK => ?_) (AllReadyH.cons rfl (fun K hK => ?_) AllReadyH.nil)
            · simp only [List.getElem_toArray, List.getElem_cons_zero, List.getElem_cons_succ]
              rw [if_pos (by rfl)]
              refine wp_load_mid 31 (.tmp 97) rfl G (k * 9) rfl (cvs hdk (.slice xk psk.length yk)) _ (HCd.out.lies.range hek) Tryz.underlying31 rfl (by kernel_rfl) ?_
              refine hK.out _ _ trivial (fun _ => ?_)
              clear hK K
              go_frame
              refine wpAnyH_ready (rs := [11]) (by kernel_rfl) (by simp) ?_
              refine AllReadyH.cons rfl (fun K hK => ?_) AllReadyH.nil
              simp only [List.getElem_toArray, List.getElem_cons_zero, List.getElem_cons_succ]
              rw [if_pos (by rfl)]
              refine wp_load_mid 31 (.tmp 101) rfl G (j * 9) rfl (cvs hdj (.slice xj psj.length yj)) _ (HCd.out.lies.range hej) Tryz.underlying31 rfl (by kernel_rfl) ?_
              refine hK.out _ _ trivial (fun _ => ?_)
              clear hK K
              go_frame
              refine wpAnyH_take (i := 12) (v := ?_) rfl (by kernel_rfl) (by kernel_rfl) (by kernel_rfl) (fun _ _ _ h => h) (Or.inl ⟨by rfl, ?_⟩) (by assumption) ?_
              rotate_left 1
              · (intro w0 hSw; go_simp; try with_reducible rfl)
              simp only [List.getElem_toArray, List.getElem_cons_zero, List.getElem_cons_succ]
              go_frame
              refine wpAnyH_ready (rs := [13]) (by kernel_rfl) (by simp) ?_
              refine AllReadyH.cons rfl (fun K hK => ?_) AllReadyH.nil
              simp only [List.getElem_toArray, List.getElem_cons_zero, List.getElem_cons_succ]
              rw [if_pos (by rfl)]
              refine wp_store_mid 31 (.tmp 103) (.tmp 98) rfl G (j * 9) (cvs hdk (.slice xk psk.length yk)).toArray rfl rfl (HCd.out.lies.there hej) (by kernel_rfl) (cvs_one _ _) ?_
              rw [setCells_set9, ← HW2.out]
              refine hK.out _ _ trivial (fun _ => ?_)
              clear hK K
              go_frame
              refine wpAnyH_take (i := 14) (v := ?_) rfl (by kernel_rfl) (by kernel_rfl) (by kernel_rfl) (fun _ _ _ h => h) (Or.inl ⟨by rfl, ?_⟩) (by assumption) ?_
              rotate_left 1
              · (intro w0 hSw; go_simp; try with_reducible rfl)
              simp only [List.getElem_toArray, List.getElem_cons_zero, List.getElem_cons_succ]
              go_frame
              refine wpAnyH_ready (rs := [15]) (by kernel_rfl) (by simp) ?_
              refine AllReadyH.cons rfl (fun K hK => ?_) AllReadyH.nil
              simp only [List.getElem_toArray, List.getElem_cons_zero, List.getElem_cons_succ]
              rw [if_pos (by rfl)]
              refine wp_store_mid 31 (.tmp 104) (.tmp 102) rfl G (k * 9) (cvs hdj (.slice xj psj.length yj)).toArray rfl rfl HT2.out (by kernel_rfl) (cvs_one _ _) ?_
              rw [setCells_set9, ← HW3.out]
              refine hK.out _ _ trivial (fun _ => ?_)
              clear hK K
              go_frame
              refine wpAnyH_done (by kernel_rfl) ?_ _
              go_wp2_with fail
              go_roundw
              case rel => exact ⟨i + 1, _, h2, by first | rfl | (rw [hsm.wrap h2]; rfl), HA3.out, HB3.out, HC3.out, HG3.out⟩
              case measure => first | exact meas_next h2 | (rw [hsm.wrap h2]; exact meas_next h2)
            · simp only [List.getElem_toArray, List.getElem_cons_zero, List.getElem_cons_succ]
              rw [if_pos (by rfl)]
              refine wp_load_mid 31 (.tmp 101) rfl G (j * 9) rfl (cvs hdj (.slice xj psj.length yj)) _ (HCd.out.lies.range hej) Tryz.underlying31 rfl (by kernel_rfl) ?_
              refine hK.out _ _ trivial (fun _ => ?_)
              clear hK K
              go_frame
              refine wpAnyH_ready (rs := [7]) (by kernel_rfl) (by simp) ?_
              refine AllReadyH.cons rfl (fun K hK => ?_) AllReadyH.nil
              simp only [List.getElem_toArray, List.getElem_cons_zero, List.getElem_cons_succ]
              rw [if_pos (by rfl)]
              refine wp_load_mid 31 (.tmp 97) rfl G (k * 9) rfl (cvs hdk (.slice xk psk.length yk)) _ (HCd.out.lies.range hek) Tryz.underlying31 rfl (by kernel_rfl) ?_
              refine hK.out _ _ trivial (fun _ => ?_)
              clear hK K
              go_frame
              refine wpAnyH_take (i := 12) (v := ?_) rfl (by kernel_rfl) (by kernel_rfl) (by kernel_rfl) (fun _ _ _ h => h) (Or.inl ⟨by rfl, ?_⟩) (by assumption) ?_
              rotate_left 1
              · (intro w0 hSw; go_simp; try with_reducible rfl)
              simp only [List.getElem_toArray, List.getElem_cons_zero, List.getElem_cons_succ]
              go_frame
              refine wpAnyH_ready (rs := [13]) (by kernel_rfl) (by simp) ?_
              refine AllReadyH.cons rfl (fun K hK => ?_) AllReadyH.nil
              simp only [List.getElem_toArray, List.getElem_cons_zero, List.getElem_cons_succ]
              rw [if_pos (by rfl)]
              refine wp_store_mid 31 (.tmp 103) (.tmp 98) rfl G (j * 9) (cvs hdk (.slice xk psk.length yk)).toArray rfl rfl (HCd.out.lies.there hej) (by kernel_rfl) (cvs_one _ _) ?_
              rw [setCells_set9, ← HW2.out]
              refine hK.out _ _ trivial (fun _ => ?_)
              clear hK K
              go_frame
              refine wpAnyH_take (i := 14) (v := ?_) rfl (by kernel_rfl) (by kernel_rfl) (by kernel_rfl) (fun _ _ _ h => h) (Or.inl ⟨by rfl, ?_⟩) (by assumption) ?_
              rotate_left 1
              · (intro w0 hSw; go_simp; try with_reducible rfl)
              simp only [List.getElem_toArray, List.getElem_cons_zero, List.getElem_cons_succ]
              go_frame
              refine wpAnyH_ready (rs := [15]) (by kernel_rfl) (by simp) ?_
              refine AllReadyH.cons rfl (fun K hK => ?_) AllReadyH.nil
              simp only [List.getElem_toArray, List.getElem_cons_zero, List.getElem_cons_succ]
              rw [if_pos (by rfl)]
              refine wp_store_mid 31 (.tmp 104) (.tmp 102) rfl G (k * 9) (cvs hdj (.slice xj psj.length yj)).toArray rfl rfl HT2.out (by kernel_rfl) (cvs_one _ _) ?_
              rw [setCells_set9, ← HW3.out]
              refine hK.out _ _ trivial (fun _ => ?_)
              clear hK K
              go_frame
              refine wpAnyH_done (by kernel_rfl) ?_ _
              go_wp2_with fail
              go_roundw
              case rel => exact ⟨i + 1, _, h2, by first | rfl | (rw [hsm.wrap h2]; rfl), HA3.out, HB3.out, HC3.out, HG3.out⟩
              case measure => first | exact meas_next h2 | (rw [hsm.wrap h2]; exact meas_next h2)
          · rcases (show os.length ≤ i ∨ (i < os.length ∧ 100 ≤ i) from by omega) with h1 | ⟨h1, h2⟩
            · have h1' : ¬ (i : Int) < (os.length : Int) := by omega
              clear hb
              go_wp2_with fail
              go_meet
              case rel => exact ⟨es, HA.out, HB.out, HC.out, HG.out⟩
            · have h1' : (i : Int) < (os.length : Int) := by omega
              have h2' : ¬ (i : Int) < 100 := by omega
              clear hb
              go_wp2_with fail
              go_meet
              case rel => exact ⟨es, HA.out, HB.out, HC.out, HG.out⟩
      case rest =>
        obtain ⟨es, B, Bo, C, Gr⟩ := hcut
        obtain ⟨V4, hV4⟩ : ∃ V4, V4 = wc := ⟨_, rfl⟩
        subst hV4
        have HA4 : Hid (Book ok V4 a fs0 plNew) := B
        have HB4 : Hid (Book ok V4 b [] plNew) := Bo
        have HC4 : Hid (Cr a specL V4 G es) := C
        have HG4 : Hid (w.grownBy V4 none) := Gr
        have HL : Hid (es.length = 6) := by show es.length = 6; rw [C.crs.len]; rfl
        clear B Bo C Gr HA3 HB3 HC3 HG3
        go_upto_block 6 with fail
        go_cut [13] from 105 to 117 (fun _ wc => ∃ gs, Book ok wc b gs plNew ∧ sameEs gs rowL = true ∧ Book ok wc a fs0 plNew ∧ Cr a specL wc G es ∧ w.grownBy wc none)
        case first =>
          go_wp2_with fail
          go_loopw [13] (fun x9 wr => ∃ (k : Nat) (l : List Nat) (fs : List Ent), k ≤ 6 ∧ x9 = .int .i64 (k : Int) ∧ (∀ i, i ∈ l ↔ i < k) ∧ Inv es [] [] l fs plNew ∧ Book ok wr b fs plNew ∧ Book ok wr a fs0 plNew ∧ Cr a specL wr G es ∧ w.grownBy wr none) (fun x9 _ => 6 - (intOf x9).toNat)
          case atStart => exact ⟨0, [], [], Nat.zero_le _, rfl, fun i => by simp, Inv.nil _ _ _, HB4.out, HA4.out, HC4.out, HG4.out⟩
          case round =>
            clear HB4 HA4 HC4 HG4
            obtain ⟨k, l, fs, hk, rfl, hl, I, B, Bo, C, Gr⟩ := hrel
            obtain ⟨U, hU⟩ : ∃ U, U = wr := ⟨_, rfl⟩
            subst hU
            have HI : Hid (Inv es [] [] l fs plNew) := I
            have HB : Hid (Book ok U b fs plNew) := B
            have HBo : Hid (Book ok U a fs0 plNew) := Bo
            have HC : Hid (Cr a specL U G es) := C
            have HG : Hid (w.grownBy U none) := Gr
            have Hl : Hid (∀ i, i ∈ l ↔ i < k) := hl
            clear I B Bo C Gr hl
            rcases (show k < 6 ∨ k = 6 from by omega) with hk6 | hk6
            · have k0 : (0 : Int) ≤ (k : Int) := by omega
              have k6 : (k : Int) < 6 := by omega
              obtain ⟨e0, he0⟩ : ∃ e, es[k]? = some e := ⟨_, List.getElem?_eq_getElem (by rw [HL.out]; exact hk6)⟩
              have mem0 := List.mem_of_getElem? he0
              have HT := crs_takes okL HC.out.crs HI.out rfl he0 (fun h => absurd ((Hl.out k).1 h) (Nat.lt_irrefl _))
              have Hps : e0.ps.length ≤ 4 := okL.four _ (HC.out.crs.mem mem0)
              have HP := (HC.out.ps e0 mem0).1
              have HD := HC.out.lies.row he0
              have HIn : Hid (∀ u, Inv es [] [] (k :: l) (ins fs ⟨e0.h, u, e0.ps⟩) plNew) := fun u => HI.out.card u (fun h => absurd ((Hl.out k).1 h) (Nat.lt_irrefl _)) he0
              have Hl2 : Hid (∀ i, i ∈ k :: l ↔ i < k + 1) := fun i => by rw [List.mem_cons, Hl.out i]; omega
              have hsmp : Small e0.ps.length := by unfold Small; omega
              clear he0 mem0 HI Hl Hps
              obtain ⟨⟨nm, su, kd, co, po, he, tr, tk⟩, vv, ps⟩ := e0
              simp only at HD HP HIn hsmp HT
              have HK2 := bcard ok b fs plNew ⟨nm, su, kd, co, po, he, tr, tk⟩ _ ps U HB.out nb (nw _ (HB.out.lt)) HP hsmp
              rw [show caE plNew fs (Hd.with ⟨nm, su, kd, co, po, he, tr, tk⟩ ps) = 0 from HT] at HK2
              obtain ⟨xx, yy, rfl⟩ := HP.form
              unfold cv at HK2
              obtain ⟨z0, z1, z2, z3, z4, z5, z6, z7, z8⟩ := HD
              simp only at z0 z1 z2 z3 z4 z5 z6 z7 z8
              clear HP
              go_wp2_with fail
              refine HK2.mono ?_
              rintro e U3 ⟨u, rfl, B3, g3⟩
              (first | rw [if_pos rfl] at B3 | rw [if_pos trivial] at B3)
              have HB3 : Hid (Book ok U3 b (ins fs ⟨⟨nm, su, kd, co, po, he, tr, tk⟩, u, ps⟩) plNew) := B3
              have HO3 : Hid (Book ok U3 a fs0 plNew) := HBo.out.keepR g3 (fun e => by injection e with e; omega) (fun k hk => (nab k hk).2)
              have HC3 : Hid (Cr a specL U3 G es) := HC.out.keepR g3 (fun e => by injection e with e; omega) (fun x hx e => by injection e with e; omega)
              have HG3 : Hid (w.grownBy U3 none) := grown_own HG.out g3 (fun x e => by cases e; exact Nat.le_trans wa (Nat.le_of_lt ab))
              clear B3 g3 z0 z1 z2 z3 z4 z5 z6 z7 z8 HK2
              go_wp2_with fail
              go_roundw
              case rel => exact ⟨k + 1, k :: l, _, hk6, by first | rfl | (rw [smn.wrap hk6]; rfl), Hl2.out, HIn.out u, HB3.out, HO3.out, HC3.out, HG3.out⟩
              case measure => first | exact meas_next hk6 | (rw [smn.wrap hk6]; exact meas_next hk6)
            · have HSm : Hid (sameEs fs rowL = true) := crs_same okL HC.out.crs HI.out (fun i hi => (Hl.out i).2 (by rw [hk6]; exact hi)) HB.out.srt
              have k6 : ¬ (k : Int) < 6 := by omega
              clear hk6 HI Hl
              go_wp2_with fail
              go_meet
              case rel => exact ⟨fs, HB.out, HSm.out, HBo.out, HC.out, HG.out⟩
        case rest =>
          obtain ⟨gs0, B, Sm, Bo, C, Gr⟩ := hcut
          obtain ⟨V5, hV5⟩ : ∃ V5, V5 = wc := ⟨_, rfl⟩
          subst hV5
          have HA5 : Hid (Book ok V5 a fs0 plNew) := Bo
          have HB5 : Hid (Book ok V5 b gs0 plNew) := B
          have HC5 : Hid (Cr a specL V5 G es) := C
          have HG5 : Hid (w.grownBy V5 none) := Gr
          have HSb : Hid (sameEs gs0 rowL = true) := Sm
          clear B Bo C Gr Sm HA4 HB4 HC4 HG4 HO
          obtain ⟨M, hM⟩ : ∃ M, M = V5.heap.size := ⟨_, rfl⟩
          have Mb : b < M := by rw [hM]; exact HB5.out.lt
          go_wp2_with fail
          refine (marks_vo V5).mono ?_
          rintro e V6 ⟨rfl, h6⟩
          have g6 : V5.grownBy V6 none := by rw [h6]; exact World.grownBy_alloc _ _ none
          have HM6 : Hid (V6.heap[M]? = some (.cells mCells 45 (0, 0))) := by rw [h6, hM]; exact alloc_at _ _ _
          have HS6 : Hid (V6.heap.size = M + 1) := by show V6.heap.size = M + 1; rw [h6, World.size_alloc, hM]
          have HG6 : Hid (V5.grownBy V6 none) := g6
          rw [← hM]
          clear g6 h6 hM
          go_wp2_with fail
          refine (traits_vo V6).mono ?_
          rintro e V7 ⟨rfl, h7⟩
          rw [HS6.out]
          have g7 : V6.grownBy V7 none := by rw [h7]; exact World.grownBy_alloc _ _ none
          have HT7 : Hid (V7.heap[M + 1]? = some (.cells tCells 47 (0, 0))) := by rw [h7, ← HS6.out]; exact alloc_at _ _ _
          have HM7 : Hid (V7.heap[M]? = some (.cells mCells 45 (0, 0))) := grown_keep g7 HM6.out (by simp)
          have HA7 : Hid (Book ok V7 a fs0 plNew) := (HA5.out.keep HG6.out).keep g7
          have HB7 : Hid (Book ok V7 b gs0 plNew) := (HB5.out.keep HG6.out).keep g7
          have HC7 : Hid (Cr a specL V7 G es) := (HC5.out.keep HG6.out).keep g7
          have HG7 : Hid (w.grownBy V7 none) := grown_trans HG5.out (grown_trans HG6.out g7)
          clear g7 h7 HM6 HS6 HG6 HA5 HB5 HC5 HG5
          go_upto_block 8 with fail
          go_cut [16] from 120 to 145 (fun _ wc => Book ok wc a fs0 pM ∧ Book ok wc b gs0 pM ∧ wc.heap[M + 1]? = some (.cells tCells 47 (0, 0)) ∧ Cr a specL wc G es ∧ w.grownBy wc none)
          case first =>
            go_wp2_with fail
            go_loopw [16] (fun x16 wr => ((x16 = .int .i64 0 ∧ Book ok wr a fs0 plNew ∧ Book ok wr b gs0 plNew) ∨ (x16 = .int .i64 1 ∧ Book ok wr a fs0 pM ∧ Book ok wr b gs0 pM)) ∧ wr.heap[M]? = some (.cells mCells 45 (0, 0)) ∧ wr.heap[M + 1]? = some (.cells tCells 47 (0, 0)) ∧ Cr a specL wr G es ∧ w.grownBy wr none) (fun x16 _ => 1 - (intOf x16).toNat)
            case atStart => exact ⟨Or.inl ⟨rfl, HA7.out, HB7.out⟩, HM7.out, HT7.out, HC7.out, HG7.out⟩
            case round =>
              clear HA7 HB7 HM7 HT7 HC7 HG7
              obtain ⟨hc, hm, ht, C, Gr⟩ := hrel
              obtain ⟨U, hU⟩ : ∃ U, U = wr := ⟨_, rfl⟩
              subst hU
              have HM : Hid (U.heap[M]? = some (.cells mCells 45 (0, 0))) := hm
              have HT : Hid (U.heap[M + 1]? = some (.cells tCells 47 (0, 0))) := ht
              have HC : Hid (Cr a specL U G es) := C
              have HG : Hid (w.grownBy U none) := Gr
              clear hm ht C Gr
              rcases hc with ⟨rfl, Ba, Bb⟩ | ⟨rfl, Ba, Bb⟩
              · have HA : Hid (Book ok U a fs0 plNew) := Ba
                have HB : Hid (Book ok U b gs0 plNew) := Bb
                clear Ba Bb
                have HK := bmark ok a fs0 plNew downM U HA.out na
                rw [ma_zero, maP_one] at HK
                unfold mv downM at HK
                have m0 : U.cell? ⟨M, 0, none⟩ = some (.int .u8 2) := block_cell HM.out 0
                have m1 : U.cell? ⟨M, 1, none⟩ = some (.string ⟨#[100, 111, 119, 110]⟩) := block_cell HM.out 1
                have m2 : U.cell? ⟨M, 2, none⟩ = some (.int .i64 (-1)) := block_cell HM.out 2
                have m3 : U.cell? ⟨M, 3, none⟩ = some (.int .i64 (-1)) := block_cell HM.out 3
                go_wp2_with fail
                refine HK.mono ?_
                rintro e U2 ⟨rfl, B2, g2⟩
                have HM2 : Hid (U2.heap[M]? = some (.cells mCells 45 (0, 0))) := grown_keep g2 HM.out (fun e => by injection e with e; omega)
                have HT2 : Hid (U2.heap[M + 1]? = some (.cells tCells 47 (0, 0))) := grown_keep g2 HT.out (fun e => by injection e with e; omega)
                have HC2 : Hid (Cr a specL U2 G es) := HC.out.keepR g2 (fun e => by injection e with e; omega) (fun x hx e => by injection e with e; omega)
                have HA2 : Hid (Book ok U2 a fs0 pM) := B2
                have HB2 : Hid (Book ok U2 b gs0 plNew) := HB.out.keepR g2 (fun e => by injection e with e; omega) (fun k hk => (nab k hk).1)
                have HG2 : Hid (w.grownBy U2 none) := grown_own HG.out g2 (fun x e => by cases e; exact wa)
                clear m0 m1 m2 m3 HK B2 g2 HM HT HC HA HB HG
                have HK := bmark ok b gs0 plNew downM U2 HB2.out nb
                rw [ma_zero, maP_one] at HK
                unfold mv downM at HK
                have m0 : U2.cell? ⟨M, 0, none⟩ = some (.int .u8 2) := block_cell HM2.out 0
                have m1 : U2.cell? ⟨M, 1, none⟩ = some (.string ⟨#[100, 111, 119, 110]⟩) := block_cell HM2.out 1
                have m2 : U2.cell? ⟨M, 2, none⟩ = some (.int .i64 (-1)) := block_cell HM2.out 2
                have m3 : U2.cell? ⟨M, 3, none⟩ = some (.int .i64 (-1)) := block_cell HM2.out 3
                go_wp2_with fail
                refine HK.mono ?_
                rintro e U3 ⟨rfl, B3, g3⟩
                have HM3 : Hid (U3.heap[M]? = some (.cells mCells 45 (0, 0))) := grown_keep g3 HM2.out (fun e => by injection e with e; omega)
                have HT3 : Hid (U3.heap[M + 1]? = some (.cells tCells 47 (0, 0))) := grown_keep g3 HT2.out (fun e => by injection e with e; omega)
                have HC3 : Hid (Cr a specL U3 G es) := HC2.out.keepR g3 (fun e => by injection e with e; omega) (fun x hx e => by injection e with e; omega)
                have HB3 : Hid (Book ok U3 b gs0 pM) := B3
                have HA3 : Hid (Book ok U3 a fs0 pM) := HA2.out.keepR g3 (fun e => by injection e with e; omega) (fun k hk => (nab k hk).2)
                have HG3 : Hid (w.grownBy U3 none) := grown_own HG2.out g3 (fun x e => by cases e; exact Nat.le_trans wa (Nat.le_of_lt ab))
                clear m0 m1 m2 m3 HK B3 g3
                go_wp2_with fail
                go_roundw
                case rel => exact ⟨Or.inr ⟨rfl, HA3.out, HB3.out⟩, HM3.out, HT3.out, HC3.out, HG3.out⟩
                case measure => decide
              · have HA : Hid (Book ok U a fs0 pM) := Ba
                have HB : Hid (Book ok U b gs0 pM) := Bb
                clear Ba Bb
                go_wp2_with fail
                go_meet
                case rel => exact ⟨HA.out, HB.out, HT.out, HC.out, HG.out⟩
          case rest =>
            obtain ⟨Ba, Bb, ht, C, Gr⟩ := hcut
            obtain ⟨V8, hV8⟩ : ∃ V8, V8 = wc := ⟨_, rfl⟩
            subst hV8
            have HA8 : Hid (Book ok V8 a fs0 pM) := Ba
            have HB8 : Hid (Book ok V8 b gs0 pM) := Bb
            have HT8 : Hid (V8.heap[M + 1]? = some (.cells tCells 47 (0, 0))) := ht
            have HC8 : Hid (Cr a specL V8 G es) := C
            have HG8 : Hid (w.grownBy V8 none) := Gr
            clear Ba Bb ht C Gr HA7 HB7 HM7 HT7 HC7 HG7
            go_upto_block 10 with fail
            go_cut [17] from 146 to 177 (fun _ wc => Book ok wc a fs0 pT ∧ Book ok wc b gs0 pT ∧ Cr a specL wc G es ∧ w.grownBy wc none)
            case first =>
              go_wp2_with fail
              go_loopw [17] (fun x17 wr => ((x17 = .int .i64 0 ∧ Book ok wr a fs0 pM ∧ Book ok wr b gs0 pM) ∨ (x17 = .int .i64 1 ∧ Book ok wr a fs0 pT ∧ Book ok wr b gs0 pT)) ∧ wr.heap[M + 1]? = some (.cells tCells 47 (0, 0)) ∧ Cr a specL wr G es ∧ w.grownBy wr none) (fun x17 _ => 1 - (intOf x17).toNat)
              case atStart => exact ⟨Or.inl ⟨rfl, HA8.out, HB8.out⟩, HT8.out, HC8.out, HG8.out⟩
              case round =>
                clear HA8 HB8 HT8 HC8 HG8
                obtain ⟨hc, ht, C, Gr⟩ := hrel
                obtain ⟨U, hU⟩ : ∃ U, U = wr := ⟨_, rfl⟩
                subst hU
                have HT : Hid (U.heap[M + 1]? = some (.cells tCells 47 (0, 0))) := ht
                have HC : Hid (Cr a specL U G es) := C
                have HG : Hid (w.grownBy U none) := Gr
                clear ht C Gr
                rcases hc with ⟨rfl, Ba, Bb⟩ | ⟨rfl, Ba, Bb⟩
                · have HA : Hid (Book ok U a fs0 pM) := Ba
                  have HB : Hid (Book ok U b gs0 pM) := Bb
                  clear Ba Bb
                  have c0 : U.drew.cell? ⟨M + 1, 0, none⟩ = some (.int .u8 6) := (grown_drew U).cell (block_cell HT.out 0) (by simp)
                  obtain ⟨X1, hX1⟩ : ∃ X1, X1 = (U.alloc (.cells #[.int .u8 116, .int .u8 97] 5)).drew := ⟨_, rfl⟩
                  have HX1 : Hid (X1 = (U.alloc (.cells #[.int .u8 116, .int .u8 97] 5)).drew) := hX1
                  have G1 : U.grownBy X1 none := by rw [hX1]; exact grown_trans (World.grownBy_alloc _ _ none) (grown_drew _)
                  have HG1 : Hid (U.grownBy X1 none) := G1
                  have hcv1 := conv_ta U.heap.size X1 (by rw [hX1]; exact grown_keep (grown_drew _) (alloc_at _ _ _) (by simp))
                  have hw1 : IntKind.i64.wrap 97 = 97 := by decide
                  have hw2 : IntKind.u8.wrap 97 = 97 := by decide
                  have c1 : X1.cell? ⟨M + 1, 0, none⟩ = some (.int .u8 6) := G1.cell (block_cell HT.out 0) (by simp)
                  have HK1 := btrait ok a fs0 pM 6 taB X1 (HA.out.keep G1) na
                  rw [tr_zero, trP_one] at HK1
                  unfold taB at HK1
                  clear hX1 G1
                  go_upto_region 35 with fail
                  refine wp_region_held_drew (S := fun w' => w'.cell? ⟨M + 1, 0, none⟩ = some (.int .u8 6)) (by kernel_rfl) c0 (fun hHeld => ?_)
                  refine wpAnyH_take (i := 0) (v := ?_) rfl (by kernel_rfl) (by kernel_rfl) (by kernel_rfl) (fun _ _ _ h => h) (Or.inl ⟨by rfl, ?_⟩) (by assumption) ?_
                  rotate_left 1
                  · (intro w0 hSw; go_simp; try with_reducible rfl)
                  simp only [List.getElem_toArray, List.getElem_cons_zero]
                  go_frame
                  refine wpAnyH_take (i := 1) (v := ?_) rfl (by kernel_rfl) (by kernel_rfl) (by kernel_rfl) (fun _ _ _ h => h) (Or.inl ⟨by rfl, ?_⟩) (by assumption) ?_
                  rotate_left 1
                  · (intro w0 hSw; go_simp; try with_reducible rfl)
                  simp only [List.getElem_toArray, List.getElem_cons_zero, List.getElem_cons_succ]
                  go_frame
                  refine wpAnyH_take (i := 2) (v := ?_) rfl (by kernel_rfl) (by kernel_rfl) (by kernel_rfl) (fun _ _ _ h => h) (Or.inl ⟨by rfl, ?_⟩) (by assumption) ?_
                  rotate_left 1
                  · (intro w0 hSw; go_simp; try with_reducible rfl)
                  simp only [List.getElem_toArray, List.getElem_cons_zero, List.getElem_cons_succ]
                  go_frame
                  refine wpAnyH_take (i := 3) (v := ?_) rfl (by kernel_rfl) (by kernel_rfl) (by kernel_rfl) (fun _ _ _ h => h) (Or.inl ⟨by rfl, ?_⟩) (by assumption) ?_
                  rotate_left 1
                  · (intro w0 hSw; go_simp; try with_reducible rfl)
                  simp only [List.getElem_toArray, List.getElem_cons_zero, List.getElem_cons_succ]
                  go_frame
                  refine wpAnyH_take (i := 4) (v := ?_) rfl (by kernel_rfl) (by kernel_rfl) (by kernel_rfl) (fun _ _ _ h => h) (Or.inl ⟨by rfl, ?_⟩) (by assumption) ?_
                  rotate_left 1
                  · (intro w0 hSw; have y := hSw; go_simp; try with_reducible rfl)
                  simp only [List.getElem_toArray, List.getElem_cons_zero, List.getElem_cons_succ]
                  go_frame
                  refine wpAnyH_take (i := 5) (v := ?_) rfl (by kernel_rfl) (by kernel_rfl) (by kernel_rfl) (fun _ _ _ h => h) (Or.inl ⟨by rfl, ?_⟩) (by assumption) ?_
                  rotate_left 1
                  · (intro w0 hSw; go_simp; try with_reducible rfl)
                  simp only [List.getElem_toArray, List.getElem_cons_zero, List.getElem_cons_succ]
                  go_frame
                  refine wpAnyH_take (i := 6) (v := ?_) rfl (by kernel_rfl) (by kernel_rfl) (by kernel_rfl) (fun _ _ _ h => h) (Or.inl ⟨by rfl, ?_⟩) (by assumption) ?_
                  rotate_left 1
                  · (intro w0 hSw; go_simp; try with_reducible rfl)
                  simp only [List.getElem_toArray, List.getElem_cons_zero, List.getElem_cons_succ]
                  go_frame
                  refine wpAnyH_take (i := 7) (v := ?_) rfl (by kernel_rfl) (by kernel_rfl) (by kernel_rfl) (fun _ _ _ h => h) (Or.inl ⟨by rfl, ?_⟩) (by assumption) ?_
                  rotate_left 1
                  · (intro w0 hSw; go_simp; try with_reducible rfl)
                  simp only [List.getElem_toArray, List.getElem_cons_zero, List.getElem_cons_succ]
                  go_frame
                  refine wpAnyH_ready (rs := [8]) (by kernel_rfl) (by simp) ?_
                  refine AllReadyH.cons rfl (fun K hK => ?_) AllReadyH.nil
                  simp only [List.getElem_toArray, List.getElem_cons_zero, List.getElem_cons_succ]
                  go_simp
                  rw [← HX1.out]
                  refine hK.out _ _ c1 (fun hHeld2 => ?_)
                  clear hK K
                  (try go_frame)
                  refine wpAnyH_ready (rs := [9]) (by kernel_rfl) (by simp) ?_
                  refine AllReadyH.cons rfl (fun K hK => ?_) AllReadyH.nil
                  simp only [List.getElem_toArray, List.getElem_cons_zero, List.getElem_cons_succ]
                  go_simp
                  refine hK.out _ _ c1 (fun hHeld2 => ?_)
                  clear hK K hcv1
                  (try go_frame)
                  refine wpAnyH_ready (rs := [10]) (by kernel_rfl) (by simp) ?_
                  refine AllReadyH.cons rfl (fun K hK => ?_) AllReadyH.nil
                  simp only [List.getElem_toArray, List.getElem_cons_zero, List.getElem_cons_succ]
                  go_simp
                  go_at_call 13
                  refine (HK1).mono ?_
                  rintro e X2 ⟨rfl, B2, g2⟩
                  have HA2 : Hid (Book ok X2 a fs0 pT) := B2
                  have G2 : Hid (U.grownBy X2 (some a)) := grown_own' HG1.out g2
                  have HB2 : Hid (Book ok X2 b gs0 pM) := HB.out.keepR G2.out (fun e => by injection e with e; omega) (fun k hk => (nab k hk).1)
                  have HT2 : Hid (X2.heap[M + 1]? = some (.cells tCells 47 (0, 0))) := grown_keep G2.out HT.out (fun e => by injection e with e; omega)
                  have c2 : X2.cell? ⟨M + 1, 0, none⟩ = some (.int .u8 6) := block_cell HT2.out 0
                  obtain ⟨X3, hX3⟩ : ∃ X3, X3 = X2.alloc (.cells #[.int .u8 116, .int .u8 97] 5) := ⟨_, rfl⟩
                  have HX3 : Hid (X3 = X2.alloc (.cells #[.int .u8 116, .int .u8 97] 5)) := hX3
                  have g3 : X2.grownBy X3 none := by rw [hX3]; exact World.grownBy_alloc _ _ none
                  have HG3 : Hid (X2.grownBy X3 none) := g3
                  have hcv3 := conv_ta X2.heap.size X3 (by rw [hX3]; exact alloc_at _ _ _)
                  have c3 : X3.cell? ⟨M + 1, 0, none⟩ = some (.int .u8 6) := g3.cell c2 (by simp)
                  have HK3 := btrait ok b gs0 pM 6 taB X3 (HB2.out.keep g3) nb
                  rw [tr_zero, trP_one] at HK3
                  unfold taB at HK3
                  clear hX3 g3 B2 g2
                  refine hK.out _ _ (c2) (fun hHeld2 => ?_)
                  clear hK K
                  (try go_frame)
                  refine wpAnyH_take (i := 11) (v := ?_) rfl (by kernel_rfl) (by kernel_rfl) (by kernel_rfl) (fun _ _ _ h => h) (Or.inl ⟨by rfl, ?_⟩) (by assumption) ?_
                  rotate_left 1
                  · (intro w0 hSw; go_simp; try with_reducible rfl)
                  simp only [List.getElem_toArray, List.getElem_cons_zero, List.getElem_cons_succ]
                  go_frame
                  refine wpAnyH_take (i := 12) (v := ?_) rfl (by kernel_rfl) (by kernel_rfl) (by kernel_rfl) (fun _ _ _ h => h) (Or.inl ⟨by rfl, ?_⟩) (by assumption) ?_
                  rotate_left 1
                  · (intro w0 hSw; go_simp; try with_reducible rfl)
                  simp only [List.getElem_toArray, List.getElem_cons_zero, List.getElem_cons_succ]
                  go_frame
                  refine wpAnyH_take (i := 13) (v := ?_) rfl (by kernel_rfl) (by kernel_rfl) (by kernel_rfl) (fun _ _ _ h => h) (Or.inl ⟨by rfl, ?_⟩) (by assumption) ?_
                  rotate_left 1
                  · (intro w0 hSw; go_simp; try with_reducible rfl)
                  simp only [List.getElem_toArray, List.getElem_cons_zero, List.getElem_cons_succ]
                  go_frame
                  refine wpAnyH_take (i := 14) (v := ?_) rfl (by kernel_rfl) (by kernel_rfl) (by kernel_rfl) (fun _ _ _ h => h) (Or.inl ⟨by rfl, ?_⟩) (by assumption) ?_
                  rotate_left 1
                  · (intro w0 hSw; go_simp; try with_reducible rfl)
                  simp only [List.getElem_toArray, List.getElem_cons_zero, List.getElem_cons_succ]
                  go_frame
                  refine wpAnyH_take (i := 15) (v := ?_) rfl (by kernel_rfl) (by kernel_rfl) (by kernel_rfl) (fun _ _ _ h => h) (Or.inl ⟨by rfl, ?_⟩) (by assumption) ?_
                  rotate_left 1
                  · (intro w0 hSw; go_simp; try with_reducible rfl)
                  simp only [List.getElem_toArray, List.getElem_cons_zero, List.getElem_cons_succ]
                  go_frame
                  refine wpAnyH_take (i := 16) (v := ?_) rfl (by kernel_rfl) (by kernel_rfl) (by kernel_rfl) (fun _ _ _ h => h) (Or.inl ⟨by rfl, ?_⟩) (by assumption) ?_
                  rotate_left 1
                  · (intro w0 hSw; go_simp; try with_reducible rfl)
                  simp only [List.getElem_toArray, List.getElem_cons_zero, List.getElem_cons_succ]
                  go_frame
                  refine wpAnyH_take (i := 17) (v := ?_) rfl (by kernel_rfl) (by kernel_rfl) (by kernel_rfl) (fun _ _ _ h => h) (Or.inl ⟨by rfl, ?_⟩) (by assumption) ?_
                  rotate_left 1
                  · (intro w0 hSw; have y := hSw; go_simp; try with_reducible rfl)
                  simp only [List.getElem_toArray, List.getElem_cons_zero, List.getElem_cons_succ]
                  go_frame
                  refine wpAnyH_take (i := 18) (v := ?_) rfl (by kernel_rfl) (by kernel_rfl) (by kernel_rfl) (fun _ _ _ h => h) (Or.inl ⟨by rfl, ?_⟩) (by assumption) ?_
                  rotate_left 1
                  · (intro w0 hSw; go_simp; try with_reducible rfl)
                  simp only [List.getElem_toArray, List.getElem_cons_zero, List.getElem_cons_succ]
                  go_frame
                  refine wpAnyH_take (i := 19) (v := ?_) rfl (by kernel_rfl) (by kernel_rfl) (by kernel_rfl) (fun _ _ _ h => h) (Or.inl ⟨by rfl, ?_⟩) (by assumption) ?_
                  rotate_left 1
                  · (intro w0 hSw; go_simp; try with_reducible rfl)
                  simp only [List.getElem_toArray, List.getElem_cons_zero, List.getElem_cons_succ]
                  go_frame
                  refine wpAnyH_take (i := 20) (v := ?_) rfl (by kernel_rfl) (by kernel_rfl) (by kernel_rfl) (fun _ _ _ h => h) (Or.inl ⟨by rfl, ?_⟩) (by assumption) ?_
                  rotate_left 1
                  · (intro w0 hSw; go_simp; try with_reducible rfl)
                  simp only [List.getElem_toArray, List.getElem_cons_zero, List.getElem_cons_succ]
                  go_frame
                  refine wpAnyH_ready (rs := [21]) (by kernel_rfl) (by simp) ?_
                  refine AllReadyH.cons rfl (fun K hK => ?_) AllReadyH.nil
                  simp only [List.getElem_toArray, List.getElem_cons_zero, List.getElem_cons_succ]
                  (try rw [if_pos (by rfl)])
                  go_simp
                  rw [← HX3.out]
                  refine hK.out _ _ c3 (fun hHeld2 => ?_)
                  clear hK K
                  (try go_frame)
                  refine wpAnyH_ready (rs := [22]) (by kernel_rfl) (by simp) ?_
                  refine AllReadyH.cons rfl (fun K hK => ?_) AllReadyH.nil
                  simp only [List.getElem_toArray, List.getElem_cons_zero, List.getElem_cons_succ]
                  (try rw [if_pos (by rfl)])
                  go_simp
                  refine hK.out _ _ c3 (fun hHeld2 => ?_)
                  clear hK K hcv3
                  (try go_frame)
                  refine wpAnyH_ready (rs := [23]) (by kernel_rfl) (by simp) ?_
                  refine AllReadyH.cons rfl (fun K hK => ?_) AllReadyH.nil
                  simp only [List.getElem_toArray, List.getElem_cons_zero, List.getElem_cons_succ]
                  rw [if_pos (by rfl)]
                  go_simp
                  go_at_call 13
                  refine (HK3).mono ?_
                  rintro e X4 ⟨rfl, B4, g4⟩
                  have HB4 : Hid (Book ok X4 b gs0 pT) := B4
                  have G4 : Hid (X2.grownBy X4 (some b)) := grown_own' HG3.out g4
                  have HA4 : Hid (Book ok X4 a fs0 pT) := HA2.out.keepR G4.out (fun e => by injection e with e; omega) (fun k hk => (nab k hk).2)
                  have HT4 : Hid (X4.heap[M + 1]? = some (.cells tCells 47 (0, 0))) := grown_keep G4.out HT2.out (fun e => by injection e with e; omega)
                  have c4 : X4.cell? ⟨M + 1, 0, none⟩ = some (.int .u8 6) := block_cell HT4.out 0
                  have HC4 : Hid (Cr a specL X4 G es) := (HC.out.keepR G2.out (fun e => by injection e with e; omega) (fun x hx e => by injection e with e; omega)).keepR G4.out (fun e => by injection e with e; omega) (fun x hx e => by injection e with e; omega)
                  have HG4 : Hid (w.grownBy X4 none) := grown_own (grown_own HG.out G2.out (fun x e => by cases e; exact wa)) G4.out (fun x e => by cases e; exact Nat.le_trans wa (Nat.le_of_lt ab))
                  clear B4 g4
                  refine hK.out _ _ (c4) (fun hHeld2 => ?_)
                  clear hK K
                  (try go_frame)
                  refine wpAnyH_take (i := 24) (v := ?_) rfl (by kernel_rfl) (by kernel_rfl) (by kernel_rfl) (fun _ _ _ h => h) (Or.inl ⟨by rfl, ?_⟩) (by assumption) ?_
                  rotate_left 1
                  · (intro w0 hSw; go_simp; try with_reducible rfl)
                  simp only [List.getElem_toArray, List.getElem_cons_zero, List.getElem_cons_succ]
                  go_frame
                  refine wpAnyH_take (i := 25) (v := ?_) rfl (by kernel_rfl) (by kernel_rfl) (by kernel_rfl) (fun _ _ _ h => h) (Or.inl ⟨by rfl, ?_⟩) (by assumption) ?_
                  rotate_left 1
                  · (intro w0 hSw; go_simp; try with_reducible rfl)
                  simp only [List.getElem_toArray, List.getElem_cons_zero, List.getElem_cons_succ]
                  go_frame
                  refine wpAnyH_done (by kernel_rfl) ?_ _
                  clear hHeld hHeld2
                  go_wp2_with fail
                  go_roundw
                  case rel => exact ⟨Or.inr ⟨rfl, HA4.out, HB4.out⟩, HT4.out, HC4.out, HG4.out⟩
                  case measure => decide
                · have HA : Hid (Book ok U a fs0 pT) := Ba
                  have HB : Hid (Book ok U b gs0 pT) := Bb
                  clear Ba Bb
                  go_wp2_with fail
                  go_meet
                  case rel => exact ⟨HA.out, HB.out, HC.out, HG.out⟩
            case rest =>
              obtain ⟨Ba, Bb, C, Gr⟩ := hcut
              obtain ⟨V9, hV9⟩ : ∃ V9, V9 = wc := ⟨_, rfl⟩
              subst hV9
              have HA9 : Hid (Book ok V9 a fs0 pT) := Ba
              have HB9 : Hid (Book ok V9 b gs0 pT) := Bb
              have HC9 : Hid (Cr a specL V9 G es) := C
              have HG9 : Hid (w.grownBy V9 none) := Gr
              clear Ba Bb C Gr HA8 HB8 HT8 HC8 HG8
              have sa : sealE pT fs0 = 6 := (sealE_of HSa.out rfl).trans seal_L
              have sb : sealE pT gs0 = 6 := (sealE_of HSb.out rfl).trans seal_L
              have HK := bseal ok a fs0 pT V9 HA9.out na
              have HP : Hid (sealP pT fs0 = pT ∧ sealP pT gs0 = pT) := ⟨if_neg (by rw [sa]; decide), if_neg (by rw [sb]; decide)⟩
              have HSb2 : Hid (sealE pT gs0 = 6) := sb
              rw [sa, HP.out.1] at HK
              clear sa sb
              go_wp2_with fail
              refine HK.mono ?_
              rintro e V10 ⟨rfl, B10, g10⟩
              have HA10 : Hid (Book ok V10 a fs0 pT) := B10
              have HB10 : Hid (Book ok V10 b gs0 pT) := HB9.out.keepR g10 (fun e => by injection e with e; omega) (fun k hk => (nab k hk).1)
              have HC10 : Hid (Cr a specL V10 G es) := HC9.out.keepR g10 (fun e => by injection e with e; omega) (fun x hx e => by injection e with e; omega)
              have HG10 : Hid (w.grownBy V10 none) := grown_own HG9.out g10 (fun x e => by cases e; exact wa)
              clear B10 g10 HK HA9 HB9 HC9 HG9
              have HK := bseal ok b gs0 pT V10 HB10.out nb
              rw [HSb2.out, HP.out.2] at HK
              go_wp2_with fail
              refine HK.mono ?_
              rintro e V11 ⟨rfl, B11, g11⟩
              have HB11 : Hid (Book ok V11 b gs0 pT) := B11
              have HA11 : Hid (Book ok V11 a fs0 pT) := HA10.out.keepR g11 (fun e => by injection e with e; omega) (fun k hk => (nab k hk).2)
              have HC11 : Hid (Cr a specL V11 G es) := HC10.out.keepR g11 (fun e => by injection e with e; omega) (fun x hx e => by injection e with e; omega)
              have HG11 : Hid (w.grownBy V11 none) := grown_own HG10.out g11 (fun x e => by cases e; exact Nat.le_trans wa (Nat.le_of_lt ab))
              clear B11 g11 HK HA10 HB10 HC10 HG10 HP HSb2
              go_wp2_with fail
              refine (names_vo V11).mono ?_
              rintro e V12 ⟨rfl, g12⟩
              go_wp2
              go_ret
              exact ⟨rfl, grown_trans HG11.out g12⟩
end Go.Proofs.YtjjldjmcbmkkdaaGreat
