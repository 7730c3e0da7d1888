/-
  GoldFills, walked.
-/
import Derived.Test.YtpoicbefemjckaaGdP
namespace Go.Proofs.Ytpoicbefemjckaa
open Go.RowKit

set_option maxRecDepth 100000 in
set_option maxHeartbeats 8000000 in
theorem fills_gd (v : Value) (os : List Int) (w : World) (O : IntsIn w v os) : Calls Try.prog 4 #[v] w fun e w' => e = .returned (.bool true) ∧ w.grownBy w' none := by
  obtain ⟨oa, oc, rfl, HO0⟩ := O
  have HO : Hid (0 < os.length → ∃ g o, oa = some ⟨g, o, none⟩ ∧ ∀ (j : Nat) x, os[j]? = some x → w.cell? ⟨g, o + j, none⟩ = some (.int .i64 x)) := HO0
  clear HO0
  go_enter Try.func4, Try.ntmps4
  go_wp2_with fail
  refine (list_gd w).mono ?_
  rintro e W1 ⟨g0, es0, rfl, A⟩
  have HC1 : Hid (Cr W1.heap.size specL W1 g0 es0) := A.cr
  have HG1 : Hid (w.grownBy W1 none) := A.gr
  have HwG : Hid (w.heap.size ≤ g0 ∧ g0 < W1.heap.size) := ⟨A.low, A.top⟩
  obtain ⟨G, hG⟩ : ∃ G, G = g0 := ⟨_, rfl⟩
  rw [← hG] at HC1 HwG ⊢
  clear A hG
  obtain ⟨lim, hlim⟩ : ∃ lim, lim = W1.heap.size := ⟨_, rfl⟩
  rw [← hlim] at HC1 HwG
  have Hlim : Hid (lim ≤ W1.heap.size) := by rw [hlim]; exact Nat.le_refl _
  clear hlim
  by_cases hbig : (100 : Int) < (os.length : Int)
  · go_wp2
    go_ret
    exact ⟨rfl, HG1.out⟩
  have hsm : Small os.length := by unfold Small; omega
  go_upto_block 0 with fail
  go_cut [4, 5, 6] from 29 to 55 (fun _ _ _ wc => ∃ es, Cr lim specL wc G es ∧ w.grownBy wc none ∧ lim ≤ wc.heap.size)
  case first =>
    go_wp2_with fail
    go_loopw [4] (fun x4 wr => ∃ (i : Nat) (es : List Ent), i ≤ os.length ∧ x4 = .int .i64 (i : Int) ∧ Cr lim specL wr G es ∧ w.grownBy wr none ∧ lim ≤ wr.heap.size) (fun x4 _ => os.length - (intOf x4).toNat)
    case atStart => exact ⟨0, es0, Nat.zero_le _, rfl, HC1.out, HG1.out, Hlim.out⟩
    case round =>
      clear HC1 HG1 Hlim
      obtain ⟨i, es, hi, rfl, C, Gr, Sz⟩ := hrel
      obtain ⟨U, hU⟩ : ∃ U, U = wr := ⟨_, rfl⟩
      subst hU
      have HC : Hid (Cr lim specL U G es) := C
      have HG : Hid (w.grownBy U none) := Gr
      have HS : Hid (lim ≤ U.heap.size) := Sz
      clear C Gr Sz
      rcases (show i < os.length ∨ i = os.length from by omega) with h1 | h1
      · have h1' : (i : Int) < (os.length : Int) := by omega
        have i0 : (0 : Int) ≤ (i : Int) := by omega
        obtain ⟨g, o, rfl, HOc⟩ := HO.out (by omega)
        obtain ⟨x, hx⟩ : ∃ x, os[i]? = some x := ⟨_, List.getElem?_eq_getElem h1⟩
        have cx := HG.out.cell (HOc i x hx) (by simp)
        obtain ⟨k, hk6, hkt, hke⟩ := mod_n 6 (by decide) i
        rw [show ((6 : Nat) : Int) = (6 : Int) from rfl] at hkt hke
        have HJ : Hid ((i : Int).tmod 6 = (k : Int) ∧ (i : Int) % 6 = (k : Int)) := ⟨hkt, hke⟩
        have Hes : Hid (es.length = 6) := by show es.length = 6; rw [HC.out.crs.len]; rfl
        clear hx HOc hkt hke
        go_wp2_with fail
        refine (pick_any x 6 _ (by decide) (by decide)).mono ?_
        rintro e U2 ⟨⟨j, hj6, rfl⟩, hU2⟩
        obtain rfl : U = U2 := hU2.symm
        clear cx
        obtain ⟨ek, hek⟩ : ∃ e, es[k]? = some e := ⟨_, List.getElem?_eq_getElem (by rw [Hes.out]; exact hk6)⟩
        obtain ⟨ej, hej⟩ : ∃ e, es[j]? = some e := ⟨_, List.getElem?_eq_getElem (by rw [Hes.out]; exact hj6)⟩
        obtain ⟨hkt, hke⟩ := HJ.out
        go_upto_region 8 with fail
        clear hkt hke HJ
        obtain ⟨hdj, vj, psj⟩ := ej
        obtain ⟨hdk, vk, psk⟩ := ek
        have fj := (HC.out.ps _ (List.mem_of_getElem? hej)).1.form
        have fk := (HC.out.ps _ (List.mem_of_getElem? hek)).1.form
        simp only at fj fk
        obtain ⟨xj, yj, rfl⟩ := fj
        obtain ⟨xk, yk, rfl⟩ := fk
        have HCd : Hid (Cr lim specL U.drew G es) := HC.out.keep (grown_drew _)
        obtain ⟨W2, hW2⟩ : ∃ W2, W2 = set9 U.drew G (j * 9) hdk (.slice xk psk.length yk) := ⟨_, rfl⟩
        obtain ⟨W3, hW3⟩ : ∃ W3, W3 = set9 W2 G (k * 9) hdj (.slice xj psj.length yj) := ⟨_, rfl⟩
        have HC3 : Hid (Cr lim specL W3 G ((es.set j ⟨hdk, .slice xk psk.length yk, psk⟩).set k ⟨hdj, .slice xj psj.length yj, psj⟩)) := by have h9 := Cr.swap HCd.out hej hek; simp only at h9; rw [← hW2, ← hW3] at h9; exact h9
        have g2 : U.drew.grownBy W2 (some G) := by rw [hW2]; exact grown_s9 U.drew G (j * 9) hdk (.slice xk psk.length yk)
        have g3 : W2.grownBy W3 (some G) := by rw [hW3]; exact grown_s9 W2 G (k * 9) hdj (.slice xj psj.length yj)
        have HG3 : Hid (w.grownBy W3 none) := grown_own (grown_own (grown_trans HG.out (grown_drew _)) g2 (fun x e => by cases e; exact HwG.out.1)) g3 (fun x e => by cases e; exact HwG.out.1)
        have HS3 : Hid (lim ≤ W3.heap.size) := Nat.le_trans HS.out (Nat.le_trans (grown_drew U).size (Nat.le_trans g2.size g3.size))
        clear g2 g3
        have HW2 : Hid (W2 = set9 U.drew G (j * 9) hdk (.slice xk psk.length yk)) := hW2
        have HW3 : Hid (W3 = set9 W2 G (k * 9) hdj (.slice xj psj.length yj)) := hW3
        have HT2 : Hid (W2.there G (k * 9) 9) := by rw [hW2]; exact HCd.out.there2 hej ⟨hdk, .slice xk psk.length yk, psk⟩ hek
        clear hW2 hW3
        have j0 : (0 : Int) ≤ (j : Int) := by omega
        have j1 : (j : Int) < 6 := by omega
        have k0 : (0 : Int) ≤ (k : Int) := by omega
        have k1 : (k : Int) < 6 := by omega
        refine wp_region_held_drew (S := fun _ => True) (by kernel_rfl) trivial (fun hHeld => ?_)
        refine wpAnyH_take (i := 0) (v := ?_) rfl (by kernel_rfl) (by kernel_rfl) (by kernel_rfl) (fun _ _ _ h => h) (Or.inl ⟨by rfl, ?_⟩) (by assumption) ?_
        rotate_left 1
        · (intro w0 hSw; go_simp; try with_reducible rfl)
        simp only [List.getElem_toArray, List.getElem_cons_zero]
        go_frame
        refine wpAnyH_take (i := 1) (v := ?_) rfl (by kernel_rfl) (by kernel_rfl) (by kernel_rfl) (fun _ _ _ h => h) (Or.inl ⟨by rfl, ?_⟩) (by assumption) ?_
        rotate_left 1
        · (intro w0 hSw; go_simp; try with_reducible rfl)
        simp only [List.getElem_toArray, List.getElem_cons_zero, List.getElem_cons_succ]
        go_frame
        refine wpAnyH_take (i := 2) (v := ?_) rfl (by kernel_rfl) (by kernel_rfl) (by kernel_rfl) (fun _ _ _ h => h) (Or.inl ⟨by rfl, ?_⟩) (by assumption) ?_
        rotate_left 1
        · (intro w0 hSw; go_simp; try with_reducible rfl)
        simp only [List.getElem_toArray, List.getElem_cons_zero, List.getElem_cons_succ]
        go_frame
        refine wpAnyH_take (i := 3) (v := ?_) rfl (by kernel_rfl) (by kernel_rfl) (by kernel_rfl) (fun _ _ _ h => h) (Or.inl ⟨by rfl, ?_⟩) (by assumption) ?_
        rotate_left 1
        · (intro w0 hSw; go_simp; try with_reducible rfl)
        simp only [List.getElem_toArray, List.getElem_cons_zero, List.getElem_cons_succ]
        go_frame
        refine wpAnyH_take (i := 4) (v := ?_) rfl (by kernel_rfl) (by kernel_rfl) (by kernel_rfl) (fun _ _ _ h => h) (Or.inl ⟨by rfl, ?_⟩) (by assumption) ?_
        rotate_left 1
        · (intro w0 hSw; go_simp; try with_reducible rfl)
        simp only [List.getElem_toArray, List.getElem_cons_zero, List.getElem_cons_succ]
        go_frame
        refine wpAnyH_take (i := 5) (v := ?_) rfl (by kernel_rfl) (by kernel_rfl) (by kernel_rfl) (fun _ _ _ h => h) (Or.inl ⟨by rfl, ?_⟩) (by assumption) ?_
        rotate_left 1
        · (intro w0 hSw; go_simp; try with_reducible rfl)
        simp only [List.getElem_toArray, List.getElem_cons_zero, List.getElem_cons_succ]
        go_frame
        refine wpAnyH_take (i := 6) (v := ?_) rfl (by kernel_rfl) (by kernel_rfl) (by kernel_rfl) (fun _ _ _ h => h) (Or.inl ⟨by rfl, ?_⟩) (by assumption) ?_
        rotate_left 1
        · (intro w0 hSw; go_simp; try with_reducible rfl)
        simp only [List.getElem_toArray, List.getElem_cons_zero, List.getElem_cons_succ]
        go_frame
        refine wpAnyH_take (i := 8) (v := ?_) rfl (by kernel_rfl) (by kernel_rfl) (by kernel_rfl) (fun _ _ _ h => h) (Or.inl ⟨by rfl, ?_⟩) (by assumption) ?_
        rotate_left 1
        · (intro w0 hSw; go_simp; try with_reducible rfl)
        simp only [List.getElem_toArray, List.getElem_cons_zero, List.getElem_cons_succ]
        go_frame
        refine wpAnyH_take (i := 9) (v := ?_) rfl (by kernel_rfl) (by kernel_rfl) (by kernel_rfl) (fun _ _ _ h => h) (Or.inl ⟨by rfl, ?_⟩) (by assumption) ?_
        rotate_left 1
        · (intro w0 hSw; go_simp; try with_reducible rfl)
        simp only [List.getElem_toArray, List.getElem_cons_zero, List.getElem_cons_succ]
        go_frame
        refine wpAnyH_take (i := 10) (v := ?_) rfl (by kernel_rfl) (by kernel_rfl) (by kernel_rfl) (fun _ _ _ h => h) (Or.inl ⟨by rfl, ?_⟩) (by assumption) ?_
        rotate_left 1
        · (intro w0 hSw; go_simp; try with_reducible rfl)
        simp only [List.getElem_toArray, List.getElem_cons_zero, List.getElem_cons_succ]
        go_frame
        refine wpAnyH_ready (rs := [7, 11]) (by kernel_rfl) (by simp) ?_
        refine AllReadyH.cons rfl (fun K hK => ?_) (AllReadyH.cons rfl (fun K hK => ?_) AllReadyH.nil)
        · simp only [List.getElem_toArray, List.getElem_cons_zero, List.getElem_cons_succ]
          rw [if_pos (by rfl)]
          refine wp_load_mid 47 (.tmp 48) rfl G (k * 9) rfl (cvs hdk (.slice xk psk.length yk)) _ (HCd.out.lies.range hek) Try.underlying47 rfl (by kernel_rfl) ?_
          refine hK.out _ _ trivial (fun _ => ?_)
          clear hK K
          go_frame
          refine wpAnyH_ready (rs := [11]) (by kernel_rfl) (by simp) ?_
          refine AllReadyH.cons rfl (fun K hK => ?_) AllReadyH.nil
          simp only [List.getElem_toArray, List.getElem_cons_zero, List.getElem_cons_succ]
          rw [if_pos (by rfl)]
          refine wp_load_mid 47 (.tmp 52) rfl G (j * 9) rfl (cvs hdj (.slice xj psj.length yj)) _ (HCd.out.lies.range hej) Try.underlying47 rfl (by kernel_rfl) ?_
          refine hK.out _ _ trivial (fun _ => ?_)
          clear hK K
          go_frame
          refine wpAnyH_take (i := 12) (v := ?_) rfl (by kernel_rfl) (by kernel_rfl) (by kernel_rfl) (fun _ _ _ h => h) (Or.inl ⟨by rfl, ?_⟩) (by assumption) ?_
          rotate_left 1
          · (intro w0 hSw; go_simp; try with_reducible rfl)
          simp only [List.getElem_toArray, List.getElem_cons_zero, List.getElem_cons_succ]
          go_frame
          refine wpAnyH_ready (rs := [13]) (by kernel_rfl) (by simp) ?_
          refine AllReadyH.cons rfl (fun K hK => ?_) AllReadyH.nil
          simp only [List.getElem_toArray, List.getElem_cons_zero, List.getElem_cons_succ]
          rw [if_pos (by rfl)]
          refine wp_store_mid 47 (.tmp 54) (.tmp 49) rfl G (j * 9) (cvs hdk (.slice xk psk.length yk)).toArray rfl rfl (HCd.out.lies.there hej) (by kernel_rfl) (cvs_one _ _) ?_
          rw [setCells_set9, ← HW2.out]
          refine hK.out _ _ trivial (fun _ => ?_)
          clear hK K
          go_frame
          refine wpAnyH_take (i := 14) (v := ?_) rfl (by kernel_rfl) (by kernel_rfl) (by kernel_rfl) (fun _ _ _ h => h) (Or.inl ⟨by rfl, ?_⟩) (by assumption) ?_
          rotate_left 1
          · (intro w0 hSw; go_simp; try with_reducible rfl)
          simp only [List.getElem_toArray, List.getElem_cons_zero, List.getElem_cons_succ]
          go_frame
          refine wpAnyH_ready (rs := [15]) (by kernel_rfl) (by simp) ?_
          refine AllReadyH.cons rfl (fun K hK => ?_) AllReadyH.nil
          simp only [List.getElem_toArray, List.getElem_cons_zero, List.getElem_cons_succ]
          rw [if_pos (by rfl)]
          refine wp_store_mid 47 (.tmp 55) (.tmp 53) rfl G (k * 9) (cvs hdj (.slice xj psj.length yj)).toArray rfl rfl HT2.out (by kernel_rfl) (cvs_one _ _) ?_
          rw [setCells_set9, ← HW3.out]
          refine hK.out _ _ trivial (fun _ => ?_)
          clear hK K
          go_frame
          refine wpAnyH_done (by kernel_rfl) ?_ _
          go_wp2_with fail
          go_roundw
          case rel => exact ⟨i + 1, _, h1, by first | rfl | (rw [hsm.wrap h1]; rfl), HC3.out, HG3.out, HS3.out⟩
          case measure => first | exact meas_next h1 | (rw [hsm.wrap h1]; exact meas_next h1)
        · simp only [List.getElem_toArray, List.getElem_cons_zero, List.getElem_cons_succ]
          rw [if_pos (by rfl)]
          refine wp_load_mid 47 (.tmp 52) rfl G (j * 9) rfl (cvs hdj (.slice xj psj.length yj)) _ (HCd.out.lies.range hej) Try.underlying47 rfl (by kernel_rfl) ?_
          refine hK.out _ _ trivial (fun _ => ?_)
          clear hK K
          go_frame
          refine wpAnyH_ready (rs := [7]) (by kernel_rfl) (by simp) ?_
          refine AllReadyH.cons rfl (fun K hK => ?_) AllReadyH.nil
          simp only [List.getElem_toArray, List.getElem_cons_zero, List.getElem_cons_succ]
          rw [if_pos (by rfl)]
          refine wp_load_mid 47 (.tmp 48) rfl G (k * 9) rfl (cvs hdk (.slice xk psk.length yk)) _ (HCd.out.lies.range hek) Try.underlying47 rfl (by kernel_rfl) ?_
          refine hK.out _ _ trivial (fun _ => ?_)
          clear hK K
          go_frame
          refine wpAnyH_take (i := 12) (v := ?_) rfl (by kernel_rfl) (by kernel_rfl) (by kernel_rfl) (fun _ _ _ h => h) (Or.inl ⟨by rfl, ?_⟩) (by assumption) ?_
          rotate_left 1
          · (intro w0 hSw; go_simp; try with_reducible rfl)
          simp only [List.getElem_toArray, List.getElem_cons_zero, List.getElem_cons_succ]
          go_frame
          refine wpAnyH_ready (rs := [13]) (by kernel_rfl) (by simp) ?_
          refine AllReadyH.cons rfl (fun K hK => ?_) AllReadyH.nil
          simp only [List.getElem_toArray, List.getElem_cons_zero, List.getElem_cons_succ]
          rw [if_pos (by rfl)]
          refine wp_store_mid 47 (.tmp 54) (.tmp 49) rfl G (j * 9) (cvs hdk (.slice xk psk.length yk)).toArray rfl rfl (HCd.out.lies.there hej) (by kernel_rfl) (cvs_one _ _) ?_
          rw [setCells_set9, ← HW2.out]
          refine hK.out _ _ trivial (fun _ => ?_)
          clear hK K
          go_frame
          refine wpAnyH_take (i := 14) (v := ?_) rfl (by kernel_rfl) (by kernel_rfl) (by kernel_rfl) (fun _ _ _ h => h) (Or.inl ⟨by rfl, ?_⟩) (by assumption) ?_
          rotate_left 1
          · (intro w0 hSw; go_simp; try with_reducible rfl)
          simp only [List.getElem_toArray, List.getElem_cons_zero, List.getElem_cons_succ]
          go_frame
          refine wpAnyH_ready (rs := [15]) (by kernel_rfl) (by simp) ?_
          refine AllReadyH.cons rfl (fun K hK => ?_) AllReadyH.nil
          simp only [List.getElem_toArray, List.getElem_cons_zero, List.getElem_cons_succ]
          rw [if_pos (by rfl)]
          refine wp_store_mid 47 (.tmp 55) (.tmp 53) rfl G (k * 9) (cvs hdj (.slice xj psj.length yj)).toArray rfl rfl HT2.out (by kernel_rfl) (cvs_one _ _) ?_
          rw [setCells_set9, ← HW3.out]
          refine hK.out _ _ trivial (fun _ => ?_)
          clear hK K
          go_frame
          refine wpAnyH_done (by kernel_rfl) ?_ _
          go_wp2_with fail
          go_roundw
          case rel => exact ⟨i + 1, _, h1, by first | rfl | (rw [hsm.wrap h1]; rfl), HC3.out, HG3.out, HS3.out⟩
          case measure => first | exact meas_next h1 | (rw [hsm.wrap h1]; exact meas_next h1)
      · have h1' : ¬ (i : Int) < (os.length : Int) := by omega
        clear h1
        go_wp2_with fail
        go_meet
        case rel => exact ⟨es, HC.out, HG.out, HS.out⟩
  case rest =>
    obtain ⟨es, C, Gr, Sz⟩ := hcut
    obtain ⟨V, hV⟩ : ∃ V, V = wc := ⟨_, rfl⟩
    subst hV
    have HGv : Hid (w.grownBy V none) := Gr
    obtain ⟨b, hb⟩ : ∃ b, b = V.heap.size := ⟨_, rfl⟩
    have Gb : G < b := by rw [hb]; exact Nat.lt_of_lt_of_le HwG.out.2 Sz
    have wb : w.heap.size ≤ b := by rw [hb]; exact Gr.size
    have HCv : Hid (Cr b specL V G es) := by rw [hb]; exact C.up Sz
    have HL : Hid (es.length = 6) := by show es.length = 6; rw [C.crs.len]; rfl
    obtain ⟨ok, hok⟩ : ∃ ok : Nat → Prop, ok = fun k => b < k := ⟨_, rfl⟩
    have nb : ¬ ok b := by rw [hok]; exact Nat.lt_irrefl _
    have nw : ∀ W : World, b < W.heap.size → ∀ k, W.heap.size ≤ k → ok k := fun W h k hk => by rw [hok]; exact Nat.lt_of_lt_of_le h hk
    clear C Gr Sz HC1 HG1 hok HO HwG Hlim hsm hbig
    go_wp2_with fail
    refine (bnew ok V).mono ?_
    rintro e V1 ⟨rfl, B1, g1, s1⟩
    rw [← hb] at B1 ⊢
    have HB1 : Hid (Book ok V1 b [] plNew) := B1
    have HC1 : Hid (Cr b specL V1 G es) := HCv.out.keep g1
    have HG1 : Hid (w.grownBy V1 none) := grown_trans HGv.out g1
    have sm6 : Small 6 := by unfold Small; decide
    clear B1 g1 s1 hb HCv HGv
    go_upto_block 2 with fail
    go_cut [8] from 57 to 85 (fun _ wc => ∃ fs, Book ok wc b fs plNew ∧ sameEs fs rowF = true ∧ w.grownBy wc none)
    case first =>
      go_wp2_with fail
      go_loopw [8] (fun x8 wr => ∃ (k : Nat) (l : List Nat) (fs : List Ent), k ≤ 6 ∧ x8 = .int .i64 (k : Int) ∧ (∀ i, i ∈ l ↔ i < k) ∧ Inv es [] [] l fs plNew ∧ Book ok wr b fs plNew ∧ Cr b specL wr G es ∧ w.grownBy wr none) (fun x8 _ => 6 - (intOf x8).toNat)
      case atStart => exact ⟨0, [], [], Nat.zero_le _, rfl, fun i => by simp, Inv.nil _ _ _, HB1.out, HC1.out, HG1.out⟩
      case round =>
        clear HB1 HC1 HG1
        obtain ⟨k, l, fs, hk, rfl, hl, I, B, C, Gr⟩ := hrel
        obtain ⟨U, hU⟩ : ∃ U, U = wr := ⟨_, rfl⟩
        subst hU
        have HI : Hid (Inv es [] [] l fs plNew) := I
        have HB : Hid (Book ok U b fs plNew) := B
        have HC : Hid (Cr b specL U G es) := C
        have HG : Hid (w.grownBy U none) := Gr
        have Hl : Hid (∀ i, i ∈ l ↔ i < k) := hl
        clear I B C Gr hl
        rcases (show k < 6 ∨ k = 6 from by omega) with hk6 | hk6
        · have k0 : (0 : Int) ≤ (k : Int) := by omega
          have k6 : (k : Int) < 6 := by omega
          obtain ⟨e0, he0⟩ : ∃ e, es[k]? = some e := ⟨_, List.getElem?_eq_getElem (by rw [HL.out]; exact hk6)⟩
          have mem0 := List.mem_of_getElem? he0
          have HT := crs_takes okF HC.out.crs HI.out rfl he0 (fun h => absurd ((Hl.out k).1 h) (Nat.lt_irrefl _))
          have HCk := HC.out.crs.chk okF mem0
          have Hsu : e0.h.su = 6 := spec_su _ (HC.out.crs.mem mem0)
          have Hps : e0.ps.length ≤ 4 := okF.four _ (HC.out.crs.mem mem0)
          have HP := (HC.out.ps e0 mem0).1
          have HD := HC.out.lies.row he0
          have HIn : Hid (∀ u, Inv es [] [] (k :: l) (ins fs ⟨e0.h, u, e0.ps⟩) plNew) := fun u => HI.out.card u (fun h => absurd ((Hl.out k).1 h) (Nat.lt_irrefl _)) he0
          have Hl2 : Hid (∀ i, i ∈ k :: l ↔ i < k + 1) := fun i => by rw [List.mem_cons, Hl.out i]; omega
          have HPs : Hid (PsAt U e0.v e0.ps) := HP
          have hsmp : Small e0.ps.length := by unfold Small; omega
          clear he0 mem0 HI Hl Hps
          obtain ⟨⟨nm, su, kd, co, po, he, tr, tk⟩, vv, ps⟩ := e0
          simp only at Hsu HD HPs HP HIn hsmp HT HCk
          subst Hsu
          obtain ⟨xx, yy, rfl⟩ := HP.form
          clear HP
          have HK1 := ccheck_any ⟨nm, 6, kd, co, po, he, tr, tk⟩ _ ps U HPs.out hsmp
          rw [show cchk (Hd.with ⟨nm, 6, kd, co, po, he, tr, tk⟩ ps) = 0 from HCk] at HK1
          unfold cv at HK1
          obtain ⟨z0, z1, z2, z3, z4, z5, z6, z7, z8⟩ := HD
          go_wp2_with fail
          refine HK1.mono ?_
          rintro e U2 ⟨rfl, g2⟩
          have HC2 := HC.out.keep g2
          have y0 := g2.cell z0 (by simp)
          have y1 := g2.cell z1 (by simp)
          have y2 := g2.cell z2 (by simp)
          have y3 := g2.cell z3 (by simp)
          have y4 := g2.cell z4 (by simp)
          have y5 := g2.cell z5 (by simp)
          have y6 := g2.cell z6 (by simp)
          have y7 := g2.cell z7 (by simp)
          have y8 := g2.cell z8 (by simp)
          have HB2 := HB.out.keep g2
          have HK2 := bcard ok b fs plNew ⟨nm, 6, kd, co, po, he, tr, tk⟩ _ ps U2 HB2 nb (nw _ HB2.lt) (HPs.out.keep g2) hsmp
          rw [show caE plNew fs (Hd.with ⟨nm, 6, kd, co, po, he, tr, tk⟩ ps) = 0 from HT] at HK2
          unfold cv at HK2
          clear z0 z1 z2 z3 z4 z5 z6 z7 z8 HK1 HB2
          go_wp2_with fail
          refine HK2.mono ?_
          rintro e U3 ⟨u, rfl, B3, g3⟩
          (first | rw [if_pos rfl] at B3 | rw [if_pos trivial] at B3)
          have HB3 : Hid (Book ok U3 b (ins fs ⟨⟨nm, 6, kd, co, po, he, tr, tk⟩, u, ps⟩) plNew) := B3
          have HC3 : Hid (Cr b specL U3 G es) := HC2.keepR g3 (fun e => by injection e with e; omega) (fun x hx e => by injection e with e; omega)
          have HG3 : Hid (w.grownBy U3 none) := grown_own (grown_trans HG.out g2) g3 (fun x e => by cases e; exact wb)
          clear B3 HC2 g2 g3 y0 y1 y2 y3 y4 y5 y6 y7 y8 HK2
          go_wp2_with fail
          go_roundw
          case rel => exact ⟨k + 1, k :: l, _, hk6, by first | rfl | (rw [sm6.wrap hk6]; rfl), Hl2.out, HIn.out u, HB3.out, HC3.out, HG3.out⟩
          case measure => first | exact meas_next hk6 | (rw [sm6.wrap hk6]; exact meas_next hk6)
        · have HSm : Hid (sameEs fs rowF = true) := crs_same okF HC.out.crs HI.out (fun i hi => (Hl.out i).2 (by rw [hk6]; exact hi)) HB.out.srt
          have k6 : ¬ (k : Int) < 6 := by omega
          clear hk6 HI Hl
          go_wp2_with fail
          go_meet
          case rel => exact ⟨fs, HB.out, HSm.out, HG.out⟩
    case rest =>
      obtain ⟨fs, B, Sm, Gr⟩ := hcut
      obtain ⟨V2, hV2⟩ : ∃ V2, V2 = wc := ⟨_, rfl⟩
      subst hV2
      have HB2 : Hid (Book ok V2 b fs plNew) := B
      have HG2 : Hid (w.grownBy V2 none) := Gr
      have HSm : Hid (sameEs fs rowF = true) := Sm
      clear B Gr Sm HB1 HC1 HG1
      obtain ⟨T, hT⟩ : ∃ T, T = V2.heap.size := ⟨_, rfl⟩
      have Tb : b < T := by rw [hT]; exact HB2.out.lt
      go_wp2_with fail
      refine (traits_gd V2).mono ?_
      rintro e V3 ⟨rfl, h3⟩
      have HT3 : Hid (V3.heap[T]? = some (.cells tCells 52 (0, 0))) := by rw [h3, hT]; exact alloc_at _ _ _
      have g3 : V2.grownBy V3 none := by rw [h3]; exact World.grownBy_alloc _ _ none
      have HB3 : Hid (Book ok V3 b fs plNew) := HB2.out.keep g3
      have HG3 : Hid (w.grownBy V3 none) := grown_trans HG2.out g3
      rw [← hT]
      clear h3 g3 hT HB2 HG2
      go_upto_block 4 with fail
      go_cut [10, 88] from 89 to 96 (fun _ _ wc => Book ok wc b fs pT ∧ w.grownBy wc none)
      case first =>
        go_wp2_with fail
        go_loopw [88] (fun x wr => ((x = .int .i64 0 ∧ Book ok wr b fs plNew) ∨ (x = .int .i64 1 ∧ Book ok wr b fs pT)) ∧ wr.heap[T]? = some (.cells tCells 52 (0, 0)) ∧ w.grownBy wr none) (fun x _ => 1 - (intOf x).toNat)
        case atStart => exact ⟨Or.inl ⟨rfl, HB3.out⟩, HT3.out, HG3.out⟩
        case round =>
          clear HB3 HT3 HG3
          obtain ⟨hc, ht, Gr⟩ := hrel
          obtain ⟨U, hU⟩ : ∃ U, U = wr := ⟨_, rfl⟩
          subst hU
          have HT : Hid (U.heap[T]? = some (.cells tCells 52 (0, 0))) := ht
          have HG : Hid (w.grownBy U none) := Gr
          clear ht Gr
          rcases hc with ⟨rfl, B⟩ | ⟨rfl, B⟩
          · have HB : Hid (Book ok U b fs plNew) := B
            clear B
            have HK := btrait ok b fs plNew 7 fixB U HB.out nb
            rw [tr_zero, trP_one] at HK
            unfold fixB at HK
            have c0 : U.cell? ⟨T, 0, none⟩ = some (.int .u8 7) := block_cell HT.out 0
            go_wp2_with fail
            refine HK.mono ?_
            rintro e U2 ⟨rfl, B2, g2⟩
            have HB2 : Hid (Book ok U2 b fs pT) := B2
            have HT2 : Hid (U2.heap[T]? = some (.cells tCells 52 (0, 0))) := grown_keep g2 HT.out (fun e => by injection e with e; omega)
            have HG2 : Hid (w.grownBy U2 none) := grown_own HG.out g2 (fun x e => by cases e; exact wb)
            clear c0 HK B2 g2 HT HG HB
            go_wp2_with fail
            go_roundw
            case rel => exact ⟨Or.inr ⟨rfl, HB2.out⟩, HT2.out, HG2.out⟩
            case measure => decide
          · have HB : Hid (Book ok U b fs pT) := B
            clear B
            go_wp2_with fail
            go_meet
            case rel => exact ⟨HB.out, HG.out⟩
      case rest =>
        obtain ⟨B, Gr⟩ := hcut
        obtain ⟨V4, hV4⟩ : ∃ V4, V4 = wc := ⟨_, rfl⟩
        subst hV4
        have HB4 : Hid (Book ok V4 b fs pT) := B
        have HG4 : Hid (w.grownBy V4 none) := Gr
        clear B Gr HB3 HT3 HG3 Tb
        obtain ⟨M, hM⟩ : ∃ M, M = V4.heap.size := ⟨_, rfl⟩
        have Mb : b < M := by rw [hM]; exact HB4.out.lt
        go_wp2_with fail
        refine (marks_gd V4).mono ?_
        rintro e V5 ⟨rfl, h5⟩
        have HM5 : Hid (V5.heap[M]? = some (.cells mCells 56 (0, 0))) := by rw [h5, hM]; exact alloc_at _ _ _
        have g5 : V4.grownBy V5 none := by rw [h5]; exact World.grownBy_alloc _ _ none
        have HB5 : Hid (Book ok V5 b fs pT) := HB4.out.keep g5
        have HG5 : Hid (w.grownBy V5 none) := grown_trans HG4.out g5
        rw [← hM]
        clear h5 g5 hM HB4 HG4
        go_upto_block 6 with fail
        go_cut [12, 99] from 100 to 107 (fun _ _ wc => Book ok wc b fs pM ∧ w.grownBy wc none)
        case first =>
          go_wp2_with fail
          go_loopw [12, 99] (fun _ x wr => ((x = .int .i64 0 ∧ Book ok wr b fs pT) ∨ (x = .int .i64 1 ∧ Book ok wr b fs pM)) ∧ wr.heap[M]? = some (.cells mCells 56 (0, 0)) ∧ w.grownBy wr none) (fun _ x _ => 1 - (intOf x).toNat)
          case atStart => exact ⟨Or.inl ⟨rfl, HB5.out⟩, HM5.out, HG5.out⟩
          case round =>
            clear HB5 HM5 HG5
            obtain ⟨hc, hm, Gr⟩ := hrel
            obtain ⟨U, hU⟩ : ∃ U, U = wr := ⟨_, rfl⟩
            subst hU
            have HM : Hid (U.heap[M]? = some (.cells mCells 56 (0, 0))) := hm
            have HG : Hid (w.grownBy U none) := Gr
            clear hm Gr
            rcases hc with ⟨rfl, B⟩ | ⟨rfl, B⟩
            · have HB : Hid (Book ok U b fs pT) := B
              clear B
              obtain ⟨X, hX⟩ : ∃ X, X = U.alloc (.cells #[.int .u8 1, .string ⟨#[117, 112]⟩, .int .i64 1, .int .i64 1] 56) := ⟨_, rfl⟩
              have gX : U.grownBy X none := by rw [hX]; exact World.grownBy_alloc _ _ none
              have bX : X.heap[U.heap.size]? = some (.cells #[.int .u8 1, .string ⟨#[117, 112]⟩, .int .i64 1, .int .i64 1] 56 (0, 0)) := by rw [hX]; exact alloc_at _ _ _
              have HK := bmark ok b fs pT upM X (HB.out.keep gX) nb
              rw [ma_zero, maP_one] at HK
              unfold mv upM at HK
              have m0 : U.cell? ⟨M, 0, none⟩ = some (.int .u8 1) := block_cell HM.out 0
              have m1 : U.cell? ⟨M, 1, none⟩ = some (.string ⟨#[117, 112]⟩) := block_cell HM.out 1
              have m2 : U.cell? ⟨M, 2, none⟩ = some (.int .i64 1) := block_cell HM.out 2
              have m3 : U.cell? ⟨M, 3, none⟩ = some (.int .i64 1) := block_cell HM.out 3
              have x0 : X.cell? ⟨U.heap.size, 0, none⟩ = some (.int .u8 1) := block_cell bX 0
              have x1 : X.cell? ⟨U.heap.size, 1, none⟩ = some (.string ⟨#[117, 112]⟩) := block_cell bX 1
              have x2 : X.cell? ⟨U.heap.size, 2, none⟩ = some (.int .i64 1) := block_cell bX 2
              have x3 : X.cell? ⟨U.heap.size, 3, none⟩ = some (.int .i64 1) := block_cell bX 3
              have HgX : Hid (U.grownBy X none) := gX
              have HX : Hid (X = _) := hX
              clear hX gX bX
              go_upto_region 24 with fail
              rw [← HX.out]
              go_wp2_with fail
              refine HK.mono ?_
              rintro e U2 ⟨rfl, B2, g2⟩
              have HB2 : Hid (Book ok U2 b fs pM) := B2
              have HM2 : Hid (U2.heap[M]? = some (.cells mCells 56 (0, 0))) := grown_keep g2 (grown_keep HgX.out HM.out (by simp)) (fun e => by injection e with e; omega)
              have HG2 : Hid (w.grownBy U2 none) := grown_own (grown_trans HG.out HgX.out) g2 (fun x e => by cases e; exact wb)
              clear m0 m1 m2 m3 x0 x1 x2 x3 HK B2 g2 HX HgX HM HG HB
              go_wp2_with fail
              go_roundw
              case rel => exact ⟨Or.inr ⟨rfl, HB2.out⟩, HM2.out, HG2.out⟩
              case measure => decide
            · have HB : Hid (Book ok U b fs pM) := B
              clear B
              go_wp2_with fail
              go_meet
              case rel => exact ⟨HB.out, HG.out⟩
        case rest =>
          obtain ⟨B, Gr⟩ := hcut
          obtain ⟨V6, hV6⟩ : ∃ V6, V6 = wc := ⟨_, rfl⟩
          subst hV6
          have HB6 : Hid (Book ok V6 b fs pM) := B
          have HG6 : Hid (w.grownBy V6 none) := Gr
          clear B Gr HB5 HM5 HG5 Mb
          have hs : sealE pM fs = 0 := (sealE_of HSm.out rfl).trans seal_F
          have HK := bseal ok b fs pM V6 HB6.out nb
          rw [hs, sealP_F hs] at HK
          clear hs HB6
          go_wp2_with fail
          refine HK.mono ?_
          rintro e V8 ⟨rfl, B8, g8⟩
          have HB8 : Hid (Book ok V8 b fs pS) := B8
          have HG8 : Hid (w.grownBy V8 none) := grown_own HG6.out g8 (fun x e => by cases e; exact wb)
          clear B8 g8 HK HG6
          go_wp2_with fail
          refine (number_gd V8).mono ?_
          rintro e V81 ⟨rfl, g81⟩
          go_wp2_with fail
          refine (number_fr V81).mono ?_
          rintro e V82 ⟨rfl, g82⟩
          go_wp2_with fail
          refine (number_vo V82).mono ?_
          rintro e V9 ⟨rfl, g83⟩
          have g9 : V8.grownBy V9 none := grown_trans g81 (grown_trans g82 g83)
          clear g81 g82 g83
          obtain ⟨N, hN⟩ : ∃ N, N = V9.heap.size := ⟨_, rfl⟩
          obtain ⟨V10, h10⟩ : ∃ V10, V10 = V9.alloc (.cells nCells 9) := ⟨_, rfl⟩
          have g10 : V9.grownBy V10 none := by rw [h10]; exact World.grownBy_alloc _ _ none
          have HN10 : Hid (V10.heap[N]? = some (.cells nCells 9 (0, 0))) := by rw [h10, hN]; exact alloc_at _ _ _
          have HB10 : Hid (Book ok V10 b fs pS) := (HB8.out.keep g9).keep g10
          have HG10 : Hid (w.grownBy V10 none) := grown_trans HG8.out (grown_trans g9 g10)
          unfold nCells at h10
          have H10 : Hid (V10 = _) := h10
          have HN : Hid (N = V9.heap.size) := hN
          clear h10 g10 g9 hN HB8 HG8
          go_upto_block 8 with fail
          rw [← H10.out, ← HN.out]
          clear H10 HN
          have HNm : Hid (names fs = names rowF) := sameEs_names HSm.out
          clear HSm
          go_wp2_with fail
          go_loopw [14, 15, 16] (fun x17 _ _ wr => ∃ k : Nat, k ≤ 6 ∧ x17 = .int .i64 (k : Int) ∧ Book ok wr b fs pS ∧ wr.heap[N]? = some (.cells nCells 9 (0, 0)) ∧ w.grownBy wr none) (fun x17 _ _ _ => 6 - (intOf x17).toNat)
          case atStart => exact ⟨0, Nat.zero_le _, rfl, HB10.out, HN10.out, HG10.out⟩
          case round =>
            clear HB10 HN10 HG10
            obtain ⟨k, hk, rfl, B, hn, Gr⟩ := hrel
            obtain ⟨U, hU⟩ : ∃ U, U = wr := ⟨_, rfl⟩
            subst hU
            have HB : Hid (Book ok U b fs pS) := B
            have HN : Hid (U.heap[N]? = some (.cells nCells 9 (0, 0))) := hn
            have HG : Hid (w.grownBy U none) := Gr
            clear B hn Gr
            rcases (show k = 0 ∨ k = 1 ∨ k = 2 ∨ k = 3 ∨ k = 4 ∨ k = 5 ∨ k = 6 from by omega) with rfl | rfl | rfl | rfl | rfl | rfl | rfl
            · rw [show ((0 : Nat) : Int) = (0 : Int) from rfl]
              have c0 : U.cell? ⟨N, 0, none⟩ = some (.string ⟨#[99, 111, 105, 110]⟩) := block_cell HN.out 0
              have HK := find_yes b fs pS ⟨#[99, 111, 105, 110]⟩ U HB.out.lies HB.out.good.slc
              rw [HNm.out, show pS.shut = true from rfl, pos_0, (fnd_yes (q := 0) (by decide)).1, (fnd_yes (q := 0) (by decide)).2, show (0 : Int) + 1 = 1 from rfl] at HK
              go_wp2_with fail
              refine HK.mono ?_
              rintro e U2 ⟨rfl, g2⟩
              have HG2 : Hid (U.grownBy U2 none) := g2
              clear c0 HK g2
              go_wp2_with fail
              go_roundw
              case rel => exact ⟨1, by decide, rfl, HB.out.keep HG2.out, grown_keep HG2.out HN.out (by simp), grown_trans HG.out HG2.out⟩
              case measure => decide
            · rw [show ((1 : Nat) : Int) = (1 : Int) from rfl]
              have c0 : U.cell? ⟨N, 1, none⟩ = some (.string ⟨#[105, 100, 111, 108]⟩) := block_cell HN.out 1
              have HK := find_yes b fs pS ⟨#[105, 100, 111, 108]⟩ U HB.out.lies HB.out.good.slc
              rw [HNm.out, show pS.shut = true from rfl, pos_1, (fnd_yes (q := 1) (by decide)).1, (fnd_yes (q := 1) (by decide)).2, show (1 : Int) + 1 = 2 from rfl] at HK
              go_wp2_with fail
              refine HK.mono ?_
              rintro e U2 ⟨rfl, g2⟩
              have HG2 : Hid (U.grownBy U2 none) := g2
              clear c0 HK g2
              go_wp2_with fail
              go_roundw
              case rel => exact ⟨2, by decide, rfl, HB.out.keep HG2.out, grown_keep HG2.out HN.out (by simp), grown_trans HG.out HG2.out⟩
              case measure => decide
            · rw [show ((2 : Nat) : Int) = (2 : Int) from rfl]
              have c0 : U.cell? ⟨N, 2, none⟩ = some (.string ⟨#[109, 105, 100, 97, 115]⟩) := block_cell HN.out 2
              have HK := find_yes b fs pS ⟨#[109, 105, 100, 97, 115]⟩ U HB.out.lies HB.out.good.slc
              rw [HNm.out, show pS.shut = true from rfl, pos_2, (fnd_yes (q := 2) (by decide)).1, (fnd_yes (q := 2) (by decide)).2, show (2 : Int) + 1 = 3 from rfl] at HK
              go_wp2_with fail
              refine HK.mono ?_
              rintro e U2 ⟨rfl, g2⟩
              have HG2 : Hid (U.grownBy U2 none) := g2
              clear c0 HK g2
              go_wp2_with fail
              go_roundw
              case rel => exact ⟨3, by decide, rfl, HB.out.keep HG2.out, grown_keep HG2.out HN.out (by simp), grown_trans HG.out HG2.out⟩
              case measure => decide
            · rw [show ((3 : Nat) : Int) = (3 : Int) from rfl]
              have c0 : U.cell? ⟨N, 3, none⟩ = some (.string ⟨#[115, 116, 97, 116, 117, 101]⟩) := block_cell HN.out 3
              have HK := find_yes b fs pS ⟨#[115, 116, 97, 116, 117, 101]⟩ U HB.out.lies HB.out.good.slc
              rw [HNm.out, show pS.shut = true from rfl, pos_3, (fnd_yes (q := 3) (by decide)).1, (fnd_yes (q := 3) (by decide)).2, show (3 : Int) + 1 = 4 from rfl] at HK
              go_wp2_with fail
              refine HK.mono ?_
              rintro e U2 ⟨rfl, g2⟩
              have HG2 : Hid (U.grownBy U2 none) := g2
              clear c0 HK g2
              go_wp2_with fail
              go_roundw
              case rel => exact ⟨4, by decide, rfl, HB.out.keep HG2.out, grown_keep HG2.out HN.out (by simp), grown_trans HG.out HG2.out⟩
              case measure => decide
            · rw [show ((4 : Nat) : Int) = (4 : Int) from rfl]
              have c0 : U.cell? ⟨N, 4, none⟩ = some (.string ⟨#[116, 97, 120, 45, 109, 97, 110]⟩) := block_cell HN.out 4
              have HK := find_yes b fs pS ⟨#[116, 97, 120, 45, 109, 97, 110]⟩ U HB.out.lies HB.out.good.slc
              rw [HNm.out, show pS.shut = true from rfl, pos_4, (fnd_yes (q := 4) (by decide)).1, (fnd_yes (q := 4) (by decide)).2, show (4 : Int) + 1 = 5 from rfl] at HK
              go_wp2_with fail
              refine HK.mono ?_
              rintro e U2 ⟨rfl, g2⟩
              have HG2 : Hid (U.grownBy U2 none) := g2
              clear c0 HK g2
              go_wp2_with fail
              go_roundw
              case rel => exact ⟨5, by decide, rfl, HB.out.keep HG2.out, grown_keep HG2.out HN.out (by simp), grown_trans HG.out HG2.out⟩
              case measure => decide
            · rw [show ((5 : Nat) : Int) = (5 : Int) from rfl]
              have c0 : U.cell? ⟨N, 5, none⟩ = some (.string ⟨#[116, 114, 101, 97, 115, 117, 114, 101]⟩) := block_cell HN.out 5
              have HK := find_yes b fs pS ⟨#[116, 114, 101, 97, 115, 117, 114, 101]⟩ U HB.out.lies HB.out.good.slc
              rw [HNm.out, show pS.shut = true from rfl, pos_5, (fnd_yes (q := 5) (by decide)).1, (fnd_yes (q := 5) (by decide)).2, show (5 : Int) + 1 = 6 from rfl] at HK
              go_wp2_with fail
              refine HK.mono ?_
              rintro e U2 ⟨rfl, g2⟩
              have HG2 : Hid (U.grownBy U2 none) := g2
              clear c0 HK g2
              go_wp2_with fail
              go_roundw
              case rel => exact ⟨6, by decide, rfl, HB.out.keep HG2.out, grown_keep HG2.out HN.out (by simp), grown_trans HG.out HG2.out⟩
              case measure => decide
            · rw [show ((6 : Nat) : Int) = (6 : Int) from rfl]
              go_wp2
              go_ret
              exact ⟨rfl, HG.out⟩
end Go.Proofs.Ytpoicbefemjckaa
