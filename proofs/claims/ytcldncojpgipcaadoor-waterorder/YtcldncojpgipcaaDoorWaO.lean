/-
  WaterOrder, walked.
-/
import Derived.Test.YtcldncojpgipcaaDoorWaP
import Derived.Test.YtcldncojpgipcaaDoorDName
namespace Go.Proofs.YtcldncojpgipcaaDoor
open Go.RowKit

set_option maxRecDepth 100000 in
set_option maxHeartbeats 8000000 in
theorem order_wa (v : Value) (os : List Int) (w : World) (O : IntsIn w v os) (N : NamesAt w) : Calls Tryd.prog 3 #[v] w fun e w' => e = .returned (.bool true) ∧ w.grownBy w' none := by
  have HNa : Hid (NamesAt w) := N
  obtain ⟨oa, oc, rfl, HO0⟩ := O
  have HO : Hid (0 < os.length → ∃ g o, oa = some ⟨g, o, none⟩ ∧ ∀ (j : Nat) x, os[j]? = some x → w.cell? ⟨g, o + j, none⟩ = some (.int .i64 x)) := HO0
  clear HO0 N
  go_enter Tryd.func3, Tryd.ntmps3
  go_wp2_with fail
  refine (list_wa w).mono ?_
  rintro e W1 ⟨g0, es0, rfl, A⟩
  have HC1 : Hid (Cr W1.heap.size specL W1 g0 es0) := A.cr
  have HG1 : Hid (w.grownBy W1 none) := A.gr
  have HwG : Hid (w.heap.size ≤ g0 ∧ g0 < W1.heap.size) := ⟨A.low, A.top⟩
  obtain ⟨G, hG⟩ : ∃ G, G = g0 := ⟨_, rfl⟩
  rw [← hG] at HC1 HwG ⊢
  clear A hG
  obtain ⟨lim, hlim⟩ : ∃ lim, lim = W1.heap.size := ⟨_, rfl⟩
  rw [← hlim] at HC1 HwG
  have Hlim : Hid (lim ≤ W1.heap.size) := by rw [hlim]; exact Nat.le_refl _
  clear hlim
  go_upto_block 0 with fail
  go_cut [4, 5, 6] from 17 to 56 (fun _ _ _ wc => ∃ es, Cr lim specL wc G es ∧ w.grownBy wc none ∧ lim ≤ wc.heap.size)
  case first =>
    go_wp2_with fail
    go_loopw [4] (fun x4 wr => ∃ (i : Nat) (es : List Ent), i ≤ 60 ∧ x4 = .int .i64 (i : Int) ∧ Cr lim specL wr G es ∧ w.grownBy wr none ∧ lim ≤ wr.heap.size) (fun x4 _ => 60 - (intOf x4).toNat)
    case atStart => exact ⟨0, es0, Nat.zero_le _, rfl, HC1.out, HG1.out, Hlim.out⟩
    case round =>
      clear HC1 HG1 Hlim
      obtain ⟨i, es, hi, rfl, C, Gr, Sz⟩ := hrel
      obtain ⟨U, hU⟩ : ∃ U, U = wr := ⟨_, rfl⟩
      subst hU
      have HC : Hid (Cr lim specL U G es) := C
      have HG : Hid (w.grownBy U none) := Gr
      have HS : Hid (lim ≤ U.heap.size) := Sz
      clear C Gr Sz
      by_cases hb : i < os.length ∧ i < 60
      · obtain ⟨h1, h2⟩ := hb
        have h1' : (i : Int) < (os.length : Int) := by omega
        have h2' : (i : Int) < 60 := by omega
        have i0 : (0 : Int) ≤ (i : Int) := by omega
        obtain ⟨g, o, rfl, HOc⟩ := HO.out (by omega)
        obtain ⟨x, hx⟩ : ∃ x, os[i]? = some x := ⟨_, List.getElem?_eq_getElem h1⟩
        have cx := HG.out.cell (HOc i x hx) (by simp)
        obtain ⟨j, hj6, hjt, hje⟩ := mod_n 6 (by decide) i
        rw [show ((6 : Nat) : Int) = (6 : Int) from rfl] at hjt hje
        have HJ : Hid ((i : Int).tmod 6 = (j : Int) ∧ (i : Int) % 6 = (j : Int)) := ⟨hjt, hje⟩
        have Hes : Hid (es.length = 6) := by show es.length = 6; rw [HC.out.crs.len]; rfl
        clear hx HOc hjt hje
        go_wp2_with fail
        refine (pick_any x 6 _ (by decide) (by decide)).mono ?_
        rintro e U2 ⟨⟨k, hk6, rfl⟩, hU2⟩
        obtain rfl : U = U2 := hU2.symm
        clear cx
        obtain ⟨ek, hek⟩ : ∃ e, es[k]? = some e := ⟨_, List.getElem?_eq_getElem (by rw [Hes.out]; exact hk6)⟩
        obtain ⟨ej, hej⟩ : ∃ e, es[j]? = some e := ⟨_, List.getElem?_eq_getElem (by rw [Hes.out]; exact hj6)⟩
        obtain ⟨hjt, hje⟩ := HJ.out
        go_upto_region 7 with fail
        clear hjt hje HJ
        obtain ⟨hdj, vj, psj⟩ := ej
        obtain ⟨hdk, vk, psk⟩ := ek
        have fj := (HC.out.ps _ (List.mem_of_getElem? hej)).1.form
        have fk := (HC.out.ps _ (List.mem_of_getElem? hek)).1.form
        simp only at fj fk
        obtain ⟨xj, yj, rfl⟩ := fj
        obtain ⟨xk, yk, rfl⟩ := fk
        have HCd : Hid (Cr lim specL U.drew G es) := HC.out.keep (grown_drew _)
        have hsm : Small 60 := by unfold Small; decide
        obtain ⟨W2, hW2⟩ : ∃ W2, W2 = set9 U.drew G (j * 9) hdk (.slice xk psk.length yk) := ⟨_, rfl⟩
        obtain ⟨W3, hW3⟩ : ∃ W3, W3 = set9 W2 G (k * 9) hdj (.slice xj psj.length yj) := ⟨_, rfl⟩
        have HC3 : Hid (Cr lim specL W3 G ((es.set j ⟨hdk, .slice xk psk.length yk, psk⟩).set k ⟨hdj, .slice xj psj.length yj, psj⟩)) := by have h9 := Cr.swap HCd.out hej hek; simp only at h9; rw [← hW2, ← hW3] at h9; exact h9
        have g2 : U.drew.grownBy W2 (some G) := by rw [hW2]; exact grown_s9 U.drew G (j * 9) hdk (.slice xk psk.length yk)
        have g3 : W2.grownBy W3 (some G) := by rw [hW3]; exact grown_s9 W2 G (k * 9) hdj (.slice xj psj.length yj)
        have HG3 : Hid (w.grownBy W3 none) := grown_own (grown_own (grown_trans HG.out (grown_drew _)) g2 (fun x e => by cases e; exact HwG.out.1)) g3 (fun x e => by cases e; exact HwG.out.1)
        have HS3 : Hid (lim ≤ W3.heap.size) := Nat.le_trans HS.out (Nat.le_trans (grown_drew U).size (Nat.le_trans g2.size g3.size))
        clear g2 g3
        have HW2 : Hid (W2 = set9 U.drew G (j * 9) hdk (.slice xk psk.length yk)) := hW2
        have HW3 : Hid (W3 = set9 W2 G (k * 9) hdj (.slice xj psj.length yj)) := hW3
        have HT2 : Hid (W2.there G (k * 9) 9) := by rw [hW2]; exact HCd.out.there2 hej ⟨hdk, .slice xk psk.length yk, psk⟩ hek
        clear hW2 hW3
        have j0 : (0 : Int) ≤ (j : Int) := by omega
        have j1 : (j : Int) < 6 := by omega
        have k0 : (0 : Int) ≤ (k : Int) := by omega
        have k1 : (k : Int) < 6 := by omega
        refine wp_region_held_drew (S := fun _ => True) (by kernel_rfl) trivial (fun hHeld => ?_)
        refine wpAnyH_take (i := 0) (v := ?_) rfl (by kernel_rfl) (by kernel_rfl) (by kernel_rfl) (fun _ _ _ h => h) (Or.inl ⟨by rfl, ?_⟩) (by assumption) ?_
        rotate_left 1
        · (intro w0 hSw; go_simp; try with_reducible rfl)
        simp only [List.getElem_toArray, List.getElem_cons_zero]
        go_frame
        refine wpAnyH_take (i := 1) (v := ?_) rfl (by kernel_rfl) (by kernel_rfl) (by kernel_rfl) (fun _ _ _ h => h) (Or.inl ⟨by rfl, ?_⟩) (by assumption) ?_
        rotate_left 1
        · (intro w0 hSw; go_simp; try with_reducible rfl)
        simp only [List.getElem_toArray, List.getElem_cons_zero, List.getElem_cons_succ]
        go_frame
        refine wpAnyH_take (i := 2) (v := ?_) rfl (by kernel_rfl) (by kernel_rfl) (by kernel_rfl) (fun _ _ _ h => h) (Or.inl ⟨by rfl, ?_⟩) (by assumption) ?_
        rotate_left 1
        · (intro w0 hSw; go_simp; try with_reducible rfl)
        simp only [List.getElem_toArray, List.getElem_cons_zero, List.getElem_cons_succ]
        go_frame
        refine wpAnyH_take (i := 3) (v := ?_) rfl (by kernel_rfl) (by kernel_rfl) (by kernel_rfl) (fun _ _ _ h => h) (Or.inl ⟨by rfl, ?_⟩) (by assumption) ?_
        rotate_left 1
        · (intro w0 hSw; go_simp; try with_reducible rfl)
        simp only [List.getElem_toArray, List.getElem_cons_zero, List.getElem_cons_succ]
        go_frame
        refine wpAnyH_take (i := 4) (v := ?_) rfl (by kernel_rfl) (by kernel_rfl) (by kernel_rfl) (fun _ _ _ h => h) (Or.inl ⟨by rfl, ?_⟩) (by assumption) ?_
        rotate_left 1
        · (intro w0 hSw; go_simp; try with_reducible rfl)
        simp only [List.getElem_toArray, List.getElem_cons_zero, List.getElem_cons_succ]
        go_frame
        refine wpAnyH_take (i := 5) (v := ?_) rfl (by kernel_rfl) (by kernel_rfl) (by kernel_rfl) (fun _ _ _ h => h) (Or.inl ⟨by rfl, ?_⟩) (by assumption) ?_
        rotate_left 1
        · (intro w0 hSw; go_simp; try with_reducible rfl)
        simp only [List.getElem_toArray, List.getElem_cons_zero, List.getElem_cons_succ]
        go_frame
        refine wpAnyH_take (i := 6) (v := ?_) rfl (by kernel_rfl) (by kernel_rfl) (by kernel_rfl) (fun _ _ _ h => h) (Or.inl ⟨by rfl, ?_⟩) (by assumption) ?_
        rotate_left 1
        · (intro w0 hSw; go_simp; try with_reducible rfl)
        simp only [List.getElem_toArray, List.getElem_cons_zero, List.getElem_cons_succ]
        go_frame
        refine wpAnyH_take (i := 8) (v := ?_) rfl (by kernel_rfl) (by kernel_rfl) (by kernel_rfl) (fun _ _ _ h => h) (Or.inl ⟨by rfl, ?_⟩) (by assumption) ?_
        rotate_left 1
        · (intro w0 hSw; go_simp; try with_reducible rfl)
        simp only [List.getElem_toArray, List.getElem_cons_zero, List.getElem_cons_succ]
        go_frame
        refine wpAnyH_take (i := 9) (v := ?_) rfl (by kernel_rfl) (by kernel_rfl) (by kernel_rfl) (fun _ _ _ h => h) (Or.inl ⟨by rfl, ?_⟩) (by assumption) ?_
        rotate_left 1
        · (intro w0 hSw; go_simp; try with_reducible rfl)
        simp only [List.getElem_toArray, List.getElem_cons_zero, List.getElem_cons_succ]
        go_frame
        refine wpAnyH_take (i := 10) (v := ?_) rfl (by kernel_rfl) (by kernel_rfl) (by kernel_rfl) (fun _ _ _ h => h) (Or.inl ⟨by rfl, ?_⟩) (by assumption) ?_
        rotate_left 1
        · (intro w0 hSw; go_simp; try with_reducible rfl)
        simp only [List.getElem_toArray, List.getElem_cons_zero, List.getElem_cons_succ]
        go_frame
        refine wpAnyH_ready (rs := [7, 11]) (by kernel_rfl) (by simp) ?_
        refine AllReadyH.cons rfl (fun K hK => ?_) (AllReadyH.cons rfl (fun K hK => ?_) AllReadyH.nil)
        · simp only [List.getElem_toArray, List.getElem_cons_zero, List.getElem_cons_succ]
          rw [if_pos (by rfl)]
          refine wp_load_mid 32 (.tmp 49) rfl G (k * 9) rfl (cvs hdk (.slice xk psk.length yk)) _ (HCd.out.lies.range hek) Tryd.underlying32 rfl (by kernel_rfl) ?_
          refine hK.out _ _ trivial (fun _ => ?_)
          clear hK K
          go_frame
          refine wpAnyH_ready (rs := [11]) (by kernel_rfl) (by simp) ?_
          refine AllReadyH.cons rfl (fun K hK => ?_) AllReadyH.nil
          simp only [List.getElem_toArray, List.getElem_cons_zero, List.getElem_cons_succ]
          rw [if_pos (by rfl)]
          refine wp_load_mid 32 (.tmp 53) rfl G (j * 9) rfl (cvs hdj (.slice xj psj.length yj)) _ (HCd.out.lies.range hej) Tryd.underlying32 rfl (by kernel_rfl) ?_
          refine hK.out _ _ trivial (fun _ => ?_)
          clear hK K
          go_frame
          refine wpAnyH_take (i := 12) (v := ?_) rfl (by kernel_rfl) (by kernel_rfl) (by kernel_rfl) (fun _ _ _ h => h) (Or.inl ⟨by rfl, ?_⟩) (by assumption) ?_
          rotate_left 1
          · (intro w0 hSw; go_simp; try with_reducible rfl)
          simp only [List.getElem_toArray, List.getElem_cons_zero, List.getElem_cons_succ]
          go_frame
          refine wpAnyH_ready (rs := [13]) (by kernel_rfl) (by simp) ?_
          refine AllReadyH.cons rfl (fun K hK => ?_) AllReadyH.nil
          simp only [List.getElem_toArray, List.getElem_cons_zero, List.getElem_cons_succ]
          rw [if_pos (by rfl)]
          refine wp_store_mid 32 (.tmp 55) (.tmp 50) rfl G (j * 9) (cvs hdk (.slice xk psk.length yk)).toArray rfl rfl (HCd.out.lies.there hej) (by kernel_rfl) (cvs_one _ _) ?_
          rw [setCells_set9, ← HW2.out]
          refine hK.out _ _ trivial (fun _ => ?_)
          clear hK K
          go_frame
          refine wpAnyH_take (i := 14) (v := ?_) rfl (by kernel_rfl) (by kernel_rfl) (by kernel_rfl) (fun _ _ _ h => h) (Or.inl ⟨by rfl, ?_⟩) (by assumption) ?_
          rotate_left 1
          · (intro w0 hSw; go_simp; try with_reducible rfl)
          simp only [List.getElem_toArray, List.getElem_cons_zero, List.getElem_cons_succ]
          go_frame
          refine wpAnyH_ready (rs := [15]) (by kernel_rfl) (by simp) ?_
          refine AllReadyH.cons rfl (fun K hK => ?_) AllReadyH.nil
          simp only [List.getElem_toArray, List.getElem_cons_zero, List.getElem_cons_succ]
          rw [if_pos (by rfl)]
          refine wp_store_mid 32 (.tmp 56) (.tmp 54) rfl G (k * 9) (cvs hdj (.slice xj psj.length yj)).toArray rfl rfl HT2.out (by kernel_rfl) (cvs_one _ _) ?_
          rw [setCells_set9, ← HW3.out]
          refine hK.out _ _ trivial (fun _ => ?_)
          clear hK K
          go_frame
          refine wpAnyH_done (by kernel_rfl) ?_ _
          go_wp2_with fail
          go_roundw
          case rel => exact ⟨i + 1, _, h2, by first | rfl | (rw [hsm.wrap h2]; rfl), HC3.out, HG3.out, HS3.out⟩
          case measure => first | exact meas_next h2 | (rw [hsm.wrap h2]; exact meas_next h2)
        · simp only [List.getElem_toArray, List.getElem_cons_zero, List.getElem_cons_succ]
          rw [if_pos (by rfl)]
          refine wp_load_mid 32 (.tmp 53) rfl G (j * 9) rfl (cvs hdj (.slice xj psj.length yj)) _ (HCd.out.lies.range hej) Tryd.underlying32 rfl (by kernel_rfl) ?_
          refine hK.out _ _ trivial (fun _ => ?_)
          clear hK K
          go_frame
          refine wpAnyH_ready (rs := [7]) (by kernel_rfl) (by simp) ?_
          refine AllReadyH.cons rfl (fun K hK => ?_) AllReadyH.nil
          simp only [List.getElem_toArray, List.getElem_cons_zero, List.getElem_cons_succ]
          rw [if_pos (by rfl)]
          refine wp_load_mid 32 (.tmp 49) rfl G (k * 9) rfl (cvs hdk (.slice xk psk.length yk)) _ (HCd.out.lies.range hek) Tryd.underlying32 rfl (by kernel_rfl) ?_
          refine hK.out _ _ trivial (fun _ => ?_)
          clear hK K
          go_frame
          refine wpAnyH_take (i := 12) (v := ?_) rfl (by kernel_rfl) (by kernel_rfl) (by kernel_rfl) (fun _ _ _ h => h) (Or.inl ⟨by rfl, ?_⟩) (by assumption) ?_
          rotate_left 1
          · (intro w0 hSw; go_simp; try with_reducible rfl)
          simp only [List.getElem_toArray, List.getElem_cons_zero, List.getElem_cons_succ]
          go_frame
          refine wpAnyH_ready (rs := [13]) (by kernel_rfl) (by simp) ?_
          refine AllReadyH.cons rfl (fun K hK => ?_) AllReadyH.nil
          simp only [List.getElem_toArray, List.getElem_cons_zero, List.getElem_cons_succ]
          rw [if_pos (by rfl)]
          refine wp_store_mid 32 (.tmp 55) (.tmp 50) rfl G (j * 9) (cvs hdk (.slice xk psk.length yk)).toArray rfl rfl (HCd.out.lies.there hej) (by kernel_rfl) (cvs_one _ _) ?_
          rw [setCells_set9, ← HW2.out]
          refine hK.out _ _ trivial (fun _ => ?_)
          clear hK K
          go_frame
          refine wpAnyH_take (i := 14) (v := ?_) rfl (by kernel_rfl) (by kernel_rfl) (by kernel_rfl) (fun _ _ _ h => h) (Or.inl ⟨by rfl, ?_⟩) (by assumption) ?_
          rotate_left 1
          · (intro w0 hSw; go_simp; try with_reducible rfl)
          simp only [List.getElem_toArray, List.getElem_cons_zero, List.getElem_cons_succ]
          go_frame
          refine wpAnyH_ready (rs := [15]) (by kernel_rfl) (by simp) ?_
          refine AllReadyH.cons rfl (fun K hK => ?_) AllReadyH.nil
          simp only [List.getElem_toArray, List.getElem_cons_zero, List.getElem_cons_succ]
          rw [if_pos (by rfl)]
          refine wp_store_mid 32 (.tmp 56) (.tmp 54) rfl G (k * 9) (cvs hdj (.slice xj psj.length yj)).toArray rfl rfl HT2.out (by kernel_rfl) (cvs_one _ _) ?_
          rw [setCells_set9, ← HW3.out]
          refine hK.out _ _ trivial (fun _ => ?_)
          clear hK K
          go_frame
          refine wpAnyH_done (by kernel_rfl) ?_ _
          go_wp2_with fail
          go_roundw
          case rel => exact ⟨i + 1, _, h2, by first | rfl | (rw [hsm.wrap h2]; rfl), HC3.out, HG3.out, HS3.out⟩
          case measure => first | exact meas_next h2 | (rw [hsm.wrap h2]; exact meas_next h2)
      · rcases (show os.length ≤ i ∨ (i < os.length ∧ 60 ≤ i) from by omega) with h1 | ⟨h1, h2⟩
        · have h1' : ¬ (i : Int) < (os.length : Int) := by omega
          clear hb
          go_wp2_with fail
          go_meet
          case rel => exact ⟨es, HC.out, HG.out, HS.out⟩
        · have h1' : (i : Int) < (os.length : Int) := by omega
          have h2' : ¬ (i : Int) < 60 := by omega
          clear hb
          go_wp2_with fail
          go_meet
          case rel => exact ⟨es, HC.out, HG.out, HS.out⟩
  case rest =>
    obtain ⟨es, C, Gr, Sz⟩ := hcut
    obtain ⟨V, hV⟩ : ∃ V, V = wc := ⟨_, rfl⟩
    subst hV
    have HGv : Hid (w.grownBy V none) := Gr
    obtain ⟨b, hb⟩ : ∃ b, b = V.heap.size := ⟨_, rfl⟩
    have Gb : G < b := by rw [hb]; exact Nat.lt_of_lt_of_le HwG.out.2 Sz
    have wb : w.heap.size ≤ b := by rw [hb]; exact Gr.size
    have HCv : Hid (Cr b specL V G es) := by rw [hb]; exact C.up Sz
    have HL : Hid (es.length = 6) := by show es.length = 6; rw [C.crs.len]; rfl
    obtain ⟨ok, hok⟩ : ∃ ok : Nat → Prop, ok = fun k => b < k := ⟨_, rfl⟩
    have nb : ¬ ok b := by rw [hok]; exact Nat.lt_irrefl _
    have nw : ∀ W : World, b < W.heap.size → ∀ k, W.heap.size ≤ k → ok k := fun W h k hk => by rw [hok]; exact Nat.lt_of_lt_of_le h hk
    clear C Gr Sz HC1 HG1 hok HO HwG Hlim
    go_wp2_with fail
    refine (bnew ok V).mono ?_
    rintro e V1 ⟨rfl, B1, g1, s1⟩
    rw [← hb] at B1 ⊢
    have HB1 : Hid (Book ok V1 b [] plNew) := B1
    have HC1 : Hid (Cr b specL V1 G es) := HCv.out.keep g1
    have HG1 : Hid (w.grownBy V1 none) := grown_trans HGv.out g1
    have sm6 : Small 6 := by unfold Small; decide
    clear B1 g1 s1 hb HCv HGv
    go_upto_block 2 with fail
    go_cut [8] from 58 to 86 (fun _ wc => ∃ fs, Book ok wc b fs plNew ∧ sameEs fs rowF = true ∧ w.grownBy wc none)
    case first =>
      go_wp2_with fail
      go_loopw [8] (fun x8 wr => ∃ (k : Nat) (l : List Nat) (fs : List Ent), k ≤ 6 ∧ x8 = .int .i64 (k : Int) ∧ (∀ i, i ∈ l ↔ i < k) ∧ Inv es [] [] l fs plNew ∧ Book ok wr b fs plNew ∧ Cr b specL wr G es ∧ w.grownBy wr none) (fun x8 _ => 6 - (intOf x8).toNat)
      case atStart => exact ⟨0, [], [], Nat.zero_le _, rfl, fun i => by simp, Inv.nil _ _ _, HB1.out, HC1.out, HG1.out⟩
      case round =>
        clear HB1 HC1 HG1
        obtain ⟨k, l, fs, hk, rfl, hl, I, B, C, Gr⟩ := hrel
        obtain ⟨U, hU⟩ : ∃ U, U = wr := ⟨_, rfl⟩
        subst hU
        have HI : Hid (Inv es [] [] l fs plNew) := I
        have HB : Hid (Book ok U b fs plNew) := B
        have HC : Hid (Cr b specL U G es) := C
        have HG : Hid (w.grownBy U none) := Gr
        have Hl : Hid (∀ i, i ∈ l ↔ i < k) := hl
        clear I B C Gr hl
        rcases (show k < 6 ∨ k = 6 from by omega) with hk6 | hk6
        · have k0 : (0 : Int) ≤ (k : Int) := by omega
          have k6 : (k : Int) < 6 := by omega
          obtain ⟨e0, he0⟩ : ∃ e, es[k]? = some e := ⟨_, List.getElem?_eq_getElem (by rw [HL.out]; exact hk6)⟩
          have mem0 := List.mem_of_getElem? he0
          have HT := crs_takes okF HC.out.crs HI.out rfl he0 (fun h => absurd ((Hl.out k).1 h) (Nat.lt_irrefl _))
          have HCk := HC.out.crs.chk okF mem0
          have Hsu : e0.h.su = 4 := spec_su _ (HC.out.crs.mem mem0)
          have Hps : e0.ps.length ≤ 4 := okF.four _ (HC.out.crs.mem mem0)
          have HP := (HC.out.ps e0 mem0).1
          have HD := HC.out.lies.row he0
          have HIn : Hid (∀ u, Inv es [] [] (k :: l) (ins fs ⟨e0.h, u, e0.ps⟩) plNew) := fun u => HI.out.card u (fun h => absurd ((Hl.out k).1 h) (Nat.lt_irrefl _)) he0
          have Hl2 : Hid (∀ i, i ∈ k :: l ↔ i < k + 1) := fun i => by rw [List.mem_cons, Hl.out i]; omega
          have HPs : Hid (PsAt U e0.v e0.ps) := HP
          have hsmp : Small e0.ps.length := by unfold Small; omega
          clear he0 mem0 HI Hl Hps
          obtain ⟨⟨nm, su, kd, co, po, he, tr, tk⟩, vv, ps⟩ := e0
          simp only at Hsu HD HPs HP HIn hsmp HT HCk
          subst Hsu
          obtain ⟨xx, yy, rfl⟩ := HP.form
          clear HP
          have HK1 := ccheck_any ⟨nm, 4, kd, co, po, he, tr, tk⟩ _ ps U HPs.out hsmp
          rw [show cchk (Hd.with ⟨nm, 4, kd, co, po, he, tr, tk⟩ ps) = 0 from HCk] at HK1
          unfold cv at HK1
          obtain ⟨z0, z1, z2, z3, z4, z5, z6, z7, z8⟩ := HD
          go_wp2_with fail
          refine HK1.mono ?_
          rintro e U2 ⟨rfl, g2⟩
          have HC2 := HC.out.keep g2
          have y0 := g2.cell z0 (by simp)
          have y1 := g2.cell z1 (by simp)
          have y2 := g2.cell z2 (by simp)
          have y3 := g2.cell z3 (by simp)
          have y4 := g2.cell z4 (by simp)
          have y5 := g2.cell z5 (by simp)
          have y6 := g2.cell z6 (by simp)
          have y7 := g2.cell z7 (by simp)
          have y8 := g2.cell z8 (by simp)
          have HB2 := HB.out.keep g2
          have HK2 := bcard ok b fs plNew ⟨nm, 4, kd, co, po, he, tr, tk⟩ _ ps U2 HB2 nb (nw _ HB2.lt) (HPs.out.keep g2) hsmp
          rw [show caE plNew fs (Hd.with ⟨nm, 4, kd, co, po, he, tr, tk⟩ ps) = 0 from HT] at HK2
          unfold cv at HK2
          clear z0 z1 z2 z3 z4 z5 z6 z7 z8 HK1 HB2
          go_wp2_with fail
          refine HK2.mono ?_
          rintro e U3 ⟨u, rfl, B3, g3⟩
          (first | rw [if_pos rfl] at B3 | rw [if_pos trivial] at B3)
          have HB3 : Hid (Book ok U3 b (ins fs ⟨⟨nm, 4, kd, co, po, he, tr, tk⟩, u, ps⟩) plNew) := B3
          have HC3 : Hid (Cr b specL U3 G es) := HC2.keepR g3 (fun e => by injection e with e; omega) (fun x hx e => by injection e with e; omega)
          have HG3 : Hid (w.grownBy U3 none) := grown_own (grown_trans HG.out g2) g3 (fun x e => by cases e; exact wb)
          clear B3 HC2 g2 g3 y0 y1 y2 y3 y4 y5 y6 y7 y8 HK2
          go_wp2_with fail
          go_roundw
          case rel => exact ⟨k + 1, k :: l, _, hk6, by first | rfl | (rw [sm6.wrap hk6]; rfl), Hl2.out, HIn.out u, HB3.out, HC3.out, HG3.out⟩
          case measure => first | exact meas_next hk6 | (rw [sm6.wrap hk6]; exact meas_next hk6)
        · have HSm : Hid (sameEs fs rowF = true) := crs_same okF HC.out.crs HI.out (fun i hi => (Hl.out i).2 (by rw [hk6]; exact hi)) HB.out.srt
          have k6 : ¬ (k : Int) < 6 := by omega
          clear hk6 HI Hl
          go_wp2_with fail
          go_meet
          case rel => exact ⟨fs, HB.out, HSm.out, HG.out⟩
    case rest =>
      obtain ⟨fs, B, Sm, Gr⟩ := hcut
      obtain ⟨V2, hV2⟩ : ∃ V2, V2 = wc := ⟨_, rfl⟩
      subst hV2
      have HB2 : Hid (Book ok V2 b fs plNew) := B
      have HG2 : Hid (w.grownBy V2 none) := Gr
      have HSm : Hid (sameEs fs rowF = true) := Sm
      clear B Gr Sm HB1 HC1 HG1
      obtain ⟨T, hT⟩ : ∃ T, T = V2.heap.size := ⟨_, rfl⟩
      have Tb : ¬ T = b := by rw [hT]; have := HB2.out.lt; omega
      go_wp2_with fail
      refine (traits_wa V2).mono ?_
      rintro e V3 ⟨rfl, h3⟩
      have HT3 : Hid (V3.heap[T]? = some (.cells tCells 40 (0, 0))) := by rw [h3, hT]; exact alloc_at _ _ _
      have g3 : V2.grownBy V3 none := by rw [h3]; exact World.grownBy_alloc _ _ none
      have HB3 : Hid (Book ok V3 b fs plNew) := HB2.out.keep g3
      have HG3 : Hid (w.grownBy V3 none) := grown_trans HG2.out g3
      rw [← hT]
      clear h3 g3 hT HB2 HG2
      go_upto_block 4 with fail
      go_cut [10] from 91 to 106 (fun _ wc => Book ok wc b fs pT2 ∧ w.grownBy wc none)
      case first =>
        go_wp2_with fail
        go_loopw [10] (fun x10 wr => ((x10 = .int .i64 1 ∧ Book ok wr b fs plNew) ∨ (x10 = .int .i64 0 ∧ Book ok wr b fs pT1) ∨ (x10 = .int .i64 (-1) ∧ Book ok wr b fs pT2)) ∧ wr.heap[T]? = some (.cells tCells 40 (0, 0)) ∧ w.grownBy wr none) (fun x10 _ => (intOf x10 + 1).toNat)
        case atStart => exact ⟨Or.inl ⟨rfl, HB3.out⟩, HT3.out, HG3.out⟩
        case round =>
          clear HB3 HT3 HG3
          obtain ⟨hc, A, Gr⟩ := hrel
          obtain ⟨U2, hU2⟩ : ∃ U2, U2 = wr := ⟨_, rfl⟩
          subst hU2
          have HA2 : Hid (U2.heap[T]? = some (.cells tCells 40 (0, 0))) := A
          have HG2 : Hid (w.grownBy U2 none) := Gr
          clear A Gr
          rcases hc with ⟨rfl, B⟩ | ⟨rfl, B⟩ | ⟨rfl, B⟩
          · have HB2 : Hid (Book ok U2 b fs plNew) := B
            clear B
            have c0 : U2.cell? ⟨T, 1, none⟩ = some (.int .u8 5) := block_cell HA2.out 1
            have H0 : U2.grownBy U2.drew (some b) := grown_drew' _ _
            have HNm := tname_any 5 (by decide) U2.drew (HNa.out.keep (grown_trans HG2.out (grown_drew _)))
            have HTr := btrait ok b fs plNew 5 (tName 5) U2.drew (HB2.out.keep (grown_drew _)) nb
            rw [show trE plNew 5 (tName 5) = 0 from tr_one, show trP plNew 5 (tName 5) = pT1 from trP_one] at HTr
            go_upto_region 18 with fail
            refine wp_region_held_drew (S := fun w' => U2.grownBy w' (some b)) (by kernel_rfl) H0 (fun hHeld => ?_)
            refine wpAnyH_take (i := 0) (v := ?_) rfl (by kernel_rfl) (by kernel_rfl) (by kernel_rfl) (fun _ _ _ h => h) (Or.inl ⟨by rfl, ?_⟩) (by assumption) ?_
            rotate_left 1
            · (intro w0 hSw; go_simp; try with_reducible rfl)
            simp only [List.getElem_toArray, List.getElem_cons_zero]
            go_frame
            refine wpAnyH_take (i := 1) (v := ?_) rfl (by kernel_rfl) (by kernel_rfl) (by kernel_rfl) (fun _ _ _ h => h) (Or.inl ⟨by rfl, ?_⟩) (by assumption) ?_
            rotate_left 1
            · (intro w0 hSw; go_simp; try with_reducible rfl)
            simp only [List.getElem_toArray, List.getElem_cons_zero, List.getElem_cons_succ]
            go_frame
            refine wpAnyH_take (i := 2) (v := ?_) rfl (by kernel_rfl) (by kernel_rfl) (by kernel_rfl) (fun _ _ _ h => h) (Or.inl ⟨by rfl, ?_⟩) (by assumption) ?_
            rotate_left 1
            · (intro w0 hSw; go_simp; try with_reducible rfl)
            simp only [List.getElem_toArray, List.getElem_cons_zero, List.getElem_cons_succ]
            go_frame
            refine wpAnyH_take (i := 3) (v := ?_) rfl (by kernel_rfl) (by kernel_rfl) (by kernel_rfl) (fun _ _ _ h => h) (Or.inl ⟨by rfl, ?_⟩) (by assumption) ?_
            rotate_left 1
            · (intro w0 hSw; go_simp; try with_reducible rfl)
            simp only [List.getElem_toArray, List.getElem_cons_zero, List.getElem_cons_succ]
            go_frame
            refine wpAnyH_take (i := 4) (v := ?_) rfl (by kernel_rfl) (by kernel_rfl) (by kernel_rfl) (fun _ _ _ h => h) (Or.inl ⟨by rfl, ?_⟩) (by assumption) ?_
            rotate_left 1
            · (intro w0 hSw; have a9 := World.grownBy.cell hSw c0 (by simpa using Tb); go_simp; try with_reducible rfl)
            simp only [List.getElem_toArray, List.getElem_cons_zero, List.getElem_cons_succ]
            go_frame
            refine wpAnyH_take (i := 5) (v := ?_) rfl (by kernel_rfl) (by kernel_rfl) (by kernel_rfl) (fun _ _ _ h => h) (Or.inl ⟨by rfl, ?_⟩) (by assumption) ?_
            rotate_left 1
            · (intro w0 hSw; go_simp; try with_reducible rfl)
            simp only [List.getElem_toArray, List.getElem_cons_zero, List.getElem_cons_succ]
            go_frame
            refine wpAnyH_take (i := 6) (v := ?_) rfl (by kernel_rfl) (by kernel_rfl) (by kernel_rfl) (fun _ _ _ h => h) (Or.inl ⟨by rfl, ?_⟩) (by assumption) ?_
            rotate_left 1
            · (intro w0 hSw; go_simp; try with_reducible rfl)
            simp only [List.getElem_toArray, List.getElem_cons_zero, List.getElem_cons_succ]
            go_frame
            refine wpAnyH_take (i := 7) (v := ?_) rfl (by kernel_rfl) (by kernel_rfl) (by kernel_rfl) (fun _ _ _ h => h) (Or.inl ⟨by rfl, ?_⟩) (by assumption) ?_
            rotate_left 1
            · (intro w0 hSw; go_simp; try with_reducible rfl)
            simp only [List.getElem_toArray, List.getElem_cons_zero, List.getElem_cons_succ]
            go_frame
            refine wpAnyH_take (i := 8) (v := ?_) rfl (by kernel_rfl) (by kernel_rfl) (by kernel_rfl) (fun _ _ _ h => h) (Or.inl ⟨by rfl, ?_⟩) (by assumption) ?_
            rotate_left 1
            · (intro w0 hSw; have a9 := World.grownBy.cell hSw c0 (by simpa using Tb); go_simp; try with_reducible rfl)
            simp only [List.getElem_toArray, List.getElem_cons_zero, List.getElem_cons_succ]
            go_frame
            refine wpAnyH_ready (rs := [9]) (by kernel_rfl) (by simp) ?_
            refine AllReadyH.cons rfl (fun K hK => ?_) AllReadyH.nil
            simp only [List.getElem_toArray, List.getElem_cons_zero, List.getElem_cons_succ]
            go_simp
            go_at_call 11
            refine (HNm).mono ?_
            rintro e U3 ⟨rfl, h3⟩
            subst h3
            refine hK.out _ _ (hHeld) (fun hHeld2 => ?_)
            clear hK K
            (try go_frame)
            clear hHeld2
            refine wpAnyH_ready (rs := [10]) (by kernel_rfl) (by simp) ?_
            refine AllReadyH.cons rfl (fun K hK => ?_) AllReadyH.nil
            simp only [List.getElem_toArray, List.getElem_cons_zero, List.getElem_cons_succ]
            go_simp
            go_at_call 10
            refine (HTr).mono ?_
            rintro e U4 ⟨rfl, B4, g4⟩
            refine hK.out _ _ (grown_own' (grown_drew _) g4) (fun hHeld2 => ?_)
            clear hK K
            (try go_frame)
            refine wpAnyH_take (i := 11) (v := ?_) rfl (by kernel_rfl) (by kernel_rfl) (by kernel_rfl) (fun _ _ _ h => h) (Or.inl ⟨by rfl, ?_⟩) (by assumption) ?_
            rotate_left 1
            · (intro w0 hSw; go_simp; try with_reducible rfl)
            simp only [List.getElem_toArray, List.getElem_cons_zero, List.getElem_cons_succ]
            go_frame
            refine wpAnyH_done (by kernel_rfl) ?_ _
            have HB4 : Hid (Book ok U4 b fs pT1) := B4
            have HA4 : Hid (U4.heap[T]? = some (.cells tCells 40 (0, 0))) := grown_keep g4 (show U2.drew.heap[T]? = _ from HA2.out) (by simpa using Tb)
            have HG4 : Hid (w.grownBy U4 none) := grown_own (grown_trans HG2.out (grown_drew _)) g4 (fun x e => by cases e; exact wb)
            clear B4 g4 hHeld hHeld2 H0 HTr HNm c0 HA2 HB2 HG2
            go_wp2_with fail
            go_roundw
            case rel => exact ⟨Or.inr (Or.inl ⟨rfl, HB4.out⟩), HA4.out, HG4.out⟩
            case measure => decide
          · have HB2 : Hid (Book ok U2 b fs pT1) := B
            clear B
            have c0 : U2.cell? ⟨T, 0, none⟩ = some (.int .u8 4) := block_cell HA2.out 0
            have H0 : U2.grownBy U2.drew (some b) := grown_drew' _ _
            have HNm := tname_any 4 (by decide) U2.drew (HNa.out.keep (grown_trans HG2.out (grown_drew _)))
            have HTr := btrait ok b fs pT1 4 (tName 4) U2.drew (HB2.out.keep (grown_drew _)) nb
            rw [show trE pT1 4 (tName 4) = 0 from tr_two, show trP pT1 4 (tName 4) = pT2 from trP_two] at HTr
            go_upto_region 18 with fail
            refine wp_region_held_drew (S := fun w' => U2.grownBy w' (some b)) (by kernel_rfl) H0 (fun hHeld => ?_)
            refine wpAnyH_take (i := 0) (v := ?_) rfl (by kernel_rfl) (by kernel_rfl) (by kernel_rfl) (fun _ _ _ h => h) (Or.inl ⟨by rfl, ?_⟩) (by assumption) ?_
            rotate_left 1
            · (intro w0 hSw; go_simp; try with_reducible rfl)
            simp only [List.getElem_toArray, List.getElem_cons_zero]
            go_frame
            refine wpAnyH_take (i := 1) (v := ?_) rfl (by kernel_rfl) (by kernel_rfl) (by kernel_rfl) (fun _ _ _ h => h) (Or.inl ⟨by rfl, ?_⟩) (by assumption) ?_
            rotate_left 1
            · (intro w0 hSw; go_simp; try with_reducible rfl)
            simp only [List.getElem_toArray, List.getElem_cons_zero, List.getElem_cons_succ]
            go_frame
            refine wpAnyH_take (i := 2) (v := ?_) rfl (by kernel_rfl) (by kernel_rfl) (by kernel_rfl) (fun _ _ _ h => h) (Or.inl ⟨by rfl, ?_⟩) (by assumption) ?_
            rotate_left 1
            · (intro w0 hSw; go_simp; try with_reducible rfl)
            simp only [List.getElem_toArray, List.getElem_cons_zero, List.getElem_cons_succ]
            go_frame
            refine wpAnyH_take (i := 3) (v := ?_) rfl (by kernel_rfl) (by kernel_rfl) (by kernel_rfl) (fun _ _ _ h => h) (Or.inl ⟨by rfl, ?_⟩) (by assumption) ?_
            rotate_left 1
            · (intro w0 hSw; go_simp; try with_reducible rfl)
            simp only [List.getElem_toArray, List.getElem_cons_zero, List.getElem_cons_succ]
            go_frame
            refine wpAnyH_take (i := 4) (v := ?_) rfl (by kernel_rfl) (by kernel_rfl) (by kernel_rfl) (fun _ _ _ h => h) (Or.inl ⟨by rfl, ?_⟩) (by assumption) ?_
            rotate_left 1
            · (intro w0 hSw; have a9 := World.grownBy.cell hSw c0 (by simpa using Tb); go_simp; try with_reducible rfl)
            simp only [List.getElem_toArray, List.getElem_cons_zero, List.getElem_cons_succ]
            go_frame
            refine wpAnyH_take (i := 5) (v := ?_) rfl (by kernel_rfl) (by kernel_rfl) (by kernel_rfl) (fun _ _ _ h => h) (Or.inl ⟨by rfl, ?_⟩) (by assumption) ?_
            rotate_left 1
            · (intro w0 hSw; go_simp; try with_reducible rfl)
            simp only [List.getElem_toArray, List.getElem_cons_zero, List.getElem_cons_succ]
            go_frame
            refine wpAnyH_take (i := 6) (v := ?_) rfl (by kernel_rfl) (by kernel_rfl) (by kernel_rfl) (fun _ _ _ h => h) (Or.inl ⟨by rfl, ?_⟩) (by assumption) ?_
            rotate_left 1
            · (intro w0 hSw; go_simp; try with_reducible rfl)
            simp only [List.getElem_toArray, List.getElem_cons_zero, List.getElem_cons_succ]
            go_frame
            refine wpAnyH_take (i := 7) (v := ?_) rfl (by kernel_rfl) (by kernel_rfl) (by kernel_rfl) (fun _ _ _ h => h) (Or.inl ⟨by rfl, ?_⟩) (by assumption) ?_
            rotate_left 1
            · (intro w0 hSw; go_simp; try with_reducible rfl)
            simp only [List.getElem_toArray, List.getElem_cons_zero, List.getElem_cons_succ]
            go_frame
            refine wpAnyH_take (i := 8) (v := ?_) rfl (by kernel_rfl) (by kernel_rfl) (by kernel_rfl) (fun _ _ _ h => h) (Or.inl ⟨by rfl, ?_⟩) (by assumption) ?_
            rotate_left 1
            · (intro w0 hSw; have a9 := World.grownBy.cell hSw c0 (by simpa using Tb); go_simp; try with_reducible rfl)
            simp only [List.getElem_toArray, List.getElem_cons_zero, List.getElem_cons_succ]
            go_frame
            refine wpAnyH_ready (rs := [9]) (by kernel_rfl) (by simp) ?_
            refine AllReadyH.cons rfl (fun K hK => ?_) AllReadyH.nil
            simp only [List.getElem_toArray, List.getElem_cons_zero, List.getElem_cons_succ]
            go_simp
            go_at_call 11
            refine (HNm).mono ?_
            rintro e U3 ⟨rfl, h3⟩
            subst h3
            refine hK.out _ _ (hHeld) (fun hHeld2 => ?_)
            clear hK K
            (try go_frame)
            clear hHeld2
            refine wpAnyH_ready (rs := [10]) (by kernel_rfl) (by simp) ?_
            refine AllReadyH.cons rfl (fun K hK => ?_) AllReadyH.nil
            simp only [List.getElem_toArray, List.getElem_cons_zero, List.getElem_cons_succ]
            go_simp
            go_at_call 10
            refine (HTr).mono ?_
            rintro e U4 ⟨rfl, B4, g4⟩
            refine hK.out _ _ (grown_own' (grown_drew _) g4) (fun hHeld2 => ?_)
            clear hK K
            (try go_frame)
            refine wpAnyH_take (i := 11) (v := ?_) rfl (by kernel_rfl) (by kernel_rfl) (by kernel_rfl) (fun _ _ _ h => h) (Or.inl ⟨by rfl, ?_⟩) (by assumption) ?_
            rotate_left 1
            · (intro w0 hSw; go_simp; try with_reducible rfl)
            simp only [List.getElem_toArray, List.getElem_cons_zero, List.getElem_cons_succ]
            go_frame
            refine wpAnyH_done (by kernel_rfl) ?_ _
            have HB4 : Hid (Book ok U4 b fs pT2) := B4
            have HA4 : Hid (U4.heap[T]? = some (.cells tCells 40 (0, 0))) := grown_keep g4 (show U2.drew.heap[T]? = _ from HA2.out) (by simpa using Tb)
            have HG4 : Hid (w.grownBy U4 none) := grown_own (grown_trans HG2.out (grown_drew _)) g4 (fun x e => by cases e; exact wb)
            clear B4 g4 hHeld hHeld2 H0 HTr HNm c0 HA2 HB2 HG2
            go_wp2_with fail
            go_roundw
            case rel => exact ⟨Or.inr (Or.inr ⟨rfl, HB4.out⟩), HA4.out, HG4.out⟩
            case measure => decide
          · have HB2 : Hid (Book ok U2 b fs pT2) := B
            clear B
            go_wp2_with fail
            go_meet
            case rel => exact ⟨HB2.out, HG2.out⟩
      case rest =>
        obtain ⟨B, Gr⟩ := hcut
        obtain ⟨V4, hV4⟩ : ∃ V4, V4 = wc := ⟨_, rfl⟩
        subst hV4
        have HB4 : Hid (Book ok V4 b fs pT2) := B
        have HG4 : Hid (w.grownBy V4 none) := Gr
        clear B Gr HB3 HT3 HG3 Tb
        obtain ⟨V5, h5⟩ : ∃ V5, V5 = V4.alloc (.cells (ccs wispH (.slice none 0 0)) 32) := ⟨_, rfl⟩
        have g5 : V4.grownBy V5 none := by rw [h5]; exact World.grownBy_alloc _ _ none
        have HA5 : CAt V5 V4.heap.size wispH (.slice none 0 0) := by rw [h5]; exact alloc_at _ _ _
        have HK := bcard ok b fs pT2 wispH (.slice none 0 0) [] V5 (HB4.out.keep g5) nb (nw _ (HB4.out.keep g5).lt) (Or.inl ⟨rfl, rfl⟩) (by unfold Small; decide)
        rw [caE_of HSm.out, wisp_zero] at HK
        unfold cv wispH at HK
        obtain ⟨z0, z1, z2, z3, z4, z5, z6, z7, z8⟩ := HA5.cells
        unfold wispH at z0 z1 z2 z3 z4 z5 z6 z7
        have HG5 : Hid (w.grownBy V5 none) := grown_trans HG4.out g5
        unfold ccs wispH at h5
        have H5 : Hid (V5 = _) := h5
        clear h5 g5 HB4 HG4 HA5
        go_upto_region 21 with fail
        rw [← H5.out]
        clear H5
        go_wp2_with fail
        refine HK.mono ?_
        rintro e V6 ⟨u, rfl, B6, g6⟩
        (first | rw [if_pos rfl] at B6 | rw [if_pos trivial] at B6)
        obtain ⟨hs, hhs⟩ : ∃ hs, hs = ins fs ⟨wispH, u, []⟩ := ⟨_, rfl⟩
        have B6' : Book ok V6 b hs pT2 := by rw [hhs]; exact B6
        have HSn : Hid (sameEs hs rowG = true) := by
          show sameEs hs rowG = true
          rw [hhs]
          exact same_ins (y := ⟨wispH, .bool false, []⟩) B6.srt rowG_srt HSm.out rfl rowG_mem
        have HB6 : Hid (Book ok V6 b hs pT2) := B6'
        have HG6 : Hid (w.grownBy V6 none) := grown_own HG5.out g6 (fun x e => by cases e; exact wb)
        clear B6 B6' g6 HK HG5 HSm hhs z0 z1 z2 z3 z4 z5 z6 z7 z8
        have hse : sealE pT2 hs = 0 := (sealE_of HSn.out rfl).trans seal_G
        have HK := bseal ok b hs pT2 V6 HB6.out nb
        rw [hse, sealP_G hse] at HK
        clear hse
        go_wp2_with fail
        refine HK.mono ?_
        rintro e U3 ⟨rfl, B3, g3⟩
        have HG3 : Hid (w.grownBy U3 none) := grown_own HG6.out g3 (fun x e => by cases e; exact wb)
        have HB3 : Hid (Book ok U3 b hs pS) := B3
        clear B3 g3 HK HB6 HG6
        obtain ⟨U4, hU4⟩ : ∃ U4, U4 = U3.alloc (.cells nCells 9) := ⟨_, rfl⟩
        obtain ⟨M, hM⟩ : ∃ M, M = U3.heap.size := ⟨_, rfl⟩
        have HG4 : Hid (w.grownBy U4 none) := by rw [hU4]; exact grown_push HG3.out _
        have HB4 : Hid (Book ok U4 b hs pS) := by rw [hU4]; exact HB3.out.keep (World.grownBy_alloc _ _ none)
        have HA4 : Hid (U4.heap[M]? = some (.cells nCells 9 (0, 0))) := by rw [hU4, hM]; exact alloc_at _ _ _
        unfold nCells at hU4
        go_upto_region 26 with fail
        rw [← hU4, ← hM]
        clear hU4 hM HG3 HB3
        go_wp2_with fail
        go_loopw [13] (fun x13 wr => ∃ i : Nat, i ≤ 7 ∧ x13 = .int .i64 (i : Int) ∧ U4.grownBy wr none) (fun x13 _ => 7 - (intOf x13).toNat)
        case atStart => exact ⟨0, Nat.zero_le _, rfl, grown_refl _ _⟩
        case round =>
          obtain ⟨i, hi, rfl, Gi⟩ := hrel
          obtain ⟨X, hX⟩ : ∃ X, X = wr := ⟨_, rfl⟩
          subst hX
          have HGi : Hid (U4.grownBy X none) := Gi
          clear Gi
          rcases (show i = 0 ∨ i = 1 ∨ i = 2 ∨ i = 3 ∨ i = 4 ∨ i = 5 ∨ i = 6 ∨ i = 7 from by omega) with rfl | rfl | rfl | rfl | rfl | rfl | rfl | rfl
          · rw [show ((0 : Nat) : Int) = (0 : Int) from rfl]
            obtain ⟨e0, he0, hh0⟩ := same_get HSn.out (i := 0) (y := ⟨wispH, .bool false, []⟩) rfl
            have BX := HB4.out.keep HGi.out
            have HAt := at_in ok b hs pS 0 e0 X BX.lies BX.good rfl he0 (BX.parts e0 (List.mem_of_getElem? he0))
            rw [hh0, show (((0 : Nat) : Int) + 1) = (1 : Int) from rfl] at HAt
            clear BX
            unfold cv wispH at HAt
            go_wp2_with fail
            refine HAt.mono ?_
            rintro e X1 ⟨u, rfl, O1, g1⟩
            obtain ⟨xx, yy, rfl⟩ := O1.at.form
            have HG5 : Hid (U4.grownBy (X1.alloc (.cells (ccs wispH (.slice xx e0.ps.length yy)) 32)) none) := grown_push (grown_trans HGi.out g1) _
            have HC5 : CAt (X1.alloc (.cells (ccs wispH (.slice xx e0.ps.length yy)) 32)) X1.heap.size wispH (.slice xx e0.ps.length yy) := alloc_at _ _ _
            obtain ⟨X2, hX2⟩ : ∃ X2, X2 = X1.alloc (.cells (ccs wispH (.slice xx e0.ps.length yy)) 32) := ⟨_, rfl⟩
            rw [← hX2] at HG5 HC5
            have a13 : X2.cell? ⟨X1.heap.size, 0, none⟩ = some (.string ⟨#[119, 105, 115, 112]⟩) := HC5.cells.1
            have n13 : X2.cell? ⟨M, 0, none⟩ = some (.string ⟨#[119, 105, 115, 112]⟩) := (block_cell (grown_keep HG5.out HA4.out (by simp)) 0).trans rfl
            unfold ccs wispH at hX2
            clear O1 g1 HAt HC5 he0 hh0
            go_upto_region 30 with fail
            rw [← hX2]
            clear hX2
            refine wp_region_held_drew (S := fun w' => X2.grownBy w' none) (by kernel_rfl) (grown_drew _) (fun hHeld => ?_)
            refine wpAnyH_take (i := 0) (v := ?_) rfl (by kernel_rfl) (by kernel_rfl) (by kernel_rfl) (fun _ _ _ h => h) (Or.inl ⟨by rfl, ?_⟩) (by assumption) ?_
            rotate_left 1
            · (intro w0 hSw; go_simp; try with_reducible rfl)
            simp only [List.getElem_toArray, List.getElem_cons_zero]
            go_frame
            refine wpAnyH_take (i := 1) (v := ?_) rfl (by kernel_rfl) (by kernel_rfl) (by kernel_rfl) (fun _ _ _ h => h) (Or.inl ⟨by rfl, ?_⟩) (by assumption) ?_
            rotate_left 1
            · (intro w0 hSw; go_simp; try with_reducible rfl)
            simp only [List.getElem_toArray, List.getElem_cons_zero, List.getElem_cons_succ]
            go_frame
            refine wpAnyH_take (i := 2) (v := ?_) rfl (by kernel_rfl) (by kernel_rfl) (by kernel_rfl) (fun _ _ _ h => h) (Or.inl ⟨by rfl, ?_⟩) (by assumption) ?_
            rotate_left 1
            · (intro w0 hSw; go_simp; try with_reducible rfl)
            simp only [List.getElem_toArray, List.getElem_cons_zero, List.getElem_cons_succ]
            go_frame
            refine wpAnyH_take (i := 3) (v := ?_) rfl (by kernel_rfl) (by kernel_rfl) (by kernel_rfl) (fun _ _ _ h => h) (Or.inl ⟨by rfl, ?_⟩) (by assumption) ?_
            rotate_left 1
            · (intro w0 hSw; go_simp; try with_reducible rfl)
            simp only [List.getElem_toArray, List.getElem_cons_zero, List.getElem_cons_succ]
            go_frame
            refine wpAnyH_take (i := 4) (v := ?_) rfl (by kernel_rfl) (by kernel_rfl) (by kernel_rfl) (fun _ _ _ h => h) (Or.inl ⟨by rfl, ?_⟩) (by assumption) ?_
            rotate_left 1
            · (intro w0 hSw; have a9 := World.grownBy.cell hSw a13 (by simp); go_simp; try with_reducible rfl)
            simp only [List.getElem_toArray, List.getElem_cons_zero, List.getElem_cons_succ]
            go_frame
            refine wpAnyH_take (i := 5) (v := ?_) rfl (by kernel_rfl) (by kernel_rfl) (by kernel_rfl) (fun _ _ _ h => h) (Or.inl ⟨by rfl, ?_⟩) (by assumption) ?_
            rotate_left 1
            · (intro w0 hSw; go_simp; try with_reducible rfl)
            simp only [List.getElem_toArray, List.getElem_cons_zero, List.getElem_cons_succ]
            go_frame
            refine wpAnyH_take (i := 6) (v := ?_) rfl (by kernel_rfl) (by kernel_rfl) (by kernel_rfl) (fun _ _ _ h => h) (Or.inl ⟨by rfl, ?_⟩) (by assumption) ?_
            rotate_left 1
            · (intro w0 hSw; go_simp; try with_reducible rfl)
            simp only [List.getElem_toArray, List.getElem_cons_zero, List.getElem_cons_succ]
            go_frame
            refine wpAnyH_take (i := 7) (v := ?_) rfl (by kernel_rfl) (by kernel_rfl) (by kernel_rfl) (fun _ _ _ h => h) (Or.inl ⟨by rfl, ?_⟩) (by assumption) ?_
            rotate_left 1
            · (intro w0 hSw; go_simp; try with_reducible rfl)
            simp only [List.getElem_toArray, List.getElem_cons_zero, List.getElem_cons_succ]
            go_frame
            refine wpAnyH_take (i := 8) (v := ?_) rfl (by kernel_rfl) (by kernel_rfl) (by kernel_rfl) (fun _ _ _ h => h) (Or.inl ⟨by rfl, ?_⟩) (by assumption) ?_
            rotate_left 1
            · (intro w0 hSw; have a9 := World.grownBy.cell hSw n13 (by simp); go_simp; try with_reducible rfl)
            simp only [List.getElem_toArray, List.getElem_cons_zero, List.getElem_cons_succ]
            go_frame
            refine wpAnyH_take (i := 9) (v := ?_) rfl (by kernel_rfl) (by kernel_rfl) (by kernel_rfl) (fun _ _ _ h => h) (Or.inl ⟨by rfl, ?_⟩) (by assumption) ?_
            rotate_left 1
            · (intro w0 hSw; go_simp; try with_reducible rfl)
            simp only [List.getElem_toArray, List.getElem_cons_zero, List.getElem_cons_succ]
            go_frame
            refine wpAnyH_take (i := 10) (v := ?_) rfl (by kernel_rfl) (by kernel_rfl) (by kernel_rfl) (fun _ _ _ h => h) (Or.inl ⟨by rfl, ?_⟩) (by assumption) ?_
            rotate_left 1
            · (intro w0 hSw; go_simp; try with_reducible rfl)
            simp only [List.getElem_toArray, List.getElem_cons_zero, List.getElem_cons_succ]
            go_frame
            refine wpAnyH_done (by kernel_rfl) ?_ _
            have HG6 : Hid (U4.grownBy X2.drew none) := grown_trans HG5.out (grown_drew _)
            clear hHeld a13 n13 HG5
            go_wp2_with fail
            go_roundw
            case rel => exact ⟨1, by decide, rfl, HG6.out⟩
            case measure => decide
          · rw [show ((1 : Nat) : Int) = (1 : Int) from rfl]
            obtain ⟨e0, he0, hh0⟩ := same_get HSn.out (i := 1) (y := ⟨dewH, .bool false, dewP⟩) rfl
            have BX := HB4.out.keep HGi.out
            have HAt := at_in ok b hs pS 1 e0 X BX.lies BX.good rfl he0 (BX.parts e0 (List.mem_of_getElem? he0))
            rw [hh0, show (((1 : Nat) : Int) + 1) = (2 : Int) from rfl] at HAt
            clear BX
            unfold cv dewH at HAt
            go_wp2_with fail
            refine HAt.mono ?_
            rintro e X1 ⟨u, rfl, O1, g1⟩
            obtain ⟨xx, yy, rfl⟩ := O1.at.form
            have HG5 : Hid (U4.grownBy (X1.alloc (.cells (ccs dewH (.slice xx e0.ps.length yy)) 32)) none) := grown_push (grown_trans HGi.out g1) _
            have HC5 : CAt (X1.alloc (.cells (ccs dewH (.slice xx e0.ps.length yy)) 32)) X1.heap.size dewH (.slice xx e0.ps.length yy) := alloc_at _ _ _
            obtain ⟨X2, hX2⟩ : ∃ X2, X2 = X1.alloc (.cells (ccs dewH (.slice xx e0.ps.length yy)) 32) := ⟨_, rfl⟩
            rw [← hX2] at HG5 HC5
            have a13 : X2.cell? ⟨X1.heap.size, 0, none⟩ = some (.string ⟨#[100, 101, 119]⟩) := HC5.cells.1
            have n13 : X2.cell? ⟨M, 1, none⟩ = some (.string ⟨#[100, 101, 119]⟩) := (block_cell (grown_keep HG5.out HA4.out (by simp)) 1).trans rfl
            unfold ccs dewH at hX2
            clear O1 g1 HAt HC5 he0 hh0
            go_upto_region 30 with fail
            rw [← hX2]
            clear hX2
            refine wp_region_held_drew (S := fun w' => X2.grownBy w' none) (by kernel_rfl) (grown_drew _) (fun hHeld => ?_)
            refine wpAnyH_take (i := 0) (v := ?_) rfl (by kernel_rfl) (by kernel_rfl) (by kernel_rfl) (fun _ _ _ h => h) (Or.inl ⟨by rfl, ?_⟩) (by assumption) ?_
            rotate_left 1
            · (intro w0 hSw; go_simp; try with_reducible rfl)
            simp only [List.getElem_toArray, List.getElem_cons_zero]
            go_frame
            refine wpAnyH_take (i := 1) (v := ?_) rfl (by kernel_rfl) (by kernel_rfl) (by kernel_rfl) (fun _ _ _ h => h) (Or.inl ⟨by rfl, ?_⟩) (by assumption) ?_
            rotate_left 1
            · (intro w0 hSw; go_simp; try with_reducible rfl)
            simp only [List.getElem_toArray, List.getElem_cons_zero, List.getElem_cons_succ]
            go_frame
            refine wpAnyH_take (i := 2) (v := ?_) rfl (by kernel_rfl) (by kernel_rfl) (by kernel_rfl) (fun _ _ _ h => h) (Or.inl ⟨by rfl, ?_⟩) (by assumption) ?_
            rotate_left 1
            · (intro w0 hSw; go_simp; try with_reducible rfl)
            simp only [List.getElem_toArray, List.getElem_cons_zero, List.getElem_cons_succ]
            go_frame
            refine wpAnyH_take (i := 3) (v := ?_) rfl (by kernel_rfl) (by kernel_rfl) (by kernel_rfl) (fun _ _ _ h => h) (Or.inl ⟨by rfl, ?_⟩) (by assumption) ?_
            rotate_left 1
            · (intro w0 hSw; go_simp; try with_reducible rfl)
            simp only [List.getElem_toArray, List.getElem_cons_zero, List.getElem_cons_succ]
            go_frame
            refine wpAnyH_take (i := 4) (v := ?_) rfl (by kernel_rfl) (by kernel_rfl) (by kernel_rfl) (fun _ _ _ h => h) (Or.inl ⟨by rfl, ?_⟩) (by assumption) ?_
            rotate_left 1
            · (intro w0 hSw; have a9 := World.grownBy.cell hSw a13 (by simp); go_simp; try with_reducible rfl)
            simp only [List.getElem_toArray, List.getElem_cons_zero, List.getElem_cons_succ]
            go_frame
            refine wpAnyH_take (i := 5) (v := ?_) rfl (by kernel_rfl) (by kernel_rfl) (by kernel_rfl) (fun _ _ _ h => h) (Or.inl ⟨by rfl, ?_⟩) (by assumption) ?_
            rotate_left 1
            · (intro w0 hSw; go_simp; try with_reducible rfl)
            simp only [List.getElem_toArray, List.getElem_cons_zero, List.getElem_cons_succ]
            go_frame
            refine wpAnyH_take (i := 6) (v := ?_) rfl (by kernel_rfl) (by kernel_rfl) (by kernel_rfl) (fun _ _ _ h => h) (Or.inl ⟨by rfl, ?_⟩) (by assumption) ?_
            rotate_left 1
            · (intro w0 hSw; go_simp; try with_reducible rfl)
            simp only [List.getElem_toArray, List.getElem_cons_zero, List.getElem_cons_succ]
            go_frame
            refine wpAnyH_take (i := 7) (v := ?_) rfl (by kernel_rfl) (by kernel_rfl) (by kernel_rfl) (fun _ _ _ h => h) (Or.inl ⟨by rfl, ?_⟩) (by assumption) ?_
            rotate_left 1
            · (intro w0 hSw; go_simp; try with_reducible rfl)
            simp only [List.getElem_toArray, List.getElem_cons_zero, List.getElem_cons_succ]
            go_frame
            refine wpAnyH_take (i := 8) (v := ?_) rfl (by kernel_rfl) (by kernel_rfl) (by kernel_rfl) (fun _ _ _ h => h) (Or.inl ⟨by rfl, ?_⟩) (by assumption) ?_
            rotate_left 1
            · (intro w0 hSw; have a9 := World.grownBy.cell hSw n13 (by simp); go_simp; try with_reducible rfl)
            simp only [List.getElem_toArray, List.getElem_cons_zero, List.getElem_cons_succ]
            go_frame
            refine wpAnyH_take (i := 9) (v := ?_) rfl (by kernel_rfl) (by kernel_rfl) (by kernel_rfl) (fun _ _ _ h => h) (Or.inl ⟨by rfl, ?_⟩) (by assumption) ?_
            rotate_left 1
            · (intro w0 hSw; go_simp; try with_reducible rfl)
            simp only [List.getElem_toArray, List.getElem_cons_zero, List.getElem_cons_succ]
            go_frame
            refine wpAnyH_take (i := 10) (v := ?_) rfl (by kernel_rfl) (by kernel_rfl) (by kernel_rfl) (fun _ _ _ h => h) (Or.inl ⟨by rfl, ?_⟩) (by assumption) ?_
            rotate_left 1
            · (intro w0 hSw; go_simp; try with_reducible rfl)
            simp only [List.getElem_toArray, List.getElem_cons_zero, List.getElem_cons_succ]
            go_frame
            refine wpAnyH_done (by kernel_rfl) ?_ _
            have HG6 : Hid (U4.grownBy X2.drew none) := grown_trans HG5.out (grown_drew _)
            clear hHeld a13 n13 HG5
            go_wp2_with fail
            go_roundw
            case rel => exact ⟨2, by decide, rfl, HG6.out⟩
            case measure => decide
          · rw [show ((2 : Nat) : Int) = (2 : Int) from rfl]
            obtain ⟨e0, he0, hh0⟩ := same_get HSn.out (i := 2) (y := ⟨dropH, .bool false, dropP⟩) rfl
            have BX := HB4.out.keep HGi.out
            have HAt := at_in ok b hs pS 2 e0 X BX.lies BX.good rfl he0 (BX.parts e0 (List.mem_of_getElem? he0))
            rw [hh0, show (((2 : Nat) : Int) + 1) = (3 : Int) from rfl] at HAt
            clear BX
            unfold cv dropH at HAt
            go_wp2_with fail
            refine HAt.mono ?_
            rintro e X1 ⟨u, rfl, O1, g1⟩
            obtain ⟨xx, yy, rfl⟩ := O1.at.form
            have HG5 : Hid (U4.grownBy (X1.alloc (.cells (ccs dropH (.slice xx e0.ps.length yy)) 32)) none) := grown_push (grown_trans HGi.out g1) _
            have HC5 : CAt (X1.alloc (.cells (ccs dropH (.slice xx e0.ps.length yy)) 32)) X1.heap.size dropH (.slice xx e0.ps.length yy) := alloc_at _ _ _
            obtain ⟨X2, hX2⟩ : ∃ X2, X2 = X1.alloc (.cells (ccs dropH (.slice xx e0.ps.length yy)) 32) := ⟨_, rfl⟩
            rw [← hX2] at HG5 HC5
            have a13 : X2.cell? ⟨X1.heap.size, 0, none⟩ = some (.string ⟨#[100, 114, 111, 112]⟩) := HC5.cells.1
            have n13 : X2.cell? ⟨M, 2, none⟩ = some (.string ⟨#[100, 114, 111, 112]⟩) := (block_cell (grown_keep HG5.out HA4.out (by simp)) 2).trans rfl
            unfold ccs dropH at hX2
            clear O1 g1 HAt HC5 he0 hh0
            go_upto_region 30 with fail
            rw [← hX2]
            clear hX2
            refine wp_region_held_drew (S := fun w' => X2.grownBy w' none) (by kernel_rfl) (grown_drew _) (fun hHeld => ?_)
            refine wpAnyH_take (i := 0) (v := ?_) rfl (by kernel_rfl) (by kernel_rfl) (by kernel_rfl) (fun _ _ _ h => h) (Or.inl ⟨by rfl, ?_⟩) (by assumption) ?_
            rotate_left 1
            · (intro w0 hSw; go_simp; try with_reducible rfl)
            simp only [List.getElem_toArray, List.getElem_cons_zero]
            go_frame
            refine wpAnyH_take (i := 1) (v := ?_) rfl (by kernel_rfl) (by kernel_rfl) (by kernel_rfl) (fun _ _ _ h => h) (Or.inl ⟨by rfl, ?_⟩) (by assumption) ?_
            rotate_left 1
            · (intro w0 hSw; go_simp; try with_reducible rfl)
            simp only [List.getElem_toArray, List.getElem_cons_zero, List.getElem_cons_succ]
            go_frame
            refine wpAnyH_take (i := 2) (v := ?_) rfl (by kernel_rfl) (by kernel_rfl) (by kernel_rfl) (fun _ _ _ h => h) (Or.inl ⟨by rfl, ?_⟩) (by assumption) ?_
            rotate_left 1
            · (intro w0 hSw; go_simp; try with_reducible rfl)
            simp only [List.getElem_toArray, List.getElem_cons_zero, List.getElem_cons_succ]
            go_frame
            refine wpAnyH_take (i := 3) (v := ?_) rfl (by kernel_rfl) (by kernel_rfl) (by kernel_rfl) (fun _ _ _ h => h) (Or.inl ⟨by rfl, ?_⟩) (by assumption) ?_
            rotate_left 1
            · (intro w0 hSw; go_simp; try with_reducible rfl)
            simp only [List.getElem_toArray, List.getElem_cons_zero, List.getElem_cons_succ]
            go_frame
            refine wpAnyH_take (i := 4) (v := ?_) rfl (by kernel_rfl) (by kernel_rfl) (by kernel_rfl) (fun _ _ _ h => h) (Or.inl ⟨by rfl, ?_⟩) (by assumption) ?_
            rotate_left 1
            · (intro w0 hSw; have a9 := World.grownBy.cell hSw a13 (by simp); go_simp; try with_reducible rfl)
            simp only [List.getElem_toArray, List.getElem_cons_zero, List.getElem_cons_succ]
            go_frame
            refine wpAnyH_take (i := 5) (v := ?_) rfl (by kernel_rfl) (by kernel_rfl) (by kernel_rfl) (fun _ _ _ h => h) (Or.inl ⟨by rfl, ?_⟩) (by assumption) ?_
            rotate_left 1
            · (intro w0 hSw; go_simp; try with_reducible rfl)
            simp only [List.getElem_toArray, List.getElem_cons_zero, List.getElem_cons_succ]
            go_frame
            refine wpAnyH_take (i := 6) (v := ?_) rfl (by kernel_rfl) (by kernel_rfl) (by kernel_rfl) (fun _ _ _ h => h) (Or.inl ⟨by rfl, ?_⟩) (by assumption) ?_
            rotate_left 1
            · (intro w0 hSw; go_simp; try with_reducible rfl)
            simp only [List.getElem_toArray, List.getElem_cons_zero, List.getElem_cons_succ]
            go_frame
            refine wpAnyH_take (i := 7) (v := ?_) rfl (by kernel_rfl) (by kernel_rfl) (by kernel_rfl) (fun _ _ _ h => h) (Or.inl ⟨by rfl, ?_⟩) (by assumption) ?_
            rotate_left 1
            · (intro w0 hSw; go_simp; try with_reducible rfl)
            simp only [List.getElem_toArray, List.getElem_cons_zero, List.getElem_cons_succ]
            go_frame
            refine wpAnyH_take (i := 8) (v := ?_) rfl (by kernel_rfl) (by kernel_rfl) (by kernel_rfl) (fun _ _ _ h => h) (Or.inl ⟨by rfl, ?_⟩) (by assumption) ?_
            rotate_left 1
            · (intro w0 hSw; have a9 := World.grownBy.cell hSw n13 (by simp); go_simp; try with_reducible rfl)
            simp only [List.getElem_toArray, List.getElem_cons_zero, List.getElem_cons_succ]
            go_frame
            refine wpAnyH_take (i := 9) (v := ?_) rfl (by kernel_rfl) (by kernel_rfl) (by kernel_rfl) (fun _ _ _ h => h) (Or.inl ⟨by rfl, ?_⟩) (by assumption) ?_
            rotate_left 1
            · (intro w0 hSw; go_simp; try with_reducible rfl)
            simp only [List.getElem_toArray, List.getElem_cons_zero, List.getElem_cons_succ]
            go_frame
            refine wpAnyH_take (i := 10) (v := ?_) rfl (by kernel_rfl) (by kernel_rfl) (by kernel_rfl) (fun _ _ _ h => h) (Or.inl ⟨by rfl, ?_⟩) (by assumption) ?_
            rotate_left 1
            · (intro w0 hSw; go_simp; try with_reducible rfl)
            simp only [List.getElem_toArray, List.getElem_cons_zero, List.getElem_cons_succ]
            go_frame
            refine wpAnyH_done (by kernel_rfl) ?_ _
            have HG6 : Hid (U4.grownBy X2.drew none) := grown_trans HG5.out (grown_drew _)
            clear hHeld a13 n13 HG5
            go_wp2_with fail
            go_roundw
            case rel => exact ⟨3, by decide, rfl, HG6.out⟩
            case measure => decide
          · rw [show ((3 : Nat) : Int) = (3 : Int) from rfl]
            obtain ⟨e0, he0, hh0⟩ := same_get HSn.out (i := 3) (y := ⟨mirrorH, .bool false, mirrorP⟩) rfl
            have BX := HB4.out.keep HGi.out
            have HAt := at_in ok b hs pS 3 e0 X BX.lies BX.good rfl he0 (BX.parts e0 (List.mem_of_getElem? he0))
            rw [hh0, show (((3 : Nat) : Int) + 1) = (4 : Int) from rfl] at HAt
            clear BX
            unfold cv mirrorH at HAt
            go_wp2_with fail
            refine HAt.mono ?_
            rintro e X1 ⟨u, rfl, O1, g1⟩
            obtain ⟨xx, yy, rfl⟩ := O1.at.form
            have HG5 : Hid (U4.grownBy (X1.alloc (.cells (ccs mirrorH (.slice xx e0.ps.length yy)) 32)) none) := grown_push (grown_trans HGi.out g1) _
            have HC5 : CAt (X1.alloc (.cells (ccs mirrorH (.slice xx e0.ps.length yy)) 32)) X1.heap.size mirrorH (.slice xx e0.ps.length yy) := alloc_at _ _ _
            obtain ⟨X2, hX2⟩ : ∃ X2, X2 = X1.alloc (.cells (ccs mirrorH (.slice xx e0.ps.length yy)) 32) := ⟨_, rfl⟩
            rw [← hX2] at HG5 HC5
            have a13 : X2.cell? ⟨X1.heap.size, 0, none⟩ = some (.string ⟨#[109, 105, 114, 114, 111, 114]⟩) := HC5.cells.1
            have n13 : X2.cell? ⟨M, 3, none⟩ = some (.string ⟨#[109, 105, 114, 114, 111, 114]⟩) := (block_cell (grown_keep HG5.out HA4.out (by simp)) 3).trans rfl
            unfold ccs mirrorH at hX2
            clear O1 g1 HAt HC5 he0 hh0
            go_upto_region 30 with fail
            rw [← hX2]
            clear hX2
            refine wp_region_held_drew (S := fun w' => X2.grownBy w' none) (by kernel_rfl) (grown_drew _) (fun hHeld => ?_)
            refine wpAnyH_take (i := 0) (v := ?_) rfl (by kernel_rfl) (by kernel_rfl) (by kernel_rfl) (fun _ _ _ h => h) (Or.inl ⟨by rfl, ?_⟩) (by assumption) ?_
            rotate_left 1
            · (intro w0 hSw; go_simp; try with_reducible rfl)
            simp only [List.getElem_toArray, List.getElem_cons_zero]
            go_frame
            refine wpAnyH_take (i := 1) (v := ?_) rfl (by kernel_rfl) (by kernel_rfl) (by kernel_rfl) (fun _ _ _ h => h) (Or.inl ⟨by rfl, ?_⟩) (by assumption) ?_
            rotate_left 1
            · (intro w0 hSw; go_simp; try with_reducible rfl)
            simp only [List.getElem_toArray, List.getElem_cons_zero, List.getElem_cons_succ]
            go_frame
            refine wpAnyH_take (i := 2) (v := ?_) rfl (by kernel_rfl) (by kernel_rfl) (by kernel_rfl) (fun _ _ _ h => h) (Or.inl ⟨by rfl, ?_⟩) (by assumption) ?_
            rotate_left 1
            · (intro w0 hSw; go_simp; try with_reducible rfl)
            simp only [List.getElem_toArray, List.getElem_cons_zero, List.getElem_cons_succ]
            go_frame
            refine wpAnyH_take (i := 3) (v := ?_) rfl (by kernel_rfl) (by kernel_rfl) (by kernel_rfl) (fun _ _ _ h => h) (Or.inl ⟨by rfl, ?_⟩) (by assumption) ?_
            rotate_left 1
            · (intro w0 hSw; go_simp; try with_reducible rfl)
            simp only [List.getElem_toArray, List.getElem_cons_zero, List.getElem_cons_succ]
            go_frame
            refine wpAnyH_take (i := 4) (v := ?_) rfl (by kernel_rfl) (by kernel_rfl) (by kernel_rfl) (fun _ _ _ h => h) (Or.inl ⟨by rfl, ?_⟩) (by assumption) ?_
            rotate_left 1
            · (intro w0 hSw; have a9 := World.grownBy.cell hSw a13 (by simp); go_simp; try with_reducible rfl)
            simp only [List.getElem_toArray, List.getElem_cons_zero, List.getElem_cons_succ]
            go_frame
            refine wpAnyH_take (i := 5) (v := ?_) rfl (by kernel_rfl) (by kernel_rfl) (by kernel_rfl) (fun _ _ _ h => h) (Or.inl ⟨by rfl, ?_⟩) (by assumption) ?_
            rotate_left 1
            · (intro w0 hSw; go_simp; try with_reducible rfl)
            simp only [List.getElem_toArray, List.getElem_cons_zero, List.getElem_cons_succ]
            go_frame
            refine wpAnyH_take (i := 6) (v := ?_) rfl (by kernel_rfl) (by kernel_rfl) (by kernel_rfl) (fun _ _ _ h => h) (Or.inl ⟨by rfl, ?_⟩) (by assumption) ?_
            rotate_left 1
            · (intro w0 hSw; go_simp; try with_reducible rfl)
            simp only [List.getElem_toArray, List.getElem_cons_zero, List.getElem_cons_succ]
            go_frame
            refine wpAnyH_take (i := 7) (v := ?_) rfl (by kernel_rfl) (by kernel_rfl) (by kernel_rfl) (fun _ _ _ h => h) (Or.inl ⟨by rfl, ?_⟩) (by assumption) ?_
            rotate_left 1
            · (intro w0 hSw; go_simp; try with_reducible rfl)
            simp only [List.getElem_toArray, List.getElem_cons_zero, List.getElem_cons_succ]
            go_frame
            refine wpAnyH_take (i := 8) (v := ?_) rfl (by kernel_rfl) (by kernel_rfl) (by kernel_rfl) (fun _ _ _ h => h) (Or.inl ⟨by rfl, ?_⟩) (by assumption) ?_
            rotate_left 1
            · (intro w0 hSw; have a9 := World.grownBy.cell hSw n13 (by simp); go_simp; try with_reducible rfl)
            simp only [List.getElem_toArray, List.getElem_cons_zero, List.getElem_cons_succ]
            go_frame
            refine wpAnyH_take (i := 9) (v := ?_) rfl (by kernel_rfl) (by kernel_rfl) (by kernel_rfl) (fun _ _ _ h => h) (Or.inl ⟨by rfl, ?_⟩) (by assumption) ?_
            rotate_left 1
            · (intro w0 hSw; go_simp; try with_reducible rfl)
            simp only [List.getElem_toArray, List.getElem_cons_zero, List.getElem_cons_succ]
            go_frame
            refine wpAnyH_take (i := 10) (v := ?_) rfl (by kernel_rfl) (by kernel_rfl) (by kernel_rfl) (fun _ _ _ h => h) (Or.inl ⟨by rfl, ?_⟩) (by assumption) ?_
            rotate_left 1
            · (intro w0 hSw; go_simp; try with_reducible rfl)
            simp only [List.getElem_toArray, List.getElem_cons_zero, List.getElem_cons_succ]
            go_frame
            refine wpAnyH_done (by kernel_rfl) ?_ _
            have HG6 : Hid (U4.grownBy X2.drew none) := grown_trans HG5.out (grown_drew _)
            clear hHeld a13 n13 HG5
            go_wp2_with fail
            go_roundw
            case rel => exact ⟨4, by decide, rfl, HG6.out⟩
            case measure => decide
          · rw [show ((4 : Nat) : Int) = (4 : Int) from rfl]
            obtain ⟨e0, he0, hh0⟩ := same_get HSn.out (i := 4) (y := ⟨sirenH, .bool false, sirenP⟩) rfl
            have BX := HB4.out.keep HGi.out
            have HAt := at_in ok b hs pS 4 e0 X BX.lies BX.good rfl he0 (BX.parts e0 (List.mem_of_getElem? he0))
            rw [hh0, show (((4 : Nat) : Int) + 1) = (5 : Int) from rfl] at HAt
            clear BX
            unfold cv sirenH at HAt
            go_wp2_with fail
            refine HAt.mono ?_
            rintro e X1 ⟨u, rfl, O1, g1⟩
            obtain ⟨xx, yy, rfl⟩ := O1.at.form
            have HG5 : Hid (U4.grownBy (X1.alloc (.cells (ccs sirenH (.slice xx e0.ps.length yy)) 32)) none) := grown_push (grown_trans HGi.out g1) _
            have HC5 : CAt (X1.alloc (.cells (ccs sirenH (.slice xx e0.ps.length yy)) 32)) X1.heap.size sirenH (.slice xx e0.ps.length yy) := alloc_at _ _ _
            obtain ⟨X2, hX2⟩ : ∃ X2, X2 = X1.alloc (.cells (ccs sirenH (.slice xx e0.ps.length yy)) 32) := ⟨_, rfl⟩
            rw [← hX2] at HG5 HC5
            have a13 : X2.cell? ⟨X1.heap.size, 0, none⟩ = some (.string ⟨#[115, 105, 114, 101, 110]⟩) := HC5.cells.1
            have n13 : X2.cell? ⟨M, 4, none⟩ = some (.string ⟨#[115, 105, 114, 101, 110]⟩) := (block_cell (grown_keep HG5.out HA4.out (by simp)) 4).trans rfl
            unfold ccs sirenH at hX2
            clear O1 g1 HAt HC5 he0 hh0
            go_upto_region 30 with fail
            rw [← hX2]
            clear hX2
            refine wp_region_held_drew (S := fun w' => X2.grownBy w' none) (by kernel_rfl) (grown_drew _) (fun hHeld => ?_)
            refine wpAnyH_take (i := 0) (v := ?_) rfl (by kernel_rfl) (by kernel_rfl) (by kernel_rfl) (fun _ _ _ h => h) (Or.inl ⟨by rfl, ?_⟩) (by assumption) ?_
            rotate_left 1
            · (intro w0 hSw; go_simp; try with_reducible rfl)
            simp only [List.getElem_toArray, List.getElem_cons_zero]
            go_frame
            refine wpAnyH_take (i := 1) (v := ?_) rfl (by kernel_rfl) (by kernel_rfl) (by kernel_rfl) (fun _ _ _ h => h) (Or.inl ⟨by rfl, ?_⟩) (by assumption) ?_
            rotate_left 1
            · (intro w0 hSw; go_simp; try with_reducible rfl)
            simp only [List.getElem_toArray, List.getElem_cons_zero, List.getElem_cons_succ]
            go_frame
            refine wpAnyH_take (i := 2) (v := ?_) rfl (by kernel_rfl) (by kernel_rfl) (by kernel_rfl) (fun _ _ _ h => h) (Or.inl ⟨by rfl, ?_⟩) (by assumption) ?_
            rotate_left 1
            · (intro w0 hSw; go_simp; try with_reducible rfl)
            simp only [List.getElem_toArray, List.getElem_cons_zero, List.getElem_cons_succ]
            go_frame
            refine wpAnyH_take (i := 3) (v := ?_) rfl (by kernel_rfl) (by kernel_rfl) (by kernel_rfl) (fun _ _ _ h => h) (Or.inl ⟨by rfl, ?_⟩) (by assumption) ?_
            rotate_left 1
            · (intro w0 hSw; go_simp; try with_reducible rfl)
            simp only [List.getElem_toArray, List.getElem_cons_zero, List.getElem_cons_succ]
            go_frame
            refine wpAnyH_take (i := 4) (v := ?_) rfl (by kernel_rfl) (by kernel_rfl) (by kernel_rfl) (fun _ _ _ h => h) (Or.inl ⟨by rfl, ?_⟩) (by assumption) ?_
            rotate_left 1
            · (intro w0 hSw; have a9 := World.grownBy.cell hSw a13 (by simp); go_simp; try with_reducible rfl)
            simp only [List.getElem_toArray, List.getElem_cons_zero, List.getElem_cons_succ]
            go_frame
            refine wpAnyH_take (i := 5) (v := ?_) rfl (by kernel_rfl) (by kernel_rfl) (by kernel_rfl) (fun _ _ _ h => h) (Or.inl ⟨by rfl, ?_⟩) (by assumption) ?_
            rotate_left 1
            · (intro w0 hSw; go_simp; try with_reducible rfl)
            simp only [List.getElem_toArray, List.getElem_cons_zero, List.getElem_cons_succ]
            go_frame
            refine wpAnyH_take (i := 6) (v := ?_) rfl (by kernel_rfl) (by kernel_rfl) (by kernel_rfl) (fun _ _ _ h => h) (Or.inl ⟨by rfl, ?_⟩) (by assumption) ?_
            rotate_left 1
            · (intro w0 hSw; go_simp; try with_reducible rfl)
            simp only [List.getElem_toArray, List.getElem_cons_zero, List.getElem_cons_succ]
            go_frame
            refine wpAnyH_take (i := 7) (v := ?_) rfl (by kernel_rfl) (by kernel_rfl) (by kernel_rfl) (fun _ _ _ h => h) (Or.inl ⟨by rfl, ?_⟩) (by assumption) ?_
            rotate_left 1
            · (intro w0 hSw; go_simp; try with_reducible rfl)
            simp only [List.getElem_toArray, List.getElem_cons_zero, List.getElem_cons_succ]
            go_frame
            refine wpAnyH_take (i := 8) (v := ?_) rfl (by kernel_rfl) (by kernel_rfl) (by kernel_rfl) (fun _ _ _ h => h) (Or.inl ⟨by rfl, ?_⟩) (by assumption) ?_
            rotate_left 1
            · (intro w0 hSw; have a9 := World.grownBy.cell hSw n13 (by simp); go_simp; try with_reducible rfl)
            simp only [List.getElem_toArray, List.getElem_cons_zero, List.getElem_cons_succ]
            go_frame
            refine wpAnyH_take (i := 9) (v := ?_) rfl (by kernel_rfl) (by kernel_rfl) (by kernel_rfl) (fun _ _ _ h => h) (Or.inl ⟨by rfl, ?_⟩) (by assumption) ?_
            rotate_left 1
            · (intro w0 hSw; go_simp; try with_reducible rfl)
            simp only [List.getElem_toArray, List.getElem_cons_zero, List.getElem_cons_succ]
            go_frame
            refine wpAnyH_take (i := 10) (v := ?_) rfl (by kernel_rfl) (by kernel_rfl) (by kernel_rfl) (fun _ _ _ h => h) (Or.inl ⟨by rfl, ?_⟩) (by assumption) ?_
            rotate_left 1
            · (intro w0 hSw; go_simp; try with_reducible rfl)
            simp only [List.getElem_toArray, List.getElem_cons_zero, List.getElem_cons_succ]
            go_frame
            refine wpAnyH_done (by kernel_rfl) ?_ _
            have HG6 : Hid (U4.grownBy X2.drew none) := grown_trans HG5.out (grown_drew _)
            clear hHeld a13 n13 HG5
            go_wp2_with fail
            go_roundw
            case rel => exact ⟨5, by decide, rfl, HG6.out⟩
            case measure => decide
          · rw [show ((5 : Nat) : Int) = (5 : Int) from rfl]
            obtain ⟨e0, he0, hh0⟩ := same_get HSn.out (i := 5) (y := ⟨springH, .bool false, springP⟩) rfl
            have BX := HB4.out.keep HGi.out
            have HAt := at_in ok b hs pS 5 e0 X BX.lies BX.good rfl he0 (BX.parts e0 (List.mem_of_getElem? he0))
            rw [hh0, show (((5 : Nat) : Int) + 1) = (6 : Int) from rfl] at HAt
            clear BX
            unfold cv springH at HAt
            go_wp2_with fail
            refine HAt.mono ?_
            rintro e X1 ⟨u, rfl, O1, g1⟩
            obtain ⟨xx, yy, rfl⟩ := O1.at.form
            have HG5 : Hid (U4.grownBy (X1.alloc (.cells (ccs springH (.slice xx e0.ps.length yy)) 32)) none) := grown_push (grown_trans HGi.out g1) _
            have HC5 : CAt (X1.alloc (.cells (ccs springH (.slice xx e0.ps.length yy)) 32)) X1.heap.size springH (.slice xx e0.ps.length yy) := alloc_at _ _ _
            obtain ⟨X2, hX2⟩ : ∃ X2, X2 = X1.alloc (.cells (ccs springH (.slice xx e0.ps.length yy)) 32) := ⟨_, rfl⟩
            rw [← hX2] at HG5 HC5
            have a13 : X2.cell? ⟨X1.heap.size, 0, none⟩ = some (.string ⟨#[115, 112, 114, 105, 110, 103]⟩) := HC5.cells.1
            have n13 : X2.cell? ⟨M, 5, none⟩ = some (.string ⟨#[115, 112, 114, 105, 110, 103]⟩) := (block_cell (grown_keep HG5.out HA4.out (by simp)) 5).trans rfl
            unfold ccs springH at hX2
            clear O1 g1 HAt HC5 he0 hh0
            go_upto_region 30 with fail
            rw [← hX2]
            clear hX2
            refine wp_region_held_drew (S := fun w' => X2.grownBy w' none) (by kernel_rfl) (grown_drew _) (fun hHeld => ?_)
            refine wpAnyH_take (i := 0) (v := ?_) rfl (by kernel_rfl) (by kernel_rfl) (by kernel_rfl) (fun _ _ _ h => h) (Or.inl ⟨by rfl, ?_⟩) (by assumption) ?_
            rotate_left 1
            · (intro w0 hSw; go_simp; try with_reducible rfl)
            simp only [List.getElem_toArray, List.getElem_cons_zero]
            go_frame
            refine wpAnyH_take (i := 1) (v := ?_) rfl (by kernel_rfl) (by kernel_rfl) (by kernel_rfl) (fun _ _ _ h => h) (Or.inl ⟨by rfl, ?_⟩) (by assumption) ?_
            rotate_left 1
            · (intro w0 hSw; go_simp; try with_reducible rfl)
            simp only [List.getElem_toArray, List.getElem_cons_zero, List.getElem_cons_succ]
            go_frame
            refine wpAnyH_take (i := 2) (v := ?_) rfl (by kernel_rfl) (by kernel_rfl) (by kernel_rfl) (fun _ _ _ h => h) (Or.inl ⟨by rfl, ?_⟩) (by assumption) ?_
            rotate_left 1
            · (intro w0 hSw; go_simp; try with_reducible rfl)
            simp only [List.getElem_toArray, List.getElem_cons_zero, List.getElem_cons_succ]
            go_frame
            refine wpAnyH_take (i := 3) (v := ?_) rfl (by kernel_rfl) (by kernel_rfl) (by kernel_rfl) (fun _ _ _ h => h) (Or.inl ⟨by rfl, ?_⟩) (by assumption) ?_
            rotate_left 1
            · (intro w0 hSw; go_simp; try with_reducible rfl)
            simp only [List.getElem_toArray, List.getElem_cons_zero, List.getElem_cons_succ]
            go_frame
            refine wpAnyH_take (i := 4) (v := ?_) rfl (by kernel_rfl) (by kernel_rfl) (by kernel_rfl) (fun _ _ _ h => h) (Or.inl ⟨by rfl, ?_⟩) (by assumption) ?_
            rotate_left 1
            · (intro w0 hSw; have a9 := World.grownBy.cell hSw a13 (by simp); go_simp; try with_reducible rfl)
            simp only [List.getElem_toArray, List.getElem_cons_zero, List.getElem_cons_succ]
            go_frame
            refine wpAnyH_take (i := 5) (v := ?_) rfl (by kernel_rfl) (by kernel_rfl) (by kernel_rfl) (fun _ _ _ h => h) (Or.inl ⟨by rfl, ?_⟩) (by assumption) ?_
            rotate_left 1
            · (intro w0 hSw; go_simp; try with_reducible rfl)
            simp only [List.getElem_toArray, List.getElem_cons_zero, List.getElem_cons_succ]
            go_frame
            refine wpAnyH_take (i := 6) (v := ?_) rfl (by kernel_rfl) (by kernel_rfl) (by kernel_rfl) (fun _ _ _ h => h) (Or.inl ⟨by rfl, ?_⟩) (by assumption) ?_
            rotate_left 1
            · (intro w0 hSw; go_simp; try with_reducible rfl)
            simp only [List.getElem_toArray, List.getElem_cons_zero, List.getElem_cons_succ]
            go_frame
            refine wpAnyH_take (i := 7) (v := ?_) rfl (by kernel_rfl) (by kernel_rfl) (by kernel_rfl) (fun _ _ _ h => h) (Or.inl ⟨by rfl, ?_⟩) (by assumption) ?_
            rotate_left 1
            · (intro w0 hSw; go_simp; try with_reducible rfl)
            simp only [List.getElem_toArray, List.getElem_cons_zero, List.getElem_cons_succ]
            go_frame
            refine wpAnyH_take (i := 8) (v := ?_) rfl (by kernel_rfl) (by kernel_rfl) (by kernel_rfl) (fun _ _ _ h => h) (Or.inl ⟨by rfl, ?_⟩) (by assumption) ?_
            rotate_left 1
            · (intro w0 hSw; have a9 := World.grownBy.cell hSw n13 (by simp); go_simp; try with_reducible rfl)
            simp only [List.getElem_toArray, List.getElem_cons_zero, List.getElem_cons_succ]
            go_frame
            refine wpAnyH_take (i := 9) (v := ?_) rfl (by kernel_rfl) (by kernel_rfl) (by kernel_rfl) (fun _ _ _ h => h) (Or.inl ⟨by rfl, ?_⟩) (by assumption) ?_
            rotate_left 1
            · (intro w0 hSw; go_simp; try with_reducible rfl)
            simp only [List.getElem_toArray, List.getElem_cons_zero, List.getElem_cons_succ]
            go_frame
            refine wpAnyH_take (i := 10) (v := ?_) rfl (by kernel_rfl) (by kernel_rfl) (by kernel_rfl) (fun _ _ _ h => h) (Or.inl ⟨by rfl, ?_⟩) (by assumption) ?_
            rotate_left 1
            · (intro w0 hSw; go_simp; try with_reducible rfl)
            simp only [List.getElem_toArray, List.getElem_cons_zero, List.getElem_cons_succ]
            go_frame
            refine wpAnyH_done (by kernel_rfl) ?_ _
            have HG6 : Hid (U4.grownBy X2.drew none) := grown_trans HG5.out (grown_drew _)
            clear hHeld a13 n13 HG5
            go_wp2_with fail
            go_roundw
            case rel => exact ⟨6, by decide, rfl, HG6.out⟩
            case measure => decide
          · rw [show ((6 : Nat) : Int) = (6 : Int) from rfl]
            obtain ⟨e0, he0, hh0⟩ := same_get HSn.out (i := 6) (y := ⟨tideH, .bool false, tideP⟩) rfl
            have BX := HB4.out.keep HGi.out
            have HAt := at_in ok b hs pS 6 e0 X BX.lies BX.good rfl he0 (BX.parts e0 (List.mem_of_getElem? he0))
            rw [hh0, show (((6 : Nat) : Int) + 1) = (7 : Int) from rfl] at HAt
            clear BX
            unfold cv tideH at HAt
            go_wp2_with fail
            refine HAt.mono ?_
            rintro e X1 ⟨u, rfl, O1, g1⟩
            obtain ⟨xx, yy, rfl⟩ := O1.at.form
            have HG5 : Hid (U4.grownBy (X1.alloc (.cells (ccs tideH (.slice xx e0.ps.length yy)) 32)) none) := grown_push (grown_trans HGi.out g1) _
            have HC5 : CAt (X1.alloc (.cells (ccs tideH (.slice xx e0.ps.length yy)) 32)) X1.heap.size tideH (.slice xx e0.ps.length yy) := alloc_at _ _ _
            obtain ⟨X2, hX2⟩ : ∃ X2, X2 = X1.alloc (.cells (ccs tideH (.slice xx e0.ps.length yy)) 32) := ⟨_, rfl⟩
            rw [← hX2] at HG5 HC5
            have a13 : X2.cell? ⟨X1.heap.size, 0, none⟩ = some (.string ⟨#[116, 105, 100, 101]⟩) := HC5.cells.1
            have n13 : X2.cell? ⟨M, 6, none⟩ = some (.string ⟨#[116, 105, 100, 101]⟩) := (block_cell (grown_keep HG5.out HA4.out (by simp)) 6).trans rfl
            unfold ccs tideH at hX2
            clear O1 g1 HAt HC5 he0 hh0
            go_upto_region 30 with fail
            rw [← hX2]
            clear hX2
            refine wp_region_held_drew (S := fun w' => X2.grownBy w' none) (by kernel_rfl) (grown_drew _) (fun hHeld => ?_)
            refine wpAnyH_take (i := 0) (v := ?_) rfl (by kernel_rfl) (by kernel_rfl) (by kernel_rfl) (fun _ _ _ h => h) (Or.inl ⟨by rfl, ?_⟩) (by assumption) ?_
            rotate_left 1
            · (intro w0 hSw; go_simp; try with_reducible rfl)
            simp only [List.getElem_toArray, List.getElem_cons_zero]
            go_frame
            refine wpAnyH_take (i := 1) (v := ?_) rfl (by kernel_rfl) (by kernel_rfl) (by kernel_rfl) (fun _ _ _ h => h) (Or.inl ⟨by rfl, ?_⟩) (by assumption) ?_
            rotate_left 1
            · (intro w0 hSw; go_simp; try with_reducible rfl)
            simp only [List.getElem_toArray, List.getElem_cons_zero, List.getElem_cons_succ]
            go_frame
            refine wpAnyH_take (i := 2) (v := ?_) rfl (by kernel_rfl) (by kernel_rfl) (by kernel_rfl) (fun _ _ _ h => h) (Or.inl ⟨by rfl, ?_⟩) (by assumption) ?_
            rotate_left 1
            · (intro w0 hSw; go_simp; try with_reducible rfl)
            simp only [List.getElem_toArray, List.getElem_cons_zero, List.getElem_cons_succ]
            go_frame
            refine wpAnyH_take (i := 3) (v := ?_) rfl (by kernel_rfl) (by kernel_rfl) (by kernel_rfl) (fun _ _ _ h => h) (Or.inl ⟨by rfl, ?_⟩) (by assumption) ?_
            rotate_left 1
            · (intro w0 hSw; go_simp; try with_reducible rfl)
            simp only [List.getElem_toArray, List.getElem_cons_zero, List.getElem_cons_succ]
            go_frame
            refine wpAnyH_take (i := 4) (v := ?_) rfl (by kernel_rfl) (by kernel_rfl) (by kernel_rfl) (fun _ _ _ h => h) (Or.inl ⟨by rfl, ?_⟩) (by assumption) ?_
            rotate_left 1
            · (intro w0 hSw; have a9 := World.grownBy.cell hSw a13 (by simp); go_simp; try with_reducible rfl)
            simp only [List.getElem_toArray, List.getElem_cons_zero, List.getElem_cons_succ]
            go_frame
            refine wpAnyH_take (i := 5) (v := ?_) rfl (by kernel_rfl) (by kernel_rfl) (by kernel_rfl) (fun _ _ _ h => h) (Or.inl ⟨by rfl, ?_⟩) (by assumption) ?_
            rotate_left 1
            · (intro w0 hSw; go_simp; try with_reducible rfl)
            simp only [List.getElem_toArray, List.getElem_cons_zero, List.getElem_cons_succ]
            go_frame
            refine wpAnyH_take (i := 6) (v := ?_) rfl (by kernel_rfl) (by kernel_rfl) (by kernel_rfl) (fun _ _ _ h => h) (Or.inl ⟨by rfl, ?_⟩) (by assumption) ?_
            rotate_left 1
            · (intro w0 hSw; go_simp; try with_reducible rfl)
            simp only [List.getElem_toArray, List.getElem_cons_zero, List.getElem_cons_succ]
            go_frame
            refine wpAnyH_take (i := 7) (v := ?_) rfl (by kernel_rfl) (by kernel_rfl) (by kernel_rfl) (fun _ _ _ h => h) (Or.inl ⟨by rfl, ?_⟩) (by assumption) ?_
            rotate_left 1
            · (intro w0 hSw; go_simp; try with_reducible rfl)
            simp only [List.getElem_toArray, List.getElem_cons_zero, List.getElem_cons_succ]
            go_frame
            refine wpAnyH_take (i := 8) (v := ?_) rfl (by kernel_rfl) (by kernel_rfl) (by kernel_rfl) (fun _ _ _ h => h) (Or.inl ⟨by rfl, ?_⟩) (by assumption) ?_
            rotate_left 1
            · (intro w0 hSw; have a9 := World.grownBy.cell hSw n13 (by simp); go_simp; try with_reducible rfl)
            simp only [List.getElem_toArray, List.getElem_cons_zero, List.getElem_cons_succ]
            go_frame
            refine wpAnyH_take (i := 9) (v := ?_) rfl (by kernel_rfl) (by kernel_rfl) (by kernel_rfl) (fun _ _ _ h => h) (Or.inl ⟨by rfl, ?_⟩) (by assumption) ?_
            rotate_left 1
            · (intro w0 hSw; go_simp; try with_reducible rfl)
            simp only [List.getElem_toArray, List.getElem_cons_zero, List.getElem_cons_succ]
            go_frame
            refine wpAnyH_take (i := 10) (v := ?_) rfl (by kernel_rfl) (by kernel_rfl) (by kernel_rfl) (fun _ _ _ h => h) (Or.inl ⟨by rfl, ?_⟩) (by assumption) ?_
            rotate_left 1
            · (intro w0 hSw; go_simp; try with_reducible rfl)
            simp only [List.getElem_toArray, List.getElem_cons_zero, List.getElem_cons_succ]
            go_frame
            refine wpAnyH_done (by kernel_rfl) ?_ _
            have HG6 : Hid (U4.grownBy X2.drew none) := grown_trans HG5.out (grown_drew _)
            clear hHeld a13 n13 HG5
            go_wp2_with fail
            go_roundw
            case rel => exact ⟨7, by decide, rfl, HG6.out⟩
            case measure => decide
          · rw [show ((7 : Nat) : Int) = (7 : Int) from rfl]
            go_wp2_with fail
            refine (lives_wa _).mono ?_
            rintro e X1 ⟨rfl, g1⟩
            go_wp2
            go_ret
            exact ⟨rfl, grown_trans HG4.out (grown_trans HGi.out g1)⟩
end Go.Proofs.YtcldncojpgipcaaDoor
