/-
  GoldLists, walked: the law.
-/
import Derived.Test.YtpoicbefemjckaaGdC
namespace Go.Proofs.Ytpoicbefemjckaa
open Go.RowKit

set_option maxRecDepth 100000 in
set_option maxHeartbeats 4000000 in
theorem lists_gd (w : World) : Calls Try.prog 3 #[] w fun e w' => e = .returned (.bool true) ∧ w.grownBy w' none := by
  go_enter Try.func3, Try.ntmps3
  go_wp2_with fail
  refine (list_gd w).mono ?_
  rintro e V1 ⟨g, es, rfl, A⟩
  have HA : Hid (LAt w V1 g es) := A
  clear A
  go_wp2_with fail
  refine (list_gd V1).mono ?_
  rintro e V2 ⟨f, fs, rfl, B⟩
  have HB : Hid (LAt V1 V2 f fs) := B
  clear B
  obtain ⟨t, ht⟩ : ∃ t, t = V2.heap.size := ⟨_, rfl⟩
  have H2 : Hid (V2.heap.size = t) := ht.symm
  go_wp2_with fail
  refine (traits_gd V2).mono ?_
  rintro e V3 ⟨rfl, h3⟩
  have T3 : TB V3 t := by rw [h3, ht]; exact alloc_at _ _ _
  have G3 : V2.grownBy V3 none := by rw [h3]; exact World.grownBy_alloc _ _ none
  have s3 : V3.heap.size = t + 1 := by rw [h3, World.size_alloc, ht]
  have HT3 : Hid (TB V3 t) := T3
  have HG3 : Hid (V2.grownBy V3 none) := G3
  have HS3 : Hid (V3.heap.size = t + 1) := s3
  rw [← ht]
  clear h3 T3 G3 s3 ht
  go_wp2_with fail
  refine (traits_gd V3).mono ?_
  rintro e V4 ⟨rfl, h4⟩
  rw [HS3.out]
  have HT4 : Hid (TB V4 (t + 1)) := by rw [h4, ← HS3.out]; exact alloc_at _ _ _
  have HG4 : Hid (V3.grownBy V4 none) := by rw [h4]; exact World.grownBy_alloc _ _ none
  have HS4 : Hid (V4.heap.size = t + 2) := by show V4.heap.size = t + 2; rw [h4, World.size_alloc, HS3.out]
  clear h4
  go_wp2_with fail
  refine (marks_gd V4).mono ?_
  rintro e V5 ⟨rfl, h5⟩
  rw [HS4.out]
  have HM5 : Hid (MB V5 (t + 2)) := by rw [h5, ← HS4.out]; exact alloc_at _ _ _
  have HG5 : Hid (V4.grownBy V5 none) := by rw [h5]; exact World.grownBy_alloc _ _ none
  have HS5 : Hid (V5.heap.size = t + 3) := by show V5.heap.size = t + 3; rw [h5, World.size_alloc, HS4.out]
  clear h5
  go_wp2_with fail
  refine (marks_gd V5).mono ?_
  rintro e V6 ⟨rfl, h6⟩
  rw [HS5.out]
  have HM6 : Hid (MB V6 (t + 3)) := by rw [h6, ← HS5.out]; exact alloc_at _ _ _
  have HG6 : Hid (V5.grownBy V6 none) := by rw [h6]; exact World.grownBy_alloc _ _ none
  have HS6 : Hid (V6.heap.size = t + 4) := by show V6.heap.size = t + 4; rw [h6, World.size_alloc, HS5.out]
  clear h6
  go_wp2_with fail
  refine (rlist13 V6).mono ?_
  rintro e V7 ⟨rg, rs, rfl, RL, RB, RP, rlow, g7⟩
  have HG7 : Hid (V6.grownBy V7 none) := g7
  have HRL : Hid (LIs rs 6) := RL
  have HRB : Hid (V7.heap[rg]? = some (.cells (ecells rs).toArray 47 (0, 0))) := RB
  have HRP : Hid (∀ e ∈ rs, Own8 (t + 4) V7 e.v e.ps) := by rw [← HS6.out]; exact RP
  have HRg : Hid (t + 4 ≤ rg) := by rw [← HS6.out]; exact rlow
  have G27 : V2.grownBy V7 none := grown_trans HG3.out (grown_trans HG4.out (grown_trans HG5.out (grown_trans HG6.out g7)))
  have HG27 : Hid (V2.grownBy V7 none) := G27
  have hE7 := grown_keep G27 (grown_keep HB.out.gr HA.out.lies (by simp)) (by simp)
  have hF7 := grown_keep G27 HB.out.lies (by simp)
  have HSC := sc_gd g rg es rs V7 hE7 RB (fun e he => ((HA.out.own.own e he).at.keep HB.out.gr).keep G27) (fun e he => (RP e he).at) HA.out.is RL
  clear RL RB RP rlow g7 G27 hE7 hF7
  go_wp2_with fail
  refine HSC.mono ?_
  rintro e V9 ⟨rfl, g9⟩
  have HG9 : Hid (V7.grownBy V9 none) := g9
  clear g9 HSC
  go_wp2_with fail
  refine (rtraits13 V9).mono ?_
  rintro e V10 ⟨rfl, h10⟩
  have g10 : V9.grownBy V10 none := by rw [h10]; exact World.grownBy_alloc _ _ none
  have T10 : TB V10 V9.heap.size := by rw [h10]; exact alloc_at _ _ _
  have HG10 : Hid (V7.grownBy V10 none) := grown_trans HG9.out g10
  have HTt : Hid (TB V7 t ∧ TB V7 (t + 1)) := ⟨HT3.out.keep (grown_trans HG4.out (grown_trans HG5.out (grown_trans HG6.out HG7.out))), HT4.out.keep (grown_trans HG5.out (grown_trans HG6.out HG7.out))⟩
  have HMm : Hid (MB V7 (t + 2) ∧ MB V7 (t + 3)) := ⟨HM5.out.keep (grown_trans HG6.out HG7.out), HM6.out.keep HG7.out⟩
  have HST := st_gd t V9.heap.size V10 (HTt.out.1.keep HG10.out) T10
  clear h10 g10 T10 HG9
  go_wp2_with fail
  refine HST.mono ?_
  rintro e V12 ⟨rfl, g12⟩
  have HG12 : Hid (V7.grownBy V12 none) := grown_trans HG10.out g12
  clear g12 HST HG10
  go_wp2_with fail
  refine (rmarks13 V12).mono ?_
  rintro e V13 ⟨rfl, h13⟩
  have g13 : V12.grownBy V13 none := by rw [h13]; exact World.grownBy_alloc _ _ none
  have M13 : MB V13 V12.heap.size := by rw [h13]; exact alloc_at _ _ _
  have HG13 : Hid (V7.grownBy V13 none) := grown_trans HG12.out g13
  have HSM := sm_gd (t + 2) V12.heap.size V13 (HMm.out.1.keep HG13.out) M13
  clear h13 g13 M13 HG12
  go_wp2_with fail
  refine HSM.mono ?_
  rintro e V15 ⟨rfl, g15⟩
  have HG15 : Hid (V7.grownBy V15 none) := grown_trans HG13.out g15
  clear g15 HSM HG13
  go_wp2_with fail
  refine (number_gd V15).mono ?_
  rintro e V16 ⟨rfl, g16⟩
  go_wp2_with fail
  refine (rnumber13 V16).mono ?_
  rintro e V17 ⟨rfl, g17⟩
  have HG17 : Hid (V7.grownBy V17 none) := grown_trans HG15.out (grown_trans g16 g17)
  clear g16 g17 HG15
  obtain ⟨q, hq⟩ : ∃ q, q = V17.heap.size := ⟨_, rfl⟩
  obtain ⟨V18, h18⟩ : ∃ V18, V18 = V17.alloc (.cells #[.slice (some ⟨g, 0, none⟩) 6 6, .slice (some ⟨f, 0, none⟩) 6 6] 22) := ⟨_, rfl⟩
  have g18 : V17.grownBy V18 none := by rw [h18]; exact World.grownBy_alloc _ _ none
  have HG18 : Hid (V7.grownBy V18 none) := grown_trans HG17.out g18
  have G218 : V2.grownBy V18 none := grown_trans HG27.out HG18.out
  have hq2 : V2.heap.size ≤ q := by rw [hq]; exact Nat.le_trans HG27.out.size HG17.out.size
  obtain ⟨hA, hbl⟩ := apC_two (q := q) HA.out HB.out G218 (by rw [h18, hq]; exact alloc_at _ _ _) hq2
  have HBl : Hid (∀ b, b ∈ blocks ((flat [(g, es), (f, fs)]).map lstOf) ++ cblocks [(g, es), (f, fs)] → w.heap.size ≤ b ∧ b < t) := by rw [← H2.out]; exact hbl
  have HAC := apartC_any q 2 [(g, es), (f, fs)] V18 hA (fun hb => by have := hbl q (List.mem_append_left _ hb); omega)
  rw [show [(g, es), (f, fs)].length = 2 from rfl] at HAC
  have HW18 : Hid (w.grownBy V18 none) := grown_trans HA.out.gr (grown_trans HB.out.gr G218)
  have H18 : Hid (V18 = V17.alloc (.cells #[.slice (some ⟨g, 0, none⟩) 6 6, .slice (some ⟨f, 0, none⟩) 6 6] 22)) := h18
  have Hq : Hid (q = V17.heap.size) := hq
  clear g18 G218 hA hbl hq2 h18 hq HG17
  go_wp2_with fail
  rw [← H18.out, ← Hq.out]
  refine HAC.mono ?_
  rintro e V19 ⟨rfl, K19⟩
  have HW19 : Hid (w.grownBy V19 none) := Kpt.new HW18.out K19 (fun b hb => (HBl.out b hb).1)
  have HT19 : Hid (TB V19 t ∧ TB V19 (t + 1)) := ⟨K19.keep (HTt.out.1.keep HG18.out) (fun hb => by have := (HBl.out _ hb).2; omega), K19.keep (HTt.out.2.keep HG18.out) (fun hb => by have := (HBl.out _ hb).2; omega)⟩
  have HM19 : Hid (MB V19 (t + 2) ∧ MB V19 (t + 3)) := ⟨K19.keep (HMm.out.1.keep HG18.out) (fun hb => by have := (HBl.out _ hb).2; omega), K19.keep (HMm.out.2.keep HG18.out) (fun hb => by have := (HBl.out _ hb).2; omega)⟩
  have HR19 : Hid (V19.heap[rg]? = some (.cells (ecells rs).toArray 47 (0, 0))) := K19.keep (grown_keep HG18.out HRB.out (by simp)) (fun hb => by have := (HBl.out _ hb).2; have := HRg.out; omega)
  have HP19 : Hid (∀ e ∈ rs, Own8 (t + 4) V19 e.v e.ps) := fun e he => ((HRP.out e he).keep HG18.out).kpt K19 (fun b hb => by have := (HBl.out _ hb).2; omega)
  have Hwt : Hid (w.heap.size ≤ t) := by rw [← H2.out]; exact Nat.le_trans HA.out.gr.size HB.out.gr.size
  clear K19 HAC H18 Hq HBl HW18 HG18 HRB HRP HTt HMm HA HB HG3 HG4 HG5 HG6 HG7 HG27 HT3 HT4 HM5 HM6 HS3 HS4 HS5 HS6
  obtain ⟨q2, hq2⟩ : ∃ q2, q2 = V19.heap.size := ⟨_, rfl⟩
  obtain ⟨V20, h20⟩ : ∃ V20, V20 = V19.alloc (.cells #[.slice (some ⟨t, 0, none⟩) 1 1, .slice (some ⟨t + 1, 0, none⟩) 1 1] 24) := ⟨_, rfl⟩
  have hQ2 : V20.heap[q2]? = some (.cells #[.slice (some ⟨t, 0, none⟩) 1 1, .slice (some ⟨t + 1, 0, none⟩) 1 1] 24 (0, 0)) := by rw [h20, hq2]; exact alloc_at _ _ _
  have g20 : V19.grownBy V20 none := by rw [h20]; exact World.grownBy_alloc _ _ none
  have HAT := apartT_any q2 2 [⟨some t, 1, 1⟩, ⟨some (t + 1), 1, 1⟩] V20 (by simp) (by simp) (fun j x hj => by
      rcases j with _ | _ | j
      · obtain rfl : (⟨some t, 1, 1⟩ : Lst) = x := by simpa using hj
        rw [block_cell hQ2]; rfl
      · obtain rfl : (⟨some (t + 1), 1, 1⟩ : Lst) = x := by simpa using hj
        rw [block_cell hQ2]; rfl
      · simp at hj) (fun x hx => by
      simp only [List.mem_cons, List.not_mem_nil, or_false] at hx
      rcases hx with rfl | rfl
      · exact Or.inr ⟨t, rfl, Nat.le_refl _, by unfold lim maxLen; simp only; omega, _, HT19.out.1.keep g20, rfl⟩
      · exact Or.inr ⟨t + 1, rfl, Nat.le_refl _, by unfold lim maxLen; simp only; omega, _, HT19.out.2.keep g20, rfl⟩) (diff_two (by omega))
  rw [show [(⟨some t, 1, 1⟩ : Lst), ⟨some (t + 1), 1, 1⟩].length = 2 from rfl] at HAT
  have HG20 : Hid (V19.grownBy V20 none) := g20
  have H20 : Hid (V20 = V19.alloc (.cells #[.slice (some ⟨t, 0, none⟩) 1 1, .slice (some ⟨t + 1, 0, none⟩) 1 1] 24)) := h20
  have Hq2 : Hid (q2 = V19.heap.size) := hq2
  clear hq2 h20 hQ2 g20 HT19
  go_wp2_with fail
  rw [← H20.out, ← Hq2.out]
  refine HAT.mono ?_
  rintro e V21 ⟨rfl, K21⟩
  have hS : ∀ b, b ∈ blocks [(⟨some t, 1, 1⟩ : Lst), ⟨some (t + 1), 1, 1⟩] → b = t ∨ b = t + 1 := fun b hb => by simpa [blocks] using hb
  have HW21 : Hid (w.grownBy V21 none) := Kpt.new (grown_trans HW19.out HG20.out) K21 (fun b hb => by have := hS b hb; have := Hwt.out; omega)
  have HM21 : Hid (MB V21 (t + 2) ∧ MB V21 (t + 3)) := ⟨K21.keep (HM19.out.1.keep HG20.out) (fun hb => by have := hS _ hb; omega), K21.keep (HM19.out.2.keep HG20.out) (fun hb => by have := hS _ hb; omega)⟩
  have HR21 : Hid (V21.heap[rg]? = some (.cells (ecells rs).toArray 47 (0, 0))) := K21.keep (grown_keep HG20.out HR19.out (by simp)) (fun hb => by have := hS _ hb; have := HRg.out; omega)
  have HP21 : Hid (∀ e ∈ rs, Own8 (t + 4) V21 e.v e.ps) := fun e he => ((HP19.out e he).keep HG20.out).kpt K21 (fun b hb => by have := hS _ hb; omega)
  clear K21 HAT H20 Hq2 hS HG20 HW19 HM19 HR19 HP19
  obtain ⟨q3, hq3⟩ : ∃ q3, q3 = V21.heap.size := ⟨_, rfl⟩
  obtain ⟨V22, h22⟩ : ∃ V22, V22 = V21.alloc (.cells #[.slice (some ⟨t + 2, 0, none⟩) 1 1, .slice (some ⟨t + 3, 0, none⟩) 1 1] 26) := ⟨_, rfl⟩
  have hQ3 : V22.heap[q3]? = some (.cells #[.slice (some ⟨t + 2, 0, none⟩) 1 1, .slice (some ⟨t + 3, 0, none⟩) 1 1] 26 (0, 0)) := by rw [h22, hq3]; exact alloc_at _ _ _
  have g22 : V21.grownBy V22 none := by rw [h22]; exact World.grownBy_alloc _ _ none
  have HAM := apartM_any q3 2 [⟨some (t + 2), 1, 1⟩, ⟨some (t + 3), 1, 1⟩] V22 (by simp) (by simp) (fun j x hj => by
      rcases j with _ | _ | j
      · obtain rfl : (⟨some (t + 2), 1, 1⟩ : Lst) = x := by simpa using hj
        rw [block_cell hQ3]; rfl
      · obtain rfl : (⟨some (t + 3), 1, 1⟩ : Lst) = x := by simpa using hj
        rw [block_cell hQ3]; rfl
      · simp at hj) (fun x hx => by
      simp only [List.mem_cons, List.not_mem_nil, or_false] at hx
      rcases hx with rfl | rfl
      · exact Or.inr ⟨t + 2, rfl, Nat.le_refl _, by unfold lim maxLen; simp only; omega, _, HM21.out.1.keep g22, rfl⟩
      · exact Or.inr ⟨t + 3, rfl, Nat.le_refl _, by unfold lim maxLen; simp only; omega, _, HM21.out.2.keep g22, rfl⟩) (diff_two (by omega))
  rw [show [(⟨some (t + 2), 1, 1⟩ : Lst), ⟨some (t + 3), 1, 1⟩].length = 2 from rfl] at HAM
  have HG22 : Hid (V21.grownBy V22 none) := g22
  have H22 : Hid (V22 = V21.alloc (.cells #[.slice (some ⟨t + 2, 0, none⟩) 1 1, .slice (some ⟨t + 3, 0, none⟩) 1 1] 26)) := h22
  have Hq3 : Hid (q3 = V21.heap.size) := hq3
  clear hq3 h22 hQ3 g22 HM21
  go_wp2_with fail
  rw [← H22.out, ← Hq3.out]
  refine HAM.mono ?_
  rintro e V23 ⟨rfl, K23⟩
  have hS : ∀ b, b ∈ blocks [(⟨some (t + 2), 1, 1⟩ : Lst), ⟨some (t + 3), 1, 1⟩] → b = t + 2 ∨ b = t + 3 := fun b hb => by simpa [blocks] using hb
  have HW23 : Hid (w.grownBy V23 none) := Kpt.new (grown_trans HW21.out HG22.out) K23 (fun b hb => by have := hS b hb; have := Hwt.out; omega)
  have HR23 : Hid (V23.heap[rg]? = some (.cells (ecells rs).toArray 47 (0, 0))) := K23.keep (grown_keep HG22.out HR21.out (by simp)) (fun hb => by have := hS _ hb; have := HRg.out; omega)
  have HP23 : Hid (∀ e ∈ rs, Own8 (t + 4) V23 e.v e.ps) := fun e he => ((HP21.out e he).keep HG22.out).kpt K23 (fun b hb => by have := hS _ hb; omega)
  clear K23 HAM H22 Hq3 hS HG22 HW21 HR21 HP21
  go_wp2_with fail
  refine (list_gd V23).mono ?_
  rintro e V24 ⟨g3, es3, rfl, A3⟩
  have HA3 : Hid (LAt V23 V24 g3 es3) := A3
  have HW24 : Hid (w.grownBy V24 none) := grown_trans HW23.out A3.gr
  clear A3 HR23 HP23 HW23
  go_wp2_with fail
  refine (rlist13 V24).mono ?_
  rintro e Y24 ⟨rg2, rs2, rfl, RL, RB, RP, rlow, g24⟩
  have HSE := sc_gd g3 rg2 es3 rs2 Y24 (grown_keep g24 HA3.out.lies (by simp)) RB (fun e he => (HA3.out.own.own e he).at.keep g24) (fun e he => (RP e he).at) HA3.out.is RL
  have HW24b : Hid (w.grownBy Y24 none) := grown_trans HW24.out g24
  clear RL RB RP rlow g24 HA3 HW24
  go_wp2_with fail
  refine HSE.mono ?_
  rintro e V25 ⟨rfl, g25⟩
  have HW25 : Hid (w.grownBy V25 none) := grown_trans HW24b.out g25
  clear g25 HSE HW24b
  go_wp2_with fail
  refine (traits_gd V25).mono ?_
  rintro e V26 ⟨rfl, h26⟩
  have g26 : V25.grownBy V26 none := by rw [h26]; exact World.grownBy_alloc _ _ none
  have T26 : TB V26 V25.heap.size := by rw [h26]; exact alloc_at _ _ _
  have HT26 : Hid (TB V26 V25.heap.size) := T26
  have HW26 : Hid (w.grownBy V26 none) := grown_trans HW25.out g26
  clear h26 g26 T26 HW25
  go_wp2_with fail
  refine (rtraits13 V26).mono ?_
  rintro e V27 ⟨rfl, h27⟩
  have g27 : V26.grownBy V27 none := by rw [h27]; exact World.grownBy_alloc _ _ none
  have T27 : TB V27 V26.heap.size := by rw [h27]; exact alloc_at _ _ _
  have HSV := st_gd _ _ V27 (HT26.out.keep g27) T27
  have HW27 : Hid (w.grownBy V27 none) := grown_trans HW26.out g27
  clear h27 g27 T27 HW26 HT26
  go_wp2_with fail
  refine HSV.mono ?_
  rintro e V28 ⟨rfl, g28⟩
  have HW28 : Hid (w.grownBy V28 none) := grown_trans HW27.out g28
  clear g28 HSV HW27
  go_wp2_with fail
  refine (marks_gd V28).mono ?_
  rintro e V29 ⟨rfl, h29⟩
  have g29 : V28.grownBy V29 none := by rw [h29]; exact World.grownBy_alloc _ _ none
  have M29 : MB V29 V28.heap.size := by rw [h29]; exact alloc_at _ _ _
  have HM29 : Hid (MB V29 V28.heap.size) := M29
  have HW29 : Hid (w.grownBy V29 none) := grown_trans HW28.out g29
  clear h29 g29 M29 HW28
  go_wp2_with fail
  refine (rmarks13 V29).mono ?_
  rintro e V30 ⟨rfl, h30⟩
  have g30 : V29.grownBy V30 none := by rw [h30]; exact World.grownBy_alloc _ _ none
  have M30 : MB V30 V29.heap.size := by rw [h30]; exact alloc_at _ _ _
  have HSW := sm_gd _ _ V30 (HM29.out.keep g30) M30
  have HW30 : Hid (w.grownBy V30 none) := grown_trans HW29.out g30
  clear h30 g30 M30 HW29 HM29
  go_wp2_with fail
  refine HSW.mono ?_
  rintro e V31 ⟨rfl, g31⟩
  go_wp2
  go_ret
  exact ⟨rfl, grown_trans HW30.out g31⟩
end Go.Proofs.Ytpoicbefemjckaa
