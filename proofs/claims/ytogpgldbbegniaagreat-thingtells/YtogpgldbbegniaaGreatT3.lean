/-
  What Check and Same tell of every part. Each touches nothing that was there.
  When two parts are the same: Go's own test of two structs, effect.Same, the document's own.
  Lists of parts: where one lies, what is read of it; what the kit's SameParts, CopyParts, LentParts and KeptParts do with any list. What is told lies in memory of its own.
-/
import Derived.Test.YtogpgldbbegniaaGreatChk2
import Derived.Laws.StructEq
import Derived.OwnWalk
import Derived.Maps.AppendAt
import Derived.Laws.AppendOwnNone
namespace Go.Proofs.YtogpgldbbegniaaGreat
open Go.RowKit

theorem grown_out {a b c : World} (h : a.grownBy b none) (k : b.grownBy c none) : a.grownBy c none := grown_trans h k
theorem PAt.cells {w : World} {b : Nat} {p : Pt} (h : PAt w b p) : w.cell? ⟨b, 0, none⟩ = some (.int .u8 p.wn) ∧ w.cell? ⟨b, 1, none⟩ = some (.int .u8 p.vb) ∧ w.cell? ⟨b, 2, none⟩ = some (.int .u8 p.wm) ∧ w.cell? ⟨b, 3, none⟩ = some (.int .i64 p.ct) ∧ w.cell? ⟨b, 4, none⟩ = some (.int .u8 p.su) ∧ w.cell? ⟨b, 5, none⟩ = some (.int .u8 p.tr) ∧ w.cell? ⟨b, 6, none⟩ = some (.int .u8 p.mr) ∧ w.cell? ⟨b, 7, none⟩ = some (.string p.nm) :=
  ⟨block_cell h 0, block_cell h 1, block_cell h 2, block_cell h 3, block_cell h 4, block_cell h 5, block_cell h 6, block_cell h 7⟩
theorem grown_drew (w : World) : w.grownBy w.drew none := ⟨rfl, rfl, rfl, Nat.le_refl _, fun _ _ _ => rfl⟩
theorem box_start (w : World) (p : Pt) : ∃ W1, W1 = (w.alloc (.cells #[.int .u8 p.wn, .int .u8 p.vb, .int .u8 p.wm, .int .i64 p.ct, .int .u8 p.su, .int .u8 p.tr, .int .u8 p.mr, .string p.nm] 125)).drew ∧ PAt W1 w.heap.size p ∧ w.grownBy W1 none := ⟨_, rfl, PAt.new w p, grown_trans (World.grownBy_alloc _ _ _) (grown_drew _)⟩
set_option maxHeartbeats 4000000 in
set_option maxRecDepth 100000 in
theorem check_a (p : Pt) (w : World) (h1 : (wnt p.wn == 0) = true) : Calls Tryz.prog 161 #[pv p] w fun e w' => e = .returned (.int .i64 2) ∧ w.grownBy w' none := by
  unfold pv
  go_enter Tryz.func161, Tryz.ntmps161
  go_wp2_with fail
  go_region_held3 (fun w' => w'.cell? ⟨w.heap.size, 0, none⟩ = some (.int .u8 p.wn) ∧ w'.cell? ⟨w.heap.size, 1, none⟩ = some (.int .u8 p.vb)) (first | exact ⟨block_cell (alloc_at _ _ _) 0, block_cell (alloc_at _ _ _) 1⟩ | go_keep) (first | (go_at_call 195; refine (wantedBy_any _ _).mono ?_; rintro e w3 ⟨rfl, rfl⟩) | (go_at_call 196; refine (classOf_any _ _).mono ?_; rintro e w3 ⟨rfl, rfl⟩))
  obtain ⟨W0, hW0, A0, G0⟩ := box_start w p
  rw [← hW0]
  clear hW0
  obtain ⟨c0, c1, c2, c3, c4, c5, c6, c7⟩ := A0.cells
  go_wp2_with fail
  go_ret
  exact ⟨rfl, G0⟩
set_option maxHeartbeats 4000000 in
set_option maxRecDepth 100000 in
theorem check_b (p : Pt) (w : World) (h1 : (wnt p.wn == 0) = false) (h2 : (cls p.vb == 0) = true) : Calls Tryz.prog 161 #[pv p] w fun e w' => e = .returned (.int .i64 2) ∧ w.grownBy w' none := by
  unfold pv
  go_enter Tryz.func161, Tryz.ntmps161
  go_wp2_with fail
  go_region_held3 (fun w' => w'.cell? ⟨w.heap.size, 0, none⟩ = some (.int .u8 p.wn) ∧ w'.cell? ⟨w.heap.size, 1, none⟩ = some (.int .u8 p.vb)) (first | exact ⟨block_cell (alloc_at _ _ _) 0, block_cell (alloc_at _ _ _) 1⟩ | go_keep) (first | (go_at_call 195; refine (wantedBy_any _ _).mono ?_; rintro e w3 ⟨rfl, rfl⟩) | (go_at_call 196; refine (classOf_any _ _).mono ?_; rintro e w3 ⟨rfl, rfl⟩))
  obtain ⟨W0, hW0, A0, G0⟩ := box_start w p
  rw [← hW0]
  clear hW0
  obtain ⟨c0, c1, c2, c3, c4, c5, c6, c7⟩ := A0.cells
  go_wp2_with fail
  go_ret
  exact ⟨rfl, G0⟩
set_option maxHeartbeats 4000000 in
set_option maxRecDepth 100000 in
theorem check_c (p : Pt) (w : World) (h1 : (wnt p.wn == 0) = false) (h2 : (cls p.vb == 0) = false) (hI : isW p.wm = false) : Calls Tryz.prog 161 #[pv p] w fun e w' => e = .returned (.int .i64 2) ∧ w.grownBy w' none := by
  unfold pv
  go_enter Tryz.func161, Tryz.ntmps161
  go_wp2_with fail
  go_region_held3 (fun w' => w'.cell? ⟨w.heap.size, 0, none⟩ = some (.int .u8 p.wn) ∧ w'.cell? ⟨w.heap.size, 1, none⟩ = some (.int .u8 p.vb)) (first | exact ⟨block_cell (alloc_at _ _ _) 0, block_cell (alloc_at _ _ _) 1⟩ | go_keep) (first | (go_at_call 195; refine (wantedBy_any _ _).mono ?_; rintro e w3 ⟨rfl, rfl⟩) | (go_at_call 196; refine (classOf_any _ _).mono ?_; rintro e w3 ⟨rfl, rfl⟩))
  obtain ⟨W0, hW0, A0, G0⟩ := box_start w p
  rw [← hW0]
  clear hW0
  obtain ⟨c0, c1, c2, c3, c4, c5, c6, c7⟩ := A0.cells
  go_wp2_with (first | (go_at_call 197; refine (isWhom_any _ _).mono ?_; rintro e w3 ⟨rfl, hw⟩; obtain rfl : W0 = w3 := hw.symm; rw [hI]) | fail)
  go_ret
  exact ⟨rfl, G0⟩
set_option maxHeartbeats 4000000 in
set_option maxRecDepth 100000 in
theorem check_d (p : Pt) (w : World) (h1 : (wnt p.wn == 0) = false) (h2 : (cls p.vb == 0) = false) (hI : isW p.wm = true) (h4 : (cls p.vb == wnt p.wn) = false) : Calls Tryz.prog 161 #[pv p] w fun e w' => e = .returned (.int .i64 8) ∧ w.grownBy w' none := by
  unfold pv
  go_enter Tryz.func161, Tryz.ntmps161
  go_wp2_with fail
  go_region_held3 (fun w' => w'.cell? ⟨w.heap.size, 0, none⟩ = some (.int .u8 p.wn) ∧ w'.cell? ⟨w.heap.size, 1, none⟩ = some (.int .u8 p.vb)) (first | exact ⟨block_cell (alloc_at _ _ _) 0, block_cell (alloc_at _ _ _) 1⟩ | go_keep) (first | (go_at_call 195; refine (wantedBy_any _ _).mono ?_; rintro e w3 ⟨rfl, rfl⟩) | (go_at_call 196; refine (classOf_any _ _).mono ?_; rintro e w3 ⟨rfl, rfl⟩))
  obtain ⟨W0, hW0, A0, G0⟩ := box_start w p
  rw [← hW0]
  clear hW0
  obtain ⟨c0, c1, c2, c3, c4, c5, c6, c7⟩ := A0.cells
  have h5 : (cls p.vb != wnt p.wn) = true := by simp [bne, h4]
  go_wp2_with (first | (go_at_call 197; refine (isWhom_any _ _).mono ?_; rintro e w3 ⟨rfl, hw⟩; obtain rfl : W0 = w3 := hw.symm; rw [hI]) | fail)
  go_ret
  exact ⟨rfl, G0⟩
set_option maxHeartbeats 4000000 in
set_option maxRecDepth 100000 in
theorem check_e (p : Pt) (w : World) (h1 : (wnt p.wn == 0) = false) (h2 : (cls p.vb == 0) = false) (hI : isW p.wm = true) (h4 : (cls p.vb == wnt p.wn) = true) (hD : decide (p.vb = 11 ∧ p.wm = 9) = true) : Calls Tryz.prog 161 #[pv p] w fun e w' => e = .returned (.int .i64 8) ∧ w.grownBy w' none := by
  unfold pv
  go_enter Tryz.func161, Tryz.ntmps161
  go_wp2_with fail
  go_region_held3 (fun w' => w'.cell? ⟨w.heap.size, 0, none⟩ = some (.int .u8 p.wn) ∧ w'.cell? ⟨w.heap.size, 1, none⟩ = some (.int .u8 p.vb)) (first | exact ⟨block_cell (alloc_at _ _ _) 0, block_cell (alloc_at _ _ _) 1⟩ | go_keep) (first | (go_at_call 195; refine (wantedBy_any _ _).mono ?_; rintro e w3 ⟨rfl, rfl⟩) | (go_at_call 196; refine (classOf_any _ _).mono ?_; rintro e w3 ⟨rfl, rfl⟩))
  obtain ⟨W0, hW0, A0, G0⟩ := box_start w p
  rw [← hW0]
  clear hW0
  obtain ⟨c0, c1, c2, c3, c4, c5, c6, c7⟩ := A0.cells
  have h5 : (cls p.vb != wnt p.wn) = false := by simp [bne, h4]
  go_wp2_with (first | (go_at_call 197; refine (isWhom_any _ _).mono ?_; rintro e w3 ⟨rfl, hw⟩; obtain rfl : W0 = w3 := hw.symm; rw [hI]) | fail)
  refine (dyes_any p W0).mono ?_
  rintro e W1 ⟨rfl, g⟩
  rw [hD]
  have A1 := A0.keep g
  have G1 := grown_trans G0 g
  clear c0 c1 c2 c3 c4 c5 c6 c7 g A0 G0
  obtain ⟨c0, c1, c2, c3, c4, c5, c6, c7⟩ := A1.cells
  go_wp2_with fail
  go_ret
  exact ⟨rfl, G1⟩
set_option maxHeartbeats 4000000 in
set_option maxRecDepth 100000 in
theorem check_f (p : Pt) (w : World) (h1 : (wnt p.wn == 0) = false) (h2 : (cls p.vb == 0) = false) (hI : isW p.wm = true) (h4 : (cls p.vb == wnt p.wn) = true) (hD : decide (p.vb = 11 ∧ p.wm = 9) = false) (hB : abt p.wn p.vb p.wm = false) : Calls Tryz.prog 161 #[pv p] w fun e w' => e = .returned (.int .i64 13) ∧ w.grownBy w' none := by
  unfold pv
  go_enter Tryz.func161, Tryz.ntmps161
  go_wp2_with fail
  go_region_held3 (fun w' => w'.cell? ⟨w.heap.size, 0, none⟩ = some (.int .u8 p.wn) ∧ w'.cell? ⟨w.heap.size, 1, none⟩ = some (.int .u8 p.vb)) (first | exact ⟨block_cell (alloc_at _ _ _) 0, block_cell (alloc_at _ _ _) 1⟩ | go_keep) (first | (go_at_call 195; refine (wantedBy_any _ _).mono ?_; rintro e w3 ⟨rfl, rfl⟩) | (go_at_call 196; refine (classOf_any _ _).mono ?_; rintro e w3 ⟨rfl, rfl⟩))
  obtain ⟨W0, hW0, A0, G0⟩ := box_start w p
  rw [← hW0]
  clear hW0
  obtain ⟨c0, c1, c2, c3, c4, c5, c6, c7⟩ := A0.cells
  have h5 : (cls p.vb != wnt p.wn) = false := by simp [bne, h4]
  go_wp2_with (first | (go_at_call 197; refine (isWhom_any _ _).mono ?_; rintro e w3 ⟨rfl, hw⟩; obtain rfl : W0 = w3 := hw.symm; rw [hI]) | fail)
  refine (dyes_any p W0).mono ?_
  rintro e W1 ⟨rfl, g⟩
  rw [hD]
  have A1 := A0.keep g
  have G1 := grown_trans G0 g
  clear c0 c1 c2 c3 c4 c5 c6 c7 g A0 G0
  obtain ⟨c0, c1, c2, c3, c4, c5, c6, c7⟩ := A1.cells
  go_wp2_with fail
  refine (abt_any p W1).mono ?_
  rintro e W2 ⟨rfl, g⟩
  rw [hB]
  have A2 := A1.keep g
  have G2 := grown_trans G1 g
  clear c0 c1 c2 c3 c4 c5 c6 c7 g A1 G1
  obtain ⟨c0, c1, c2, c3, c4, c5, c6, c7⟩ := A2.cells
  go_wp2_with fail
  go_ret
  exact ⟨rfl, G2⟩
set_option maxHeartbeats 4000000 in
set_option maxRecDepth 100000 in
theorem check_g (p : Pt) (w : World) (h1 : (wnt p.wn == 0) = false) (h2 : (cls p.vb == 0) = false) (hI : isW p.wm = true) (h4 : (cls p.vb == wnt p.wn) = true) (hD : decide (p.vb = 11 ∧ p.wm = 9) = false) (hB : abt p.wn p.vb p.wm = true) (hC : cfit p.vb p.ct = false) : Calls Tryz.prog 161 #[pv p] w fun e w' => e = .returned (.int .i64 2) ∧ w.grownBy w' none := by
  unfold pv
  go_enter Tryz.func161, Tryz.ntmps161
  go_wp2_with fail
  go_region_held3 (fun w' => w'.cell? ⟨w.heap.size, 0, none⟩ = some (.int .u8 p.wn) ∧ w'.cell? ⟨w.heap.size, 1, none⟩ = some (.int .u8 p.vb)) (first | exact ⟨block_cell (alloc_at _ _ _) 0, block_cell (alloc_at _ _ _) 1⟩ | go_keep) (first | (go_at_call 195; refine (wantedBy_any _ _).mono ?_; rintro e w3 ⟨rfl, rfl⟩) | (go_at_call 196; refine (classOf_any _ _).mono ?_; rintro e w3 ⟨rfl, rfl⟩))
  obtain ⟨W0, hW0, A0, G0⟩ := box_start w p
  rw [← hW0]
  clear hW0
  obtain ⟨c0, c1, c2, c3, c4, c5, c6, c7⟩ := A0.cells
  have h5 : (cls p.vb != wnt p.wn) = false := by simp [bne, h4]
  go_wp2_with (first | (go_at_call 197; refine (isWhom_any _ _).mono ?_; rintro e w3 ⟨rfl, hw⟩; obtain rfl : W0 = w3 := hw.symm; rw [hI]) | fail)
  refine (dyes_any p W0).mono ?_
  rintro e W1 ⟨rfl, g⟩
  rw [hD]
  have A1 := A0.keep g
  have G1 := grown_trans G0 g
  clear c0 c1 c2 c3 c4 c5 c6 c7 g A0 G0
  obtain ⟨c0, c1, c2, c3, c4, c5, c6, c7⟩ := A1.cells
  go_wp2_with fail
  refine (abt_any p W1).mono ?_
  rintro e W2 ⟨rfl, g⟩
  rw [hB]
  have A2 := A1.keep g
  have G2 := grown_trans G1 g
  clear c0 c1 c2 c3 c4 c5 c6 c7 g A1 G1
  obtain ⟨c0, c1, c2, c3, c4, c5, c6, c7⟩ := A2.cells
  go_wp2_with fail
  refine (cfit_any p W2).mono ?_
  rintro e W3 ⟨rfl, g⟩
  rw [hC]
  have A3 := A2.keep g
  have G3 := grown_trans G2 g
  clear c0 c1 c2 c3 c4 c5 c6 c7 g A2 G2
  obtain ⟨c0, c1, c2, c3, c4, c5, c6, c7⟩ := A3.cells
  go_wp2_with fail
  go_ret
  exact ⟨rfl, G3⟩
set_option maxHeartbeats 4000000 in
set_option maxRecDepth 100000 in
theorem check_h (p : Pt) (w : World) (h1 : (wnt p.wn == 0) = false) (h2 : (cls p.vb == 0) = false) (hI : isW p.wm = true) (h4 : (cls p.vb == wnt p.wn) = true) (hD : decide (p.vb = 11 ∧ p.wm = 9) = false) (hB : abt p.wn p.vb p.wm = true) (hC : cfit p.vb p.ct = true) (hK : kfit p = false) : Calls Tryz.prog 161 #[pv p] w fun e w' => e = .returned (.int .i64 2) ∧ w.grownBy w' none := by
  unfold pv
  go_enter Tryz.func161, Tryz.ntmps161
  go_wp2_with fail
  go_region_held3 (fun w' => w'.cell? ⟨w.heap.size, 0, none⟩ = some (.int .u8 p.wn) ∧ w'.cell? ⟨w.heap.size, 1, none⟩ = some (.int .u8 p.vb)) (first | exact ⟨block_cell (alloc_at _ _ _) 0, block_cell (alloc_at _ _ _) 1⟩ | go_keep) (first | (go_at_call 195; refine (wantedBy_any _ _).mono ?_; rintro e w3 ⟨rfl, rfl⟩) | (go_at_call 196; refine (classOf_any _ _).mono ?_; rintro e w3 ⟨rfl, rfl⟩))
  obtain ⟨W0, hW0, A0, G0⟩ := box_start w p
  rw [← hW0]
  clear hW0
  obtain ⟨c0, c1, c2, c3, c4, c5, c6, c7⟩ := A0.cells
  have h5 : (cls p.vb != wnt p.wn) = false := by simp [bne, h4]
  go_wp2_with (first | (go_at_call 197; refine (isWhom_any _ _).mono ?_; rintro e w3 ⟨rfl, hw⟩; obtain rfl : W0 = w3 := hw.symm; rw [hI]) | fail)
  refine (dyes_any p W0).mono ?_
  rintro e W1 ⟨rfl, g⟩
  rw [hD]
  have A1 := A0.keep g
  have G1 := grown_trans G0 g
  clear c0 c1 c2 c3 c4 c5 c6 c7 g A0 G0
  obtain ⟨c0, c1, c2, c3, c4, c5, c6, c7⟩ := A1.cells
  go_wp2_with fail
  refine (abt_any p W1).mono ?_
  rintro e W2 ⟨rfl, g⟩
  rw [hB]
  have A2 := A1.keep g
  have G2 := grown_trans G1 g
  clear c0 c1 c2 c3 c4 c5 c6 c7 g A1 G1
  obtain ⟨c0, c1, c2, c3, c4, c5, c6, c7⟩ := A2.cells
  go_wp2_with fail
  refine (cfit_any p W2).mono ?_
  rintro e W3 ⟨rfl, g⟩
  rw [hC]
  have A3 := A2.keep g
  have G3 := grown_trans G2 g
  clear c0 c1 c2 c3 c4 c5 c6 c7 g A2 G2
  obtain ⟨c0, c1, c2, c3, c4, c5, c6, c7⟩ := A3.cells
  go_wp2_with fail
  refine (kfit_any p W3).mono ?_
  rintro e W4 ⟨rfl, g⟩
  rw [hK]
  have A4 := A3.keep g
  have G4 := grown_trans G3 g
  clear c0 c1 c2 c3 c4 c5 c6 c7 g A3 G3
  obtain ⟨c0, c1, c2, c3, c4, c5, c6, c7⟩ := A4.cells
  go_wp2_with fail
  go_ret
  exact ⟨rfl, G4⟩
set_option maxHeartbeats 4000000 in
set_option maxRecDepth 100000 in
theorem check_i (p : Pt) (w : World) (h1 : (wnt p.wn == 0) = false) (h2 : (cls p.vb == 0) = false) (hI : isW p.wm = true) (h4 : (cls p.vb == wnt p.wn) = true) (hD : decide (p.vb = 11 ∧ p.wm = 9) = false) (hB : abt p.wn p.vb p.wm = true) (hC : cfit p.vb p.ct = true) (hK : kfit p = true) (hN : nfit p = false) : Calls Tryz.prog 161 #[pv p] w fun e w' => e = .returned (.int .i64 4) ∧ w.grownBy w' none := by
  unfold pv
  go_enter Tryz.func161, Tryz.ntmps161
  go_wp2_with fail
  go_region_held3 (fun w' => w'.cell? ⟨w.heap.size, 0, none⟩ = some (.int .u8 p.wn) ∧ w'.cell? ⟨w.heap.size, 1, none⟩ = some (.int .u8 p.vb)) (first | exact ⟨block_cell (alloc_at _ _ _) 0, block_cell (alloc_at _ _ _) 1⟩ | go_keep) (first | (go_at_call 195; refine (wantedBy_any _ _).mono ?_; rintro e w3 ⟨rfl, rfl⟩) | (go_at_call 196; refine (classOf_any _ _).mono ?_; rintro e w3 ⟨rfl, rfl⟩))
  obtain ⟨W0, hW0, A0, G0⟩ := box_start w p
  rw [← hW0]
  clear hW0
  obtain ⟨c0, c1, c2, c3, c4, c5, c6, c7⟩ := A0.cells
  have h5 : (cls p.vb != wnt p.wn) = false := by simp [bne, h4]
  go_wp2_with (first | (go_at_call 197; refine (isWhom_any _ _).mono ?_; rintro e w3 ⟨rfl, hw⟩; obtain rfl : W0 = w3 := hw.symm; rw [hI]) | fail)
  refine (dyes_any p W0).mono ?_
  rintro e W1 ⟨rfl, g⟩
  rw [hD]
  have A1 := A0.keep g
  have G1 := grown_trans G0 g
  clear c0 c1 c2 c3 c4 c5 c6 c7 g A0 G0
  obtain ⟨c0, c1, c2, c3, c4, c5, c6, c7⟩ := A1.cells
  go_wp2_with fail
  refine (abt_any p W1).mono ?_
  rintro e W2 ⟨rfl, g⟩
  rw [hB]
  have A2 := A1.keep g
  have G2 := grown_trans G1 g
  clear c0 c1 c2 c3 c4 c5 c6 c7 g A1 G1
  obtain ⟨c0, c1, c2, c3, c4, c5, c6, c7⟩ := A2.cells
  go_wp2_with fail
  refine (cfit_any p W2).mono ?_
  rintro e W3 ⟨rfl, g⟩
  rw [hC]
  have A3 := A2.keep g
  have G3 := grown_trans G2 g
  clear c0 c1 c2 c3 c4 c5 c6 c7 g A2 G2
  obtain ⟨c0, c1, c2, c3, c4, c5, c6, c7⟩ := A3.cells
  go_wp2_with fail
  refine (kfit_any p W3).mono ?_
  rintro e W4 ⟨rfl, g⟩
  rw [hK]
  have A4 := A3.keep g
  have G4 := grown_trans G3 g
  clear c0 c1 c2 c3 c4 c5 c6 c7 g A3 G3
  obtain ⟨c0, c1, c2, c3, c4, c5, c6, c7⟩ := A4.cells
  go_wp2_with fail
  refine (nfit_any p W4).mono ?_
  rintro e W5 ⟨rfl, g⟩
  rw [hN]
  have A5 := A4.keep g
  have G5 := grown_trans G4 g
  clear c0 c1 c2 c3 c4 c5 c6 c7 g A4 G4
  obtain ⟨c0, c1, c2, c3, c4, c5, c6, c7⟩ := A5.cells
  go_wp2_with fail
  go_ret
  exact ⟨rfl, G5⟩
set_option maxHeartbeats 4000000 in
set_option maxRecDepth 100000 in
theorem check_j (p : Pt) (w : World) (h1 : (wnt p.wn == 0) = false) (h2 : (cls p.vb == 0) = false) (hI : isW p.wm = true) (h4 : (cls p.vb == wnt p.wn) = true) (hD : decide (p.vb = 11 ∧ p.wm = 9) = false) (hB : abt p.wn p.vb p.wm = true) (hC : cfit p.vb p.ct = true) (hK : kfit p = true) (hN : nfit p = true) : Calls Tryz.prog 161 #[pv p] w fun e w' => e = .returned (.int .i64 0) ∧ w.grownBy w' none := by
  unfold pv
  go_enter Tryz.func161, Tryz.ntmps161
  go_wp2_with fail
  go_region_held3 (fun w' => w'.cell? ⟨w.heap.size, 0, none⟩ = some (.int .u8 p.wn) ∧ w'.cell? ⟨w.heap.size, 1, none⟩ = some (.int .u8 p.vb)) (first | exact ⟨block_cell (alloc_at _ _ _) 0, block_cell (alloc_at _ _ _) 1⟩ | go_keep) (first | (go_at_call 195; refine (wantedBy_any _ _).mono ?_; rintro e w3 ⟨rfl, rfl⟩) | (go_at_call 196; refine (classOf_any _ _).mono ?_; rintro e w3 ⟨rfl, rfl⟩))
  obtain ⟨W0, hW0, A0, G0⟩ := box_start w p
  rw [← hW0]
  clear hW0
  obtain ⟨c0, c1, c2, c3, c4, c5, c6, c7⟩ := A0.cells
  have h5 : (cls p.vb != wnt p.wn) = false := by simp [bne, h4]
  go_wp2_with (first | (go_at_call 197; refine (isWhom_any _ _).mono ?_; rintro e w3 ⟨rfl, hw⟩; obtain rfl : W0 = w3 := hw.symm; rw [hI]) | fail)
  refine (dyes_any p W0).mono ?_
  rintro e W1 ⟨rfl, g⟩
  rw [hD]
  have A1 := A0.keep g
  have G1 := grown_trans G0 g
  clear c0 c1 c2 c3 c4 c5 c6 c7 g A0 G0
  obtain ⟨c0, c1, c2, c3, c4, c5, c6, c7⟩ := A1.cells
  go_wp2_with fail
  refine (abt_any p W1).mono ?_
  rintro e W2 ⟨rfl, g⟩
  rw [hB]
  have A2 := A1.keep g
  have G2 := grown_trans G1 g
  clear c0 c1 c2 c3 c4 c5 c6 c7 g A1 G1
  obtain ⟨c0, c1, c2, c3, c4, c5, c6, c7⟩ := A2.cells
  go_wp2_with fail
  refine (cfit_any p W2).mono ?_
  rintro e W3 ⟨rfl, g⟩
  rw [hC]
  have A3 := A2.keep g
  have G3 := grown_trans G2 g
  clear c0 c1 c2 c3 c4 c5 c6 c7 g A2 G2
  obtain ⟨c0, c1, c2, c3, c4, c5, c6, c7⟩ := A3.cells
  go_wp2_with fail
  refine (kfit_any p W3).mono ?_
  rintro e W4 ⟨rfl, g⟩
  rw [hK]
  have A4 := A3.keep g
  have G4 := grown_trans G3 g
  clear c0 c1 c2 c3 c4 c5 c6 c7 g A3 G3
  obtain ⟨c0, c1, c2, c3, c4, c5, c6, c7⟩ := A4.cells
  go_wp2_with fail
  refine (nfit_any p W4).mono ?_
  rintro e W5 ⟨rfl, g⟩
  rw [hN]
  have A5 := A4.keep g
  have G5 := grown_trans G4 g
  clear c0 c1 c2 c3 c4 c5 c6 c7 g A4 G4
  obtain ⟨c0, c1, c2, c3, c4, c5, c6, c7⟩ := A5.cells
  go_wp2_with fail
  go_ret
  exact ⟨rfl, G5⟩
/-- Of every part. -/
theorem check_any (p : Pt) (w : World) : Calls Tryz.prog 161 #[pv p] w fun e w' => e = .returned (.int .i64 (chk p)) ∧ w.grownBy w' none := by
  unfold chk
  by_cases h1 : wnt p.wn = 0
  · rw [if_pos (Or.inl h1)]
    exact check_a p w (by simp [h1])
  · by_cases h2 : cls p.vb = 0
    · rw [if_pos (Or.inr (Or.inl h2))]
      exact check_b p w (by simp [h1]) (by simp [h2])
    · cases hI : isW p.wm with
      | false =>
        rw [if_pos (Or.inr (Or.inr rfl))]
        exact check_c p w (by simp [h1]) (by simp [h2]) hI
      | true =>
        rw [if_neg (by simp [h1, h2])]
        by_cases h4 : cls p.vb = wnt p.wn
        · by_cases hD : p.vb = 11 ∧ p.wm = 9
          · rw [if_pos (Or.inr hD)]
            exact check_e p w (by simp [h1]) (by simp [h2]) hI (by simp [h4]) (decide_eq_true hD)
          · rw [if_neg (fun e => e.elim (fun x => x h4) hD)]
            have hd := decide_eq_false hD
            cases hB : abt p.wn p.vb p.wm with
            | false =>
              rw [if_pos rfl]
              exact check_f p w (by simp [h1]) (by simp [h2]) hI (by simp [h4]) hd hB
            | true =>
              rw [if_neg (by decide)]
              cases hC : cfit p.vb p.ct with
              | false =>
                rw [if_pos (Or.inl rfl)]
                exact check_g p w (by simp [h1]) (by simp [h2]) hI (by simp [h4]) hd hB hC
              | true =>
                cases hK : kfit p with
                | false =>
                  rw [if_pos (Or.inr rfl)]
                  exact check_h p w (by simp [h1]) (by simp [h2]) hI (by simp [h4]) hd hB hC hK
                | true =>
                  rw [if_neg (by decide)]
                  cases hN : nfit p with
                  | false =>
                    rw [if_pos rfl]
                    exact check_i p w (by simp [h1]) (by simp [h2]) hI (by simp [h4]) hd hB hC hK hN
                  | true =>
                    rw [if_neg (by decide)]
                    exact check_j p w (by simp [h1]) (by simp [h2]) hI (by simp [h4]) hd hB hC hK hN
        · rw [if_pos (Or.inl h4)]
          exact check_d p w (by simp [h1]) (by simp [h2]) hI (by simpa using h4)
end Go.Proofs.YtogpgldbbegniaaGreat
namespace Go.Proofs.YtogpgldbbegniaaGreat
open Go.RowKit

/-- Are two parts the same? -/
def samep (p q : Pt) : Bool := decide (p.wn = q.wn ∧ p.vb = q.vb ∧ p.wm = q.wm ∧ p.ct = q.ct ∧ p.su = q.su ∧ p.tr = q.tr ∧ p.mr = q.mr ∧ p.nm = q.nm)
theorem samep_yes {p q : Pt} (h : p = q) : samep p q = true := by subst h; simp [samep]
theorem samep_no {p q : Pt} (h : ¬ p = q) : samep p q = false := by
  unfold samep
  refine decide_eq_false fun e => h ?_
  cases p
  cases q
  simp only at e
  simp [e]
theorem bytes_inj {s t : ByteArray} (h : s.toList = t.toList) : s = t := by
  rw [Lib.toList_data, Lib.toList_data] at h
  rcases s with ⟨⟨a⟩⟩
  rcases t with ⟨⟨b⟩⟩
  simp at h
  rw [h]
theorem eqg_part (op : BinOp) (x y : Operand) (xs ys : Array Value) (w : World) : (eqGuard op 125 x y (.agg xs) (.agg ys)).run Tryz.prog w = .ok () w := run_eqGuard_agg w op 125 x y xs ys (by kernel_rfl)
theorem equalIn_part (a0 a1 a2 a3 a4 a5 a6 : Int) (s : ByteArray) (b0 b1 b2 b3 b4 b5 b6 : Int) (t : ByteArray) (w : World) : (Op.equalIn 10000 125 (.agg #[.int .u8 a0, .int .u8 a1, .int .u8 a2, .int .i64 a3, .int .u8 a4, .int .u8 a5, .int .u8 a6, .string s]) (.agg #[.int .u8 b0, .int .u8 b1, .int .u8 b2, .int .i64 b3, .int .u8 b4, .int .u8 b5, .int .u8 b6, .string t])).run Tryz.prog w = .ok (samep (⟨a0, a1, a2, a3, a4, a5, a6, s⟩ : Pt) ⟨b0, b1, b2, b3, b4, b5, b6, t⟩) w := by
  unfold samep
  have hS : Tryz.prog.underlying 125 = some (.struct (Tryz.prog.fieldsOf 125)) := by kernel_rfl
  have hp : Tryz.prog.stoodInHeld 125 = false := by kernel_rfl
  have u3 := Tryz.underlying3
  have i3 := Tryz.isAgg3
  have z3 := Tryz.sizeOf3
  have u9 := Tryz.underlying9
  have i9 := Tryz.isAgg9
  have z9 := Tryz.sizeOf9
  have u23 := Tryz.underlying80
  have i23 := Tryz.isAgg80
  have z23 := Tryz.sizeOf80
  have u24 := Tryz.underlying121
  have i24 := Tryz.isAgg121
  have z24 := Tryz.sizeOf121
  have u25 := Tryz.underlying122
  have i25 := Tryz.isAgg122
  have z25 := Tryz.sizeOf122
  have u26 := Tryz.underlying63
  have i26 := Tryz.isAgg63
  have z26 := Tryz.sizeOf63
  have u27 := Tryz.underlying123
  have i27 := Tryz.isAgg123
  have z27 := Tryz.sizeOf123
  have u28 := Tryz.underlying116
  have i28 := Tryz.isAgg116
  have z28 := Tryz.sizeOf116
  rw [show (10000 : Nat) = 9999 + 1 from rfl, run_equalIn_agg w 9999 125 _ _ hS hp]
  simp only [Program.fieldsOf, Tryz.underlying125]
  go_simp
  by_cases h0 : a0 = b0
  case neg => simp [h0]
  simp only [h0]
  by_cases h1 : a1 = b1
  case neg => simp [h1]
  simp only [h1]
  by_cases h2 : a2 = b2
  case neg => simp [h2]
  simp only [h2]
  by_cases h3 : a3 = b3
  case neg => simp [h3]
  simp only [h3]
  by_cases h4 : a4 = b4
  case neg => simp [h4]
  simp only [h4]
  by_cases h5 : a5 = b5
  case neg => simp [h5]
  simp only [h5]
  by_cases h6 : a6 = b6
  case neg => simp [h6]
  simp only [h6]
  by_cases h7 : s = t
  case neg => simp [h7]; exact fun e => h7 (bytes_inj e)
  simp [h7]
theorem eql_part (a0 a1 a2 a3 a4 a5 a6 : Int) (s : ByteArray) (b0 b1 b2 b3 b4 b5 b6 : Int) (t : ByteArray) (w : World) : (binOp .eql 125 (.agg #[.int .u8 a0, .int .u8 a1, .int .u8 a2, .int .i64 a3, .int .u8 a4, .int .u8 a5, .int .u8 a6, .string s]) (.agg #[.int .u8 b0, .int .u8 b1, .int .u8 b2, .int .i64 b3, .int .u8 b4, .int .u8 b5, .int .u8 b6, .string t])).run Tryz.prog w = .ok (.bool (samep (⟨a0, a1, a2, a3, a4, a5, a6, s⟩ : Pt) ⟨b0, b1, b2, b3, b4, b5, b6, t⟩)) w := by
  rw [run_eql_struct, equalIn_part]; rfl
theorem neq_part (a0 a1 a2 a3 a4 a5 a6 : Int) (s : ByteArray) (b0 b1 b2 b3 b4 b5 b6 : Int) (t : ByteArray) (w : World) : (binOp .neq 125 (.agg #[.int .u8 a0, .int .u8 a1, .int .u8 a2, .int .i64 a3, .int .u8 a4, .int .u8 a5, .int .u8 a6, .string s]) (.agg #[.int .u8 b0, .int .u8 b1, .int .u8 b2, .int .i64 b3, .int .u8 b4, .int .u8 b5, .int .u8 b6, .string t])).run Tryz.prog w = .ok (.bool (!samep (⟨a0, a1, a2, a3, a4, a5, a6, s⟩ : Pt) ⟨b0, b1, b2, b3, b4, b5, b6, t⟩)) w := by
  rw [run_neq_struct, equalIn_part]; rfl
end Go.Proofs.YtogpgldbbegniaaGreat
namespace Go.Proofs.YtogpgldbbegniaaGreat
open Go.RowKit

/-- The eight cells of a part, and those of a list. -/
def pvs (p : Pt) : List Value := [.int .u8 p.wn, .int .u8 p.vb, .int .u8 p.wm, .int .i64 p.ct, .int .u8 p.su, .int .u8 p.tr, .int .u8 p.mr, .string p.nm]
def pcells : List Pt → List Value
  | [] => []
  | p :: r => pvs p ++ pcells r
theorem pcells_len : ∀ ps : List Pt, (pcells ps).length = ps.length * 8
  | [] => rfl
  | p :: r => by simp only [pcells, List.length_append, pcells_len r, List.length_cons]; simp only [pvs, List.length_cons, List.length_nil]; omega
theorem pcells_app : ∀ a b : List Pt, pcells (a ++ b) = pcells a ++ pcells b
  | [], b => rfl
  | p :: r, b => by simp only [List.cons_append, pcells, pcells_app r b, List.append_assoc]
theorem pcells_at : ∀ (ps : List Pt) (j : Nat) (p : Pt), ps[j]? = some p → ∀ k, k < 8 → (pcells ps)[j * 8 + k]? = (pvs p)[k]?
  | [], j, p, h, k, _ => by simp at h
  | q :: r, 0, p, h, k, hk => by
    obtain rfl : q = p := by simpa using h
    simp only [pcells, Nat.zero_mul, Nat.zero_add]
    exact List.getElem?_append_left (by simpa [pvs] using hk)
  | q :: r, j + 1, p, h, k, hk => by
    have ih := pcells_at r j p (by simpa using h) k hk
    simp only [pcells]
    rw [List.getElem?_append_right (by simp [pvs]; omega), ← ih]
    congr 1
    simp [pvs]
    omega
theorem pcells_one : ∀ (ps : List Pt), ∀ u ∈ pcells ps, u.oneCell' = true
  | [], u, h => by simp [pcells] at h
  | p :: r, u, h => by
    rcases List.mem_append.1 h with h | h
    · simp only [pvs, List.mem_cons, List.not_mem_nil, or_false] at h
      rcases h with rfl | rfl | rfl | rfl | rfl | rfl | rfl | rfl <;> rfl
    · exact pcells_one r u h

/-- Where a list of parts lies. -/
def PsAt (w : World) (v : Value) (ps : List Pt) : Prop := (v = .slice none 0 0 ∧ ps = []) ∨ ∃ ad cap, v = .slice (some ad) ps.length cap ∧ ps.length ≤ cap ∧ ∀ j u, (pcells ps)[j]? = some u → w.cell? (ad.add j) = some u
theorem addr_plain {w : World} {x : Addr} {v : Value} (h : w.cell? x = some v) : x = ⟨x.block, x.off, none⟩ := by
  cases x with
  | mk b o s =>
    cases s with
    | none => rfl
    | some s =>
      exfalso
      unfold World.cell? at h
      split at h <;> simp_all
theorem add_plain (b o j : Nat) : (⟨b, o, none⟩ : Addr).add j = ⟨b, o + j, none⟩ := by unfold Addr.add; split <;> simp_all
theorem PsAt.keep {w w' : World} {v : Value} {ps : List Pt} (h : PsAt w v ps) (g : w.grownBy w' none) : PsAt w' v ps := by
  rcases h with h | ⟨ad, cap, e, hc, h⟩
  · exact Or.inl h
  · exact Or.inr ⟨ad, cap, e, hc, fun j u hu => g.cell (h j u hu) (by simp)⟩
theorem PsAt.form {w : World} {v : Value} {ps : List Pt} (h : PsAt w v ps) : ∃ a cap, v = .slice a ps.length cap := by
  rcases h with ⟨rfl, rfl⟩ | ⟨ad, cap, e, _, _⟩
  · exact ⟨none, 0, rfl⟩
  · exact ⟨some ad, cap, e⟩
theorem PsAt.nil {w : World} {a : Option Addr} {n : Nat} (h : PsAt w (.slice a 0 n) []) (w' : World) : PsAt w' (.slice a 0 n) [] := by
  rcases h with h | ⟨ad, cap, e, hc, _⟩
  · exact Or.inl h
  · exact Or.inr ⟨ad, cap, e, hc, fun j u hu => by simp [pcells] at hu⟩
/-- The cells of one part. -/
structure P8 (w : World) (g o : Nat) (p : Pt) : Prop where
  c0 : w.cell? ⟨g, o, none⟩ = some (.int .u8 p.wn)
  c1 : w.cell? ⟨g, o + 1, none⟩ = some (.int .u8 p.vb)
  c2 : w.cell? ⟨g, o + 2, none⟩ = some (.int .u8 p.wm)
  c3 : w.cell? ⟨g, o + 3, none⟩ = some (.int .i64 p.ct)
  c4 : w.cell? ⟨g, o + 4, none⟩ = some (.int .u8 p.su)
  c5 : w.cell? ⟨g, o + 5, none⟩ = some (.int .u8 p.tr)
  c6 : w.cell? ⟨g, o + 6, none⟩ = some (.int .u8 p.mr)
  c7 : w.cell? ⟨g, o + 7, none⟩ = some (.string p.nm)
theorem P8.keep {w w' : World} {g o : Nat} {p : Pt} (h : P8 w g o p) (k : w.grownBy w' none) : P8 w' g o p :=
  ⟨k.cell h.c0 (by simp), k.cell h.c1 (by simp), k.cell h.c2 (by simp), k.cell h.c3 (by simp), k.cell h.c4 (by simp), k.cell h.c5 (by simp), k.cell h.c6 (by simp), k.cell h.c7 (by simp)⟩
theorem PsAt.part {w : World} {v : Value} {ps : List Pt} (h : PsAt w v ps) (h0 : 0 < ps.length) : ∃ g off cap, v = .slice (some ⟨g, off, none⟩) ps.length cap ∧ ∀ j p, ps[j]? = some p → P8 w g (off + j * 8) p := by
  rcases h with ⟨_, rfl⟩ | ⟨ad, cap, e, _, h⟩
  · simp at h0
  · obtain ⟨q, hq⟩ : ∃ q, ps[0]? = some q := ⟨ps[0], List.getElem?_eq_getElem h0⟩
    have k0 := h 0 _ (by have := pcells_at ps 0 q hq 0 (by omega); simpa [pvs] using this)
    have ea : ad.add 0 = ad := by simp [Addr.add]
    rw [ea] at k0
    have ep := addr_plain k0
    refine ⟨ad.block, ad.off, cap, by rw [← ep]; exact e, fun j p hp => ?_⟩
    have at_ : ∀ k u, k < 8 → (pvs p)[k]? = some u → w.cell? ⟨ad.block, ad.off + (j * 8 + k), none⟩ = some u := fun k u hk hu => by
      have := h (j * 8 + k) u (by rw [pcells_at ps j p hp k hk]; exact hu)
      rw [ep, add_plain] at this
      exact this
    exact ⟨at_ 0 _ (by omega) rfl, at_ 1 _ (by omega) rfl, at_ 2 _ (by omega) rfl, at_ 3 _ (by omega) rfl, at_ 4 _ (by omega) rfl, at_ 5 _ (by omega) rfl, at_ 6 _ (by omega) rfl, at_ 7 _ (by omega) rfl⟩

/-- A list that the call has made itself. -/
def POwn (w : World) (base : Nat) (v : Value) (ps : List Pt) : Prop := w.ownsRow base 125 8 v ps.length (pcells ps)
theorem POwn.nil (w : World) (base : Nat) : POwn w base (.slice none 0 0) [] := ⟨rfl, Or.inl ⟨rfl, rfl⟩⟩
theorem POwn.keep {w w' : World} {base : Nat} {v : Value} {l : List Pt} {r : Option Nat} (h : POwn w base v l) (hg : w.grownBy w' r) (hr : ∀ x, r = some x → x < base) : POwn w' base v l := by
  obtain ⟨h1, h2⟩ := h
  refine ⟨h1, ?_⟩
  rcases h2 with h2 | ⟨g, cap, cur, e, hb, hh, h3⟩
  · exact Or.inl h2
  · exact Or.inr ⟨g, cap, cur, e, hb, grown_keep hg hh (fun e => by have := hr g e.symm; omega), h3⟩
theorem POwn.at {w : World} {base : Nat} {v : Value} {ps : List Pt} (h : POwn w base v ps) : PsAt w v ps := by
  obtain ⟨h1, ⟨rfl, h2⟩ | ⟨g, cap, cur, e, hb, hh, hn, hc, hz, ht⟩⟩ := h
  · exact Or.inl ⟨rfl, List.eq_nil_of_length_eq_zero h2⟩
  · refine Or.inr ⟨⟨g, 0, none⟩, cap, e, hn, fun j u hu => ?_⟩
    rw [add_plain, Nat.zero_add]
    have hj : j < (pcells ps).length := (List.getElem?_eq_some_iff.1 hu).1
    rw [← ht, List.getElem?_take_of_lt (by rw [pcells_len] at hj; exact hj)] at hu
    simp only [World.cell?, hh]
    simpa using hu
theorem POwn.block {w : World} {base : Nat} {v : Value} {l : List Pt} (h : POwn w base v l) : ∀ k, v.ownBlock = some k → base ≤ k := by
  obtain ⟨_, ⟨rfl, _⟩ | ⟨g, cap, cur, rfl, hb, _⟩⟩ := h
  · intro k e; cases e
  · intro k e
    cases e
    exact hb
theorem POwn.big {w : World} {base : Nat} {v : Value} {l : List Pt} (h : POwn w base v l) {b' : Nat} (hb : b' ≤ base) : POwn w b' v l := by
  obtain ⟨h1, h2⟩ := h
  refine ⟨h1, ?_⟩
  rcases h2 with h2 | ⟨g, cap, cur, e, hg, h3⟩
  · exact Or.inl h2
  · exact Or.inr ⟨g, cap, cur, e, Nat.le_trans hb hg, h3⟩
theorem Tryz.info125 : (Tryz.prog.info? 125).map (fun i => (i.zero, i.size, i.bytes)) = some (some (.agg #[.int .u8 0, .int .u8 0, .int .u8 0, .int .i64 0, .int .u8 0, .int .u8 0, .int .u8 0, .string ByteArray.empty]), 8, 40) := by kernel_rfl
theorem info_of {P : Program} {t : TypeId} {z : Option Value} {s b : Nat} (h : (P.info? t).map (fun i => (i.zero, i.size, i.bytes)) = some (z, s, b)) : ∃ i, P.info? t = some i ∧ i.zero = z ∧ i.size = s ∧ i.bytes = b := by
  cases hi : P.info? t with
  | none => rw [hi] at h; cases h
  | some i =>
    rw [hi] at h
    simp only [Option.map_some, Option.some.injEq, Prod.mk.injEq] at h
    exact ⟨i, rfl, h⟩
end Go.Proofs.YtogpgldbbegniaaGreat
