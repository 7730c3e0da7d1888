/-
  What the document's own answer tells of a trait: Name, Home, Text; of a set: Has, With, Without, Check, List.
-/
import Derived.Test.YtpnbblimmkdaiaaDoorRef
import Derived.Test.YtpnbblimmkdaiaaDoorList
namespace Go.Proofs.YtpnbblimmkdaiaaDoor
open Go.RowKit

set_option maxRecDepth 100000 in
set_option maxHeartbeats 2000000 in
theorem rname_any (t : Int) (w : World) : Calls Tryd.prog 10 #[.int .u8 t] w fun e w' => e = .returned (.string (tName t)) ∧ w.grownBy w' none := by
  go_enter Tryd.func10, Tryd.ntmps10
  go_wp2_with fail
  refine (row_any _ _).mono ?_
  rintro e w1 ⟨rfl, g1⟩
  rw [rowV]
  go_wp2
  go_ret
  exact ⟨rfl, grown_push g1 _⟩
set_option maxRecDepth 100000 in
set_option maxHeartbeats 2000000 in
theorem rhome_any (t : Int) (w : World) : Calls Tryd.prog 12 #[.int .u8 t] w fun e w' => e = .returned (.int .u8 (tHome t)) ∧ w.grownBy w' none := by
  go_enter Tryd.func12, Tryd.ntmps12
  go_wp2_with fail
  refine (row_any _ _).mono ?_
  rintro e w1 ⟨rfl, g1⟩
  rw [rowV]
  go_wp2
  go_ret
  exact ⟨rfl, grown_push g1 _⟩
theorem refsuit_six (k : Int) (h : k = 1 ∨ k = 2 ∨ k = 3 ∨ k = 4 ∨ k = 5 ∨ k = 6) (w : World) : Calls Tryd.prog 36 #[.int .u8 k] w fun e w' => e = .returned (.string (suitName k)) ∧ w' = w := by
  rcases h with rfl | rfl | rfl | rfl | rfl | rfl
  all_goals
    go_enter Tryd.func36, Tryd.ntmps36
    go_wp2
    go_ret
    exact ⟨rfl, rfl⟩
set_option maxRecDepth 100000 in
set_option maxHeartbeats 2000000 in
theorem rtext_1 (w : World) : Calls Tryd.prog 14 #[.int .u8 1] w fun e w' => e = .returned (.string (tText 1)) ∧ w.grownBy w' none := by
  go_enter Tryd.func14, Tryd.ntmps14
  go_wp2_with fail
  refine (row_any _ _).mono ?_
  rintro e w1 ⟨rfl, g1⟩
  rw [show rowV 1 = .agg #[.int .u8 1, .string ⟨#[102, 97, 115, 116]⟩, .int .u8 1, .string ⟨#[109, 97, 121, 32, 115, 116, 114, 105, 107, 101, 32, 111, 110, 32, 116, 104, 101, 32, 116, 117, 114, 110, 32, 111, 110, 32, 119, 104, 105, 99, 104, 32, 105, 116, 32, 99, 97, 109, 101]⟩] from rfl, show rB 1 = true from rfl]
  go_wp2_with fail
  go_region_held3 (fun w' => w'.cell? ⟨w1.heap.size, 1, none⟩ = some (.string ⟨#[102, 97, 115, 116]⟩) ∧ w'.cell? ⟨w1.heap.size, 2, none⟩ = some (.int .u8 1) ∧ w'.cell? ⟨w1.heap.size, 3, none⟩ = some (.string ⟨#[109, 97, 121, 32, 115, 116, 114, 105, 107, 101, 32, 111, 110, 32, 116, 104, 101, 32, 116, 117, 114, 110, 32, 111, 110, 32, 119, 104, 105, 99, 104, 32, 105, 116, 32, 99, 97, 109, 101]⟩)) (first | exact ⟨block_cell (alloc_at _ _ _) 1, block_cell (alloc_at _ _ _) 2, block_cell (alloc_at _ _ _) 3⟩ | go_keep) ((go_at_call 36; refine (refsuit_six 1 (by decide) _).mono ?_; rintro e w3 ⟨rfl, rfl⟩; rw [show suitName 1 = ⟨#[97, 105, 114]⟩ from rfl]))
  go_wp2
  go_ret
  exact ⟨rfl, grown_trans (grown_push g1 _) (grown_drewN _ _ _)⟩
set_option maxRecDepth 100000 in
set_option maxHeartbeats 2000000 in
theorem rtext_2 (w : World) : Calls Tryd.prog 14 #[.int .u8 2] w fun e w' => e = .returned (.string (tText 2)) ∧ w.grownBy w' none := by
  go_enter Tryd.func14, Tryd.ntmps14
  go_wp2_with fail
  refine (row_any _ _).mono ?_
  rintro e w1 ⟨rfl, g1⟩
  rw [show rowV 2 = .agg #[.int .u8 2, .string ⟨#[103, 117, 97, 114, 100]⟩, .int .u8 2, .string ⟨#[105, 115, 32, 115, 116, 114, 117, 99, 107, 32, 97, 104, 101, 97, 100, 32, 111, 102, 32, 97, 108, 108, 32, 116, 104, 97, 116, 32, 105, 115, 32, 110, 111, 32, 103, 117, 97, 114, 100]⟩] from rfl, show rB 2 = true from rfl]
  go_wp2_with fail
  go_region_held3 (fun w' => w'.cell? ⟨w1.heap.size, 1, none⟩ = some (.string ⟨#[103, 117, 97, 114, 100]⟩) ∧ w'.cell? ⟨w1.heap.size, 2, none⟩ = some (.int .u8 2) ∧ w'.cell? ⟨w1.heap.size, 3, none⟩ = some (.string ⟨#[105, 115, 32, 115, 116, 114, 117, 99, 107, 32, 97, 104, 101, 97, 100, 32, 111, 102, 32, 97, 108, 108, 32, 116, 104, 97, 116, 32, 105, 115, 32, 110, 111, 32, 103, 117, 97, 114, 100]⟩)) (first | exact ⟨block_cell (alloc_at _ _ _) 1, block_cell (alloc_at _ _ _) 2, block_cell (alloc_at _ _ _) 3⟩ | go_keep) ((go_at_call 36; refine (refsuit_six 2 (by decide) _).mono ?_; rintro e w3 ⟨rfl, rfl⟩; rw [show suitName 2 = ⟨#[101, 97, 114, 116, 104]⟩ from rfl]))
  go_wp2
  go_ret
  exact ⟨rfl, grown_trans (grown_push g1 _) (grown_drewN _ _ _)⟩
set_option maxRecDepth 100000 in
set_option maxHeartbeats 2000000 in
theorem rtext_3 (w : World) : Calls Tryd.prog 14 #[.int .u8 3] w fun e w' => e = .returned (.string (tText 3)) ∧ w.grownBy w' none := by
  go_enter Tryd.func14, Tryd.ntmps14
  go_wp2_with fail
  refine (row_any _ _).mono ?_
  rintro e w1 ⟨rfl, g1⟩
  rw [show rowV 3 = .agg #[.int .u8 3, .string ⟨#[118, 101, 110, 111, 109]⟩, .int .u8 3, .string ⟨#[119, 104, 97, 116, 101, 118, 101, 114, 32, 105, 116, 32, 104, 97, 114, 109, 115, 32, 98, 114, 101, 97, 107, 115]⟩] from rfl, show rB 3 = true from rfl]
  go_wp2_with fail
  go_region_held3 (fun w' => w'.cell? ⟨w1.heap.size, 1, none⟩ = some (.string ⟨#[118, 101, 110, 111, 109]⟩) ∧ w'.cell? ⟨w1.heap.size, 2, none⟩ = some (.int .u8 3) ∧ w'.cell? ⟨w1.heap.size, 3, none⟩ = some (.string ⟨#[119, 104, 97, 116, 101, 118, 101, 114, 32, 105, 116, 32, 104, 97, 114, 109, 115, 32, 98, 114, 101, 97, 107, 115]⟩)) (first | exact ⟨block_cell (alloc_at _ _ _) 1, block_cell (alloc_at _ _ _) 2, block_cell (alloc_at _ _ _) 3⟩ | go_keep) ((go_at_call 36; refine (refsuit_six 3 (by decide) _).mono ?_; rintro e w3 ⟨rfl, rfl⟩; rw [show suitName 3 = ⟨#[102, 105, 114, 101]⟩ from rfl]))
  go_wp2
  go_ret
  exact ⟨rfl, grown_trans (grown_push g1 _) (grown_drewN _ _ _)⟩
set_option maxRecDepth 100000 in
set_option maxHeartbeats 2000000 in
theorem rtext_4 (w : World) : Calls Tryd.prog 14 #[.int .u8 4] w fun e w' => e = .returned (.string (tText 4)) ∧ w.grownBy w' none := by
  go_enter Tryd.func14, Tryd.ntmps14
  go_wp2_with fail
  refine (row_any _ _).mono ?_
  rintro e w1 ⟨rfl, g1⟩
  rw [show rowV 4 = .agg #[.int .u8 4, .string ⟨#[108, 111, 110, 101]⟩, .int .u8 4, .string ⟨#[99, 97, 110, 110, 111, 116, 32, 98, 101, 32, 109, 101, 97, 110, 116, 32, 98, 121, 32, 116, 104, 101, 32, 102, 111, 101]⟩] from rfl, show rB 4 = true from rfl]
  go_wp2_with fail
  go_region_held3 (fun w' => w'.cell? ⟨w1.heap.size, 1, none⟩ = some (.string ⟨#[108, 111, 110, 101]⟩) ∧ w'.cell? ⟨w1.heap.size, 2, none⟩ = some (.int .u8 4) ∧ w'.cell? ⟨w1.heap.size, 3, none⟩ = some (.string ⟨#[99, 97, 110, 110, 111, 116, 32, 98, 101, 32, 109, 101, 97, 110, 116, 32, 98, 121, 32, 116, 104, 101, 32, 102, 111, 101]⟩)) (first | exact ⟨block_cell (alloc_at _ _ _) 1, block_cell (alloc_at _ _ _) 2, block_cell (alloc_at _ _ _) 3⟩ | go_keep) ((go_at_call 36; refine (refsuit_six 4 (by decide) _).mono ?_; rintro e w3 ⟨rfl, rfl⟩; rw [show suitName 4 = ⟨#[119, 97, 116, 101, 114]⟩ from rfl]))
  go_wp2
  go_ret
  exact ⟨rfl, grown_trans (grown_push g1 _) (grown_drewN _ _ _)⟩
set_option maxRecDepth 100000 in
set_option maxHeartbeats 2000000 in
theorem rtext_5 (w : World) : Calls Tryd.prog 14 #[.int .u8 5] w fun e w' => e = .returned (.string (tText 5)) ∧ w.grownBy w' none := by
  go_enter Tryd.func14, Tryd.ntmps14
  go_wp2_with fail
  refine (row_any _ _).mono ?_
  rintro e w1 ⟨rfl, g1⟩
  rw [show rowV 5 = .agg #[.int .u8 5, .string ⟨#[100, 114, 97, 105, 110]⟩, .int .u8 4, .string ⟨#[119, 104, 97, 116, 32, 105, 116, 32, 104, 97, 114, 109, 115, 32, 109, 101, 110, 100, 115, 32, 105, 116, 115, 32, 104, 111, 108, 100, 101, 114]⟩] from rfl, show rB 5 = true from rfl]
  go_wp2_with fail
  go_region_held3 (fun w' => w'.cell? ⟨w1.heap.size, 1, none⟩ = some (.string ⟨#[100, 114, 97, 105, 110]⟩) ∧ w'.cell? ⟨w1.heap.size, 2, none⟩ = some (.int .u8 4) ∧ w'.cell? ⟨w1.heap.size, 3, none⟩ = some (.string ⟨#[119, 104, 97, 116, 32, 105, 116, 32, 104, 97, 114, 109, 115, 32, 109, 101, 110, 100, 115, 32, 105, 116, 115, 32, 104, 111, 108, 100, 101, 114]⟩)) (first | exact ⟨block_cell (alloc_at _ _ _) 1, block_cell (alloc_at _ _ _) 2, block_cell (alloc_at _ _ _) 3⟩ | go_keep) ((go_at_call 36; refine (refsuit_six 4 (by decide) _).mono ?_; rintro e w3 ⟨rfl, rfl⟩; rw [show suitName 4 = ⟨#[119, 97, 116, 101, 114]⟩ from rfl]))
  go_wp2
  go_ret
  exact ⟨rfl, grown_trans (grown_push g1 _) (grown_drewN _ _ _)⟩
set_option maxRecDepth 100000 in
set_option maxHeartbeats 2000000 in
theorem rtext_6 (w : World) : Calls Tryd.prog 14 #[.int .u8 6] w fun e w' => e = .returned (.string (tText 6)) ∧ w.grownBy w' none := by
  go_enter Tryd.func14, Tryd.ntmps14
  go_wp2_with fail
  refine (row_any _ _).mono ?_
  rintro e w1 ⟨rfl, g1⟩
  rw [show rowV 6 = .agg #[.int .u8 6, .string ⟨#[109, 117, 116, 101]⟩, .int .u8 5, .string ⟨#[105, 116, 115, 32, 99, 97, 114, 100, 39, 115, 32, 112, 97, 114, 116, 115, 32, 99, 111, 117, 110, 116, 32, 102, 111, 114, 32, 110, 111, 116, 104, 105, 110, 103]⟩] from rfl, show rB 6 = true from rfl]
  go_wp2_with fail
  go_region_held3 (fun w' => w'.cell? ⟨w1.heap.size, 1, none⟩ = some (.string ⟨#[109, 117, 116, 101]⟩) ∧ w'.cell? ⟨w1.heap.size, 2, none⟩ = some (.int .u8 5) ∧ w'.cell? ⟨w1.heap.size, 3, none⟩ = some (.string ⟨#[105, 116, 115, 32, 99, 97, 114, 100, 39, 115, 32, 112, 97, 114, 116, 115, 32, 99, 111, 117, 110, 116, 32, 102, 111, 114, 32, 110, 111, 116, 104, 105, 110, 103]⟩)) (first | exact ⟨block_cell (alloc_at _ _ _) 1, block_cell (alloc_at _ _ _) 2, block_cell (alloc_at _ _ _) 3⟩ | go_keep) ((go_at_call 36; refine (refsuit_six 5 (by decide) _).mono ?_; rintro e w3 ⟨rfl, rfl⟩; rw [show suitName 5 = ⟨#[118, 111, 105, 100]⟩ from rfl]))
  go_wp2
  go_ret
  exact ⟨rfl, grown_trans (grown_push g1 _) (grown_drewN _ _ _)⟩
set_option maxRecDepth 100000 in
set_option maxHeartbeats 2000000 in
theorem rtext_7 (w : World) : Calls Tryd.prog 14 #[.int .u8 7] w fun e w' => e = .returned (.string (tText 7)) ∧ w.grownBy w' none := by
  go_enter Tryd.func14, Tryd.ntmps14
  go_wp2_with fail
  refine (row_any _ _).mono ?_
  rintro e w1 ⟨rfl, g1⟩
  rw [show rowV 7 = .agg #[.int .u8 7, .string ⟨#[102, 105, 120, 101, 100]⟩, .int .u8 6, .string ⟨#[99, 97, 110, 110, 111, 116, 32, 115, 116, 114, 105, 107, 101]⟩] from rfl, show rB 7 = true from rfl]
  go_wp2_with fail
  go_region_held3 (fun w' => w'.cell? ⟨w1.heap.size, 1, none⟩ = some (.string ⟨#[102, 105, 120, 101, 100]⟩) ∧ w'.cell? ⟨w1.heap.size, 2, none⟩ = some (.int .u8 6) ∧ w'.cell? ⟨w1.heap.size, 3, none⟩ = some (.string ⟨#[99, 97, 110, 110, 111, 116, 32, 115, 116, 114, 105, 107, 101]⟩)) (first | exact ⟨block_cell (alloc_at _ _ _) 1, block_cell (alloc_at _ _ _) 2, block_cell (alloc_at _ _ _) 3⟩ | go_keep) ((go_at_call 36; refine (refsuit_six 6 (by decide) _).mono ?_; rintro e w3 ⟨rfl, rfl⟩; rw [show suitName 6 = ⟨#[103, 111, 108, 100]⟩ from rfl]))
  go_wp2
  go_ret
  exact ⟨rfl, grown_trans (grown_push g1 _) (grown_drewN _ _ _)⟩
set_option maxRecDepth 100000 in
set_option maxHeartbeats 2000000 in
theorem rtext_8 (w : World) : Calls Tryd.prog 14 #[.int .u8 8] w fun e w' => e = .returned (.string (tText 8)) ∧ w.grownBy w' none := by
  go_enter Tryd.func14, Tryd.ntmps14
  go_wp2_with fail
  refine (row_any _ _).mono ?_
  rintro e w1 ⟨rfl, g1⟩
  rw [show rowV 8 = .agg #[.int .u8 8, .string ⟨#[115, 119, 105, 102, 116]⟩, .int .u8 1, .string ⟨#[115, 116, 114, 105, 107, 101, 115, 32, 97, 32, 115, 101, 99, 111, 110, 100, 32, 116, 105, 109, 101, 32, 101, 97, 99, 104, 32, 116, 117, 114, 110]⟩] from rfl, show rB 8 = true from rfl]
  go_wp2_with fail
  go_region_held3 (fun w' => w'.cell? ⟨w1.heap.size, 1, none⟩ = some (.string ⟨#[115, 119, 105, 102, 116]⟩) ∧ w'.cell? ⟨w1.heap.size, 2, none⟩ = some (.int .u8 1) ∧ w'.cell? ⟨w1.heap.size, 3, none⟩ = some (.string ⟨#[115, 116, 114, 105, 107, 101, 115, 32, 97, 32, 115, 101, 99, 111, 110, 100, 32, 116, 105, 109, 101, 32, 101, 97, 99, 104, 32, 116, 117, 114, 110]⟩)) (first | exact ⟨block_cell (alloc_at _ _ _) 1, block_cell (alloc_at _ _ _) 2, block_cell (alloc_at _ _ _) 3⟩ | go_keep) ((go_at_call 36; refine (refsuit_six 1 (by decide) _).mono ?_; rintro e w3 ⟨rfl, rfl⟩; rw [show suitName 1 = ⟨#[97, 105, 114]⟩ from rfl]))
  go_wp2
  go_ret
  exact ⟨rfl, grown_trans (grown_push g1 _) (grown_drewN _ _ _)⟩
set_option maxHeartbeats 1000000 in
theorem rtext_any (t : Int) (w : World) : Calls Tryd.prog 14 #[.int .u8 t] w fun e w' => e = .returned (.string (tText t)) ∧ w.grownBy w' none := by
  rcases eight_or t with h | h
  · rcases h with rfl | rfl | rfl | rfl | rfl | rfl | rfl | rfl
    · exact rtext_1 w
    · exact rtext_2 w
    · exact rtext_3 w
    · exact rtext_4 w
    · exact rtext_5 w
    · exact rtext_6 w
    · exact rtext_7 w
    · exact rtext_8 w
  · rw [(eight_no t h).2.2.1]
    have HB : Hid (rB t = false) := (row_no t h).2.2.2.2
    go_enter Tryd.func14, Tryd.ntmps14
    go_wp2_with fail
    refine (row_any _ _).mono ?_
    rintro e w1 ⟨rfl, g1⟩
    rw [rowV, HB.out]
    go_wp2
    go_ret
    exact ⟨rfl, grown_push g1 _⟩
set_option maxHeartbeats 1000000 in
theorem rbit_any (k : Int) (w : World) : Calls Tryd.prog 38 #[.int .u8 k] w fun e w' => e = .returned (.int .u16 (tBit k)) ∧ w' = w := by
  rcases eight_or k with h | h
  · rcases h with rfl | rfl | rfl | rfl | rfl | rfl | rfl | rfl
    all_goals
      go_enter Tryd.func38, Tryd.ntmps38
      go_wp2
      go_ret
      exact ⟨rfl, rfl⟩
  · rw [(eight_no k h).2.2.2]
    rcases h with h | h
    · go_enter Tryd.func38, Tryd.ntmps38
      go_wp2
      go_ret
      exact ⟨rfl, rfl⟩
    · have h0 : ¬ k < 1 := by omega
      go_enter Tryd.func38, Tryd.ntmps38
      go_wp2
      go_ret
      exact ⟨rfl, rfl⟩
set_option maxHeartbeats 1000000 in
theorem rhas_any (s k : Int) (w : World) : Calls Tryd.prog 16 #[.int .u16 s, .int .u8 k] w fun e w' => e = .returned (.bool (tHas s k)) ∧ w' = w := by
  go_enter Tryd.func16, Tryd.ntmps16
  go_wp2_with fail
  refine (rbit_any _ _).mono ?_
  rintro e w1 ⟨rfl, rfl⟩
  go_wp2
  go_ret
  exact ⟨rfl, rfl⟩
set_option maxHeartbeats 1000000 in
theorem rwith_any (s k : Int) (w : World) : Calls Tryd.prog 18 #[.int .u16 s, .int .u8 k] w fun e w' => e = .returned (.int .u16 (tWith s k)) ∧ w' = w := by
  go_enter Tryd.func18, Tryd.ntmps18
  go_wp2_with fail
  refine (rbit_any _ _).mono ?_
  rintro e w1 ⟨rfl, rfl⟩
  go_wp2
  go_ret
  exact ⟨rfl, rfl⟩
set_option maxHeartbeats 1000000 in
theorem rwithout_any (s k : Int) (w : World) : Calls Tryd.prog 20 #[.int .u16 s, .int .u8 k] w fun e w' => e = .returned (.int .u16 (tWithout s k)) ∧ w' = w := by
  go_enter Tryd.func20, Tryd.ntmps20
  go_wp2_with fail
  refine (rbit_any _ _).mono ?_
  rintro e w1 ⟨rfl, rfl⟩
  go_wp2
  go_ret
  exact ⟨rfl, rfl⟩
theorem rcheck_any (s : Int) (w : World) : Calls Tryd.prog 22 #[.int .u16 s] w fun e w' => e = .returned (.bool (decide (s < 256))) ∧ w' = w := by
  go_enter Tryd.func22, Tryd.ntmps22
  go_wp2
  go_ret
  exact ⟨rfl, rfl⟩
set_option maxRecDepth 100000 in
set_option maxHeartbeats 2000000 in
theorem rlist_any (s : Int) (w : World) : Calls Tryd.prog 24 #[.int .u16 s] w fun e w' => ∃ v, e = .returned v ∧ Own w' w.heap.size 24 v (u8s (tList s)) ∧ w.grownBy w' none := by
  obtain ⟨i0, hi, hz0, hz1, hz2⟩ := info_parts Tryd.info24
  go_enter Tryd.func24, Tryd.ntmps24
  go_wp2_with fail
  go_loopw [3, 4] (fun v t wr => ∃ (k : Nat), k ≤ 8 ∧ t = .int .u8 ((k : Int) + 1) ∧ Own wr w.heap.size 24 v (u8s (tUpto s k)) ∧ w.grownBy wr none)
    (fun _ t _ => 9 - (intOf t).toNat)
  case atStart => exact ⟨0, Nat.zero_le _, rfl, Own.nil _ _ _, grown_refl _ _⟩
  case round =>
    obtain ⟨k, hk, rfl, O, G⟩ := hrel
    by_cases h8 : k = 8
    · subst h8
      go_wp2
      go_ret
      exact ⟨_, rfl, O, G⟩
    · have h1 : (k : Int) + 1 ≤ 8 := by omega
      have hw : IntKind.u8.wrap ((k : Int) + 1 + 1) = (k : Int) + 1 + 1 := by rw [IntKind.wrap_u8]; omega
      go_wp2_with fail
      refine (rhas_any _ _ _).mono ?_
      rintro e w1 ⟨rfl, rfl⟩
      cases hh : tHas s ((k : Int) + 1) with
      | false =>
        rw [← upto_out s k hh] at O
        go_wp2
        go_roundw
        case rel => exact ⟨k + 1, by omega, by go_num, O, G⟩
        case measure => simp [intOf]; omega
      | true =>
        obtain ⟨q, cp, ev⟩ := O.form
        rw [length_u8s] at ev
        subst ev
        have hl := upto_len s k
        have hsz := G.size
        have O1 : World.ownsRow w1 w.heap.size 24 1 (.slice q (tUpto s k).length cp) (tUpto s k).length (u8s (tUpto s k)) := own_u8 O
        have HO : Hid (Own w1 w.heap.size 24 (.slice q (tUpto s k).length cp) (u8s (tUpto s k))) := O
        clear O
        go_wp2_with (at_builtin; refine wpList_append_own_at _ rfl (.tmp 12) (.tmp 14) 31 rfl w.heap.size 24 i0 (.int .u8 0) 1 1 Tryd.underlying31 hi hz0 hz1 hz2 rfl (by decide) _ _ _ rfl (World.ownsRow.alloc O1 _) ⟨w1.heap.size, 0, none⟩ 1 1 [.int .u8 ((k : Int) + 1)] rfl rfl (cell_one_new _ _ _) (fun x hx => by simp at hx; subst hx; rfl) (by unfold maxLen; omega) (by omega) (by simp; omega) ?_; intro v' w3 hown' hgrow3 hnil3 hlie3)
        go_roundw
        case rel => exact ⟨k + 1, by omega, by go_num, by rw [upto_in s k hh, u8s_snoc]; exact own_snoc hown' (length_u8s _).symm, grown_own (grown_push G _) hgrow3 (fun x hx => HO.out.block x hx)⟩
        case measure => simp [intOf]; omega
end Go.Proofs.YtpnbblimmkdaiaaDoor
