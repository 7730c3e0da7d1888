/-
  Package void: Number, Traits, Marks; the numbers of air and water, suit.Weight of Void.
-/
import Derived.Test.YtjjldjmcbmkkdaaGreatVoL
import Derived.Test.YtjjldjmcbmkkdaaGreatRank2
namespace Go.Proofs.YtjjldjmcbmkkdaaGreat
open Go.RowKit

set_option maxHeartbeats 1000000 in
theorem weight5 (w : World) : Calls Tryz.prog 68 #[.int .u8 5] w fun e w' => e = .returned (.int .i64 18) ∧ w.grownBy w' none := by
  have i : Calls Tryz.prog 87 #[.int .u8 5] w fun e w' => e = .returned (.bool true) ∧ w' = w := by
    go_enter Tryz.func87, Tryz.ntmps87
    go_wp2
    go_ret
    exact ⟨rfl, rfl⟩
  go_enter Tryz.func68, Tryz.ntmps68
  go_wp2_with fail
  refine i.mono ?_
  rintro e w1 ⟨rfl, h1⟩
  obtain rfl : w = w1 := h1.symm
  go_wp2_with fail
  refine (of_five 4 (by unfold Five; omega) _).mono ?_
  rintro e w1 ⟨rfl, g1⟩
  rw [show ansV 4 = 18 from rfl, show ansT 4 = 5 from rfl, show ansE 4 = 0 from rfl]
  go_wp2
  go_ret
  exact ⟨rfl, g1⟩
set_option maxHeartbeats 1000000 in
theorem number_ai (w : World) : Calls Tryz.prog 66 #[] w fun e w' => e = .returned (.int .i64 27) ∧ w.grownBy w' none := by
  go_enter Tryz.func66, Tryz.ntmps66
  go_wp2_with fail
  refine (of_five 2 (by unfold Five; omega) _).mono ?_
  rintro e w1 ⟨rfl, g1⟩
  rw [show ansV 2 = 7 from rfl, show ansT 2 = 2 from rfl, show ansE 2 = 0 from rfl]
  go_wp2
  go_ret
  exact ⟨rfl, g1⟩
set_option maxHeartbeats 1000000 in
theorem number_wa (w : World) : Calls Tryz.prog 67 #[] w fun e w' => e = .returned (.int .i64 51) ∧ w.grownBy w' none := by
  go_enter Tryz.func67, Tryz.ntmps67
  go_wp2_with fail
  refine (of_five 3 (by unfold Five; omega) _).mono ?_
  rintro e w1 ⟨rfl, g1⟩
  rw [show ansV 3 = 11 from rfl, show ansT 3 = 4 from rfl, show ansE 3 = 0 from rfl]
  go_wp2
  go_ret
  exact ⟨rfl, g1⟩
set_option maxHeartbeats 1000000 in
theorem number_vo (w : World) : Calls Tryz.prog 44 #[] w fun e w' => e = .returned (.int .i64 147) ∧ w.grownBy w' none := by
  go_enter Tryz.func44, Tryz.ntmps44
  go_wp2_with fail
  refine (number_ai _).mono ?_
  rintro e w1 ⟨rfl, g1⟩
  go_wp2_with fail
  refine (number_wa _).mono ?_
  rintro e w2 ⟨rfl, g2⟩
  go_wp2_with fail
  refine (weight5 _).mono ?_
  rintro e w3 ⟨rfl, g3⟩
  go_wp2
  go_ret
  exact ⟨rfl, grown_trans g1 (grown_trans g2 g3)⟩
def tCells : Array Value := #[.int .u8 6]
def mCells : Array Value := #[.int .u8 2, .string ⟨#[100, 111, 119, 110]⟩, .int .i64 (-1), .int .i64 (-1)]
set_option maxHeartbeats 1000000 in
theorem traits_vo (w : World) : Calls Tryz.prog 11 #[] w fun e w' => e = .returned (.slice (some ⟨w.heap.size, 0, none⟩) 1 1) ∧ w' = w.alloc (.cells tCells 47) := by
  go_enter Tryz.func11, Tryz.ntmps11
  go_wp2
  go_ret
  exact ⟨rfl, rfl⟩
set_option maxHeartbeats 1000000 in
theorem marks_vo (w : World) : Calls Tryz.prog 10 #[] w fun e w' => e = .returned (.slice (some ⟨w.heap.size, 0, none⟩) 1 1) ∧ w' = w.alloc (.cells mCells 45) := by
  go_enter Tryz.func10, Tryz.ntmps10
  go_wp2
  go_ret
  exact ⟨rfl, rfl⟩
end Go.Proofs.YtjjldjmcbmkkdaaGreat
