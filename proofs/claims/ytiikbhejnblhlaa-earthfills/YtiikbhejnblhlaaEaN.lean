/-
  Package earth: Number, Traits, Marks; the document's.
-/
import Derived.Test.YtiikbhejnblhlaaEaL
import Derived.Test.YtiikbhejnblhlaaRank2
namespace Go.Proofs.Ytiikbhejnblhlaa
open Go.RowKit

set_option maxHeartbeats 1000000 in
theorem weight2 (w : World) : Calls Try.prog 48 #[.int .u8 2] w fun e w' => e = .returned (.int .i64 2) ∧ w.grownBy w' none := by
  have i : Calls Try.prog 85 #[.int .u8 2] w fun e w' => e = .returned (.bool true) ∧ w' = w := by
    go_enter Try.func85, Try.ntmps85
    go_wp2
    go_ret
    exact ⟨rfl, rfl⟩
  go_enter Try.func48, Try.ntmps48
  go_wp2_with fail
  refine i.mono ?_
  rintro e w1 ⟨rfl, h1⟩
  obtain rfl : w = w1 := h1.symm
  go_wp2_with fail
  refine (of_five 1 (by unfold Five; omega) _).mono ?_
  rintro e w1 ⟨rfl, g1⟩
  rw [show ansV 1 = 2 from rfl, show ansT 1 = 3 from rfl, show ansE 1 = 0 from rfl]
  go_wp2
  go_ret
  exact ⟨rfl, g1⟩
set_option maxHeartbeats 1000000 in
theorem number_ea (w : World) : Calls Try.prog 16 #[] w fun e w' => e = .returned (.int .i64 31) ∧ w.grownBy w' none := by
  go_enter Try.func16, Try.ntmps16
  go_wp2_with fail
  refine (of_five 3 (by unfold Five; omega) _).mono ?_
  rintro e w1 ⟨rfl, g1⟩
  rw [show ansV 3 = 11 from rfl, show ansT 3 = 4 from rfl, show ansE 3 = 0 from rfl]
  go_wp2_with fail
  refine (weight2 _).mono ?_
  rintro e w2 ⟨rfl, g2⟩
  go_wp2
  go_ret
  exact ⟨rfl, grown_trans g1 g2⟩
def tCells : Array Value := #[.int .u8 2]
def mCells : Array Value := #[.int .u8 3, .string ⟨#[115, 104, 105, 101, 108, 100]⟩, .int .i64 0, .int .i64 0]
set_option maxHeartbeats 1000000 in
theorem traits_ea (w : World) : Calls Try.prog 8 #[] w fun e w' => e = .returned (.slice (some ⟨w.heap.size, 0, none⟩) 1 1) ∧ w' = w.alloc (.cells tCells 51) := by
  go_enter Try.func8, Try.ntmps8
  go_wp2
  go_ret
  exact ⟨rfl, rfl⟩
set_option maxHeartbeats 1000000 in
theorem marks_ea (w : World) : Calls Try.prog 9 #[] w fun e w' => e = .returned (.slice (some ⟨w.heap.size, 0, none⟩) 1 1) ∧ w' = w.alloc (.cells mCells 50) := by
  go_enter Try.func9, Try.ntmps9
  go_wp2
  go_ret
  exact ⟨rfl, rfl⟩
end Go.Proofs.Ytiikbhejnblhlaa
