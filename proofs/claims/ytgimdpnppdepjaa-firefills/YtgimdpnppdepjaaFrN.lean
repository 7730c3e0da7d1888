/-
  Package fire: Number, Traits, Marks.
-/
import Derived.Test.YtgimdpnppdepjaaFrL
import Derived.Test.YtgimdpnppdepjaaRank2
namespace Go.Proofs.Ytgimdpnppdepjaa
open Go.RowKit

set_option maxHeartbeats 1000000 in
theorem number_fr (w : World) : Calls Try.prog 15 #[] w fun e w' => e = .returned (.int .i64 68) ∧ w.grownBy w' none := by
  go_enter Try.func15, Try.ntmps15
  go_wp2_with fail
  refine (of_five 4 (by unfold Five; omega) _).mono ?_
  rintro e w1 ⟨rfl, g1⟩
  rw [show ansV 4 = 18 from rfl, show ansT 4 = 5 from rfl, show ansE 4 = 0 from rfl]
  go_wp2
  go_ret
  exact ⟨rfl, g1⟩
def chargeM : Mk := ⟨4, ⟨#[99, 104, 97, 114, 103, 101]⟩, 0, 0⟩
def tCells : Array Value := #[.int .u8 3]
def mCells : Array Value := #[.int .u8 4, .string ⟨#[99, 104, 97, 114, 103, 101]⟩, .int .i64 0, .int .i64 0]
set_option maxHeartbeats 1000000 in
theorem traits_fr (w : World) : Calls Try.prog 7 #[] w fun e w' => e = .returned (.slice (some ⟨w.heap.size, 0, none⟩) 1 1) ∧ w' = w.alloc (.cells tCells 52) := by
  go_enter Try.func7, Try.ntmps7
  go_wp2
  go_ret
  exact ⟨rfl, rfl⟩
set_option maxHeartbeats 1000000 in
theorem marks_fr (w : World) : Calls Try.prog 8 #[] w fun e w' => e = .returned (.slice (some ⟨w.heap.size, 0, none⟩) 1 1) ∧ w' = w.alloc (.cells mCells 56) := by
  go_enter Try.func8, Try.ntmps8
  go_wp2
  go_ret
  exact ⟨rfl, rfl⟩
end Go.Proofs.Ytgimdpnppdepjaa
