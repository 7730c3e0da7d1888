/-
  Package water: Number, Traits, Marks; the law's example (lives).
-/
import Derived.Test.YtcldncojpgipcaaDoorWaL
namespace Go.Proofs.YtcldncojpgipcaaDoor
open Go.RowKit

set_option maxHeartbeats 1000000 in
theorem number_wa (w : World) : Calls Tryd.prog 34 #[] w fun e w' => e = .returned (.int .i64 51) ∧ w.grownBy w' none := by
  go_enter Tryd.func34, Tryd.ntmps34
  go_wp2_with fail
  refine (of_five 3 (by unfold Five; omega) _).mono ?_
  rintro e w1 ⟨rfl, g1⟩
  rw [show ansV 3 = 11 from rfl, show ansT 3 = 4 from rfl, show ansE 3 = 0 from rfl]
  go_wp2
  go_ret
  exact ⟨rfl, g1⟩
def tCells : Array Value := #[.int .u8 4, .int .u8 5]
set_option maxHeartbeats 1000000 in
theorem traits_wa (w : World) : Calls Tryd.prog 9 #[] w fun e w' => e = .returned (.slice (some ⟨w.heap.size, 0, none⟩) 2 2) ∧ w' = w.alloc (.cells tCells 40) := by
  go_enter Tryd.func9, Tryd.ntmps9
  go_wp2
  go_ret
  exact ⟨rfl, rfl⟩
set_option maxHeartbeats 1000000 in
theorem lives_wa (w : World) : Calls Tryd.prog 14 #[] w fun e w' => e = .returned (.bool true) ∧ w.grownBy w' none := by
  go_enter Tryd.func14, Tryd.ntmps14
  go_wp2_with fail
  refine (number_wa _).mono ?_
  rintro e w1 ⟨rfl, g1⟩
  go_wp2_with fail
  refine (list_wa _).mono ?_
  rintro e w2 ⟨g, es, rfl, A⟩
  have g2 := A.gr
  clear A
  go_wp2
  go_ret
  exact ⟨rfl, grown_trans g1 g2⟩
end Go.Proofs.YtcldncojpgipcaaDoor
