/-
  Package gold: Number, Traits, Marks; the numbers of fire, air, water and void, suit.Weight of Void.
-/
import Derived.Test.YtpoicbefemjckaaGdL
import Derived.Test.YtpoicbefemjckaaRank2
namespace Go.Proofs.Ytpoicbefemjckaa
open Go.RowKit

set_option maxHeartbeats 1000000 in
theorem weight5 (w : World) : Calls Try.prog 64 #[.int .u8 5] w fun e w' => e = .returned (.int .i64 18) ∧ w.grownBy w' none := by
  have i : Calls Try.prog 91 #[.int .u8 5] w fun e w' => e = .returned (.bool true) ∧ w' = w := by
    go_enter Try.func91, Try.ntmps91
    go_wp2
    go_ret
    exact ⟨rfl, rfl⟩
  go_enter Try.func64, Try.ntmps64
  go_wp2_with fail
  refine i.mono ?_
  rintro e w1 ⟨rfl, h1⟩
  obtain rfl : w = w1 := h1.symm
  go_wp2_with fail
  refine (of_five 4 (by unfold Five; omega) _).mono ?_
  rintro e w1 ⟨rfl, g1⟩
  rw [show ansV 4 = 18 from rfl, show ansT 4 = 5 from rfl, show ansE 4 = 0 from rfl]
  go_wp2
  go_ret
  exact ⟨rfl, g1⟩
set_option maxHeartbeats 1000000 in
theorem number_ai (w : World) : Calls Try.prog 62 #[] w fun e w' => e = .returned (.int .i64 27) ∧ w.grownBy w' none := by
  go_enter Try.func62, Try.ntmps62
  go_wp2_with fail
  refine (of_five 2 (by unfold Five; omega) _).mono ?_
  rintro e w1 ⟨rfl, g1⟩
  rw [show ansV 2 = 7 from rfl, show ansT 2 = 2 from rfl, show ansE 2 = 0 from rfl]
  go_wp2
  go_ret
  exact ⟨rfl, g1⟩
set_option maxHeartbeats 1000000 in
theorem number_wa (w : World) : Calls Try.prog 63 #[] w fun e w' => e = .returned (.int .i64 51) ∧ w.grownBy w' none := by
  go_enter Try.func63, Try.ntmps63
  go_wp2_with fail
  refine (of_five 3 (by unfold Five; omega) _).mono ?_
  rintro e w1 ⟨rfl, g1⟩
  rw [show ansV 3 = 11 from rfl, show ansT 3 = 4 from rfl, show ansE 3 = 0 from rfl]
  go_wp2
  go_ret
  exact ⟨rfl, g1⟩
set_option maxHeartbeats 1000000 in
theorem number_vo (w : World) : Calls Try.prog 28 #[] w fun e w' => e = .returned (.int .i64 147) ∧ w.grownBy w' none := by
  go_enter Try.func28, Try.ntmps28
  go_wp2_with fail
  refine (number_ai _).mono ?_
  rintro e w1 ⟨rfl, g1⟩
  go_wp2_with fail
  refine (number_wa _).mono ?_
  rintro e w2 ⟨rfl, g2⟩
  go_wp2_with fail
  refine (weight5 _).mono ?_
  rintro e w3 ⟨rfl, g3⟩
  go_wp2
  go_ret
  exact ⟨rfl, grown_trans g1 (grown_trans g2 g3)⟩
set_option maxHeartbeats 1000000 in
theorem number_fr (w : World) : Calls Try.prog 27 #[] w fun e w' => e = .returned (.int .i64 68) ∧ w.grownBy w' none := by
  go_enter Try.func27, Try.ntmps27
  go_wp2_with fail
  refine (of_five 4 (by unfold Five; omega) _).mono ?_
  rintro e w1 ⟨rfl, g1⟩
  rw [show ansV 4 = 18 from rfl, show ansT 4 = 5 from rfl, show ansE 4 = 0 from rfl]
  go_wp2
  go_ret
  exact ⟨rfl, g1⟩
set_option maxHeartbeats 1000000 in
theorem number_gd (w : World) : Calls Try.prog 15 #[] w fun e w' => e = .returned (.int .i64 215) ∧ w.grownBy w' none := by
  go_enter Try.func15, Try.ntmps15
  go_wp2_with fail
  refine (number_fr _).mono ?_
  rintro e w1 ⟨rfl, g1⟩
  go_wp2_with fail
  refine (number_vo _).mono ?_
  rintro e w2 ⟨rfl, g2⟩
  go_wp2
  go_ret
  exact ⟨rfl, grown_trans g1 g2⟩
def upM : Mk := ⟨1, ⟨#[117, 112]⟩, 1, 1⟩
def tCells : Array Value := #[.int .u8 7]
def mCells : Array Value := #[.int .u8 1, .string ⟨#[117, 112]⟩, .int .i64 1, .int .i64 1]
set_option maxHeartbeats 1000000 in
theorem traits_gd (w : World) : Calls Try.prog 7 #[] w fun e w' => e = .returned (.slice (some ⟨w.heap.size, 0, none⟩) 1 1) ∧ w' = w.alloc (.cells tCells 52) := by
  go_enter Try.func7, Try.ntmps7
  go_wp2
  go_ret
  exact ⟨rfl, rfl⟩
set_option maxHeartbeats 1000000 in
theorem marks_gd (w : World) : Calls Try.prog 8 #[] w fun e w' => e = .returned (.slice (some ⟨w.heap.size, 0, none⟩) 1 1) ∧ w' = w.alloc (.cells mCells 56) := by
  go_enter Try.func8, Try.ntmps8
  go_wp2
  go_ret
  exact ⟨rfl, rfl⟩
end Go.Proofs.Ytpoicbefemjckaa
