/-
  What the small functions of effect, and of the document's own answer, tell of every number: the class of a verb, what a When wants, which fields are used, the bounds of Count, the layer. Each touches nothing.
-/
import Derived.Test.YtjjldjmcbmkkdaaBase
import Derived.Test.YtjjldjmcbmkkdaaPure
import Derived.OwnWalk
namespace Go.Proofs.Ytjjldjmcbmkkdaa
open Go.RowKit

theorem verb_or (v : Int) : (1 ≤ v ∧ v ≤ 19) ∨ (v < 1 ∨ 19 < v) := by omega
theorem when_or (v : Int) : (1 ≤ v ∧ v ≤ 6) ∨ (v < 1 ∨ 6 < v) := by omega
theorem verb_no {v : Int} (h : v < 1 ∨ 19 < v) : cls v = 0 ∧ uC v = false ∧ uM v = false ∧ uN v = false ∧ lo v = 0 ∧ hi v = 0 ∧ lay v = 0 ∧ abP v = true ∧ (∀ w, uS v w = decide (w = 9)) ∧ ∀ w, uT v w = decide (w = 10) := by
  have hc : cls v = 0 := by
    unfold cls
    rw [if_neg (by omega), if_neg (by omega), if_neg (by omega)]
  have h1 : ¬ v = 1 := by omega
  have h2 : ¬ v = 2 := by omega
  have h3 : ¬ v = 3 := by omega
  have h4 : ¬ v = 4 := by omega
  have h5 : ¬ v = 5 := by omega
  have h6 : ¬ v = 6 := by omega
  have h7 : ¬ v = 7 := by omega
  have h8 : ¬ v = 8 := by omega
  have h9 : ¬ v = 9 := by omega
  have h10 : ¬ v = 10 := by omega
  have h11 : ¬ v = 11 := by omega
  have h12 : ¬ v = 12 := by omega
  have h13 : ¬ v = 13 := by omega
  have h14 : ¬ v = 14 := by omega
  have h15 : ¬ v = 15 := by omega
  have h16 : ¬ v = 16 := by omega
  have h19 : ¬ v = 19 := by omega
  simp [hc, uC, uM, uN, lo, hi, lay, abP, uS, uT, h1, h2, h3, h4, h5, h6, h7, h8, h9, h10, h11, h12, h13, h14, h15, h16, h19]
theorem when_no {v : Int} (h : v < 1 ∨ 6 < v) : wnt v = 0 := by
  unfold wnt
  rw [if_neg (by omega), if_neg (by omega), if_neg (by omega)]
theorem ret_u8 {a b : Int} (h : a = b) : Ending.returned (.int .u8 a) = .returned (.int .u8 b) := by rw [h]
theorem ret_i64 {a b : Int} (h : a = b) : Ending.returned (.int .i64 a) = .returned (.int .i64 b) := by rw [h]
theorem ret_bool {a b : Bool} (h : a = b) : Ending.returned (.bool a) = .returned (.bool b) := by rw [h]
theorem ret_two {a b c d : Int} (h : a = b) (h' : c = d) : Ending.returned (.tuple #[.int .i64 a, .int .i64 c]) = .returned (.tuple #[.int .i64 b, .int .i64 d]) := by rw [h, h']
end Go.Proofs.Ytjjldjmcbmkkdaa
