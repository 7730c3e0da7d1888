/-
  Which fields a verb and a whom use: effect.Uses and the document's own, of every two numbers. Each touches nothing.
-/
import Derived.Test.YtjjldjmcbmkkdaaFn
namespace Go.Proofs.Ytjjldjmcbmkkdaa
open Go.RowKit

theorem results_tmp5 {fn : Func} {a b c d e : Tmp} (h : fn.results = #[.tmp a, .tmp b, .tmp c, .tmp d, .tmp e]) (tmps : Array Value) (P : Program) (w : World) :
    (results fn tmps).run P w = .ok (.tuple #[tmps.getD a undef, tmps.getD b undef, tmps.getD c undef, tmps.getD d undef, tmps.getD e undef]) w := by
  simp [results, h]
/-- The five flags, as the functions hand them back. -/
def usesV (v m : Int) : Value := .tuple #[.bool (uC v), .bool (uS v m), .bool (uT v m), .bool (uM v), .bool (uN v)]
theorem ret_five {a b c d e : Bool} {v m : Int} (h0 : a = uC v) (h1 : b = uS v m) (h2 : c = uT v m) (h3 : d = uM v) (h4 : e = uN v) : Ending.returned (.tuple #[.bool a, .bool b, .bool c, .bool d, .bool e]) = .returned (usesV v m) := by
  rw [h0, h1, h2, h3, h4]; rfl
theorem whom_three (m : Int) : m = 9 ∨ m = 10 ∨ (¬ m = 9 ∧ ¬ m = 10) := by omega
theorem uS_lit (v : Int) {m : Int} (h : ¬ m = 9) : uS v m = decide (v = 11) := by simp [uS, h]
theorem uT_lit (v : Int) {m : Int} (h : ¬ m = 10) : uT v m = (decide (v = 12) || decide (v = 13)) := by simp [uT, h]
end Go.Proofs.Ytjjldjmcbmkkdaa
