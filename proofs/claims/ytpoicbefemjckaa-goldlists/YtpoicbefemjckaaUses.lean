/-
  Which fields a verb and a whom use: effect.Uses and the document's own, of every two numbers. Each touches nothing.
-/
import Derived.Test.YtpoicbefemjckaaFn
namespace Go.Proofs.Ytpoicbefemjckaa
open Go.RowKit

theorem results_tmp5 {fn : Func} {a b c d e : Tmp} (h : fn.results = #[.tmp a, .tmp b, .tmp c, .tmp d, .tmp e]) (tmps : Array Value) (P : Program) (w : World) :
    (results fn tmps).run P w = .ok (.tuple #[tmps.getD a undef, tmps.getD b undef, tmps.getD c undef, tmps.getD d undef, tmps.getD e undef]) w := by
  simp [results, h]
/-- The five flags, as the functions hand them back. -/
def usesV (v m : Int) : Value := .tuple #[.bool (uC v), .bool (uS v m), .bool (uT v m), .bool (uM v), .bool (uN v)]
theorem ret_five {a b c d e : Bool} {v m : Int} (h0 : a = uC v) (h1 : b = uS v m) (h2 : c = uT v m) (h3 : d = uM v) (h4 : e = uN v) : Ending.returned (.tuple #[.bool a, .bool b, .bool c, .bool d, .bool e]) = .returned (usesV v m) := by
  rw [h0, h1, h2, h3, h4]; rfl
theorem whom_three (m : Int) : m = 9 ∨ m = 10 ∨ (¬ m = 9 ∧ ¬ m = 10) := by omega
theorem uS_lit (v : Int) {m : Int} (h : ¬ m = 9) : uS v m = decide (v = 11) := by simp [uS, h]
theorem uT_lit (v : Int) {m : Int} (h : ¬ m = 10) : uT v m = (decide (v = 12) || decide (v = 13)) := by simp [uT, h]
set_option maxHeartbeats 4000000 in
set_option maxRecDepth 100000 in
theorem uses_any (v m : Int) (w : World) : Calls Try.prog 120 #[.int .u8 v, .int .u8 m] w fun e w' => e = .returned (usesV v m) ∧ w' = w := by
  rcases verb_or v with h | h
  · rcases verb_cases h with rfl | rfl | rfl | rfl | rfl | rfl | rfl | rfl | rfl | rfl | rfl | rfl | rfl | rfl | rfl | rfl | rfl | rfl | rfl
    all_goals
      rcases whom_three m with rfl | rfl | ⟨h9, h10⟩
      · go_enter Try.func120, Try.ntmps120
        go_wp2
        refine bodyPost_ret (results_tmp5 rfl _ _ _) rfl ?_
        exact ⟨ret_five (by decide) (by decide) (by decide) (by decide) (by decide), rfl⟩
      · go_enter Try.func120, Try.ntmps120
        go_wp2
        refine bodyPost_ret (results_tmp5 rfl _ _ _) rfl ?_
        exact ⟨ret_five (by decide) (by decide) (by decide) (by decide) (by decide), rfl⟩
      · have g9 : (m == 9) = false := by simpa using h9
        have g10 : (m == 10) = false := by simpa using h10
        have H9 : Hid (¬ m = 9) := h9
        have H10 : Hid (¬ m = 10) := h10
        clear h9 h10
        go_enter Try.func120, Try.ntmps120
        go_wp2
        refine bodyPost_ret (results_tmp5 rfl _ _ _) rfl ?_
        exact ⟨ret_five (by decide) (by rw [uS_lit _ H9.out]; decide) (by rw [uT_lit _ H10.out]; decide) (by decide) (by decide), rfl⟩
  · obtain ⟨_, n0, n3, n4, _, hh, _, _, n1, n2⟩ := verb_no h
    have N0 : Hid (uC v = false) := n0
    have N1 : Hid (∀ w, uS v w = decide (w = 9)) := n1
    have N2 : Hid (∀ w, uT v w = decide (w = 10)) := n2
    have N3 : Hid (uM v = false) := n3
    have N4 : Hid (uN v = false) := n4
    have g1 : (v == 1) = false := by simpa using (show ¬ v = 1 by omega)
    have g2 : (v == 2) = false := by simpa using (show ¬ v = 2 by omega)
    have g3 : (v == 3) = false := by simpa using (show ¬ v = 3 by omega)
    have g4 : (v == 4) = false := by simpa using (show ¬ v = 4 by omega)
    have g5 : (v == 5) = false := by simpa using (show ¬ v = 5 by omega)
    have g6 : (v == 6) = false := by simpa using (show ¬ v = 6 by omega)
    have g7 : (v == 7) = false := by simpa using (show ¬ v = 7 by omega)
    have g8 : (v == 8) = false := by simpa using (show ¬ v = 8 by omega)
    have g9 : (v == 9) = false := by simpa using (show ¬ v = 9 by omega)
    have g10 : (v == 10) = false := by simpa using (show ¬ v = 10 by omega)
    have g11 : (v == 11) = false := by simpa using (show ¬ v = 11 by omega)
    have g12 : (v == 12) = false := by simpa using (show ¬ v = 12 by omega)
    have g13 : (v == 13) = false := by simpa using (show ¬ v = 13 by omega)
    have g14 : (v == 14) = false := by simpa using (show ¬ v = 14 by omega)
    have g15 : (v == 15) = false := by simpa using (show ¬ v = 15 by omega)
    have g16 : (v == 16) = false := by simpa using (show ¬ v = 16 by omega)
    have g17 : (v == 17) = false := by simpa using (show ¬ v = 17 by omega)
    have g18 : (v == 18) = false := by simpa using (show ¬ v = 18 by omega)
    have g19 : (v == 19) = false := by simpa using (show ¬ v = 19 by omega)
    clear h n0 n1 n2 n3 n4 hh
    rcases whom_three m with rfl | rfl | ⟨h9, h10⟩
    · go_enter Try.func120, Try.ntmps120
      go_wp2
      refine bodyPost_ret (results_tmp5 rfl _ _ _) rfl ?_
      exact ⟨ret_five N0.out.symm (N1.out 9).symm (N2.out 9).symm N3.out.symm N4.out.symm, rfl⟩
    · go_enter Try.func120, Try.ntmps120
      go_wp2
      refine bodyPost_ret (results_tmp5 rfl _ _ _) rfl ?_
      exact ⟨ret_five N0.out.symm (N1.out 10).symm (N2.out 10).symm N3.out.symm N4.out.symm, rfl⟩
    · have g9' : (m == 9) = false := by simpa using h9
      have g10' : (m == 10) = false := by simpa using h10
      have H9 : Hid (¬ m = 9) := h9
      have H10 : Hid (¬ m = 10) := h10
      clear h9 h10
      go_enter Try.func120, Try.ntmps120
      go_wp2
      refine bodyPost_ret (results_tmp5 rfl _ _ _) rfl ?_
      exact ⟨ret_five N0.out.symm ((N1.out m).trans (decide_eq_false H9.out)).symm ((N2.out m).trans (decide_eq_false H10.out)).symm N3.out.symm N4.out.symm, rfl⟩
end Go.Proofs.Ytpoicbefemjckaa
