/-
  What the small functions of effect, and of the document's own answer, tell of every number: the class of a verb, what a When wants, which fields are used, the bounds of Count, the layer. Each touches nothing.
-/
import Derived.Test.YtpoicbefemjckaaBase
import Derived.Test.YtpoicbefemjckaaPure
import Derived.OwnWalk
namespace Go.Proofs.Ytpoicbefemjckaa
open Go.RowKit

theorem verb_or (v : Int) : (1 ≤ v ∧ v ≤ 19) ∨ (v < 1 ∨ 19 < v) := by omega
theorem when_or (v : Int) : (1 ≤ v ∧ v ≤ 6) ∨ (v < 1 ∨ 6 < v) := by omega
theorem verb_no {v : Int} (h : v < 1 ∨ 19 < v) : cls v = 0 ∧ uC v = false ∧ uM v = false ∧ uN v = false ∧ lo v = 0 ∧ hi v = 0 ∧ lay v = 0 ∧ abP v = true ∧ (∀ w, uS v w = decide (w = 9)) ∧ ∀ w, uT v w = decide (w = 10) := by
  have hc : cls v = 0 := by
    unfold cls
    rw [if_neg (by omega), if_neg (by omega), if_neg (by omega)]
  have h1 : ¬ v = 1 := by omega
  have h2 : ¬ v = 2 := by omega
  have h3 : ¬ v = 3 := by omega
  have h4 : ¬ v = 4 := by omega
  have h5 : ¬ v = 5 := by omega
  have h6 : ¬ v = 6 := by omega
  have h7 : ¬ v = 7 := by omega
  have h8 : ¬ v = 8 := by omega
  have h9 : ¬ v = 9 := by omega
  have h10 : ¬ v = 10 := by omega
  have h11 : ¬ v = 11 := by omega
  have h12 : ¬ v = 12 := by omega
  have h13 : ¬ v = 13 := by omega
  have h14 : ¬ v = 14 := by omega
  have h15 : ¬ v = 15 := by omega
  have h16 : ¬ v = 16 := by omega
  have h19 : ¬ v = 19 := by omega
  simp [hc, uC, uM, uN, lo, hi, lay, abP, uS, uT, h1, h2, h3, h4, h5, h6, h7, h8, h9, h10, h11, h12, h13, h14, h15, h16, h19]
theorem when_no {v : Int} (h : v < 1 ∨ 6 < v) : wnt v = 0 := by
  unfold wnt
  rw [if_neg (by omega), if_neg (by omega), if_neg (by omega)]
theorem ret_u8 {a b : Int} (h : a = b) : Ending.returned (.int .u8 a) = .returned (.int .u8 b) := by rw [h]
theorem ret_i64 {a b : Int} (h : a = b) : Ending.returned (.int .i64 a) = .returned (.int .i64 b) := by rw [h]
theorem ret_bool {a b : Bool} (h : a = b) : Ending.returned (.bool a) = .returned (.bool b) := by rw [h]
theorem ret_two {a b c d : Int} (h : a = b) (h' : c = d) : Ending.returned (.tuple #[.int .i64 a, .int .i64 c]) = .returned (.tuple #[.int .i64 b, .int .i64 d]) := by rw [h, h']
set_option maxHeartbeats 2000000 in
set_option maxRecDepth 100000 in
theorem classOf_any (v : Int) (w : World) : Calls Try.prog 99 #[.int .u8 v] w fun e w' => e = .returned (.int .u8 (cls v)) ∧ w' = w := by
  rcases verb_or v with h | h
  · rcases verb_cases h with rfl | rfl | rfl | rfl | rfl | rfl | rfl | rfl | rfl | rfl | rfl | rfl | rfl | rfl | rfl | rfl | rfl | rfl | rfl
    all_goals
      go_enter Try.func99, Try.ntmps99
      go_wp2
      go_ret
      exact ⟨ret_u8 (by decide), rfl⟩
  · rw [(verb_no h).1]
    have g1 : (v == 1) = false := by simpa using (show ¬ v = 1 by omega)
    have g2 : (v == 2) = false := by simpa using (show ¬ v = 2 by omega)
    have g3 : (v == 3) = false := by simpa using (show ¬ v = 3 by omega)
    have g4 : (v == 4) = false := by simpa using (show ¬ v = 4 by omega)
    have g5 : (v == 5) = false := by simpa using (show ¬ v = 5 by omega)
    have g6 : (v == 6) = false := by simpa using (show ¬ v = 6 by omega)
    have g7 : (v == 7) = false := by simpa using (show ¬ v = 7 by omega)
    have g8 : (v == 8) = false := by simpa using (show ¬ v = 8 by omega)
    have g9 : (v == 9) = false := by simpa using (show ¬ v = 9 by omega)
    have g10 : (v == 10) = false := by simpa using (show ¬ v = 10 by omega)
    have g11 : (v == 11) = false := by simpa using (show ¬ v = 11 by omega)
    have g12 : (v == 12) = false := by simpa using (show ¬ v = 12 by omega)
    have g13 : (v == 13) = false := by simpa using (show ¬ v = 13 by omega)
    have g14 : (v == 14) = false := by simpa using (show ¬ v = 14 by omega)
    have g15 : (v == 15) = false := by simpa using (show ¬ v = 15 by omega)
    have g16 : (v == 16) = false := by simpa using (show ¬ v = 16 by omega)
    have g17 : (v == 17) = false := by simpa using (show ¬ v = 17 by omega)
    have g18 : (v == 18) = false := by simpa using (show ¬ v = 18 by omega)
    have g19 : (v == 19) = false := by simpa using (show ¬ v = 19 by omega)

    go_enter Try.func99, Try.ntmps99
    go_wp2
    go_ret
    exact ⟨rfl, rfl⟩
set_option maxHeartbeats 2000000 in
set_option maxRecDepth 100000 in
theorem wantedBy_any (v : Int) (w : World) : Calls Try.prog 98 #[.int .u8 v] w fun e w' => e = .returned (.int .u8 (wnt v)) ∧ w' = w := by
  rcases when_or v with h | h
  · rcases six_cases h with rfl | rfl | rfl | rfl | rfl | rfl
    all_goals
      go_enter Try.func98, Try.ntmps98
      go_wp2
      go_ret
      exact ⟨ret_u8 (by decide), rfl⟩
  · rw [when_no h]
    have g1 : (v == 1) = false := by simpa using (show ¬ v = 1 by omega)
    have g2 : (v == 2) = false := by simpa using (show ¬ v = 2 by omega)
    have g3 : (v == 3) = false := by simpa using (show ¬ v = 3 by omega)
    have g4 : (v == 4) = false := by simpa using (show ¬ v = 4 by omega)
    have g5 : (v == 5) = false := by simpa using (show ¬ v = 5 by omega)
    have g6 : (v == 6) = false := by simpa using (show ¬ v = 6 by omega)

    go_enter Try.func98, Try.ntmps98
    go_wp2
    go_ret
    exact ⟨rfl, rfl⟩
set_option maxHeartbeats 2000000 in
theorem isWhom_any (v : Int) (w : World) : Calls Try.prog 100 #[.int .u8 v] w fun e w' => e = .returned (.bool (isW v)) ∧ w' = w := by
  by_cases h : 1 ≤ v
  · by_cases h' : v ≤ 10
    · go_enter Try.func100, Try.ntmps100
      go_wp2
      go_ret
      exact ⟨ret_bool (by simp [isW, h, h']), rfl⟩
    · go_enter Try.func100, Try.ntmps100
      go_wp2
      go_ret
      exact ⟨ret_bool (by simp [isW, h, h']), rfl⟩
  · go_enter Try.func100, Try.ntmps100
    go_wp2
    go_ret
    exact ⟨ret_bool (by simp [isW]; omega), rfl⟩
set_option maxHeartbeats 2000000 in
set_option maxRecDepth 100000 in
theorem bounds_any (v : Int) (w : World) : Calls Try.prog 119 #[.int .u8 v] w fun e w' => e = .returned (.tuple #[.int .i64 (lo v), .int .i64 (hi v)]) ∧ w' = w := by
  rcases verb_or v with h | h
  · rcases verb_cases h with rfl | rfl | rfl | rfl | rfl | rfl | rfl | rfl | rfl | rfl | rfl | rfl | rfl | rfl | rfl | rfl | rfl | rfl | rfl
    all_goals
      go_enter Try.func119, Try.ntmps119
      go_wp2
      go_ret2
      exact ⟨ret_two (by decide) (by decide), rfl⟩
  · rw [(verb_no h).2.2.2.2.1, (verb_no h).2.2.2.2.2.1]
    have g1 : (v == 1) = false := by simpa using (show ¬ v = 1 by omega)
    have g2 : (v == 2) = false := by simpa using (show ¬ v = 2 by omega)
    have g3 : (v == 3) = false := by simpa using (show ¬ v = 3 by omega)
    have g4 : (v == 4) = false := by simpa using (show ¬ v = 4 by omega)
    have g5 : (v == 5) = false := by simpa using (show ¬ v = 5 by omega)
    have g6 : (v == 6) = false := by simpa using (show ¬ v = 6 by omega)
    have g7 : (v == 7) = false := by simpa using (show ¬ v = 7 by omega)
    have g8 : (v == 8) = false := by simpa using (show ¬ v = 8 by omega)
    have g9 : (v == 9) = false := by simpa using (show ¬ v = 9 by omega)
    have g10 : (v == 10) = false := by simpa using (show ¬ v = 10 by omega)
    have g11 : (v == 11) = false := by simpa using (show ¬ v = 11 by omega)
    have g12 : (v == 12) = false := by simpa using (show ¬ v = 12 by omega)
    have g13 : (v == 13) = false := by simpa using (show ¬ v = 13 by omega)
    have g14 : (v == 14) = false := by simpa using (show ¬ v = 14 by omega)
    have g15 : (v == 15) = false := by simpa using (show ¬ v = 15 by omega)
    have g16 : (v == 16) = false := by simpa using (show ¬ v = 16 by omega)
    have g17 : (v == 17) = false := by simpa using (show ¬ v = 17 by omega)
    have g18 : (v == 18) = false := by simpa using (show ¬ v = 18 by omega)
    have g19 : (v == 19) = false := by simpa using (show ¬ v = 19 by omega)
    go_enter Try.func119, Try.ntmps119
    go_wp2
    go_ret2
    exact ⟨rfl, rfl⟩
set_option maxHeartbeats 2000000 in
set_option maxRecDepth 100000 in
theorem abP_any (v : Int) (w : World) : Calls Try.prog 118 #[.int .u8 v] w fun e w' => e = .returned (.bool (abP v)) ∧ w' = w := by
  rcases verb_or v with h | h
  · rcases verb_cases h with rfl | rfl | rfl | rfl | rfl | rfl | rfl | rfl | rfl | rfl | rfl | rfl | rfl | rfl | rfl | rfl | rfl | rfl | rfl
    all_goals
      go_enter Try.func118, Try.ntmps118
      go_wp2_with (go_at_call 99; refine (classOf_any _ _).mono ?_; rintro e w1 ⟨rfl, rfl⟩; simp only [cls])
      go_ret
      exact ⟨ret_bool (by decide), rfl⟩
  · rw [(verb_no h).2.2.2.2.2.2.2.1]
    have hc := (verb_no h).1
    have g1 : (v == 1) = false := by simpa using (show ¬ v = 1 by omega)
    have g2 : (v == 2) = false := by simpa using (show ¬ v = 2 by omega)
    have g3 : (v == 3) = false := by simpa using (show ¬ v = 3 by omega)
    have g4 : (v == 4) = false := by simpa using (show ¬ v = 4 by omega)
    have g5 : (v == 5) = false := by simpa using (show ¬ v = 5 by omega)
    have g6 : (v == 6) = false := by simpa using (show ¬ v = 6 by omega)
    have g7 : (v == 7) = false := by simpa using (show ¬ v = 7 by omega)
    have g8 : (v == 8) = false := by simpa using (show ¬ v = 8 by omega)
    have g9 : (v == 9) = false := by simpa using (show ¬ v = 9 by omega)
    have g10 : (v == 10) = false := by simpa using (show ¬ v = 10 by omega)
    have g11 : (v == 11) = false := by simpa using (show ¬ v = 11 by omega)
    have g12 : (v == 12) = false := by simpa using (show ¬ v = 12 by omega)
    have g13 : (v == 13) = false := by simpa using (show ¬ v = 13 by omega)
    have g14 : (v == 14) = false := by simpa using (show ¬ v = 14 by omega)
    have g15 : (v == 15) = false := by simpa using (show ¬ v = 15 by omega)
    have g16 : (v == 16) = false := by simpa using (show ¬ v = 16 by omega)
    have g17 : (v == 17) = false := by simpa using (show ¬ v = 17 by omega)
    have g18 : (v == 18) = false := by simpa using (show ¬ v = 18 by omega)
    have g19 : (v == 19) = false := by simpa using (show ¬ v = 19 by omega)
    go_enter Try.func118, Try.ntmps118
    go_wp2_with (go_at_call 99; refine (classOf_any _ _).mono ?_; rintro e w1 ⟨rfl, rfl⟩; rw [hc])
    go_ret
    exact ⟨rfl, rfl⟩
end Go.Proofs.Ytpoicbefemjckaa
