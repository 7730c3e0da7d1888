/-
  What effect's tests tell of every part: whom it may be about, whether Count, Suit, Trait, Mark and Name fit. Each touches nothing that was there.
-/
import Derived.Test.YtpoicbefemjckaaUses
namespace Go.Proofs.Ytpoicbefemjckaa
open Go.RowKit

/-- A part, as a value. -/
def pv (p : Pt) : Value := .agg #[.int .u8 p.wn, .int .u8 p.vb, .int .u8 p.wm, .int .i64 p.ct, .int .u8 p.su, .int .u8 p.tr, .int .u8 p.mr, .string p.nm]
/-- A part, in memory. -/
def PAt (w : World) (b : Nat) (p : Pt) : Prop := w.heap[b]? = some (.cells #[.int .u8 p.wn, .int .u8 p.vb, .int .u8 p.wm, .int .i64 p.ct, .int .u8 p.su, .int .u8 p.tr, .int .u8 p.mr, .string p.nm] 81 (0, 0))
theorem PAt.keep {w w' : World} {b : Nat} {p : Pt} (h : PAt w b p) (g : w.grownBy w' none) : PAt w' b p := grown_keep g h (by simp)
theorem PAt.new (w : World) (p : Pt) : PAt (w.alloc (.cells #[.int .u8 p.wn, .int .u8 p.vb, .int .u8 p.wm, .int .i64 p.ct, .int .u8 p.su, .int .u8 p.tr, .int .u8 p.mr, .string p.nm] 81)) w.heap.size p := alloc_at _ _ _
theorem beq_no {a b : Int} (h : ¬ a = b) : (a == b) = false := by simpa using h
theorem beq_yes {a b : Int} (h : a = b) : (a == b) = true := by simpa using h

set_option maxHeartbeats 2000000 in
theorem dyes_any (p : Pt) (w : World) : Calls Try.prog 101 #[pv p] w fun e w' => e = .returned (.bool (decide (p.vb = 11 ∧ p.wm = 9))) ∧ w.grownBy w' none := by
  unfold pv
  by_cases h : p.vb = 11
  · have hb := beq_yes h
    by_cases h' : p.wm = 9
    · have hb' := beq_yes h'
      rw [decide_eq_true (show p.vb = 11 ∧ p.wm = 9 from ⟨h, h'⟩)]
      clear h h'
      go_enter Try.func101, Try.ntmps101
      go_wp2
      go_ret
      exact ⟨rfl, World.grownBy_alloc _ _ _⟩
    · have hb' := beq_no h'
      rw [decide_eq_false (show ¬ (p.vb = 11 ∧ p.wm = 9) from fun e => h' e.2)]
      clear h h'
      go_enter Try.func101, Try.ntmps101
      go_wp2
      go_ret
      exact ⟨rfl, World.grownBy_alloc _ _ _⟩
  · have hb := beq_no h
    rw [decide_eq_false (show ¬ (p.vb = 11 ∧ p.wm = 9) from fun e => h e.1)]
    clear h
    go_enter Try.func101, Try.ntmps101
    go_wp2
    go_ret
    exact ⟨rfl, World.grownBy_alloc _ _ _⟩
set_option maxHeartbeats 2000000 in
theorem abt_any (p : Pt) (w : World) : Calls Try.prog 102 #[pv p] w fun e w' => e = .returned (.bool (abt p.wn p.vb p.wm)) ∧ w.grownBy w' none := by
  unfold pv
  by_cases h : p.wm = 3
  · have hb := beq_yes h
    rw [show abt p.wn p.vb p.wm = decide (p.wn = 1) from if_pos h]
    clear h
    by_cases h' : p.wn = 1
    · have hb' := beq_yes h'
      rw [decide_eq_true h']
      clear h'
      go_enter Try.func102, Try.ntmps102
      go_wp2
      go_ret
      exact ⟨rfl, World.grownBy_alloc _ _ _⟩
    · have hb' := beq_no h'
      rw [decide_eq_false h']
      clear h'
      go_enter Try.func102, Try.ntmps102
      go_wp2
      go_ret
      exact ⟨rfl, World.grownBy_alloc _ _ _⟩
  · have hb := beq_no h
    by_cases h1 : p.wm = 1 ∨ p.wm = 2
    · rw [show abt p.wn p.vb p.wm = abP p.vb from (if_neg h).trans (if_pos h1)]
      rcases h1 with h1 | h1
      · have hb1 := beq_yes h1
        clear h h1
        go_enter Try.func102, Try.ntmps102
        go_wp2_with (go_at_call 118; refine (abP_any _ _).mono ?_; rintro e w1 ⟨rfl, rfl⟩)
        go_ret
        exact ⟨rfl, World.grownBy_alloc _ _ _⟩
      · have hb1 := beq_yes h1
        have hb2 : (p.wm == 1) = false := beq_no (by omega)
        clear h h1
        go_enter Try.func102, Try.ntmps102
        go_wp2_with (go_at_call 118; refine (abP_any _ _).mono ?_; rintro e w1 ⟨rfl, rfl⟩)
        go_ret
        exact ⟨rfl, World.grownBy_alloc _ _ _⟩
    · rw [show abt p.wn p.vb p.wm = true from (if_neg h).trans (if_neg h1)]
      have hb1 : (p.wm == 1) = false := beq_no (fun e => h1 (Or.inl e))
      have hb2 : (p.wm == 2) = false := beq_no (fun e => h1 (Or.inr e))
      clear h h1
      go_enter Try.func102, Try.ntmps102
      go_wp2
      go_ret
      exact ⟨rfl, World.grownBy_alloc _ _ _⟩
set_option maxHeartbeats 2000000 in
theorem cfit_any (p : Pt) (w : World) : Calls Try.prog 103 #[pv p] w fun e w' => e = .returned (.bool (cfit p.vb p.ct)) ∧ w.grownBy w' none := by
  unfold pv
  by_cases h : p.ct = 0
  · have hb := beq_yes h
    rw [show cfit p.vb p.ct = decide (lo p.vb = 0) from if_pos h]
    clear h
    go_enter Try.func103, Try.ntmps103
    go_wp2_with (go_at_call 119; refine (bounds_any _ _).mono ?_; rintro e w1 ⟨rfl, rfl⟩)
    go_ret
    exact ⟨ret_bool (by first | rfl | simp), World.grownBy_alloc _ _ _⟩
  · have hb := beq_no h
    rw [show cfit p.vb p.ct = (decide (lo p.vb ≤ p.ct) && decide (p.ct ≤ hi p.vb)) from if_neg h]
    clear h
    by_cases h1 : lo p.vb ≤ p.ct
    · go_enter Try.func103, Try.ntmps103
      go_wp2_with (go_at_call 119; refine (bounds_any _ _).mono ?_; rintro e w1 ⟨rfl, rfl⟩)
      go_ret
      exact ⟨ret_bool (by first | rfl | simp [h1]), World.grownBy_alloc _ _ _⟩
    · go_enter Try.func103, Try.ntmps103
      go_wp2_with (go_at_call 119; refine (bounds_any _ _).mono ?_; rintro e w1 ⟨rfl, rfl⟩)
      go_ret
      exact ⟨ret_bool (by simp; omega), World.grownBy_alloc _ _ _⟩
set_option maxHeartbeats 2000000 in
theorem fits77_any (u : Bool) (x : Int) (g : Bool) (m : Int) (hg : g = (decide (1 ≤ x) && decide (x ≤ m))) (w : World) : Calls Try.prog 121 #[.bool u, .int .u8 x, .bool g] w fun e w' => e = .returned (.bool (fitU u x m)) ∧ w' = w := by
  cases u with
  | true =>
    rw [show fitU true x m = g from hg.symm]
    clear hg
    go_enter Try.func121, Try.ntmps121
    go_wp2
    go_ret
    exact ⟨rfl, rfl⟩
  | false =>
    rw [show fitU false x m = decide (x = 0) from rfl]
    clear hg
    by_cases h : x = 0
    · subst h
      go_enter Try.func121, Try.ntmps121
      go_wp2
      go_ret
      exact ⟨rfl, rfl⟩
    · have hb := beq_no h
      rw [decide_eq_false h]
      clear h
      go_enter Try.func121, Try.ntmps121
      go_wp2
      go_ret
      exact ⟨rfl, rfl⟩
set_option maxHeartbeats 2000000 in
theorem fits78_any (u : Bool) (x : Int) (g : Bool) (m : Int) (hg : g = (decide (1 ≤ x) && decide (x ≤ m))) (w : World) : Calls Try.prog 122 #[.bool u, .int .u8 x, .bool g] w fun e w' => e = .returned (.bool (fitU u x m)) ∧ w' = w := by
  cases u with
  | true =>
    rw [show fitU true x m = g from hg.symm]
    clear hg
    go_enter Try.func122, Try.ntmps122
    go_wp2
    go_ret
    exact ⟨rfl, rfl⟩
  | false =>
    rw [show fitU false x m = decide (x = 0) from rfl]
    clear hg
    by_cases h : x = 0
    · subst h
      go_enter Try.func122, Try.ntmps122
      go_wp2
      go_ret
      exact ⟨rfl, rfl⟩
    · have hb := beq_no h
      rw [decide_eq_false h]
      clear h
      go_enter Try.func122, Try.ntmps122
      go_wp2
      go_ret
      exact ⟨rfl, rfl⟩
set_option maxHeartbeats 2000000 in
theorem fits79_any (u : Bool) (x : Int) (g : Bool) (m : Int) (hg : g = (decide (1 ≤ x) && decide (x ≤ m))) (w : World) : Calls Try.prog 123 #[.bool u, .int .u8 x, .bool g] w fun e w' => e = .returned (.bool (fitU u x m)) ∧ w' = w := by
  cases u with
  | true =>
    rw [show fitU true x m = g from hg.symm]
    clear hg
    go_enter Try.func123, Try.ntmps123
    go_wp2
    go_ret
    exact ⟨rfl, rfl⟩
  | false =>
    rw [show fitU false x m = decide (x = 0) from rfl]
    clear hg
    by_cases h : x = 0
    · subst h
      go_enter Try.func123, Try.ntmps123
      go_wp2
      go_ret
      exact ⟨rfl, rfl⟩
    · have hb := beq_no h
      rw [decide_eq_false h]
      clear h
      go_enter Try.func123, Try.ntmps123
      go_wp2
      go_ret
      exact ⟨rfl, rfl⟩
def fitS (u g : Bool) (s : ByteArray) : Bool := if u then g else decide (s.data.toList = [])
set_option maxHeartbeats 2000000 in
theorem fits80_any (u : Bool) (s : ByteArray) (g : Bool) (w : World) : Calls Try.prog 124 #[.bool u, .string s, .bool g] w fun e w' => e = .returned (.bool (fitS u g s)) ∧ w' = w := by
  cases u with
  | true =>
    rw [show fitS true g s = g from rfl]
    go_enter Try.func124, Try.ntmps124
    go_wp2
    go_ret
    exact ⟨rfl, rfl⟩
  | false =>
    rw [show fitS false g s = decide (s.data.toList = []) from rfl]
    by_cases h : s.data.toList = []
    · have hs : s = ⟨#[]⟩ := by
        rcases s with ⟨⟨l⟩⟩
        simp at h
        rw [h]
      subst hs
      go_enter Try.func124, Try.ntmps124
      go_wp2
      go_ret
      exact ⟨rfl, rfl⟩
    · have hb : (s.toList == []) = false := by
        rw [Lib.toList_data]
        simpa using h
      have hb2 : s.toList.isEmpty = false := by
        rw [Lib.toList_data]
        simpa using h
      rw [decide_eq_false h]
      clear h
      go_enter Try.func124, Try.ntmps124
      go_wp2
      go_ret
      exact ⟨rfl, rfl⟩
set_option maxHeartbeats 2000000 in
theorem isLetter_any (b : UInt8) (w : World) : Calls Try.prog 80 #[.int .u8 (b.toNat : Int)] w fun e w' => e = .returned (.bool (letter b)) ∧ w' = w := by
  by_cases h : 97 ≤ b.toNat
  · have h0 : (97 : Int) ≤ (b.toNat : Int) := by omega
    rw [show letter b = decide (b.toNat ≤ 122) by simp [letter, h]]
    by_cases h' : b.toNat ≤ 122
    · have h1 : (b.toNat : Int) ≤ 122 := by omega
      rw [decide_eq_true h']
      clear h h'
      go_enter Try.func80, Try.ntmps80
      go_wp2
      go_ret
      exact ⟨rfl, rfl⟩
    · have h1 : ¬ (b.toNat : Int) ≤ 122 := by omega
      rw [decide_eq_false h']
      clear h h'
      go_enter Try.func80, Try.ntmps80
      go_wp2
      go_ret
      exact ⟨rfl, rfl⟩
  · have h0 : ¬ (97 : Int) ≤ (b.toNat : Int) := by omega
    rw [show letter b = false by simp [letter]; omega]
    clear h
    go_enter Try.func80, Try.ntmps80
    go_wp2
    go_ret
    exact ⟨rfl, rfl⟩
end Go.Proofs.Ytpoicbefemjckaa
