/-
  SameCard, and the program's own Same: of every two cards.
-/
import Derived.Test.YtpoicbefemjckaaHdr
namespace Go.Proofs.Ytpoicbefemjckaa
open Go.RowKit

def sameHd (a b : Hd) : Bool := decide (a.nm = b.nm ∧ a.su = b.su ∧ a.kd = b.kd ∧ a.co = b.co ∧ a.po = b.po ∧ a.he = b.he ∧ a.tr = b.tr ∧ a.tk = b.tk)
theorem hd_ext {a b : Hd} (h : sameHd a b = true) : a = b := by
  have := of_decide_eq_true h
  obtain ⟨a0, a1, a2, a3, a4, a5, a6, a7⟩ := a
  obtain ⟨b0, b1, b2, b3, b4, b5, b6, b7⟩ := b
  simp only at this
  simp [this]
theorem sameHd_refl (a : Hd) : sameHd a a = true := by simp [sameHd]
theorem list_no {s t : ByteArray} (h : ¬ s = t) : (s.toList == t.toList) = false := by
  cases hb : (s.toList == t.toList) with
  | false => rfl
  | true => exact absurd (bytes_inj (eq_of_beq hb)) h
theorem beqi_no {a b : Int} (h : ¬ a = b) : (a == b) = false := by simpa using h
theorem beqb_no {a b : Bool} (h : ¬ a = b) : (a == b) = false := by simpa using h
set_option maxRecDepth 100000 in
set_option maxHeartbeats 8000000 in
theorem sameCard_any (a b : Hd) (va vb : Value) (ps qs : List Pt) (w : World) (ha : PsAt w va ps) (hb : PsAt w vb qs) (hm : Small ps.length) : Calls Try.prog 38 #[cv a va, cv b vb] w fun e w' => e = .returned (.bool (sameHd a b && samePs ps qs)) ∧ w.grownBy w' none := by
  have HA : Hid (PsAt w va ps) := ha
  have HB : Hid (PsAt w vb qs) := hb
  obtain ⟨x, c, rfl⟩ := ha.form
  obtain ⟨y, d, rfl⟩ := hb.form
  clear ha hb
  obtain ⟨a0, a1, a2, a3, a4, a5, a6, a7⟩ := a
  obtain ⟨b0, b1, b2, b3, b4, b5, b6, b7⟩ := b
  unfold cv
  simp only
  by_cases h0 : a0 = b0
  case neg =>
    have k0 := list_no h0
    have R : (sameHd ⟨a0, a1, a2, a3, a4, a5, a6, a7⟩ ⟨b0, b1, b2, b3, b4, b5, b6, b7⟩ && samePs ps qs) = false := by simp [sameHd, h0]
    rw [R]
    clear R h0 HA HB hm
    go_enter Try.func38, Try.ntmps38
    go_wp2
    go_ret
    exact ⟨rfl, grown_push (World.grownBy_alloc _ _ none) _⟩
  subst h0
  by_cases h1 : a1 = b1
  case neg =>
    have k1 := beqi_no h1
    have R : (sameHd ⟨a0, a1, a2, a3, a4, a5, a6, a7⟩ ⟨a0, b1, b2, b3, b4, b5, b6, b7⟩ && samePs ps qs) = false := by simp [sameHd, h1]
    rw [R]
    clear R h1 HA HB hm
    go_enter Try.func38, Try.ntmps38
    go_wp2
    go_ret
    exact ⟨rfl, grown_push (World.grownBy_alloc _ _ none) _⟩
  subst h1
  by_cases h2 : a2 = b2
  case neg =>
    have k2 := beqi_no h2
    have R : (sameHd ⟨a0, a1, a2, a3, a4, a5, a6, a7⟩ ⟨a0, a1, b2, b3, b4, b5, b6, b7⟩ && samePs ps qs) = false := by simp [sameHd, h2]
    rw [R]
    clear R h2 HA HB hm
    go_enter Try.func38, Try.ntmps38
    go_wp2
    go_ret
    exact ⟨rfl, grown_push (World.grownBy_alloc _ _ none) _⟩
  subst h2
  by_cases h3 : a3 = b3
  case neg =>
    have k3 := beqi_no h3
    have R : (sameHd ⟨a0, a1, a2, a3, a4, a5, a6, a7⟩ ⟨a0, a1, a2, b3, b4, b5, b6, b7⟩ && samePs ps qs) = false := by simp [sameHd, h3]
    rw [R]
    clear R h3 HA HB hm
    go_enter Try.func38, Try.ntmps38
    go_wp2
    go_ret
    exact ⟨rfl, grown_push (World.grownBy_alloc _ _ none) _⟩
  subst h3
  by_cases h4 : a4 = b4
  case neg =>
    have k4 := beqi_no h4
    have R : (sameHd ⟨a0, a1, a2, a3, a4, a5, a6, a7⟩ ⟨a0, a1, a2, a3, b4, b5, b6, b7⟩ && samePs ps qs) = false := by simp [sameHd, h4]
    rw [R]
    clear R h4 HA HB hm
    go_enter Try.func38, Try.ntmps38
    go_wp2
    go_ret
    exact ⟨rfl, grown_push (World.grownBy_alloc _ _ none) _⟩
  subst h4
  by_cases h5 : a5 = b5
  case neg =>
    have k5 := beqi_no h5
    have R : (sameHd ⟨a0, a1, a2, a3, a4, a5, a6, a7⟩ ⟨a0, a1, a2, a3, a4, b5, b6, b7⟩ && samePs ps qs) = false := by simp [sameHd, h5]
    rw [R]
    clear R h5 HA HB hm
    go_enter Try.func38, Try.ntmps38
    go_wp2
    go_ret
    exact ⟨rfl, grown_push (World.grownBy_alloc _ _ none) _⟩
  subst h5
  by_cases h6 : a6 = b6
  case neg =>
    have k6 := beqi_no h6
    have R : (sameHd ⟨a0, a1, a2, a3, a4, a5, a6, a7⟩ ⟨a0, a1, a2, a3, a4, a5, b6, b7⟩ && samePs ps qs) = false := by simp [sameHd, h6]
    rw [R]
    clear R h6 HA HB hm
    go_enter Try.func38, Try.ntmps38
    go_wp2
    go_ret
    exact ⟨rfl, grown_push (World.grownBy_alloc _ _ none) _⟩
  subst h6
  by_cases h7 : a7 = b7
  case neg =>
    have k7 := beqb_no h7
    have R : (sameHd ⟨a0, a1, a2, a3, a4, a5, a6, a7⟩ ⟨a0, a1, a2, a3, a4, a5, a6, b7⟩ && samePs ps qs) = false := by simp [sameHd, h7]
    rw [R]
    clear R h7 HA HB hm
    go_enter Try.func38, Try.ntmps38
    go_wp2
    go_ret
    exact ⟨rfl, grown_push (World.grownBy_alloc _ _ none) _⟩
  subst h7
  have R : sameHd ⟨a0, a1, a2, a3, a4, a5, a6, a7⟩ ⟨a0, a1, a2, a3, a4, a5, a6, a7⟩ = true := sameHd_refl _
  rw [R, Bool.true_and]
  clear R
  go_enter Try.func38, Try.ntmps38
  go_wp2_with (first | (go_at_call 75; refine (sameParts_any _ _ ps qs _ (HA.out.keep (grown_push (World.grownBy_alloc _ _ none) _)) (HB.out.keep (grown_push (World.grownBy_alloc _ _ none) _)) hm).mono ?_; rintro e w1 ⟨rfl, g1⟩) | fail)
  go_ret
  exact ⟨rfl, grown_trans (grown_push (World.grownBy_alloc _ _ none) _) g1⟩
end Go.Proofs.Ytpoicbefemjckaa
