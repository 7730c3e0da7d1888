/-
  SameCard, and the program's own Same: of every two cards.
-/
import Derived.Test.YtcldncojpgipcaaDoorHdr
namespace Go.Proofs.YtcldncojpgipcaaDoor
open Go.RowKit

def sameHd (a b : Hd) : Bool := decide (a.nm = b.nm ∧ a.su = b.su ∧ a.kd = b.kd ∧ a.co = b.co ∧ a.po = b.po ∧ a.he = b.he ∧ a.tr = b.tr ∧ a.tk = b.tk)
theorem hd_ext {a b : Hd} (h : sameHd a b = true) : a = b := by
  have := of_decide_eq_true h
  obtain ⟨a0, a1, a2, a3, a4, a5, a6, a7⟩ := a
  obtain ⟨b0, b1, b2, b3, b4, b5, b6, b7⟩ := b
  simp only at this
  simp [this]
theorem sameHd_refl (a : Hd) : sameHd a a = true := by simp [sameHd]
theorem list_no {s t : ByteArray} (h : ¬ s = t) : (s.toList == t.toList) = false := by
  cases hb : (s.toList == t.toList) with
  | false => rfl
  | true => exact absurd (bytes_inj (eq_of_beq hb)) h
theorem beqi_no {a b : Int} (h : ¬ a = b) : (a == b) = false := by simpa using h
theorem beqb_no {a b : Bool} (h : ¬ a = b) : (a == b) = false := by simpa using h
end Go.Proofs.YtcldncojpgipcaaDoor
