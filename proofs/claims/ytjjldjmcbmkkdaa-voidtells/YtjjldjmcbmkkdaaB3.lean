/-
  Traits' names and marks of a book: TraitName, MarkOf, Trait, Mark.
-/
import Derived.Test.YtjjldjmcbmkkdaaB2
import Derived.Test.YtjjldjmcbmkkdaaClone
namespace Go.Proofs.Ytjjldjmcbmkkdaa
open Go.RowKit

def fF (n : Int) : Bool := decide (-9 ≤ n) && decide (n ≤ 9)
/-- A row of texts. -/
def StrAt (w : World) (g o : Nat) (l : List ByteArray) : Prop := ∀ (j : Nat) s, l[j]? = some s → w.cell? ⟨g, o + j, none⟩ = some (.string s)
def NoTo (l : List ByteArray) (s : ByteArray) (k : Nat) : Prop := ∀ (j : Nat) x, j < k → l[j]? = some x → ¬ x = s
theorem noTo_next {l : List ByteArray} {s x : ByteArray} {k : Nat} (h : NoTo l s k) (he : l[k]? = some x) (hs : ¬ x = s) : NoTo l s (k + 1) := fun j y hj hy => by
  rcases (show j < k ∨ j = k by omega) with hj | rfl
  · exact h j y hj hy
  · rw [he] at hy
    cases hy
    exact hs
/-- What Trait tells. -/
def trE (p : Pl) (t : Int) (s : ByteArray) : Int := if p.shut = true then 7 else if t < 1 ∨ 8 < t then 2 else if nameOk s.data.toList = false then 4 else if ¬ p.nms.getD t.toNat ⟨#[]⟩ = ⟨#[]⟩ ∨ 0 ≤ pos p.nms s then 5 else 0
def trP (p : Pl) (t : Int) (s : ByteArray) : Pl := if trE p t s = 0 then { p with nms := p.nms.set t.toNat s } else p
theorem grown_own' {a b c : World} {r : Option Nat} (h : a.grownBy b none) (k : b.grownBy c r) : a.grownBy c r := ⟨k.os.trans h.os, k.tape.trans h.tape, k.output.trans h.output, Nat.le_trans h.size k.size, fun i hi hr => (k.block i (Nat.lt_of_lt_of_le hi h.size) hr).trans (h.block i hi (by simp))⟩
theorem toList_ne {x : ByteArray} (h : ¬ x = ⟨#[]⟩) : (x.toList == []) = false := by
  cases hb : (x.toList == []) with
  | false => rfl
  | true => exact absurd (bytes_inj (by rw [eq_of_beq hb]; kernel_rfl)) h
/-- What TraitName tells. -/
def tnS (p : Pl) (t : Int) : ByteArray := if t < 9 then p.nms.getD t.toNat ⟨#[]⟩ else ⟨#[]⟩
def tnB (p : Pl) (t : Int) : Bool := !decide (tnS p t = ⟨#[]⟩)
theorem getD_some {α : Type} {l : List α} {k : Nat} {d : α} (h : k < l.length) : l[k]? = some (l.getD k d) := by simp [List.getD, h]
theorem empty_list : (ByteArray.mk #[]).toList = [] := by kernel_rfl
end Go.Proofs.Ytjjldjmcbmkkdaa
