/-
  Lists of numbers where they can be cut: nothing at all, or a plain place with room.
-/
import Derived.Test.YtjjgipklhdofhaaPlS
namespace Go.Proofs.Ytjjgipklhdofhaa
open Go.RowKit

def isI (z : Int) : Prop := -9223372036854775808 ≤ z ∧ z < 9223372036854775808
/-- Numbers in a list that may be cut. -/
def IntsB (w : World) (v : Value) (os : List Int) : Prop := (∃ a, v = .slice a 0 0 ∧ os = []) ∨ ∃ g off cap, v = .slice (some ⟨g, off, none⟩) os.length cap ∧ os.length ≤ cap ∧ ∀ (j : Nat) u, (ints os)[j]? = some u → w.cell? ⟨g, off + j, none⟩ = some u
theorem IntsB.a {w : World} {v : Value} {os : List Int} (h : IntsB w v os) : IntsA w v os := by
  rcases h with ⟨a, rfl, rfl⟩ | ⟨g, off, cap, rfl, _, h⟩
  · cases a with
    | none => exact Or.inl ⟨rfl, rfl⟩
    | some ad => exact Or.inr ⟨ad, 0, rfl, fun j u hu => by simp [ints] at hu⟩
  · exact Or.inr ⟨_, _, rfl, fun j u hu => by rw [add_plain]; exact h j u hu⟩
theorem IntsB.keep {w w' : World} {v : Value} {os : List Int} (h : IntsB w v os) (g : w.grownBy w' none) : IntsB w' v os := by
  rcases h with h | ⟨b, off, cap, e, hc, h⟩
  · exact Or.inl h
  · exact Or.inr ⟨b, off, cap, e, hc, fun j u hu => g.cell (h j u hu) (by simp)⟩
theorem IntsB.form {w : World} {v : Value} {l : List Int} (h : IntsB w v l) : ∃ a c, v = .slice a l.length c := by
  rcases h with ⟨a, rfl, rfl⟩ | ⟨g, off, cap, rfl, _, _⟩
  · exact ⟨_, _, rfl⟩
  · exact ⟨_, _, rfl⟩
/-- A list of the call's own may be cut. -/
theorem own_B {w : World} {base n : Nat} {v : Value} {l : List Int} (h : w.ownsRow base 3 1 v n (ints l)) (hn : l.length = n) : IntsB w v l := by
  subst hn
  rcases h.2 with ⟨e, h0⟩ | ⟨g, cap, cur, e, hb, hh, hc, hm, hs, ht⟩
  · exact Or.inl ⟨none, e, List.length_eq_zero_iff.1 h0⟩
  · subst e
    refine Or.inr ⟨g, 0, cap, rfl, hc, fun j u hu => ?_⟩
    have hj := (List.getElem?_eq_some_iff.1 hu).1
    rw [length_ints] at hj
    rw [Nat.zero_add, World.ownsRow.cellAt h j (by omega)]
    exact hu
end Go.Proofs.Ytjjgipklhdofhaa
