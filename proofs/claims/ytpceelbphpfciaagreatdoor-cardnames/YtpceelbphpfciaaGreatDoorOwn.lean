/-
  A list that a call grows, of any one-celled type; a list of words.
-/
import Derived.Test.YtpceelbphpfciaaGreatDoorCheck
import Derived.Maps.AppendAt
import Derived.Laws.CopyOwn
namespace Go.Proofs.YtpceelbphpfciaaGreatDoor
open Go.RowKit

/-- A list that the call itself grows: v owns these values (one cell each, of the type ty), in a block from base on. -/
def Own (w : World) (base : Nat) (ty : TypeId) (v : Value) (l : List Value) : Prop := w.ownsRow base ty 1 v l.length l
theorem Own.nil (w : World) (base : Nat) (ty : TypeId) : Own w base ty (.slice none 0 0) [] := ⟨rfl, Or.inl ⟨rfl, rfl⟩⟩
theorem Own.keep {w w' : World} {base : Nat} {ty : TypeId} {v : Value} {l : List Value} {r : Option Nat} (h : Own w base ty v l) (hg : w.grownBy w' r) (hr : ∀ x, r = some x → x < base) : Own w' base ty v l := by
  obtain ⟨h1, h2⟩ := h
  refine ⟨h1, ?_⟩
  rcases h2 with h2 | ⟨g, cap, cur, hv, hg0, hh, rest⟩
  · exact Or.inl h2
  · exact Or.inr ⟨g, cap, cur, hv, hg0, grown_keep hg hh (fun e => by have := hr g e.symm; omega), rest⟩
/-- Where it lies, what is read there. -/
theorem Own.at {w : World} {base : Nat} {ty : TypeId} {v : Value} {l : List Value} (h : Own w base ty v l) : (v = .slice none 0 0 ∧ l = []) ∨ ∃ g cap, v = .slice (some ⟨g, 0, none⟩) l.length cap ∧ base ≤ g ∧ g < w.heap.size ∧ l.length ≤ cap ∧ ∀ (j : Nat) x, l[j]? = some x → w.cell? ⟨g, j, none⟩ = some x ∧ w.frozen? ⟨g, j, none⟩ = false := by
  obtain ⟨h1, h2⟩ := h
  rcases h2 with ⟨rfl, h0⟩ | ⟨g, cap, cur, rfl, hg0, hh, hn, hm, hs, ht⟩
  · exact Or.inl ⟨rfl, List.eq_nil_of_length_eq_zero h0⟩
  · refine Or.inr ⟨g, cap, rfl, hg0, block_lt hh, hn, fun j x hx => ⟨?_, block_free hh _⟩⟩
    have hj : j < l.length := (List.getElem?_eq_some_iff.1 hx).1
    rw [block_cell hh, ← hx, ← ht, List.getElem?_take, if_pos (by omega)]
    simp
theorem Own.form {w : World} {base : Nat} {ty : TypeId} {v : Value} {l : List Value} (h : Own w base ty v l) : ∃ p cap, v = .slice p l.length cap := by
  rcases h.at with ⟨rfl, rfl⟩ | ⟨g, cap, rfl, _⟩
  · exact ⟨none, 0, rfl⟩
  · exact ⟨_, cap, rfl⟩
theorem Own.block {w : World} {base : Nat} {ty : TypeId} {v : Value} {l : List Value} (h : Own w base ty v l) : ∀ k, v.ownBlock = some k → base ≤ k := by
  intro k hk
  obtain ⟨h1, h2⟩ := h
  rcases h2 with ⟨rfl, h0⟩ | ⟨g, cap, cur, rfl, hg0, _⟩
  · simp [Value.ownBlock] at hk
  · simp [Value.ownBlock] at hk; omega
theorem own_snoc {w : World} {base : Nat} {ty : TypeId} {v : Value} {l : List Value} {n : Nat} {x : Value} (h : w.ownsRow base ty 1 v (n + 1) (l ++ [x])) (hn : n = l.length) : Own w base ty v (l ++ [x]) := by
  subst hn
  unfold Own
  rw [List.length_append]
  exact h

/-- Words, as cells. -/
def pcs (l : List (List UInt8)) : List Value := l.map fun p => Value.string ⟨p.toArray⟩
theorem length_pcs (l : List (List UInt8)) : (pcs l).length = l.length := by simp [pcs]
theorem pcs_snoc (l : List (List UInt8)) (p : List UInt8) : pcs (l ++ [p]) = pcs l ++ [Value.string ⟨p.toArray⟩] := by simp [pcs]
theorem own_pcs {w : World} {base : Nat} {v : Value} {l : List (List UInt8)} (h : Own w base 9 v (pcs l)) : w.ownsRow base 9 1 v l.length (pcs l) := by
  have := h
  unfold Own at this
  rwa [length_pcs] at this
theorem own_block {w : World} {base b : Nat} {cs : List Value} (hb : base ≤ b) (h : w.heap[b]? = some (.cells cs.toArray 9 (0, 0))) (hm : cs.length ≤ maxLen) : Own w base 9 (.slice (some ⟨b, 0, none⟩) cs.length cs.length) cs := by
  refine ⟨by simp, Or.inr ⟨b, cs.length, cs.toArray, rfl, hb, h, Nat.le_refl _, hm, by simp, by simp⟩⟩
end Go.Proofs.YtpceelbphpfciaaGreatDoor
