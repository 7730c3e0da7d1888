/-
  The document's Cut.
  Two lists, one behind the other, in new memory: the program's joined.
  The program's Draw, Under, Cut.
  Lists of numbers where they can be cut: nothing at all, or a plain place with room.
-/
import Derived.Test.YtogpgldbbegniaaS4
import Derived.Laws.CopyOwn
import Derived.Deep.CutRange
namespace Go.Proofs.Ytogpgldbbegniaa
open Go.RowKit

theorem ints_upto {w : World} {g off n cap k : Nat} {l : List Int} (h : IntsA w (.slice (some ⟨g, off, none⟩) n cap) l) (hk : k ≤ n) : IntsA w (.slice (some ⟨g, off, none⟩) k cap) (l.take k) := by
  rcases h with ⟨h, _⟩ | ⟨ad, c, h, hcell⟩
  · cases h
  · cases h
    have hl : (l.take k).length = k := by rw [List.length_take]; omega
    refine Or.inr ⟨_, _, by rw [hl], fun j u hu => hcell j u ?_⟩
    have hj : j < k := by have := (List.getElem?_eq_some_iff.1 hu).1; rw [length_ints, hl] at this; exact this
    unfold ints at hu ⊢
    rw [List.getElem?_map, List.getElem?_take, if_pos hj] at hu
    rw [List.getElem?_map]
    exact hu
theorem ints_past {w : World} {g off n cap k : Nat} {l : List Int} (h : IntsA w (.slice (some ⟨g, off, none⟩) n cap) l) (hk : k ≤ n) (hc : n ≤ cap) : IntsA w (.slice (if cap = k then some ⟨g, off, none⟩ else some ⟨g, off + k, none⟩) (n - k) (cap - k)) (l.drop k) := by
  rcases h with ⟨h, _⟩ | ⟨ad, c, h, hcell⟩
  · cases h
  · cases h
    have hl : (l.drop k).length = l.length - k := List.length_drop
    by_cases e : cap = k
    · rw [if_pos e]
      have h0 : l.drop k = [] := List.length_eq_zero_iff.1 (by omega)
      rw [h0]
      exact Or.inr ⟨_, _, by rw [show l.length - k = 0 by omega]; rfl, fun j u hu => by simp [ints] at hu⟩
    · rw [if_neg e]
      refine Or.inr ⟨_, _, by rw [hl], fun j u hu => ?_⟩
      have := hcell (k + j) u (by unfold ints at hu ⊢; rw [List.getElem?_map, List.getElem?_drop] at hu; rw [List.getElem?_map]; exact hu)
      rw [add_plain] at this ⊢
      rw [show off + k + j = off + (k + j) by omega]
      exact this
theorem own_under {w : World} {base n : Nat} {v : Value} {xs : List Value} (h : w.ownsRow base 3 1 v n xs) : ∀ b, v.ownBlock = some b → b < w.heap.size := by
  intro b hb
  rcases h.2 with ⟨e, _⟩ | ⟨g, cap, cur, e, _, hh, _⟩
  · rw [e] at hb; simp [Value.ownBlock] at hb
  · rw [e] at hb; simp [Value.ownBlock] at hb; rw [← hb]; exact block_lt hh
theorem cut_fin {w w1 w2 : World} {u v : Value} {k j : Nat} {xs ys : List Value} (hd : w.grownBy w.drew none) (o1 : w1.ownsRow w.heap.size 3 1 u k xs) (g1 : w.drew.grownBy w1 none) (o2 : w2.ownsRow w1.heap.size 3 1 v j ys) (g2 : w1.grownBy w2 none) : (∃ m, w.heap.size ≤ m ∧ m ≤ w2.heap.size ∧ (∀ b, u.ownBlock = some b → b < m) ∧ w2.ownsRow w.heap.size 3 1 u k xs ∧ w2.ownsRow m 3 1 v j ys) ∧ w.grownBy w2 none :=
  ⟨⟨w1.heap.size, (grown_trans hd g1).size, g2.size, own_under o1, World.ownsRow.kept o1 g2 (Classical.em _), o2⟩, grown_trans (grown_trans hd g1) g2⟩
end Go.Proofs.Ytogpgldbbegniaa
namespace Go.Proofs.Ytogpgldbbegniaa
open Go.RowKit

/-- Numbers that were handed in: where they lie, if there are any. -/
theorem IntsA.src {w : World} {v : Value} {os : List Int} (h : IntsA w v os) : ∃ p c, v = .slice p os.length c ∧ (0 < os.length → ∃ ad, p = some ad ∧ ∀ j u, (ints os)[j]? = some u → w.cell? (Addr.add ad j) = some u) := by
  rcases h with ⟨rfl, rfl⟩ | ⟨ad, cap, rfl, h⟩
  · exact ⟨_, _, rfl, fun h => absurd h (by simp)⟩
  · exact ⟨_, _, rfl, fun _ => ⟨ad, rfl, h⟩⟩
theorem below_grown {w w' : World} (h : Below w.heap.size w w') : w.grownBy w' none := ⟨h.os, h.tape, h.output, h.size, fun k hk _ => h.block k hk⟩
theorem splice_two {α : Type} (Z A B : List α) (k : Nat) (hk : A.length = k) (hZ : Z.length = k + B.length) : splice (splice Z 0 A) k B = A ++ B := by
  subst hk
  have e1 : splice Z 0 A = A ++ Z.drop A.length := by simp [splice]
  rw [e1]
  unfold splice
  rw [List.take_left, List.drop_append]
  have e2 : List.drop (A.length + B.length) A = [] := List.drop_eq_nil_of_le (by omega)
  have e3 : List.drop (A.length + B.length - A.length) (List.drop A.length Z) = [] := List.drop_eq_nil_of_le (by simp; omega)
  rw [e2, e3]
  simp
/-- The new list, made: a block of so many cells. -/
theorem made_block {w V : World} {N : Nat} {xs : List Value} (h : V.ownsRow w.heap.size 3 1 (.slice (some ⟨w.heap.size, 0, none⟩) N N) N xs) : ∃ Z : List Value, Z.length = N ∧ V.heap[w.heap.size]? = some (.cells Z.toArray 3 (0, 0)) := by
  rcases h.2 with ⟨h', _⟩ | ⟨g, cap, cur, h', hb, hh, hn, hm, hs, ht⟩
  · simp at h'
  · simp at h'
    obtain ⟨rfl, rfl⟩ := h'
    exact ⟨cur.toList, by simp [hs], by simpa using hh⟩
theorem block_own {w V : World} {N : Nat} {l : List Int} (h : V.heap[w.heap.size]? = some (.cells (ints l).toArray 3 (0, 0))) (hl : l.length = N) (hN : N ≤ maxLen) : V.ownsRow w.heap.size 3 1 (.slice (some ⟨w.heap.size, 0, none⟩) N N) N (ints l) :=
  ⟨by rw [length_ints, Nat.mul_one, hl], Or.inr ⟨w.heap.size, N, _, rfl, Nat.le_refl _, h, Nat.le_refl _, hN, by simp [length_ints, hl], by simp [← hl, length_ints, List.take_of_length_le]⟩⟩
end Go.Proofs.Ytogpgldbbegniaa
namespace Go.Proofs.Ytogpgldbbegniaa
open Go.RowKit

theorem own_low {w : World} {b b' n : Nat} {v : Value} {xs : List Value} (h : w.ownsRow b' 3 1 v n xs) (hb : b ≤ b') : w.ownsRow b 3 1 v n xs := by
  refine ⟨h.1, ?_⟩
  rcases h.2 with h | ⟨g, cap, cur, e, hg, r⟩
  · exact Or.inl h
  · exact Or.inr ⟨g, cap, cur, e, Nat.le_trans hb hg, r⟩
theorem one_ints {w : World} {g : Nat} {x : Int} (h : w.heap[g]? = some (.cells #[.int .i64 x] 3 (0, 0))) : IntsA w (.slice (some ⟨g, 0, none⟩) 1 1) [x] := Or.inr ⟨_, _, rfl, fun j u hu => by
  rw [add_plain, Nat.zero_add, block_cell h]
  simpa [ints] using hu⟩
end Go.Proofs.Ytogpgldbbegniaa
namespace Go.Proofs.Ytogpgldbbegniaa
open Go.RowKit

def isI (z : Int) : Prop := -9223372036854775808 ≤ z ∧ z < 9223372036854775808
/-- Numbers in a list that may be cut. -/
def IntsB (w : World) (v : Value) (os : List Int) : Prop := (∃ a, v = .slice a 0 0 ∧ os = []) ∨ ∃ g off cap, v = .slice (some ⟨g, off, none⟩) os.length cap ∧ os.length ≤ cap ∧ ∀ (j : Nat) u, (ints os)[j]? = some u → w.cell? ⟨g, off + j, none⟩ = some u
theorem IntsB.a {w : World} {v : Value} {os : List Int} (h : IntsB w v os) : IntsA w v os := by
  rcases h with ⟨a, rfl, rfl⟩ | ⟨g, off, cap, rfl, _, h⟩
  · cases a with
    | none => exact Or.inl ⟨rfl, rfl⟩
    | some ad => exact Or.inr ⟨ad, 0, rfl, fun j u hu => by simp [ints] at hu⟩
  · exact Or.inr ⟨_, _, rfl, fun j u hu => by rw [add_plain]; exact h j u hu⟩
theorem IntsB.keep {w w' : World} {v : Value} {os : List Int} (h : IntsB w v os) (g : w.grownBy w' none) : IntsB w' v os := by
  rcases h with h | ⟨b, off, cap, e, hc, h⟩
  · exact Or.inl h
  · exact Or.inr ⟨b, off, cap, e, hc, fun j u hu => g.cell (h j u hu) (by simp)⟩
theorem IntsB.form {w : World} {v : Value} {l : List Int} (h : IntsB w v l) : ∃ a c, v = .slice a l.length c := by
  rcases h with ⟨a, rfl, rfl⟩ | ⟨g, off, cap, rfl, _, _⟩
  · exact ⟨_, _, rfl⟩
  · exact ⟨_, _, rfl⟩
/-- A list of the call's own may be cut. -/
theorem own_B {w : World} {base n : Nat} {v : Value} {l : List Int} (h : w.ownsRow base 3 1 v n (ints l)) (hn : l.length = n) : IntsB w v l := by
  subst hn
  rcases h.2 with ⟨e, h0⟩ | ⟨g, cap, cur, e, hb, hh, hc, hm, hs, ht⟩
  · exact Or.inl ⟨none, e, List.length_eq_zero_iff.1 h0⟩
  · subst e
    refine Or.inr ⟨g, 0, cap, rfl, hc, fun j u hu => ?_⟩
    have hj := (List.getElem?_eq_some_iff.1 hu).1
    rw [length_ints] at hj
    rw [Nat.zero_add, World.ownsRow.cellAt h j (by omega)]
    exact hu
end Go.Proofs.Ytogpgldbbegniaa
