/-
  Cards of a suit, in general: parts in a block of their own, lists of cards whose parts lie apart.
-/
import Derived.Test.YtpoicbefemjckaaRank1
import Derived.Laws.MakeOwn
import Derived.OwnWalk
namespace Go.Proofs.Ytpoicbefemjckaa
open Go.RowKit

theorem size_set9 (w : World) (b o : Nat) (h : Hd) (v : Value) : (set9 w b o h v).heap.size = w.heap.size := by unfold set9; simp
/-- Parts in a block of their own. -/
def PB (w : World) (g : Nat) (ps : List Pt) : Prop := w.heap[g]? = some (.cells (pcells ps).toArray 81 (0, 0))
/-- Where the parts of a card lie: nowhere, or in a new block of their own. -/
def Own8 (base : Nat) (w : World) (v : Value) (ps : List Pt) : Prop := (v = .slice none 0 0 ∧ ps = []) ∨ ∃ g, v = .slice (some ⟨g, 0, none⟩) ps.length ps.length ∧ PB w g ps ∧ base ≤ g
theorem Own8.at {base : Nat} {w : World} {v : Value} {ps : List Pt} (h : Own8 base w v ps) : PsAt w v ps := by
  rcases h with h | ⟨g, rfl, h, _⟩
  · exact Or.inl h
  · refine Or.inr ⟨⟨g, 0, none⟩, _, rfl, Nat.le_refl _, fun j u hu => ?_⟩
    rw [add_plain, block_cell h, Nat.zero_add]
    simpa using hu
theorem Own8.keepR {base : Nat} {w w' : World} {v : Value} {ps : List Pt} {r : Option Nat} (h : Own8 base w v ps) (g : w.grownBy w' r) (hr : ∀ k, base ≤ k → some k ≠ r) : Own8 base w' v ps := by
  rcases h with h | ⟨b, e, h, hb⟩
  · exact Or.inl h
  · exact Or.inr ⟨b, e, grown_keep g h (hr b hb), hb⟩
theorem Own8.keep {base : Nat} {w w' : World} {v : Value} {ps : List Pt} (h : Own8 base w v ps) (g : w.grownBy w' none) : Own8 base w' v ps := h.keepR g (by simp)
theorem Own8.low {base base' : Nat} {w : World} {v : Value} {ps : List Pt} (h : Own8 base w v ps) (hb : base' ≤ base) : Own8 base' w v ps := by
  rcases h with h | ⟨b, e, h, k⟩
  · exact Or.inl h
  · exact Or.inr ⟨b, e, h, Nat.le_trans hb k⟩
theorem Own8.block {base : Nat} {w : World} {v : Value} {ps : List Pt} (h : Own8 base w v ps) : ∀ k, v.ownBlock = some k → base ≤ k ∧ k < w.heap.size := by
  rcases h with ⟨rfl, _⟩ | ⟨b, rfl, h, k⟩
  · intro k hk; cases hk
  · intro k' hk; cases hk; exact ⟨k, block_lt h⟩
/-- Cards, each with parts in memory of its own, all of it new since base. -/
structure LOwn (base : Nat) (w : World) (es : List Ent) : Prop where
  own : ∀ e ∈ es, Own8 base w e.v e.ps
  nod : (es.filterMap fun e => e.v.ownBlock).Nodup
theorem LOwn.keepR {base : Nat} {w w' : World} {es : List Ent} {r : Option Nat} (h : LOwn base w es) (g : w.grownBy w' r) (hr : ∀ k, base ≤ k → some k ≠ r) : LOwn base w' es := ⟨fun e he => (h.own e he).keepR g hr, h.nod⟩
theorem LOwn.keep {base : Nat} {w w' : World} {es : List Ent} (h : LOwn base w es) (g : w.grownBy w' none) : LOwn base w' es := h.keepR g (by simp)
theorem LOwn.low {base base' : Nat} {w : World} {es : List Ent} (h : LOwn base w es) (hb : base' ≤ base) : LOwn base' w es := ⟨fun e he => (h.own e he).low hb, h.nod⟩
theorem LOwn.nil (base : Nat) (w : World) : LOwn base w [] := ⟨fun e he => by simp at he, List.nodup_nil⟩
theorem LOwn.snoc {base : Nat} {w w' : World} {es : List Ent} (h : LOwn base w es) (g : w.grownBy w' none) (hb : base ≤ w.heap.size) {x : Hd} {u : Value} {ps : List Pt} (k : Own8 w.heap.size w' u ps) : LOwn base w' (es ++ [⟨x, u, ps⟩]) := by
  refine ⟨fun e he => ?_, ?_⟩
  · rcases List.mem_append.1 he with he | he
    · exact (h.own e he).keep g
    · obtain rfl : e = ⟨x, u, ps⟩ := by simpa using he
      exact k.low hb
  · rw [List.filterMap_append, List.nodup_append]
    refine ⟨h.nod, ?_, ?_⟩
    · cases hu : u.ownBlock with
      | none => simp [hu]
      | some b => simp [hu]
    · intro a ha b hb2
      obtain ⟨e, he, hea⟩ := List.mem_filterMap.1 ha
      have h1 := ((h.own e he).block a hea).2
      obtain ⟨e', he', hb3⟩ := List.mem_filterMap.1 hb2
      obtain rfl : e' = ⟨x, u, ps⟩ := by simpa using he'
      have h2 := (k.block b hb3).1
      omega
theorem noCards_succ (k : Nat) : noCards (k + 1) = cvs Hd.none (.slice none 0 0) ++ noCards k := rfl
theorem noCards_len : ∀ k, (noCards k).length = k * 9
  | 0 => rfl
  | k + 1 => by rw [noCards_succ, List.length_append, noCards_len k]; simp only [cvs, List.length_cons, List.length_nil]; omega
end Go.Proofs.Ytpoicbefemjckaa
