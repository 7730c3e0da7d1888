/-
  A log beside the document's: one contract for Note of each, whatever its state; the lists that were told.
-/
import Derived.Test.YtldjfeodeodcmaaRefTwo
namespace Go.Proofs.Ytldjfeodeodcmaa
open Go.RowKit

/-- What Note answers, and what the notes are then. -/
def noteVal (l : List Int) (c : Bool) : Int := if c = false ∧ l.length < 256 then l.length else -1
def noteList (l : List Int) (c : Bool) (n : Int) : List Int := if c = false ∧ l.length < 256 then l ++ [n] else l
theorem note_all (b : Nat) (l : List Int) (c : Bool) (n : Int) (w : World) (h : LogAt w b l c) : Calls Try.prog 18 #[.pointer (some ⟨b, 0, none⟩), .int .i64 n] w fun e w' => e = .returned (.int .i64 (noteVal l c)) ∧ LogAt w' b (noteList l c n) c ∧ Kept [b] w w' := by
  by_cases hc : c = false ∧ l.length < 256
  · obtain ⟨rfl, hl⟩ := hc
    refine (note_ok b l n w h hl).mono ?_
    rintro e w' ⟨rfl, h1, h2⟩
    have e1 : noteVal l false = l.length := if_pos ⟨rfl, hl⟩
    have e2 : noteList l false n = l ++ [n] := if_pos ⟨rfl, hl⟩
    rw [e1, e2]
    exact ⟨rfl, h1, Kept.of_grown h2⟩
  · have e1 : noteVal l c = -1 := if_neg hc
    have e2 : noteList l c n = l := if_neg hc
    rw [e1, e2]
    cases c
    · have hl : l.length = 256 := by have := h.len; simp at hc; omega
      refine (note_full b l false n w h hl).mono ?_
      rintro e w' ⟨rfl, rfl⟩
      exact ⟨rfl, h, Kept.refl _ _⟩
    · refine (note_closed b l n w h).mono ?_
      rintro e w' ⟨rfl, rfl⟩
      exact ⟨rfl, h, Kept.refl _ _⟩
theorem rnote_all (b : Nat) (v : Value) (l : List Int) (c : Bool) (n : Int) (w : World) (h : RefAt w b v l c) : Calls Try.prog 21 #[.pointer (some ⟨b, 0, none⟩), .int .i64 n] w fun e w' =>
    e = .returned (.int .i64 (noteVal l c)) ∧ ∃ v', RefAt w' b v' (noteList l c n) c ∧ Kept (b :: ob v) w w' ∧ ∀ x, x ∈ ob v' → x ∈ ob v ∨ w.heap.size ≤ x := by
  by_cases hc : c = false ∧ l.length < 256
  · obtain ⟨rfl, hl⟩ := hc
    have e1 : noteVal l false = l.length := if_pos ⟨rfl, hl⟩
    have e2 : noteList l false n = l ++ [n] := if_pos ⟨rfl, hl⟩
    rw [e1, e2]
    exact rnote_ok b v l n w h hl
  · have e1 : noteVal l c = -1 := if_neg hc
    have e2 : noteList l c n = l := if_neg hc
    rw [e1, e2]
    cases c
    · have hl : l.length = 256 := by have := h.2.2; simp at hc; omega
      refine (rnote_full b v l false n w h hl).mono ?_
      rintro e w' ⟨rfl, rfl⟩
      exact ⟨rfl, v, h, Kept.refl _ _, fun x hx => Or.inl hx⟩
    · refine (rnote_closed b v l n w h).mono ?_
      rintro e w' ⟨rfl, rfl⟩
      exact ⟨rfl, v, h, Kept.refl _ _, fun x hx => Or.inl hx⟩

theorem Kept.cell {S : List Nat} {a b : World} (h : Kept S a b) {p : Addr} {v : Value} (hc : a.cell? p = some v) (hp : p.block ∉ S) : b.cell? p = some v := by
  rw [World.cell?_of_block (h.block p.block (World.block_lt_of_cell? _ _ hc) hp)]; exact hc
theorem tag_ne {w : World} {k j : Nat} {cs cs' : Array Value} {t t' : TypeId} (h : w.heap[k]? = some (.cells cs t (0, 0))) (h' : w.heap[j]? = some (.cells cs' t' (0, 0))) (ht : t ≠ t') : k ≠ j := by
  intro e
  rw [e, h'] at h
  simp at h
  exact ht h.2.symm
theorem LogAt.tag {w : World} {b : Nat} {l : List Int} {c : Bool} (h : LogAt w b l c) : ∃ cs, w.heap[b]? = some (.cells cs 43 (0, 0)) := by
  obtain ⟨Z, _, _, _, h4⟩ := h; exact ⟨_, h4⟩
/-- A log's block is neither the document's log's, nor its notes'. -/
theorem pair_apart {w : World} {la ra : Nat} {v : Value} {l l' : List Int} {c c' : Bool} (L : LogAt w la l c) (R : RefAt w ra v l' c') : la ≠ ra ∧ ∀ x, x ∈ ob v → x ≠ la := by
  obtain ⟨cs, h⟩ := L.tag
  refine ⟨tag_ne h R.1 (by decide), fun x hx => ?_⟩
  obtain ⟨cs', h'⟩ := R.2.1.tag x hx
  exact tag_ne h' h (by decide)
theorem ob_lt {w : World} {base : Nat} {v : Value} {l : List Int} (h : Own w base v l) : ∀ x, x ∈ ob v → x < w.heap.size := fun x hx => by
  obtain ⟨cs, e⟩ := h.tag x hx; exact block_lt e

/-- The lists that were told, as cells: each lies at the head of a block of its own. -/
def toldCells (T : List (Nat × Nat)) : List Value := T.map fun x => .slice (some ⟨x.1, 0, none⟩) x.2 x.2
/-- t has the lists T: block and length of each. -/
def Told (w : World) (t : Value) (T : List (Nat × Nat)) : Prop := w.ownsRow 0 35 1 t T.length (toldCells T) ∧ ∀ x, x ∈ T → x.2 ≤ 256 ∧ ∃ cs, w.heap[x.1]? = some (.cells cs 3 (0, 0)) ∧ cs.size = x.2
theorem Told.tag {w : World} {t : Value} {T : List (Nat × Nat)} (h : Told w t T) : ∀ x, x ∈ ob t → ∃ cs, w.heap[x]? = some (.cells cs 35 (0, 0)) := by
  obtain ⟨⟨h1, h2⟩, _⟩ := h
  rcases h2 with ⟨rfl, _⟩ | ⟨g, cap, cur, rfl, hg0, hh, _⟩
  · intro x hx; simp [ob, Value.ownBlock] at hx
  · intro x hx
    have : x = g := by simpa [ob, Value.ownBlock] using hx
    subst this; exact ⟨cur, hh⟩
theorem Told.kept {w w' : World} {t : Value} {T : List (Nat × Nat)} {S : List Nat} (h : Told w t T) (hk : Kept S w w') (ht : ∀ x, x ∈ ob t → x ∉ S) (hT : ∀ x, x ∈ T → x.1 ∉ S) : Told w' t T := by
  obtain ⟨⟨h1, h2⟩, h3⟩ := h
  refine ⟨⟨h1, ?_⟩, fun x hx => ?_⟩
  · rcases h2 with h2 | ⟨g, cap, cur, rfl, hg0, hh, rest⟩
    · exact Or.inl h2
    · exact Or.inr ⟨g, cap, cur, rfl, hg0, hk.keep hh (ht g (by simp [ob, Value.ownBlock])), rest⟩
  · obtain ⟨h4, cs, h5, h6⟩ := h3 x hx
    exact ⟨h4, cs, hk.keep h5 (hT x hx), h6⟩

end Go.Proofs.Ytldjfeodeodcmaa
