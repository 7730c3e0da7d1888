/-
  What the document's own log (package gambitref01) answers, one contract a function: New, Note, Close, Closed, List, First.
-/
import Derived.Test.YtldjfeodeodcmaaGrowsParts
import Derived.Deep.QuietTactic
import Derived.BigQuiet
namespace Go.Proofs.Ytldjfeodeodcmaa
open Go.RowKit

theorem own_snoc {w : World} {base n : Nat} {v : Value} {l l' : List Int} {x : Int} (h : w.ownsRow base 3 1 v (n + 1) (ints l ++ [Value.int .i64 x])) (hl : l ++ [x] = l') (hn : l'.length = n + 1) : Own w base v l' := by
  unfold Own
  rw [hn, ← hl, ints_snoc]; exact h
theorem Own.form_len {w : World} {base n : Nat} {v : Value} {l : List Int} (h : Own w base v l) (hn : l.length = n) : ∃ p cap, v = .slice p n cap := by
  subst hn; exact h.form

/-- Nothing old has turned but the blocks of S. -/
structure Kept (S : List Nat) (w w' : World) : Prop where
  os : w'.os = w.os
  tape : w'.tape = w.tape
  output : w'.output = w.output
  size : w.heap.size ≤ w'.heap.size
  block : ∀ k, k < w.heap.size → k ∉ S → w'.heap[k]? = w.heap[k]?
theorem Kept.refl (S : List Nat) (w : World) : Kept S w w := ⟨rfl, rfl, rfl, Nat.le_refl _, fun _ _ _ => rfl⟩
theorem Kept.trans {S T : List Nat} {a b c : World} (h : Kept S a b) (k : Kept T b c) (hT : ∀ x, x ∈ T → x ∈ S ∨ a.heap.size ≤ x) : Kept S a c :=
  ⟨k.os.trans h.os, k.tape.trans h.tape, k.output.trans h.output, Nat.le_trans h.size k.size, fun i hi hs => (k.block i (Nat.lt_of_lt_of_le hi h.size) (fun e => by rcases hT i e with h1 | h1; exact hs h1; omega)).trans (h.block i hi hs)⟩
theorem Kept.of_grown {w w' : World} {r : Option Nat} (h : w.grownBy w' r) : Kept r.toList w w' :=
  ⟨h.os, h.tape, h.output, h.size, fun k hk hs => h.block k hk (fun e => hs (by rw [← e]; simp))⟩
theorem Kept.mono {S T : List Nat} {a b : World} (h : Kept S a b) (hS : ∀ x, x ∈ S → x ∈ T) : Kept T a b :=
  ⟨h.os, h.tape, h.output, h.size, fun k hk hs => h.block k hk (fun e => hs (hS k e))⟩
theorem Kept.grown {w w' : World} (h : Kept [] w w') : w.grownBy w' none := ⟨h.os, h.tape, h.output, h.size, fun k hk _ => h.block k hk (by simp)⟩
theorem Kept.keep {S : List Nat} {a b : World} (h : Kept S a b) {k : Nat} {o : Obj} (hk : a.heap[k]? = some o) (hr : k ∉ S) : b.heap[k]? = some o := by
  rw [h.block k (block_lt hk) hr]; exact hk
theorem LogAt.kept {w w' : World} {b : Nat} {l : List Int} {c : Bool} {S : List Nat} (h : LogAt w b l c) (hg : Kept S w w') (hr : b ∉ S) : LogAt w' b l c := by
  obtain ⟨Z, h1, h2, h3, h4⟩ := h
  exact ⟨Z, h1, h2, h3, hg.keep h4 hr⟩
/-- The block of a slice, if it has one. -/
def ob (v : Value) : List Nat := v.ownBlock.toList
theorem Own.kept {w w' : World} {base : Nat} {v : Value} {l : List Int} {S : List Nat} (h : Own w base v l) (hg : Kept S w w') (hr : ∀ x, x ∈ ob v → x ∉ S) : Own w' base v l := by
  obtain ⟨h1, h2⟩ := h
  refine ⟨h1, ?_⟩
  rcases h2 with h2 | ⟨g, cap, cur, rfl, hg0, hh, rest⟩
  · exact Or.inl h2
  · exact Or.inr ⟨g, cap, cur, rfl, hg0, hg.keep hh (hr g (by simp [ob, Value.ownBlock])), rest⟩
theorem Own.tag {w : World} {base : Nat} {v : Value} {l : List Int} (h : Own w base v l) : ∀ x, x ∈ ob v → ∃ cs, w.heap[x]? = some (.cells cs 3 (0, 0)) := by
  obtain ⟨h1, h2⟩ := h
  rcases h2 with ⟨rfl, _⟩ | ⟨g, cap, cur, rfl, hg0, hh, _⟩
  · intro x hx; simp [ob, Value.ownBlock] at hx
  · intro x hx
    have : x = g := by simpa [ob, Value.ownBlock] using hx
    subst this; exact ⟨cur, hh⟩

/-- The document's log at block b: its notes l lie in the slice v; whether it is closed. -/
def RefAt (w : World) (b : Nat) (v : Value) (l : List Int) (c : Bool) : Prop :=
  w.heap[b]? = some (.cells #[.bool true, .bool c, v] 50 (0, 0)) ∧ Own w 0 v l ∧ l.length ≤ 256
theorem RefAt.kept {w w' : World} {b : Nat} {v : Value} {l : List Int} {c : Bool} {S : List Nat} (h : RefAt w b v l c) (hg : Kept S w w') (hb : b ∉ S) (hv : ∀ x, x ∈ ob v → x ∉ S) : RefAt w' b v l c :=
  ⟨hg.keep h.1 hb, h.2.1.kept hg hv, h.2.2⟩
theorem RefAt.ne {w : World} {b : Nat} {v : Value} {l : List Int} {c : Bool} (h : RefAt w b v l c) : ∀ x, x ∈ ob v → x ≠ b := by
  intro x hx e
  obtain ⟨cs, hc⟩ := h.2.1.tag x hx
  have h1 := h.1
  rw [e, h1] at hc
  simp at hc

set_option maxHeartbeats 400000 in
theorem rnone_made (b : Nat) (w : World) (h : w.cell? ⟨b, 0, none⟩ = some (.bool true)) : Calls Try.prog 26 #[.pointer (some ⟨b, 0, none⟩)] w fun e w' => e = .returned (.bool false) ∧ w' = w := by
  go_enter Try.func26, Try.ntmps26
  go_wp2
  go_ret
  exact ⟨rfl, rfl⟩

set_option maxHeartbeats 400000 in
theorem rnew_any (w : World) : Calls Try.prog 8 #[] w fun e w' => e = .returned (.pointer (some ⟨w.heap.size, 0, none⟩)) ∧ RefAt w' w.heap.size (.slice none 0 0) [] false ∧ w.grownBy w' none ∧ w'.heap.size = w.heap.size + 1 := by
  go_enter Try.func8, Try.ntmps8
  go_wp2
  go_ret
  refine ⟨rfl, ⟨?_, Own.nil _ _, by simp⟩, World.grownBy_alloc w _ none, by simp⟩
  show (w.heap.push _)[w.heap.size]? = _
  rw [Array.getElem?_push_size]

set_option maxHeartbeats 400000 in
theorem rclosed_any (b : Nat) (v : Value) (l : List Int) (c : Bool) (w : World) (h : RefAt w b v l c) : Calls Try.prog 23 #[.pointer (some ⟨b, 0, none⟩)] w fun e w' => e = .returned (.bool c) ∧ w' = w := by
  have c0 : w.cell? ⟨b, 0, none⟩ = some (.bool true) := block_cell h.1 0
  have c1 : w.cell? ⟨b, 1, none⟩ = some (.bool c) := block_cell h.1 1
  clear h
  go_enter Try.func23, Try.ntmps23
  go_wp2_with (go_at_call 26; refine (rnone_made _ _ c0).mono ?_; rintro e w' ⟨rfl, rfl⟩)
  go_ret
  exact ⟨rfl, rfl⟩

set_option maxHeartbeats 400000 in
theorem rclose_any (b : Nat) (v : Value) (l : List Int) (c : Bool) (w : World) (h : RefAt w b v l c) : Calls Try.prog 22 #[.pointer (some ⟨b, 0, none⟩)] w fun e w' => e = .returned (.tuple #[]) ∧ RefAt w' b v l true ∧ Kept [b] w w' := by
  have c0 : w.cell? ⟨b, 0, none⟩ = some (.bool true) := block_cell h.1 0
  have c1 : w.cell? ⟨b, 1, none⟩ = some (.bool c) := block_cell h.1 1
  have f := block_free h.1
  have H : Hid (RefAt w b v l c) := h
  clear h
  go_enter Try.func22, Try.ntmps22
  go_wp2_with (go_at_call 26; refine (rnone_made _ _ c0).mono ?_; rintro e w' ⟨rfl, rfl⟩)
  go_end0
  have K : Kept [b] w' (w'.setCell ⟨b, 1, none⟩ (.bool true)) := Kept.of_grown (grown_set _ _ _ _)
  exact ⟨rfl, ⟨block_set H.out.1 1 _, H.out.2.1.kept K (fun x hx => by simpa using H.out.ne x hx), H.out.2.2⟩, K⟩

set_option maxHeartbeats 400000 in
theorem rnote_closed (b : Nat) (v : Value) (l : List Int) (n : Int) (w : World) (h : RefAt w b v l true) : Calls Try.prog 21 #[.pointer (some ⟨b, 0, none⟩), .int .i64 n] w fun e w' => e = .returned (.int .i64 (-1)) ∧ w' = w := by
  have c0 : w.cell? ⟨b, 0, none⟩ = some (.bool true) := block_cell h.1 0
  have c1 : w.cell? ⟨b, 1, none⟩ = some (.bool true) := block_cell h.1 1
  clear h
  go_enter Try.func21, Try.ntmps21
  go_wp2_with (go_at_call 26; refine (rnone_made _ _ c0).mono ?_; rintro e w' ⟨rfl, rfl⟩)
  go_ret
  exact ⟨rfl, rfl⟩
set_option maxHeartbeats 400000 in
theorem rnote_full (b : Nat) (v : Value) (l : List Int) (c : Bool) (n : Int) (w : World) (h : RefAt w b v l c) (hl : l.length = 256) : Calls Try.prog 21 #[.pointer (some ⟨b, 0, none⟩), .int .i64 n] w fun e w' => e = .returned (.int .i64 (-1)) ∧ w' = w := by
  cases c
  case true => exact rnote_closed b v l n w h
  obtain ⟨p, cap, rfl⟩ := h.2.1.form_len hl
  have c0 : w.cell? ⟨b, 0, none⟩ = some (.bool true) := block_cell h.1 0
  have c1 : w.cell? ⟨b, 1, none⟩ = some (.bool false) := block_cell h.1 1
  have c2 : w.cell? ⟨b, 2, none⟩ = some (.slice p 256 cap) := block_cell h.1 2
  clear h hl
  go_enter Try.func21, Try.ntmps21
  go_wp2_with (go_at_call 26; refine (rnone_made _ _ c0).mono ?_; rintro e w' ⟨rfl, rfl⟩)
  go_ret
  exact ⟨rfl, rfl⟩

end Go.Proofs.Ytldjfeodeodcmaa
