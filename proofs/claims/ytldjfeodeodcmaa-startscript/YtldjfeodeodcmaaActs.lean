/-
  What one call of a pair (a log, and the document's) does to memory: the two stand alike behind it.
-/
import Derived.Test.YtldjfeodeodcmaaPair
namespace Go.Proofs.Ytldjfeodeodcmaa
open Go.RowKit

/-- What a call of one of the pairs leaves: it was answered as the document says; the two logs stand alike; the lists that were told, and maybe one more; nothing else that was there has turned. -/
structure ActPost (w : World) (la ra : Nat) (v t : Value) (T : List (Nat × Nat)) (w' : World) (t' v' : Value) (l' : List Int) (c' : Bool) (T' : List (Nat × Nat)) : Prop where
  log : LogAt w' la l' c'
  ref : RefAt w' ra v' l' c'
  told : Told w' t' T'
  kept : Kept (la :: ra :: (ob v ++ ob t)) w w'
  notes : ∀ x, x ∈ ob v' → x ∈ ob v ∨ w.heap.size ≤ x
  fresh : ∀ x, x ∈ T' → x ∈ T ∨ w.heap.size ≤ x.1
  apart : ∀ x, x ∈ T' → x.1 ∉ ob v'
  rows : ∀ x, x ∈ ob t' → x ∈ ob t ∨ w.heap.size ≤ x
  count : T'.length ≤ T.length + 1
  nodup : (T'.map Prod.fst).Nodup
theorem Kept.undrew {S : List Nat} {a b : World} (h : Kept S a.drew b) : Kept S a b := ⟨h.os, h.tape, h.output, h.size, h.block⟩
/-- Where the boxes of a call of a pair lie. -/
theorem boxes (w : World) (a b : Value) (k on n : Value) : ∃ W, (w.alloc (Obj.cells #[a, b] 28)).alloc (Obj.cells #[k, on, n] 33) = W ∧ Kept [] w W ∧ W.cell? ⟨w.heap.size, 0, none⟩ = some a ∧ W.cell? ⟨w.heap.size, 1, none⟩ = some b ∧ W.cell? ⟨w.heap.size + 1, 0, none⟩ = some k ∧ W.cell? ⟨w.heap.size + 1, 2, none⟩ = some n ∧ w.heap.size + 2 ≤ W.heap.size := by
  have e0 : ((w.alloc (Obj.cells #[a, b] 28)).alloc (Obj.cells #[k, on, n] 33)).heap[w.heap.size]? = some (.cells #[a, b] 28 (0, 0)) := by
    rw [Below.heap_alloc _ _ _ (by simp)]
    show (w.heap.push _)[w.heap.size]? = _
    rw [Array.getElem?_push_size]
  have e1 : ((w.alloc (Obj.cells #[a, b] 28)).alloc (Obj.cells #[k, on, n] 33)).heap[w.heap.size + 1]? = some (.cells #[k, on, n] 33 (0, 0)) := by
    have e : (w.alloc (Obj.cells #[a, b] 28)).heap.size = w.heap.size + 1 := by simp
    rw [← e]
    show ((w.alloc (Obj.cells #[a, b] 28)).heap.push _)[(w.alloc (Obj.cells #[a, b] 28)).heap.size]? = _
    rw [Array.getElem?_push_size]
  refine ⟨_, rfl, ⟨rfl, rfl, rfl, by simp; omega, fun i hi _ => ?_⟩, block_cell e0 0, block_cell e0 1, block_cell e1 0, block_cell e1 2, by simp⟩
  rw [Below.heap_alloc _ _ _ (by simp; omega), Below.heap_alloc _ _ _ hi]
/-- The pair behind some calls: the two logs stand alike; nothing else that was there has turned. -/
structure PairSt (w : World) (la ra : Nat) (v : Value) (w' : World) (v' : Value) (l' : List Int) (c' : Bool) : Prop where
  log : LogAt w' la l' c'
  ref : RefAt w' ra v' l' c'
  kept : Kept (la :: ra :: ob v) w w'
  notes : ∀ x, x ∈ ob v' → x ∈ ob v ∨ w.heap.size ≤ x
theorem PairSt.start {w W : World} {la ra : Nat} {v : Value} {l : List Int} {c : Bool} (L : LogAt w la l c) (R : RefAt w ra v l c) (K : Kept [] w W) : PairSt w la ra v W v l c :=
  ⟨L.kept K (by simp), R.kept K (by simp) (by simp), K.mono (by simp), fun _ h => Or.inl h⟩
theorem PairSt.later {w wa wb : World} {la ra : Nat} {v v' : Value} {l : List Int} {c : Bool} (P : PairSt w la ra v wa v' l c) (K : Kept [] wa wb) : PairSt w la ra v wb v' l c :=
  ⟨P.log.kept K (by simp), P.ref.kept K (by simp) (by simp), P.kept.trans K (by simp), P.notes⟩
theorem PairSt.step {w wa wb wc : World} {la ra : Nat} {v v' v3 : Value} {l l' : List Int} {c c' : Bool} (P : PairSt w la ra v wa v' l c) (k2 : Kept [la] wa wb) (L : LogAt wb la l' c') (k3 : Kept (ra :: ob v') wb wc) (R : RefAt wc ra v3 l' c') (a3 : ∀ x, x ∈ ob v3 → x ∈ ob v' ∨ wb.heap.size ≤ x) : PairSt w la ra v wc v3 l' c' := by
  obtain ⟨hne, hv⟩ := pair_apart P.log P.ref
  refine ⟨L.kept k3 (fun h => ?_), R, (P.kept.trans k2 (fun x hx => Or.inl (by simp at hx; simp [hx]))).trans k3 (fun x hx => ?_), fun x hx => ?_⟩
  · rcases List.mem_cons.1 h with h | h
    · exact hne h
    · exact hv _ h rfl
  · rcases List.mem_cons.1 hx with h | h
    · left; simp [h]
    · rcases P.notes x h with h | h
      · left; simp [h]
      · exact Or.inr h
  · rcases a3 x hx with h | h
    · exact P.notes x h
    · right
      have := P.kept.size
      have := k2.size
      omega
theorem ActPost.of_pair {w w' : World} {la ra : Nat} {v t v' : Value} {l l' : List Int} {c c' : Bool} {T : List (Nat × Nat)} (P : PairSt w la ra v w' v' l' c') (L : LogAt w la l c) (R : RefAt w ra v l c) (D : Told w t T) (hd : ∀ x, x ∈ T → x.1 ∉ ob v) (hT : (T.map Prod.fst).Nodup) : ActPost w la ra v t T w' t v' l' c' T := by
  obtain ⟨cl, hcl⟩ := L.tag
  refine ⟨P.log, P.ref, D.kept P.kept (fun x hx hm => ?_) (fun x hx hm => ?_), P.kept.mono (fun x hx => by simp at hx ⊢; rcases hx with h | h | h <;> simp [h]), P.notes, fun x hx => Or.inl hx, fun x hx hm => ?_, fun x hx => Or.inl hx, by omega, hT⟩
  · obtain ⟨cs, hcs⟩ := D.tag x hx
    rcases List.mem_cons.1 hm with h | hm
    · exact tag_ne hcs hcl (by decide) h
    · rcases List.mem_cons.1 hm with h | hm
      · exact tag_ne hcs R.1 (by decide) h
      · obtain ⟨cs', hcs'⟩ := R.2.1.tag x hm
        exact tag_ne hcs hcs' (by decide) rfl
  · obtain ⟨_, cs, hcs, _⟩ := D.2 x hx
    rcases List.mem_cons.1 hm with h | hm
    · exact tag_ne hcs hcl (by decide) h
    · rcases List.mem_cons.1 hm with h | hm
      · exact tag_ne hcs R.1 (by decide) h
      · exact hd x hx hm
  · rcases P.notes _ hm with h | h
    · exact hd x hx h
    · obtain ⟨_, cs, hcs, _⟩ := D.2 x hx
      have := block_lt hcs
      omega

end Go.Proofs.Ytldjfeodeodcmaa
