/-
  Zones in memory: a list of theirs has grown; what has turned then.
-/
import Derived.Test.YtogpgldbbegniaaZmL
namespace Go.Proofs.Ytogpgldbbegniaa
open Go.RowKit

theorem keep_other {w w7 : World} {base e size n : Nat} {d y : Value} {xs : List Value} (h : w.ownsRow base e size y n xs) (ap : Apart2 d y) (g : w.grownBy w7 d.ownBlock) : w7.ownsRow base e size y n xs := by
  refine World.ownsRow.kept h g ?_
  cases hy : y.ownBlock with
  | none => exact Or.inl rfl
  | some a => exact Or.inr fun q => ap a q.symm hy
theorem keep_tag {w w7 : World} {base base' e e' size size' n n' : Nat} {d y : Value} {xs xs' : List Value} (h : w.ownsRow base e size y n xs) (k : w.ownsRow base' e' size' d n' xs') (hne : e ≠ e') (g : w.grownBy w7 d.ownBlock) : w7.ownsRow base e size y n xs := by
  cases hd : d.ownBlock with
  | none =>
    rw [hd] at g
    exact own_grow h g
  | some a =>
    rw [hd] at g
    exact own_tag h k hd hne g
theorem keep_blk {w w7 : World} {b base' e' size' n' : Nat} {T : TypeId} {cs : Array Value} {d : Value} {xs' : List Value} (h : w.heap[b]? = some (.cells cs T (0, 0))) (k : w.ownsRow base' e' size' d n' xs') (hne : T ≠ e') (g : w.grownBy w7 d.ownBlock) : w7.heap[b]? = some (.cells cs T (0, 0)) := by
  refine grown_keep g h ?_
  intro q
  rcases k.2 with ⟨e1, _⟩ | ⟨g1, cap, cur, e1, _, hh, _⟩
  · rw [e1] at q
    cases q
  · rw [e1] at q
    have q2 : b = g1 := by simpa [Value.ownBlock] using q
    rw [← q2, h] at hh
    simp at hh
    exact hne hh.2
theorem kpt_sub {w w' : World} {S : List Nat} {r : Option Nat} (g : w.grownBy w' r) (hr : ∀ x, r = some x → x ∈ S) : Kpt S w w' := (Kpt.of_grown g).mono fun x hx => hr x (by simpa using hx)
theorem kpt_then {a b c : World} {S : List Nat} (h : Kpt S a b) (k : Kpt S b c) : Kpt S a c := h.trans k fun _ hx => Or.inl hx
theorem turn_of {w w' : World} {S : List Nat} {v : Value} (K : Kpt S w w') (hS : Old w S) (hv : ∀ x, v.ownBlock = some x → x ∈ S ∨ w.heap.size ≤ x) (hl : ∀ x, v.ownBlock = some x → x < w'.heap.size) : Turn w w' S (v.ownBlock.toList ++ S) := by
  refine ⟨K, ?_, ?_⟩
  · intro x hx
    rcases List.mem_append.1 hx with q | q
    · exact hv x (by simpa using q)
    · exact Or.inl q
  · intro x hx
    rcases List.mem_append.1 hx with q | q
    · exact hl x (by simpa using q)
    · exact Nat.lt_of_lt_of_le (hS x q) K.size
theorem turn_in {w w' : World} {S : List Nat} (K : Kpt S w w') (hS : Old w S) : Turn w w' S S := ⟨K, fun _ hx => Or.inl hx, fun x hx => Nat.lt_of_lt_of_le (hS x hx) K.size⟩
theorem ZG.app_d0 {T : TypeId} {ex : List Value} {w w7 : World} {b : Nat} {S : List Nat} {z : Zs} {vt d0 d1 h0 h1 : Value} (h : ZG T ex w b S z vt d0 d1 h0 h1) (hT : tgs T) {v : Value} {l : List Int} (g : w.grownBy w7 d0.ownBlock) (O : OwnI w7 0 v l) (loc : v.ownBlock = d0.ownBlock ∨ ∀ x, v.ownBlock = some x → w.heap.size ≤ x) : ZG T ex (w7.setCell ⟨b, 1, none⟩ v) b (v.ownBlock.toList ++ S) { z with dk := fun q => if q = 0 then l else z.dk q } vt v d1 h0 h1 := by
  obtain ⟨⟨D01, D02, D03⟩, ⟨D12, D13⟩, D23⟩ := h.pairs
  have B := keep_blk h.blk h.od0 hT.1 g
  refine ⟨zc_set B rfl, own_setc (keep_tag h.ts h.od0 (by decide) g) B hT.2, (show OwnI _ 0 v (if (0 : Int) = 0 then l else z.dk 0) from (by rw [if_pos rfl]; exact own_setc O B hT.1)), (show OwnI _ 0 d1 (if (1 : Int) = 0 then l else z.dk 1) from (by rw [if_neg (by decide)]; exact own_setc (keep_other h.od1 D01 g) B hT.1)), own_setc (keep_other h.oh0 D02 g) B hT.1, own_setc (keep_other h.oh1 D03 g) B hT.1, List.mem_append_right _ h.inb, ?_, ?_⟩
  · intro u hu x hx
    simp only [List.mem_cons, List.not_mem_nil, or_false] at hu
    rcases hu with hu | hu | hu | hu | hu <;> subst hu <;> first | exact List.mem_append_left _ (by rw [hx]; simp) | exact List.mem_append_right _ (h.inS _ (by simp) x hx)
  · simp only [List.pairwise_cons, List.mem_cons, List.not_mem_nil, or_false, forall_eq_or_imp, forall_eq, List.Pairwise.nil, and_true, false_imp_iff, implies_true]
    exact ⟨⟨(apart_new loc D01 h.od1), (apart_new loc D02 h.oh0), (apart_new loc D03 h.oh1)⟩, ⟨D12, D13⟩, D23⟩
theorem ZG.app_d1 {T : TypeId} {ex : List Value} {w w7 : World} {b : Nat} {S : List Nat} {z : Zs} {vt d0 d1 h0 h1 : Value} (h : ZG T ex w b S z vt d0 d1 h0 h1) (hT : tgs T) {v : Value} {l : List Int} (g : w.grownBy w7 d1.ownBlock) (O : OwnI w7 0 v l) (loc : v.ownBlock = d1.ownBlock ∨ ∀ x, v.ownBlock = some x → w.heap.size ≤ x) : ZG T ex (w7.setCell ⟨b, 2, none⟩ v) b (v.ownBlock.toList ++ S) { z with dk := fun q => if q = 1 then l else z.dk q } vt d0 v h0 h1 := by
  obtain ⟨⟨D01, D02, D03⟩, ⟨D12, D13⟩, D23⟩ := h.pairs
  have B := keep_blk h.blk h.od1 hT.1 g
  refine ⟨zc_set B rfl, own_setc (keep_tag h.ts h.od1 (by decide) g) B hT.2, (show OwnI _ 0 d0 (if (0 : Int) = 1 then l else z.dk 0) from (by rw [if_neg (by decide)]; exact own_setc (keep_other h.od0 D01.symm g) B hT.1)), (show OwnI _ 0 v (if (1 : Int) = 1 then l else z.dk 1) from (by rw [if_pos rfl]; exact own_setc O B hT.1)), own_setc (keep_other h.oh0 D12 g) B hT.1, own_setc (keep_other h.oh1 D13 g) B hT.1, List.mem_append_right _ h.inb, ?_, ?_⟩
  · intro u hu x hx
    simp only [List.mem_cons, List.not_mem_nil, or_false] at hu
    rcases hu with hu | hu | hu | hu | hu <;> subst hu <;> first | exact List.mem_append_left _ (by rw [hx]; simp) | exact List.mem_append_right _ (h.inS _ (by simp) x hx)
  · simp only [List.pairwise_cons, List.mem_cons, List.not_mem_nil, or_false, forall_eq_or_imp, forall_eq, List.Pairwise.nil, and_true, false_imp_iff, implies_true]
    exact ⟨⟨(apart_new loc D01.symm h.od0).symm, D02, D03⟩, ⟨(apart_new loc D12 h.oh0), (apart_new loc D13 h.oh1)⟩, D23⟩
theorem ZG.app_h0 {T : TypeId} {ex : List Value} {w w7 : World} {b : Nat} {S : List Nat} {z : Zs} {vt d0 d1 h0 h1 : Value} (h : ZG T ex w b S z vt d0 d1 h0 h1) (hT : tgs T) {v : Value} {l : List Int} (g : w.grownBy w7 h0.ownBlock) (O : OwnI w7 0 v l) (loc : v.ownBlock = h0.ownBlock ∨ ∀ x, v.ownBlock = some x → w.heap.size ≤ x) : ZG T ex (w7.setCell ⟨b, 3, none⟩ v) b (v.ownBlock.toList ++ S) { z with hd := fun q => if q = 0 then l else z.hd q } vt d0 d1 v h1 := by
  obtain ⟨⟨D01, D02, D03⟩, ⟨D12, D13⟩, D23⟩ := h.pairs
  have B := keep_blk h.blk h.oh0 hT.1 g
  refine ⟨zc_set B rfl, own_setc (keep_tag h.ts h.oh0 (by decide) g) B hT.2, own_setc (keep_other h.od0 D02.symm g) B hT.1, own_setc (keep_other h.od1 D12.symm g) B hT.1, (show OwnI _ 0 v (if (0 : Int) = 0 then l else z.hd 0) from (by rw [if_pos rfl]; exact own_setc O B hT.1)), (show OwnI _ 0 h1 (if (1 : Int) = 0 then l else z.hd 1) from (by rw [if_neg (by decide)]; exact own_setc (keep_other h.oh1 D23 g) B hT.1)), List.mem_append_right _ h.inb, ?_, ?_⟩
  · intro u hu x hx
    simp only [List.mem_cons, List.not_mem_nil, or_false] at hu
    rcases hu with hu | hu | hu | hu | hu <;> subst hu <;> first | exact List.mem_append_left _ (by rw [hx]; simp) | exact List.mem_append_right _ (h.inS _ (by simp) x hx)
  · simp only [List.pairwise_cons, List.mem_cons, List.not_mem_nil, or_false, forall_eq_or_imp, forall_eq, List.Pairwise.nil, and_true, false_imp_iff, implies_true]
    exact ⟨⟨D01, (apart_new loc D02.symm h.od0).symm, D03⟩, ⟨(apart_new loc D12.symm h.od1).symm, D13⟩, (apart_new loc D23 h.oh1)⟩
theorem ZG.app_h1 {T : TypeId} {ex : List Value} {w w7 : World} {b : Nat} {S : List Nat} {z : Zs} {vt d0 d1 h0 h1 : Value} (h : ZG T ex w b S z vt d0 d1 h0 h1) (hT : tgs T) {v : Value} {l : List Int} (g : w.grownBy w7 h1.ownBlock) (O : OwnI w7 0 v l) (loc : v.ownBlock = h1.ownBlock ∨ ∀ x, v.ownBlock = some x → w.heap.size ≤ x) : ZG T ex (w7.setCell ⟨b, 4, none⟩ v) b (v.ownBlock.toList ++ S) { z with hd := fun q => if q = 1 then l else z.hd q } vt d0 d1 h0 v := by
  obtain ⟨⟨D01, D02, D03⟩, ⟨D12, D13⟩, D23⟩ := h.pairs
  have B := keep_blk h.blk h.oh1 hT.1 g
  refine ⟨zc_set B rfl, own_setc (keep_tag h.ts h.oh1 (by decide) g) B hT.2, own_setc (keep_other h.od0 D03.symm g) B hT.1, own_setc (keep_other h.od1 D13.symm g) B hT.1, (show OwnI _ 0 h0 (if (0 : Int) = 1 then l else z.hd 0) from (by rw [if_neg (by decide)]; exact own_setc (keep_other h.oh0 D23.symm g) B hT.1)), (show OwnI _ 0 v (if (1 : Int) = 1 then l else z.hd 1) from (by rw [if_pos rfl]; exact own_setc O B hT.1)), List.mem_append_right _ h.inb, ?_, ?_⟩
  · intro u hu x hx
    simp only [List.mem_cons, List.not_mem_nil, or_false] at hu
    rcases hu with hu | hu | hu | hu | hu <;> subst hu <;> first | exact List.mem_append_left _ (by rw [hx]; simp) | exact List.mem_append_right _ (h.inS _ (by simp) x hx)
  · simp only [List.pairwise_cons, List.mem_cons, List.not_mem_nil, or_false, forall_eq_or_imp, forall_eq, List.Pairwise.nil, and_true, false_imp_iff, implies_true]
    exact ⟨⟨D01, D02, (apart_new loc D03.symm h.od0).symm⟩, ⟨D12, (apart_new loc D13.symm h.od1).symm⟩, (apart_new loc D23.symm h.oh0).symm⟩
end Go.Proofs.Ytogpgldbbegniaa
