/-
  The state of StartScript: two logs, each beside the document's, the lists that were told; what a call of either pair makes of it.
-/
import Derived.Test.YtldjfeodeodcmaaApart
namespace Go.Proofs.Ytldjfeodeodcmaa
open Go.RowKit

/-- What a pair has, the other pair untouched by it: blocks, the slice of notes. -/
structure St (w wr : World) (s : Nat) (t v1 v2 : Value) (l1 l2 : List Int) (c1 c2 : Bool) (T : List (Nat × Nat)) : Prop where
  p1 : LogAt wr s l1 c1
  r1 : RefAt wr (s + 1) v1 l1 c1
  p2 : LogAt wr (s + 2) l2 c2
  r2 : RefAt wr (s + 3) v2 l2 c2
  told : Told wr t T
  both : wr.heap[s + 4]? = some (.cells #[.pointer (some ⟨s, 0, none⟩), .pointer (some ⟨s + 1, 0, none⟩), .pointer (some ⟨s + 2, 0, none⟩), .pointer (some ⟨s + 3, 0, none⟩)] 29 (0, 0))
  grown : w.grownBy wr none
  old : w.heap.size ≤ s
  nv : ∀ x, x ∈ ob v1 → x ∉ ob v2
  b1 : ∀ x, x ∈ ob v1 → w.heap.size ≤ x
  b2 : ∀ x, x ∈ ob v2 → w.heap.size ≤ x
  bt : ∀ x, x ∈ ob t → w.heap.size ≤ x
  bT : ∀ x, x ∈ T → w.heap.size ≤ x.1
  d1 : ∀ x, x ∈ T → x.1 ∉ ob v1
  d2 : ∀ x, x ∈ T → x.1 ∉ ob v2
  nodup : (T.map Prod.fst).Nodup

theorem kept_grown {w a b : World} {S : List Nat} (h : w.grownBy a none) (k : Kept S a b) (hS : ∀ x, x ∈ S → w.heap.size ≤ x) : w.grownBy b none :=
  (((Kept.of_grown h).mono (T := []) (by simp)).trans k (fun x hx => Or.inr (hS x hx))).grown
theorem told_lt {w : World} {t : Value} {T : List (Nat × Nat)} (D : Told w t T) : ∀ x, x ∈ T → x.1 < w.heap.size := fun x hx => by
  obtain ⟨_, cs, h, _⟩ := D.2 x hx; exact block_lt h

theorem St.step1 {w wr w' : World} {s : Nat} {t v1 v2 t' v' : Value} {l1 l2 l' : List Int} {c1 c2 c' : Bool} {T T' : List (Nat × Nat)} (h : St w wr s t v1 v2 l1 l2 c1 c2 T) (A : ActPost wr s (s + 1) v1 t T w' t' v' l' c' T') : St w w' s t' v' v2 l' l2 c' c2 T' := by
  have hsz := h.grown.size
  obtain ⟨x2, hx2⟩ := h.p2.tag
  obtain ⟨x1, hx1⟩ := h.p1.tag
  have out : ∀ (b : Nat) (cs : Array Value) (g : TypeId), wr.heap[b]? = some (.cells cs g (0, 0)) → g ≠ 3 → g ≠ 35 → b ≠ s → b ≠ s + 1 → b ∉ s :: (s + 1) :: (ob v1 ++ ob t) := fun b cs g hb g3 g35 n0 n1 hm => by
    rcases List.mem_cons.1 hm with e | hm
    · exact n0 e
    · rcases List.mem_cons.1 hm with e | hm
      · exact n1 e
      · rcases List.mem_append.1 hm with e | e
        · obtain ⟨cs', hc⟩ := h.r1.2.1.tag b e; exact tag_ne hb hc g3 rfl
        · obtain ⟨cs', hc⟩ := h.told.tag b e; exact tag_ne hb hc g35 rfl
  have low : ∀ x, x ∈ s :: (s + 1) :: (ob v1 ++ ob t) → w.heap.size ≤ x := fun x hm => by
    have := h.old
    rcases List.mem_cons.1 hm with e | hm
    · omega
    · rcases List.mem_cons.1 hm with e | hm
      · omega
      · rcases List.mem_append.1 hm with e | e
        · exact h.b1 x e
        · exact h.bt x e
  have v2lt := ob_lt h.r2.2.1
  refine ⟨A.log, A.ref, h.p2.kept A.kept (out _ _ _ hx2 (by decide) (by decide) (by omega) (by omega)), h.r2.kept A.kept (out _ _ _ h.r2.1 (by decide) (by decide) (by omega) (by omega)) (fun x hx hm => ?_), A.told, A.kept.keep h.both (out _ _ _ h.both (by decide) (by decide) (by omega) (by omega)),
    kept_grown h.grown A.kept low, h.old, fun x hx hm => ?_, fun x hx => ?_, h.b2, fun x hx => ?_, fun x hx => ?_, A.apart, fun x hx hm => ?_, A.nodup⟩
  · obtain ⟨cs, hcs⟩ := h.r2.2.1.tag x hx
    rcases List.mem_cons.1 hm with e | hm
    · exact tag_ne hcs hx1 (by decide) e
    · rcases List.mem_cons.1 hm with e | hm
      · exact tag_ne hcs h.r1.1 (by decide) e
      · rcases List.mem_append.1 hm with e | e
        · exact h.nv x e hx
        · obtain ⟨cs', hc⟩ := h.told.tag x e; exact tag_ne hcs hc (by decide) rfl
  · rcases A.notes x hx with e | e
    · exact h.nv x e hm
    · have := v2lt x hm; omega
  · rcases A.notes x hx with e | e
    · exact h.b1 x e
    · omega
  · rcases A.rows x hx with e | e
    · exact h.bt x e
    · omega
  · rcases A.fresh x hx with e | e
    · exact h.bT x e
    · omega
  · rcases A.fresh x hx with e | e
    · exact h.d2 x e hm
    · have := v2lt _ hm; omega

theorem St.step2 {w wr w' : World} {s : Nat} {t v1 v2 t' v' : Value} {l1 l2 l' : List Int} {c1 c2 c' : Bool} {T T' : List (Nat × Nat)} (h : St w wr s t v1 v2 l1 l2 c1 c2 T) (A : ActPost wr (s + 2) (s + 3) v2 t T w' t' v' l' c' T') : St w w' s t' v1 v' l1 l' c1 c' T' := by
  have hsz := h.grown.size
  obtain ⟨x2, hx2⟩ := h.p2.tag
  obtain ⟨x1, hx1⟩ := h.p1.tag
  have out : ∀ (b : Nat) (cs : Array Value) (g : TypeId), wr.heap[b]? = some (.cells cs g (0, 0)) → g ≠ 3 → g ≠ 35 → b ≠ s + 2 → b ≠ s + 3 → b ∉ (s + 2) :: (s + 3) :: (ob v2 ++ ob t) := fun b cs g hb g3 g35 n0 n1 hm => by
    rcases List.mem_cons.1 hm with e | hm
    · exact n0 e
    · rcases List.mem_cons.1 hm with e | hm
      · exact n1 e
      · rcases List.mem_append.1 hm with e | e
        · obtain ⟨cs', hc⟩ := h.r2.2.1.tag b e; exact tag_ne hb hc g3 rfl
        · obtain ⟨cs', hc⟩ := h.told.tag b e; exact tag_ne hb hc g35 rfl
  have low : ∀ x, x ∈ (s + 2) :: (s + 3) :: (ob v2 ++ ob t) → w.heap.size ≤ x := fun x hm => by
    have := h.old
    rcases List.mem_cons.1 hm with e | hm
    · omega
    · rcases List.mem_cons.1 hm with e | hm
      · omega
      · rcases List.mem_append.1 hm with e | e
        · exact h.b2 x e
        · exact h.bt x e
  have v1lt := ob_lt h.r1.2.1
  refine ⟨h.p1.kept A.kept (out _ _ _ hx1 (by decide) (by decide) (by omega) (by omega)), h.r1.kept A.kept (out _ _ _ h.r1.1 (by decide) (by decide) (by omega) (by omega)) (fun x hx hm => ?_), A.log, A.ref, A.told, A.kept.keep h.both (out _ _ _ h.both (by decide) (by decide) (by omega) (by omega)),
    kept_grown h.grown A.kept low, h.old, fun x hx hm => ?_, h.b1, fun x hx => ?_, fun x hx => ?_, fun x hx => ?_, fun x hx hm => ?_, A.apart, A.nodup⟩
  · obtain ⟨cs, hcs⟩ := h.r1.2.1.tag x hx
    rcases List.mem_cons.1 hm with e | hm
    · exact tag_ne hcs hx2 (by decide) e
    · rcases List.mem_cons.1 hm with e | hm
      · exact tag_ne hcs h.r2.1 (by decide) e
      · rcases List.mem_append.1 hm with e | e
        · exact h.nv x hx e
        · obtain ⟨cs', hc⟩ := h.told.tag x e; exact tag_ne hcs hc (by decide) rfl
  · rcases A.notes x hm with e | e
    · exact h.nv x hx e
    · have := v1lt x hx; omega
  · rcases A.notes x hx with e | e
    · exact h.b2 x e
    · omega
  · rcases A.rows x hx with e | e
    · exact h.bt x e
    · omega
  · rcases A.fresh x hx with e | e
    · exact h.bT x e
    · omega
  · rcases A.fresh x hx with e | e
    · exact h.d1 x e hm
    · have := v1lt _ hm; omega

end Go.Proofs.Ytldjfeodeodcmaa
