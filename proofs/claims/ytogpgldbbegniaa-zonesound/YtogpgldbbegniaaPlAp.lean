/-
  Many lists of the call's own, as ApartInts takes them; the lent list, where it may be cut.
-/
import Derived.Test.YtogpgldbbegniaaS9
namespace Go.Proofs.Ytogpgldbbegniaa
open Go.RowKit

theorem lst_block (x : Lst) : x.v.ownBlock = x.a := by
  obtain ⟨a, n, c⟩ := x
  cases a <;> rfl
theorem lsts_of {w : World} {V : List Value} (h : ∀ v ∈ V, ∃ (lo k : Nat) (xs : List Value), w.ownsRow lo 3 1 v k xs) : ∃ T : List Lst, V = T.map Lst.v ∧ ∀ x ∈ T, x.okI w := by
  induction V with
  | nil => exact ⟨[], rfl, fun x hx => by simp at hx⟩
  | cons v V ih =>
    obtain ⟨T, e, hT⟩ := ih (fun u hu => h u (List.mem_cons_of_mem _ hu))
    obtain ⟨lo, k, xs, ho⟩ := h v List.mem_cons_self
    obtain ⟨x, ex, _, hx, _⟩ := own_lstI ho
    refine ⟨x :: T, by rw [ex, e]; rfl, fun y hy => ?_⟩
    rcases List.mem_cons.1 hy with rfl | hy
    · exact hx
    · exact hT y hy
theorem diff_apart {T : List Lst} (h : (T.map Lst.v).Pairwise fun x y => ∀ a, x.ownBlock = some a → y.ownBlock ≠ some a) : Diff T := fun i j x y g hi hj hx hy => by
  obtain ⟨li, ei⟩ := List.getElem?_eq_some_iff.1 hi
  obtain ⟨lj, ej⟩ := List.getElem?_eq_some_iff.1 hj
  rw [List.pairwise_map, List.pairwise_iff_getElem] at h
  rcases Nat.lt_trichotomy i j with c | c | c
  · exact absurd (by rw [lst_block, ej]; exact hy) (h i j li lj c g (by rw [lst_block, ei]; exact hx))
  · exact c
  · exact absurd (by rw [lst_block, ei]; exact hx) (h j i lj li c g (by rw [lst_block, ej]; exact hy))
theorem blocks_vals (T : List Lst) : blocks T = (T.map Lst.v).filterMap Value.ownBlock := by
  unfold blocks
  rw [List.filterMap_map]
  congr 1
  funext x
  exact (lst_block x).symm
/-- The lent list, as far as it was handed in, may be cut. -/
theorem lent_B {w : World} {g n : Nat} {l : List Int} (h : w.ownsRow g 3 1 (.slice (some ⟨g, 0, none⟩) (n + 2) (n + 2)) (n + 2) (ints (l ++ [-77, -77]))) (hn : l.length = n) : IntsB w (.slice (some ⟨g, 0, none⟩) n (n + 2)) l := by
  subst hn
  refine Or.inr ⟨g, 0, _, rfl, by omega, fun j u hu => ?_⟩
  have hj : j < l.length := by have := (List.getElem?_eq_some_iff.1 hu).1; rwa [length_ints] at this
  rw [Nat.zero_add, World.ownsRow.cellAt h j (by omega), ints_app, List.getElem?_append_left (by rw [length_ints]; exact hj)]
  exact hu
theorem own22_over {w w' : World} {base n f : Nat} {v : Value} {xs : List Value} (h : w.ownsRow base 22 1 v n xs) (g : w.grownBy w' (some f)) (hf : f < base) : w'.ownsRow base 22 1 v n xs := World.ownsRow.kept h g (by
  rcases h.2 with ⟨e, _⟩ | ⟨g', cap', cur, e, hb, _⟩
  · exact Or.inl (by rw [e]; rfl)
  · refine Or.inr ?_
    rw [e]
    intro h9
    simp [Value.ownBlock] at h9
    omega)
theorem HandsAt.over {w w' : World} {base m f : Nat} {vs : List Value} {hs : List (List Int)} (h : HandsAt w base vs hs m) (g : w.grownBy w' (some f)) (hf : f < base) : HandsAt w' base vs hs m :=
  ⟨h.1, fun i v l hv hl => L_keep (h.2.1 i v l hv hl) g hf, h.2.2⟩
theorem HandsAt.at {w : World} {base m i : Nat} {vs : List Value} {hs : List (List Int)} (h : HandsAt w base vs hs m) (hi : i < hs.length) : ∃ v l, vs[i]? = some v ∧ hs[i]? = some l ∧ w.ownsRow base 3 1 v l.length (ints l) := by
  have h1 : i < vs.length := by rw [h.1]; exact hi
  exact ⟨vs[i], hs[i], List.getElem?_eq_getElem h1, List.getElem?_eq_getElem hi, h.2.1 i _ _ (List.getElem?_eq_getElem h1) (List.getElem?_eq_getElem hi)⟩
theorem HandsAt.vals {w : World} {base m : Nat} {vs : List Value} {hs : List (List Int)} (h : HandsAt w base vs hs m) : ∀ v ∈ vs, ∃ (lo k : Nat) (xs : List Value), w.ownsRow lo 3 1 v k xs := fun v hv => by
  obtain ⟨i, hi, e⟩ := List.mem_iff_getElem.1 hv
  obtain ⟨u, l, h1, _, h3⟩ := h.at (i := i) (by rw [← h.1]; exact hi)
  rw [List.getElem?_eq_getElem hi, e] at h1
  cases h1
  exact ⟨_, _, _, h3⟩
theorem HandsAt.blk {w : World} {base m : Nat} {vs : List Value} {hs : List (List Int)} (h : HandsAt w base vs hs m) : ∀ v ∈ vs, ∀ b, v.ownBlock = some b → base ≤ b ∧ b < m := fun v hv b hb => by
  obtain ⟨i, hi, e⟩ := List.mem_iff_getElem.1 hv
  obtain ⟨u, l, h1, _, h3⟩ := h.at (i := i) (by rw [← h.1]; exact hi)
  rw [List.getElem?_eq_getElem hi, e] at h1
  cases h1
  exact ⟨(World.ownsRow.lt h3 b hb).1, h.2.2.2 i _ b (by rw [List.getElem?_eq_getElem hi, e]) hb⟩
theorem HandsAt.pair {w : World} {base m : Nat} {vs : List Value} {hs : List (List Int)} (h : HandsAt w base vs hs m) : vs.Pairwise fun x y => ∀ a, x.ownBlock = some a → y.ownBlock ≠ some a := by
  rw [List.pairwise_iff_getElem]
  intro i j hi hj hij a ha hb
  have := h.2.2.1 i j vs[i] vs[j] a a hij (List.getElem?_eq_getElem hi) (List.getElem?_eq_getElem hj) ha hb
  omega
/-- Values whose blocks lie in rows that rise. -/
theorem pair_in {V : List Value} (S : List (Nat × Nat)) (hl : V.length = S.length) (hb : ∀ (i : Nat) v s, V[i]? = some v → S[i]? = some s → ∀ b, v.ownBlock = some b → s.1 ≤ b ∧ b < s.2) (hs : S.Pairwise fun x y => x.2 ≤ y.1) : V.Pairwise fun x y => ∀ a, x.ownBlock = some a → y.ownBlock ≠ some a := by
  rw [List.pairwise_iff_getElem] at hs ⊢
  intro i j hi hj hij a ha hb'
  have h1 := hb i V[i] S[i] (List.getElem?_eq_getElem hi) (List.getElem?_eq_getElem (by omega)) a ha
  have h2 := hb j V[j] S[j] (List.getElem?_eq_getElem hj) (List.getElem?_eq_getElem (by omega)) a hb'
  have h3 := hs i j (by omega) (by omega) hij
  omega
end Go.Proofs.Ytogpgldbbegniaa
