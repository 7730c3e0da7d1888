/-
  OverInts; lists of the call's own as ApartInts takes them.
-/
import Derived.Test.YtjjgipklhdofhaaPlS
import Derived.Test.YtjjgipklhdofhaaApartI
namespace Go.Proofs.Ytjjgipklhdofhaa
open Go.RowKit

set_option maxRecDepth 100000 in
set_option maxHeartbeats 2000000 in
theorem overI_any (base g n cap : Nat) (xs : List Int) (w : World) (h : w.ownsRow base 3 1 (.slice (some ⟨g, 0, none⟩) n cap) n (ints xs)) (hx : xs.length = n) (hn : n ≤ 35184372088832) : Calls Try.prog 13 #[.slice (some ⟨g, 0, none⟩) n cap] w fun e w' => e = .returned (.tuple #[]) ∧ (∃ ys : List Int, ys.length = n ∧ w'.ownsRow base 3 1 (.slice (some ⟨g, 0, none⟩) n cap) n (ints ys)) ∧ w.grownBy w' (some g) := by
  have HS : Hid (w.ownsRow base 3 1 (.slice (some ⟨g, 0, none⟩) n cap) n (ints xs) ∧ xs.length = n) := ⟨h, hx⟩
  clear h hx
  go_enter Try.func13, Try.ntmps13
  go_wp2_with fail
  go_loopw [2] (fun i wr => ∃ (k : Nat) (ys : List Int), k ≤ n ∧ i = .int .i64 (k : Int) ∧ ys.length = n ∧ wr.ownsRow base 3 1 (.slice (some ⟨g, 0, none⟩) n cap) n (ints ys) ∧ w.grownBy wr (some g)) (fun i _ => n - (intOf i).toNat)
  case atStart => exact ⟨0, xs, Nat.zero_le _, rfl, HS.out.2, HS.out.1, grown_refl _ _⟩
  case round =>
    clear HS
    obtain ⟨k, ys, hk, rfl, hy, O, G⟩ := hrel
    obtain ⟨U, hU⟩ : ∃ U, U = wr := ⟨_, rfl⟩
    subst hU
    by_cases hlt : k < n
    · have hlt' : (k : Int) < n := by omega
      have c1 : U.cell? ⟨g, k, none⟩ = some (.int .i64 (ys.getD k 0)) := by rw [World.ownsRow.cellAt O k (by omega)]; exact ints_at ys k (by omega)
      have f1 : U.frozen? ⟨g, k, none⟩ = false := World.ownsRow.frozenAt O k
      have hst := World.ownsRow.stored O k (.int .i64 (-99))
      rw [ints_set] at hst
      have HP : Hid ((U.setCell ⟨g, k, none⟩ (.int .i64 (-99))).ownsRow base 3 1 (.slice (some ⟨g, 0, none⟩) n cap) n (ints (ys.set k (-99))) ∧ w.grownBy (U.setCell ⟨g, k, none⟩ (.int .i64 (-99))) (some g)) := ⟨hst.1, grown_trans G hst.2⟩
      have hwk : wrap64 ((k : Int) + 1) = (k : Int) + 1 := by unfold wrap64; omega
      clear O G hst
      go_wp2
      go_roundw
      case rel => exact ⟨k + 1, ys.set k (-99), hlt, by first | rfl | (rw [hwk]; rfl) | go_num, by rw [List.length_set]; exact hy, HP.out.1, HP.out.2⟩
      case measure => simp [intOf]; omega
    · have hlt' : ¬ (k : Int) < n := by omega
      have HF : Hid ((∃ ys : List Int, ys.length = n ∧ U.ownsRow base 3 1 (.slice (some ⟨g, 0, none⟩) n cap) n (ints ys)) ∧ w.grownBy U (some g)) := ⟨⟨ys, hy, O⟩, G⟩
      clear O G
      go_wp2
      go_end0
      exact ⟨rfl, HF.out⟩
/-- Blocks that rise are different ones. -/
theorem diff_rising {T : List Lst} (h : T.Pairwise fun x y => ∀ a b, x.a = some a → y.a = some b → a < b) : Diff T := fun i j x y g hi hj hx hy => by
  have hi' := List.getElem?_eq_some_iff.1 hi
  have hj' := List.getElem?_eq_some_iff.1 hj
  obtain ⟨li, ei⟩ := hi'
  obtain ⟨lj, ej⟩ := hj'
  rw [List.pairwise_iff_getElem] at h
  rcases Nat.lt_trichotomy i j with c | c | c
  · have := h i j li lj c g g (by rw [ei]; exact hx) (by rw [ej]; exact hy)
    omega
  · exact c
  · have := h j i lj li c g g (by rw [ej]; exact hy) (by rw [ei]; exact hx)
    omega
/-- A list of the call's own, as ApartInts takes it: behind base, ahead of the heap's end. -/
theorem own_lstI {w : World} {base n : Nat} {v : Value} {xs : List Value} (h : w.ownsRow base 3 1 v n xs) : ∃ x : Lst, v = x.v ∧ x.n = n ∧ x.okI w ∧ ∀ g, x.a = some g → base ≤ g ∧ g < w.heap.size := by
  rcases h.2 with ⟨e, h0⟩ | ⟨g, cap, cur, e, hb, hh, hn, hm, hs, ht⟩
  · exact ⟨⟨none, 0, 0⟩, e, h0.symm, Or.inl ⟨rfl, rfl, rfl⟩, fun g hg => by cases hg⟩
  · exact ⟨⟨some g, n, cap⟩, e, rfl, Or.inr ⟨g, rfl, hn, hm, cur, hh, by rw [hs, Nat.mul_one]⟩, fun g' hg => by cases hg; exact ⟨hb, block_lt hh⟩⟩
theorem okI_keep {w w' : World} {x : Lst} {r : Option Nat} (h : x.okI w) (k : w.grownBy w' r) (hr : ∀ g, x.a = some g → some g ≠ r) : x.okI w' := by
  rcases h with h | ⟨g, h1, h2, h3, cs, h4, h5⟩
  · exact Or.inl h
  · exact Or.inr ⟨g, h1, h2, h3, cs, grown_keep k h4 (hr g h1), h5⟩
end Go.Proofs.Ytjjgipklhdofhaa
