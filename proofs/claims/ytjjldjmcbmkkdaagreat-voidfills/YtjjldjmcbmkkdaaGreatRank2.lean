/-
  What the document's own answer for rank says (gambitref02), and the helper needs of the law; each touches nothing that was there.
-/
import Derived.Test.YtjjldjmcbmkkdaaGreatRank1
namespace Go.Proofs.YtjjldjmcbmkkdaaGreat
open Go.RowKit

/-- The greatest turn of some numbers. -/
def mostT (l : List Int) : Int := l.foldl (fun m x => max m (ansT x)) 0
theorem mostT_take (l : List Int) (k : Nat) (h : k < l.length) : mostT (l.take (k + 1)) = max (mostT (l.take k)) (ansT (l.getD k 0)) := by
  unfold mostT
  rw [List.take_succ_eq_append_getElem h, List.foldl_append, getD_lt _ _ h]; rfl
theorem ansT_le (k : Int) : 0 ≤ ansT k ∧ ansT k ≤ 5 := by unfold ansT; repeat (split; omega); omega
theorem mostT_le (l : List Int) : 0 ≤ mostT l ∧ mostT l ≤ 5 := by
  have : ∀ (l : List Int) (t : Int), 0 ≤ t ∧ t ≤ 5 → 0 ≤ l.foldl (fun m x => max m (ansT x)) t ∧ l.foldl (fun m x => max m (ansT x)) t ≤ 5 := by
    intro l
    induction l with
    | nil => intro t h; exact h
    | cons m l ih =>
      intro t ht
      refine ih _ ?_
      have := ansT_le m
      show 0 ≤ max t (ansT m) ∧ max t (ansT m) ≤ 5
      omega
  exact this l 0 (by omega)
end Go.Proofs.YtjjldjmcbmkkdaaGreat
