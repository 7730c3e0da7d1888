/-
  insert, Card.
-/
import Derived.Test.YtjjldjmcbmkkdaaB8
namespace Go.Proofs.Ytjjldjmcbmkkdaa
open Go.RowKit

theorem heap_drew (w : World) : w.drew.heap = w.heap := rfl
theorem cell_mid {w : World} {b : Nat} {A X B : List Value} {t : TypeId} (h : w.heap[b]? = some (.cells (A ++ (X ++ B)).toArray t (0, 0))) {n k : Nat} {y : Value} (hA : A.length = n) (hk : X[k]? = some y) : w.cell? ⟨b, n + k, none⟩ = some y := by
  rw [block_cell h, List.getElem?_toArray, List.getElem?_append_right (by omega), hA, show n + k - n = k by omega, List.getElem?_append_left (List.getElem?_eq_some_iff.1 hk).1]
  exact hk
end Go.Proofs.Ytjjldjmcbmkkdaa
