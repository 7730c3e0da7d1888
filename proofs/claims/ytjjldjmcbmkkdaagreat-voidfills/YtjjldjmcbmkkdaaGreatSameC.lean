/-
  Lists held against each other: SameCards, SameTraits; SameMarks of none.
-/
import Derived.Test.YtjjldjmcbmkkdaaGreatSuG
namespace Go.Proofs.YtjjldjmcbmkkdaaGreat
open Go.RowKit

theorem erow_of {w : World} {g : Nat} {es : List Ent} {t : TypeId} (h : w.heap[g]? = some (.cells (ecells es).toArray t (0, 0))) {j : Nat} {e : Ent} (he : es[j]? = some e) : C9 w g (j * 9) e.h e.v := by
  have at_ : ∀ k u, k < 9 → (cvs e.h e.v)[k]? = some u → w.cell? ⟨g, j * 9 + k, none⟩ = some u := fun k u hk hu => by
    rw [block_cell h, List.getElem?_toArray, ecells_at es j e he k hk]
    exact hu
  exact ⟨at_ 0 _ (by omega) rfl, at_ 1 _ (by omega) rfl, at_ 2 _ (by omega) rfl, at_ 3 _ (by omega) rfl, at_ 4 _ (by omega) rfl, at_ 5 _ (by omega) rfl, at_ 6 _ (by omega) rfl, at_ 7 _ (by omega) rfl, at_ 8 _ (by omega) rfl⟩
def Row2 (g g' j : Nat) (a b : Ent) (w0 w : World) : Prop := (C9 w g (j * 9) a.h a.v ∧ C9 w g' (j * 9) b.h b.v) ∧ w0.grownBy w none
end Go.Proofs.YtjjldjmcbmkkdaaGreat
