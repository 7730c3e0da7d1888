/-
  slices.BinarySearchFunc over a row of cards in their order: how many stand ahead of a card.
-/
import Derived.Test.YtjjldjmcbmkkdaaB5
namespace Go.Proofs.Ytjjldjmcbmkkdaa
open Go.RowKit

/-- Just the first m cards of the row stand ahead of c. -/
def AheadTo (es : List Ent) (c : Hd) (m : Nat) : Prop := ∀ (j : Nat) e, es[j]? = some e → (ord e.h c < 0 ↔ j < m)
theorem meas_bs {x q y : Nat} (h : x ≤ q) (k : q < y) : (intOf (.int .i64 (y : Int))).toNat - (intOf (.int .i64 ((q : Int) + 1))).toNat < (intOf (.int .i64 (y : Int))).toNat - (intOf (.int .i64 (x : Int))).toNat := by simp [intOf]; omega
theorem meas_bs2 {x q y : Nat} (h : x ≤ q) (k : q < y) : (intOf (.int .i64 (q : Int))).toNat - (intOf (.int .i64 (x : Int))).toNat < (intOf (.int .i64 (y : Int))).toNat - (intOf (.int .i64 (x : Int))).toNat := by simp [intOf]; omega
end Go.Proofs.Ytjjldjmcbmkkdaa
