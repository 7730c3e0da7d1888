/-
  The order of cards: cmp.Compare, cmp.Or, inOrder; slices.BinarySearchFunc over a row of cards.
-/
import Derived.Test.YtjjldjmcbmkkdaaB2
namespace Go.Proofs.Ytjjldjmcbmkkdaa
open Go.RowKit

def cI (a b : Int) : Int := if a < b then -1 else if b < a then 1 else 0
def bLt (s t : ByteArray) : Bool := Op.bytesLess s.toList t.toList
def cB (s t : ByteArray) : Int := if bLt s t = true then -1 else if s = t then 0 else 1
def orV (a b : Int) : Int := if a = 0 then b else a
def ord (a b : Hd) : Int := orV (cI a.su b.su) (cB a.nm b.nm)
def OrdS (b0 b1 : Nat) (h k : Hd) (va vb : Value) (w : World) : Prop := CAt w b0 h va ∧ CAt w b1 k vb
end Go.Proofs.Ytjjldjmcbmkkdaa
