/-
  card.Copy: a card in memory of its own.
-/
import Derived.Test.YtjjldjmcbmkkdaaHdr
import Derived.Deep.Cut
namespace Go.Proofs.Ytjjldjmcbmkkdaa
open Go.RowKit

theorem CAt.keepR {w w' : World} {b : Nat} {h : Hd} {v : Value} {r : Option Nat} (k : CAt w b h v) (g : w.grownBy w' r) (hr : some b ≠ r) : CAt w' b h v := grown_keep g k hr
end Go.Proofs.Ytjjldjmcbmkkdaa
