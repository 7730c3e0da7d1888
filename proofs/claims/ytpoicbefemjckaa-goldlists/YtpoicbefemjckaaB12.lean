/-
  At: the card of a number.
-/
import Derived.Test.YtpoicbefemjckaaB11
namespace Go.Proofs.Ytpoicbefemjckaa
open Go.RowKit

def atIn (p : Pl) (es : List Ent) (n : Int) : Prop := p.shut = true ∧ 1 ≤ n ∧ n ≤ es.length
end Go.Proofs.Ytpoicbefemjckaa
