/-
  What the document's own Same tells.
-/
import Derived.Test.YtpceelbphpfciaaGreatDoorEq
import Derived.Test.YtpceelbphpfciaaGreatDoorRChk
namespace Go.Proofs.YtpceelbphpfciaaGreatDoor
open Go.RowKit

theorem two_new (w : World) (a b : Obj) : w.grownBy ((w.alloc a).alloc b) none := grown_push (World.grownBy_alloc _ _ _) b
end Go.Proofs.YtpceelbphpfciaaGreatDoor
