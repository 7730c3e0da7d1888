/-
  strings.Clone off the shelf: the same text.
-/
import Derived.Ground.MpProg
import Derived.Shelf.Strconv.Clone
import Derived.Test.YtjjldjmcbmkkdaaBase
namespace Go.Proofs.Ytjjldjmcbmkkdaa
open Go.RowKit Go.Shelf

theorem below_grown {w w' : World} (h : Below w.heap.size w w') : w.grownBy w' none := ⟨h.os, h.tape, h.output, h.size, fun k hk _ => h.block k hk⟩
end Go.Proofs.Ytjjldjmcbmkkdaa
