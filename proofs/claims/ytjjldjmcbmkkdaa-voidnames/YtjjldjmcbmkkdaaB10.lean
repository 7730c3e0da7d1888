/-
  Card: a card is added, or refused.
-/
import Derived.Test.YtjjldjmcbmkkdaaB9
import Derived.Test.YtjjldjmcbmkkdaaOrd
namespace Go.Proofs.Ytjjldjmcbmkkdaa
open Go.RowKit

/-- What Card tells. -/
def caE (p : Pl) (es : List Ent) (c : Cd) : Int := if p.shut = true then 7 else if ¬ cchk c = 0 then cchk c else if 0 ≤ pos (names es) c.nm then 5 else if es.length = 64 then 14 else 0
theorem pown_ok {w : World} {base : Nat} {v : Value} {ps : List Pt} (h : POwn w base v ps) : PsOk (fun k => base ≤ k) w v ps := by
  refine ⟨h.at, fun g o n c e hn => ?_⟩
  refine h.block g ?_
  rw [e]
  rfl
end Go.Proofs.Ytjjldjmcbmkkdaa
