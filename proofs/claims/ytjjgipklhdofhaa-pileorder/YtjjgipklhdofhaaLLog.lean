/-
  What the functions of package start answer, one contract a function: New, Note, Close, Closed, over the log's block of YtjjgipklhdofhaaMem.
-/
import Derived.Test.YtjjgipklhdofhaaLMem
namespace Go.Proofs.Ytjjgipklhdofhaa.L
open Go.RowKit

/-- What is no log: nil, or a block that New did not make. -/
def NoLog (w : World) (p : Option Addr) : Prop := p = none ∨ ∃ b, p = some ⟨b, 0, none⟩ ∧ w.cell? ⟨b, 258, none⟩ = some (.bool false)

theorem getD_take (Z l : List Int) (h : Z.take l.length = l) (k : Nat) (hk : k < l.length) : Z.getD k 0 = l.getD k 0 := by
  have e : (Z.take l.length).getD k 0 = l.getD k 0 := by rw [h]
  rw [← e]
  simp [List.getD, hk]
end Go.Proofs.Ytjjgipklhdofhaa.L
