/-
  book.New; what is a book and what is none; the list of its cards, how many there are, whether it is sealed.
-/
import Derived.Test.YtjjldjmcbmkkdaaBk
namespace Go.Proofs.Ytjjldjmcbmkkdaa
open Go.RowKit

def plNew : Pl := ⟨false, List.replicate 9 ⟨#[]⟩, List.replicate 5 Mk.none⟩
def noCard : List Value := cvs Hd.none (.slice none 0 0)
def noCards : Nat → List Value
  | 0 => []
  | n + 1 => noCard ++ noCards n
def plA : Array Value := (plc 0 plNew).toArray
def bkA : Array Value := (bcells [] (noCards 64) plNew).toArray
/-- What is no book: nil, or one that nobody made. -/
def NoBk (w : World) (v : Value) : Prop := v = .pointer none ∨ ∃ b, v = .pointer (some ⟨b, 0, none⟩) ∧ w.cell? ⟨b, 576, none⟩ = some (.bool false)
theorem NoBk.keep {w w' : World} {v : Value} (h : NoBk w v) (g : w.grownBy w' none) : NoBk w' v := by
  rcases h with h | ⟨b, e, h⟩
  · exact Or.inl h
  · exact Or.inr ⟨b, e, g.cell h (by simp)⟩
end Go.Proofs.Ytjjldjmcbmkkdaa
