/-
  DERIVED. GIVEN WITH THE SEED: THE CARDS: each row of YteigfndahedleaaDoorRows.lean that lists a variable, with what it lists TIED to the program's text (the seventh form; the later family's looks); each row that meets fmt, with fmt's text TOLD by the authors' own Lean function (tested against real Go, not proved from fmt's source: count such statements apart). THE CARD IS WHAT COUNTS. Prove the row's statement (the work); the ties are given (YteigfndahedleaaDoorTie.lean); close each card by the builder's one call (the guide's Derived/Test/ToyasCard.lean, 'card_holds'). Laid BY PROGRAM, IN A SANDBOX (cutbox-door.mjs). By AI agents, Wed Nov 11 2026. No macro, syntax, notation, axiom, sorry.
-/
import Derived.Test.YteigfndahedleaaDoorRows
import GoSem.ClaimSeven
namespace Go.Proofs.YteigfndahedleaaDoor
namespace Rows

/-- THE TIED CARD OF 'gambitlaw02.RankNames'. -/
def rankNamesCard : Claim7 := { stood := { row := rankNamesRow, standIns := [], harness := (true, "78f3843c9847906c6cebac020d9d9ac0085c2300a188d78ec18f4668701e2da4"), looks := false }, kinds := [], alts := [], laidByText := true, laidKinds := [.data], laidTests := true, laidLooks := .later }
def RankNamesCardSaid : Prop := Claim7.holds Tryd.pinned (.plain (OpenSpec.ofChange rankNamesSpec)) rankNamesCard

/-- THE TIED CARD OF 'gambitlaw02.RankCalls'. -/
def rankCallsCard : Claim7 := { stood := { row := rankCallsRow, standIns := [], harness := (true, "78f3843c9847906c6cebac020d9d9ac0085c2300a188d78ec18f4668701e2da4"), looks := false }, kinds := [], alts := [], laidByText := true, laidKinds := [.data], laidTests := true, laidLooks := .later }
def RankCallsCardSaid : Prop := Claim7.holds Tryd.pinned (.plain (OpenSpec.ofChange rankCallsSpec)) rankCallsCard

/-- THE SECOND FORM's CARD OF 'gambitlaw02.RankNames'. -/
def rankNamesUptoCard : Claim7 := { stood := { row := rankNamesUptoRow, standIns := [], harness := (true, "78f3843c9847906c6cebac020d9d9ac0085c2300a188d78ec18f4668701e2da4"), looks := false }, kinds := [], alts := [], laidByText := true, laidKinds := [.data], laidTests := true, laidLooks := .later }
def RankNamesUptoCardSaid : Prop := Claim7.holds Tryd.pinned (.plain (OpenSpec.upto rankNamesSpec)) rankNamesUptoCard

/-- THE SECOND FORM's CARD OF 'gambitlaw02.RankCalls'. -/
def rankCallsUptoCard : Claim7 := { stood := { row := rankCallsUptoRow, standIns := [], harness := (true, "78f3843c9847906c6cebac020d9d9ac0085c2300a188d78ec18f4668701e2da4"), looks := false }, kinds := [], alts := [], laidByText := true, laidKinds := [.data], laidTests := true, laidLooks := .later }
def RankCallsUptoCardSaid : Prop := Claim7.holds Tryd.pinned (.plain (OpenSpec.upto rankCallsSpec)) rankCallsUptoCard
end Rows
end Go.Proofs.YteigfndahedleaaDoor
