/-
  DERIVED. GIVEN WITH THE SEED: THE CARDS: each row of YtmepidalecdmkaaDoorRows.lean that lists a variable, with what it lists TIED to the program's text (the seventh form; the later family's looks); each row that meets fmt, with fmt's text TOLD by the authors' own Lean function (tested against real Go, not proved from fmt's source: count such statements apart). THE CARD IS WHAT COUNTS. Prove the row's statement (the work); the ties are given (YtmepidalecdmkaaDoorTie.lean); close each card by the builder's one call (the guide's Derived/Test/ToyasCard.lean, 'card_holds'). Laid BY PROGRAM, IN A SANDBOX (cutbox-door.mjs). By AI agents, Wed Nov 11 2026. No macro, syntax, notation, axiom, sorry.
-/
import Derived.Test.YtmepidalecdmkaaDoorRows
import GoSem.ClaimSeven
namespace Go.Proofs.YtmepidalecdmkaaDoor
namespace Rows

/-- THE TIED CARD OF 'gambitlaw08.AirOrder'. -/
def airOrderCard : Claim7 := { stood := { row := airOrderRow, standIns := [], harness := (true, "5a3a6b5dffec944aea1c099410e7ad26fee3997822a36380425fa83e59525ecb"), looks := false }, kinds := [], alts := [], laidByText := true, laidKinds := [.data], laidTests := true, laidLooks := .later }
def AirOrderCardSaid : Prop := Claim7.holds Tryd.pinned (.plain (OpenSpec.ofChange airOrderSpec)) airOrderCard

/-- THE SECOND FORM's CARD OF 'gambitlaw08.AirOrder'. -/
def airOrderUptoCard : Claim7 := { stood := { row := airOrderUptoRow, standIns := [], harness := (true, "5a3a6b5dffec944aea1c099410e7ad26fee3997822a36380425fa83e59525ecb"), looks := false }, kinds := [], alts := [], laidByText := true, laidKinds := [.data], laidTests := true, laidLooks := .later }
def AirOrderUptoCardSaid : Prop := Claim7.holds Tryd.pinned (.plain (OpenSpec.upto airOrderSpec)) airOrderUptoCard
end Rows
end Go.Proofs.YtmepidalecdmkaaDoor
