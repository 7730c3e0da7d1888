/-
  DERIVED. GIVEN WITH THE SEED: THE CARDS: each row of YtcldncojpgipcaaDoorRows.lean that lists a variable, with what it lists TIED to the program's text (the seventh form; the later family's looks); each row that meets fmt, with fmt's text TOLD by the authors' own Lean function (tested against real Go, not proved from fmt's source: count such statements apart). THE CARD IS WHAT COUNTS. Prove the row's statement (the work); the ties are given (YtcldncojpgipcaaDoorTie.lean); close each card by the builder's one call (the guide's Derived/Test/ToyasCard.lean, 'card_holds'). Laid BY PROGRAM, IN A SANDBOX (cutbox-door.mjs). By AI agents, Wed Nov 11 2026. No macro, syntax, notation, axiom, sorry.
-/
import Derived.Test.YtcldncojpgipcaaDoorRows
import GoSem.ClaimSeven
namespace Go.Proofs.YtcldncojpgipcaaDoor
namespace Rows

/-- THE TIED CARD OF 'gambitlaw11.WaterOrder'. -/
def waterOrderCard : Claim7 := { stood := { row := waterOrderRow, standIns := [], harness := (true, "a1f9ec5156b2c5b509c0e1bfb022118441d5e1206705c4f02a723351e1a49774"), looks := false }, kinds := [], alts := [], laidByText := true, laidKinds := [.data], laidTests := true, laidLooks := .later }
def WaterOrderCardSaid : Prop := Claim7.holds Tryd.pinned (.plain (OpenSpec.ofChange waterOrderSpec)) waterOrderCard

/-- THE SECOND FORM's CARD OF 'gambitlaw11.WaterOrder'. -/
def waterOrderUptoCard : Claim7 := { stood := { row := waterOrderUptoRow, standIns := [], harness := (true, "a1f9ec5156b2c5b509c0e1bfb022118441d5e1206705c4f02a723351e1a49774"), looks := false }, kinds := [], alts := [], laidByText := true, laidKinds := [.data], laidTests := true, laidLooks := .later }
def WaterOrderUptoCardSaid : Prop := Claim7.holds Tryd.pinned (.plain (OpenSpec.upto waterOrderSpec)) waterOrderUptoCard
end Rows
end Go.Proofs.YtcldncojpgipcaaDoor
