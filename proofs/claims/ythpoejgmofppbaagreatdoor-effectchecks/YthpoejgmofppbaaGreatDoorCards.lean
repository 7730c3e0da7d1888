/-
  DERIVED. GIVEN WITH THE SEED: THE CARDS: each row of YthpoejgmofppbaaGreatDoorRows.lean that lists a variable, with what it lists TIED to the program's text (the seventh form; the later family's looks); each row that meets fmt, with fmt's text TOLD by the authors' own Lean function (tested against real Go, not proved from fmt's source: count such statements apart). THE CARD IS WHAT COUNTS. Prove the row's statement (the work); the ties are given (YthpoejgmofppbaaGreatDoorTie.lean); close each card by the builder's one call (the guide's Derived/Test/ToyasCard.lean, 'card_holds'). Laid BY PROGRAM, IN A SANDBOX (cutbox-door.mjs). By AI agents, Wed Nov 11 2026. No macro, syntax, notation, axiom, sorry.
-/
import Derived.Test.YthpoejgmofppbaaGreatDoorRows
import GoSem.ClaimSeven
namespace Go.Proofs.YthpoejgmofppbaaGreatDoor
namespace Rows

/-- THE TIED CARD OF 'gambitlaw05.EffectNames'. -/
def effectNamesCard : Claim7 := { stood := { row := effectNamesRow, standIns := [], harness := (true, "3d819f632a2c96c5276046111df18d4de1e0205284c7e38fd7283900192d2109"), looks := true }, kinds := [], alts := [], laidByText := true, laidKinds := [.data, .data, .data, .data, .sentinel, .sentinel, .data, .data, .pinned], laidTests := true, laidLooks := .later }
def EffectNamesCardSaid : Prop := Claim7.holds Tryz.pinned (.plain (OpenSpec.ofChange effectNamesSpec)) effectNamesCard

/-- THE TIED CARD OF 'gambitlaw05.EffectCount'. -/
def effectCountCard : Claim7 := { stood := { row := effectCountRow, standIns := [], harness := (true, "3d819f632a2c96c5276046111df18d4de1e0205284c7e38fd7283900192d2109"), looks := true }, kinds := [], alts := [], laidByText := true, laidKinds := [.data, .data, .data, .data, .sentinel, .sentinel, .data, .data, .pinned], laidTests := true, laidLooks := .later }
def EffectCountCardSaid : Prop := Claim7.holds Tryz.pinned (.plain (OpenSpec.ofChange effectCountSpec)) effectCountCard

/-- THE TIED CARD OF 'gambitlaw05.EffectChecks'. -/
def effectChecksCard : Claim7 := { stood := { row := effectChecksRow, standIns := [], harness := (true, "3d819f632a2c96c5276046111df18d4de1e0205284c7e38fd7283900192d2109"), looks := true }, kinds := [], alts := [], laidByText := true, laidKinds := [.data, .data, .data, .data, .sentinel, .sentinel, .data, .data, .pinned], laidTests := true, laidLooks := .later }
def EffectChecksCardSaid : Prop := Claim7.holds Tryz.pinned (.plain (OpenSpec.ofChange effectChecksSpec)) effectChecksCard

/-- THE TIED CARD OF 'gambitlaw05.EffectParses'. -/
def effectParsesCard : Claim7 := { stood := { row := effectParsesRow, standIns := [], harness := (true, "3d819f632a2c96c5276046111df18d4de1e0205284c7e38fd7283900192d2109"), looks := true }, kinds := [], alts := [], laidByText := true, laidKinds := [.data, .data, .data, .data, .sentinel, .sentinel, .data, .data, .pinned], laidTests := true, laidLooks := .later }
def EffectParsesCardSaid : Prop := Claim7.holds Tryz.pinned (.plain (OpenSpec.ofChange effectParsesSpec)) effectParsesCard

/-- THE TIED CARD OF 'gambitlaw05.EffectBack'. -/
def effectBackCard : Claim7 := { stood := { row := effectBackRow, standIns := [], harness := (true, "3d819f632a2c96c5276046111df18d4de1e0205284c7e38fd7283900192d2109"), looks := true }, kinds := [], alts := [], laidByText := true, laidKinds := [.data, .data, .data, .data, .sentinel, .sentinel, .data, .data, .pinned], laidTests := true, laidLooks := .later }
def EffectBackCardSaid : Prop := Claim7.holds Tryz.pinned (.plain (OpenSpec.ofChange effectBackSpec)) effectBackCard

/-- THE SECOND FORM's CARD OF 'gambitlaw05.EffectNames'. -/
def effectNamesUptoCard : Claim7 := { stood := { row := effectNamesUptoRow, standIns := [], harness := (true, "3d819f632a2c96c5276046111df18d4de1e0205284c7e38fd7283900192d2109"), looks := true }, kinds := [], alts := [], laidByText := true, laidKinds := [.data, .data, .data, .data, .sentinel, .sentinel, .data, .data, .pinned], laidTests := true, laidLooks := .later }
def EffectNamesUptoCardSaid : Prop := Claim7.holds Tryz.pinned (.plain (OpenSpec.upto effectNamesSpec)) effectNamesUptoCard

/-- THE SECOND FORM's CARD OF 'gambitlaw05.EffectCount'. -/
def effectCountUptoCard : Claim7 := { stood := { row := effectCountUptoRow, standIns := [], harness := (true, "3d819f632a2c96c5276046111df18d4de1e0205284c7e38fd7283900192d2109"), looks := true }, kinds := [], alts := [], laidByText := true, laidKinds := [.data, .data, .data, .data, .sentinel, .sentinel, .data, .data, .pinned], laidTests := true, laidLooks := .later }
def EffectCountUptoCardSaid : Prop := Claim7.holds Tryz.pinned (.plain (OpenSpec.upto effectCountSpec)) effectCountUptoCard

/-- THE SECOND FORM's CARD OF 'gambitlaw05.EffectChecks'. -/
def effectChecksUptoCard : Claim7 := { stood := { row := effectChecksUptoRow, standIns := [], harness := (true, "3d819f632a2c96c5276046111df18d4de1e0205284c7e38fd7283900192d2109"), looks := true }, kinds := [], alts := [], laidByText := true, laidKinds := [.data, .data, .data, .data, .sentinel, .sentinel, .data, .data, .pinned], laidTests := true, laidLooks := .later }
def EffectChecksUptoCardSaid : Prop := Claim7.holds Tryz.pinned (.plain (OpenSpec.upto effectChecksSpec)) effectChecksUptoCard

/-- THE SECOND FORM's CARD OF 'gambitlaw05.EffectParses'. -/
def effectParsesUptoCard : Claim7 := { stood := { row := effectParsesUptoRow, standIns := [], harness := (true, "3d819f632a2c96c5276046111df18d4de1e0205284c7e38fd7283900192d2109"), looks := true }, kinds := [], alts := [], laidByText := true, laidKinds := [.data, .data, .data, .data, .sentinel, .sentinel, .data, .data, .pinned], laidTests := true, laidLooks := .later }
def EffectParsesUptoCardSaid : Prop := Claim7.holds Tryz.pinned (.plain (OpenSpec.upto effectParsesSpec)) effectParsesUptoCard

/-- THE SECOND FORM's CARD OF 'gambitlaw05.EffectBack'. -/
def effectBackUptoCard : Claim7 := { stood := { row := effectBackUptoRow, standIns := [], harness := (true, "3d819f632a2c96c5276046111df18d4de1e0205284c7e38fd7283900192d2109"), looks := true }, kinds := [], alts := [], laidByText := true, laidKinds := [.data, .data, .data, .data, .sentinel, .sentinel, .data, .data, .pinned], laidTests := true, laidLooks := .later }
def EffectBackUptoCardSaid : Prop := Claim7.holds Tryz.pinned (.plain (OpenSpec.upto effectBackSpec)) effectBackUptoCard
end Rows
end Go.Proofs.YthpoejgmofppbaaGreatDoor
