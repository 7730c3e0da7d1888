/-
  DERIVED. GIVEN WITH THE SEED: THE CARDS: each row of YtpceelbphpfciaaGreatDoorRows.lean that lists a variable, with what it lists TIED to the program's text (the seventh form; the later family's looks); each row that meets fmt, with fmt's text TOLD by the authors' own Lean function (tested against real Go, not proved from fmt's source: count such statements apart). THE CARD IS WHAT COUNTS. Prove the row's statement (the work); the ties are given (YtpceelbphpfciaaGreatDoorTie.lean); close each card by the builder's one call (the guide's Derived/Test/ToyasCard.lean, 'card_holds'). Laid BY PROGRAM, IN A SANDBOX (cutbox-door.mjs). By AI agents, Wed Nov 11 2026. No macro, syntax, notation, axiom, sorry.
-/
import Derived.Test.YtpceelbphpfciaaGreatDoorRows
import GoSem.ClaimSeven
namespace Go.Proofs.YtpceelbphpfciaaGreatDoor
namespace Rows

/-- THE TIED CARD OF 'gambitlaw05.EffectParses'. -/
def effectParsesCard : Claim7 := { stood := { row := effectParsesRow, standIns := [], harness := (true, "fd331dd5c9248d91a0857a964d709d8a994817e0ec2a2b0d7de49d1bac67f6f6"), looks := true }, kinds := [], alts := [], laidByText := true, laidKinds := [.data, .data, .data, .data, .sentinel, .sentinel, .data, .data, .pinned], laidTests := true, laidLooks := .later }
def EffectParsesCardSaid : Prop := Claim7.holds Tryz.pinned (.plain (OpenSpec.ofChange effectParsesSpec)) effectParsesCard

/-- THE TIED CARD OF 'gambitlaw06.CardTells'. -/
def cardTellsCard : Claim7 := { stood := { row := cardTellsRow, standIns := [], harness := (true, "fd331dd5c9248d91a0857a964d709d8a994817e0ec2a2b0d7de49d1bac67f6f6"), looks := true }, kinds := [], alts := [], laidByText := true, laidKinds := [.data, .data, .data, .sentinel, .sentinel, .data, .data], laidTests := true, laidLooks := .later }
def CardTellsCardSaid : Prop := Claim7.holds Tryz.pinned (.plain (OpenSpec.ofChange cardTellsSpec)) cardTellsCard

/-- THE TIED CARD OF 'gambitlaw06.CardParses'. -/
def cardParsesCard : Claim7 := { stood := { row := cardParsesRow, standIns := [], harness := (true, "fd331dd5c9248d91a0857a964d709d8a994817e0ec2a2b0d7de49d1bac67f6f6"), looks := true }, kinds := [], alts := [], laidByText := true, laidKinds := [.data, .data, .data, .data, .sentinel, .sentinel, .data, .data, .pinned], laidTests := true, laidLooks := .later }
def CardParsesCardSaid : Prop := Claim7.holds Tryz.pinned (.plain (OpenSpec.ofChange cardParsesSpec)) cardParsesCard

/-- THE TIED CARD OF 'gambitlaw06.CardNames'. -/
def cardNamesCard : Claim7 := { stood := { row := cardNamesRow, standIns := [], harness := (true, "fd331dd5c9248d91a0857a964d709d8a994817e0ec2a2b0d7de49d1bac67f6f6"), looks := true }, kinds := [], alts := [], laidByText := true, laidKinds := [.data, .data, .data, .data, .sentinel, .sentinel, .data, .data, .pinned], laidTests := true, laidLooks := .later }
def CardNamesCardSaid : Prop := Claim7.holds Tryz.pinned (.plain (OpenSpec.ofChange cardNamesSpec)) cardNamesCard

/-- THE TIED CARD OF 'gambitlaw06.CardBack'. -/
def cardBackCard : Claim7 := { stood := { row := cardBackRow, standIns := [], harness := (true, "fd331dd5c9248d91a0857a964d709d8a994817e0ec2a2b0d7de49d1bac67f6f6"), looks := true }, kinds := [], alts := [], laidByText := true, laidKinds := [.data, .data, .data, .data, .sentinel, .sentinel, .data, .data, .pinned], laidTests := true, laidLooks := .later }
def CardBackCardSaid : Prop := Claim7.holds Tryz.pinned (.plain (OpenSpec.ofChange cardBackSpec)) cardBackCard

/-- THE SECOND FORM's CARD OF 'gambitlaw05.EffectParses'. -/
def effectParsesUptoCard : Claim7 := { stood := { row := effectParsesUptoRow, standIns := [], harness := (true, "fd331dd5c9248d91a0857a964d709d8a994817e0ec2a2b0d7de49d1bac67f6f6"), looks := true }, kinds := [], alts := [], laidByText := true, laidKinds := [.data, .data, .data, .data, .sentinel, .sentinel, .data, .data, .pinned], laidTests := true, laidLooks := .later }
def EffectParsesUptoCardSaid : Prop := Claim7.holds Tryz.pinned (.plain (OpenSpec.upto effectParsesSpec)) effectParsesUptoCard

/-- THE SECOND FORM's CARD OF 'gambitlaw06.CardTells'. -/
def cardTellsUptoCard : Claim7 := { stood := { row := cardTellsUptoRow, standIns := [], harness := (true, "fd331dd5c9248d91a0857a964d709d8a994817e0ec2a2b0d7de49d1bac67f6f6"), looks := true }, kinds := [], alts := [], laidByText := true, laidKinds := [.data, .data, .data, .sentinel, .sentinel, .data, .data], laidTests := true, laidLooks := .later }
def CardTellsUptoCardSaid : Prop := Claim7.holds Tryz.pinned (.plain (OpenSpec.upto cardTellsSpec)) cardTellsUptoCard

/-- THE SECOND FORM's CARD OF 'gambitlaw06.CardParses'. -/
def cardParsesUptoCard : Claim7 := { stood := { row := cardParsesUptoRow, standIns := [], harness := (true, "fd331dd5c9248d91a0857a964d709d8a994817e0ec2a2b0d7de49d1bac67f6f6"), looks := true }, kinds := [], alts := [], laidByText := true, laidKinds := [.data, .data, .data, .data, .sentinel, .sentinel, .data, .data, .pinned], laidTests := true, laidLooks := .later }
def CardParsesUptoCardSaid : Prop := Claim7.holds Tryz.pinned (.plain (OpenSpec.upto cardParsesSpec)) cardParsesUptoCard

/-- THE SECOND FORM's CARD OF 'gambitlaw06.CardNames'. -/
def cardNamesUptoCard : Claim7 := { stood := { row := cardNamesUptoRow, standIns := [], harness := (true, "fd331dd5c9248d91a0857a964d709d8a994817e0ec2a2b0d7de49d1bac67f6f6"), looks := true }, kinds := [], alts := [], laidByText := true, laidKinds := [.data, .data, .data, .data, .sentinel, .sentinel, .data, .data, .pinned], laidTests := true, laidLooks := .later }
def CardNamesUptoCardSaid : Prop := Claim7.holds Tryz.pinned (.plain (OpenSpec.upto cardNamesSpec)) cardNamesUptoCard

/-- THE SECOND FORM's CARD OF 'gambitlaw06.CardBack'. -/
def cardBackUptoCard : Claim7 := { stood := { row := cardBackUptoRow, standIns := [], harness := (true, "fd331dd5c9248d91a0857a964d709d8a994817e0ec2a2b0d7de49d1bac67f6f6"), looks := true }, kinds := [], alts := [], laidByText := true, laidKinds := [.data, .data, .data, .data, .sentinel, .sentinel, .data, .data, .pinned], laidTests := true, laidLooks := .later }
def CardBackUptoCardSaid : Prop := Claim7.holds Tryz.pinned (.plain (OpenSpec.upto cardBackSpec)) cardBackUptoCard
end Rows
end Go.Proofs.YtpceelbphpfciaaGreatDoor
