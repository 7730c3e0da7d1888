/-
  DERIVED. GIVEN WITH THE SEED: THE CARDS: each row of YtmnkibnbnhjncaaDoorRows.lean that lists a variable, with what it lists TIED to the program's text (the seventh form; the later family's looks); each row that meets fmt, with fmt's text TOLD by the authors' own Lean function (tested against real Go, not proved from fmt's source: count such statements apart). THE CARD IS WHAT COUNTS. Prove the row's statement (the work); the ties are given (YtmnkibnbnhjncaaDoorTie.lean); close each card by the builder's one call (the guide's Derived/Test/ToyasCard.lean, 'card_holds'). Laid BY PROGRAM, IN A SANDBOX (cutbox-door.mjs). By AI agents, Wed Nov 11 2026. No macro, syntax, notation, axiom, sorry.
-/
import Derived.Test.YtmnkibnbnhjncaaDoorRows
import GoSem.ClaimSeven
namespace Go.Proofs.YtmnkibnbnhjncaaDoor
namespace Rows

/-- THE TIED CARD OF 'gambitlaw03.SuitTells'. -/
def suitTellsCard : Claim7 := { stood := { row := suitTellsRow, standIns := [], harness := (true, "4a4b963257b062d4ed9193ad0aa3252e77836dc03e600a67c92c52b27a5d533d"), looks := false }, kinds := [], alts := [], laidByText := true, laidKinds := [.data, .data], laidTests := true, laidLooks := .later }
def SuitTellsCardSaid : Prop := Claim7.holds Tryd.pinned (.plain (OpenSpec.ofChange suitTellsSpec)) suitTellsCard

/-- THE TIED CARD OF 'gambitlaw03.SuitNames'. -/
def suitNamesCard : Claim7 := { stood := { row := suitNamesRow, standIns := [], harness := (true, "4a4b963257b062d4ed9193ad0aa3252e77836dc03e600a67c92c52b27a5d533d"), looks := false }, kinds := [], alts := [], laidByText := true, laidKinds := [.data, .data], laidTests := true, laidLooks := .later }
def SuitNamesCardSaid : Prop := Claim7.holds Tryd.pinned (.plain (OpenSpec.ofChange suitNamesSpec)) suitNamesCard

/-- THE TIED CARD OF 'gambitlaw03.SuitAll'. -/
def suitAllCard : Claim7 := { stood := { row := suitAllRow, standIns := [], harness := (true, "4a4b963257b062d4ed9193ad0aa3252e77836dc03e600a67c92c52b27a5d533d"), looks := false }, kinds := [], alts := [], laidByText := true, laidKinds := [.data, .data], laidTests := true, laidLooks := .later }
def SuitAllCardSaid : Prop := Claim7.holds Tryd.pinned (.plain (OpenSpec.ofChange suitAllSpec)) suitAllCard

/-- THE TIED CARD OF 'gambitlaw03.SuitRound'. -/
def suitRoundCard : Claim7 := { stood := { row := suitRoundRow, standIns := [], harness := (true, "4a4b963257b062d4ed9193ad0aa3252e77836dc03e600a67c92c52b27a5d533d"), looks := false }, kinds := [], alts := [], laidByText := true, laidKinds := [.data, .data], laidTests := true, laidLooks := .later }
def SuitRoundCardSaid : Prop := Claim7.holds Tryd.pinned (.plain (OpenSpec.ofChange suitRoundSpec)) suitRoundCard

/-- THE SECOND FORM's CARD OF 'gambitlaw03.SuitTells'. -/
def suitTellsUptoCard : Claim7 := { stood := { row := suitTellsUptoRow, standIns := [], harness := (true, "4a4b963257b062d4ed9193ad0aa3252e77836dc03e600a67c92c52b27a5d533d"), looks := false }, kinds := [], alts := [], laidByText := true, laidKinds := [.data, .data], laidTests := true, laidLooks := .later }
def SuitTellsUptoCardSaid : Prop := Claim7.holds Tryd.pinned (.plain (OpenSpec.upto suitTellsSpec)) suitTellsUptoCard

/-- THE SECOND FORM's CARD OF 'gambitlaw03.SuitNames'. -/
def suitNamesUptoCard : Claim7 := { stood := { row := suitNamesUptoRow, standIns := [], harness := (true, "4a4b963257b062d4ed9193ad0aa3252e77836dc03e600a67c92c52b27a5d533d"), looks := false }, kinds := [], alts := [], laidByText := true, laidKinds := [.data, .data], laidTests := true, laidLooks := .later }
def SuitNamesUptoCardSaid : Prop := Claim7.holds Tryd.pinned (.plain (OpenSpec.upto suitNamesSpec)) suitNamesUptoCard

/-- THE SECOND FORM's CARD OF 'gambitlaw03.SuitAll'. -/
def suitAllUptoCard : Claim7 := { stood := { row := suitAllUptoRow, standIns := [], harness := (true, "4a4b963257b062d4ed9193ad0aa3252e77836dc03e600a67c92c52b27a5d533d"), looks := false }, kinds := [], alts := [], laidByText := true, laidKinds := [.data, .data], laidTests := true, laidLooks := .later }
def SuitAllUptoCardSaid : Prop := Claim7.holds Tryd.pinned (.plain (OpenSpec.upto suitAllSpec)) suitAllUptoCard

/-- THE SECOND FORM's CARD OF 'gambitlaw03.SuitRound'. -/
def suitRoundUptoCard : Claim7 := { stood := { row := suitRoundUptoRow, standIns := [], harness := (true, "4a4b963257b062d4ed9193ad0aa3252e77836dc03e600a67c92c52b27a5d533d"), looks := false }, kinds := [], alts := [], laidByText := true, laidKinds := [.data, .data], laidTests := true, laidLooks := .later }
def SuitRoundUptoCardSaid : Prop := Claim7.holds Tryd.pinned (.plain (OpenSpec.upto suitRoundSpec)) suitRoundUptoCard
end Rows
end Go.Proofs.YtmnkibnbnhjncaaDoor
