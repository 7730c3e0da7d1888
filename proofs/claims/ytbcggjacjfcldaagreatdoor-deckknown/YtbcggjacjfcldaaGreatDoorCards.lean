/-
  DERIVED. GIVEN WITH THE SEED: THE CARDS: each row of YtbcggjacjfcldaaGreatDoorRows.lean that lists a variable, with what it lists TIED to the program's text (the seventh form; the later family's looks); each row that meets fmt, with fmt's text TOLD by the authors' own Lean function (tested against real Go, not proved from fmt's source: count such statements apart). THE CARD IS WHAT COUNTS. Prove the row's statement (the work); the ties are given (YtbcggjacjfcldaaGreatDoorTie.lean); close each card by the builder's one call (the guide's Derived/Test/ToyasCard.lean, 'card_holds'). Laid BY PROGRAM, IN A SANDBOX (cutbox-door.mjs). By AI agents, Wed Nov 11 2026. No macro, syntax, notation, axiom, sorry.
-/
import Derived.Test.YtbcggjacjfcldaaGreatDoorRows
import GoSem.ClaimSeven
namespace Go.Proofs.YtbcggjacjfcldaaGreatDoor
namespace Rows

/-- THE TIED CARD OF 'gambitlaw16.DeckAll'. -/
def deckAllCard : Claim7 := { stood := { row := deckAllRow, standIns := [], harness := (true, "106b4751142004340ee5a2269f32ee071d7daca97d5ed5ad79da71a5b4bdaf5d"), looks := true }, kinds := [], alts := [], laidByText := true, laidKinds := [.data, .data, .data, .sentinel, .sentinel], laidTests := true, laidLooks := .later }
def DeckAllCardSaid : Prop := Claim7.holds Tryz.pinned (.plain (OpenSpec.ofChange deckAllSpec)) deckAllCard

/-- THE TIED CARD OF 'gambitlaw16.DeckNone'. -/
def deckNoneCard : Claim7 := { stood := { row := deckNoneRow, standIns := [], harness := (true, "106b4751142004340ee5a2269f32ee071d7daca97d5ed5ad79da71a5b4bdaf5d"), looks := true }, kinds := [], alts := [], laidByText := true, laidKinds := [.data, .data, .data, .sentinel, .sentinel], laidTests := true, laidLooks := .later }
def DeckNoneCardSaid : Prop := Claim7.holds Tryz.pinned (.plain (OpenSpec.ofChange deckNoneSpec)) deckNoneCard

/-- THE TIED CARD OF 'gambitlaw16.DeckBack'. -/
def deckBackCard : Claim7 := { stood := { row := deckBackRow, standIns := [], harness := (true, "106b4751142004340ee5a2269f32ee071d7daca97d5ed5ad79da71a5b4bdaf5d"), looks := true }, kinds := [], alts := [], laidByText := true, laidKinds := [.data, .data, .data, .sentinel, .sentinel], laidTests := true, laidLooks := .later }
def DeckBackCardSaid : Prop := Claim7.holds Tryz.pinned (.plain (OpenSpec.ofChange deckBackSpec)) deckBackCard

/-- THE TIED CARD OF 'gambitlaw16.DeckRight'. -/
def deckRightCard : Claim7 := { stood := { row := deckRightRow, standIns := [], harness := (true, "106b4751142004340ee5a2269f32ee071d7daca97d5ed5ad79da71a5b4bdaf5d"), looks := true }, kinds := [], alts := [], laidByText := true, laidKinds := [.data, .data, .data, .sentinel, .sentinel], laidTests := true, laidLooks := .later }
def DeckRightCardSaid : Prop := Claim7.holds Tryz.pinned (.plain (OpenSpec.ofChange deckRightSpec)) deckRightCard

/-- THE TIED CARD OF 'gambitlaw16.DeckKnown'. -/
def deckKnownCard : Claim7 := { stood := { row := deckKnownRow, standIns := [], harness := (true, "106b4751142004340ee5a2269f32ee071d7daca97d5ed5ad79da71a5b4bdaf5d"), looks := true }, kinds := [], alts := [], laidByText := true, laidKinds := [.data, .data, .data, .sentinel, .sentinel], laidTests := true, laidLooks := .later }
def DeckKnownCardSaid : Prop := Claim7.holds Tryz.pinned (.plain (OpenSpec.ofChange deckKnownSpec)) deckKnownCard

/-- THE SECOND FORM's CARD OF 'gambitlaw16.DeckAll'. -/
def deckAllUptoCard : Claim7 := { stood := { row := deckAllUptoRow, standIns := [], harness := (true, "106b4751142004340ee5a2269f32ee071d7daca97d5ed5ad79da71a5b4bdaf5d"), looks := true }, kinds := [], alts := [], laidByText := true, laidKinds := [.data, .data, .data, .sentinel, .sentinel], laidTests := true, laidLooks := .later }
def DeckAllUptoCardSaid : Prop := Claim7.holds Tryz.pinned (.plain (OpenSpec.upto deckAllSpec)) deckAllUptoCard

/-- THE SECOND FORM's CARD OF 'gambitlaw16.DeckNone'. -/
def deckNoneUptoCard : Claim7 := { stood := { row := deckNoneUptoRow, standIns := [], harness := (true, "106b4751142004340ee5a2269f32ee071d7daca97d5ed5ad79da71a5b4bdaf5d"), looks := true }, kinds := [], alts := [], laidByText := true, laidKinds := [.data, .data, .data, .sentinel, .sentinel], laidTests := true, laidLooks := .later }
def DeckNoneUptoCardSaid : Prop := Claim7.holds Tryz.pinned (.plain (OpenSpec.upto deckNoneSpec)) deckNoneUptoCard

/-- THE SECOND FORM's CARD OF 'gambitlaw16.DeckBack'. -/
def deckBackUptoCard : Claim7 := { stood := { row := deckBackUptoRow, standIns := [], harness := (true, "106b4751142004340ee5a2269f32ee071d7daca97d5ed5ad79da71a5b4bdaf5d"), looks := true }, kinds := [], alts := [], laidByText := true, laidKinds := [.data, .data, .data, .sentinel, .sentinel], laidTests := true, laidLooks := .later }
def DeckBackUptoCardSaid : Prop := Claim7.holds Tryz.pinned (.plain (OpenSpec.upto deckBackSpec)) deckBackUptoCard

/-- THE SECOND FORM's CARD OF 'gambitlaw16.DeckRight'. -/
def deckRightUptoCard : Claim7 := { stood := { row := deckRightUptoRow, standIns := [], harness := (true, "106b4751142004340ee5a2269f32ee071d7daca97d5ed5ad79da71a5b4bdaf5d"), looks := true }, kinds := [], alts := [], laidByText := true, laidKinds := [.data, .data, .data, .sentinel, .sentinel], laidTests := true, laidLooks := .later }
def DeckRightUptoCardSaid : Prop := Claim7.holds Tryz.pinned (.plain (OpenSpec.upto deckRightSpec)) deckRightUptoCard

/-- THE SECOND FORM's CARD OF 'gambitlaw16.DeckKnown'. -/
def deckKnownUptoCard : Claim7 := { stood := { row := deckKnownUptoRow, standIns := [], harness := (true, "106b4751142004340ee5a2269f32ee071d7daca97d5ed5ad79da71a5b4bdaf5d"), looks := true }, kinds := [], alts := [], laidByText := true, laidKinds := [.data, .data, .data, .sentinel, .sentinel], laidTests := true, laidLooks := .later }
def DeckKnownUptoCardSaid : Prop := Claim7.holds Tryz.pinned (.plain (OpenSpec.upto deckKnownSpec)) deckKnownUptoCard
end Rows
end Go.Proofs.YtbcggjacjfcldaaGreatDoor
