/-
  DERIVED. GIVEN WITH THE SEED: THE CARDS: each row of YtpnbblimmkdaiaaDoorRows.lean that lists a variable, with what it lists TIED to the program's text (the seventh form; the later family's looks); each row that meets fmt, with fmt's text TOLD by the authors' own Lean function (tested against real Go, not proved from fmt's source: count such statements apart). THE CARD IS WHAT COUNTS. Prove the row's statement (the work); the ties are given (YtpnbblimmkdaiaaDoorTie.lean); close each card by the builder's one call (the guide's Derived/Test/ToyasCard.lean, 'card_holds'). Laid BY PROGRAM, IN A SANDBOX (cutbox-door.mjs). By AI agents, Wed Nov 11 2026. No macro, syntax, notation, axiom, sorry.
-/
import Derived.Test.YtpnbblimmkdaiaaDoorRows
import GoSem.ClaimSeven
namespace Go.Proofs.YtpnbblimmkdaiaaDoor
namespace Rows

/-- THE TIED CARD OF 'gambitlaw04.TraitSets'. -/
def traitSetsCard : Claim7 := { stood := { row := traitSetsRow, standIns := [], harness := (true, "fa7b7c1f4d6f623c4b9ade689f60acde3ae6ae2600e7adbe7aed3c414744ecbc"), looks := false }, kinds := [], alts := [], laidByText := true, laidKinds := [.data, .data, .data, .data], laidTests := true, laidLooks := .later }
def TraitSetsCardSaid : Prop := Claim7.holds Tryd.pinned (.plain (OpenSpec.ofChange traitSetsSpec)) traitSetsCard

/-- THE TIED CARD OF 'gambitlaw04.TraitTexts'. -/
def traitTextsCard : Claim7 := { stood := { row := traitTextsRow, standIns := [], harness := (true, "fa7b7c1f4d6f623c4b9ade689f60acde3ae6ae2600e7adbe7aed3c414744ecbc"), looks := false }, kinds := [], alts := [], laidByText := true, laidKinds := [.data, .data, .data, .data], laidTests := true, laidLooks := .later }
def TraitTextsCardSaid : Prop := Claim7.holds Tryd.pinned (.plain (OpenSpec.ofChange traitTextsSpec)) traitTextsCard

/-- THE TIED CARD OF 'gambitlaw04.TraitBits'. -/
def traitBitsCard : Claim7 := { stood := { row := traitBitsRow, standIns := [], harness := (true, "fa7b7c1f4d6f623c4b9ade689f60acde3ae6ae2600e7adbe7aed3c414744ecbc"), looks := false }, kinds := [], alts := [], laidByText := true, laidKinds := [.data, .data, .data, .data], laidTests := true, laidLooks := .later }
def TraitBitsCardSaid : Prop := Claim7.holds Tryd.pinned (.plain (OpenSpec.ofChange traitBitsSpec)) traitBitsCard

/-- THE TIED CARD OF 'gambitlaw04.TraitBack'. -/
def traitBackCard : Claim7 := { stood := { row := traitBackRow, standIns := [], harness := (true, "fa7b7c1f4d6f623c4b9ade689f60acde3ae6ae2600e7adbe7aed3c414744ecbc"), looks := false }, kinds := [], alts := [], laidByText := true, laidKinds := [.data, .data, .data, .data], laidTests := true, laidLooks := .later }
def TraitBackCardSaid : Prop := Claim7.holds Tryd.pinned (.plain (OpenSpec.ofChange traitBackSpec)) traitBackCard

/-- THE TIED CARD OF 'gambitlaw04.TraitNames'. -/
def traitNamesCard : Claim7 := { stood := { row := traitNamesRow, standIns := [], harness := (true, "fa7b7c1f4d6f623c4b9ade689f60acde3ae6ae2600e7adbe7aed3c414744ecbc"), looks := false }, kinds := [], alts := [], laidByText := true, laidKinds := [.data, .data, .data, .data], laidTests := true, laidLooks := .later }
def TraitNamesCardSaid : Prop := Claim7.holds Tryd.pinned (.plain (OpenSpec.ofChange traitNamesSpec)) traitNamesCard

/-- THE TIED CARD OF 'gambitlaw04.TraitKnown'. -/
def traitKnownCard : Claim7 := { stood := { row := traitKnownRow, standIns := [], harness := (true, "fa7b7c1f4d6f623c4b9ade689f60acde3ae6ae2600e7adbe7aed3c414744ecbc"), looks := false }, kinds := [], alts := [], laidByText := true, laidKinds := [.data, .data, .data, .data], laidTests := true, laidLooks := .later }
def TraitKnownCardSaid : Prop := Claim7.holds Tryd.pinned (.plain (OpenSpec.ofChange traitKnownSpec)) traitKnownCard

/-- THE SECOND FORM's CARD OF 'gambitlaw04.TraitSets'. -/
def traitSetsUptoCard : Claim7 := { stood := { row := traitSetsUptoRow, standIns := [], harness := (true, "fa7b7c1f4d6f623c4b9ade689f60acde3ae6ae2600e7adbe7aed3c414744ecbc"), looks := false }, kinds := [], alts := [], laidByText := true, laidKinds := [.data, .data, .data, .data], laidTests := true, laidLooks := .later }
def TraitSetsUptoCardSaid : Prop := Claim7.holds Tryd.pinned (.plain (OpenSpec.upto traitSetsSpec)) traitSetsUptoCard

/-- THE SECOND FORM's CARD OF 'gambitlaw04.TraitTexts'. -/
def traitTextsUptoCard : Claim7 := { stood := { row := traitTextsUptoRow, standIns := [], harness := (true, "fa7b7c1f4d6f623c4b9ade689f60acde3ae6ae2600e7adbe7aed3c414744ecbc"), looks := false }, kinds := [], alts := [], laidByText := true, laidKinds := [.data, .data, .data, .data], laidTests := true, laidLooks := .later }
def TraitTextsUptoCardSaid : Prop := Claim7.holds Tryd.pinned (.plain (OpenSpec.upto traitTextsSpec)) traitTextsUptoCard

/-- THE SECOND FORM's CARD OF 'gambitlaw04.TraitBits'. -/
def traitBitsUptoCard : Claim7 := { stood := { row := traitBitsUptoRow, standIns := [], harness := (true, "fa7b7c1f4d6f623c4b9ade689f60acde3ae6ae2600e7adbe7aed3c414744ecbc"), looks := false }, kinds := [], alts := [], laidByText := true, laidKinds := [.data, .data, .data, .data], laidTests := true, laidLooks := .later }
def TraitBitsUptoCardSaid : Prop := Claim7.holds Tryd.pinned (.plain (OpenSpec.upto traitBitsSpec)) traitBitsUptoCard

/-- THE SECOND FORM's CARD OF 'gambitlaw04.TraitBack'. -/
def traitBackUptoCard : Claim7 := { stood := { row := traitBackUptoRow, standIns := [], harness := (true, "fa7b7c1f4d6f623c4b9ade689f60acde3ae6ae2600e7adbe7aed3c414744ecbc"), looks := false }, kinds := [], alts := [], laidByText := true, laidKinds := [.data, .data, .data, .data], laidTests := true, laidLooks := .later }
def TraitBackUptoCardSaid : Prop := Claim7.holds Tryd.pinned (.plain (OpenSpec.upto traitBackSpec)) traitBackUptoCard

/-- THE SECOND FORM's CARD OF 'gambitlaw04.TraitNames'. -/
def traitNamesUptoCard : Claim7 := { stood := { row := traitNamesUptoRow, standIns := [], harness := (true, "fa7b7c1f4d6f623c4b9ade689f60acde3ae6ae2600e7adbe7aed3c414744ecbc"), looks := false }, kinds := [], alts := [], laidByText := true, laidKinds := [.data, .data, .data, .data], laidTests := true, laidLooks := .later }
def TraitNamesUptoCardSaid : Prop := Claim7.holds Tryd.pinned (.plain (OpenSpec.upto traitNamesSpec)) traitNamesUptoCard

/-- THE SECOND FORM's CARD OF 'gambitlaw04.TraitKnown'. -/
def traitKnownUptoCard : Claim7 := { stood := { row := traitKnownUptoRow, standIns := [], harness := (true, "fa7b7c1f4d6f623c4b9ade689f60acde3ae6ae2600e7adbe7aed3c414744ecbc"), looks := false }, kinds := [], alts := [], laidByText := true, laidKinds := [.data, .data, .data, .data], laidTests := true, laidLooks := .later }
def TraitKnownUptoCardSaid : Prop := Claim7.holds Tryd.pinned (.plain (OpenSpec.upto traitKnownSpec)) traitKnownUptoCard
end Rows
end Go.Proofs.YtpnbblimmkdaiaaDoor
