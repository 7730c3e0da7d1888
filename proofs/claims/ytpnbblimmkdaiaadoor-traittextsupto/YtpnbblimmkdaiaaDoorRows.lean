/-
  NARROWER THAN 'FOR EVERY INPUT', by the rows' own cells (each row's printed sentence says how): TraitSets: laid · TraitTexts: laid · TraitBits: laid · TraitBack: laid · TraitNames: laid · TraitKnown: laid.
  DERIVED. THE GIVEN ROWS OF THIS SEAT. 6 by the template 'for every input the law returns true; each argument reads behind the call as it read before'; 0 by the template 'total and deterministic' (their statements: YtpnbblimmkdaiaaDoorTotals.lean).
  GIVEN WITH THE SEED: the statements are not yours to turn. If you find one false, say at which input.
  Laid BY PROGRAM, IN A SANDBOX (cutbox-rows.mjs): the forced cells as the released guide's own fill.sh prints them over the translation 8423a88b8538634d… (all of the seat's roots in one cut). By AI agents, Wed Nov 11 2026. No macro, syntax, notation, axiom, sorry.
-/
import Derived.Test.YtpnbblimmkdaiaaDoorChecked
import GoSem.Claim
import GoSem.ClaimJoined
import GoSem.ClaimMapViews
import Derived.JoinedTies
import Derived.KernelRfl
namespace Go.Proofs.YtpnbblimmkdaiaaDoor
/- THE CELL 'sum', in the pinned program and in every row, IS THE sha256 OF THE DUMP (.gsa) THAT YtpnbblimmkdaiaaDoorProg.lean LOADS. Nothing in Lean hashes anything: it is a label: what it is worth is what the hold of that sum in a sandbox is worth. -/
noncomputable def Tryd.pinned : Pinned := { name := "ytpnbblimmkdaiaadoor", sum := "8423a88b8538634dfadf8a0e133e713f80e02ab402a0e3064fb39fa787415f1c", checked := Tryd.checked }
namespace Rows
def none {H : Type} : Left H := { results := [], args := [] }

/- WHAT THE LISTED PACKAGE-LEVEL VARIABLES READ AS WHEN THE CALL BEGINS. Each datum BY PROGRAM (the guide's laid-datum.mjs) off the statement by which the dump's own 'gosem.cut.vars' lays the variable. In a bare row this is a premise. The card (YtpnbblimmkdaiaaDoorCards.lean) ties it to the program's text. -/
def laid_gambit_suit_names {H : Type} : DataW H := .agg [.lit (.string []), .lit (.string [97, 105, 114]), .lit (.string [101, 97, 114, 116, 104]), .lit (.string [102, 105, 114, 101]), .lit (.string [119, 97, 116, 101, 114]), .lit (.string [118, 111, 105, 100]), .lit (.string [103, 111, 108, 100])]
def laid_gambit_trait_names {H : Type} : DataW H := .agg [.lit (.string []), .lit (.string [102, 97, 115, 116]), .lit (.string [103, 117, 97, 114, 100]), .lit (.string [118, 101, 110, 111, 109]), .lit (.string [108, 111, 110, 101]), .lit (.string [100, 114, 97, 105, 110]), .lit (.string [109, 117, 116, 101]), .lit (.string [102, 105, 120, 101, 100]), .lit (.string [115, 119, 105, 102, 116])]
def laid_gambit_trait_homes {H : Type} : DataW H := .agg [.lit (.int .u8 0), .lit (.int .u8 1), .lit (.int .u8 2), .lit (.int .u8 3), .lit (.int .u8 4), .lit (.int .u8 4), .lit (.int .u8 5), .lit (.int .u8 6), .lit (.int .u8 1)]
def laid_gambit_trait_rules {H : Type} : DataW H := .agg [.lit (.string []), .lit (.string [109, 97, 121, 32, 115, 116, 114, 105, 107, 101, 32, 111, 110, 32, 116, 104, 101, 32, 116, 117, 114, 110, 32, 111, 110, 32, 119, 104, 105, 99, 104, 32, 105, 116, 32, 99, 97, 109, 101]), .lit (.string [105, 115, 32, 115, 116, 114, 117, 99, 107, 32, 97, 104, 101, 97, 100, 32, 111, 102, 32, 97, 108, 108, 32, 116, 104, 97, 116, 32, 105, 115, 32, 110, 111, 32, 103, 117, 97, 114, 100]), .lit (.string [119, 104, 97, 116, 101, 118, 101, 114, 32, 105, 116, 32, 104, 97, 114, 109, 115, 32, 98, 114, 101, 97, 107, 115]), .lit (.string [99, 97, 110, 110, 111, 116, 32, 98, 101, 32, 109, 101, 97, 110, 116, 32, 98, 121, 32, 116, 104, 101, 32, 102, 111, 101]), .lit (.string [119, 104, 97, 116, 32, 105, 116, 32, 104, 97, 114, 109, 115, 32, 109, 101, 110, 100, 115, 32, 105, 116, 115, 32, 104, 111, 108, 100, 101, 114]), .lit (.string [105, 116, 115, 32, 99, 97, 114, 100, 39, 115, 32, 112, 97, 114, 116, 115, 32, 99, 111, 117, 110, 116, 32, 102, 111, 114, 32, 110, 111, 116, 104, 105, 110, 103]), .lit (.string [99, 97, 110, 110, 111, 116, 32, 115, 116, 114, 105, 107, 101]), .lit (.string [115, 116, 114, 105, 107, 101, 115, 32, 97, 32, 115, 101, 99, 111, 110, 100, 32, 116, 105, 109, 101, 32, 101, 97, 99, 104, 32, 116, 117, 114, 110])]

/-- 'gambitlaw04.TraitSets': WHATEVER THE INPUT: true; the input reads as it did. -/
def traitSetsSpec : ChangeSpec := { name := "traitSets", fn := fun _ => fun
  | [d1, d2] => { results := [.lit (.bool true)], args := [d1, d2] }
  | _ => none }
def traitSetsRow : OpenClaim := { program := "ytpnbblimmkdaiaadoor", sum := "8423a88b8538634dfadf8a0e133e713f80e02ab402a0e3064fb39fa787415f1c", func := "gambit/gambitlaw04.TraitSets", spec := "traitSets", inPlace := ["internal/abi.NoEscape", "internal/bytealg.MakeNoZero"], named := ["gambit/trait.names", "gambit/trait.homes", "gambit/trait.rules", "gambit/suit.names"], apart := false, laid := [("gambit/suit.names", laid_gambit_suit_names), ("gambit/trait.names", laid_gambit_trait_names), ("gambit/trait.homes", laid_gambit_trait_homes), ("gambit/trait.rules", laid_gambit_trait_rules)] }
def TraitSetsSaid : Prop := traitSetsRow.holds Tryd.pinned (OpenSpec.ofChange traitSetsSpec)

/-- ITS FALSE NEIGHBOUR: 'it returns false'. Refute it at one input. -/
def traitSetsWrong : ChangeSpec := { name := "traitSets", fn := fun _ => fun
  | [d1, d2] => { results := [.lit (.bool false)], args := [d1, d2] }
  | _ => none }
def TraitSetsWrongFalsely : Prop := traitSetsRow.holds Tryd.pinned (OpenSpec.ofChange traitSetsWrong)

/-- 'gambitlaw04.TraitTexts': WHATEVER THE INPUT: true; the input reads as it did. -/
def traitTextsSpec : ChangeSpec := { name := "traitTexts", fn := fun _ => fun
  | [d] => { results := [.lit (.bool true)], args := [d] }
  | _ => none }
def traitTextsRow : OpenClaim := { program := "ytpnbblimmkdaiaadoor", sum := "8423a88b8538634dfadf8a0e133e713f80e02ab402a0e3064fb39fa787415f1c", func := "gambit/gambitlaw04.TraitTexts", spec := "traitTexts", inPlace := ["internal/bytealg.IndexByteString", "internal/bytealg.IndexString", "internal/abi.NoEscape", "internal/bytealg.MakeNoZero"], named := ["gambit/trait.names", "internal/bytealg.MaxLen", "gambit/trait.homes", "gambit/trait.rules", "gambit/suit.names"], apart := false, laid := [("gambit/suit.names", laid_gambit_suit_names), ("gambit/trait.names", laid_gambit_trait_names), ("gambit/trait.homes", laid_gambit_trait_homes), ("gambit/trait.rules", laid_gambit_trait_rules)] }
def TraitTextsSaid : Prop := traitTextsRow.holds Tryd.pinned (OpenSpec.ofChange traitTextsSpec)

/-- ITS FALSE NEIGHBOUR: 'it returns false'. Refute it at one input. -/
def traitTextsWrong : ChangeSpec := { name := "traitTexts", fn := fun _ => fun
  | [d] => { results := [.lit (.bool false)], args := [d] }
  | _ => none }
def TraitTextsWrongFalsely : Prop := traitTextsRow.holds Tryd.pinned (OpenSpec.ofChange traitTextsWrong)

/-- 'gambitlaw04.TraitBits': WHATEVER THE INPUT: true; the input reads as it did. -/
def traitBitsSpec : ChangeSpec := { name := "traitBits", fn := fun _ => fun
  | [d1, d2, d3, d4] => { results := [.lit (.bool true)], args := [d1, d2, d3, d4] }
  | _ => none }
def traitBitsRow : OpenClaim := { program := "ytpnbblimmkdaiaadoor", sum := "8423a88b8538634dfadf8a0e133e713f80e02ab402a0e3064fb39fa787415f1c", func := "gambit/gambitlaw04.TraitBits", spec := "traitBits", inPlace := ["internal/bytealg.IndexByteString", "internal/bytealg.IndexString", "internal/abi.NoEscape", "internal/bytealg.MakeNoZero"], named := ["gambit/trait.names", "internal/bytealg.MaxLen", "gambit/trait.homes", "gambit/trait.rules", "gambit/suit.names"], apart := false, laid := [("gambit/suit.names", laid_gambit_suit_names), ("gambit/trait.names", laid_gambit_trait_names), ("gambit/trait.homes", laid_gambit_trait_homes), ("gambit/trait.rules", laid_gambit_trait_rules)] }
def TraitBitsSaid : Prop := traitBitsRow.holds Tryd.pinned (OpenSpec.ofChange traitBitsSpec)

/-- ITS FALSE NEIGHBOUR: 'it returns false'. Refute it at one input. -/
def traitBitsWrong : ChangeSpec := { name := "traitBits", fn := fun _ => fun
  | [d1, d2, d3, d4] => { results := [.lit (.bool false)], args := [d1, d2, d3, d4] }
  | _ => none }
def TraitBitsWrongFalsely : Prop := traitBitsRow.holds Tryd.pinned (OpenSpec.ofChange traitBitsWrong)

/-- 'gambitlaw04.TraitBack': WHATEVER THE INPUT: true; the input reads as it did. -/
def traitBackSpec : ChangeSpec := { name := "traitBack", fn := fun _ => fun
  | [d1, d2] => { results := [.lit (.bool true)], args := [d1, d2] }
  | _ => none }
def traitBackRow : OpenClaim := { program := "ytpnbblimmkdaiaadoor", sum := "8423a88b8538634dfadf8a0e133e713f80e02ab402a0e3064fb39fa787415f1c", func := "gambit/gambitlaw04.TraitBack", spec := "traitBack", inPlace := ["internal/bytealg.IndexByteString", "internal/bytealg.IndexString", "internal/abi.NoEscape", "internal/bytealg.MakeNoZero"], named := ["gambit/trait.names", "internal/bytealg.MaxLen", "gambit/trait.homes", "gambit/trait.rules", "gambit/suit.names"], apart := false, laid := [("gambit/suit.names", laid_gambit_suit_names), ("gambit/trait.names", laid_gambit_trait_names), ("gambit/trait.homes", laid_gambit_trait_homes), ("gambit/trait.rules", laid_gambit_trait_rules)] }
def TraitBackSaid : Prop := traitBackRow.holds Tryd.pinned (OpenSpec.ofChange traitBackSpec)

/-- ITS FALSE NEIGHBOUR: 'it returns false'. Refute it at one input. -/
def traitBackWrong : ChangeSpec := { name := "traitBack", fn := fun _ => fun
  | [d1, d2] => { results := [.lit (.bool false)], args := [d1, d2] }
  | _ => none }
def TraitBackWrongFalsely : Prop := traitBackRow.holds Tryd.pinned (OpenSpec.ofChange traitBackWrong)

/-- 'gambitlaw04.TraitNames': WHATEVER THE INPUT: true; the input reads as it did. -/
def traitNamesSpec : ChangeSpec := { name := "traitNames", fn := fun _ => fun
  | [] => { results := [.lit (.bool true)], args := [] }
  | _ => none }
def traitNamesRow : OpenClaim := { program := "ytpnbblimmkdaiaadoor", sum := "8423a88b8538634dfadf8a0e133e713f80e02ab402a0e3064fb39fa787415f1c", func := "gambit/gambitlaw04.TraitNames", spec := "traitNames", inPlace := ["internal/bytealg.IndexByteString", "internal/bytealg.IndexString", "internal/abi.NoEscape", "internal/bytealg.MakeNoZero"], named := ["gambit/trait.names", "gambit/trait.rules", "gambit/trait.homes", "gambit/suit.names", "internal/bytealg.MaxLen"], apart := false, laid := [("gambit/suit.names", laid_gambit_suit_names), ("gambit/trait.names", laid_gambit_trait_names), ("gambit/trait.homes", laid_gambit_trait_homes), ("gambit/trait.rules", laid_gambit_trait_rules)] }
def TraitNamesSaid : Prop := traitNamesRow.holds Tryd.pinned (OpenSpec.ofChange traitNamesSpec)

/-- ITS FALSE NEIGHBOUR: 'it returns false'. Refute it at one input. -/
def traitNamesWrong : ChangeSpec := { name := "traitNames", fn := fun _ => fun
  | [] => { results := [.lit (.bool false)], args := [] }
  | _ => none }
def TraitNamesWrongFalsely : Prop := traitNamesRow.holds Tryd.pinned (OpenSpec.ofChange traitNamesWrong)

/-- 'gambitlaw04.TraitKnown': WHATEVER THE INPUT: true; the input reads as it did. -/
def traitKnownSpec : ChangeSpec := { name := "traitKnown", fn := fun _ => fun
  | [] => { results := [.lit (.bool true)], args := [] }
  | _ => none }
def traitKnownRow : OpenClaim := { program := "ytpnbblimmkdaiaadoor", sum := "8423a88b8538634dfadf8a0e133e713f80e02ab402a0e3064fb39fa787415f1c", func := "gambit/gambitlaw04.TraitKnown", spec := "traitKnown", inPlace := ["internal/abi.NoEscape", "internal/bytealg.MakeNoZero", "internal/bytealg.IndexByteString", "internal/bytealg.IndexString"], named := ["gambit/trait.names", "internal/bytealg.MaxLen", "gambit/trait.homes", "gambit/trait.rules", "gambit/suit.names"], apart := false, laid := [("gambit/suit.names", laid_gambit_suit_names), ("gambit/trait.names", laid_gambit_trait_names), ("gambit/trait.homes", laid_gambit_trait_homes), ("gambit/trait.rules", laid_gambit_trait_rules)] }
def TraitKnownSaid : Prop := traitKnownRow.holds Tryd.pinned (OpenSpec.ofChange traitKnownSpec)

/-- ITS FALSE NEIGHBOUR: 'it returns false'. Refute it at one input. -/
def traitKnownWrong : ChangeSpec := { name := "traitKnown", fn := fun _ => fun
  | [] => { results := [.lit (.bool false)], args := [] }
  | _ => none }
def TraitKnownWrongFalsely : Prop := traitKnownRow.holds Tryd.pinned (OpenSpec.ofChange traitKnownWrong)

/- THE SECOND FORM. 'bulk': how many values and letters a reading holds, each counted each time it is reached (what is shared counts as often as it is met; a slice's spare places count too). A statement '..UptoSaid' is the law's where the arguments, and the package variables that the reading takes, are together of bulk at most 1048576: NARROWER than '..Said'. Prove '..Said' where nothing that the law and all that it calls make is longer than what came in: it says more and counts as full. Else prove '..UptoSaid'. A law counts once. -/
mutual
def uptoBulk {H : Type} : DataW H → Nat
  | .lit (.string bytes) => bytes.length + 1
  | .lit _ => 1
  | .nil => 1
  | .ptr d => uptoBulk d + 1
  | .slice elems spare => uptoBulkAll elems + uptoBulkAll spare + 1
  | .agg parts => uptoBulkAll parts + 1
  | .iface _ d => uptoBulk d + 1
  | .map entries => uptoBulkEntries entries + 1
  | .held _ => 1
def uptoBulkAll {H : Type} : List (DataW H) → Nat
  | [] => 0
  | d :: r => uptoBulk d + uptoBulkAll r
def uptoBulkEntries {H : Type} : List (Lit × DataW H) → Nat
  | [] => 0
  | x :: r => uptoBulkEntry x + uptoBulkEntries r
def uptoBulkEntry {H : Type} : Lit × DataW H → Nat
  | (.string bytes, d) => bytes.length + uptoBulk d + 1
  | (_, d) => uptoBulk d + 1
 end
def uptoSmall : (H : Type) → List (DataW H) → Bool := fun _ ds => decide (uptoBulkAll ds ≤ 1048576)
def OpenSpec.upto (s : _root_.Go.ChangeSpec) : _root_.Go.OpenSpec := { _root_.Go.OpenSpec.ofChange s with cond := some uptoSmall }

/-- 'gambitlaw04.TraitSets', WHERE WHAT IT READS IS OF BULK AT MOST 1048576: true; the input reads as it did. -/
def traitSetsUptoRow : OpenClaim := { program := "ytpnbblimmkdaiaadoor", sum := "8423a88b8538634dfadf8a0e133e713f80e02ab402a0e3064fb39fa787415f1c", func := "gambit/gambitlaw04.TraitSets", spec := "traitSets", inPlace := ["internal/abi.NoEscape", "internal/bytealg.MakeNoZero"], named := ["gambit/trait.names", "gambit/trait.homes", "gambit/trait.rules", "gambit/suit.names"], apart := false, laid := [("gambit/suit.names", laid_gambit_suit_names), ("gambit/trait.names", laid_gambit_trait_names), ("gambit/trait.homes", laid_gambit_trait_homes), ("gambit/trait.rules", laid_gambit_trait_rules)], narrowed := true }
def TraitSetsUptoSaid : Prop := traitSetsUptoRow.holds Tryd.pinned (OpenSpec.upto traitSetsSpec)

/-- 'gambitlaw04.TraitTexts', WHERE WHAT IT READS IS OF BULK AT MOST 1048576: true; the input reads as it did. -/
def traitTextsUptoRow : OpenClaim := { program := "ytpnbblimmkdaiaadoor", sum := "8423a88b8538634dfadf8a0e133e713f80e02ab402a0e3064fb39fa787415f1c", func := "gambit/gambitlaw04.TraitTexts", spec := "traitTexts", inPlace := ["internal/bytealg.IndexByteString", "internal/bytealg.IndexString", "internal/abi.NoEscape", "internal/bytealg.MakeNoZero"], named := ["gambit/trait.names", "internal/bytealg.MaxLen", "gambit/trait.homes", "gambit/trait.rules", "gambit/suit.names"], apart := false, laid := [("gambit/suit.names", laid_gambit_suit_names), ("gambit/trait.names", laid_gambit_trait_names), ("gambit/trait.homes", laid_gambit_trait_homes), ("gambit/trait.rules", laid_gambit_trait_rules)], narrowed := true }
def TraitTextsUptoSaid : Prop := traitTextsUptoRow.holds Tryd.pinned (OpenSpec.upto traitTextsSpec)

/-- 'gambitlaw04.TraitBits', WHERE WHAT IT READS IS OF BULK AT MOST 1048576: true; the input reads as it did. -/
def traitBitsUptoRow : OpenClaim := { program := "ytpnbblimmkdaiaadoor", sum := "8423a88b8538634dfadf8a0e133e713f80e02ab402a0e3064fb39fa787415f1c", func := "gambit/gambitlaw04.TraitBits", spec := "traitBits", inPlace := ["internal/bytealg.IndexByteString", "internal/bytealg.IndexString", "internal/abi.NoEscape", "internal/bytealg.MakeNoZero"], named := ["gambit/trait.names", "internal/bytealg.MaxLen", "gambit/trait.homes", "gambit/trait.rules", "gambit/suit.names"], apart := false, laid := [("gambit/suit.names", laid_gambit_suit_names), ("gambit/trait.names", laid_gambit_trait_names), ("gambit/trait.homes", laid_gambit_trait_homes), ("gambit/trait.rules", laid_gambit_trait_rules)], narrowed := true }
def TraitBitsUptoSaid : Prop := traitBitsUptoRow.holds Tryd.pinned (OpenSpec.upto traitBitsSpec)

/-- 'gambitlaw04.TraitBack', WHERE WHAT IT READS IS OF BULK AT MOST 1048576: true; the input reads as it did. -/
def traitBackUptoRow : OpenClaim := { program := "ytpnbblimmkdaiaadoor", sum := "8423a88b8538634dfadf8a0e133e713f80e02ab402a0e3064fb39fa787415f1c", func := "gambit/gambitlaw04.TraitBack", spec := "traitBack", inPlace := ["internal/bytealg.IndexByteString", "internal/bytealg.IndexString", "internal/abi.NoEscape", "internal/bytealg.MakeNoZero"], named := ["gambit/trait.names", "internal/bytealg.MaxLen", "gambit/trait.homes", "gambit/trait.rules", "gambit/suit.names"], apart := false, laid := [("gambit/suit.names", laid_gambit_suit_names), ("gambit/trait.names", laid_gambit_trait_names), ("gambit/trait.homes", laid_gambit_trait_homes), ("gambit/trait.rules", laid_gambit_trait_rules)], narrowed := true }
def TraitBackUptoSaid : Prop := traitBackUptoRow.holds Tryd.pinned (OpenSpec.upto traitBackSpec)

/-- 'gambitlaw04.TraitNames', WHERE WHAT IT READS IS OF BULK AT MOST 1048576: true; the input reads as it did. -/
def traitNamesUptoRow : OpenClaim := { program := "ytpnbblimmkdaiaadoor", sum := "8423a88b8538634dfadf8a0e133e713f80e02ab402a0e3064fb39fa787415f1c", func := "gambit/gambitlaw04.TraitNames", spec := "traitNames", inPlace := ["internal/bytealg.IndexByteString", "internal/bytealg.IndexString", "internal/abi.NoEscape", "internal/bytealg.MakeNoZero"], named := ["gambit/trait.names", "gambit/trait.rules", "gambit/trait.homes", "gambit/suit.names", "internal/bytealg.MaxLen"], apart := false, laid := [("gambit/suit.names", laid_gambit_suit_names), ("gambit/trait.names", laid_gambit_trait_names), ("gambit/trait.homes", laid_gambit_trait_homes), ("gambit/trait.rules", laid_gambit_trait_rules)], narrowed := true }
def TraitNamesUptoSaid : Prop := traitNamesUptoRow.holds Tryd.pinned (OpenSpec.upto traitNamesSpec)

/-- 'gambitlaw04.TraitKnown', WHERE WHAT IT READS IS OF BULK AT MOST 1048576: true; the input reads as it did. -/
def traitKnownUptoRow : OpenClaim := { program := "ytpnbblimmkdaiaadoor", sum := "8423a88b8538634dfadf8a0e133e713f80e02ab402a0e3064fb39fa787415f1c", func := "gambit/gambitlaw04.TraitKnown", spec := "traitKnown", inPlace := ["internal/abi.NoEscape", "internal/bytealg.MakeNoZero", "internal/bytealg.IndexByteString", "internal/bytealg.IndexString"], named := ["gambit/trait.names", "internal/bytealg.MaxLen", "gambit/trait.homes", "gambit/trait.rules", "gambit/suit.names"], apart := false, laid := [("gambit/suit.names", laid_gambit_suit_names), ("gambit/trait.names", laid_gambit_trait_names), ("gambit/trait.homes", laid_gambit_trait_homes), ("gambit/trait.rules", laid_gambit_trait_rules)], narrowed := true }
def TraitKnownUptoSaid : Prop := traitKnownUptoRow.holds Tryd.pinned (OpenSpec.upto traitKnownSpec)

end Rows
end Go.Proofs.YtpnbblimmkdaiaaDoor
