/-
  NARROWER THAN 'FOR EVERY INPUT', by the rows' own cells (each row's printed sentence says how): WholeNames: laid · WholeStands: laid · WholeTells: laid · WholeAgain: laid · WholeBegins: laid.
  DERIVED. THE GIVEN ROWS OF THIS SEAT. 5 by the template 'for every input the law returns true; each argument reads behind the call as it read before'; 0 by the template 'total and deterministic' (their statements: YtknlcjhcamhfmaaGreatDoorTotals.lean).
  GIVEN WITH THE SEED: the statements are not yours to turn. If you find one false, say at which input.
  Laid BY PROGRAM, IN A SANDBOX (cutbox-rows.mjs): the forced cells as the released guide's own fill.sh prints them over the translation 3570711502fd9b74… (all of the seat's roots in one cut). By AI agents, Wed Nov 11 2026. No macro, syntax, notation, axiom, sorry.
-/
import Derived.Test.YtknlcjhcamhfmaaGreatDoorChecked
import GoSem.Claim
import GoSem.ClaimJoined
import GoSem.ClaimMapViews
import Derived.JoinedTies
import Derived.KernelRfl
namespace Go.Proofs.YtknlcjhcamhfmaaGreatDoor
/- THE CELL 'sum', in the pinned program and in every row, IS THE sha256 OF THE DUMP (.gsa) THAT YtknlcjhcamhfmaaGreatDoorProg.lean LOADS. Nothing in Lean hashes anything: it is a label: what it is worth is what the hold of that sum in a sandbox is worth. -/
noncomputable def Tryz.pinned : Pinned := { name := "ytknlcjhcamhfmaagreatdoor", sum := "3570711502fd9b745fd1f39f56ec1930b9dedc949f5a8eda0499273c28fe1c2d", checked := Tryz.checked }
namespace Rows
def none {H : Type} : Left H := { results := [], args := [] }

/- WHAT THE LISTED PACKAGE-LEVEL VARIABLES READ AS WHEN THE CALL BEGINS. Each datum BY PROGRAM (the guide's laid-datum.mjs) off the statement by which the dump's own 'gosem.cut.vars' lays the variable. In a bare row this is a premise. The card (YtknlcjhcamhfmaaGreatDoorCards.lean) ties it to the program's text. -/
def laid_gambit_trait_names {H : Type} : DataW H := .agg [.lit (.string []), .lit (.string [102, 97, 115, 116]), .lit (.string [103, 117, 97, 114, 100]), .lit (.string [118, 101, 110, 111, 109]), .lit (.string [108, 111, 110, 101]), .lit (.string [100, 114, 97, 105, 110]), .lit (.string [109, 117, 116, 101]), .lit (.string [102, 105, 120, 101, 100]), .lit (.string [115, 119, 105, 102, 116])]

/-- 'gambitlaw14.WholeNames': WHATEVER THE INPUT: true; the input reads as it did. -/
def wholeNamesSpec : ChangeSpec := { name := "wholeNames", fn := fun _ => fun
  | [] => { results := [.lit (.bool true)], args := [] }
  | _ => none }
def wholeNamesRow : OpenClaim := { program := "ytknlcjhcamhfmaagreatdoor", sum := "3570711502fd9b745fd1f39f56ec1930b9dedc949f5a8eda0499273c28fe1c2d", func := "gambit/gambitlaw14.WholeNames", spec := "wholeNames", unfollowed := true, recurses := true, named := ["gambit/trait.names"], apart := false, laid := [("gambit/trait.names", laid_gambit_trait_names)] }
def WholeNamesSaid : Prop := wholeNamesRow.holds Tryz.pinned (OpenSpec.ofChange wholeNamesSpec)

/-- ITS FALSE NEIGHBOUR: 'it returns false'. Refute it at one input. -/
def wholeNamesWrong : ChangeSpec := { name := "wholeNames", fn := fun _ => fun
  | [] => { results := [.lit (.bool false)], args := [] }
  | _ => none }
def WholeNamesWrongFalsely : Prop := wholeNamesRow.holds Tryz.pinned (OpenSpec.ofChange wholeNamesWrong)

/-- 'gambitlaw14.WholeStands': WHATEVER THE INPUT: true; the input reads as it did. -/
def wholeStandsSpec : ChangeSpec := { name := "wholeStands", fn := fun _ => fun
  | [] => { results := [.lit (.bool true)], args := [] }
  | _ => none }
def wholeStandsRow : OpenClaim := { program := "ytknlcjhcamhfmaagreatdoor", sum := "3570711502fd9b745fd1f39f56ec1930b9dedc949f5a8eda0499273c28fe1c2d", func := "gambit/gambitlaw14.WholeStands", spec := "wholeStands", unfollowed := true, recurses := true, named := ["gambit/trait.names"], apart := false, laid := [("gambit/trait.names", laid_gambit_trait_names)] }
def WholeStandsSaid : Prop := wholeStandsRow.holds Tryz.pinned (OpenSpec.ofChange wholeStandsSpec)

/-- ITS FALSE NEIGHBOUR: 'it returns false'. Refute it at one input. -/
def wholeStandsWrong : ChangeSpec := { name := "wholeStands", fn := fun _ => fun
  | [] => { results := [.lit (.bool false)], args := [] }
  | _ => none }
def WholeStandsWrongFalsely : Prop := wholeStandsRow.holds Tryz.pinned (OpenSpec.ofChange wholeStandsWrong)

/-- 'gambitlaw14.WholeTells': WHATEVER THE INPUT: true; the input reads as it did. -/
def wholeTellsSpec : ChangeSpec := { name := "wholeTells", fn := fun _ => fun
  | [] => { results := [.lit (.bool true)], args := [] }
  | _ => none }
def wholeTellsRow : OpenClaim := { program := "ytknlcjhcamhfmaagreatdoor", sum := "3570711502fd9b745fd1f39f56ec1930b9dedc949f5a8eda0499273c28fe1c2d", func := "gambit/gambitlaw14.WholeTells", spec := "wholeTells", unfollowed := true, recurses := true, named := ["gambit/trait.names"], apart := false, laid := [("gambit/trait.names", laid_gambit_trait_names)] }
def WholeTellsSaid : Prop := wholeTellsRow.holds Tryz.pinned (OpenSpec.ofChange wholeTellsSpec)

/-- ITS FALSE NEIGHBOUR: 'it returns false'. Refute it at one input. -/
def wholeTellsWrong : ChangeSpec := { name := "wholeTells", fn := fun _ => fun
  | [] => { results := [.lit (.bool false)], args := [] }
  | _ => none }
def WholeTellsWrongFalsely : Prop := wholeTellsRow.holds Tryz.pinned (OpenSpec.ofChange wholeTellsWrong)

/-- 'gambitlaw14.WholeAgain': WHATEVER THE INPUT: true; the input reads as it did. -/
def wholeAgainSpec : ChangeSpec := { name := "wholeAgain", fn := fun _ => fun
  | [d1, d2] => { results := [.lit (.bool true)], args := [d1, d2] }
  | _ => none }
def wholeAgainRow : OpenClaim := { program := "ytknlcjhcamhfmaagreatdoor", sum := "3570711502fd9b745fd1f39f56ec1930b9dedc949f5a8eda0499273c28fe1c2d", func := "gambit/gambitlaw14.WholeAgain", spec := "wholeAgain", unfollowed := true, recurses := true, named := ["gambit/trait.names"], apart := false, laid := [("gambit/trait.names", laid_gambit_trait_names)] }
def WholeAgainSaid : Prop := wholeAgainRow.holds Tryz.pinned (OpenSpec.ofChange wholeAgainSpec)

/-- ITS FALSE NEIGHBOUR: 'it returns false'. Refute it at one input. -/
def wholeAgainWrong : ChangeSpec := { name := "wholeAgain", fn := fun _ => fun
  | [d1, d2] => { results := [.lit (.bool false)], args := [d1, d2] }
  | _ => none }
def WholeAgainWrongFalsely : Prop := wholeAgainRow.holds Tryz.pinned (OpenSpec.ofChange wholeAgainWrong)

/-- 'gambitlaw14.WholeBegins': WHATEVER THE INPUT: true; the input reads as it did. -/
def wholeBeginsSpec : ChangeSpec := { name := "wholeBegins", fn := fun _ => fun
  | [d1, d2] => { results := [.lit (.bool true)], args := [d1, d2] }
  | _ => none }
def wholeBeginsRow : OpenClaim := { program := "ytknlcjhcamhfmaagreatdoor", sum := "3570711502fd9b745fd1f39f56ec1930b9dedc949f5a8eda0499273c28fe1c2d", func := "gambit/gambitlaw14.WholeBegins", spec := "wholeBegins", unfollowed := true, recurses := true, named := ["gambit/trait.names"], apart := false, laid := [("gambit/trait.names", laid_gambit_trait_names)] }
def WholeBeginsSaid : Prop := wholeBeginsRow.holds Tryz.pinned (OpenSpec.ofChange wholeBeginsSpec)

/-- ITS FALSE NEIGHBOUR: 'it returns false'. Refute it at one input. -/
def wholeBeginsWrong : ChangeSpec := { name := "wholeBegins", fn := fun _ => fun
  | [d1, d2] => { results := [.lit (.bool false)], args := [d1, d2] }
  | _ => none }
def WholeBeginsWrongFalsely : Prop := wholeBeginsRow.holds Tryz.pinned (OpenSpec.ofChange wholeBeginsWrong)

/- THE SECOND FORM. 'bulk': how many values and letters a reading holds, each counted each time it is reached (what is shared counts as often as it is met; a slice's spare places count too). A statement '..UptoSaid' is the law's where the arguments, and the package variables that the reading takes, are together of bulk at most 1048576: NARROWER than '..Said'. Prove '..Said' where nothing that the law and all that it calls make is longer than what came in: it says more and counts as full. Else prove '..UptoSaid'. A law counts once. -/
mutual
def uptoBulk {H : Type} : DataW H → Nat
  | .lit (.string bytes) => bytes.length + 1
  | .lit _ => 1
  | .nil => 1
  | .ptr d => uptoBulk d + 1
  | .slice elems spare => uptoBulkAll elems + uptoBulkAll spare + 1
  | .agg parts => uptoBulkAll parts + 1
  | .iface _ d => uptoBulk d + 1
  | .map entries => uptoBulkEntries entries + 1
  | .held _ => 1
def uptoBulkAll {H : Type} : List (DataW H) → Nat
  | [] => 0
  | d :: r => uptoBulk d + uptoBulkAll r
def uptoBulkEntries {H : Type} : List (Lit × DataW H) → Nat
  | [] => 0
  | x :: r => uptoBulkEntry x + uptoBulkEntries r
def uptoBulkEntry {H : Type} : Lit × DataW H → Nat
  | (.string bytes, d) => bytes.length + uptoBulk d + 1
  | (_, d) => uptoBulk d + 1
 end
def uptoSmall : (H : Type) → List (DataW H) → Bool := fun _ ds => decide (uptoBulkAll ds ≤ 1048576)
def OpenSpec.upto (s : _root_.Go.ChangeSpec) : _root_.Go.OpenSpec := { _root_.Go.OpenSpec.ofChange s with cond := some uptoSmall }

/-- 'gambitlaw14.WholeNames', WHERE WHAT IT READS IS OF BULK AT MOST 1048576: true; the input reads as it did. -/
def wholeNamesUptoRow : OpenClaim := { program := "ytknlcjhcamhfmaagreatdoor", sum := "3570711502fd9b745fd1f39f56ec1930b9dedc949f5a8eda0499273c28fe1c2d", func := "gambit/gambitlaw14.WholeNames", spec := "wholeNames", unfollowed := true, recurses := true, named := ["gambit/trait.names"], apart := false, laid := [("gambit/trait.names", laid_gambit_trait_names)], narrowed := true }
def WholeNamesUptoSaid : Prop := wholeNamesUptoRow.holds Tryz.pinned (OpenSpec.upto wholeNamesSpec)

/-- 'gambitlaw14.WholeStands', WHERE WHAT IT READS IS OF BULK AT MOST 1048576: true; the input reads as it did. -/
def wholeStandsUptoRow : OpenClaim := { program := "ytknlcjhcamhfmaagreatdoor", sum := "3570711502fd9b745fd1f39f56ec1930b9dedc949f5a8eda0499273c28fe1c2d", func := "gambit/gambitlaw14.WholeStands", spec := "wholeStands", unfollowed := true, recurses := true, named := ["gambit/trait.names"], apart := false, laid := [("gambit/trait.names", laid_gambit_trait_names)], narrowed := true }
def WholeStandsUptoSaid : Prop := wholeStandsUptoRow.holds Tryz.pinned (OpenSpec.upto wholeStandsSpec)

/-- 'gambitlaw14.WholeTells', WHERE WHAT IT READS IS OF BULK AT MOST 1048576: true; the input reads as it did. -/
def wholeTellsUptoRow : OpenClaim := { program := "ytknlcjhcamhfmaagreatdoor", sum := "3570711502fd9b745fd1f39f56ec1930b9dedc949f5a8eda0499273c28fe1c2d", func := "gambit/gambitlaw14.WholeTells", spec := "wholeTells", unfollowed := true, recurses := true, named := ["gambit/trait.names"], apart := false, laid := [("gambit/trait.names", laid_gambit_trait_names)], narrowed := true }
def WholeTellsUptoSaid : Prop := wholeTellsUptoRow.holds Tryz.pinned (OpenSpec.upto wholeTellsSpec)

/-- 'gambitlaw14.WholeAgain', WHERE WHAT IT READS IS OF BULK AT MOST 1048576: true; the input reads as it did. -/
def wholeAgainUptoRow : OpenClaim := { program := "ytknlcjhcamhfmaagreatdoor", sum := "3570711502fd9b745fd1f39f56ec1930b9dedc949f5a8eda0499273c28fe1c2d", func := "gambit/gambitlaw14.WholeAgain", spec := "wholeAgain", unfollowed := true, recurses := true, named := ["gambit/trait.names"], apart := false, laid := [("gambit/trait.names", laid_gambit_trait_names)], narrowed := true }
def WholeAgainUptoSaid : Prop := wholeAgainUptoRow.holds Tryz.pinned (OpenSpec.upto wholeAgainSpec)

/-- 'gambitlaw14.WholeBegins', WHERE WHAT IT READS IS OF BULK AT MOST 1048576: true; the input reads as it did. -/
def wholeBeginsUptoRow : OpenClaim := { program := "ytknlcjhcamhfmaagreatdoor", sum := "3570711502fd9b745fd1f39f56ec1930b9dedc949f5a8eda0499273c28fe1c2d", func := "gambit/gambitlaw14.WholeBegins", spec := "wholeBegins", unfollowed := true, recurses := true, named := ["gambit/trait.names"], apart := false, laid := [("gambit/trait.names", laid_gambit_trait_names)], narrowed := true }
def WholeBeginsUptoSaid : Prop := wholeBeginsUptoRow.holds Tryz.pinned (OpenSpec.upto wholeBeginsSpec)

end Rows
end Go.Proofs.YtknlcjhcamhfmaaGreatDoor
