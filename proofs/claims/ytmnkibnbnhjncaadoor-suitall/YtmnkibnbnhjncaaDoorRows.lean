/-
  NARROWER THAN 'FOR EVERY INPUT', by the rows' own cells (each row's printed sentence says how): SuitTells: laid · SuitNames: laid · SuitAll: laid · SuitRound: laid.
  DERIVED. THE GIVEN ROWS OF THIS SEAT. 4 by the template 'for every input the law returns true; each argument reads behind the call as it read before'; 0 by the template 'total and deterministic' (their statements: YtmnkibnbnhjncaaDoorTotals.lean).
  GIVEN WITH THE SEED: the statements are not yours to turn. If you find one false, say at which input.
  Laid BY PROGRAM, IN A SANDBOX (cutbox-rows.mjs): the forced cells as the released guide's own fill.sh prints them over the translation 7ba8cc9f1238ad02… (all of the seat's roots in one cut). By AI agents, Wed Nov 11 2026. No macro, syntax, notation, axiom, sorry.
-/
import Derived.Test.YtmnkibnbnhjncaaDoorChecked
import GoSem.Claim
import GoSem.ClaimJoined
import GoSem.ClaimMapViews
import Derived.JoinedTies
import Derived.KernelRfl
namespace Go.Proofs.YtmnkibnbnhjncaaDoor
/- THE CELL 'sum', in the pinned program and in every row, IS THE sha256 OF THE DUMP (.gsa) THAT YtmnkibnbnhjncaaDoorProg.lean LOADS. Nothing in Lean hashes anything: it is a label: what it is worth is what the hold of that sum in a sandbox is worth. -/
noncomputable def Tryd.pinned : Pinned := { name := "ytmnkibnbnhjncaadoor", sum := "7ba8cc9f1238ad02e03a1f5fe953114ebdcce7d1406999024fc2b18533eb4c10", checked := Tryd.checked }
namespace Rows
def none {H : Type} : Left H := { results := [], args := [] }

/- WHAT THE LISTED PACKAGE-LEVEL VARIABLES READ AS WHEN THE CALL BEGINS. Each datum BY PROGRAM (the guide's laid-datum.mjs) off the statement by which the dump's own 'gosem.cut.vars' lays the variable. In a bare row this is a premise. The card (YtmnkibnbnhjncaaDoorCards.lean) ties it to the program's text. -/
def laid_gambit_suit_names {H : Type} : DataW H := .agg [.lit (.string []), .lit (.string [97, 105, 114]), .lit (.string [101, 97, 114, 116, 104]), .lit (.string [102, 105, 114, 101]), .lit (.string [119, 97, 116, 101, 114]), .lit (.string [118, 111, 105, 100]), .lit (.string [103, 111, 108, 100])]
def laid_gambit_suit_ring {H : Type} : DataW H := .agg [.lit (.int .u8 0), .lit (.int .u8 2), .lit (.int .u8 4), .lit (.int .u8 5), .lit (.int .u8 3), .lit (.int .u8 6), .lit (.int .u8 1)]

/-- 'gambitlaw03.SuitTells': WHATEVER THE INPUT: true; the input reads as it did. -/
def suitTellsSpec : ChangeSpec := { name := "suitTells", fn := fun _ => fun
  | [d1, d2] => { results := [.lit (.bool true)], args := [d1, d2] }
  | _ => none }
def suitTellsRow : OpenClaim := { program := "ytmnkibnbnhjncaadoor", sum := "7ba8cc9f1238ad02e03a1f5fe953114ebdcce7d1406999024fc2b18533eb4c10", func := "gambit/gambitlaw03.SuitTells", spec := "suitTells", unfollowed := true, recurses := true, named := ["gambit/suit.names", "gambit/suit.ring"], apart := false, laid := [("gambit/suit.names", laid_gambit_suit_names), ("gambit/suit.ring", laid_gambit_suit_ring)] }
def SuitTellsSaid : Prop := suitTellsRow.holds Tryd.pinned (OpenSpec.ofChange suitTellsSpec)

/-- ITS FALSE NEIGHBOUR: 'it returns false'. Refute it at one input. -/
def suitTellsWrong : ChangeSpec := { name := "suitTells", fn := fun _ => fun
  | [d1, d2] => { results := [.lit (.bool false)], args := [d1, d2] }
  | _ => none }
def SuitTellsWrongFalsely : Prop := suitTellsRow.holds Tryd.pinned (OpenSpec.ofChange suitTellsWrong)

/-- 'gambitlaw03.SuitNames': WHATEVER THE INPUT: true; the input reads as it did. -/
def suitNamesSpec : ChangeSpec := { name := "suitNames", fn := fun _ => fun
  | [] => { results := [.lit (.bool true)], args := [] }
  | _ => none }
def suitNamesRow : OpenClaim := { program := "ytmnkibnbnhjncaadoor", sum := "7ba8cc9f1238ad02e03a1f5fe953114ebdcce7d1406999024fc2b18533eb4c10", func := "gambit/gambitlaw03.SuitNames", spec := "suitNames", unfollowed := true, recurses := true, named := ["gambit/suit.names", "gambit/suit.ring"], apart := false, laid := [("gambit/suit.names", laid_gambit_suit_names), ("gambit/suit.ring", laid_gambit_suit_ring)] }
def SuitNamesSaid : Prop := suitNamesRow.holds Tryd.pinned (OpenSpec.ofChange suitNamesSpec)

/-- ITS FALSE NEIGHBOUR: 'it returns false'. Refute it at one input. -/
def suitNamesWrong : ChangeSpec := { name := "suitNames", fn := fun _ => fun
  | [] => { results := [.lit (.bool false)], args := [] }
  | _ => none }
def SuitNamesWrongFalsely : Prop := suitNamesRow.holds Tryd.pinned (OpenSpec.ofChange suitNamesWrong)

/-- 'gambitlaw03.SuitAll': WHATEVER THE INPUT: true; the input reads as it did. -/
def suitAllSpec : ChangeSpec := { name := "suitAll", fn := fun _ => fun
  | [d] => { results := [.lit (.bool true)], args := [d] }
  | _ => none }
def suitAllRow : OpenClaim := { program := "ytmnkibnbnhjncaadoor", sum := "7ba8cc9f1238ad02e03a1f5fe953114ebdcce7d1406999024fc2b18533eb4c10", func := "gambit/gambitlaw03.SuitAll", spec := "suitAll", unfollowed := true, recurses := true, named := ["gambit/suit.names", "gambit/suit.ring"], apart := false, laid := [("gambit/suit.names", laid_gambit_suit_names), ("gambit/suit.ring", laid_gambit_suit_ring)] }
def SuitAllSaid : Prop := suitAllRow.holds Tryd.pinned (OpenSpec.ofChange suitAllSpec)

/-- ITS FALSE NEIGHBOUR: 'it returns false'. Refute it at one input. -/
def suitAllWrong : ChangeSpec := { name := "suitAll", fn := fun _ => fun
  | [d] => { results := [.lit (.bool false)], args := [d] }
  | _ => none }
def SuitAllWrongFalsely : Prop := suitAllRow.holds Tryd.pinned (OpenSpec.ofChange suitAllWrong)

/-- 'gambitlaw03.SuitRound': WHATEVER THE INPUT: true; the input reads as it did. -/
def suitRoundSpec : ChangeSpec := { name := "suitRound", fn := fun _ => fun
  | [d1, d2] => { results := [.lit (.bool true)], args := [d1, d2] }
  | _ => none }
def suitRoundRow : OpenClaim := { program := "ytmnkibnbnhjncaadoor", sum := "7ba8cc9f1238ad02e03a1f5fe953114ebdcce7d1406999024fc2b18533eb4c10", func := "gambit/gambitlaw03.SuitRound", spec := "suitRound", unfollowed := true, recurses := true, named := ["gambit/suit.names", "gambit/suit.ring"], apart := false, laid := [("gambit/suit.names", laid_gambit_suit_names), ("gambit/suit.ring", laid_gambit_suit_ring)] }
def SuitRoundSaid : Prop := suitRoundRow.holds Tryd.pinned (OpenSpec.ofChange suitRoundSpec)

/-- ITS FALSE NEIGHBOUR: 'it returns false'. Refute it at one input. -/
def suitRoundWrong : ChangeSpec := { name := "suitRound", fn := fun _ => fun
  | [d1, d2] => { results := [.lit (.bool false)], args := [d1, d2] }
  | _ => none }
def SuitRoundWrongFalsely : Prop := suitRoundRow.holds Tryd.pinned (OpenSpec.ofChange suitRoundWrong)

/- THE SECOND FORM. 'bulk': how many values and letters a reading holds, each counted each time it is reached (what is shared counts as often as it is met; a slice's spare places count too). A statement '..UptoSaid' is the law's where the arguments, and the package variables that the reading takes, are together of bulk at most 1048576: NARROWER than '..Said'. Prove '..Said' where nothing that the law and all that it calls make is longer than what came in: it says more and counts as full. Else prove '..UptoSaid'. A law counts once. -/
mutual
def uptoBulk {H : Type} : DataW H → Nat
  | .lit (.string bytes) => bytes.length + 1
  | .lit _ => 1
  | .nil => 1
  | .ptr d => uptoBulk d + 1
  | .slice elems spare => uptoBulkAll elems + uptoBulkAll spare + 1
  | .agg parts => uptoBulkAll parts + 1
  | .iface _ d => uptoBulk d + 1
  | .map entries => uptoBulkEntries entries + 1
  | .held _ => 1
def uptoBulkAll {H : Type} : List (DataW H) → Nat
  | [] => 0
  | d :: r => uptoBulk d + uptoBulkAll r
def uptoBulkEntries {H : Type} : List (Lit × DataW H) → Nat
  | [] => 0
  | x :: r => uptoBulkEntry x + uptoBulkEntries r
def uptoBulkEntry {H : Type} : Lit × DataW H → Nat
  | (.string bytes, d) => bytes.length + uptoBulk d + 1
  | (_, d) => uptoBulk d + 1
 end
def uptoSmall : (H : Type) → List (DataW H) → Bool := fun _ ds => decide (uptoBulkAll ds ≤ 1048576)
def OpenSpec.upto (s : _root_.Go.ChangeSpec) : _root_.Go.OpenSpec := { _root_.Go.OpenSpec.ofChange s with cond := some uptoSmall }

/-- 'gambitlaw03.SuitTells', WHERE WHAT IT READS IS OF BULK AT MOST 1048576: true; the input reads as it did. -/
def suitTellsUptoRow : OpenClaim := { program := "ytmnkibnbnhjncaadoor", sum := "7ba8cc9f1238ad02e03a1f5fe953114ebdcce7d1406999024fc2b18533eb4c10", func := "gambit/gambitlaw03.SuitTells", spec := "suitTells", unfollowed := true, recurses := true, named := ["gambit/suit.names", "gambit/suit.ring"], apart := false, laid := [("gambit/suit.names", laid_gambit_suit_names), ("gambit/suit.ring", laid_gambit_suit_ring)], narrowed := true }
def SuitTellsUptoSaid : Prop := suitTellsUptoRow.holds Tryd.pinned (OpenSpec.upto suitTellsSpec)

/-- 'gambitlaw03.SuitNames', WHERE WHAT IT READS IS OF BULK AT MOST 1048576: true; the input reads as it did. -/
def suitNamesUptoRow : OpenClaim := { program := "ytmnkibnbnhjncaadoor", sum := "7ba8cc9f1238ad02e03a1f5fe953114ebdcce7d1406999024fc2b18533eb4c10", func := "gambit/gambitlaw03.SuitNames", spec := "suitNames", unfollowed := true, recurses := true, named := ["gambit/suit.names", "gambit/suit.ring"], apart := false, laid := [("gambit/suit.names", laid_gambit_suit_names), ("gambit/suit.ring", laid_gambit_suit_ring)], narrowed := true }
def SuitNamesUptoSaid : Prop := suitNamesUptoRow.holds Tryd.pinned (OpenSpec.upto suitNamesSpec)

/-- 'gambitlaw03.SuitAll', WHERE WHAT IT READS IS OF BULK AT MOST 1048576: true; the input reads as it did. -/
def suitAllUptoRow : OpenClaim := { program := "ytmnkibnbnhjncaadoor", sum := "7ba8cc9f1238ad02e03a1f5fe953114ebdcce7d1406999024fc2b18533eb4c10", func := "gambit/gambitlaw03.SuitAll", spec := "suitAll", unfollowed := true, recurses := true, named := ["gambit/suit.names", "gambit/suit.ring"], apart := false, laid := [("gambit/suit.names", laid_gambit_suit_names), ("gambit/suit.ring", laid_gambit_suit_ring)], narrowed := true }
def SuitAllUptoSaid : Prop := suitAllUptoRow.holds Tryd.pinned (OpenSpec.upto suitAllSpec)

/-- 'gambitlaw03.SuitRound', WHERE WHAT IT READS IS OF BULK AT MOST 1048576: true; the input reads as it did. -/
def suitRoundUptoRow : OpenClaim := { program := "ytmnkibnbnhjncaadoor", sum := "7ba8cc9f1238ad02e03a1f5fe953114ebdcce7d1406999024fc2b18533eb4c10", func := "gambit/gambitlaw03.SuitRound", spec := "suitRound", unfollowed := true, recurses := true, named := ["gambit/suit.names", "gambit/suit.ring"], apart := false, laid := [("gambit/suit.names", laid_gambit_suit_names), ("gambit/suit.ring", laid_gambit_suit_ring)], narrowed := true }
def SuitRoundUptoSaid : Prop := suitRoundUptoRow.holds Tryd.pinned (OpenSpec.upto suitRoundSpec)

end Rows
end Go.Proofs.YtmnkibnbnhjncaaDoor
