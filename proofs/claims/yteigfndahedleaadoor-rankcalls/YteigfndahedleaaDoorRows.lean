/-
  NARROWER THAN 'FOR EVERY INPUT', by the rows' own cells (each row's printed sentence says how): RankNames: laid · RankCalls: laid.
  DERIVED. THE GIVEN ROWS OF THIS SEAT. 2 by the template 'for every input the law returns true; each argument reads behind the call as it read before'; 0 by the template 'total and deterministic' (their statements: YteigfndahedleaaDoorTotals.lean).
  GIVEN WITH THE SEED: the statements are not yours to turn. If you find one false, say at which input.
  Laid BY PROGRAM, IN A SANDBOX (cutbox-rows.mjs): the forced cells as the released guide's own fill.sh prints them over the translation 1103eeb1a4bec5f9… (all of the seat's roots in one cut). By AI agents, Wed Nov 11 2026. No macro, syntax, notation, axiom, sorry.
-/
import Derived.Test.YteigfndahedleaaDoorChecked
import GoSem.Claim
import GoSem.ClaimJoined
import GoSem.ClaimMapViews
import Derived.JoinedTies
import Derived.KernelRfl
namespace Go.Proofs.YteigfndahedleaaDoor
/- THE CELL 'sum', in the pinned program and in every row, IS THE sha256 OF THE DUMP (.gsa) THAT YteigfndahedleaaDoorProg.lean LOADS. Nothing in Lean hashes anything: it is a label: what it is worth is what the hold of that sum in a sandbox is worth. -/
noncomputable def Tryd.pinned : Pinned := { name := "yteigfndahedleaadoor", sum := "1103eeb1a4bec5f9fa8c955a99c310a01e7ae3973ff59d73ea44cb4e97fc69d4", checked := Tryd.checked }
namespace Rows
def none {H : Type} : Left H := { results := [], args := [] }

/- WHAT THE LISTED PACKAGE-LEVEL VARIABLES READ AS WHEN THE CALL BEGINS. Each datum BY PROGRAM (the guide's laid-datum.mjs) off the statement by which the dump's own 'gosem.cut.vars' lays the variable. In a bare row this is a premise. The card (YteigfndahedleaaDoorCards.lean) ties it to the program's text. -/
def laid_gambit_rank_names {H : Type} : DataW H := .agg [.lit (.string [108, 111, 119]), .lit (.string [115, 116, 101, 112]), .lit (.string [109, 105, 100]), .lit (.string [104, 105, 103, 104]), .lit (.string [116, 111, 112])]

/-- 'gambitlaw02.RankNames': WHATEVER THE INPUT: true; the input reads as it did. -/
def rankNamesSpec : ChangeSpec := { name := "rankNames", fn := fun _ => fun
  | [] => { results := [.lit (.bool true)], args := [] }
  | _ => none }
def rankNamesRow : OpenClaim := { program := "yteigfndahedleaadoor", sum := "1103eeb1a4bec5f9fa8c955a99c310a01e7ae3973ff59d73ea44cb4e97fc69d4", func := "gambit/gambitlaw02.RankNames", spec := "rankNames", unfollowed := true, recurses := true, named := ["gambit/rank.names"], apart := false, laid := [("gambit/rank.names", laid_gambit_rank_names)] }
def RankNamesSaid : Prop := rankNamesRow.holds Tryd.pinned (OpenSpec.ofChange rankNamesSpec)

/-- ITS FALSE NEIGHBOUR: 'it returns false'. Refute it at one input. -/
def rankNamesWrong : ChangeSpec := { name := "rankNames", fn := fun _ => fun
  | [] => { results := [.lit (.bool false)], args := [] }
  | _ => none }
def RankNamesWrongFalsely : Prop := rankNamesRow.holds Tryd.pinned (OpenSpec.ofChange rankNamesWrong)

/-- 'gambitlaw02.RankCalls': WHATEVER THE INPUT: true; the input reads as it did. -/
def rankCallsSpec : ChangeSpec := { name := "rankCalls", fn := fun _ => fun
  | [d1, d2, d3] => { results := [.lit (.bool true)], args := [d1, d2, d3] }
  | _ => none }
def rankCallsRow : OpenClaim := { program := "yteigfndahedleaadoor", sum := "1103eeb1a4bec5f9fa8c955a99c310a01e7ae3973ff59d73ea44cb4e97fc69d4", func := "gambit/gambitlaw02.RankCalls", spec := "rankCalls", unfollowed := true, recurses := true, named := ["gambit/rank.names"], apart := false, laid := [("gambit/rank.names", laid_gambit_rank_names)] }
def RankCallsSaid : Prop := rankCallsRow.holds Tryd.pinned (OpenSpec.ofChange rankCallsSpec)

/-- ITS FALSE NEIGHBOUR: 'it returns false'. Refute it at one input. -/
def rankCallsWrong : ChangeSpec := { name := "rankCalls", fn := fun _ => fun
  | [d1, d2, d3] => { results := [.lit (.bool false)], args := [d1, d2, d3] }
  | _ => none }
def RankCallsWrongFalsely : Prop := rankCallsRow.holds Tryd.pinned (OpenSpec.ofChange rankCallsWrong)

/- THE SECOND FORM. 'bulk': how many values and letters a reading holds, each counted each time it is reached (what is shared counts as often as it is met; a slice's spare places count too). A statement '..UptoSaid' is the law's where the arguments, and the package variables that the reading takes, are together of bulk at most 1048576: NARROWER than '..Said'. Prove '..Said' where nothing that the law and all that it calls make is longer than what came in: it says more and counts as full. Else prove '..UptoSaid'. A law counts once. -/
mutual
def uptoBulk {H : Type} : DataW H → Nat
  | .lit (.string bytes) => bytes.length + 1
  | .lit _ => 1
  | .nil => 1
  | .ptr d => uptoBulk d + 1
  | .slice elems spare => uptoBulkAll elems + uptoBulkAll spare + 1
  | .agg parts => uptoBulkAll parts + 1
  | .iface _ d => uptoBulk d + 1
  | .map entries => uptoBulkEntries entries + 1
  | .held _ => 1
def uptoBulkAll {H : Type} : List (DataW H) → Nat
  | [] => 0
  | d :: r => uptoBulk d + uptoBulkAll r
def uptoBulkEntries {H : Type} : List (Lit × DataW H) → Nat
  | [] => 0
  | x :: r => uptoBulkEntry x + uptoBulkEntries r
def uptoBulkEntry {H : Type} : Lit × DataW H → Nat
  | (.string bytes, d) => bytes.length + uptoBulk d + 1
  | (_, d) => uptoBulk d + 1
 end
def uptoSmall : (H : Type) → List (DataW H) → Bool := fun _ ds => decide (uptoBulkAll ds ≤ 1048576)
def OpenSpec.upto (s : _root_.Go.ChangeSpec) : _root_.Go.OpenSpec := { _root_.Go.OpenSpec.ofChange s with cond := some uptoSmall }

/-- 'gambitlaw02.RankNames', WHERE WHAT IT READS IS OF BULK AT MOST 1048576: true; the input reads as it did. -/
def rankNamesUptoRow : OpenClaim := { program := "yteigfndahedleaadoor", sum := "1103eeb1a4bec5f9fa8c955a99c310a01e7ae3973ff59d73ea44cb4e97fc69d4", func := "gambit/gambitlaw02.RankNames", spec := "rankNames", unfollowed := true, recurses := true, named := ["gambit/rank.names"], apart := false, laid := [("gambit/rank.names", laid_gambit_rank_names)], narrowed := true }
def RankNamesUptoSaid : Prop := rankNamesUptoRow.holds Tryd.pinned (OpenSpec.upto rankNamesSpec)

/-- 'gambitlaw02.RankCalls', WHERE WHAT IT READS IS OF BULK AT MOST 1048576: true; the input reads as it did. -/
def rankCallsUptoRow : OpenClaim := { program := "yteigfndahedleaadoor", sum := "1103eeb1a4bec5f9fa8c955a99c310a01e7ae3973ff59d73ea44cb4e97fc69d4", func := "gambit/gambitlaw02.RankCalls", spec := "rankCalls", unfollowed := true, recurses := true, named := ["gambit/rank.names"], apart := false, laid := [("gambit/rank.names", laid_gambit_rank_names)], narrowed := true }
def RankCallsUptoSaid : Prop := rankCallsUptoRow.holds Tryd.pinned (OpenSpec.upto rankCallsSpec)

end Rows
end Go.Proofs.YteigfndahedleaaDoor
