/-
  No cell of these rows narrows 'for every input' (looked for: loops, veiled, ifaces, maps, wideKeys, modest, calm, conditions, laid).
  DERIVED. THE GIVEN ROWS OF THIS SEAT. 3 by the template 'for every input the law returns true; each argument reads behind the call as it read before'; 0 by the template 'total and deterministic' (their statements: YtjjldjmcbmkkdaaTotals.lean).
  GIVEN WITH THE SEED: the statements are not yours to turn. If you find one false, say at which input.
  Laid BY PROGRAM, IN A SANDBOX (cutbox-rows.mjs): the forced cells as the released guide's own fill.sh prints them over the translation 41846699a9996c9e… (all of the seat's roots in one cut). By AI agents, Wed Nov 11 2026. No macro, syntax, notation, axiom, sorry.
-/
import Derived.Test.YtjjldjmcbmkkdaaChecked
import GoSem.Claim
import GoSem.ClaimJoined
import GoSem.ClaimMapViews
import Derived.JoinedTies
import Derived.KernelRfl
namespace Go.Proofs.Ytjjldjmcbmkkdaa
/- THE CELL 'sum', in the pinned program and in every row, IS THE sha256 OF THE DUMP (.gsa) THAT YtjjldjmcbmkkdaaProg.lean LOADS. Nothing in Lean hashes anything: it is a label: what it is worth is what the hold of that sum in a sandbox is worth. -/
noncomputable def Try.pinned : Pinned := { name := "ytjjldjmcbmkkdaa", sum := "41846699a9996c9ed334dcf3c8d595bd7b4d2e05a7295d505eb130423e5a39fd", checked := Try.checked }
namespace Rows
def none {H : Type} : Left H := { results := [], args := [] }

/-- 'gambitlaw12.VoidTells': WHATEVER THE INPUT: true; the input reads as it did. -/
def voidTellsSpec : ChangeSpec := { name := "voidTells", fn := fun _ => fun
  | [] => { results := [.lit (.bool true)], args := [] }
  | _ => none }
def voidTellsRow : OpenClaim := { program := "ytjjldjmcbmkkdaa", sum := "41846699a9996c9ed334dcf3c8d595bd7b4d2e05a7295d505eb130423e5a39fd", func := "gambit/gambitlaw12.VoidTells", spec := "voidTells", recurses := true, apart := false }
def VoidTellsSaid : Prop := voidTellsRow.holds Try.pinned (OpenSpec.ofChange voidTellsSpec)

/-- ITS FALSE NEIGHBOUR: 'it returns false'. Refute it at one input. -/
def voidTellsWrong : ChangeSpec := { name := "voidTells", fn := fun _ => fun
  | [] => { results := [.lit (.bool false)], args := [] }
  | _ => none }
def VoidTellsWrongFalsely : Prop := voidTellsRow.holds Try.pinned (OpenSpec.ofChange voidTellsWrong)

/-- 'gambitlaw12.VoidNames': WHATEVER THE INPUT: true; the input reads as it did. -/
def voidNamesSpec : ChangeSpec := { name := "voidNames", fn := fun _ => fun
  | [] => { results := [.lit (.bool true)], args := [] }
  | _ => none }
def voidNamesRow : OpenClaim := { program := "ytjjldjmcbmkkdaa", sum := "41846699a9996c9ed334dcf3c8d595bd7b4d2e05a7295d505eb130423e5a39fd", func := "gambit/gambitlaw12.VoidNames", spec := "voidNames", apart := false }
def VoidNamesSaid : Prop := voidNamesRow.holds Try.pinned (OpenSpec.ofChange voidNamesSpec)

/-- ITS FALSE NEIGHBOUR: 'it returns false'. Refute it at one input. -/
def voidNamesWrong : ChangeSpec := { name := "voidNames", fn := fun _ => fun
  | [] => { results := [.lit (.bool false)], args := [] }
  | _ => none }
def VoidNamesWrongFalsely : Prop := voidNamesRow.holds Try.pinned (OpenSpec.ofChange voidNamesWrong)

/-- 'gambitlaw12.VoidBegins': WHATEVER THE INPUT: true; the input reads as it did. -/
def voidBeginsSpec : ChangeSpec := { name := "voidBegins", fn := fun _ => fun
  | [d1, d2] => { results := [.lit (.bool true)], args := [d1, d2] }
  | _ => none }
def voidBeginsRow : OpenClaim := { program := "ytjjldjmcbmkkdaa", sum := "41846699a9996c9ed334dcf3c8d595bd7b4d2e05a7295d505eb130423e5a39fd", func := "gambit/gambitlaw12.VoidBegins", spec := "voidBegins", apart := false }
def VoidBeginsSaid : Prop := voidBeginsRow.holds Try.pinned (OpenSpec.ofChange voidBeginsSpec)

/-- ITS FALSE NEIGHBOUR: 'it returns false'. Refute it at one input. -/
def voidBeginsWrong : ChangeSpec := { name := "voidBegins", fn := fun _ => fun
  | [d1, d2] => { results := [.lit (.bool false)], args := [d1, d2] }
  | _ => none }
def VoidBeginsWrongFalsely : Prop := voidBeginsRow.holds Try.pinned (OpenSpec.ofChange voidBeginsWrong)

/- THE SECOND FORM. 'bulk': how many values and letters a reading holds, each counted each time it is reached (what is shared counts as often as it is met; a slice's spare places count too). A statement '..UptoSaid' is the law's where the arguments, and the package variables that the reading takes, are together of bulk at most 1048576: NARROWER than '..Said'. Prove '..Said' where nothing that the law and all that it calls make is longer than what came in: it says more and counts as full. Else prove '..UptoSaid'. A law counts once. -/
mutual
def uptoBulk {H : Type} : DataW H → Nat
  | .lit (.string bytes) => bytes.length + 1
  | .lit _ => 1
  | .nil => 1
  | .ptr d => uptoBulk d + 1
  | .slice elems spare => uptoBulkAll elems + uptoBulkAll spare + 1
  | .agg parts => uptoBulkAll parts + 1
  | .iface _ d => uptoBulk d + 1
  | .map entries => uptoBulkEntries entries + 1
  | .held _ => 1
def uptoBulkAll {H : Type} : List (DataW H) → Nat
  | [] => 0
  | d :: r => uptoBulk d + uptoBulkAll r
def uptoBulkEntries {H : Type} : List (Lit × DataW H) → Nat
  | [] => 0
  | x :: r => uptoBulkEntry x + uptoBulkEntries r
def uptoBulkEntry {H : Type} : Lit × DataW H → Nat
  | (.string bytes, d) => bytes.length + uptoBulk d + 1
  | (_, d) => uptoBulk d + 1
 end
def uptoSmall : (H : Type) → List (DataW H) → Bool := fun _ ds => decide (uptoBulkAll ds ≤ 1048576)
def OpenSpec.upto (s : _root_.Go.ChangeSpec) : _root_.Go.OpenSpec := { _root_.Go.OpenSpec.ofChange s with cond := some uptoSmall }

/-- 'gambitlaw12.VoidTells', WHERE WHAT IT READS IS OF BULK AT MOST 1048576: true; the input reads as it did. -/
def voidTellsUptoRow : OpenClaim := { program := "ytjjldjmcbmkkdaa", sum := "41846699a9996c9ed334dcf3c8d595bd7b4d2e05a7295d505eb130423e5a39fd", func := "gambit/gambitlaw12.VoidTells", spec := "voidTells", recurses := true, apart := false, narrowed := true }
def VoidTellsUptoSaid : Prop := voidTellsUptoRow.holds Try.pinned (OpenSpec.upto voidTellsSpec)

/-- 'gambitlaw12.VoidNames', WHERE WHAT IT READS IS OF BULK AT MOST 1048576: true; the input reads as it did. -/
def voidNamesUptoRow : OpenClaim := { program := "ytjjldjmcbmkkdaa", sum := "41846699a9996c9ed334dcf3c8d595bd7b4d2e05a7295d505eb130423e5a39fd", func := "gambit/gambitlaw12.VoidNames", spec := "voidNames", apart := false, narrowed := true }
def VoidNamesUptoSaid : Prop := voidNamesUptoRow.holds Try.pinned (OpenSpec.upto voidNamesSpec)

/-- 'gambitlaw12.VoidBegins', WHERE WHAT IT READS IS OF BULK AT MOST 1048576: true; the input reads as it did. -/
def voidBeginsUptoRow : OpenClaim := { program := "ytjjldjmcbmkkdaa", sum := "41846699a9996c9ed334dcf3c8d595bd7b4d2e05a7295d505eb130423e5a39fd", func := "gambit/gambitlaw12.VoidBegins", spec := "voidBegins", apart := false, narrowed := true }
def VoidBeginsUptoSaid : Prop := voidBeginsUptoRow.holds Try.pinned (OpenSpec.upto voidBeginsSpec)

end Rows
end Go.Proofs.Ytjjldjmcbmkkdaa
