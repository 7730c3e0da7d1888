/-
  No cell of these rows narrows 'for every input' (looked for: loops, veiled, ifaces, maps, wideKeys, modest, calm, conditions, laid).
  DERIVED. THE GIVEN ROWS OF THIS SEAT. 4 by the template 'for every input the law returns true; each argument reads behind the call as it read before'; 0 by the template 'total and deterministic' (their statements: YtldjfeodeodcmaaTotals.lean).
  GIVEN WITH THE SEED: the statements are not yours to turn. If you find one false, say at which input.
  Laid BY PROGRAM, IN A SANDBOX (cutbox-rows.mjs): the forced cells as the released guide's own fill.sh prints them over the translation 3f165811706ff864… (all of the seat's roots in one cut). By AI agents, Wed Nov 11 2026. No macro, syntax, notation, axiom, sorry.
-/
import Derived.Test.YtldjfeodeodcmaaChecked
import GoSem.Claim
import GoSem.ClaimJoined
import GoSem.ClaimMapViews
import Derived.JoinedTies
import Derived.KernelRfl
namespace Go.Proofs.Ytldjfeodeodcmaa
/- THE CELL 'sum', in the pinned program and in every row, IS THE sha256 OF THE DUMP (.gsa) THAT YtldjfeodeodcmaaProg.lean LOADS. Nothing in Lean hashes anything: it is a label: what it is worth is what the hold of that sum in a sandbox is worth. -/
noncomputable def Try.pinned : Pinned := { name := "ytldjfeodeodcmaa", sum := "3f165811706ff864623398631e974d2262f6640a7e3ee99abbaca28f1a5d6a4b", checked := Try.checked }
namespace Rows
def none {H : Type} : Left H := { results := [], args := [] }

/-- 'gambitlaw01.StartScript': WHATEVER THE INPUT: true; the input reads as it did. -/
def startScriptSpec : ChangeSpec := { name := "startScript", fn := fun _ => fun
  | [d] => { results := [.lit (.bool true)], args := [d] }
  | _ => none }
def startScriptRow : OpenClaim := { program := "ytldjfeodeodcmaa", sum := "3f165811706ff864623398631e974d2262f6640a7e3ee99abbaca28f1a5d6a4b", func := "gambit/gambitlaw01.StartScript", spec := "startScript", apart := false }
def StartScriptSaid : Prop := startScriptRow.holds Try.pinned (OpenSpec.ofChange startScriptSpec)

/-- ITS FALSE NEIGHBOUR: 'it returns false'. Refute it at one input. -/
def startScriptWrong : ChangeSpec := { name := "startScript", fn := fun _ => fun
  | [d] => { results := [.lit (.bool false)], args := [d] }
  | _ => none }
def StartScriptWrongFalsely : Prop := startScriptRow.holds Try.pinned (OpenSpec.ofChange startScriptWrong)

/-- 'gambitlaw01.StartNone': WHATEVER THE INPUT: true; the input reads as it did. -/
def startNoneSpec : ChangeSpec := { name := "startNone", fn := fun _ => fun
  | [d] => { results := [.lit (.bool true)], args := [d] }
  | _ => none }
def startNoneRow : OpenClaim := { program := "ytldjfeodeodcmaa", sum := "3f165811706ff864623398631e974d2262f6640a7e3ee99abbaca28f1a5d6a4b", func := "gambit/gambitlaw01.StartNone", spec := "startNone", apart := false }
def StartNoneSaid : Prop := startNoneRow.holds Try.pinned (OpenSpec.ofChange startNoneSpec)

/-- ITS FALSE NEIGHBOUR: 'it returns false'. Refute it at one input. -/
def startNoneWrong : ChangeSpec := { name := "startNone", fn := fun _ => fun
  | [d] => { results := [.lit (.bool false)], args := [d] }
  | _ => none }
def StartNoneWrongFalsely : Prop := startNoneRow.holds Try.pinned (OpenSpec.ofChange startNoneWrong)

/-- 'gambitlaw01.StartGrows': WHATEVER THE INPUT: true; the input reads as it did. -/
def startGrowsSpec : ChangeSpec := { name := "startGrows", fn := fun _ => fun
  | [d1, d2] => { results := [.lit (.bool true)], args := [d1, d2] }
  | _ => none }
def startGrowsRow : OpenClaim := { program := "ytldjfeodeodcmaa", sum := "3f165811706ff864623398631e974d2262f6640a7e3ee99abbaca28f1a5d6a4b", func := "gambit/gambitlaw01.StartGrows", spec := "startGrows", apart := false }
def StartGrowsSaid : Prop := startGrowsRow.holds Try.pinned (OpenSpec.ofChange startGrowsSpec)

/-- ITS FALSE NEIGHBOUR: 'it returns false'. Refute it at one input. -/
def startGrowsWrong : ChangeSpec := { name := "startGrows", fn := fun _ => fun
  | [d1, d2] => { results := [.lit (.bool false)], args := [d1, d2] }
  | _ => none }
def StartGrowsWrongFalsely : Prop := startGrowsRow.holds Try.pinned (OpenSpec.ofChange startGrowsWrong)

/-- 'gambitlaw01.StartKnown': WHATEVER THE INPUT: true; the input reads as it did. -/
def startKnownSpec : ChangeSpec := { name := "startKnown", fn := fun _ => fun
  | [] => { results := [.lit (.bool true)], args := [] }
  | _ => none }
def startKnownRow : OpenClaim := { program := "ytldjfeodeodcmaa", sum := "3f165811706ff864623398631e974d2262f6640a7e3ee99abbaca28f1a5d6a4b", func := "gambit/gambitlaw01.StartKnown", spec := "startKnown", apart := false }
def StartKnownSaid : Prop := startKnownRow.holds Try.pinned (OpenSpec.ofChange startKnownSpec)

/-- ITS FALSE NEIGHBOUR: 'it returns false'. Refute it at one input. -/
def startKnownWrong : ChangeSpec := { name := "startKnown", fn := fun _ => fun
  | [] => { results := [.lit (.bool false)], args := [] }
  | _ => none }
def StartKnownWrongFalsely : Prop := startKnownRow.holds Try.pinned (OpenSpec.ofChange startKnownWrong)

/- THE SECOND FORM. 'bulk': how many values and letters a reading holds, each counted each time it is reached (what is shared counts as often as it is met; a slice's spare places count too). A statement '..UptoSaid' is the law's where the arguments, and the package variables that the reading takes, are together of bulk at most 1048576: NARROWER than '..Said'. Prove '..Said' where nothing that the law and all that it calls make is longer than what came in: it says more and counts as full. Else prove '..UptoSaid'. A law counts once. -/
mutual
def uptoBulk {H : Type} : DataW H → Nat
  | .lit (.string bytes) => bytes.length + 1
  | .lit _ => 1
  | .nil => 1
  | .ptr d => uptoBulk d + 1
  | .slice elems spare => uptoBulkAll elems + uptoBulkAll spare + 1
  | .agg parts => uptoBulkAll parts + 1
  | .iface _ d => uptoBulk d + 1
  | .map entries => uptoBulkEntries entries + 1
  | .held _ => 1
def uptoBulkAll {H : Type} : List (DataW H) → Nat
  | [] => 0
  | d :: r => uptoBulk d + uptoBulkAll r
def uptoBulkEntries {H : Type} : List (Lit × DataW H) → Nat
  | [] => 0
  | x :: r => uptoBulkEntry x + uptoBulkEntries r
def uptoBulkEntry {H : Type} : Lit × DataW H → Nat
  | (.string bytes, d) => bytes.length + uptoBulk d + 1
  | (_, d) => uptoBulk d + 1
 end
def uptoSmall : (H : Type) → List (DataW H) → Bool := fun _ ds => decide (uptoBulkAll ds ≤ 1048576)
def OpenSpec.upto (s : _root_.Go.ChangeSpec) : _root_.Go.OpenSpec := { _root_.Go.OpenSpec.ofChange s with cond := some uptoSmall }

/-- 'gambitlaw01.StartScript', WHERE WHAT IT READS IS OF BULK AT MOST 1048576: true; the input reads as it did. -/
def startScriptUptoRow : OpenClaim := { program := "ytldjfeodeodcmaa", sum := "3f165811706ff864623398631e974d2262f6640a7e3ee99abbaca28f1a5d6a4b", func := "gambit/gambitlaw01.StartScript", spec := "startScript", apart := false, narrowed := true }
def StartScriptUptoSaid : Prop := startScriptUptoRow.holds Try.pinned (OpenSpec.upto startScriptSpec)

/-- 'gambitlaw01.StartNone', WHERE WHAT IT READS IS OF BULK AT MOST 1048576: true; the input reads as it did. -/
def startNoneUptoRow : OpenClaim := { program := "ytldjfeodeodcmaa", sum := "3f165811706ff864623398631e974d2262f6640a7e3ee99abbaca28f1a5d6a4b", func := "gambit/gambitlaw01.StartNone", spec := "startNone", apart := false, narrowed := true }
def StartNoneUptoSaid : Prop := startNoneUptoRow.holds Try.pinned (OpenSpec.upto startNoneSpec)

/-- 'gambitlaw01.StartGrows', WHERE WHAT IT READS IS OF BULK AT MOST 1048576: true; the input reads as it did. -/
def startGrowsUptoRow : OpenClaim := { program := "ytldjfeodeodcmaa", sum := "3f165811706ff864623398631e974d2262f6640a7e3ee99abbaca28f1a5d6a4b", func := "gambit/gambitlaw01.StartGrows", spec := "startGrows", apart := false, narrowed := true }
def StartGrowsUptoSaid : Prop := startGrowsUptoRow.holds Try.pinned (OpenSpec.upto startGrowsSpec)

/-- 'gambitlaw01.StartKnown', WHERE WHAT IT READS IS OF BULK AT MOST 1048576: true; the input reads as it did. -/
def startKnownUptoRow : OpenClaim := { program := "ytldjfeodeodcmaa", sum := "3f165811706ff864623398631e974d2262f6640a7e3ee99abbaca28f1a5d6a4b", func := "gambit/gambitlaw01.StartKnown", spec := "startKnown", apart := false, narrowed := true }
def StartKnownUptoSaid : Prop := startKnownUptoRow.holds Try.pinned (OpenSpec.upto startKnownSpec)

end Rows
end Go.Proofs.Ytldjfeodeodcmaa
