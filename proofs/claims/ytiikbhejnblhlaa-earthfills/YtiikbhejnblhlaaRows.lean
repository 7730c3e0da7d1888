/-
  No cell of these rows narrows 'for every input' (looked for: loops, veiled, ifaces, maps, wideKeys, modest, calm, conditions, laid).
  DERIVED. THE GIVEN ROWS OF THIS SEAT. 4 by the template 'for every input the law returns true; each argument reads behind the call as it read before'; 0 by the template 'total and deterministic' (their statements: YtiikbhejnblhlaaTotals.lean).
  GIVEN WITH THE SEED: the statements are not yours to turn. If you find one false, say at which input.
  Laid BY PROGRAM, IN A SANDBOX (cutbox-rows.mjs): the forced cells as the released guide's own fill.sh prints them over the translation ccf0f1284175cb63… (all of the seat's roots in one cut). By AI agents, Wed Nov 11 2026. No macro, syntax, notation, axiom, sorry.
-/
import Derived.Test.YtiikbhejnblhlaaChecked
import GoSem.Claim
import GoSem.ClaimJoined
import GoSem.ClaimMapViews
import Derived.JoinedTies
import Derived.KernelRfl
namespace Go.Proofs.Ytiikbhejnblhlaa
/- THE CELL 'sum', in the pinned program and in every row, IS THE sha256 OF THE DUMP (.gsa) THAT YtiikbhejnblhlaaProg.lean LOADS. Nothing in Lean hashes anything: it is a label: what it is worth is what the hold of that sum in a sandbox is worth. -/
noncomputable def Try.pinned : Pinned := { name := "ytiikbhejnblhlaa", sum := "ccf0f1284175cb63fe4f27366ebd2fa9a160b63ca1b3e5890b81ef74c1df9a05", checked := Try.checked }
namespace Rows
def none {H : Type} : Left H := { results := [], args := [] }

/-- 'gambitlaw09.EarthTells': WHATEVER THE INPUT: true; the input reads as it did. -/
def earthTellsSpec : ChangeSpec := { name := "earthTells", fn := fun _ => fun
  | [] => { results := [.lit (.bool true)], args := [] }
  | _ => none }
def earthTellsRow : OpenClaim := { program := "ytiikbhejnblhlaa", sum := "ccf0f1284175cb63fe4f27366ebd2fa9a160b63ca1b3e5890b81ef74c1df9a05", func := "gambit/gambitlaw09.EarthTells", spec := "earthTells", recurses := true, apart := false }
def EarthTellsSaid : Prop := earthTellsRow.holds Try.pinned (OpenSpec.ofChange earthTellsSpec)

/-- ITS FALSE NEIGHBOUR: 'it returns false'. Refute it at one input. -/
def earthTellsWrong : ChangeSpec := { name := "earthTells", fn := fun _ => fun
  | [] => { results := [.lit (.bool false)], args := [] }
  | _ => none }
def EarthTellsWrongFalsely : Prop := earthTellsRow.holds Try.pinned (OpenSpec.ofChange earthTellsWrong)

/-- 'gambitlaw09.EarthNames': WHATEVER THE INPUT: true; the input reads as it did. -/
def earthNamesSpec : ChangeSpec := { name := "earthNames", fn := fun _ => fun
  | [] => { results := [.lit (.bool true)], args := [] }
  | _ => none }
def earthNamesRow : OpenClaim := { program := "ytiikbhejnblhlaa", sum := "ccf0f1284175cb63fe4f27366ebd2fa9a160b63ca1b3e5890b81ef74c1df9a05", func := "gambit/gambitlaw09.EarthNames", spec := "earthNames", apart := false }
def EarthNamesSaid : Prop := earthNamesRow.holds Try.pinned (OpenSpec.ofChange earthNamesSpec)

/-- ITS FALSE NEIGHBOUR: 'it returns false'. Refute it at one input. -/
def earthNamesWrong : ChangeSpec := { name := "earthNames", fn := fun _ => fun
  | [] => { results := [.lit (.bool false)], args := [] }
  | _ => none }
def EarthNamesWrongFalsely : Prop := earthNamesRow.holds Try.pinned (OpenSpec.ofChange earthNamesWrong)

/-- 'gambitlaw09.EarthFills': WHATEVER THE INPUT: true; the input reads as it did. -/
def earthFillsSpec : ChangeSpec := { name := "earthFills", fn := fun _ => fun
  | [d1, d2] => { results := [.lit (.bool true)], args := [d1, d2] }
  | _ => none }
def earthFillsRow : OpenClaim := { program := "ytiikbhejnblhlaa", sum := "ccf0f1284175cb63fe4f27366ebd2fa9a160b63ca1b3e5890b81ef74c1df9a05", func := "gambit/gambitlaw09.EarthFills", spec := "earthFills", unfollowed := true, recurses := true, apart := false }
def EarthFillsSaid : Prop := earthFillsRow.holds Try.pinned (OpenSpec.ofChange earthFillsSpec)

/-- ITS FALSE NEIGHBOUR: 'it returns false'. Refute it at one input. -/
def earthFillsWrong : ChangeSpec := { name := "earthFills", fn := fun _ => fun
  | [d1, d2] => { results := [.lit (.bool false)], args := [d1, d2] }
  | _ => none }
def EarthFillsWrongFalsely : Prop := earthFillsRow.holds Try.pinned (OpenSpec.ofChange earthFillsWrong)

/-- 'gambitlaw09.EarthBegins': WHATEVER THE INPUT: true; the input reads as it did. -/
def earthBeginsSpec : ChangeSpec := { name := "earthBegins", fn := fun _ => fun
  | [d1, d2] => { results := [.lit (.bool true)], args := [d1, d2] }
  | _ => none }
def earthBeginsRow : OpenClaim := { program := "ytiikbhejnblhlaa", sum := "ccf0f1284175cb63fe4f27366ebd2fa9a160b63ca1b3e5890b81ef74c1df9a05", func := "gambit/gambitlaw09.EarthBegins", spec := "earthBegins", apart := false }
def EarthBeginsSaid : Prop := earthBeginsRow.holds Try.pinned (OpenSpec.ofChange earthBeginsSpec)

/-- ITS FALSE NEIGHBOUR: 'it returns false'. Refute it at one input. -/
def earthBeginsWrong : ChangeSpec := { name := "earthBegins", fn := fun _ => fun
  | [d1, d2] => { results := [.lit (.bool false)], args := [d1, d2] }
  | _ => none }
def EarthBeginsWrongFalsely : Prop := earthBeginsRow.holds Try.pinned (OpenSpec.ofChange earthBeginsWrong)

/- THE SECOND FORM. 'bulk': how many values and letters a reading holds, each counted each time it is reached (what is shared counts as often as it is met; a slice's spare places count too). A statement '..UptoSaid' is the law's where the arguments, and the package variables that the reading takes, are together of bulk at most 1048576: NARROWER than '..Said'. Prove '..Said' where nothing that the law and all that it calls make is longer than what came in: it says more and counts as full. Else prove '..UptoSaid'. A law counts once. -/
mutual
def uptoBulk {H : Type} : DataW H → Nat
  | .lit (.string bytes) => bytes.length + 1
  | .lit _ => 1
  | .nil => 1
  | .ptr d => uptoBulk d + 1
  | .slice elems spare => uptoBulkAll elems + uptoBulkAll spare + 1
  | .agg parts => uptoBulkAll parts + 1
  | .iface _ d => uptoBulk d + 1
  | .map entries => uptoBulkEntries entries + 1
  | .held _ => 1
def uptoBulkAll {H : Type} : List (DataW H) → Nat
  | [] => 0
  | d :: r => uptoBulk d + uptoBulkAll r
def uptoBulkEntries {H : Type} : List (Lit × DataW H) → Nat
  | [] => 0
  | x :: r => uptoBulkEntry x + uptoBulkEntries r
def uptoBulkEntry {H : Type} : Lit × DataW H → Nat
  | (.string bytes, d) => bytes.length + uptoBulk d + 1
  | (_, d) => uptoBulk d + 1
 end
def uptoSmall : (H : Type) → List (DataW H) → Bool := fun _ ds => decide (uptoBulkAll ds ≤ 1048576)
def OpenSpec.upto (s : _root_.Go.ChangeSpec) : _root_.Go.OpenSpec := { _root_.Go.OpenSpec.ofChange s with cond := some uptoSmall }

/-- 'gambitlaw09.EarthTells', WHERE WHAT IT READS IS OF BULK AT MOST 1048576: true; the input reads as it did. -/
def earthTellsUptoRow : OpenClaim := { program := "ytiikbhejnblhlaa", sum := "ccf0f1284175cb63fe4f27366ebd2fa9a160b63ca1b3e5890b81ef74c1df9a05", func := "gambit/gambitlaw09.EarthTells", spec := "earthTells", recurses := true, apart := false, narrowed := true }
def EarthTellsUptoSaid : Prop := earthTellsUptoRow.holds Try.pinned (OpenSpec.upto earthTellsSpec)

/-- 'gambitlaw09.EarthNames', WHERE WHAT IT READS IS OF BULK AT MOST 1048576: true; the input reads as it did. -/
def earthNamesUptoRow : OpenClaim := { program := "ytiikbhejnblhlaa", sum := "ccf0f1284175cb63fe4f27366ebd2fa9a160b63ca1b3e5890b81ef74c1df9a05", func := "gambit/gambitlaw09.EarthNames", spec := "earthNames", apart := false, narrowed := true }
def EarthNamesUptoSaid : Prop := earthNamesUptoRow.holds Try.pinned (OpenSpec.upto earthNamesSpec)

/-- 'gambitlaw09.EarthFills', WHERE WHAT IT READS IS OF BULK AT MOST 1048576: true; the input reads as it did. -/
def earthFillsUptoRow : OpenClaim := { program := "ytiikbhejnblhlaa", sum := "ccf0f1284175cb63fe4f27366ebd2fa9a160b63ca1b3e5890b81ef74c1df9a05", func := "gambit/gambitlaw09.EarthFills", spec := "earthFills", unfollowed := true, recurses := true, apart := false, narrowed := true }
def EarthFillsUptoSaid : Prop := earthFillsUptoRow.holds Try.pinned (OpenSpec.upto earthFillsSpec)

/-- 'gambitlaw09.EarthBegins', WHERE WHAT IT READS IS OF BULK AT MOST 1048576: true; the input reads as it did. -/
def earthBeginsUptoRow : OpenClaim := { program := "ytiikbhejnblhlaa", sum := "ccf0f1284175cb63fe4f27366ebd2fa9a160b63ca1b3e5890b81ef74c1df9a05", func := "gambit/gambitlaw09.EarthBegins", spec := "earthBegins", apart := false, narrowed := true }
def EarthBeginsUptoSaid : Prop := earthBeginsUptoRow.holds Try.pinned (OpenSpec.upto earthBeginsSpec)

end Rows
end Go.Proofs.Ytiikbhejnblhlaa
