/-
  No cell of these rows narrows 'for every input' (looked for: loops, veiled, ifaces, maps, wideKeys, modest, calm, conditions, laid).
  DERIVED. THE GIVEN ROWS OF THIS SEAT. 3 by the template 'for every input the law returns true; each argument reads behind the call as it read before'; 0 by the template 'total and deterministic' (their statements: YtgimdpnppdepjaaTotals.lean).
  GIVEN WITH THE SEED: the statements are not yours to turn. If you find one false, say at which input.
  Laid BY PROGRAM, IN A SANDBOX (cutbox-rows.mjs): the forced cells as the released guide's own fill.sh prints them over the translation 7e783fb887d72b93… (all of the seat's roots in one cut). By AI agents, Wed Nov 11 2026. No macro, syntax, notation, axiom, sorry.
-/
import Derived.Test.YtgimdpnppdepjaaChecked
import GoSem.Claim
import GoSem.ClaimJoined
import GoSem.ClaimMapViews
import Derived.JoinedTies
import Derived.KernelRfl
namespace Go.Proofs.Ytgimdpnppdepjaa
/- THE CELL 'sum', in the pinned program and in every row, IS THE sha256 OF THE DUMP (.gsa) THAT YtgimdpnppdepjaaProg.lean LOADS. Nothing in Lean hashes anything: it is a label: what it is worth is what the hold of that sum in a sandbox is worth. -/
noncomputable def Try.pinned : Pinned := { name := "ytgimdpnppdepjaa", sum := "7e783fb887d72b93b5f1e14e35e11fc291420e00ab3d2e983f2080dba5148fb0", checked := Try.checked }
namespace Rows
def none {H : Type} : Left H := { results := [], args := [] }

/-- 'gambitlaw10.FireLists': WHATEVER THE INPUT: true; the input reads as it did. -/
def fireListsSpec : ChangeSpec := { name := "fireLists", fn := fun _ => fun
  | [] => { results := [.lit (.bool true)], args := [] }
  | _ => none }
def fireListsRow : OpenClaim := { program := "ytgimdpnppdepjaa", sum := "7e783fb887d72b93b5f1e14e35e11fc291420e00ab3d2e983f2080dba5148fb0", func := "gambit/gambitlaw10.FireLists", spec := "fireLists", unfollowed := true, recurses := true, apart := false }
def FireListsSaid : Prop := fireListsRow.holds Try.pinned (OpenSpec.ofChange fireListsSpec)

/-- ITS FALSE NEIGHBOUR: 'it returns false'. Refute it at one input. -/
def fireListsWrong : ChangeSpec := { name := "fireLists", fn := fun _ => fun
  | [] => { results := [.lit (.bool false)], args := [] }
  | _ => none }
def FireListsWrongFalsely : Prop := fireListsRow.holds Try.pinned (OpenSpec.ofChange fireListsWrong)

/-- 'gambitlaw10.FireFills': WHATEVER THE INPUT: true; the input reads as it did. -/
def fireFillsSpec : ChangeSpec := { name := "fireFills", fn := fun _ => fun
  | [d] => { results := [.lit (.bool true)], args := [d] }
  | _ => none }
def fireFillsRow : OpenClaim := { program := "ytgimdpnppdepjaa", sum := "7e783fb887d72b93b5f1e14e35e11fc291420e00ab3d2e983f2080dba5148fb0", func := "gambit/gambitlaw10.FireFills", spec := "fireFills", unfollowed := true, recurses := true, apart := false }
def FireFillsSaid : Prop := fireFillsRow.holds Try.pinned (OpenSpec.ofChange fireFillsSpec)

/-- ITS FALSE NEIGHBOUR: 'it returns false'. Refute it at one input. -/
def fireFillsWrong : ChangeSpec := { name := "fireFills", fn := fun _ => fun
  | [d] => { results := [.lit (.bool false)], args := [d] }
  | _ => none }
def FireFillsWrongFalsely : Prop := fireFillsRow.holds Try.pinned (OpenSpec.ofChange fireFillsWrong)

/-- 'gambitlaw10.FireBegins': WHATEVER THE INPUT: true; the input reads as it did. -/
def fireBeginsSpec : ChangeSpec := { name := "fireBegins", fn := fun _ => fun
  | [d1, d2] => { results := [.lit (.bool true)], args := [d1, d2] }
  | _ => none }
def fireBeginsRow : OpenClaim := { program := "ytgimdpnppdepjaa", sum := "7e783fb887d72b93b5f1e14e35e11fc291420e00ab3d2e983f2080dba5148fb0", func := "gambit/gambitlaw10.FireBegins", spec := "fireBegins", apart := false }
def FireBeginsSaid : Prop := fireBeginsRow.holds Try.pinned (OpenSpec.ofChange fireBeginsSpec)

/-- ITS FALSE NEIGHBOUR: 'it returns false'. Refute it at one input. -/
def fireBeginsWrong : ChangeSpec := { name := "fireBegins", fn := fun _ => fun
  | [d1, d2] => { results := [.lit (.bool false)], args := [d1, d2] }
  | _ => none }
def FireBeginsWrongFalsely : Prop := fireBeginsRow.holds Try.pinned (OpenSpec.ofChange fireBeginsWrong)

/- THE SECOND FORM. 'bulk': how many values and letters a reading holds, each counted each time it is reached (what is shared counts as often as it is met; a slice's spare places count too). A statement '..UptoSaid' is the law's where the arguments, and the package variables that the reading takes, are together of bulk at most 1048576: NARROWER than '..Said'. Prove '..Said' where nothing that the law and all that it calls make is longer than what came in: it says more and counts as full. Else prove '..UptoSaid'. A law counts once. -/
mutual
def uptoBulk {H : Type} : DataW H → Nat
  | .lit (.string bytes) => bytes.length + 1
  | .lit _ => 1
  | .nil => 1
  | .ptr d => uptoBulk d + 1
  | .slice elems spare => uptoBulkAll elems + uptoBulkAll spare + 1
  | .agg parts => uptoBulkAll parts + 1
  | .iface _ d => uptoBulk d + 1
  | .map entries => uptoBulkEntries entries + 1
  | .held _ => 1
def uptoBulkAll {H : Type} : List (DataW H) → Nat
  | [] => 0
  | d :: r => uptoBulk d + uptoBulkAll r
def uptoBulkEntries {H : Type} : List (Lit × DataW H) → Nat
  | [] => 0
  | x :: r => uptoBulkEntry x + uptoBulkEntries r
def uptoBulkEntry {H : Type} : Lit × DataW H → Nat
  | (.string bytes, d) => bytes.length + uptoBulk d + 1
  | (_, d) => uptoBulk d + 1
 end
def uptoSmall : (H : Type) → List (DataW H) → Bool := fun _ ds => decide (uptoBulkAll ds ≤ 1048576)
def OpenSpec.upto (s : _root_.Go.ChangeSpec) : _root_.Go.OpenSpec := { _root_.Go.OpenSpec.ofChange s with cond := some uptoSmall }

/-- 'gambitlaw10.FireLists', WHERE WHAT IT READS IS OF BULK AT MOST 1048576: true; the input reads as it did. -/
def fireListsUptoRow : OpenClaim := { program := "ytgimdpnppdepjaa", sum := "7e783fb887d72b93b5f1e14e35e11fc291420e00ab3d2e983f2080dba5148fb0", func := "gambit/gambitlaw10.FireLists", spec := "fireLists", unfollowed := true, recurses := true, apart := false, narrowed := true }
def FireListsUptoSaid : Prop := fireListsUptoRow.holds Try.pinned (OpenSpec.upto fireListsSpec)

/-- 'gambitlaw10.FireFills', WHERE WHAT IT READS IS OF BULK AT MOST 1048576: true; the input reads as it did. -/
def fireFillsUptoRow : OpenClaim := { program := "ytgimdpnppdepjaa", sum := "7e783fb887d72b93b5f1e14e35e11fc291420e00ab3d2e983f2080dba5148fb0", func := "gambit/gambitlaw10.FireFills", spec := "fireFills", unfollowed := true, recurses := true, apart := false, narrowed := true }
def FireFillsUptoSaid : Prop := fireFillsUptoRow.holds Try.pinned (OpenSpec.upto fireFillsSpec)

/-- 'gambitlaw10.FireBegins', WHERE WHAT IT READS IS OF BULK AT MOST 1048576: true; the input reads as it did. -/
def fireBeginsUptoRow : OpenClaim := { program := "ytgimdpnppdepjaa", sum := "7e783fb887d72b93b5f1e14e35e11fc291420e00ab3d2e983f2080dba5148fb0", func := "gambit/gambitlaw10.FireBegins", spec := "fireBegins", apart := false, narrowed := true }
def FireBeginsUptoSaid : Prop := fireBeginsUptoRow.holds Try.pinned (OpenSpec.upto fireBeginsSpec)

end Rows
end Go.Proofs.Ytgimdpnppdepjaa
