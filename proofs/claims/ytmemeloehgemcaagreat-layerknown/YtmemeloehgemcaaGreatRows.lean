/-
  No cell of these rows narrows 'for every input' (looked for: loops, veiled, ifaces, maps, wideKeys, modest, calm, conditions, laid).
  DERIVED. THE GIVEN ROWS OF THIS SEAT. 6 by the template 'for every input the law returns true; each argument reads behind the call as it read before'; 0 by the template 'total and deterministic' (their statements: YtmemeloehgemcaaGreatTotals.lean).
  GIVEN WITH THE SEED: the statements are not yours to turn. If you find one false, say at which input.
  Laid BY PROGRAM, IN A SANDBOX (cutbox-rows.mjs): the forced cells as the released guide's own fill.sh prints them over the translation b7ff60a83d316e46… (all of the seat's roots in one cut). By AI agents, Wed Nov 11 2026. No macro, syntax, notation, axiom, sorry.
-/
import Derived.Test.YtmemeloehgemcaaGreatChecked
import GoSem.Claim
import GoSem.ClaimJoined
import GoSem.ClaimMapViews
import Derived.JoinedTies
import Derived.KernelRfl
namespace Go.Proofs.YtmemeloehgemcaaGreat
/- THE CELL 'sum', in the pinned program and in every row, IS THE sha256 OF THE DUMP (.gsa) THAT YtmemeloehgemcaaGreatProg.lean LOADS. Nothing in Lean hashes anything: it is a label: what it is worth is what the hold of that sum in a sandbox is worth. -/
noncomputable def Tryz.pinned : Pinned := { name := "ytmemeloehgemcaagreat", sum := "b7ff60a83d316e46c19ecaa9a05ccb576594bf272f97df71e0d3304b2a4108a9", checked := Tryz.checked }
namespace Rows
def none {H : Type} : Left H := { results := [], args := [] }

/-- 'gambitlaw19.LayerApplies': WHATEVER THE INPUT: true; the input reads as it did. -/
def layerAppliesSpec : ChangeSpec := { name := "layerApplies", fn := fun _ => fun
  | [d1, d2, d3, d4] => { results := [.lit (.bool true)], args := [d1, d2, d3, d4] }
  | _ => none }
def layerAppliesRow : OpenClaim := { program := "ytmemeloehgemcaagreat", sum := "b7ff60a83d316e46c19ecaa9a05ccb576594bf272f97df71e0d3304b2a4108a9", func := "gambit/gambitlaw19.LayerApplies", spec := "layerApplies", unfollowed := true, recurses := true, apart := false }
def LayerAppliesSaid : Prop := layerAppliesRow.holds Tryz.pinned (OpenSpec.ofChange layerAppliesSpec)

/-- ITS FALSE NEIGHBOUR: 'it returns false'. Refute it at one input. -/
def layerAppliesWrong : ChangeSpec := { name := "layerApplies", fn := fun _ => fun
  | [d1, d2, d3, d4] => { results := [.lit (.bool false)], args := [d1, d2, d3, d4] }
  | _ => none }
def LayerAppliesWrongFalsely : Prop := layerAppliesRow.holds Tryz.pinned (OpenSpec.ofChange layerAppliesWrong)

/-- 'gambitlaw19.LayerKnown': WHATEVER THE INPUT: true; the input reads as it did. -/
def layerKnownSpec : ChangeSpec := { name := "layerKnown", fn := fun _ => fun
  | [] => { results := [.lit (.bool true)], args := [] }
  | _ => none }
def layerKnownRow : OpenClaim := { program := "ytmemeloehgemcaagreat", sum := "b7ff60a83d316e46c19ecaa9a05ccb576594bf272f97df71e0d3304b2a4108a9", func := "gambit/gambitlaw19.LayerKnown", spec := "layerKnown", unfollowed := true, recurses := true, apart := false }
def LayerKnownSaid : Prop := layerKnownRow.holds Tryz.pinned (OpenSpec.ofChange layerKnownSpec)

/-- ITS FALSE NEIGHBOUR: 'it returns false'. Refute it at one input. -/
def layerKnownWrong : ChangeSpec := { name := "layerKnown", fn := fun _ => fun
  | [] => { results := [.lit (.bool false)], args := [] }
  | _ => none }
def LayerKnownWrongFalsely : Prop := layerKnownRow.holds Tryz.pinned (OpenSpec.ofChange layerKnownWrong)

/-- 'gambitlaw20.ViewNames': WHATEVER THE INPUT: true; the input reads as it did. -/
def viewNamesSpec : ChangeSpec := { name := "viewNames", fn := fun _ => fun
  | [] => { results := [.lit (.bool true)], args := [] }
  | _ => none }
def viewNamesRow : OpenClaim := { program := "ytmemeloehgemcaagreat", sum := "b7ff60a83d316e46c19ecaa9a05ccb576594bf272f97df71e0d3304b2a4108a9", func := "gambit/gambitlaw20.ViewNames", spec := "viewNames", unfollowed := true, recurses := true, apart := false }
def ViewNamesSaid : Prop := viewNamesRow.holds Tryz.pinned (OpenSpec.ofChange viewNamesSpec)

/-- ITS FALSE NEIGHBOUR: 'it returns false'. Refute it at one input. -/
def viewNamesWrong : ChangeSpec := { name := "viewNames", fn := fun _ => fun
  | [] => { results := [.lit (.bool false)], args := [] }
  | _ => none }
def ViewNamesWrongFalsely : Prop := viewNamesRow.holds Tryz.pinned (OpenSpec.ofChange viewNamesWrong)

/-- 'gambitlaw20.ViewNil': WHATEVER THE INPUT: true; the input reads as it did. -/
def viewNilSpec : ChangeSpec := { name := "viewNil", fn := fun _ => fun
  | [d1, d2, d3] => { results := [.lit (.bool true)], args := [d1, d2, d3] }
  | _ => none }
def viewNilRow : OpenClaim := { program := "ytmemeloehgemcaagreat", sum := "b7ff60a83d316e46c19ecaa9a05ccb576594bf272f97df71e0d3304b2a4108a9", func := "gambit/gambitlaw20.ViewNil", spec := "viewNil", unfollowed := true, recurses := true, apart := false }
def ViewNilSaid : Prop := viewNilRow.holds Tryz.pinned (OpenSpec.ofChange viewNilSpec)

/-- ITS FALSE NEIGHBOUR: 'it returns false'. Refute it at one input. -/
def viewNilWrong : ChangeSpec := { name := "viewNil", fn := fun _ => fun
  | [d1, d2, d3] => { results := [.lit (.bool false)], args := [d1, d2, d3] }
  | _ => none }
def ViewNilWrongFalsely : Prop := viewNilRow.holds Tryz.pinned (OpenSpec.ofChange viewNilWrong)

/-- 'gambitlaw20.ViewTable': WHATEVER THE INPUT: true; the input reads as it did. -/
def viewTableSpec : ChangeSpec := { name := "viewTable", fn := fun _ => fun
  | [d1, d2, d3, d4] => { results := [.lit (.bool true)], args := [d1, d2, d3, d4] }
  | _ => none }
def viewTableRow : OpenClaim := { program := "ytmemeloehgemcaagreat", sum := "b7ff60a83d316e46c19ecaa9a05ccb576594bf272f97df71e0d3304b2a4108a9", func := "gambit/gambitlaw20.ViewTable", spec := "viewTable", unfollowed := true, recurses := true, apart := false }
def ViewTableSaid : Prop := viewTableRow.holds Tryz.pinned (OpenSpec.ofChange viewTableSpec)

/-- ITS FALSE NEIGHBOUR: 'it returns false'. Refute it at one input. -/
def viewTableWrong : ChangeSpec := { name := "viewTable", fn := fun _ => fun
  | [d1, d2, d3, d4] => { results := [.lit (.bool false)], args := [d1, d2, d3, d4] }
  | _ => none }
def ViewTableWrongFalsely : Prop := viewTableRow.holds Tryz.pinned (OpenSpec.ofChange viewTableWrong)

/-- 'gambitlaw20.ViewPlain': WHATEVER THE INPUT: true; the input reads as it did. -/
def viewPlainSpec : ChangeSpec := { name := "viewPlain", fn := fun _ => fun
  | [d1, d2] => { results := [.lit (.bool true)], args := [d1, d2] }
  | _ => none }
def viewPlainRow : OpenClaim := { program := "ytmemeloehgemcaagreat", sum := "b7ff60a83d316e46c19ecaa9a05ccb576594bf272f97df71e0d3304b2a4108a9", func := "gambit/gambitlaw20.ViewPlain", spec := "viewPlain", unfollowed := true, recurses := true, apart := false }
def ViewPlainSaid : Prop := viewPlainRow.holds Tryz.pinned (OpenSpec.ofChange viewPlainSpec)

/-- ITS FALSE NEIGHBOUR: 'it returns false'. Refute it at one input. -/
def viewPlainWrong : ChangeSpec := { name := "viewPlain", fn := fun _ => fun
  | [d1, d2] => { results := [.lit (.bool false)], args := [d1, d2] }
  | _ => none }
def ViewPlainWrongFalsely : Prop := viewPlainRow.holds Tryz.pinned (OpenSpec.ofChange viewPlainWrong)

/- THE SECOND FORM. 'bulk': how many values and letters a reading holds, each counted each time it is reached (what is shared counts as often as it is met; a slice's spare places count too). A statement '..UptoSaid' is the law's where the arguments, and the package variables that the reading takes, are together of bulk at most 1048576: NARROWER than '..Said'. Prove '..Said' where nothing that the law and all that it calls make is longer than what came in: it says more and counts as full. Else prove '..UptoSaid'. A law counts once. -/
mutual
def uptoBulk {H : Type} : DataW H → Nat
  | .lit (.string bytes) => bytes.length + 1
  | .lit _ => 1
  | .nil => 1
  | .ptr d => uptoBulk d + 1
  | .slice elems spare => uptoBulkAll elems + uptoBulkAll spare + 1
  | .agg parts => uptoBulkAll parts + 1
  | .iface _ d => uptoBulk d + 1
  | .map entries => uptoBulkEntries entries + 1
  | .held _ => 1
def uptoBulkAll {H : Type} : List (DataW H) → Nat
  | [] => 0
  | d :: r => uptoBulk d + uptoBulkAll r
def uptoBulkEntries {H : Type} : List (Lit × DataW H) → Nat
  | [] => 0
  | x :: r => uptoBulkEntry x + uptoBulkEntries r
def uptoBulkEntry {H : Type} : Lit × DataW H → Nat
  | (.string bytes, d) => bytes.length + uptoBulk d + 1
  | (_, d) => uptoBulk d + 1
 end
def uptoSmall : (H : Type) → List (DataW H) → Bool := fun _ ds => decide (uptoBulkAll ds ≤ 1048576)
def OpenSpec.upto (s : _root_.Go.ChangeSpec) : _root_.Go.OpenSpec := { _root_.Go.OpenSpec.ofChange s with cond := some uptoSmall }

/-- 'gambitlaw19.LayerApplies', WHERE WHAT IT READS IS OF BULK AT MOST 1048576: true; the input reads as it did. -/
def layerAppliesUptoRow : OpenClaim := { program := "ytmemeloehgemcaagreat", sum := "b7ff60a83d316e46c19ecaa9a05ccb576594bf272f97df71e0d3304b2a4108a9", func := "gambit/gambitlaw19.LayerApplies", spec := "layerApplies", unfollowed := true, recurses := true, apart := false, narrowed := true }
def LayerAppliesUptoSaid : Prop := layerAppliesUptoRow.holds Tryz.pinned (OpenSpec.upto layerAppliesSpec)

/-- 'gambitlaw19.LayerKnown', WHERE WHAT IT READS IS OF BULK AT MOST 1048576: true; the input reads as it did. -/
def layerKnownUptoRow : OpenClaim := { program := "ytmemeloehgemcaagreat", sum := "b7ff60a83d316e46c19ecaa9a05ccb576594bf272f97df71e0d3304b2a4108a9", func := "gambit/gambitlaw19.LayerKnown", spec := "layerKnown", unfollowed := true, recurses := true, apart := false, narrowed := true }
def LayerKnownUptoSaid : Prop := layerKnownUptoRow.holds Tryz.pinned (OpenSpec.upto layerKnownSpec)

/-- 'gambitlaw20.ViewNames', WHERE WHAT IT READS IS OF BULK AT MOST 1048576: true; the input reads as it did. -/
def viewNamesUptoRow : OpenClaim := { program := "ytmemeloehgemcaagreat", sum := "b7ff60a83d316e46c19ecaa9a05ccb576594bf272f97df71e0d3304b2a4108a9", func := "gambit/gambitlaw20.ViewNames", spec := "viewNames", unfollowed := true, recurses := true, apart := false, narrowed := true }
def ViewNamesUptoSaid : Prop := viewNamesUptoRow.holds Tryz.pinned (OpenSpec.upto viewNamesSpec)

/-- 'gambitlaw20.ViewNil', WHERE WHAT IT READS IS OF BULK AT MOST 1048576: true; the input reads as it did. -/
def viewNilUptoRow : OpenClaim := { program := "ytmemeloehgemcaagreat", sum := "b7ff60a83d316e46c19ecaa9a05ccb576594bf272f97df71e0d3304b2a4108a9", func := "gambit/gambitlaw20.ViewNil", spec := "viewNil", unfollowed := true, recurses := true, apart := false, narrowed := true }
def ViewNilUptoSaid : Prop := viewNilUptoRow.holds Tryz.pinned (OpenSpec.upto viewNilSpec)

/-- 'gambitlaw20.ViewTable', WHERE WHAT IT READS IS OF BULK AT MOST 1048576: true; the input reads as it did. -/
def viewTableUptoRow : OpenClaim := { program := "ytmemeloehgemcaagreat", sum := "b7ff60a83d316e46c19ecaa9a05ccb576594bf272f97df71e0d3304b2a4108a9", func := "gambit/gambitlaw20.ViewTable", spec := "viewTable", unfollowed := true, recurses := true, apart := false, narrowed := true }
def ViewTableUptoSaid : Prop := viewTableUptoRow.holds Tryz.pinned (OpenSpec.upto viewTableSpec)

/-- 'gambitlaw20.ViewPlain', WHERE WHAT IT READS IS OF BULK AT MOST 1048576: true; the input reads as it did. -/
def viewPlainUptoRow : OpenClaim := { program := "ytmemeloehgemcaagreat", sum := "b7ff60a83d316e46c19ecaa9a05ccb576594bf272f97df71e0d3304b2a4108a9", func := "gambit/gambitlaw20.ViewPlain", spec := "viewPlain", unfollowed := true, recurses := true, apart := false, narrowed := true }
def ViewPlainUptoSaid : Prop := viewPlainUptoRow.holds Tryz.pinned (OpenSpec.upto viewPlainSpec)

end Rows
end Go.Proofs.YtmemeloehgemcaaGreat
