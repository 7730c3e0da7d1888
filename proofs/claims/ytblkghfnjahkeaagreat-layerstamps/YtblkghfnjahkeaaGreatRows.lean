/-
  No cell of these rows narrows 'for every input' (looked for: loops, veiled, ifaces, maps, wideKeys, modest, calm, conditions, laid).
  DERIVED. THE GIVEN ROWS OF THIS SEAT. 6 by the template 'for every input the law returns true; each argument reads behind the call as it read before'; 0 by the template 'total and deterministic' (their statements: YtblkghfnjahkeaaGreatTotals.lean).
  GIVEN WITH THE SEED: the statements are not yours to turn. If you find one false, say at which input.
  Laid BY PROGRAM, IN A SANDBOX (cutbox-rows.mjs): the forced cells as the released guide's own fill.sh prints them over the translation 20d01c8dbea71df5… (all of the seat's roots in one cut). By AI agents, Wed Nov 11 2026. No macro, syntax, notation, axiom, sorry.
-/
import Derived.Test.YtblkghfnjahkeaaGreatChecked
import GoSem.Claim
import GoSem.ClaimJoined
import GoSem.ClaimMapViews
import Derived.JoinedTies
import Derived.KernelRfl
namespace Go.Proofs.YtblkghfnjahkeaaGreat
/- THE CELL 'sum', in the pinned program and in every row, IS THE sha256 OF THE DUMP (.gsa) THAT YtblkghfnjahkeaaGreatProg.lean LOADS. Nothing in Lean hashes anything: it is a label: what it is worth is what the hold of that sum in a sandbox is worth. -/
noncomputable def Tryz.pinned : Pinned := { name := "ytblkghfnjahkeaagreat", sum := "20d01c8dbea71df5c86c087f4dd44709cdde9fd7cace21141bccf1b1469d211b", checked := Tryz.checked }
namespace Rows
def none {H : Type} : Left H := { results := [], args := [] }

/-- 'gambitlaw19.LayerNone': WHATEVER THE INPUT: true; the input reads as it did. -/
def layerNoneSpec : ChangeSpec := { name := "layerNone", fn := fun _ => fun
  | [d1, d2, d3] => { results := [.lit (.bool true)], args := [d1, d2, d3] }
  | _ => none }
def layerNoneRow : OpenClaim := { program := "ytblkghfnjahkeaagreat", sum := "20d01c8dbea71df5c86c087f4dd44709cdde9fd7cace21141bccf1b1469d211b", func := "gambit/gambitlaw19.LayerNone", spec := "layerNone", unfollowed := true, recurses := true, apart := false }
def LayerNoneSaid : Prop := layerNoneRow.holds Tryz.pinned (OpenSpec.ofChange layerNoneSpec)

/-- ITS FALSE NEIGHBOUR: 'it returns false'. Refute it at one input. -/
def layerNoneWrong : ChangeSpec := { name := "layerNone", fn := fun _ => fun
  | [d1, d2, d3] => { results := [.lit (.bool false)], args := [d1, d2, d3] }
  | _ => none }
def LayerNoneWrongFalsely : Prop := layerNoneRow.holds Tryz.pinned (OpenSpec.ofChange layerNoneWrong)

/-- 'gambitlaw19.LayerOnce': WHATEVER THE INPUT: true; the input reads as it did. -/
def layerOnceSpec : ChangeSpec := { name := "layerOnce", fn := fun _ => fun
  | [d1, d2, d3] => { results := [.lit (.bool true)], args := [d1, d2, d3] }
  | _ => none }
def layerOnceRow : OpenClaim := { program := "ytblkghfnjahkeaagreat", sum := "20d01c8dbea71df5c86c087f4dd44709cdde9fd7cace21141bccf1b1469d211b", func := "gambit/gambitlaw19.LayerOnce", spec := "layerOnce", unfollowed := true, recurses := true, apart := false }
def LayerOnceSaid : Prop := layerOnceRow.holds Tryz.pinned (OpenSpec.ofChange layerOnceSpec)

/-- ITS FALSE NEIGHBOUR: 'it returns false'. Refute it at one input. -/
def layerOnceWrong : ChangeSpec := { name := "layerOnce", fn := fun _ => fun
  | [d1, d2, d3] => { results := [.lit (.bool false)], args := [d1, d2, d3] }
  | _ => none }
def LayerOnceWrongFalsely : Prop := layerOnceRow.holds Tryz.pinned (OpenSpec.ofChange layerOnceWrong)

/-- 'gambitlaw19.LayerApplies': WHATEVER THE INPUT: true; the input reads as it did. -/
def layerAppliesSpec : ChangeSpec := { name := "layerApplies", fn := fun _ => fun
  | [d1, d2, d3, d4] => { results := [.lit (.bool true)], args := [d1, d2, d3, d4] }
  | _ => none }
def layerAppliesRow : OpenClaim := { program := "ytblkghfnjahkeaagreat", sum := "20d01c8dbea71df5c86c087f4dd44709cdde9fd7cace21141bccf1b1469d211b", func := "gambit/gambitlaw19.LayerApplies", spec := "layerApplies", unfollowed := true, recurses := true, apart := false }
def LayerAppliesSaid : Prop := layerAppliesRow.holds Tryz.pinned (OpenSpec.ofChange layerAppliesSpec)

/-- ITS FALSE NEIGHBOUR: 'it returns false'. Refute it at one input. -/
def layerAppliesWrong : ChangeSpec := { name := "layerApplies", fn := fun _ => fun
  | [d1, d2, d3, d4] => { results := [.lit (.bool false)], args := [d1, d2, d3, d4] }
  | _ => none }
def LayerAppliesWrongFalsely : Prop := layerAppliesRow.holds Tryz.pinned (OpenSpec.ofChange layerAppliesWrong)

/-- 'gambitlaw19.LayerStamps': WHATEVER THE INPUT: true; the input reads as it did. -/
def layerStampsSpec : ChangeSpec := { name := "layerStamps", fn := fun _ => fun
  | [d1, d2, d3, d4] => { results := [.lit (.bool true)], args := [d1, d2, d3, d4] }
  | _ => none }
def layerStampsRow : OpenClaim := { program := "ytblkghfnjahkeaagreat", sum := "20d01c8dbea71df5c86c087f4dd44709cdde9fd7cace21141bccf1b1469d211b", func := "gambit/gambitlaw19.LayerStamps", spec := "layerStamps", unfollowed := true, recurses := true, apart := false }
def LayerStampsSaid : Prop := layerStampsRow.holds Tryz.pinned (OpenSpec.ofChange layerStampsSpec)

/-- ITS FALSE NEIGHBOUR: 'it returns false'. Refute it at one input. -/
def layerStampsWrong : ChangeSpec := { name := "layerStamps", fn := fun _ => fun
  | [d1, d2, d3, d4] => { results := [.lit (.bool false)], args := [d1, d2, d3, d4] }
  | _ => none }
def LayerStampsWrongFalsely : Prop := layerStampsRow.holds Tryz.pinned (OpenSpec.ofChange layerStampsWrong)

/-- 'gambitlaw19.LayerRaises': WHATEVER THE INPUT: true; the input reads as it did. -/
def layerRaisesSpec : ChangeSpec := { name := "layerRaises", fn := fun _ => fun
  | [d1, d2, d3, d4] => { results := [.lit (.bool true)], args := [d1, d2, d3, d4] }
  | _ => none }
def layerRaisesRow : OpenClaim := { program := "ytblkghfnjahkeaagreat", sum := "20d01c8dbea71df5c86c087f4dd44709cdde9fd7cace21141bccf1b1469d211b", func := "gambit/gambitlaw19.LayerRaises", spec := "layerRaises", unfollowed := true, recurses := true, apart := false }
def LayerRaisesSaid : Prop := layerRaisesRow.holds Tryz.pinned (OpenSpec.ofChange layerRaisesSpec)

/-- ITS FALSE NEIGHBOUR: 'it returns false'. Refute it at one input. -/
def layerRaisesWrong : ChangeSpec := { name := "layerRaises", fn := fun _ => fun
  | [d1, d2, d3, d4] => { results := [.lit (.bool false)], args := [d1, d2, d3, d4] }
  | _ => none }
def LayerRaisesWrongFalsely : Prop := layerRaisesRow.holds Tryz.pinned (OpenSpec.ofChange layerRaisesWrong)

/-- 'gambitlaw19.LayerKnown': WHATEVER THE INPUT: true; the input reads as it did. -/
def layerKnownSpec : ChangeSpec := { name := "layerKnown", fn := fun _ => fun
  | [] => { results := [.lit (.bool true)], args := [] }
  | _ => none }
def layerKnownRow : OpenClaim := { program := "ytblkghfnjahkeaagreat", sum := "20d01c8dbea71df5c86c087f4dd44709cdde9fd7cace21141bccf1b1469d211b", func := "gambit/gambitlaw19.LayerKnown", spec := "layerKnown", unfollowed := true, recurses := true, apart := false }
def LayerKnownSaid : Prop := layerKnownRow.holds Tryz.pinned (OpenSpec.ofChange layerKnownSpec)

/-- ITS FALSE NEIGHBOUR: 'it returns false'. Refute it at one input. -/
def layerKnownWrong : ChangeSpec := { name := "layerKnown", fn := fun _ => fun
  | [] => { results := [.lit (.bool false)], args := [] }
  | _ => none }
def LayerKnownWrongFalsely : Prop := layerKnownRow.holds Tryz.pinned (OpenSpec.ofChange layerKnownWrong)

/- THE SECOND FORM. 'bulk': how many values and letters a reading holds, each counted each time it is reached (what is shared counts as often as it is met; a slice's spare places count too). A statement '..UptoSaid' is the law's where the arguments, and the package variables that the reading takes, are together of bulk at most 1048576: NARROWER than '..Said'. Prove '..Said' where nothing that the law and all that it calls make is longer than what came in: it says more and counts as full. Else prove '..UptoSaid'. A law counts once. -/
mutual
def uptoBulk {H : Type} : DataW H → Nat
  | .lit (.string bytes) => bytes.length + 1
  | .lit _ => 1
  | .nil => 1
  | .ptr d => uptoBulk d + 1
  | .slice elems spare => uptoBulkAll elems + uptoBulkAll spare + 1
  | .agg parts => uptoBulkAll parts + 1
  | .iface _ d => uptoBulk d + 1
  | .map entries => uptoBulkEntries entries + 1
  | .held _ => 1
def uptoBulkAll {H : Type} : List (DataW H) → Nat
  | [] => 0
  | d :: r => uptoBulk d + uptoBulkAll r
def uptoBulkEntries {H : Type} : List (Lit × DataW H) → Nat
  | [] => 0
  | x :: r => uptoBulkEntry x + uptoBulkEntries r
def uptoBulkEntry {H : Type} : Lit × DataW H → Nat
  | (.string bytes, d) => bytes.length + uptoBulk d + 1
  | (_, d) => uptoBulk d + 1
 end
def uptoSmall : (H : Type) → List (DataW H) → Bool := fun _ ds => decide (uptoBulkAll ds ≤ 1048576)
def OpenSpec.upto (s : _root_.Go.ChangeSpec) : _root_.Go.OpenSpec := { _root_.Go.OpenSpec.ofChange s with cond := some uptoSmall }

/-- 'gambitlaw19.LayerNone', WHERE WHAT IT READS IS OF BULK AT MOST 1048576: true; the input reads as it did. -/
def layerNoneUptoRow : OpenClaim := { program := "ytblkghfnjahkeaagreat", sum := "20d01c8dbea71df5c86c087f4dd44709cdde9fd7cace21141bccf1b1469d211b", func := "gambit/gambitlaw19.LayerNone", spec := "layerNone", unfollowed := true, recurses := true, apart := false, narrowed := true }
def LayerNoneUptoSaid : Prop := layerNoneUptoRow.holds Tryz.pinned (OpenSpec.upto layerNoneSpec)

/-- 'gambitlaw19.LayerOnce', WHERE WHAT IT READS IS OF BULK AT MOST 1048576: true; the input reads as it did. -/
def layerOnceUptoRow : OpenClaim := { program := "ytblkghfnjahkeaagreat", sum := "20d01c8dbea71df5c86c087f4dd44709cdde9fd7cace21141bccf1b1469d211b", func := "gambit/gambitlaw19.LayerOnce", spec := "layerOnce", unfollowed := true, recurses := true, apart := false, narrowed := true }
def LayerOnceUptoSaid : Prop := layerOnceUptoRow.holds Tryz.pinned (OpenSpec.upto layerOnceSpec)

/-- 'gambitlaw19.LayerApplies', WHERE WHAT IT READS IS OF BULK AT MOST 1048576: true; the input reads as it did. -/
def layerAppliesUptoRow : OpenClaim := { program := "ytblkghfnjahkeaagreat", sum := "20d01c8dbea71df5c86c087f4dd44709cdde9fd7cace21141bccf1b1469d211b", func := "gambit/gambitlaw19.LayerApplies", spec := "layerApplies", unfollowed := true, recurses := true, apart := false, narrowed := true }
def LayerAppliesUptoSaid : Prop := layerAppliesUptoRow.holds Tryz.pinned (OpenSpec.upto layerAppliesSpec)

/-- 'gambitlaw19.LayerStamps', WHERE WHAT IT READS IS OF BULK AT MOST 1048576: true; the input reads as it did. -/
def layerStampsUptoRow : OpenClaim := { program := "ytblkghfnjahkeaagreat", sum := "20d01c8dbea71df5c86c087f4dd44709cdde9fd7cace21141bccf1b1469d211b", func := "gambit/gambitlaw19.LayerStamps", spec := "layerStamps", unfollowed := true, recurses := true, apart := false, narrowed := true }
def LayerStampsUptoSaid : Prop := layerStampsUptoRow.holds Tryz.pinned (OpenSpec.upto layerStampsSpec)

/-- 'gambitlaw19.LayerRaises', WHERE WHAT IT READS IS OF BULK AT MOST 1048576: true; the input reads as it did. -/
def layerRaisesUptoRow : OpenClaim := { program := "ytblkghfnjahkeaagreat", sum := "20d01c8dbea71df5c86c087f4dd44709cdde9fd7cace21141bccf1b1469d211b", func := "gambit/gambitlaw19.LayerRaises", spec := "layerRaises", unfollowed := true, recurses := true, apart := false, narrowed := true }
def LayerRaisesUptoSaid : Prop := layerRaisesUptoRow.holds Tryz.pinned (OpenSpec.upto layerRaisesSpec)

/-- 'gambitlaw19.LayerKnown', WHERE WHAT IT READS IS OF BULK AT MOST 1048576: true; the input reads as it did. -/
def layerKnownUptoRow : OpenClaim := { program := "ytblkghfnjahkeaagreat", sum := "20d01c8dbea71df5c86c087f4dd44709cdde9fd7cace21141bccf1b1469d211b", func := "gambit/gambitlaw19.LayerKnown", spec := "layerKnown", unfollowed := true, recurses := true, apart := false, narrowed := true }
def LayerKnownUptoSaid : Prop := layerKnownUptoRow.holds Tryz.pinned (OpenSpec.upto layerKnownSpec)

end Rows
end Go.Proofs.YtblkghfnjahkeaaGreat
