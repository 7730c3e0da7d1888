/-
  No cell of these rows narrows 'for every input' (looked for: loops, veiled, ifaces, maps, wideKeys, modest, calm, conditions, laid).
  DERIVED. THE GIVEN ROWS OF THIS SEAT. 3 by the template 'for every input the law returns true; each argument reads behind the call as it read before'; 0 by the template 'total and deterministic' (their statements: YtogpgldbbegniaaTotals.lean).
  GIVEN WITH THE SEED: the statements are not yours to turn. If you find one false, say at which input.
  Laid BY PROGRAM, IN A SANDBOX (cutbox-rows.mjs): the forced cells as the released guide's own fill.sh prints them over the translation 844d411e81f3ca5f… (all of the seat's roots in one cut). By AI agents, Wed Nov 11 2026. No macro, syntax, notation, axiom, sorry.
-/
import Derived.Test.YtogpgldbbegniaaChecked
import GoSem.Claim
import GoSem.ClaimJoined
import GoSem.ClaimMapViews
import Derived.JoinedTies
import Derived.KernelRfl
namespace Go.Proofs.Ytogpgldbbegniaa
/- THE CELL 'sum', in the pinned program and in every row, IS THE sha256 OF THE DUMP (.gsa) THAT YtogpgldbbegniaaProg.lean LOADS. Nothing in Lean hashes anything: it is a label: what it is worth is what the hold of that sum in a sandbox is worth. -/
noncomputable def Try.pinned : Pinned := { name := "ytogpgldbbegniaa", sum := "844d411e81f3ca5fb63243a99635f4c83d077cd8cb015e59c355deb9dfb1d3ea", checked := Try.checked }
namespace Rows
def none {H : Type} : Left H := { results := [], args := [] }

/-- 'gambitlaw17.ZoneSound': WHATEVER THE INPUT: true; the input reads as it did. -/
def zoneSoundSpec : ChangeSpec := { name := "zoneSound", fn := fun _ => fun
  | [d1, d2, d3] => { results := [.lit (.bool true)], args := [d1, d2, d3] }
  | _ => none }
def zoneSoundRow : OpenClaim := { program := "ytogpgldbbegniaa", sum := "844d411e81f3ca5fb63243a99635f4c83d077cd8cb015e59c355deb9dfb1d3ea", func := "gambit/gambitlaw17.ZoneSound", spec := "zoneSound", unfollowed := true, recurses := true, apart := false }
def ZoneSoundSaid : Prop := zoneSoundRow.holds Try.pinned (OpenSpec.ofChange zoneSoundSpec)

/-- ITS FALSE NEIGHBOUR: 'it returns false'. Refute it at one input. -/
def zoneSoundWrong : ChangeSpec := { name := "zoneSound", fn := fun _ => fun
  | [d1, d2, d3] => { results := [.lit (.bool false)], args := [d1, d2, d3] }
  | _ => none }
def ZoneSoundWrongFalsely : Prop := zoneSoundRow.holds Try.pinned (OpenSpec.ofChange zoneSoundWrong)

/-- 'gambitlaw18.ThingMarks': WHATEVER THE INPUT: true; the input reads as it did. -/
def thingMarksSpec : ChangeSpec := { name := "thingMarks", fn := fun _ => fun
  | [d1, d2, d3, d4] => { results := [.lit (.bool true)], args := [d1, d2, d3, d4] }
  | _ => none }
def thingMarksRow : OpenClaim := { program := "ytogpgldbbegniaa", sum := "844d411e81f3ca5fb63243a99635f4c83d077cd8cb015e59c355deb9dfb1d3ea", func := "gambit/gambitlaw18.ThingMarks", spec := "thingMarks", unfollowed := true, recurses := true, apart := false }
def ThingMarksSaid : Prop := thingMarksRow.holds Try.pinned (OpenSpec.ofChange thingMarksSpec)

/-- ITS FALSE NEIGHBOUR: 'it returns false'. Refute it at one input. -/
def thingMarksWrong : ChangeSpec := { name := "thingMarks", fn := fun _ => fun
  | [d1, d2, d3, d4] => { results := [.lit (.bool false)], args := [d1, d2, d3, d4] }
  | _ => none }
def ThingMarksWrongFalsely : Prop := thingMarksRow.holds Try.pinned (OpenSpec.ofChange thingMarksWrong)

/-- 'gambitlaw18.ThingNames': WHATEVER THE INPUT: true; the input reads as it did. -/
def thingNamesSpec : ChangeSpec := { name := "thingNames", fn := fun _ => fun
  | [] => { results := [.lit (.bool true)], args := [] }
  | _ => none }
def thingNamesRow : OpenClaim := { program := "ytogpgldbbegniaa", sum := "844d411e81f3ca5fb63243a99635f4c83d077cd8cb015e59c355deb9dfb1d3ea", func := "gambit/gambitlaw18.ThingNames", spec := "thingNames", unfollowed := true, recurses := true, apart := false }
def ThingNamesSaid : Prop := thingNamesRow.holds Try.pinned (OpenSpec.ofChange thingNamesSpec)

/-- ITS FALSE NEIGHBOUR: 'it returns false'. Refute it at one input. -/
def thingNamesWrong : ChangeSpec := { name := "thingNames", fn := fun _ => fun
  | [] => { results := [.lit (.bool false)], args := [] }
  | _ => none }
def ThingNamesWrongFalsely : Prop := thingNamesRow.holds Try.pinned (OpenSpec.ofChange thingNamesWrong)

/- THE SECOND FORM. 'bulk': how many values and letters a reading holds, each counted each time it is reached (what is shared counts as often as it is met; a slice's spare places count too). A statement '..UptoSaid' is the law's where the arguments, and the package variables that the reading takes, are together of bulk at most 1048576: NARROWER than '..Said'. Prove '..Said' where nothing that the law and all that it calls make is longer than what came in: it says more and counts as full. Else prove '..UptoSaid'. A law counts once. -/
mutual
def uptoBulk {H : Type} : DataW H → Nat
  | .lit (.string bytes) => bytes.length + 1
  | .lit _ => 1
  | .nil => 1
  | .ptr d => uptoBulk d + 1
  | .slice elems spare => uptoBulkAll elems + uptoBulkAll spare + 1
  | .agg parts => uptoBulkAll parts + 1
  | .iface _ d => uptoBulk d + 1
  | .map entries => uptoBulkEntries entries + 1
  | .held _ => 1
def uptoBulkAll {H : Type} : List (DataW H) → Nat
  | [] => 0
  | d :: r => uptoBulk d + uptoBulkAll r
def uptoBulkEntries {H : Type} : List (Lit × DataW H) → Nat
  | [] => 0
  | x :: r => uptoBulkEntry x + uptoBulkEntries r
def uptoBulkEntry {H : Type} : Lit × DataW H → Nat
  | (.string bytes, d) => bytes.length + uptoBulk d + 1
  | (_, d) => uptoBulk d + 1
 end
def uptoSmall : (H : Type) → List (DataW H) → Bool := fun _ ds => decide (uptoBulkAll ds ≤ 1048576)
def OpenSpec.upto (s : _root_.Go.ChangeSpec) : _root_.Go.OpenSpec := { _root_.Go.OpenSpec.ofChange s with cond := some uptoSmall }

/-- 'gambitlaw17.ZoneSound', WHERE WHAT IT READS IS OF BULK AT MOST 1048576: true; the input reads as it did. -/
def zoneSoundUptoRow : OpenClaim := { program := "ytogpgldbbegniaa", sum := "844d411e81f3ca5fb63243a99635f4c83d077cd8cb015e59c355deb9dfb1d3ea", func := "gambit/gambitlaw17.ZoneSound", spec := "zoneSound", unfollowed := true, recurses := true, apart := false, narrowed := true }
def ZoneSoundUptoSaid : Prop := zoneSoundUptoRow.holds Try.pinned (OpenSpec.upto zoneSoundSpec)

/-- 'gambitlaw18.ThingMarks', WHERE WHAT IT READS IS OF BULK AT MOST 1048576: true; the input reads as it did. -/
def thingMarksUptoRow : OpenClaim := { program := "ytogpgldbbegniaa", sum := "844d411e81f3ca5fb63243a99635f4c83d077cd8cb015e59c355deb9dfb1d3ea", func := "gambit/gambitlaw18.ThingMarks", spec := "thingMarks", unfollowed := true, recurses := true, apart := false, narrowed := true }
def ThingMarksUptoSaid : Prop := thingMarksUptoRow.holds Try.pinned (OpenSpec.upto thingMarksSpec)

/-- 'gambitlaw18.ThingNames', WHERE WHAT IT READS IS OF BULK AT MOST 1048576: true; the input reads as it did. -/
def thingNamesUptoRow : OpenClaim := { program := "ytogpgldbbegniaa", sum := "844d411e81f3ca5fb63243a99635f4c83d077cd8cb015e59c355deb9dfb1d3ea", func := "gambit/gambitlaw18.ThingNames", spec := "thingNames", unfollowed := true, recurses := true, apart := false, narrowed := true }
def ThingNamesUptoSaid : Prop := thingNamesUptoRow.holds Try.pinned (OpenSpec.upto thingNamesSpec)

end Rows
end Go.Proofs.Ytogpgldbbegniaa
