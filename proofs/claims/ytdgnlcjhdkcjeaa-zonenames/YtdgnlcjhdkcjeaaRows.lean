/-
  No cell of these rows narrows 'for every input' (looked for: loops, veiled, ifaces, maps, wideKeys, modest, calm, conditions, laid).
  DERIVED. THE GIVEN ROWS OF THIS SEAT. 3 by the template 'for every input the law returns true; each argument reads behind the call as it read before'; 0 by the template 'total and deterministic' (their statements: YtdgnlcjhdkcjeaaTotals.lean).
  GIVEN WITH THE SEED: the statements are not yours to turn. If you find one false, say at which input.
  Laid BY PROGRAM, IN A SANDBOX (cutbox-rows.mjs): the forced cells as the released guide's own fill.sh prints them over the translation 4e0ff74a61d2d82d… (all of the seat's roots in one cut). By AI agents, Wed Nov 11 2026. No macro, syntax, notation, axiom, sorry.
-/
import Derived.Test.YtdgnlcjhdkcjeaaChecked
import GoSem.Claim
import GoSem.ClaimJoined
import GoSem.ClaimMapViews
import Derived.JoinedTies
import Derived.KernelRfl
namespace Go.Proofs.Ytdgnlcjhdkcjeaa
/- THE CELL 'sum', in the pinned program and in every row, IS THE sha256 OF THE DUMP (.gsa) THAT YtdgnlcjhdkcjeaaProg.lean LOADS. Nothing in Lean hashes anything: it is a label: what it is worth is what the hold of that sum in a sandbox is worth. -/
noncomputable def Try.pinned : Pinned := { name := "ytdgnlcjhdkcjeaa", sum := "4e0ff74a61d2d82d44128fc8791d37e0e05225c1942eb637b83ffee29e5c2952", checked := Try.checked }
namespace Rows
def none {H : Type} : Left H := { results := [], args := [] }

/-- 'gambitlaw17.ZoneNames': WHATEVER THE INPUT: true; the input reads as it did. -/
def zoneNamesSpec : ChangeSpec := { name := "zoneNames", fn := fun _ => fun
  | [] => { results := [.lit (.bool true)], args := [] }
  | _ => none }
def zoneNamesRow : OpenClaim := { program := "ytdgnlcjhdkcjeaa", sum := "4e0ff74a61d2d82d44128fc8791d37e0e05225c1942eb637b83ffee29e5c2952", func := "gambit/gambitlaw17.ZoneNames", spec := "zoneNames", unfollowed := true, recurses := true, apart := false }
def ZoneNamesSaid : Prop := zoneNamesRow.holds Try.pinned (OpenSpec.ofChange zoneNamesSpec)

/-- ITS FALSE NEIGHBOUR: 'it returns false'. Refute it at one input. -/
def zoneNamesWrong : ChangeSpec := { name := "zoneNames", fn := fun _ => fun
  | [] => { results := [.lit (.bool false)], args := [] }
  | _ => none }
def ZoneNamesWrongFalsely : Prop := zoneNamesRow.holds Try.pinned (OpenSpec.ofChange zoneNamesWrong)

/-- 'gambitlaw17.ZoneNil': WHATEVER THE INPUT: true; the input reads as it did. -/
def zoneNilSpec : ChangeSpec := { name := "zoneNil", fn := fun _ => fun
  | [d1, d2, d3, d4] => { results := [.lit (.bool true)], args := [d1, d2, d3, d4] }
  | _ => none }
def zoneNilRow : OpenClaim := { program := "ytdgnlcjhdkcjeaa", sum := "4e0ff74a61d2d82d44128fc8791d37e0e05225c1942eb637b83ffee29e5c2952", func := "gambit/gambitlaw17.ZoneNil", spec := "zoneNil", unfollowed := true, recurses := true, apart := false }
def ZoneNilSaid : Prop := zoneNilRow.holds Try.pinned (OpenSpec.ofChange zoneNilSpec)

/-- ITS FALSE NEIGHBOUR: 'it returns false'. Refute it at one input. -/
def zoneNilWrong : ChangeSpec := { name := "zoneNil", fn := fun _ => fun
  | [d1, d2, d3, d4] => { results := [.lit (.bool false)], args := [d1, d2, d3, d4] }
  | _ => none }
def ZoneNilWrongFalsely : Prop := zoneNilRow.holds Try.pinned (OpenSpec.ofChange zoneNilWrong)

/-- 'gambitlaw17.ZoneSound': WHATEVER THE INPUT: true; the input reads as it did. -/
def zoneSoundSpec : ChangeSpec := { name := "zoneSound", fn := fun _ => fun
  | [d1, d2, d3] => { results := [.lit (.bool true)], args := [d1, d2, d3] }
  | _ => none }
def zoneSoundRow : OpenClaim := { program := "ytdgnlcjhdkcjeaa", sum := "4e0ff74a61d2d82d44128fc8791d37e0e05225c1942eb637b83ffee29e5c2952", func := "gambit/gambitlaw17.ZoneSound", spec := "zoneSound", unfollowed := true, recurses := true, apart := false }
def ZoneSoundSaid : Prop := zoneSoundRow.holds Try.pinned (OpenSpec.ofChange zoneSoundSpec)

/-- ITS FALSE NEIGHBOUR: 'it returns false'. Refute it at one input. -/
def zoneSoundWrong : ChangeSpec := { name := "zoneSound", fn := fun _ => fun
  | [d1, d2, d3] => { results := [.lit (.bool false)], args := [d1, d2, d3] }
  | _ => none }
def ZoneSoundWrongFalsely : Prop := zoneSoundRow.holds Try.pinned (OpenSpec.ofChange zoneSoundWrong)

/- THE SECOND FORM. 'bulk': how many values and letters a reading holds, each counted each time it is reached (what is shared counts as often as it is met; a slice's spare places count too). A statement '..UptoSaid' is the law's where the arguments, and the package variables that the reading takes, are together of bulk at most 1048576: NARROWER than '..Said'. Prove '..Said' where nothing that the law and all that it calls make is longer than what came in: it says more and counts as full. Else prove '..UptoSaid'. A law counts once. -/
mutual
def uptoBulk {H : Type} : DataW H → Nat
  | .lit (.string bytes) => bytes.length + 1
  | .lit _ => 1
  | .nil => 1
  | .ptr d => uptoBulk d + 1
  | .slice elems spare => uptoBulkAll elems + uptoBulkAll spare + 1
  | .agg parts => uptoBulkAll parts + 1
  | .iface _ d => uptoBulk d + 1
  | .map entries => uptoBulkEntries entries + 1
  | .held _ => 1
def uptoBulkAll {H : Type} : List (DataW H) → Nat
  | [] => 0
  | d :: r => uptoBulk d + uptoBulkAll r
def uptoBulkEntries {H : Type} : List (Lit × DataW H) → Nat
  | [] => 0
  | x :: r => uptoBulkEntry x + uptoBulkEntries r
def uptoBulkEntry {H : Type} : Lit × DataW H → Nat
  | (.string bytes, d) => bytes.length + uptoBulk d + 1
  | (_, d) => uptoBulk d + 1
 end
def uptoSmall : (H : Type) → List (DataW H) → Bool := fun _ ds => decide (uptoBulkAll ds ≤ 1048576)
def OpenSpec.upto (s : _root_.Go.ChangeSpec) : _root_.Go.OpenSpec := { _root_.Go.OpenSpec.ofChange s with cond := some uptoSmall }

/-- 'gambitlaw17.ZoneNames', WHERE WHAT IT READS IS OF BULK AT MOST 1048576: true; the input reads as it did. -/
def zoneNamesUptoRow : OpenClaim := { program := "ytdgnlcjhdkcjeaa", sum := "4e0ff74a61d2d82d44128fc8791d37e0e05225c1942eb637b83ffee29e5c2952", func := "gambit/gambitlaw17.ZoneNames", spec := "zoneNames", unfollowed := true, recurses := true, apart := false, narrowed := true }
def ZoneNamesUptoSaid : Prop := zoneNamesUptoRow.holds Try.pinned (OpenSpec.upto zoneNamesSpec)

/-- 'gambitlaw17.ZoneNil', WHERE WHAT IT READS IS OF BULK AT MOST 1048576: true; the input reads as it did. -/
def zoneNilUptoRow : OpenClaim := { program := "ytdgnlcjhdkcjeaa", sum := "4e0ff74a61d2d82d44128fc8791d37e0e05225c1942eb637b83ffee29e5c2952", func := "gambit/gambitlaw17.ZoneNil", spec := "zoneNil", unfollowed := true, recurses := true, apart := false, narrowed := true }
def ZoneNilUptoSaid : Prop := zoneNilUptoRow.holds Try.pinned (OpenSpec.upto zoneNilSpec)

/-- 'gambitlaw17.ZoneSound', WHERE WHAT IT READS IS OF BULK AT MOST 1048576: true; the input reads as it did. -/
def zoneSoundUptoRow : OpenClaim := { program := "ytdgnlcjhdkcjeaa", sum := "4e0ff74a61d2d82d44128fc8791d37e0e05225c1942eb637b83ffee29e5c2952", func := "gambit/gambitlaw17.ZoneSound", spec := "zoneSound", unfollowed := true, recurses := true, apart := false, narrowed := true }
def ZoneSoundUptoSaid : Prop := zoneSoundUptoRow.holds Try.pinned (OpenSpec.upto zoneSoundSpec)

end Rows
end Go.Proofs.Ytdgnlcjhdkcjeaa
