/-
  No cell of these rows narrows 'for every input' (looked for: loops, veiled, ifaces, maps, wideKeys, modest, calm, conditions, laid).
  DERIVED. THE GIVEN ROWS OF THIS SEAT. 6 by the template 'for every input the law returns true; each argument reads behind the call as it read before'; 0 by the template 'total and deterministic' (their statements: YthfjgpjcepmnmaaGreatTotals.lean).
  GIVEN WITH THE SEED: the statements are not yours to turn. If you find one false, say at which input.
  Laid BY PROGRAM, IN A SANDBOX (cutbox-rows.mjs): the forced cells as the released guide's own fill.sh prints them over the translation b02aaf6b8fd5fb94… (all of the seat's roots in one cut). By AI agents, Wed Nov 11 2026. No macro, syntax, notation, axiom, sorry.
-/
import Derived.Test.YthfjgpjcepmnmaaGreatChecked
import GoSem.Claim
import GoSem.ClaimJoined
import GoSem.ClaimMapViews
import Derived.JoinedTies
import Derived.KernelRfl
namespace Go.Proofs.YthfjgpjcepmnmaaGreat
/- THE CELL 'sum', in the pinned program and in every row, IS THE sha256 OF THE DUMP (.gsa) THAT YthfjgpjcepmnmaaGreatProg.lean LOADS. Nothing in Lean hashes anything: it is a label: what it is worth is what the hold of that sum in a sandbox is worth. -/
noncomputable def Tryz.pinned : Pinned := { name := "ythfjgpjcepmnmaagreat", sum := "b02aaf6b8fd5fb9496ca6f19d9207f7d771dded01ff3a15a828d1480eeaddf97", checked := Tryz.checked }
namespace Rows
def none {H : Type} : Left H := { results := [], args := [] }

/-- 'gambitlaw21.SwapNames': WHATEVER THE INPUT: true; the input reads as it did. -/
def swapNamesSpec : ChangeSpec := { name := "swapNames", fn := fun _ => fun
  | [] => { results := [.lit (.bool true)], args := [] }
  | _ => none }
def swapNamesRow : OpenClaim := { program := "ythfjgpjcepmnmaagreat", sum := "b02aaf6b8fd5fb9496ca6f19d9207f7d771dded01ff3a15a828d1480eeaddf97", func := "gambit/gambitlaw21.SwapNames", spec := "swapNames", unfollowed := true, recurses := true, apart := false }
def SwapNamesSaid : Prop := swapNamesRow.holds Tryz.pinned (OpenSpec.ofChange swapNamesSpec)

/-- ITS FALSE NEIGHBOUR: 'it returns false'. Refute it at one input. -/
def swapNamesWrong : ChangeSpec := { name := "swapNames", fn := fun _ => fun
  | [] => { results := [.lit (.bool false)], args := [] }
  | _ => none }
def SwapNamesWrongFalsely : Prop := swapNamesRow.holds Tryz.pinned (OpenSpec.ofChange swapNamesWrong)

/-- 'gambitlaw21.SwapLists': WHATEVER THE INPUT: true; the input reads as it did. -/
def swapListsSpec : ChangeSpec := { name := "swapLists", fn := fun _ => fun
  | [d] => { results := [.lit (.bool true)], args := [d] }
  | _ => none }
def swapListsRow : OpenClaim := { program := "ythfjgpjcepmnmaagreat", sum := "b02aaf6b8fd5fb9496ca6f19d9207f7d771dded01ff3a15a828d1480eeaddf97", func := "gambit/gambitlaw21.SwapLists", spec := "swapLists", unfollowed := true, recurses := true, apart := false }
def SwapListsSaid : Prop := swapListsRow.holds Tryz.pinned (OpenSpec.ofChange swapListsSpec)

/-- ITS FALSE NEIGHBOUR: 'it returns false'. Refute it at one input. -/
def swapListsWrong : ChangeSpec := { name := "swapLists", fn := fun _ => fun
  | [d] => { results := [.lit (.bool false)], args := [d] }
  | _ => none }
def SwapListsWrongFalsely : Prop := swapListsRow.holds Tryz.pinned (OpenSpec.ofChange swapListsWrong)

/-- 'gambitlaw21.SwapAll': WHATEVER THE INPUT: true; the input reads as it did. -/
def swapAllSpec : ChangeSpec := { name := "swapAll", fn := fun _ => fun
  | [d1, d2, d3, d4] => { results := [.lit (.bool true)], args := [d1, d2, d3, d4] }
  | _ => none }
def swapAllRow : OpenClaim := { program := "ythfjgpjcepmnmaagreat", sum := "b02aaf6b8fd5fb9496ca6f19d9207f7d771dded01ff3a15a828d1480eeaddf97", func := "gambit/gambitlaw21.SwapAll", spec := "swapAll", unfollowed := true, recurses := true, apart := false }
def SwapAllSaid : Prop := swapAllRow.holds Tryz.pinned (OpenSpec.ofChange swapAllSpec)

/-- ITS FALSE NEIGHBOUR: 'it returns false'. Refute it at one input. -/
def swapAllWrong : ChangeSpec := { name := "swapAll", fn := fun _ => fun
  | [d1, d2, d3, d4] => { results := [.lit (.bool false)], args := [d1, d2, d3, d4] }
  | _ => none }
def SwapAllWrongFalsely : Prop := swapAllRow.holds Tryz.pinned (OpenSpec.ofChange swapAllWrong)

/-- 'gambitlaw21.SwapOnce': WHATEVER THE INPUT: true; the input reads as it did. -/
def swapOnceSpec : ChangeSpec := { name := "swapOnce", fn := fun _ => fun
  | [d1, d2, d3] => { results := [.lit (.bool true)], args := [d1, d2, d3] }
  | _ => none }
def swapOnceRow : OpenClaim := { program := "ythfjgpjcepmnmaagreat", sum := "b02aaf6b8fd5fb9496ca6f19d9207f7d771dded01ff3a15a828d1480eeaddf97", func := "gambit/gambitlaw21.SwapOnce", spec := "swapOnce", unfollowed := true, recurses := true, apart := false }
def SwapOnceSaid : Prop := swapOnceRow.holds Tryz.pinned (OpenSpec.ofChange swapOnceSpec)

/-- ITS FALSE NEIGHBOUR: 'it returns false'. Refute it at one input. -/
def swapOnceWrong : ChangeSpec := { name := "swapOnce", fn := fun _ => fun
  | [d1, d2, d3] => { results := [.lit (.bool false)], args := [d1, d2, d3] }
  | _ => none }
def SwapOnceWrongFalsely : Prop := swapOnceRow.holds Tryz.pinned (OpenSpec.ofChange swapOnceWrong)

/-- 'gambitlaw19.LayerAll': WHATEVER THE INPUT: true; the input reads as it did. -/
def layerAllSpec : ChangeSpec := { name := "layerAll", fn := fun _ => fun
  | [d1, d2, d3, d4] => { results := [.lit (.bool true)], args := [d1, d2, d3, d4] }
  | _ => none }
def layerAllRow : OpenClaim := { program := "ythfjgpjcepmnmaagreat", sum := "b02aaf6b8fd5fb9496ca6f19d9207f7d771dded01ff3a15a828d1480eeaddf97", func := "gambit/gambitlaw19.LayerAll", spec := "layerAll", unfollowed := true, recurses := true, apart := false }
def LayerAllSaid : Prop := layerAllRow.holds Tryz.pinned (OpenSpec.ofChange layerAllSpec)

/-- ITS FALSE NEIGHBOUR: 'it returns false'. Refute it at one input. -/
def layerAllWrong : ChangeSpec := { name := "layerAll", fn := fun _ => fun
  | [d1, d2, d3, d4] => { results := [.lit (.bool false)], args := [d1, d2, d3, d4] }
  | _ => none }
def LayerAllWrongFalsely : Prop := layerAllRow.holds Tryz.pinned (OpenSpec.ofChange layerAllWrong)

/-- 'gambitlaw20.ViewCalls': WHATEVER THE INPUT: true; the input reads as it did. -/
def viewCallsSpec : ChangeSpec := { name := "viewCalls", fn := fun _ => fun
  | [d1, d2, d3, d4] => { results := [.lit (.bool true)], args := [d1, d2, d3, d4] }
  | _ => none }
def viewCallsRow : OpenClaim := { program := "ythfjgpjcepmnmaagreat", sum := "b02aaf6b8fd5fb9496ca6f19d9207f7d771dded01ff3a15a828d1480eeaddf97", func := "gambit/gambitlaw20.ViewCalls", spec := "viewCalls", unfollowed := true, recurses := true, apart := false }
def ViewCallsSaid : Prop := viewCallsRow.holds Tryz.pinned (OpenSpec.ofChange viewCallsSpec)

/-- ITS FALSE NEIGHBOUR: 'it returns false'. Refute it at one input. -/
def viewCallsWrong : ChangeSpec := { name := "viewCalls", fn := fun _ => fun
  | [d1, d2, d3, d4] => { results := [.lit (.bool false)], args := [d1, d2, d3, d4] }
  | _ => none }
def ViewCallsWrongFalsely : Prop := viewCallsRow.holds Tryz.pinned (OpenSpec.ofChange viewCallsWrong)

/- THE SECOND FORM. 'bulk': how many values and letters a reading holds, each counted each time it is reached (what is shared counts as often as it is met; a slice's spare places count too). A statement '..UptoSaid' is the law's where the arguments, and the package variables that the reading takes, are together of bulk at most 1048576: NARROWER than '..Said'. Prove '..Said' where nothing that the law and all that it calls make is longer than what came in: it says more and counts as full. Else prove '..UptoSaid'. A law counts once. -/
mutual
def uptoBulk {H : Type} : DataW H → Nat
  | .lit (.string bytes) => bytes.length + 1
  | .lit _ => 1
  | .nil => 1
  | .ptr d => uptoBulk d + 1
  | .slice elems spare => uptoBulkAll elems + uptoBulkAll spare + 1
  | .agg parts => uptoBulkAll parts + 1
  | .iface _ d => uptoBulk d + 1
  | .map entries => uptoBulkEntries entries + 1
  | .held _ => 1
def uptoBulkAll {H : Type} : List (DataW H) → Nat
  | [] => 0
  | d :: r => uptoBulk d + uptoBulkAll r
def uptoBulkEntries {H : Type} : List (Lit × DataW H) → Nat
  | [] => 0
  | x :: r => uptoBulkEntry x + uptoBulkEntries r
def uptoBulkEntry {H : Type} : Lit × DataW H → Nat
  | (.string bytes, d) => bytes.length + uptoBulk d + 1
  | (_, d) => uptoBulk d + 1
 end
def uptoSmall : (H : Type) → List (DataW H) → Bool := fun _ ds => decide (uptoBulkAll ds ≤ 1048576)
def OpenSpec.upto (s : _root_.Go.ChangeSpec) : _root_.Go.OpenSpec := { _root_.Go.OpenSpec.ofChange s with cond := some uptoSmall }

/-- 'gambitlaw21.SwapNames', WHERE WHAT IT READS IS OF BULK AT MOST 1048576: true; the input reads as it did. -/
def swapNamesUptoRow : OpenClaim := { program := "ythfjgpjcepmnmaagreat", sum := "b02aaf6b8fd5fb9496ca6f19d9207f7d771dded01ff3a15a828d1480eeaddf97", func := "gambit/gambitlaw21.SwapNames", spec := "swapNames", unfollowed := true, recurses := true, apart := false, narrowed := true }
def SwapNamesUptoSaid : Prop := swapNamesUptoRow.holds Tryz.pinned (OpenSpec.upto swapNamesSpec)

/-- 'gambitlaw21.SwapLists', WHERE WHAT IT READS IS OF BULK AT MOST 1048576: true; the input reads as it did. -/
def swapListsUptoRow : OpenClaim := { program := "ythfjgpjcepmnmaagreat", sum := "b02aaf6b8fd5fb9496ca6f19d9207f7d771dded01ff3a15a828d1480eeaddf97", func := "gambit/gambitlaw21.SwapLists", spec := "swapLists", unfollowed := true, recurses := true, apart := false, narrowed := true }
def SwapListsUptoSaid : Prop := swapListsUptoRow.holds Tryz.pinned (OpenSpec.upto swapListsSpec)

/-- 'gambitlaw21.SwapAll', WHERE WHAT IT READS IS OF BULK AT MOST 1048576: true; the input reads as it did. -/
def swapAllUptoRow : OpenClaim := { program := "ythfjgpjcepmnmaagreat", sum := "b02aaf6b8fd5fb9496ca6f19d9207f7d771dded01ff3a15a828d1480eeaddf97", func := "gambit/gambitlaw21.SwapAll", spec := "swapAll", unfollowed := true, recurses := true, apart := false, narrowed := true }
def SwapAllUptoSaid : Prop := swapAllUptoRow.holds Tryz.pinned (OpenSpec.upto swapAllSpec)

/-- 'gambitlaw21.SwapOnce', WHERE WHAT IT READS IS OF BULK AT MOST 1048576: true; the input reads as it did. -/
def swapOnceUptoRow : OpenClaim := { program := "ythfjgpjcepmnmaagreat", sum := "b02aaf6b8fd5fb9496ca6f19d9207f7d771dded01ff3a15a828d1480eeaddf97", func := "gambit/gambitlaw21.SwapOnce", spec := "swapOnce", unfollowed := true, recurses := true, apart := false, narrowed := true }
def SwapOnceUptoSaid : Prop := swapOnceUptoRow.holds Tryz.pinned (OpenSpec.upto swapOnceSpec)

/-- 'gambitlaw19.LayerAll', WHERE WHAT IT READS IS OF BULK AT MOST 1048576: true; the input reads as it did. -/
def layerAllUptoRow : OpenClaim := { program := "ythfjgpjcepmnmaagreat", sum := "b02aaf6b8fd5fb9496ca6f19d9207f7d771dded01ff3a15a828d1480eeaddf97", func := "gambit/gambitlaw19.LayerAll", spec := "layerAll", unfollowed := true, recurses := true, apart := false, narrowed := true }
def LayerAllUptoSaid : Prop := layerAllUptoRow.holds Tryz.pinned (OpenSpec.upto layerAllSpec)

/-- 'gambitlaw20.ViewCalls', WHERE WHAT IT READS IS OF BULK AT MOST 1048576: true; the input reads as it did. -/
def viewCallsUptoRow : OpenClaim := { program := "ythfjgpjcepmnmaagreat", sum := "b02aaf6b8fd5fb9496ca6f19d9207f7d771dded01ff3a15a828d1480eeaddf97", func := "gambit/gambitlaw20.ViewCalls", spec := "viewCalls", unfollowed := true, recurses := true, apart := false, narrowed := true }
def ViewCallsUptoSaid : Prop := viewCallsUptoRow.holds Tryz.pinned (OpenSpec.upto viewCallsSpec)

end Rows
end Go.Proofs.YthfjgpjcepmnmaaGreat
