/-
  No cell of these rows narrows 'for every input' (looked for: loops, veiled, ifaces, maps, wideKeys, modest, calm, conditions, laid).
  DERIVED. THE GIVEN ROWS OF THIS SEAT. 4 by the template 'for every input the law returns true; each argument reads behind the call as it read before'; 0 by the template 'total and deterministic' (their statements: YtmepidalecdmkaaTotals.lean).
  GIVEN WITH THE SEED: the statements are not yours to turn. If you find one false, say at which input.
  Laid BY PROGRAM, IN A SANDBOX (cutbox-rows.mjs): the forced cells as the released guide's own fill.sh prints them over the translation 1d238cfbaa3ef98d… (all of the seat's roots in one cut). By AI agents, Wed Nov 11 2026. No macro, syntax, notation, axiom, sorry.
-/
import Derived.Test.YtmepidalecdmkaaChecked
import GoSem.Claim
import GoSem.ClaimJoined
import GoSem.ClaimMapViews
import Derived.JoinedTies
import Derived.KernelRfl
namespace Go.Proofs.Ytmepidalecdmkaa
/- THE CELL 'sum', in the pinned program and in every row, IS THE sha256 OF THE DUMP (.gsa) THAT YtmepidalecdmkaaProg.lean LOADS. Nothing in Lean hashes anything: it is a label: what it is worth is what the hold of that sum in a sandbox is worth. -/
noncomputable def Try.pinned : Pinned := { name := "ytmepidalecdmkaa", sum := "1d238cfbaa3ef98d88ae40b51ca56d9b2d1d6cbad9f9728c7143fece89edd1f4", checked := Try.checked }
namespace Rows
def none {H : Type} : Left H := { results := [], args := [] }

/-- 'gambitlaw07.BookOrder': WHATEVER THE INPUT: true; the input reads as it did. -/
def bookOrderSpec : ChangeSpec := { name := "bookOrder", fn := fun _ => fun
  | [d1, d2, d3] => { results := [.lit (.bool true)], args := [d1, d2, d3] }
  | _ => none }
def bookOrderRow : OpenClaim := { program := "ytmepidalecdmkaa", sum := "1d238cfbaa3ef98d88ae40b51ca56d9b2d1d6cbad9f9728c7143fece89edd1f4", func := "gambit/gambitlaw07.BookOrder", spec := "bookOrder", unfollowed := true, recurses := true, apart := false }
def BookOrderSaid : Prop := bookOrderRow.holds Try.pinned (OpenSpec.ofChange bookOrderSpec)

/-- ITS FALSE NEIGHBOUR: 'it returns false'. Refute it at one input. -/
def bookOrderWrong : ChangeSpec := { name := "bookOrder", fn := fun _ => fun
  | [d1, d2, d3] => { results := [.lit (.bool false)], args := [d1, d2, d3] }
  | _ => none }
def BookOrderWrongFalsely : Prop := bookOrderRow.holds Try.pinned (OpenSpec.ofChange bookOrderWrong)

/-- 'gambitlaw07.BookNumbers': WHATEVER THE INPUT: true; the input reads as it did. -/
def bookNumbersSpec : ChangeSpec := { name := "bookNumbers", fn := fun _ => fun
  | [d1, d2] => { results := [.lit (.bool true)], args := [d1, d2] }
  | _ => none }
def bookNumbersRow : OpenClaim := { program := "ytmepidalecdmkaa", sum := "1d238cfbaa3ef98d88ae40b51ca56d9b2d1d6cbad9f9728c7143fece89edd1f4", func := "gambit/gambitlaw07.BookNumbers", spec := "bookNumbers", unfollowed := true, recurses := true, apart := false }
def BookNumbersSaid : Prop := bookNumbersRow.holds Try.pinned (OpenSpec.ofChange bookNumbersSpec)

/-- ITS FALSE NEIGHBOUR: 'it returns false'. Refute it at one input. -/
def bookNumbersWrong : ChangeSpec := { name := "bookNumbers", fn := fun _ => fun
  | [d1, d2] => { results := [.lit (.bool false)], args := [d1, d2] }
  | _ => none }
def BookNumbersWrongFalsely : Prop := bookNumbersRow.holds Try.pinned (OpenSpec.ofChange bookNumbersWrong)

/-- 'gambitlaw08.AirCards': WHATEVER THE INPUT: true; the input reads as it did. -/
def airCardsSpec : ChangeSpec := { name := "airCards", fn := fun _ => fun
  | [] => { results := [.lit (.bool true)], args := [] }
  | _ => none }
def airCardsRow : OpenClaim := { program := "ytmepidalecdmkaa", sum := "1d238cfbaa3ef98d88ae40b51ca56d9b2d1d6cbad9f9728c7143fece89edd1f4", func := "gambit/gambitlaw08.AirCards", spec := "airCards", unfollowed := true, recurses := true, apart := false }
def AirCardsSaid : Prop := airCardsRow.holds Try.pinned (OpenSpec.ofChange airCardsSpec)

/-- ITS FALSE NEIGHBOUR: 'it returns false'. Refute it at one input. -/
def airCardsWrong : ChangeSpec := { name := "airCards", fn := fun _ => fun
  | [] => { results := [.lit (.bool false)], args := [] }
  | _ => none }
def AirCardsWrongFalsely : Prop := airCardsRow.holds Try.pinned (OpenSpec.ofChange airCardsWrong)

/-- 'gambitlaw08.AirBegins': WHATEVER THE INPUT: true; the input reads as it did. -/
def airBeginsSpec : ChangeSpec := { name := "airBegins", fn := fun _ => fun
  | [d1, d2] => { results := [.lit (.bool true)], args := [d1, d2] }
  | _ => none }
def airBeginsRow : OpenClaim := { program := "ytmepidalecdmkaa", sum := "1d238cfbaa3ef98d88ae40b51ca56d9b2d1d6cbad9f9728c7143fece89edd1f4", func := "gambit/gambitlaw08.AirBegins", spec := "airBegins", apart := false }
def AirBeginsSaid : Prop := airBeginsRow.holds Try.pinned (OpenSpec.ofChange airBeginsSpec)

/-- ITS FALSE NEIGHBOUR: 'it returns false'. Refute it at one input. -/
def airBeginsWrong : ChangeSpec := { name := "airBegins", fn := fun _ => fun
  | [d1, d2] => { results := [.lit (.bool false)], args := [d1, d2] }
  | _ => none }
def AirBeginsWrongFalsely : Prop := airBeginsRow.holds Try.pinned (OpenSpec.ofChange airBeginsWrong)

/- THE SECOND FORM. 'bulk': how many values and letters a reading holds, each counted each time it is reached (what is shared counts as often as it is met; a slice's spare places count too). A statement '..UptoSaid' is the law's where the arguments, and the package variables that the reading takes, are together of bulk at most 1048576: NARROWER than '..Said'. Prove '..Said' where nothing that the law and all that it calls make is longer than what came in: it says more and counts as full. Else prove '..UptoSaid'. A law counts once. -/
mutual
def uptoBulk {H : Type} : DataW H → Nat
  | .lit (.string bytes) => bytes.length + 1
  | .lit _ => 1
  | .nil => 1
  | .ptr d => uptoBulk d + 1
  | .slice elems spare => uptoBulkAll elems + uptoBulkAll spare + 1
  | .agg parts => uptoBulkAll parts + 1
  | .iface _ d => uptoBulk d + 1
  | .map entries => uptoBulkEntries entries + 1
  | .held _ => 1
def uptoBulkAll {H : Type} : List (DataW H) → Nat
  | [] => 0
  | d :: r => uptoBulk d + uptoBulkAll r
def uptoBulkEntries {H : Type} : List (Lit × DataW H) → Nat
  | [] => 0
  | x :: r => uptoBulkEntry x + uptoBulkEntries r
def uptoBulkEntry {H : Type} : Lit × DataW H → Nat
  | (.string bytes, d) => bytes.length + uptoBulk d + 1
  | (_, d) => uptoBulk d + 1
 end
def uptoSmall : (H : Type) → List (DataW H) → Bool := fun _ ds => decide (uptoBulkAll ds ≤ 1048576)
def OpenSpec.upto (s : _root_.Go.ChangeSpec) : _root_.Go.OpenSpec := { _root_.Go.OpenSpec.ofChange s with cond := some uptoSmall }

/-- 'gambitlaw07.BookOrder', WHERE WHAT IT READS IS OF BULK AT MOST 1048576: true; the input reads as it did. -/
def bookOrderUptoRow : OpenClaim := { program := "ytmepidalecdmkaa", sum := "1d238cfbaa3ef98d88ae40b51ca56d9b2d1d6cbad9f9728c7143fece89edd1f4", func := "gambit/gambitlaw07.BookOrder", spec := "bookOrder", unfollowed := true, recurses := true, apart := false, narrowed := true }
def BookOrderUptoSaid : Prop := bookOrderUptoRow.holds Try.pinned (OpenSpec.upto bookOrderSpec)

/-- 'gambitlaw07.BookNumbers', WHERE WHAT IT READS IS OF BULK AT MOST 1048576: true; the input reads as it did. -/
def bookNumbersUptoRow : OpenClaim := { program := "ytmepidalecdmkaa", sum := "1d238cfbaa3ef98d88ae40b51ca56d9b2d1d6cbad9f9728c7143fece89edd1f4", func := "gambit/gambitlaw07.BookNumbers", spec := "bookNumbers", unfollowed := true, recurses := true, apart := false, narrowed := true }
def BookNumbersUptoSaid : Prop := bookNumbersUptoRow.holds Try.pinned (OpenSpec.upto bookNumbersSpec)

/-- 'gambitlaw08.AirCards', WHERE WHAT IT READS IS OF BULK AT MOST 1048576: true; the input reads as it did. -/
def airCardsUptoRow : OpenClaim := { program := "ytmepidalecdmkaa", sum := "1d238cfbaa3ef98d88ae40b51ca56d9b2d1d6cbad9f9728c7143fece89edd1f4", func := "gambit/gambitlaw08.AirCards", spec := "airCards", unfollowed := true, recurses := true, apart := false, narrowed := true }
def AirCardsUptoSaid : Prop := airCardsUptoRow.holds Try.pinned (OpenSpec.upto airCardsSpec)

/-- 'gambitlaw08.AirBegins', WHERE WHAT IT READS IS OF BULK AT MOST 1048576: true; the input reads as it did. -/
def airBeginsUptoRow : OpenClaim := { program := "ytmepidalecdmkaa", sum := "1d238cfbaa3ef98d88ae40b51ca56d9b2d1d6cbad9f9728c7143fece89edd1f4", func := "gambit/gambitlaw08.AirBegins", spec := "airBegins", apart := false, narrowed := true }
def AirBeginsUptoSaid : Prop := airBeginsUptoRow.holds Try.pinned (OpenSpec.upto airBeginsSpec)

end Rows
end Go.Proofs.Ytmepidalecdmkaa
