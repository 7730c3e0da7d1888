/-
  What the package's tables of names and of who beats whom hold when the call begins, as the row says it; a start that meets it.
-/
import Derived.Test.YtmnkibnbnhjncaaDoorSuit
import Derived.ProofKit
import Derived.OpenShut
import Derived.ChangeSame
import Derived.ChangeVars
import Derived.JoinedOf
import Derived.LaidLaws
namespace Go.Proofs.YtmnkibnbnhjncaaDoor
open Go.ChangeShapes Go.WideShapes Go.ChangeAt Go.RowKit

theorem Tryd.own : ownKnob Tryd.prog.godebug = none := by kernel_rfl
theorem Tryd.gN : Tryd.prog.globalNamed "gambit/suit.names" = some 0 := by kernel_rfl
theorem Tryd.gR : Tryd.prog.globalNamed "gambit/suit.ring" = some 1 := by kernel_rfl
theorem Tryd.gNType : (Tryd.prog.globals[0]?).map (·.type) = some 37 := by kernel_rfl
theorem Tryd.gRType : (Tryd.prog.globals[1]?).map (·.type) = some 39 := by kernel_rfl
theorem Tryd.cells37' : Tryd.prog.cellsOf 37 = 7 := by kernel_rfl
theorem Tryd.cells39' : Tryd.prog.cellsOf 39 = 7 := by kernel_rfl
theorem Tryd.cells9' : Tryd.prog.cellsOf 9 = 1 := by kernel_rfl
theorem Tryd.cells22' : Tryd.prog.cellsOf 22 = 1 := by kernel_rfl
def cellsN : Array Value := #[.string ⟨#[]⟩, .string ⟨#[97, 105, 114]⟩, .string ⟨#[101, 97, 114, 116, 104]⟩, .string ⟨#[102, 105, 114, 101]⟩, .string ⟨#[119, 97, 116, 101, 114]⟩, .string ⟨#[118, 111, 105, 100]⟩, .string ⟨#[103, 111, 108, 100]⟩]
def cellsR : Array Value := #[.int .u8 0, .int .u8 2, .int .u8 4, .int .u8 5, .int .u8 3, .int .u8 6, .int .u8 1]
theorem str_of_trod {H : Type} {enc : TypeId × Value → H} {w : World} {base : Nat} {sp : Nat → Bool} {held : Bool} {fuel : Nat} {c : Value} {y : DataW H × List MemPlace}
    (h : DataW.trod enc Tryd.prog w base sp held fuel 9 [c] = some y) : ∃ s : ByteArray, c = .string s ∧ y = (.lit (.string s.data.toList), []) := by
  obtain ⟨s, hc, hy, _⟩ := DataW.trod_string Tryd.underlying9 h
  simp only [List.cons.injEq, and_true] at hc
  exact ⟨s, hc, hy⟩
theorem u8_of_trod {H : Type} {enc : TypeId × Value → H} {w : World} {base : Nat} {sp : Nat → Bool} {held : Bool} {fuel : Nat} {c : Value} {y : DataW H × List MemPlace}
    (h : DataW.trod enc Tryd.prog w base sp held fuel 22 [c] = some y) : ∃ z : Int, c = .int .u8 z ∧ y = (.lit (.int .u8 z), []) := by
  obtain ⟨z, hc, hy, _⟩ := DataW.trod_int Tryd.underlying22 h
  simp only [List.cons.injEq, and_true] at hc
  exact ⟨z, hc, hy⟩
theorem ba_of_list {s : ByteArray} {l : List UInt8} (h : s.data.toList = l) : s = ⟨l.toArray⟩ := by
  obtain ⟨⟨d⟩⟩ := s
  simp only at h
  rw [h]
theorem names_cells {W : World} {cs : Array Value} {fuel : Nat} {p : List MemPlace} {enc : TypeId × Value → Unit} {base : Nat} {sp : Nat → Bool} {held : Bool} (hd : DataW.trod enc Tryd.prog W base sp held fuel 37 cs.toList = some (Rows.laid_gambit_suit_names, p)) : cs = cellsN := by
  obtain ⟨l⟩ := cs
  cases fuel with
  | zero => simp [DataW.trod] at hd
  | succ fuel =>
    simp only [DataW.trod, Tryd.underlying37, Tryd.cells37', Tryd.cells9'] at hd
    split at hd
    · rename_i hl
      obtain ⟨c0, c1, c2, c3, c4, c5, c6, rfl⟩ : ∃ c0 c1 c2 c3 c4 c5 c6, l = [c0, c1, c2, c3, c4, c5, c6] := by
        match l, hl with
        | [a, b, c, d, e, f, g], _ => exact ⟨a, b, c, d, e, f, g, rfl⟩
      have e : List.range 7 = [0, 1, 2, 3, 4, 5, 6] := rfl
      rw [e] at hd
      simp only [Option.map_eq_some_iff, List.mapM_cons, List.mapM_nil, Option.bind_eq_bind, Option.bind_eq_some_iff, Option.pure_def, Option.some.injEq] at hd
      obtain ⟨xs, ⟨y0, h0, _, ⟨y1, h1, _, ⟨y2, h2, _, ⟨y3, h3, _, ⟨y4, h4, _, ⟨y5, h5, _, ⟨y6, h6, _, rfl, rfl⟩, rfl⟩, rfl⟩, rfl⟩, rfl⟩, rfl⟩, rfl⟩, hx⟩ := hd
      obtain ⟨n0, rfl, rfl⟩ := str_of_trod h0
      obtain ⟨n1, rfl, rfl⟩ := str_of_trod h1
      obtain ⟨n2, rfl, rfl⟩ := str_of_trod h2
      obtain ⟨n3, rfl, rfl⟩ := str_of_trod h3
      obtain ⟨n4, rfl, rfl⟩ := str_of_trod h4
      obtain ⟨n5, rfl, rfl⟩ := str_of_trod h5
      obtain ⟨n6, rfl, rfl⟩ := str_of_trod h6
      simp [Rows.laid_gambit_suit_names] at hx
      obtain ⟨⟨e0, e1, e2, e3, e4, e5, e6⟩, _⟩ := hx
      have e0' : n0 = ⟨#[]⟩ := by
        obtain ⟨d⟩ := n0
        simp at e0
        rw [e0]
      rw [e0', ba_of_list e1, ba_of_list e2, ba_of_list e3, ba_of_list e4, ba_of_list e5, ba_of_list e6]
      rfl
    · cases hd
theorem ring_cells {W : World} {cs : Array Value} {fuel : Nat} {p : List MemPlace} {enc : TypeId × Value → Unit} {base : Nat} {sp : Nat → Bool} {held : Bool} (hd : DataW.trod enc Tryd.prog W base sp held fuel 39 cs.toList = some (Rows.laid_gambit_suit_ring, p)) : cs = cellsR := by
  obtain ⟨l⟩ := cs
  cases fuel with
  | zero => simp [DataW.trod] at hd
  | succ fuel =>
    simp only [DataW.trod, Tryd.underlying39, Tryd.cells39', Tryd.cells22'] at hd
    split at hd
    · rename_i hl
      obtain ⟨c0, c1, c2, c3, c4, c5, c6, rfl⟩ : ∃ c0 c1 c2 c3 c4 c5 c6, l = [c0, c1, c2, c3, c4, c5, c6] := by
        match l, hl with
        | [a, b, c, d, e, f, g], _ => exact ⟨a, b, c, d, e, f, g, rfl⟩
      have e : List.range 7 = [0, 1, 2, 3, 4, 5, 6] := rfl
      rw [e] at hd
      simp only [Option.map_eq_some_iff, List.mapM_cons, List.mapM_nil, Option.bind_eq_bind, Option.bind_eq_some_iff, Option.pure_def, Option.some.injEq] at hd
      obtain ⟨xs, ⟨y0, h0, _, ⟨y1, h1, _, ⟨y2, h2, _, ⟨y3, h3, _, ⟨y4, h4, _, ⟨y5, h5, _, ⟨y6, h6, _, rfl, rfl⟩, rfl⟩, rfl⟩, rfl⟩, rfl⟩, rfl⟩, rfl⟩, hx⟩ := hd
      obtain ⟨n0, rfl, rfl⟩ := u8_of_trod h0
      obtain ⟨n1, rfl, rfl⟩ := u8_of_trod h1
      obtain ⟨n2, rfl, rfl⟩ := u8_of_trod h2
      obtain ⟨n3, rfl, rfl⟩ := u8_of_trod h3
      obtain ⟨n4, rfl, rfl⟩ := u8_of_trod h4
      obtain ⟨n5, rfl, rfl⟩ := u8_of_trod h5
      obtain ⟨n6, rfl, rfl⟩ := u8_of_trod h6
      simp [Rows.laid_gambit_suit_ring] at hx
      obtain ⟨⟨e0, e1, e2, e3, e4, e5, e6⟩, _⟩ := hx
      subst e0 e1 e2 e3 e4 e5 e6
      rfl
    · cases hd

theorem laid_of {W : World} (h : laidMet Tryd.prog [("gambit/suit.names", Rows.laid_gambit_suit_names), ("gambit/suit.ring", Rows.laid_gambit_suit_ring)] W) : LaidAt W := by
  obtain ⟨ps, ⟨g, t, cs, fuel, p, q, hg, ht, hvar, hd, ⟨g', t', cs', fuel', p', q', hg', ht', hvar', hd', _, _⟩, _⟩, _⟩ := h
  obtain rfl := Option.some.inj (Tryd.gN.symm.trans hg)
  obtain rfl := Option.some.inj (Tryd.gNType.symm.trans ht)
  obtain rfl := Option.some.inj (Tryd.gR.symm.trans hg')
  obtain rfl := Option.some.inj (Tryd.gRType.symm.trans ht')
  rw [names_cells hd] at hvar
  rw [ring_cells hd'] at hvar'
  exact ⟨⟨World.var?_cell Tryd.gN hvar 1, World.var?_cell Tryd.gN hvar 2, World.var?_cell Tryd.gN hvar 3, World.var?_cell Tryd.gN hvar 4, World.var?_cell Tryd.gN hvar 5, World.var?_cell Tryd.gN hvar 6⟩, ⟨World.var?_cell Tryd.gR hvar' 1, World.var?_cell Tryd.gR hvar' 2, World.var?_cell Tryd.gR hvar' 3, World.var?_cell Tryd.gR hvar' 4, World.var?_cell Tryd.gR hvar' 5, World.var?_cell Tryd.gR hvar' 6⟩⟩
def put7 (cs : Array Value) : Obj → Obj
  | .cells _ t frozen => .cells cs t frozen
  | o => o
theorem laid_met (os : Os) (args : Array Value) : laidMet Tryd.prog [("gambit/suit.names", Rows.laid_gambit_suit_names), ("gambit/suit.ring", Rows.laid_gambit_suit_ring)] (({ World.holding Tryd.prog os ⟨#[], #[], []⟩ with heap := ((World.holding Tryd.prog os ⟨#[], #[], []⟩).heap.modify 0 (put7 cellsN)).modify 1 (put7 cellsR) } : World).forCall (fun _ _ => 0) ⟨#[], args, []⟩).memory :=
  laidMet_of_run (ps := [.cell 0 0, .cell 0 1, .cell 0 2, .cell 0 3, .cell 0 4, .cell 0 5, .cell 0 6, .cell 1 0, .cell 1 1, .cell 1 2, .cell 1 3, .cell 1 4, .cell 1 5, .cell 1 6]) 8 (by kernel_rfl) (by kernel_rfl) (by kernel_rfl)
end Go.Proofs.YtmnkibnbnhjncaaDoor
