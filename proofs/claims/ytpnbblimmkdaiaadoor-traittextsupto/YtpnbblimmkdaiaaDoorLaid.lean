/-
  What the package's tables (names, homes, rules) and suit's names hold when the call begins, as the row says it; a start that meets it.
-/
import Derived.Test.YtpnbblimmkdaiaaDoorTrait
import Derived.ProofKit
import Derived.OpenShut
import Derived.ChangeSame
import Derived.ChangeVars
import Derived.JoinedOf
import Derived.LaidLaws
namespace Go.Proofs.YtpnbblimmkdaiaaDoor
open Go.ChangeShapes Go.WideShapes Go.ChangeAt Go.RowKit

theorem Tryd.own : ownKnob Tryd.prog.godebug = none := by kernel_rfl
theorem Tryd.gS : Tryd.prog.globalNamed "gambit/suit.names" = some 3 := by kernel_rfl
theorem Tryd.gSType : (Tryd.prog.globals[3]?).map (·.type) = some 62 := by kernel_rfl
theorem Tryd.gN : Tryd.prog.globalNamed "gambit/trait.names" = some 0 := by kernel_rfl
theorem Tryd.gNType : (Tryd.prog.globals[0]?).map (·.type) = some 47 := by kernel_rfl
theorem Tryd.gH : Tryd.prog.globalNamed "gambit/trait.homes" = some 1 := by kernel_rfl
theorem Tryd.gHType : (Tryd.prog.globals[1]?).map (·.type) = some 52 := by kernel_rfl
theorem Tryd.gR : Tryd.prog.globalNamed "gambit/trait.rules" = some 2 := by kernel_rfl
theorem Tryd.gRType : (Tryd.prog.globals[2]?).map (·.type) = some 47 := by kernel_rfl
theorem Tryd.cells47' : Tryd.prog.cellsOf 47 = 9 := by kernel_rfl
theorem Tryd.cells52' : Tryd.prog.cellsOf 52 = 9 := by kernel_rfl
theorem Tryd.cells62' : Tryd.prog.cellsOf 62 = 7 := by kernel_rfl
theorem Tryd.cells9' : Tryd.prog.cellsOf 9 = 1 := by kernel_rfl
theorem Tryd.cells26' : Tryd.prog.cellsOf 26 = 1 := by kernel_rfl
def cellsS : Array Value := #[.string ⟨#[]⟩, .string ⟨#[97, 105, 114]⟩, .string ⟨#[101, 97, 114, 116, 104]⟩, .string ⟨#[102, 105, 114, 101]⟩, .string ⟨#[119, 97, 116, 101, 114]⟩, .string ⟨#[118, 111, 105, 100]⟩, .string ⟨#[103, 111, 108, 100]⟩]
def cellsN : Array Value := #[.string ⟨#[]⟩, .string ⟨#[102, 97, 115, 116]⟩, .string ⟨#[103, 117, 97, 114, 100]⟩, .string ⟨#[118, 101, 110, 111, 109]⟩, .string ⟨#[108, 111, 110, 101]⟩, .string ⟨#[100, 114, 97, 105, 110]⟩, .string ⟨#[109, 117, 116, 101]⟩, .string ⟨#[102, 105, 120, 101, 100]⟩, .string ⟨#[115, 119, 105, 102, 116]⟩]
def cellsH : Array Value := #[.int .u8 0, .int .u8 1, .int .u8 2, .int .u8 3, .int .u8 4, .int .u8 4, .int .u8 5, .int .u8 6, .int .u8 1]
def cellsR : Array Value := #[.string ⟨#[]⟩, .string ⟨#[109, 97, 121, 32, 115, 116, 114, 105, 107, 101, 32, 111, 110, 32, 116, 104, 101, 32, 116, 117, 114, 110, 32, 111, 110, 32, 119, 104, 105, 99, 104, 32, 105, 116, 32, 99, 97, 109, 101]⟩, .string ⟨#[105, 115, 32, 115, 116, 114, 117, 99, 107, 32, 97, 104, 101, 97, 100, 32, 111, 102, 32, 97, 108, 108, 32, 116, 104, 97, 116, 32, 105, 115, 32, 110, 111, 32, 103, 117, 97, 114, 100]⟩, .string ⟨#[119, 104, 97, 116, 101, 118, 101, 114, 32, 105, 116, 32, 104, 97, 114, 109, 115, 32, 98, 114, 101, 97, 107, 115]⟩, .string ⟨#[99, 97, 110, 110, 111, 116, 32, 98, 101, 32, 109, 101, 97, 110, 116, 32, 98, 121, 32, 116, 104, 101, 32, 102, 111, 101]⟩, .string ⟨#[119, 104, 97, 116, 32, 105, 116, 32, 104, 97, 114, 109, 115, 32, 109, 101, 110, 100, 115, 32, 105, 116, 115, 32, 104, 111, 108, 100, 101, 114]⟩, .string ⟨#[105, 116, 115, 32, 99, 97, 114, 100, 39, 115, 32, 112, 97, 114, 116, 115, 32, 99, 111, 117, 110, 116, 32, 102, 111, 114, 32, 110, 111, 116, 104, 105, 110, 103]⟩, .string ⟨#[99, 97, 110, 110, 111, 116, 32, 115, 116, 114, 105, 107, 101]⟩, .string ⟨#[115, 116, 114, 105, 107, 101, 115, 32, 97, 32, 115, 101, 99, 111, 110, 100, 32, 116, 105, 109, 101, 32, 101, 97, 99, 104, 32, 116, 117, 114, 110]⟩]
theorem str_of_trod {H : Type} {enc : TypeId × Value → H} {w : World} {base : Nat} {sp : Nat → Bool} {held : Bool} {fuel : Nat} {c : Value} {y : DataW H × List MemPlace}
    (h : DataW.trod enc Tryd.prog w base sp held fuel 9 [c] = some y) : ∃ s : ByteArray, c = .string s ∧ y = (.lit (.string s.data.toList), []) := by
  obtain ⟨s, hc, hy, _⟩ := DataW.trod_string Tryd.underlying9 h
  simp only [List.cons.injEq, and_true] at hc
  exact ⟨s, hc, hy⟩
theorem u8_of_trod {H : Type} {enc : TypeId × Value → H} {w : World} {base : Nat} {sp : Nat → Bool} {held : Bool} {fuel : Nat} {c : Value} {y : DataW H × List MemPlace}
    (h : DataW.trod enc Tryd.prog w base sp held fuel 26 [c] = some y) : ∃ z : Int, c = .int .u8 z ∧ y = (.lit (.int .u8 z), []) := by
  obtain ⟨z, hc, hy, _⟩ := DataW.trod_int Tryd.underlying26 h
  simp only [List.cons.injEq, and_true] at hc
  exact ⟨z, hc, hy⟩
theorem ba_of_list {s : ByteArray} {l : List UInt8} (h : s.data.toList = l) : s = ⟨l.toArray⟩ := by
  obtain ⟨⟨d⟩⟩ := s
  simp only at h
  rw [h]
set_option maxRecDepth 100000 in
theorem cellsS_of {W : World} {cs : Array Value} {fuel : Nat} {p : List MemPlace} {enc : TypeId × Value → Unit} {base : Nat} {sp : Nat → Bool} {held : Bool} (hd : DataW.trod enc Tryd.prog W base sp held fuel 62 cs.toList = some (Rows.laid_gambit_suit_names, p)) : cs = cellsS := by
  obtain ⟨l⟩ := cs
  cases fuel with
  | zero => simp [DataW.trod] at hd
  | succ fuel =>
    simp only [DataW.trod, Tryd.underlying62, Tryd.cells62', Tryd.cells9'] at hd
    split at hd
    · rename_i hl
      obtain ⟨c0, c1, c2, c3, c4, c5, c6, rfl⟩ : ∃ c0 c1 c2 c3 c4 c5 c6, l = [c0, c1, c2, c3, c4, c5, c6] := by
        match l, hl with
        | [c0, c1, c2, c3, c4, c5, c6], _ => exact ⟨c0, c1, c2, c3, c4, c5, c6, rfl⟩
      have e : List.range 7 = [0, 1, 2, 3, 4, 5, 6] := rfl
      rw [e] at hd
      simp only [Option.map_eq_some_iff, List.mapM_cons, List.mapM_nil, Option.bind_eq_bind, Option.bind_eq_some_iff, Option.pure_def, Option.some.injEq] at hd
      obtain ⟨xs, ⟨y0, h0, _, ⟨y1, h1, _, ⟨y2, h2, _, ⟨y3, h3, _, ⟨y4, h4, _, ⟨y5, h5, _, ⟨y6, h6, _, rfl, rfl⟩, rfl⟩, rfl⟩, rfl⟩, rfl⟩, rfl⟩, rfl⟩, hx⟩ := hd
      obtain ⟨n0, rfl, rfl⟩ := str_of_trod h0
      obtain ⟨n1, rfl, rfl⟩ := str_of_trod h1
      obtain ⟨n2, rfl, rfl⟩ := str_of_trod h2
      obtain ⟨n3, rfl, rfl⟩ := str_of_trod h3
      obtain ⟨n4, rfl, rfl⟩ := str_of_trod h4
      obtain ⟨n5, rfl, rfl⟩ := str_of_trod h5
      obtain ⟨n6, rfl, rfl⟩ := str_of_trod h6
      simp [Rows.laid_gambit_suit_names] at hx
      obtain ⟨⟨e0, e1, e2, e3, e4, e5, e6⟩, _⟩ := hx
      have e0' : n0 = ⟨#[]⟩ := by
        obtain ⟨d⟩ := n0
        simp at e0
        rw [e0]
      rw [e0', ba_of_list e1, ba_of_list e2, ba_of_list e3, ba_of_list e4, ba_of_list e5, ba_of_list e6]
      rfl
    · cases hd
set_option maxRecDepth 100000 in
theorem cellsN_of {W : World} {cs : Array Value} {fuel : Nat} {p : List MemPlace} {enc : TypeId × Value → Unit} {base : Nat} {sp : Nat → Bool} {held : Bool} (hd : DataW.trod enc Tryd.prog W base sp held fuel 47 cs.toList = some (Rows.laid_gambit_trait_names, p)) : cs = cellsN := by
  obtain ⟨l⟩ := cs
  cases fuel with
  | zero => simp [DataW.trod] at hd
  | succ fuel =>
    simp only [DataW.trod, Tryd.underlying47, Tryd.cells47', Tryd.cells9'] at hd
    split at hd
    · rename_i hl
      obtain ⟨c0, c1, c2, c3, c4, c5, c6, c7, c8, rfl⟩ : ∃ c0 c1 c2 c3 c4 c5 c6 c7 c8, l = [c0, c1, c2, c3, c4, c5, c6, c7, c8] := by
        match l, hl with
        | [c0, c1, c2, c3, c4, c5, c6, c7, c8], _ => exact ⟨c0, c1, c2, c3, c4, c5, c6, c7, c8, rfl⟩
      have e : List.range 9 = [0, 1, 2, 3, 4, 5, 6, 7, 8] := rfl
      rw [e] at hd
      simp only [Option.map_eq_some_iff, List.mapM_cons, List.mapM_nil, Option.bind_eq_bind, Option.bind_eq_some_iff, Option.pure_def, Option.some.injEq] at hd
      obtain ⟨xs, ⟨y0, h0, _, ⟨y1, h1, _, ⟨y2, h2, _, ⟨y3, h3, _, ⟨y4, h4, _, ⟨y5, h5, _, ⟨y6, h6, _, ⟨y7, h7, _, ⟨y8, h8, _, rfl, rfl⟩, rfl⟩, rfl⟩, rfl⟩, rfl⟩, rfl⟩, rfl⟩, rfl⟩, rfl⟩, hx⟩ := hd
      obtain ⟨n0, rfl, rfl⟩ := str_of_trod h0
      obtain ⟨n1, rfl, rfl⟩ := str_of_trod h1
      obtain ⟨n2, rfl, rfl⟩ := str_of_trod h2
      obtain ⟨n3, rfl, rfl⟩ := str_of_trod h3
      obtain ⟨n4, rfl, rfl⟩ := str_of_trod h4
      obtain ⟨n5, rfl, rfl⟩ := str_of_trod h5
      obtain ⟨n6, rfl, rfl⟩ := str_of_trod h6
      obtain ⟨n7, rfl, rfl⟩ := str_of_trod h7
      obtain ⟨n8, rfl, rfl⟩ := str_of_trod h8
      simp [Rows.laid_gambit_trait_names] at hx
      obtain ⟨⟨e0, e1, e2, e3, e4, e5, e6, e7, e8⟩, _⟩ := hx
      have e0' : n0 = ⟨#[]⟩ := by
        obtain ⟨d⟩ := n0
        simp at e0
        rw [e0]
      rw [e0', ba_of_list e1, ba_of_list e2, ba_of_list e3, ba_of_list e4, ba_of_list e5, ba_of_list e6, ba_of_list e7, ba_of_list e8]
      rfl
    · cases hd
set_option maxRecDepth 100000 in
theorem cellsH_of {W : World} {cs : Array Value} {fuel : Nat} {p : List MemPlace} {enc : TypeId × Value → Unit} {base : Nat} {sp : Nat → Bool} {held : Bool} (hd : DataW.trod enc Tryd.prog W base sp held fuel 52 cs.toList = some (Rows.laid_gambit_trait_homes, p)) : cs = cellsH := by
  obtain ⟨l⟩ := cs
  cases fuel with
  | zero => simp [DataW.trod] at hd
  | succ fuel =>
    simp only [DataW.trod, Tryd.underlying52, Tryd.cells52', Tryd.cells26'] at hd
    split at hd
    · rename_i hl
      obtain ⟨c0, c1, c2, c3, c4, c5, c6, c7, c8, rfl⟩ : ∃ c0 c1 c2 c3 c4 c5 c6 c7 c8, l = [c0, c1, c2, c3, c4, c5, c6, c7, c8] := by
        match l, hl with
        | [c0, c1, c2, c3, c4, c5, c6, c7, c8], _ => exact ⟨c0, c1, c2, c3, c4, c5, c6, c7, c8, rfl⟩
      have e : List.range 9 = [0, 1, 2, 3, 4, 5, 6, 7, 8] := rfl
      rw [e] at hd
      simp only [Option.map_eq_some_iff, List.mapM_cons, List.mapM_nil, Option.bind_eq_bind, Option.bind_eq_some_iff, Option.pure_def, Option.some.injEq] at hd
      obtain ⟨xs, ⟨y0, h0, _, ⟨y1, h1, _, ⟨y2, h2, _, ⟨y3, h3, _, ⟨y4, h4, _, ⟨y5, h5, _, ⟨y6, h6, _, ⟨y7, h7, _, ⟨y8, h8, _, rfl, rfl⟩, rfl⟩, rfl⟩, rfl⟩, rfl⟩, rfl⟩, rfl⟩, rfl⟩, rfl⟩, hx⟩ := hd
      obtain ⟨n0, rfl, rfl⟩ := u8_of_trod h0
      obtain ⟨n1, rfl, rfl⟩ := u8_of_trod h1
      obtain ⟨n2, rfl, rfl⟩ := u8_of_trod h2
      obtain ⟨n3, rfl, rfl⟩ := u8_of_trod h3
      obtain ⟨n4, rfl, rfl⟩ := u8_of_trod h4
      obtain ⟨n5, rfl, rfl⟩ := u8_of_trod h5
      obtain ⟨n6, rfl, rfl⟩ := u8_of_trod h6
      obtain ⟨n7, rfl, rfl⟩ := u8_of_trod h7
      obtain ⟨n8, rfl, rfl⟩ := u8_of_trod h8
      simp [Rows.laid_gambit_trait_homes] at hx
      obtain ⟨⟨e0, e1, e2, e3, e4, e5, e6, e7, e8⟩, _⟩ := hx
      subst e0 e1 e2 e3 e4 e5 e6 e7 e8
      rfl
    · cases hd
set_option maxRecDepth 100000 in
theorem cellsR_of {W : World} {cs : Array Value} {fuel : Nat} {p : List MemPlace} {enc : TypeId × Value → Unit} {base : Nat} {sp : Nat → Bool} {held : Bool} (hd : DataW.trod enc Tryd.prog W base sp held fuel 47 cs.toList = some (Rows.laid_gambit_trait_rules, p)) : cs = cellsR := by
  obtain ⟨l⟩ := cs
  cases fuel with
  | zero => simp [DataW.trod] at hd
  | succ fuel =>
    simp only [DataW.trod, Tryd.underlying47, Tryd.cells47', Tryd.cells9'] at hd
    split at hd
    · rename_i hl
      obtain ⟨c0, c1, c2, c3, c4, c5, c6, c7, c8, rfl⟩ : ∃ c0 c1 c2 c3 c4 c5 c6 c7 c8, l = [c0, c1, c2, c3, c4, c5, c6, c7, c8] := by
        match l, hl with
        | [c0, c1, c2, c3, c4, c5, c6, c7, c8], _ => exact ⟨c0, c1, c2, c3, c4, c5, c6, c7, c8, rfl⟩
      have e : List.range 9 = [0, 1, 2, 3, 4, 5, 6, 7, 8] := rfl
      rw [e] at hd
      simp only [Option.map_eq_some_iff, List.mapM_cons, List.mapM_nil, Option.bind_eq_bind, Option.bind_eq_some_iff, Option.pure_def, Option.some.injEq] at hd
      obtain ⟨xs, ⟨y0, h0, _, ⟨y1, h1, _, ⟨y2, h2, _, ⟨y3, h3, _, ⟨y4, h4, _, ⟨y5, h5, _, ⟨y6, h6, _, ⟨y7, h7, _, ⟨y8, h8, _, rfl, rfl⟩, rfl⟩, rfl⟩, rfl⟩, rfl⟩, rfl⟩, rfl⟩, rfl⟩, rfl⟩, hx⟩ := hd
      obtain ⟨n0, rfl, rfl⟩ := str_of_trod h0
      obtain ⟨n1, rfl, rfl⟩ := str_of_trod h1
      obtain ⟨n2, rfl, rfl⟩ := str_of_trod h2
      obtain ⟨n3, rfl, rfl⟩ := str_of_trod h3
      obtain ⟨n4, rfl, rfl⟩ := str_of_trod h4
      obtain ⟨n5, rfl, rfl⟩ := str_of_trod h5
      obtain ⟨n6, rfl, rfl⟩ := str_of_trod h6
      obtain ⟨n7, rfl, rfl⟩ := str_of_trod h7
      obtain ⟨n8, rfl, rfl⟩ := str_of_trod h8
      simp [Rows.laid_gambit_trait_rules] at hx
      obtain ⟨⟨e0, e1, e2, e3, e4, e5, e6, e7, e8⟩, _⟩ := hx
      have e0' : n0 = ⟨#[]⟩ := by
        obtain ⟨d⟩ := n0
        simp at e0
        rw [e0]
      rw [e0', ba_of_list e1, ba_of_list e2, ba_of_list e3, ba_of_list e4, ba_of_list e5, ba_of_list e6, ba_of_list e7, ba_of_list e8]
      rfl
    · cases hd
theorem laid_of {W : World} (h : laidMet Tryd.prog [("gambit/suit.names", Rows.laid_gambit_suit_names), ("gambit/trait.names", Rows.laid_gambit_trait_names), ("gambit/trait.homes", Rows.laid_gambit_trait_homes), ("gambit/trait.rules", Rows.laid_gambit_trait_rules)] W) : LaidAt W := by
  obtain ⟨ps, ⟨g0, t0, cs0, fuel0, p0, q0, hg0, ht0, hvar0, hd0, ⟨g1, t1, cs1, fuel1, p1, q1, hg1, ht1, hvar1, hd1, ⟨g2, t2, cs2, fuel2, p2, q2, hg2, ht2, hvar2, hd2, ⟨g3, t3, cs3, fuel3, p3, q3, hg3, ht3, hvar3, hd3, _, _⟩, _⟩, _⟩, _⟩, _⟩ := h
  obtain rfl := Option.some.inj (Tryd.gS.symm.trans hg0)
  obtain rfl := Option.some.inj (Tryd.gSType.symm.trans ht0)
  obtain rfl := Option.some.inj (Tryd.gN.symm.trans hg1)
  obtain rfl := Option.some.inj (Tryd.gNType.symm.trans ht1)
  obtain rfl := Option.some.inj (Tryd.gH.symm.trans hg2)
  obtain rfl := Option.some.inj (Tryd.gHType.symm.trans ht2)
  obtain rfl := Option.some.inj (Tryd.gR.symm.trans hg3)
  obtain rfl := Option.some.inj (Tryd.gRType.symm.trans ht3)
  rw [cellsS_of hd0] at hvar0
  rw [cellsN_of hd1] at hvar1
  rw [cellsH_of hd2] at hvar2
  rw [cellsR_of hd3] at hvar3
  exact ⟨⟨World.var?_cell Tryd.gN hvar1 1, World.var?_cell Tryd.gN hvar1 2, World.var?_cell Tryd.gN hvar1 3, World.var?_cell Tryd.gN hvar1 4, World.var?_cell Tryd.gN hvar1 5, World.var?_cell Tryd.gN hvar1 6, World.var?_cell Tryd.gN hvar1 7, World.var?_cell Tryd.gN hvar1 8⟩, ⟨World.var?_cell Tryd.gH hvar2 1, World.var?_cell Tryd.gH hvar2 2, World.var?_cell Tryd.gH hvar2 3, World.var?_cell Tryd.gH hvar2 4, World.var?_cell Tryd.gH hvar2 5, World.var?_cell Tryd.gH hvar2 6, World.var?_cell Tryd.gH hvar2 7, World.var?_cell Tryd.gH hvar2 8⟩, ⟨World.var?_cell Tryd.gR hvar3 1, World.var?_cell Tryd.gR hvar3 2, World.var?_cell Tryd.gR hvar3 3, World.var?_cell Tryd.gR hvar3 4, World.var?_cell Tryd.gR hvar3 5, World.var?_cell Tryd.gR hvar3 6, World.var?_cell Tryd.gR hvar3 7, World.var?_cell Tryd.gR hvar3 8⟩, ⟨World.var?_cell Tryd.gS hvar0 1, World.var?_cell Tryd.gS hvar0 2, World.var?_cell Tryd.gS hvar0 3, World.var?_cell Tryd.gS hvar0 4, World.var?_cell Tryd.gS hvar0 5, World.var?_cell Tryd.gS hvar0 6⟩⟩
def putC (cs : Array Value) : Obj → Obj
  | .cells _ t frozen => .cells cs t frozen
  | o => o
set_option maxRecDepth 100000 in
theorem laid_met (os : Os) (args : Array Value) : laidMet Tryd.prog [("gambit/suit.names", Rows.laid_gambit_suit_names), ("gambit/trait.names", Rows.laid_gambit_trait_names), ("gambit/trait.homes", Rows.laid_gambit_trait_homes), ("gambit/trait.rules", Rows.laid_gambit_trait_rules)] (({ World.holding Tryd.prog os ⟨#[], #[], []⟩ with heap := ((((World.holding Tryd.prog os ⟨#[], #[], []⟩).heap.modify 3 (putC cellsS)).modify 0 (putC cellsN)).modify 1 (putC cellsH)).modify 2 (putC cellsR) } : World).forCall (fun _ _ => 0) ⟨#[], args, []⟩).memory :=
  laidMet_of_run (ps := [.cell 3 0, .cell 3 1, .cell 3 2, .cell 3 3, .cell 3 4, .cell 3 5, .cell 3 6, .cell 0 0, .cell 0 1, .cell 0 2, .cell 0 3, .cell 0 4, .cell 0 5, .cell 0 6, .cell 0 7, .cell 0 8, .cell 1 0, .cell 1 1, .cell 1 2, .cell 1 3, .cell 1 4, .cell 1 5, .cell 1 6, .cell 1 7, .cell 1 8, .cell 2 0, .cell 2 1, .cell 2 2, .cell 2 3, .cell 2 4, .cell 2 5, .cell 2 6, .cell 2 7, .cell 2 8]) 8 (by kernel_rfl) (by kernel_rfl) (by kernel_rfl)
end Go.Proofs.YtpnbblimmkdaiaaDoor
