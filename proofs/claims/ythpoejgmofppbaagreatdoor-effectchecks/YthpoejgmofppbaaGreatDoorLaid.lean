/-
  What the listed variables hold when the call begins, as the row says it; a start that meets it; a part, read as data and back.
-/
import Derived.Test.YthpoejgmofppbaaGreatDoorFld
import Derived.Test.YthpoejgmofppbaaGreatDoorRows
import Derived.ProofKit
import Derived.OpenShut
import Derived.ChangeSame
import Derived.ChangeVars
import Derived.JoinedOf
import Derived.LaidLaws
import Derived.Lib.LaidTab
import Derived.Stop.LaidErr
namespace Go.Proofs.YthpoejgmofppbaaGreatDoor
open Go.ChangeShapes Go.WideShapes Go.ChangeAt Go.RowKit

theorem Tryz.own : ownKnob Tryz.prog.godebug = none := by kernel_rfl
theorem Tryz.g0 : Tryz.prog.globalNamed "gambit/suit.names" = some 0 := by kernel_rfl
theorem Tryz.g0Type : (Tryz.prog.globals[0]?).map (·.type) = some 123 := by kernel_rfl
theorem Tryz.g1 : Tryz.prog.globalNamed "gambit/trait.names" = some 1 := by kernel_rfl
theorem Tryz.g1Type : (Tryz.prog.globals[1]?).map (·.type) = some 125 := by kernel_rfl
theorem Tryz.g3 : Tryz.prog.globalNamed "internal/strconv.uint64pow10" = some 3 := by kernel_rfl
theorem Tryz.g3Type : (Tryz.prog.globals[3]?).map (·.type) = some 162 := by kernel_rfl
theorem Tryz.g4 : Tryz.prog.globalNamed "strconv.ErrSyntax" = some 4 := by kernel_rfl
theorem Tryz.g4Type : (Tryz.prog.globals[4]?).map (·.type) = some 74 := by kernel_rfl
theorem Tryz.g5 : Tryz.prog.globalNamed "strconv.ErrRange" = some 5 := by kernel_rfl
theorem Tryz.g5Type : (Tryz.prog.globals[5]?).map (·.type) = some 74 := by kernel_rfl
theorem Tryz.cells123' : Tryz.prog.cellsOf 123 = 7 := by kernel_rfl
theorem Tryz.cells125' : Tryz.prog.cellsOf 125 = 9 := by kernel_rfl
theorem Tryz.cells9' : Tryz.prog.cellsOf 9 = 1 := by kernel_rfl
theorem Tryz.cells162' : Tryz.prog.cellsOf 162 = 20 := by kernel_rfl
theorem Tryz.cells107' : Tryz.prog.cellsOf 107 = 1 := by kernel_rfl
theorem Tryz.cells177' : Tryz.prog.cellsOf 177 = 1 := by kernel_rfl
theorem Tryz.cells30' : Tryz.prog.cellsOf 30 = 8 := by kernel_rfl
theorem Tryz.cells23' : Tryz.prog.cellsOf 23 = 1 := by kernel_rfl
theorem Tryz.cells24' : Tryz.prog.cellsOf 24 = 1 := by kernel_rfl
theorem Tryz.cells25' : Tryz.prog.cellsOf 25 = 1 := by kernel_rfl
theorem Tryz.cells26' : Tryz.prog.cellsOf 26 = 1 := by kernel_rfl
theorem Tryz.cells27' : Tryz.prog.cellsOf 27 = 1 := by kernel_rfl
theorem Tryz.cells28' : Tryz.prog.cellsOf 28 = 1 := by kernel_rfl
theorem Tryz.cells3' : Tryz.prog.cellsOf 3 = 1 := by kernel_rfl
def cellsS : Array Value := #[.string ⟨#[]⟩, .string ⟨#[97, 105, 114]⟩, .string ⟨#[101, 97, 114, 116, 104]⟩, .string ⟨#[102, 105, 114, 101]⟩, .string ⟨#[119, 97, 116, 101, 114]⟩, .string ⟨#[118, 111, 105, 100]⟩, .string ⟨#[103, 111, 108, 100]⟩]
def cellsN : Array Value := #[.string ⟨#[]⟩, .string ⟨#[102, 97, 115, 116]⟩, .string ⟨#[103, 117, 97, 114, 100]⟩, .string ⟨#[118, 101, 110, 111, 109]⟩, .string ⟨#[108, 111, 110, 101]⟩, .string ⟨#[100, 114, 97, 105, 110]⟩, .string ⟨#[109, 117, 116, 101]⟩, .string ⟨#[102, 105, 120, 101, 100]⟩, .string ⟨#[115, 119, 105, 102, 116]⟩]
def cells32 : Array Value := #[.int .u8 0, .int .u8 1, .int .u8 28, .int .u8 2, .int .u8 29, .int .u8 14, .int .u8 24, .int .u8 3, .int .u8 30, .int .u8 22, .int .u8 20, .int .u8 15, .int .u8 25, .int .u8 17, .int .u8 4, .int .u8 8, .int .u8 31, .int .u8 27, .int .u8 13, .int .u8 23, .int .u8 21, .int .u8 19, .int .u8 16, .int .u8 7, .int .u8 26, .int .u8 12, .int .u8 18, .int .u8 6, .int .u8 11, .int .u8 5, .int .u8 10, .int .u8 9]
def cells64 : Array Value := #[.int .u8 0, .int .u8 1, .int .u8 56, .int .u8 2, .int .u8 57, .int .u8 49, .int .u8 28, .int .u8 3, .int .u8 61, .int .u8 58, .int .u8 42, .int .u8 50, .int .u8 38, .int .u8 29, .int .u8 17, .int .u8 4, .int .u8 62, .int .u8 47, .int .u8 59, .int .u8 36, .int .u8 45, .int .u8 43, .int .u8 51, .int .u8 22, .int .u8 53, .int .u8 39, .int .u8 33, .int .u8 30, .int .u8 24, .int .u8 18, .int .u8 12, .int .u8 5, .int .u8 63, .int .u8 55, .int .u8 48, .int .u8 27, .int .u8 60, .int .u8 41, .int .u8 37, .int .u8 16, .int .u8 46, .int .u8 35, .int .u8 44, .int .u8 21, .int .u8 52, .int .u8 32, .int .u8 23, .int .u8 11, .int .u8 54, .int .u8 26, .int .u8 40, .int .u8 15, .int .u8 34, .int .u8 20, .int .u8 31, .int .u8 10, .int .u8 25, .int .u8 14, .int .u8 19, .int .u8 9, .int .u8 13, .int .u8 8, .int .u8 7, .int .u8 6]
def cellsA : Array Value := #[.int .u8 128, .int .u8 191, .int .u8 160, .int .u8 191, .int .u8 128, .int .u8 159, .int .u8 144, .int .u8 191, .int .u8 128, .int .u8 143, .int .u8 0, .int .u8 0, .int .u8 0, .int .u8 0, .int .u8 0, .int .u8 0, .int .u8 0, .int .u8 0, .int .u8 0, .int .u8 0, .int .u8 0, .int .u8 0, .int .u8 0, .int .u8 0, .int .u8 0, .int .u8 0, .int .u8 0, .int .u8 0, .int .u8 0, .int .u8 0, .int .u8 0, .int .u8 0]
def cellsP : Array Value := #[.int .u64 1, .int .u64 10, .int .u64 100, .int .u64 1000, .int .u64 10000, .int .u64 100000, .int .u64 1000000, .int .u64 10000000, .int .u64 100000000, .int .u64 1000000000, .int .u64 10000000000, .int .u64 100000000000, .int .u64 1000000000000, .int .u64 10000000000000, .int .u64 100000000000000, .int .u64 1000000000000000, .int .u64 10000000000000000, .int .u64 100000000000000000, .int .u64 1000000000000000000, .int .u64 10000000000000000000]
def cellsF : Array Value := (Go.Pinned.utf8FirstZ.map fun z => Value.int .u8 (z : Nat)).toArray
theorem str_of_trod {H : Type} {enc : TypeId × Value → H} {w : World} {base : Nat} {sp : Nat → Bool} {held : Bool} {fuel : Nat} {c : Value} {y : DataW H × List MemPlace}
    (h : DataW.trod enc Tryz.prog w base sp held fuel 9 [c] = some y) : ∃ s : ByteArray, c = .string s ∧ y = (.lit (.string s.data.toList), []) := by
  obtain ⟨s, hc, hy, _⟩ := DataW.trod_string Tryz.underlying9 h
  simp only [List.cons.injEq, and_true] at hc
  exact ⟨s, hc, hy⟩
theorem ba_of_list {s : ByteArray} {l : List UInt8} (h : s.data.toList = l) : s = ⟨l.toArray⟩ := by
  obtain ⟨⟨d⟩⟩ := s
  simp only at h
  rw [h]
set_option maxRecDepth 100000 in
theorem cellsS_of {W : World} {cs : Array Value} {fuel : Nat} {p : List MemPlace} {enc : TypeId × Value → Unit} {base : Nat} {sp : Nat → Bool} {held : Bool} (hd : DataW.trod enc Tryz.prog W base sp held fuel 123 cs.toList = some (Rows.laid_gambit_suit_names, p)) : cs = cellsS := by
  obtain ⟨l⟩ := cs
  cases fuel with
  | zero => simp [DataW.trod] at hd
  | succ fuel =>
    simp only [DataW.trod, Tryz.underlying123, Tryz.cells123', Tryz.cells9'] at hd
    split at hd
    · rename_i hl
      obtain ⟨c0, c1, c2, c3, c4, c5, c6, rfl⟩ : ∃ c0 c1 c2 c3 c4 c5 c6, l = [c0, c1, c2, c3, c4, c5, c6] := by
        match l, hl with
        | [c0, c1, c2, c3, c4, c5, c6], _ => exact ⟨c0, c1, c2, c3, c4, c5, c6, rfl⟩
      have e : List.range 7 = [0, 1, 2, 3, 4, 5, 6] := rfl
      rw [e] at hd
      simp only [Option.map_eq_some_iff, List.mapM_cons, List.mapM_nil, Option.bind_eq_bind, Option.bind_eq_some_iff, Option.pure_def, Option.some.injEq] at hd
      obtain ⟨xs, ⟨y0, h0, _, ⟨y1, h1, _, ⟨y2, h2, _, ⟨y3, h3, _, ⟨y4, h4, _, ⟨y5, h5, _, ⟨y6, h6, _, rfl, rfl⟩, rfl⟩, rfl⟩, rfl⟩, rfl⟩, rfl⟩, rfl⟩, hx⟩ := hd
      obtain ⟨n0, rfl, rfl⟩ := str_of_trod h0
      obtain ⟨n1, rfl, rfl⟩ := str_of_trod h1
      obtain ⟨n2, rfl, rfl⟩ := str_of_trod h2
      obtain ⟨n3, rfl, rfl⟩ := str_of_trod h3
      obtain ⟨n4, rfl, rfl⟩ := str_of_trod h4
      obtain ⟨n5, rfl, rfl⟩ := str_of_trod h5
      obtain ⟨n6, rfl, rfl⟩ := str_of_trod h6
      simp [Rows.laid_gambit_suit_names] at hx
      obtain ⟨⟨e0, e1, e2, e3, e4, e5, e6⟩, _⟩ := hx
      have e0' : n0 = ⟨#[]⟩ := by
        obtain ⟨d⟩ := n0
        simp at e0
        rw [e0]
      rw [e0', ba_of_list e1, ba_of_list e2, ba_of_list e3, ba_of_list e4, ba_of_list e5, ba_of_list e6]
      rfl
    · cases hd
set_option maxRecDepth 100000 in
theorem cellsN_of {W : World} {cs : Array Value} {fuel : Nat} {p : List MemPlace} {enc : TypeId × Value → Unit} {base : Nat} {sp : Nat → Bool} {held : Bool} (hd : DataW.trod enc Tryz.prog W base sp held fuel 125 cs.toList = some (Rows.laid_gambit_trait_names, p)) : cs = cellsN := by
  obtain ⟨l⟩ := cs
  cases fuel with
  | zero => simp [DataW.trod] at hd
  | succ fuel =>
    simp only [DataW.trod, Tryz.underlying125, Tryz.cells125', Tryz.cells9'] at hd
    split at hd
    · rename_i hl
      obtain ⟨c0, c1, c2, c3, c4, c5, c6, c7, c8, rfl⟩ : ∃ c0 c1 c2 c3 c4 c5 c6 c7 c8, l = [c0, c1, c2, c3, c4, c5, c6, c7, c8] := by
        match l, hl with
        | [c0, c1, c2, c3, c4, c5, c6, c7, c8], _ => exact ⟨c0, c1, c2, c3, c4, c5, c6, c7, c8, rfl⟩
      have e : List.range 9 = [0, 1, 2, 3, 4, 5, 6, 7, 8] := rfl
      rw [e] at hd
      simp only [Option.map_eq_some_iff, List.mapM_cons, List.mapM_nil, Option.bind_eq_bind, Option.bind_eq_some_iff, Option.pure_def, Option.some.injEq] at hd
      obtain ⟨xs, ⟨y0, h0, _, ⟨y1, h1, _, ⟨y2, h2, _, ⟨y3, h3, _, ⟨y4, h4, _, ⟨y5, h5, _, ⟨y6, h6, _, ⟨y7, h7, _, ⟨y8, h8, _, rfl, rfl⟩, rfl⟩, rfl⟩, rfl⟩, rfl⟩, rfl⟩, rfl⟩, rfl⟩, rfl⟩, hx⟩ := hd
      obtain ⟨n0, rfl, rfl⟩ := str_of_trod h0
      obtain ⟨n1, rfl, rfl⟩ := str_of_trod h1
      obtain ⟨n2, rfl, rfl⟩ := str_of_trod h2
      obtain ⟨n3, rfl, rfl⟩ := str_of_trod h3
      obtain ⟨n4, rfl, rfl⟩ := str_of_trod h4
      obtain ⟨n5, rfl, rfl⟩ := str_of_trod h5
      obtain ⟨n6, rfl, rfl⟩ := str_of_trod h6
      obtain ⟨n7, rfl, rfl⟩ := str_of_trod h7
      obtain ⟨n8, rfl, rfl⟩ := str_of_trod h8
      simp [Rows.laid_gambit_trait_names] at hx
      obtain ⟨⟨e0, e1, e2, e3, e4, e5, e6, e7, e8⟩, _⟩ := hx
      have e0' : n0 = ⟨#[]⟩ := by
        obtain ⟨d⟩ := n0
        simp at e0
        rw [e0]
      rw [e0', ba_of_list e1, ba_of_list e2, ba_of_list e3, ba_of_list e4, ba_of_list e5, ba_of_list e6, ba_of_list e7, ba_of_list e8]
      rfl
    · cases hd
theorem Tryz.star : ("*errors.errorString" : String) = "*" ++ "errors.errorString" := by decide
theorem Tryz.row175 (u : TypeId) (h : Tryz.prog.typeName? 3 u = some "*errors.errorString") : u = 175 :=
  typeName_ptr_named (nm := "errors.errorString") (by rw [← Tryz.star]; kernel_rfl) (by kernel_rfl) (by decide) u (by rw [← Tryz.star]; exact h)
theorem pow_is : (Rows.laid_internal_strconv_uint64pow10 : DataW Unit) = Lib.tabData .u64 Lib.pow10Tab := by kernel_rfl
theorem var_block {W : World} {n : String} {g : Nat} {te : TypeId} {pe : Value} (hg : Tryz.prog.globalNamed n = some g) (h : W.var? Tryz.prog n = some #[.iface te pe]) : ∃ te pe t z, W.heap[g]? = some (.cells #[.iface te pe] t z) := by
  unfold World.var? at h
  rw [hg] at h
  simp only [Option.bind_some] at h
  cases hh : W.heap[g]? with
  | none => rw [hh] at h; cases h
  | some o =>
    rw [hh] at h
    cases o with
    | cells cs t z =>
      simp only [Option.some.injEq] at h
      exact ⟨te, pe, t, z, by rw [h]⟩
    | _ => cases h
theorem laid_of {W : World} (h : laidMet Tryz.prog [("math/bits.deBruijn32tab", Rows.laid_math_bits_deBruijn32tab), ("math/bits.deBruijn64tab", Rows.laid_math_bits_deBruijn64tab), ("internal/strconv.uint64pow10", Rows.laid_internal_strconv_uint64pow10), ("unicode/utf8.acceptRanges", Rows.laid_unicode_utf8_acceptRanges), ("strconv.ErrRange", Rows.laid_strconv_ErrRange), ("strconv.ErrSyntax", Rows.laid_strconv_ErrSyntax), ("gambit/suit.names", Rows.laid_gambit_suit_names), ("gambit/trait.names", Rows.laid_gambit_trait_names), ("unicode/utf8.first", Rows.laid_unicode_utf8_first)] W) : LaidAt W := by
  have hp := h.tail.tail
  rw [pow_is] at hp
  have hpow := Lib.tabIs_of_head Tryz.g3 Tryz.g3Type Tryz.underlying162 Tryz.underlying107 Tryz.cells107' Tryz.cells162' hp
  obtain ⟨a0, s0, hv0, -, -, -⟩ := laid_sentinel h.tail.tail.tail.tail Tryz.g5 Tryz.g5Type Tryz.underlying74 Tryz.row175 Tryz.underlying175 Tryz.underlying177 rfl rfl Tryz.underlying9 Tryz.cells177' Tryz.cells9'
  obtain ⟨a1, s1, hv1, -, -, -⟩ := laid_sentinel h.tail.tail.tail.tail.tail Tryz.g4 Tryz.g4Type Tryz.underlying74 Tryz.row175 Tryz.underlying175 Tryz.underlying177 rfl rfl Tryz.underlying9 Tryz.cells177' Tryz.cells9'
  have hst := h.tail.tail.tail.tail.tail.tail
  obtain ⟨ps, ⟨g0, t0, cs0, fuel0, p0, q0, hg0, ht0, hvar0, hd0, ⟨g1, t1, cs1, fuel1, p1, q1, hg1, ht1, hvar1, hd1, _, _⟩, _⟩, _⟩ := hst
  obtain rfl := Option.some.inj (Tryz.g0.symm.trans hg0)
  obtain rfl := Option.some.inj (Tryz.g0Type.symm.trans ht0)
  obtain rfl := Option.some.inj (Tryz.g1.symm.trans hg1)
  obtain rfl := Option.some.inj (Tryz.g1Type.symm.trans ht1)
  rw [cellsS_of hd0] at hvar0
  rw [cellsN_of hd1] at hvar1
  refine ⟨⟨World.var?_cell Tryz.g0 hvar0 1, World.var?_cell Tryz.g0 hvar0 2, World.var?_cell Tryz.g0 hvar0 3, World.var?_cell Tryz.g0 hvar0 4, World.var?_cell Tryz.g0 hvar0 5, World.var?_cell Tryz.g0 hvar0 6⟩, ⟨World.var?_cell Tryz.g1 hvar1 1, World.var?_cell Tryz.g1 hvar1 2, World.var?_cell Tryz.g1 hvar1 3, World.var?_cell Tryz.g1 hvar1 4, World.var?_cell Tryz.g1 hvar1 5, World.var?_cell Tryz.g1 hvar1 6, World.var?_cell Tryz.g1 hvar1 7, World.var?_cell Tryz.g1 hvar1 8⟩, ?_, var_block Tryz.g4 hv1, var_block Tryz.g5 hv0⟩
  unfold Lib.TabIs World.var? at hpow
  rw [Tryz.g3] at hpow
  simp only [Option.bind_some] at hpow
  cases hh : W.heap[3]? with
  | none => rw [hh] at hpow; cases hpow
  | some o =>
    rw [hh] at hpow
    cases o with
    | cells cs t z =>
      simp only [Option.some.injEq] at hpow
      exact ⟨t, z, by rw [hh, hpow]⟩
    | _ => cases hpow
def putC (cs : Array Value) : Obj → Obj
  | .cells _ t frozen => .cells cs t frozen
  | o => o
set_option maxRecDepth 100000 in
theorem laid_met (os : Os) (args : Array Value) : laidMet Tryz.prog [("math/bits.deBruijn32tab", Rows.laid_math_bits_deBruijn32tab), ("math/bits.deBruijn64tab", Rows.laid_math_bits_deBruijn64tab), ("internal/strconv.uint64pow10", Rows.laid_internal_strconv_uint64pow10), ("unicode/utf8.acceptRanges", Rows.laid_unicode_utf8_acceptRanges), ("strconv.ErrRange", Rows.laid_strconv_ErrRange), ("strconv.ErrSyntax", Rows.laid_strconv_ErrSyntax), ("gambit/suit.names", Rows.laid_gambit_suit_names), ("gambit/trait.names", Rows.laid_gambit_trait_names), ("unicode/utf8.first", Rows.laid_unicode_utf8_first)] (({ World.holding Tryz.prog os ⟨#[.cells #[.string ⟨#[118, 97, 108, 117, 101, 32, 111, 117, 116, 32, 111, 102, 32, 114, 97, 110, 103, 101]⟩] 177, .cells #[.string ⟨#[105, 110, 118, 97, 108, 105, 100, 32, 115, 121, 110, 116, 97, 120]⟩] 177], #[], []⟩ with heap := (((((((((World.holding Tryz.prog os ⟨#[.cells #[.string ⟨#[118, 97, 108, 117, 101, 32, 111, 117, 116, 32, 111, 102, 32, 114, 97, 110, 103, 101]⟩] 177, .cells #[.string ⟨#[105, 110, 118, 97, 108, 105, 100, 32, 115, 121, 110, 116, 97, 120]⟩] 177], #[], []⟩).heap.modify 8 (putC cells32)).modify 9 (putC cells64)).modify 3 (putC cellsP)).modify 7 (putC cellsA)).modify 5 (putC #[.iface 175 (.pointer (some ⟨(World.holding Tryz.prog os ⟨#[], #[], []⟩).heap.size, 0, none⟩))])).modify 4 (putC #[.iface 175 (.pointer (some ⟨(World.holding Tryz.prog os ⟨#[], #[], []⟩).heap.size + 1, 0, none⟩))])).modify 0 (putC cellsS)).modify 1 (putC cellsN)).modify 6 (putC cellsF) } : World).forCall (fun _ _ => 0) ⟨#[], args, []⟩).memory :=
  laidMet_of_run' 8 (by kernel_rfl) (by kernel_rfl)
/-- A part, as data. -/
def pd {H : Type} (p : Pt) : DataW H := .agg [.lit (.int .u8 p.wn), .lit (.int .u8 p.vb), .lit (.int .u8 p.wm), .lit (.int .i64 p.ct), .lit (.int .u8 p.su), .lit (.int .u8 p.tr), .lit (.int .u8 p.mr), .lit (.string p.nm.data.toList)]
structure Pwf (p : Pt) : Prop where
  wn : (Lit.int .u8 p.wn).wf = true
  vb : (Lit.int .u8 p.vb).wf = true
  wm : (Lit.int .u8 p.wm).wf = true
  ct : (Lit.int .i64 p.ct).wf = true
  su : (Lit.int .u8 p.su).wf = true
  tr : (Lit.int .u8 p.tr).wf = true
  mr : (Lit.int .u8 p.mr).wf = true
  nm : p.nm.size ≤ maxLen
set_option maxRecDepth 100000 in
theorem shut_part {H : Type} {enc : TypeId × Value → H} {w : World} {base : Nat} {sp : Nat → Bool} {held : Bool} {p : Pt} (h : Pwf p) : DataW.Trod enc Tryz.prog w base sp held 30 (pv p) (pd p) [] :=
  ⟨2, by simp [DataW.trod, pv, pd, Value.cells, Tryz.underlying30, Tryz.cells30', Tryz.cells23', Tryz.cells24', Tryz.cells25', Tryz.cells26', Tryz.cells27', Tryz.cells28', Tryz.cells3', Tryz.cells9', Tryz.underlying23, Tryz.underlying24, Tryz.underlying25, Tryz.underlying26, Tryz.underlying27, Tryz.underlying28, Tryz.underlying3, Tryz.underlying9, h.wn, h.vb, h.wm, h.ct, h.su, h.tr, h.mr, h.nm]⟩
set_option maxRecDepth 100000 in
theorem open_part {H : Type} {enc : TypeId × Value → H} {w : World} {base : Nat} {sp : Nat → Bool} {held : Bool} {r : Reach} {b0 : Nat} {v : Value} {d : DataW H} {ps : List MemPlace} (hval : Value.okWide Tryz.prog w r b0 30 v) (hd : DataW.Trod enc Tryz.prog w base sp held 30 v d ps) : ∃ p : Pt, v = pv p ∧ d = pd p ∧ ps = [] ∧ Pwf p := by
  obtain ⟨cs, rfl, hsz⟩ := okWide_struct Tryz.underlying30 hval
  rw [Tryz.cells30'] at hsz
  obtain ⟨l⟩ := cs
  obtain ⟨c0, c1, c2, c3, c4, c5, c6, c7, rfl⟩ : ∃ c0 c1 c2 c3 c4 c5 c6 c7, l = [c0, c1, c2, c3, c4, c5, c6, c7] := by
    match l, hsz with
    | [c0, c1, c2, c3, c4, c5, c6, c7], _ => exact ⟨c0, c1, c2, c3, c4, c5, c6, c7, rfl⟩
  obtain ⟨fuel, hf⟩ := hd
  obtain ⟨xs, n, _, hx, _, hlen, hfl⟩ := DataW.trod_struct Tryz.underlying30 hf
  match xs, hlen with
  | [y0, y1, y2, y3, y4, y5, y6, y7], _ =>
    have u0 : DataW.trod enc Tryz.prog w base sp held n 23 (([c0, c1, c2, c3, c4, c5, c6, c7].drop 0).take (Tryz.prog.cellsOf 23)) = some y0 := hfl 0 _ rfl
    rw [Tryz.cells23'] at u0
    have t0 : DataW.trod enc Tryz.prog w base sp held n 23 [c0] = some y0 := u0
    obtain ⟨z0, e0, hy0, w0⟩ := DataW.trod_int Tryz.underlying23 t0
    have u1 : DataW.trod enc Tryz.prog w base sp held n 24 (([c0, c1, c2, c3, c4, c5, c6, c7].drop 1).take (Tryz.prog.cellsOf 24)) = some y1 := hfl 1 _ rfl
    rw [Tryz.cells24'] at u1
    have t1 : DataW.trod enc Tryz.prog w base sp held n 24 [c1] = some y1 := u1
    obtain ⟨z1, e1, hy1, w1⟩ := DataW.trod_int Tryz.underlying24 t1
    have u2 : DataW.trod enc Tryz.prog w base sp held n 25 (([c0, c1, c2, c3, c4, c5, c6, c7].drop 2).take (Tryz.prog.cellsOf 25)) = some y2 := hfl 2 _ rfl
    rw [Tryz.cells25'] at u2
    have t2 : DataW.trod enc Tryz.prog w base sp held n 25 [c2] = some y2 := u2
    obtain ⟨z2, e2, hy2, w2⟩ := DataW.trod_int Tryz.underlying25 t2
    have u3 : DataW.trod enc Tryz.prog w base sp held n 3 (([c0, c1, c2, c3, c4, c5, c6, c7].drop 3).take (Tryz.prog.cellsOf 3)) = some y3 := hfl 3 _ rfl
    rw [Tryz.cells3'] at u3
    have t3 : DataW.trod enc Tryz.prog w base sp held n 3 [c3] = some y3 := u3
    obtain ⟨z3, e3, hy3, w3⟩ := DataW.trod_int Tryz.underlying3 t3
    have u4 : DataW.trod enc Tryz.prog w base sp held n 26 (([c0, c1, c2, c3, c4, c5, c6, c7].drop 4).take (Tryz.prog.cellsOf 26)) = some y4 := hfl 4 _ rfl
    rw [Tryz.cells26'] at u4
    have t4 : DataW.trod enc Tryz.prog w base sp held n 26 [c4] = some y4 := u4
    obtain ⟨z4, e4, hy4, w4⟩ := DataW.trod_int Tryz.underlying26 t4
    have u5 : DataW.trod enc Tryz.prog w base sp held n 27 (([c0, c1, c2, c3, c4, c5, c6, c7].drop 5).take (Tryz.prog.cellsOf 27)) = some y5 := hfl 5 _ rfl
    rw [Tryz.cells27'] at u5
    have t5 : DataW.trod enc Tryz.prog w base sp held n 27 [c5] = some y5 := u5
    obtain ⟨z5, e5, hy5, w5⟩ := DataW.trod_int Tryz.underlying27 t5
    have u6 : DataW.trod enc Tryz.prog w base sp held n 28 (([c0, c1, c2, c3, c4, c5, c6, c7].drop 6).take (Tryz.prog.cellsOf 28)) = some y6 := hfl 6 _ rfl
    rw [Tryz.cells28'] at u6
    have t6 : DataW.trod enc Tryz.prog w base sp held n 28 [c6] = some y6 := u6
    obtain ⟨z6, e6, hy6, w6⟩ := DataW.trod_int Tryz.underlying28 t6
    have u7 : DataW.trod enc Tryz.prog w base sp held n 9 (([c0, c1, c2, c3, c4, c5, c6, c7].drop 7).take (Tryz.prog.cellsOf 9)) = some y7 := hfl 7 _ rfl
    rw [Tryz.cells9'] at u7
    have t7 : DataW.trod enc Tryz.prog w base sp held n 9 [c7] = some y7 := u7
    obtain ⟨z7, e7, hy7, w7⟩ := DataW.trod_string Tryz.underlying9 t7
    simp only [List.cons.injEq, and_true] at e0 e1 e2 e3 e4 e5 e6 e7
    subst e0 e1 e2 e3 e4 e5 e6 e7 hy0 hy1 hy2 hy3 hy4 hy5 hy6 hy7
    simp only [Prod.mk.injEq] at hx
    exact ⟨⟨z0, z1, z2, z3, z4, z5, z6, z7⟩, rfl, hx.1, by simpa using hx.2, ⟨w0, w1, w2, w3, w4, w5, w6, w7⟩⟩
end Go.Proofs.YthpoejgmofppbaaGreatDoor
