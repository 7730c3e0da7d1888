/-
  A thing, features, four numbers of marks, read as data.
  Layers in memory: things, features, standing effects, rows; the table.
-/
import Derived.Test.YtblkghfnjahkeaaGreatL14
import Derived.Test.YtblkghfnjahkeaaGreatL16
import Derived.Laws.IdiomArrays
import Derived.ProofKit
import Derived.OpenShut
import Derived.ChangeOld
import Derived.ChangeAt
import Derived.Deep.Slices
import Derived.SizedLaws
import Derived.Test.YtblkghfnjahkeaaGreatL15
namespace Go.Proofs.YtblkghfnjahkeaaGreat
open Go.ChangeShapes Go.WideShapes Go.ChangeAt Go.RowKit Go.Deep

theorem Tryz.own : ownKnob Tryz.prog.godebug = none := by kernel_rfl
theorem Tryz.laidOut : laidOutB Tryz.prog = true := by kernel_rfl
def thv (t : Th) : Value := .agg #[.int .i64 t.card, .int .i64 t.owner, .int .u8 t.place, .int .i64 t.stamp, .int .i64 t.hurt, .int .i64 t.m0, .int .i64 t.m1, .int .i64 t.m2, .int .i64 t.m3, .int .i64 t.done, .bool t.fresh]
def fov (c0 c1 c2 c3 : Int) : Value := .agg #[.int .i64 c0, .int .i64 c1, .int .i64 c2, .int .i64 c3]
theorem inI_of {n : Int} (h : (Lit.int .i64 n).wf = true) : InI n := i64_of h
theorem cOfI : Tryz.prog.cellsOf 3 = 1 := by kernel_rfl
theorem cOfB : Tryz.prog.cellsOf 4 = 1 := by kernel_rfl
theorem cOfPl : Tryz.prog.cellsOf 83 = 1 := by kernel_rfl
theorem cOfSu : Tryz.prog.cellsOf 29 = 1 := by kernel_rfl
theorem cOfTs : Tryz.prog.cellsOf 40 = 1 := by kernel_rfl
theorem cOf4 : Tryz.prog.cellsOf 84 = 4 := by kernel_rfl
theorem cOfFe : Tryz.prog.cellsOf 88 = 5 := by kernel_rfl
theorem cOfTh : Tryz.prog.cellsOf 86 = 11 := by kernel_rfl
set_option maxRecDepth 100000 in
theorem four_cells {H : Type} {enc : TypeId × Value → H} {w : World} {base : Nat} {sp : Nat → Bool} {held : Bool} {fuel : Nat} {c0 c1 c2 c3 : Value} {x : DataW H × List MemPlace} (hf : DataW.trod enc Tryz.prog w base sp held fuel 84 [c0, c1, c2, c3] = some x) : ∃ z0 z1 z2 z3 : Int, c0 = .int .i64 z0 ∧ c1 = .int .i64 z1 ∧ c2 = .int .i64 z2 ∧ c3 = .int .i64 z3 ∧ InI z0 ∧ InI z1 ∧ InI z2 ∧ InI z3 := by
  obtain ⟨y0, y1, y2, y3, m, hx, hy0, hy1, hy2, hy3⟩ := trod_array4 Tryz.underlying84 cOfI hf
  obtain ⟨x0, e0, _, w0⟩ := DataW.trod_int Tryz.underlying3 hy0
  obtain ⟨x1, e1, _, w1⟩ := DataW.trod_int Tryz.underlying3 hy1
  obtain ⟨x2, e2, _, w2⟩ := DataW.trod_int Tryz.underlying3 hy2
  obtain ⟨x3, e3, _, w3⟩ := DataW.trod_int Tryz.underlying3 hy3
  simp only [List.cons.injEq, and_true] at e0 e1 e2 e3
  exact ⟨x0, x1, x2, x3, e0, e1, e2, e3, inI_of w0, inI_of w1, inI_of w2, inI_of w3⟩
set_option maxRecDepth 100000 in
theorem open_four {H : Type} {enc : TypeId × Value → H} {w : World} {base : Nat} {sp : Nat → Bool} {held : Bool} {r : Reach} {b0 : Nat} {v : Value} {d : DataW H} {pl : List MemPlace} (hval : Value.okWide Tryz.prog w r b0 84 v) (hd : DataW.Trod enc Tryz.prog w base sp held 84 v d pl) : ∃ c0 c1 c2 c3 : Int, v = fov c0 c1 c2 c3 ∧ InI c0 ∧ InI c1 ∧ InI c2 ∧ InI c3 := by
  obtain ⟨cs, rfl, hsz, _⟩ : ∃ cs, v = .agg cs ∧ cs.size = Tryz.prog.cellsOf 84 ∧ Row.okWide Tryz.prog w r b0 84 cs := by
    simpa [Value.okWide, Tryz.underlying84] using hval
  rw [cOf4] at hsz
  obtain ⟨fuel, hf⟩ := hd
  obtain ⟨l⟩ := cs
  obtain ⟨c0, c1, c2, c3, rfl⟩ : ∃ c0 c1 c2 c3, l = [c0, c1, c2, c3] := by
    match l, (show l.length = 4 from hsz) with
    | [c0, c1, c2, c3], _ => exact ⟨c0, c1, c2, c3, rfl⟩
  obtain ⟨z0, z1, z2, z3, rfl, rfl, rfl, rfl, h⟩ := four_cells hf
  exact ⟨z0, z1, z2, z3, rfl, h⟩
set_option maxRecDepth 100000 in
theorem open_feature {H : Type} {enc : TypeId × Value → H} {w : World} {base : Nat} {sp : Nat → Bool} {held : Bool} {r : Reach} {b0 : Nat} {v : Value} {d : DataW H} {pl : List MemPlace} (hval : Value.okWide Tryz.prog w r b0 88 v) (hd : DataW.Trod enc Tryz.prog w base sp held 88 v d pl) : ∃ f : Fe, v = fev f ∧ InI f.po ∧ InI f.he := by
  obtain ⟨cs, rfl, hsz⟩ := okWide_struct Tryz.underlying88 hval
  rw [cOfFe] at hsz
  obtain ⟨fuel, hf⟩ := hd
  obtain ⟨l⟩ := cs
  obtain ⟨c0, c1, c2, c3, c4, rfl⟩ : ∃ c0 c1 c2 c3 c4, l = [c0, c1, c2, c3, c4] := by
    match l, (show l.length = 5 from hsz) with
    | [c0, c1, c2, c3, c4], _ => exact ⟨c0, c1, c2, c3, c4, rfl⟩
  obtain ⟨xs, n, _, hx, _, hlen, hfl⟩ := DataW.trod_struct Tryz.underlying88 hf
  match xs, hlen with
  | [y0, y1, y2, y3, y4], _ =>
    have t0 : DataW.trod enc Tryz.prog w base sp held n 3 (([c0, c1, c2, c3, c4].drop 0).take (Tryz.prog.cellsOf 3)) = some y0 := hfl 0 _ rfl
    rw [cOfI] at t0
    have t1 : DataW.trod enc Tryz.prog w base sp held n 29 (([c0, c1, c2, c3, c4].drop 1).take (Tryz.prog.cellsOf 29)) = some y1 := hfl 1 _ rfl
    rw [cOfSu] at t1
    have t2 : DataW.trod enc Tryz.prog w base sp held n 40 (([c0, c1, c2, c3, c4].drop 2).take (Tryz.prog.cellsOf 40)) = some y2 := hfl 2 _ rfl
    rw [cOfTs] at t2
    have t3 : DataW.trod enc Tryz.prog w base sp held n 3 (([c0, c1, c2, c3, c4].drop 3).take (Tryz.prog.cellsOf 3)) = some y3 := hfl 3 _ rfl
    rw [cOfI] at t3
    have t4 : DataW.trod enc Tryz.prog w base sp held n 3 (([c0, c1, c2, c3, c4].drop 4).take (Tryz.prog.cellsOf 3)) = some y4 := hfl 4 _ rfl
    rw [cOfI] at t4
    obtain ⟨z0, e0, _, w0⟩ := DataW.trod_int Tryz.underlying3 (cs := [c0]) t0
    simp only [List.cons.injEq, and_true] at e0
    subst e0
    obtain ⟨z1, e1, _, w1⟩ := DataW.trod_int Tryz.underlying29 (cs := [c1]) t1
    simp only [List.cons.injEq, and_true] at e1
    subst e1
    obtain ⟨z2, e2, _, w2⟩ := DataW.trod_int Tryz.underlying40 (cs := [c2]) t2
    simp only [List.cons.injEq, and_true] at e2
    subst e2
    obtain ⟨z3, e3, _, w3⟩ := DataW.trod_int Tryz.underlying3 (cs := [c3]) t3
    simp only [List.cons.injEq, and_true] at e3
    subst e3
    obtain ⟨z4, e4, _, w4⟩ := DataW.trod_int Tryz.underlying3 (cs := [c4]) t4
    simp only [List.cons.injEq, and_true] at e4
    subst e4
    exact ⟨⟨z0, z1, z2, z3, z4⟩, rfl, inI_of w3, inI_of w4⟩
set_option maxRecDepth 100000 in
theorem open_thing {H : Type} {enc : TypeId × Value → H} {w : World} {base : Nat} {sp : Nat → Bool} {held : Bool} {r : Reach} {b0 : Nat} {v : Value} {d : DataW H} {pl : List MemPlace} (hval : Value.okWide Tryz.prog w r b0 86 v) (hd : DataW.Trod enc Tryz.prog w base sp held 86 v d pl) : ∃ t : Th, v = thv t := by
  obtain ⟨cs, rfl, hsz⟩ := okWide_struct Tryz.underlying86 hval
  rw [cOfTh] at hsz
  obtain ⟨fuel, hf⟩ := hd
  obtain ⟨l⟩ := cs
  obtain ⟨c0, c1, c2, c3, c4, c5, c6, c7, c8, c9, c10, rfl⟩ : ∃ c0 c1 c2 c3 c4 c5 c6 c7 c8 c9 c10, l = [c0, c1, c2, c3, c4, c5, c6, c7, c8, c9, c10] := by
    match l, (show l.length = 11 from hsz) with
    | [c0, c1, c2, c3, c4, c5, c6, c7, c8, c9, c10], _ => exact ⟨c0, c1, c2, c3, c4, c5, c6, c7, c8, c9, c10, rfl⟩
  obtain ⟨xs, n, _, hx, _, hlen, hfl⟩ := DataW.trod_struct Tryz.underlying86 hf
  match xs, hlen with
  | [y0, y1, y2, y3, y4, y5, y6, y7], _ =>
    have t0 : DataW.trod enc Tryz.prog w base sp held n 3 (([c0, c1, c2, c3, c4, c5, c6, c7, c8, c9, c10].drop 0).take (Tryz.prog.cellsOf 3)) = some y0 := hfl 0 _ rfl
    rw [cOfI] at t0
    have t1 : DataW.trod enc Tryz.prog w base sp held n 3 (([c0, c1, c2, c3, c4, c5, c6, c7, c8, c9, c10].drop 1).take (Tryz.prog.cellsOf 3)) = some y1 := hfl 1 _ rfl
    rw [cOfI] at t1
    have t2 : DataW.trod enc Tryz.prog w base sp held n 83 (([c0, c1, c2, c3, c4, c5, c6, c7, c8, c9, c10].drop 2).take (Tryz.prog.cellsOf 83)) = some y2 := hfl 2 _ rfl
    rw [cOfPl] at t2
    have t3 : DataW.trod enc Tryz.prog w base sp held n 3 (([c0, c1, c2, c3, c4, c5, c6, c7, c8, c9, c10].drop 3).take (Tryz.prog.cellsOf 3)) = some y3 := hfl 3 _ rfl
    rw [cOfI] at t3
    have t4 : DataW.trod enc Tryz.prog w base sp held n 3 (([c0, c1, c2, c3, c4, c5, c6, c7, c8, c9, c10].drop 4).take (Tryz.prog.cellsOf 3)) = some y4 := hfl 4 _ rfl
    rw [cOfI] at t4
    have t5 : DataW.trod enc Tryz.prog w base sp held n 84 (([c0, c1, c2, c3, c4, c5, c6, c7, c8, c9, c10].drop 5).take (Tryz.prog.cellsOf 84)) = some y5 := hfl 5 _ rfl
    rw [cOf4] at t5
    have t6 : DataW.trod enc Tryz.prog w base sp held n 3 (([c0, c1, c2, c3, c4, c5, c6, c7, c8, c9, c10].drop 9).take (Tryz.prog.cellsOf 3)) = some y6 := hfl 6 _ rfl
    rw [cOfI] at t6
    have t7 : DataW.trod enc Tryz.prog w base sp held n 4 (([c0, c1, c2, c3, c4, c5, c6, c7, c8, c9, c10].drop 10).take (Tryz.prog.cellsOf 4)) = some y7 := hfl 7 _ rfl
    rw [cOfB] at t7
    obtain ⟨z0, e0, _, w0⟩ := DataW.trod_int Tryz.underlying3 (cs := [c0]) t0
    simp only [List.cons.injEq, and_true] at e0
    subst e0
    obtain ⟨z1, e1, _, w1⟩ := DataW.trod_int Tryz.underlying3 (cs := [c1]) t1
    simp only [List.cons.injEq, and_true] at e1
    subst e1
    obtain ⟨z2, e2, _, w2⟩ := DataW.trod_int Tryz.underlying83 (cs := [c2]) t2
    simp only [List.cons.injEq, and_true] at e2
    subst e2
    obtain ⟨z3, e3, _, w3⟩ := DataW.trod_int Tryz.underlying3 (cs := [c3]) t3
    simp only [List.cons.injEq, and_true] at e3
    subst e3
    obtain ⟨z4, e4, _, w4⟩ := DataW.trod_int Tryz.underlying3 (cs := [c4]) t4
    simp only [List.cons.injEq, and_true] at e4
    subst e4
    obtain ⟨z5, z6, z7, z8, rfl, rfl, rfl, rfl, w5, w6, w7, w8⟩ := four_cells (c0 := c5) (c1 := c6) (c2 := c7) (c3 := c8) t5
    obtain ⟨z9, e9, _, w9⟩ := DataW.trod_int Tryz.underlying3 (cs := [c9]) t6
    simp only [List.cons.injEq, and_true] at e9
    subst e9
    obtain ⟨z10, e10, _⟩ := DataW.trod_bool Tryz.underlying4 (cs := [c10]) t7
    simp only [List.cons.injEq, and_true] at e10
    subst e10
    exact ⟨⟨z0, z1, z2, z3, z4, z5, z6, z7, z8, z9, z10⟩, rfl⟩
end Go.Proofs.YtblkghfnjahkeaaGreat
namespace Go.Proofs.YtblkghfnjahkeaaGreat
open Go.RowKit

/-- A row in memory: where its card's parts lie. -/
structure Rv where
  r : Rw
  pa : Option Addr
  ca : Nat
def Rv.u (x : Rv) : Value := .slice x.pa x.r.ps.length x.ca
def rws (X : List Rv) : List Rw := X.map Rv.r
theorem rws_len (X : List Rv) : (rws X).length = X.length := List.length_map _
theorem rws_get {X : List Rv} {i : Nat} (h : i < X.length) : (rws X).getD i Rw.none = X[i].r := by
  unfold rws
  rw [List.getD_eq_getElem?_getD, List.getElem?_map, List.getElem?_eq_getElem h]
  rfl
def thc (t : Th) : List Value := [.int .i64 t.card, .int .i64 t.owner, .int .u8 t.place, .int .i64 t.stamp, .int .i64 t.hurt, .int .i64 t.m0, .int .i64 t.m1, .int .i64 t.m2, .int .i64 t.m3, .int .i64 t.done, .bool t.fresh]
theorem thc_ones (t : Th) : ∀ v ∈ thc t, v.oneCell' = true := fun v h => by
  simp only [thc, List.mem_cons, List.not_mem_nil, or_false] at h
  rcases h with h | h | h | h | h | h | h | h | h | h | h <;> (subst h; rfl)
def thR : RecT Th := ⟨11, thc, fun _ => rfl, thc_ones, by decide⟩
theorem th_cells {w : World} {g o : Nat} {t : Th} (h : w.rangeAt g o (thc t)) : w.cell? ⟨g, o, none⟩ = some (.int .i64 t.card) ∧ w.cell? ⟨g, o + 1, none⟩ = some (.int .i64 t.owner) ∧ w.cell? ⟨g, o + 2, none⟩ = some (.int .u8 t.place) ∧ w.cell? ⟨g, o + 3, none⟩ = some (.int .i64 t.stamp) ∧ w.cell? ⟨g, o + 4, none⟩ = some (.int .i64 t.hurt) ∧ w.cell? ⟨g, o + 5, none⟩ = some (.int .i64 t.m0) ∧ w.cell? ⟨g, o + 6, none⟩ = some (.int .i64 t.m1) ∧ w.cell? ⟨g, o + 7, none⟩ = some (.int .i64 t.m2) ∧ w.cell? ⟨g, o + 8, none⟩ = some (.int .i64 t.m3) ∧ w.cell? ⟨g, o + 9, none⟩ = some (.int .i64 t.done) ∧ w.cell? ⟨g, o + 10, none⟩ = some (.bool t.fresh) :=
  ⟨h 0 _ rfl, h 1 _ rfl, h 2 _ rfl, h 3 _ rfl, h 4 _ rfl, h 5 _ rfl, h 6 _ rfl, h 7 _ rfl, h 8 _ rfl, h 9 _ rfl, h 10 _ rfl⟩
def ThB (w : World) (g : Nat) (t : Th) : Prop := w.heap[g]? = some (.cells #[.int .i64 t.card, .int .i64 t.owner, .int .u8 t.place, .int .i64 t.stamp, .int .i64 t.hurt, .int .i64 t.m0, .int .i64 t.m1, .int .i64 t.m2, .int .i64 t.m3, .int .i64 t.done, .bool t.fresh] 86 (0, 0))
theorem th_box {w : World} {g : Nat} {t : Th} (h : ThB w g t) : w.cell? ⟨g, 0, none⟩ = some (.int .i64 t.card) ∧ w.cell? ⟨g, 1, none⟩ = some (.int .i64 t.owner) ∧ w.cell? ⟨g, 2, none⟩ = some (.int .u8 t.place) ∧ w.cell? ⟨g, 3, none⟩ = some (.int .i64 t.stamp) ∧ w.cell? ⟨g, 4, none⟩ = some (.int .i64 t.hurt) ∧ w.cell? ⟨g, 5, none⟩ = some (.int .i64 t.m0) ∧ w.cell? ⟨g, 6, none⟩ = some (.int .i64 t.m1) ∧ w.cell? ⟨g, 7, none⟩ = some (.int .i64 t.m2) ∧ w.cell? ⟨g, 8, none⟩ = some (.int .i64 t.m3) ∧ w.cell? ⟨g, 9, none⟩ = some (.int .i64 t.done) ∧ w.cell? ⟨g, 10, none⟩ = some (.bool t.fresh) :=
  ⟨(block_cell h 0).trans rfl, (block_cell h 1).trans rfl, (block_cell h 2).trans rfl, (block_cell h 3).trans rfl, (block_cell h 4).trans rfl, (block_cell h 5).trans rfl, (block_cell h 6).trans rfl, (block_cell h 7).trans rfl, (block_cell h 8).trans rfl, (block_cell h 9).trans rfl, (block_cell h 10).trans rfl⟩
def fec (f : Fe) : List Value := [.int .i64 f.ho, .int .u8 f.su, .int .u16 f.tr, .int .i64 f.po, .int .i64 f.he]
theorem fec_ones (f : Fe) : ∀ v ∈ fec f, v.oneCell' = true := fun v h => by
  simp only [fec, List.mem_cons, List.not_mem_nil, or_false] at h
  rcases h with h | h | h | h | h <;> (subst h; rfl)
def feR : RecT Fe := ⟨5, fec, fun _ => rfl, fec_ones, by decide⟩
theorem fe_cells {w : World} {g o : Nat} {f : Fe} (h : w.rangeAt g o (fec f)) : w.cell? ⟨g, o, none⟩ = some (.int .i64 f.ho) ∧ w.cell? ⟨g, o + 1, none⟩ = some (.int .u8 f.su) ∧ w.cell? ⟨g, o + 2, none⟩ = some (.int .u16 f.tr) ∧ w.cell? ⟨g, o + 3, none⟩ = some (.int .i64 f.po) ∧ w.cell? ⟨g, o + 4, none⟩ = some (.int .i64 f.he) :=
  ⟨h 0 _ rfl, h 1 _ rfl, h 2 _ rfl, h 3 _ rfl, h 4 _ rfl⟩
def FeB (w : World) (g : Nat) (f : Fe) : Prop := w.heap[g]? = some (.cells #[.int .i64 f.ho, .int .u8 f.su, .int .u16 f.tr, .int .i64 f.po, .int .i64 f.he] 88 (0, 0))
theorem fe_box {w : World} {g : Nat} {f : Fe} (h : FeB w g f) : w.cell? ⟨g, 0, none⟩ = some (.int .i64 f.ho) ∧ w.cell? ⟨g, 1, none⟩ = some (.int .u8 f.su) ∧ w.cell? ⟨g, 2, none⟩ = some (.int .u16 f.tr) ∧ w.cell? ⟨g, 3, none⟩ = some (.int .i64 f.po) ∧ w.cell? ⟨g, 4, none⟩ = some (.int .i64 f.he) :=
  ⟨(block_cell h 0).trans rfl, (block_cell h 1).trans rfl, (block_cell h 2).trans rfl, (block_cell h 3).trans rfl, (block_cell h 4).trans rfl⟩
def sdc (s : Sd) : List Value := [.int .i64 s.th, .int .i64 s.pl, .int .u8 s.wh.wn, .int .u8 s.wh.vb, .int .u8 s.wh.wm, .int .i64 s.wh.ct, .int .u8 s.wh.su, .int .u8 s.wh.tr, .int .u8 s.wh.mr, .string s.wh.nm]
def sdv (s : Sd) : Value := .agg #[.int .i64 s.th, .int .i64 s.pl, .int .u8 s.wh.wn, .int .u8 s.wh.vb, .int .u8 s.wh.wm, .int .i64 s.wh.ct, .int .u8 s.wh.su, .int .u8 s.wh.tr, .int .u8 s.wh.mr, .string s.wh.nm]
theorem sdc_ones (s : Sd) : ∀ v ∈ sdc s, v.oneCell' = true := fun v h => by
  simp only [sdc, List.mem_cons, List.not_mem_nil, or_false] at h
  rcases h with h | h | h | h | h | h | h | h | h | h <;> (subst h; rfl)
def sdR : RecT Sd := ⟨10, sdc, fun _ => rfl, sdc_ones, by decide⟩
theorem sd_cells {w : World} {g o : Nat} {s : Sd} (h : w.rangeAt g o (sdc s)) : w.cell? ⟨g, o, none⟩ = some (.int .i64 s.th) ∧ w.cell? ⟨g, o + 1, none⟩ = some (.int .i64 s.pl) ∧ w.cell? ⟨g, o + 2, none⟩ = some (.int .u8 s.wh.wn) ∧ w.cell? ⟨g, o + 3, none⟩ = some (.int .u8 s.wh.vb) ∧ w.cell? ⟨g, o + 4, none⟩ = some (.int .u8 s.wh.wm) ∧ w.cell? ⟨g, o + 5, none⟩ = some (.int .i64 s.wh.ct) ∧ w.cell? ⟨g, o + 6, none⟩ = some (.int .u8 s.wh.su) ∧ w.cell? ⟨g, o + 7, none⟩ = some (.int .u8 s.wh.tr) ∧ w.cell? ⟨g, o + 8, none⟩ = some (.int .u8 s.wh.mr) ∧ w.cell? ⟨g, o + 9, none⟩ = some (.string s.wh.nm) :=
  ⟨h 0 _ rfl, h 1 _ rfl, h 2 _ rfl, h 3 _ rfl, h 4 _ rfl, h 5 _ rfl, h 6 _ rfl, h 7 _ rfl, h 8 _ rfl, h 9 _ rfl⟩
def SdB (w : World) (g : Nat) (s : Sd) : Prop := w.heap[g]? = some (.cells #[.int .i64 s.th, .int .i64 s.pl, .int .u8 s.wh.wn, .int .u8 s.wh.vb, .int .u8 s.wh.wm, .int .i64 s.wh.ct, .int .u8 s.wh.su, .int .u8 s.wh.tr, .int .u8 s.wh.mr, .string s.wh.nm] 35 (0, 0))
theorem sd_box {w : World} {g : Nat} {s : Sd} (h : SdB w g s) : w.cell? ⟨g, 0, none⟩ = some (.int .i64 s.th) ∧ w.cell? ⟨g, 1, none⟩ = some (.int .i64 s.pl) ∧ w.cell? ⟨g, 2, none⟩ = some (.int .u8 s.wh.wn) ∧ w.cell? ⟨g, 3, none⟩ = some (.int .u8 s.wh.vb) ∧ w.cell? ⟨g, 4, none⟩ = some (.int .u8 s.wh.wm) ∧ w.cell? ⟨g, 5, none⟩ = some (.int .i64 s.wh.ct) ∧ w.cell? ⟨g, 6, none⟩ = some (.int .u8 s.wh.su) ∧ w.cell? ⟨g, 7, none⟩ = some (.int .u8 s.wh.tr) ∧ w.cell? ⟨g, 8, none⟩ = some (.int .u8 s.wh.mr) ∧ w.cell? ⟨g, 9, none⟩ = some (.string s.wh.nm) :=
  ⟨(block_cell h 0).trans rfl, (block_cell h 1).trans rfl, (block_cell h 2).trans rfl, (block_cell h 3).trans rfl, (block_cell h 4).trans rfl, (block_cell h 5).trans rfl, (block_cell h 6).trans rfl, (block_cell h 7).trans rfl, (block_cell h 8).trans rfl, (block_cell h 9).trans rfl⟩
def sec (e : Se) : List Value := [.int .i64 e.s.th, .int .i64 e.s.pl, .int .u8 e.s.wh.wn, .int .u8 e.s.wh.vb, .int .u8 e.s.wh.wm, .int .i64 e.s.wh.ct, .int .u8 e.s.wh.su, .int .u8 e.s.wh.tr, .int .u8 e.s.wh.mr, .string e.s.wh.nm, .int .i64 (e.ro : Int)]
def sev (e : Se) : Value := .agg #[.int .i64 e.s.th, .int .i64 e.s.pl, .int .u8 e.s.wh.wn, .int .u8 e.s.wh.vb, .int .u8 e.s.wh.wm, .int .i64 e.s.wh.ct, .int .u8 e.s.wh.su, .int .u8 e.s.wh.tr, .int .u8 e.s.wh.mr, .string e.s.wh.nm, .int .i64 (e.ro : Int)]
theorem sec_ones (e : Se) : ∀ v ∈ sec e, v.oneCell' = true := fun v h => by
  simp only [sec, List.mem_cons, List.not_mem_nil, or_false] at h
  rcases h with h | h | h | h | h | h | h | h | h | h | h <;> (subst h; rfl)
def seR : RecT Se := ⟨11, sec, fun _ => rfl, sec_ones, by decide⟩
theorem se_cells {w : World} {g o : Nat} {e : Se} (h : w.rangeAt g o (sec e)) : w.cell? ⟨g, o, none⟩ = some (.int .i64 e.s.th) ∧ w.cell? ⟨g, o + 1, none⟩ = some (.int .i64 e.s.pl) ∧ w.cell? ⟨g, o + 2, none⟩ = some (.int .u8 e.s.wh.wn) ∧ w.cell? ⟨g, o + 3, none⟩ = some (.int .u8 e.s.wh.vb) ∧ w.cell? ⟨g, o + 4, none⟩ = some (.int .u8 e.s.wh.wm) ∧ w.cell? ⟨g, o + 5, none⟩ = some (.int .i64 e.s.wh.ct) ∧ w.cell? ⟨g, o + 6, none⟩ = some (.int .u8 e.s.wh.su) ∧ w.cell? ⟨g, o + 7, none⟩ = some (.int .u8 e.s.wh.tr) ∧ w.cell? ⟨g, o + 8, none⟩ = some (.int .u8 e.s.wh.mr) ∧ w.cell? ⟨g, o + 9, none⟩ = some (.string e.s.wh.nm) ∧ w.cell? ⟨g, o + 10, none⟩ = some (.int .i64 (e.ro : Int)) :=
  ⟨h 0 _ rfl, h 1 _ rfl, h 2 _ rfl, h 3 _ rfl, h 4 _ rfl, h 5 _ rfl, h 6 _ rfl, h 7 _ rfl, h 8 _ rfl, h 9 _ rfl, h 10 _ rfl⟩
def SeB (w : World) (g : Nat) (e : Se) : Prop := w.heap[g]? = some (.cells #[.int .i64 e.s.th, .int .i64 e.s.pl, .int .u8 e.s.wh.wn, .int .u8 e.s.wh.vb, .int .u8 e.s.wh.wm, .int .i64 e.s.wh.ct, .int .u8 e.s.wh.su, .int .u8 e.s.wh.tr, .int .u8 e.s.wh.mr, .string e.s.wh.nm, .int .i64 (e.ro : Int)] 111 (0, 0))
theorem se_box {w : World} {g : Nat} {e : Se} (h : SeB w g e) : w.cell? ⟨g, 0, none⟩ = some (.int .i64 e.s.th) ∧ w.cell? ⟨g, 1, none⟩ = some (.int .i64 e.s.pl) ∧ w.cell? ⟨g, 2, none⟩ = some (.int .u8 e.s.wh.wn) ∧ w.cell? ⟨g, 3, none⟩ = some (.int .u8 e.s.wh.vb) ∧ w.cell? ⟨g, 4, none⟩ = some (.int .u8 e.s.wh.wm) ∧ w.cell? ⟨g, 5, none⟩ = some (.int .i64 e.s.wh.ct) ∧ w.cell? ⟨g, 6, none⟩ = some (.int .u8 e.s.wh.su) ∧ w.cell? ⟨g, 7, none⟩ = some (.int .u8 e.s.wh.tr) ∧ w.cell? ⟨g, 8, none⟩ = some (.int .u8 e.s.wh.mr) ∧ w.cell? ⟨g, 9, none⟩ = some (.string e.s.wh.nm) ∧ w.cell? ⟨g, 10, none⟩ = some (.int .i64 (e.ro : Int)) :=
  ⟨(block_cell h 0).trans rfl, (block_cell h 1).trans rfl, (block_cell h 2).trans rfl, (block_cell h 3).trans rfl, (block_cell h 4).trans rfl, (block_cell h 5).trans rfl, (block_cell h 6).trans rfl, (block_cell h 7).trans rfl, (block_cell h 8).trans rfl, (block_cell h 9).trans rfl, (block_cell h 10).trans rfl⟩
def rvc (x : Rv) : List Value := [.int .i64 x.r.nu, .int .i64 x.r.st, .string x.r.h.nm, .int .u8 x.r.h.su, .int .u8 x.r.h.kd, .int .i64 x.r.h.co, .int .i64 x.r.h.po, .int .i64 x.r.h.he, .int .u16 x.r.h.tr, .bool x.r.h.tk, x.u]
def rvv (x : Rv) : Value := .agg #[.int .i64 x.r.nu, .int .i64 x.r.st, .string x.r.h.nm, .int .u8 x.r.h.su, .int .u8 x.r.h.kd, .int .i64 x.r.h.co, .int .i64 x.r.h.po, .int .i64 x.r.h.he, .int .u16 x.r.h.tr, .bool x.r.h.tk, x.u]
theorem rvc_ones (x : Rv) : ∀ v ∈ rvc x, v.oneCell' = true := fun v h => by
  simp only [rvc, List.mem_cons, List.not_mem_nil, or_false] at h
  rcases h with h | h | h | h | h | h | h | h | h | h | h <;> (subst h; rfl)
def rvR : RecT Rv := ⟨11, rvc, fun _ => rfl, rvc_ones, by decide⟩
theorem rv_cells {w : World} {g o : Nat} {x : Rv} (h : w.rangeAt g o (rvc x)) : w.cell? ⟨g, o, none⟩ = some (.int .i64 x.r.nu) ∧ w.cell? ⟨g, o + 1, none⟩ = some (.int .i64 x.r.st) ∧ w.cell? ⟨g, o + 2, none⟩ = some (.string x.r.h.nm) ∧ w.cell? ⟨g, o + 3, none⟩ = some (.int .u8 x.r.h.su) ∧ w.cell? ⟨g, o + 4, none⟩ = some (.int .u8 x.r.h.kd) ∧ w.cell? ⟨g, o + 5, none⟩ = some (.int .i64 x.r.h.co) ∧ w.cell? ⟨g, o + 6, none⟩ = some (.int .i64 x.r.h.po) ∧ w.cell? ⟨g, o + 7, none⟩ = some (.int .i64 x.r.h.he) ∧ w.cell? ⟨g, o + 8, none⟩ = some (.int .u16 x.r.h.tr) ∧ w.cell? ⟨g, o + 9, none⟩ = some (.bool x.r.h.tk) ∧ w.cell? ⟨g, o + 10, none⟩ = some (x.u) :=
  ⟨h 0 _ rfl, h 1 _ rfl, h 2 _ rfl, h 3 _ rfl, h 4 _ rfl, h 5 _ rfl, h 6 _ rfl, h 7 _ rfl, h 8 _ rfl, h 9 _ rfl, h 10 _ rfl⟩
def RvB (w : World) (g : Nat) (x : Rv) : Prop := w.heap[g]? = some (.cells #[.int .i64 x.r.nu, .int .i64 x.r.st, .string x.r.h.nm, .int .u8 x.r.h.su, .int .u8 x.r.h.kd, .int .i64 x.r.h.co, .int .i64 x.r.h.po, .int .i64 x.r.h.he, .int .u16 x.r.h.tr, .bool x.r.h.tk, x.u] 142 (0, 0))
theorem rv_box {w : World} {g : Nat} {x : Rv} (h : RvB w g x) : w.cell? ⟨g, 0, none⟩ = some (.int .i64 x.r.nu) ∧ w.cell? ⟨g, 1, none⟩ = some (.int .i64 x.r.st) ∧ w.cell? ⟨g, 2, none⟩ = some (.string x.r.h.nm) ∧ w.cell? ⟨g, 3, none⟩ = some (.int .u8 x.r.h.su) ∧ w.cell? ⟨g, 4, none⟩ = some (.int .u8 x.r.h.kd) ∧ w.cell? ⟨g, 5, none⟩ = some (.int .i64 x.r.h.co) ∧ w.cell? ⟨g, 6, none⟩ = some (.int .i64 x.r.h.po) ∧ w.cell? ⟨g, 7, none⟩ = some (.int .i64 x.r.h.he) ∧ w.cell? ⟨g, 8, none⟩ = some (.int .u16 x.r.h.tr) ∧ w.cell? ⟨g, 9, none⟩ = some (.bool x.r.h.tk) ∧ w.cell? ⟨g, 10, none⟩ = some (x.u) :=
  ⟨(block_cell h 0).trans rfl, (block_cell h 1).trans rfl, (block_cell h 2).trans rfl, (block_cell h 3).trans rfl, (block_cell h 4).trans rfl, (block_cell h 5).trans rfl, (block_cell h 6).trans rfl, (block_cell h 7).trans rfl, (block_cell h 8).trans rfl, (block_cell h 9).trans rfl, (block_cell h 10).trans rfl⟩
/-- The table: rows and their features. -/
def tbv (vr vf : Value) : Value := .agg #[vr, vf]
def TbB (w : World) (g : Nat) (vr vf : Value) : Prop := w.heap[g]? = some (.cells #[vr, vf] 106 (0, 0))
theorem tb_box {w : World} {g : Nat} {vr vf : Value} (h : TbB w g vr vf) : w.cell? ⟨g, 0, none⟩ = some vr ∧ w.cell? ⟨g, 1, none⟩ = some vf := ⟨(block_cell h 0).trans rfl, (block_cell h 1).trans rfl⟩
structure TbAt (w : World) (vr vf : Value) (X : List Rv) (F : List Fe) : Prop where
  rows : rvR.At w vr X
  parts : ∀ x ∈ X, PsAt w x.u x.r.ps ∧ x.r.ps.length ≤ 4
  fs : feR.At w vf F
  len : F.length = X.length
  few : X.length ≤ 16
theorem TbAt.keep {w w' : World} {vr vf : Value} {X : List Rv} {F : List Fe} (h : TbAt w vr vf X F) (g : w.grownBy w' none) : TbAt w' vr vf X F := ⟨h.rows.keep g, fun x hx => ⟨(h.parts x hx).1.keep g, (h.parts x hx).2⟩, h.fs.keep g, h.len, h.few⟩
theorem TbAt.row {w : World} {vr vf : Value} {X : List Rv} {F : List Fe} (h : TbAt w vr vf X F) {i : Nat} (hi : i < X.length) : ∃ g off cap, vr = .slice (some ⟨g, off, none⟩) X.length cap ∧ w.rangeAt g (off + i * 11) (rvc X[i]) := h.rows.there hi
theorem TbAt.fe {w : World} {vr vf : Value} {X : List Rv} {F : List Fe} (h : TbAt w vr vf X F) {i : Nat} (hi : i < X.length) : ∃ g off cap, vf = .slice (some ⟨g, off, none⟩) F.length cap ∧ w.rangeAt g (off + i * 5) (fec (F.getD i Fe.none)) := by
  have hi' : i < F.length := by rw [h.len]; exact hi
  have := h.fs.there hi'
  rw [show F.getD i Fe.none = F[i] from by rw [List.getD_eq_getElem?_getD, List.getElem?_eq_getElem hi']; rfl]
  exact this
end Go.Proofs.YtblkghfnjahkeaaGreat
