/-
  A thing, features, four numbers of marks, read as data.
  Layers in memory: things, features, standing effects, rows; the table.
  Layers: whom an effect is about.
-/
import Derived.Test.YtmemeloehgemcaaGreatV13
import Derived.Test.YtmemeloehgemcaaGreatV15
import Derived.Laws.IdiomArrays
import Derived.ProofKit
import Derived.OpenShut
import Derived.ChangeOld
import Derived.ChangeAt
import Derived.Deep.Slices
import Derived.SizedLaws
import Derived.Test.YtmemeloehgemcaaGreatV14
namespace Go.Proofs.YtmemeloehgemcaaGreat
open Go.ChangeShapes Go.WideShapes Go.ChangeAt Go.RowKit Go.Deep

theorem Tryz.own : ownKnob Tryz.prog.godebug = none := by kernel_rfl
theorem Tryz.laidOut : laidOutB Tryz.prog = true := by kernel_rfl
def thv (t : Th) : Value := .agg #[.int .i64 t.card, .int .i64 t.owner, .int .u8 t.place, .int .i64 t.stamp, .int .i64 t.hurt, .int .i64 t.m0, .int .i64 t.m1, .int .i64 t.m2, .int .i64 t.m3, .int .i64 t.done, .bool t.fresh]
def fov (c0 c1 c2 c3 : Int) : Value := .agg #[.int .i64 c0, .int .i64 c1, .int .i64 c2, .int .i64 c3]
theorem inI_of {n : Int} (h : (Lit.int .i64 n).wf = true) : InI n := i64_of h
theorem cOfI : Tryz.prog.cellsOf 3 = 1 := by kernel_rfl
theorem cOfB : Tryz.prog.cellsOf 4 = 1 := by kernel_rfl
theorem cOfPl : Tryz.prog.cellsOf 57 = 1 := by kernel_rfl
theorem cOfSu : Tryz.prog.cellsOf 43 = 1 := by kernel_rfl
theorem cOfTs : Tryz.prog.cellsOf 62 = 1 := by kernel_rfl
theorem cOf4 : Tryz.prog.cellsOf 58 = 4 := by kernel_rfl
theorem cOfFe : Tryz.prog.cellsOf 64 = 5 := by kernel_rfl
theorem cOfTh : Tryz.prog.cellsOf 60 = 11 := by kernel_rfl
set_option maxRecDepth 100000 in
theorem four_cells {H : Type} {enc : TypeId × Value → H} {w : World} {base : Nat} {sp : Nat → Bool} {held : Bool} {fuel : Nat} {c0 c1 c2 c3 : Value} {x : DataW H × List MemPlace} (hf : DataW.trod enc Tryz.prog w base sp held fuel 58 [c0, c1, c2, c3] = some x) : ∃ z0 z1 z2 z3 : Int, c0 = .int .i64 z0 ∧ c1 = .int .i64 z1 ∧ c2 = .int .i64 z2 ∧ c3 = .int .i64 z3 ∧ InI z0 ∧ InI z1 ∧ InI z2 ∧ InI z3 := by
  obtain ⟨y0, y1, y2, y3, m, hx, hy0, hy1, hy2, hy3⟩ := trod_array4 Tryz.underlying58 cOfI hf
  obtain ⟨x0, e0, _, w0⟩ := DataW.trod_int Tryz.underlying3 hy0
  obtain ⟨x1, e1, _, w1⟩ := DataW.trod_int Tryz.underlying3 hy1
  obtain ⟨x2, e2, _, w2⟩ := DataW.trod_int Tryz.underlying3 hy2
  obtain ⟨x3, e3, _, w3⟩ := DataW.trod_int Tryz.underlying3 hy3
  simp only [List.cons.injEq, and_true] at e0 e1 e2 e3
  exact ⟨x0, x1, x2, x3, e0, e1, e2, e3, inI_of w0, inI_of w1, inI_of w2, inI_of w3⟩
set_option maxRecDepth 100000 in
theorem open_four {H : Type} {enc : TypeId × Value → H} {w : World} {base : Nat} {sp : Nat → Bool} {held : Bool} {r : Reach} {b0 : Nat} {v : Value} {d : DataW H} {pl : List MemPlace} (hval : Value.okWide Tryz.prog w r b0 58 v) (hd : DataW.Trod enc Tryz.prog w base sp held 58 v d pl) : ∃ c0 c1 c2 c3 : Int, v = fov c0 c1 c2 c3 ∧ InI c0 ∧ InI c1 ∧ InI c2 ∧ InI c3 := by
  obtain ⟨cs, rfl, hsz, _⟩ : ∃ cs, v = .agg cs ∧ cs.size = Tryz.prog.cellsOf 58 ∧ Row.okWide Tryz.prog w r b0 58 cs := by
    simpa [Value.okWide, Tryz.underlying58] using hval
  rw [cOf4] at hsz
  obtain ⟨fuel, hf⟩ := hd
  obtain ⟨l⟩ := cs
  obtain ⟨c0, c1, c2, c3, rfl⟩ : ∃ c0 c1 c2 c3, l = [c0, c1, c2, c3] := by
    match l, (show l.length = 4 from hsz) with
    | [c0, c1, c2, c3], _ => exact ⟨c0, c1, c2, c3, rfl⟩
  obtain ⟨z0, z1, z2, z3, rfl, rfl, rfl, rfl, h⟩ := four_cells hf
  exact ⟨z0, z1, z2, z3, rfl, h⟩
set_option maxRecDepth 100000 in
theorem open_feature {H : Type} {enc : TypeId × Value → H} {w : World} {base : Nat} {sp : Nat → Bool} {held : Bool} {r : Reach} {b0 : Nat} {v : Value} {d : DataW H} {pl : List MemPlace} (hval : Value.okWide Tryz.prog w r b0 64 v) (hd : DataW.Trod enc Tryz.prog w base sp held 64 v d pl) : ∃ f : Fe, v = fev f ∧ InI f.po ∧ InI f.he := by
  obtain ⟨cs, rfl, hsz⟩ := okWide_struct Tryz.underlying64 hval
  rw [cOfFe] at hsz
  obtain ⟨fuel, hf⟩ := hd
  obtain ⟨l⟩ := cs
  obtain ⟨c0, c1, c2, c3, c4, rfl⟩ : ∃ c0 c1 c2 c3 c4, l = [c0, c1, c2, c3, c4] := by
    match l, (show l.length = 5 from hsz) with
    | [c0, c1, c2, c3, c4], _ => exact ⟨c0, c1, c2, c3, c4, rfl⟩
  obtain ⟨xs, n, _, hx, _, hlen, hfl⟩ := DataW.trod_struct Tryz.underlying64 hf
  match xs, hlen with
  | [y0, y1, y2, y3, y4], _ =>
    have t0 : DataW.trod enc Tryz.prog w base sp held n 3 (([c0, c1, c2, c3, c4].drop 0).take (Tryz.prog.cellsOf 3)) = some y0 := hfl 0 _ rfl
    rw [cOfI] at t0
    have t1 : DataW.trod enc Tryz.prog w base sp held n 43 (([c0, c1, c2, c3, c4].drop 1).take (Tryz.prog.cellsOf 43)) = some y1 := hfl 1 _ rfl
    rw [cOfSu] at t1
    have t2 : DataW.trod enc Tryz.prog w base sp held n 62 (([c0, c1, c2, c3, c4].drop 2).take (Tryz.prog.cellsOf 62)) = some y2 := hfl 2 _ rfl
    rw [cOfTs] at t2
    have t3 : DataW.trod enc Tryz.prog w base sp held n 3 (([c0, c1, c2, c3, c4].drop 3).take (Tryz.prog.cellsOf 3)) = some y3 := hfl 3 _ rfl
    rw [cOfI] at t3
    have t4 : DataW.trod enc Tryz.prog w base sp held n 3 (([c0, c1, c2, c3, c4].drop 4).take (Tryz.prog.cellsOf 3)) = some y4 := hfl 4 _ rfl
    rw [cOfI] at t4
    obtain ⟨z0, e0, _, w0⟩ := DataW.trod_int Tryz.underlying3 (cs := [c0]) t0
    simp only [List.cons.injEq, and_true] at e0
    subst e0
    obtain ⟨z1, e1, _, w1⟩ := DataW.trod_int Tryz.underlying43 (cs := [c1]) t1
    simp only [List.cons.injEq, and_true] at e1
    subst e1
    obtain ⟨z2, e2, _, w2⟩ := DataW.trod_int Tryz.underlying62 (cs := [c2]) t2
    simp only [List.cons.injEq, and_true] at e2
    subst e2
    obtain ⟨z3, e3, _, w3⟩ := DataW.trod_int Tryz.underlying3 (cs := [c3]) t3
    simp only [List.cons.injEq, and_true] at e3
    subst e3
    obtain ⟨z4, e4, _, w4⟩ := DataW.trod_int Tryz.underlying3 (cs := [c4]) t4
    simp only [List.cons.injEq, and_true] at e4
    subst e4
    exact ⟨⟨z0, z1, z2, z3, z4⟩, rfl, inI_of w3, inI_of w4⟩
set_option maxRecDepth 100000 in
theorem open_thing {H : Type} {enc : TypeId × Value → H} {w : World} {base : Nat} {sp : Nat → Bool} {held : Bool} {r : Reach} {b0 : Nat} {v : Value} {d : DataW H} {pl : List MemPlace} (hval : Value.okWide Tryz.prog w r b0 60 v) (hd : DataW.Trod enc Tryz.prog w base sp held 60 v d pl) : ∃ t : Th, v = thv t := by
  obtain ⟨cs, rfl, hsz⟩ := okWide_struct Tryz.underlying60 hval
  rw [cOfTh] at hsz
  obtain ⟨fuel, hf⟩ := hd
  obtain ⟨l⟩ := cs
  obtain ⟨c0, c1, c2, c3, c4, c5, c6, c7, c8, c9, c10, rfl⟩ : ∃ c0 c1 c2 c3 c4 c5 c6 c7 c8 c9 c10, l = [c0, c1, c2, c3, c4, c5, c6, c7, c8, c9, c10] := by
    match l, (show l.length = 11 from hsz) with
    | [c0, c1, c2, c3, c4, c5, c6, c7, c8, c9, c10], _ => exact ⟨c0, c1, c2, c3, c4, c5, c6, c7, c8, c9, c10, rfl⟩
  obtain ⟨xs, n, _, hx, _, hlen, hfl⟩ := DataW.trod_struct Tryz.underlying60 hf
  match xs, hlen with
  | [y0, y1, y2, y3, y4, y5, y6, y7], _ =>
    have t0 : DataW.trod enc Tryz.prog w base sp held n 3 (([c0, c1, c2, c3, c4, c5, c6, c7, c8, c9, c10].drop 0).take (Tryz.prog.cellsOf 3)) = some y0 := hfl 0 _ rfl
    rw [cOfI] at t0
    have t1 : DataW.trod enc Tryz.prog w base sp held n 3 (([c0, c1, c2, c3, c4, c5, c6, c7, c8, c9, c10].drop 1).take (Tryz.prog.cellsOf 3)) = some y1 := hfl 1 _ rfl
    rw [cOfI] at t1
    have t2 : DataW.trod enc Tryz.prog w base sp held n 57 (([c0, c1, c2, c3, c4, c5, c6, c7, c8, c9, c10].drop 2).take (Tryz.prog.cellsOf 57)) = some y2 := hfl 2 _ rfl
    rw [cOfPl] at t2
    have t3 : DataW.trod enc Tryz.prog w base sp held n 3 (([c0, c1, c2, c3, c4, c5, c6, c7, c8, c9, c10].drop 3).take (Tryz.prog.cellsOf 3)) = some y3 := hfl 3 _ rfl
    rw [cOfI] at t3
    have t4 : DataW.trod enc Tryz.prog w base sp held n 3 (([c0, c1, c2, c3, c4, c5, c6, c7, c8, c9, c10].drop 4).take (Tryz.prog.cellsOf 3)) = some y4 := hfl 4 _ rfl
    rw [cOfI] at t4
    have t5 : DataW.trod enc Tryz.prog w base sp held n 58 (([c0, c1, c2, c3, c4, c5, c6, c7, c8, c9, c10].drop 5).take (Tryz.prog.cellsOf 58)) = some y5 := hfl 5 _ rfl
    rw [cOf4] at t5
    have t6 : DataW.trod enc Tryz.prog w base sp held n 3 (([c0, c1, c2, c3, c4, c5, c6, c7, c8, c9, c10].drop 9).take (Tryz.prog.cellsOf 3)) = some y6 := hfl 6 _ rfl
    rw [cOfI] at t6
    have t7 : DataW.trod enc Tryz.prog w base sp held n 4 (([c0, c1, c2, c3, c4, c5, c6, c7, c8, c9, c10].drop 10).take (Tryz.prog.cellsOf 4)) = some y7 := hfl 7 _ rfl
    rw [cOfB] at t7
    obtain ⟨z0, e0, _, w0⟩ := DataW.trod_int Tryz.underlying3 (cs := [c0]) t0
    simp only [List.cons.injEq, and_true] at e0
    subst e0
    obtain ⟨z1, e1, _, w1⟩ := DataW.trod_int Tryz.underlying3 (cs := [c1]) t1
    simp only [List.cons.injEq, and_true] at e1
    subst e1
    obtain ⟨z2, e2, _, w2⟩ := DataW.trod_int Tryz.underlying57 (cs := [c2]) t2
    simp only [List.cons.injEq, and_true] at e2
    subst e2
    obtain ⟨z3, e3, _, w3⟩ := DataW.trod_int Tryz.underlying3 (cs := [c3]) t3
    simp only [List.cons.injEq, and_true] at e3
    subst e3
    obtain ⟨z4, e4, _, w4⟩ := DataW.trod_int Tryz.underlying3 (cs := [c4]) t4
    simp only [List.cons.injEq, and_true] at e4
    subst e4
    obtain ⟨z5, z6, z7, z8, rfl, rfl, rfl, rfl, w5, w6, w7, w8⟩ := four_cells (c0 := c5) (c1 := c6) (c2 := c7) (c3 := c8) t5
    obtain ⟨z9, e9, _, w9⟩ := DataW.trod_int Tryz.underlying3 (cs := [c9]) t6
    simp only [List.cons.injEq, and_true] at e9
    subst e9
    obtain ⟨z10, e10, _⟩ := DataW.trod_bool Tryz.underlying4 (cs := [c10]) t7
    simp only [List.cons.injEq, and_true] at e10
    subst e10
    exact ⟨⟨z0, z1, z2, z3, z4, z5, z6, z7, z8, z9, z10⟩, rfl⟩
end Go.Proofs.YtmemeloehgemcaaGreat
namespace Go.Proofs.YtmemeloehgemcaaGreat
open Go.RowKit

/-- A row in memory: where its card's parts lie. -/
structure Rv where
  r : Rw
  pa : Option Addr
  ca : Nat
def Rv.u (x : Rv) : Value := .slice x.pa x.r.ps.length x.ca
def rws (X : List Rv) : List Rw := X.map Rv.r
theorem rws_len (X : List Rv) : (rws X).length = X.length := List.length_map _
theorem rws_get {X : List Rv} {i : Nat} (h : i < X.length) : (rws X).getD i Rw.none = X[i].r := by
  unfold rws
  rw [List.getD_eq_getElem?_getD, List.getElem?_map, List.getElem?_eq_getElem h]
  rfl
def thc (t : Th) : List Value := [.int .i64 t.card, .int .i64 t.owner, .int .u8 t.place, .int .i64 t.stamp, .int .i64 t.hurt, .int .i64 t.m0, .int .i64 t.m1, .int .i64 t.m2, .int .i64 t.m3, .int .i64 t.done, .bool t.fresh]
theorem thc_ones (t : Th) : ∀ v ∈ thc t, v.oneCell' = true := fun v h => by
  simp only [thc, List.mem_cons, List.not_mem_nil, or_false] at h
  rcases h with h | h | h | h | h | h | h | h | h | h | h <;> (subst h; rfl)
def thR : RecT Th := ⟨11, thc, fun _ => rfl, thc_ones, by decide⟩
theorem th_cells {w : World} {g o : Nat} {t : Th} (h : w.rangeAt g o (thc t)) : w.cell? ⟨g, o, none⟩ = some (.int .i64 t.card) ∧ w.cell? ⟨g, o + 1, none⟩ = some (.int .i64 t.owner) ∧ w.cell? ⟨g, o + 2, none⟩ = some (.int .u8 t.place) ∧ w.cell? ⟨g, o + 3, none⟩ = some (.int .i64 t.stamp) ∧ w.cell? ⟨g, o + 4, none⟩ = some (.int .i64 t.hurt) ∧ w.cell? ⟨g, o + 5, none⟩ = some (.int .i64 t.m0) ∧ w.cell? ⟨g, o + 6, none⟩ = some (.int .i64 t.m1) ∧ w.cell? ⟨g, o + 7, none⟩ = some (.int .i64 t.m2) ∧ w.cell? ⟨g, o + 8, none⟩ = some (.int .i64 t.m3) ∧ w.cell? ⟨g, o + 9, none⟩ = some (.int .i64 t.done) ∧ w.cell? ⟨g, o + 10, none⟩ = some (.bool t.fresh) :=
  ⟨h 0 _ rfl, h 1 _ rfl, h 2 _ rfl, h 3 _ rfl, h 4 _ rfl, h 5 _ rfl, h 6 _ rfl, h 7 _ rfl, h 8 _ rfl, h 9 _ rfl, h 10 _ rfl⟩
def ThB (w : World) (g : Nat) (t : Th) : Prop := w.heap[g]? = some (.cells #[.int .i64 t.card, .int .i64 t.owner, .int .u8 t.place, .int .i64 t.stamp, .int .i64 t.hurt, .int .i64 t.m0, .int .i64 t.m1, .int .i64 t.m2, .int .i64 t.m3, .int .i64 t.done, .bool t.fresh] 60 (0, 0))
theorem th_box {w : World} {g : Nat} {t : Th} (h : ThB w g t) : w.cell? ⟨g, 0, none⟩ = some (.int .i64 t.card) ∧ w.cell? ⟨g, 1, none⟩ = some (.int .i64 t.owner) ∧ w.cell? ⟨g, 2, none⟩ = some (.int .u8 t.place) ∧ w.cell? ⟨g, 3, none⟩ = some (.int .i64 t.stamp) ∧ w.cell? ⟨g, 4, none⟩ = some (.int .i64 t.hurt) ∧ w.cell? ⟨g, 5, none⟩ = some (.int .i64 t.m0) ∧ w.cell? ⟨g, 6, none⟩ = some (.int .i64 t.m1) ∧ w.cell? ⟨g, 7, none⟩ = some (.int .i64 t.m2) ∧ w.cell? ⟨g, 8, none⟩ = some (.int .i64 t.m3) ∧ w.cell? ⟨g, 9, none⟩ = some (.int .i64 t.done) ∧ w.cell? ⟨g, 10, none⟩ = some (.bool t.fresh) :=
  ⟨(block_cell h 0).trans rfl, (block_cell h 1).trans rfl, (block_cell h 2).trans rfl, (block_cell h 3).trans rfl, (block_cell h 4).trans rfl, (block_cell h 5).trans rfl, (block_cell h 6).trans rfl, (block_cell h 7).trans rfl, (block_cell h 8).trans rfl, (block_cell h 9).trans rfl, (block_cell h 10).trans rfl⟩
def fec (f : Fe) : List Value := [.int .i64 f.ho, .int .u8 f.su, .int .u16 f.tr, .int .i64 f.po, .int .i64 f.he]
theorem fec_ones (f : Fe) : ∀ v ∈ fec f, v.oneCell' = true := fun v h => by
  simp only [fec, List.mem_cons, List.not_mem_nil, or_false] at h
  rcases h with h | h | h | h | h <;> (subst h; rfl)
def feR : RecT Fe := ⟨5, fec, fun _ => rfl, fec_ones, by decide⟩
theorem fe_cells {w : World} {g o : Nat} {f : Fe} (h : w.rangeAt g o (fec f)) : w.cell? ⟨g, o, none⟩ = some (.int .i64 f.ho) ∧ w.cell? ⟨g, o + 1, none⟩ = some (.int .u8 f.su) ∧ w.cell? ⟨g, o + 2, none⟩ = some (.int .u16 f.tr) ∧ w.cell? ⟨g, o + 3, none⟩ = some (.int .i64 f.po) ∧ w.cell? ⟨g, o + 4, none⟩ = some (.int .i64 f.he) :=
  ⟨h 0 _ rfl, h 1 _ rfl, h 2 _ rfl, h 3 _ rfl, h 4 _ rfl⟩
def FeB (w : World) (g : Nat) (f : Fe) : Prop := w.heap[g]? = some (.cells #[.int .i64 f.ho, .int .u8 f.su, .int .u16 f.tr, .int .i64 f.po, .int .i64 f.he] 64 (0, 0))
theorem fe_box {w : World} {g : Nat} {f : Fe} (h : FeB w g f) : w.cell? ⟨g, 0, none⟩ = some (.int .i64 f.ho) ∧ w.cell? ⟨g, 1, none⟩ = some (.int .u8 f.su) ∧ w.cell? ⟨g, 2, none⟩ = some (.int .u16 f.tr) ∧ w.cell? ⟨g, 3, none⟩ = some (.int .i64 f.po) ∧ w.cell? ⟨g, 4, none⟩ = some (.int .i64 f.he) :=
  ⟨(block_cell h 0).trans rfl, (block_cell h 1).trans rfl, (block_cell h 2).trans rfl, (block_cell h 3).trans rfl, (block_cell h 4).trans rfl⟩
def sdc (s : Sd) : List Value := [.int .i64 s.th, .int .i64 s.pl, .int .u8 s.wh.wn, .int .u8 s.wh.vb, .int .u8 s.wh.wm, .int .i64 s.wh.ct, .int .u8 s.wh.su, .int .u8 s.wh.tr, .int .u8 s.wh.mr, .string s.wh.nm]
def sdv (s : Sd) : Value := .agg #[.int .i64 s.th, .int .i64 s.pl, .int .u8 s.wh.wn, .int .u8 s.wh.vb, .int .u8 s.wh.wm, .int .i64 s.wh.ct, .int .u8 s.wh.su, .int .u8 s.wh.tr, .int .u8 s.wh.mr, .string s.wh.nm]
theorem sdc_ones (s : Sd) : ∀ v ∈ sdc s, v.oneCell' = true := fun v h => by
  simp only [sdc, List.mem_cons, List.not_mem_nil, or_false] at h
  rcases h with h | h | h | h | h | h | h | h | h | h <;> (subst h; rfl)
def sdR : RecT Sd := ⟨10, sdc, fun _ => rfl, sdc_ones, by decide⟩
theorem sd_cells {w : World} {g o : Nat} {s : Sd} (h : w.rangeAt g o (sdc s)) : w.cell? ⟨g, o, none⟩ = some (.int .i64 s.th) ∧ w.cell? ⟨g, o + 1, none⟩ = some (.int .i64 s.pl) ∧ w.cell? ⟨g, o + 2, none⟩ = some (.int .u8 s.wh.wn) ∧ w.cell? ⟨g, o + 3, none⟩ = some (.int .u8 s.wh.vb) ∧ w.cell? ⟨g, o + 4, none⟩ = some (.int .u8 s.wh.wm) ∧ w.cell? ⟨g, o + 5, none⟩ = some (.int .i64 s.wh.ct) ∧ w.cell? ⟨g, o + 6, none⟩ = some (.int .u8 s.wh.su) ∧ w.cell? ⟨g, o + 7, none⟩ = some (.int .u8 s.wh.tr) ∧ w.cell? ⟨g, o + 8, none⟩ = some (.int .u8 s.wh.mr) ∧ w.cell? ⟨g, o + 9, none⟩ = some (.string s.wh.nm) :=
  ⟨h 0 _ rfl, h 1 _ rfl, h 2 _ rfl, h 3 _ rfl, h 4 _ rfl, h 5 _ rfl, h 6 _ rfl, h 7 _ rfl, h 8 _ rfl, h 9 _ rfl⟩
def SdB (w : World) (g : Nat) (s : Sd) : Prop := w.heap[g]? = some (.cells #[.int .i64 s.th, .int .i64 s.pl, .int .u8 s.wh.wn, .int .u8 s.wh.vb, .int .u8 s.wh.wm, .int .i64 s.wh.ct, .int .u8 s.wh.su, .int .u8 s.wh.tr, .int .u8 s.wh.mr, .string s.wh.nm] 49 (0, 0))
theorem sd_box {w : World} {g : Nat} {s : Sd} (h : SdB w g s) : w.cell? ⟨g, 0, none⟩ = some (.int .i64 s.th) ∧ w.cell? ⟨g, 1, none⟩ = some (.int .i64 s.pl) ∧ w.cell? ⟨g, 2, none⟩ = some (.int .u8 s.wh.wn) ∧ w.cell? ⟨g, 3, none⟩ = some (.int .u8 s.wh.vb) ∧ w.cell? ⟨g, 4, none⟩ = some (.int .u8 s.wh.wm) ∧ w.cell? ⟨g, 5, none⟩ = some (.int .i64 s.wh.ct) ∧ w.cell? ⟨g, 6, none⟩ = some (.int .u8 s.wh.su) ∧ w.cell? ⟨g, 7, none⟩ = some (.int .u8 s.wh.tr) ∧ w.cell? ⟨g, 8, none⟩ = some (.int .u8 s.wh.mr) ∧ w.cell? ⟨g, 9, none⟩ = some (.string s.wh.nm) :=
  ⟨(block_cell h 0).trans rfl, (block_cell h 1).trans rfl, (block_cell h 2).trans rfl, (block_cell h 3).trans rfl, (block_cell h 4).trans rfl, (block_cell h 5).trans rfl, (block_cell h 6).trans rfl, (block_cell h 7).trans rfl, (block_cell h 8).trans rfl, (block_cell h 9).trans rfl⟩
def sec (e : Se) : List Value := [.int .i64 e.s.th, .int .i64 e.s.pl, .int .u8 e.s.wh.wn, .int .u8 e.s.wh.vb, .int .u8 e.s.wh.wm, .int .i64 e.s.wh.ct, .int .u8 e.s.wh.su, .int .u8 e.s.wh.tr, .int .u8 e.s.wh.mr, .string e.s.wh.nm, .int .i64 (e.ro : Int)]
def sev (e : Se) : Value := .agg #[.int .i64 e.s.th, .int .i64 e.s.pl, .int .u8 e.s.wh.wn, .int .u8 e.s.wh.vb, .int .u8 e.s.wh.wm, .int .i64 e.s.wh.ct, .int .u8 e.s.wh.su, .int .u8 e.s.wh.tr, .int .u8 e.s.wh.mr, .string e.s.wh.nm, .int .i64 (e.ro : Int)]
theorem sec_ones (e : Se) : ∀ v ∈ sec e, v.oneCell' = true := fun v h => by
  simp only [sec, List.mem_cons, List.not_mem_nil, or_false] at h
  rcases h with h | h | h | h | h | h | h | h | h | h | h <;> (subst h; rfl)
def seR : RecT Se := ⟨11, sec, fun _ => rfl, sec_ones, by decide⟩
theorem se_cells {w : World} {g o : Nat} {e : Se} (h : w.rangeAt g o (sec e)) : w.cell? ⟨g, o, none⟩ = some (.int .i64 e.s.th) ∧ w.cell? ⟨g, o + 1, none⟩ = some (.int .i64 e.s.pl) ∧ w.cell? ⟨g, o + 2, none⟩ = some (.int .u8 e.s.wh.wn) ∧ w.cell? ⟨g, o + 3, none⟩ = some (.int .u8 e.s.wh.vb) ∧ w.cell? ⟨g, o + 4, none⟩ = some (.int .u8 e.s.wh.wm) ∧ w.cell? ⟨g, o + 5, none⟩ = some (.int .i64 e.s.wh.ct) ∧ w.cell? ⟨g, o + 6, none⟩ = some (.int .u8 e.s.wh.su) ∧ w.cell? ⟨g, o + 7, none⟩ = some (.int .u8 e.s.wh.tr) ∧ w.cell? ⟨g, o + 8, none⟩ = some (.int .u8 e.s.wh.mr) ∧ w.cell? ⟨g, o + 9, none⟩ = some (.string e.s.wh.nm) ∧ w.cell? ⟨g, o + 10, none⟩ = some (.int .i64 (e.ro : Int)) :=
  ⟨h 0 _ rfl, h 1 _ rfl, h 2 _ rfl, h 3 _ rfl, h 4 _ rfl, h 5 _ rfl, h 6 _ rfl, h 7 _ rfl, h 8 _ rfl, h 9 _ rfl, h 10 _ rfl⟩
def SeB (w : World) (g : Nat) (e : Se) : Prop := w.heap[g]? = some (.cells #[.int .i64 e.s.th, .int .i64 e.s.pl, .int .u8 e.s.wh.wn, .int .u8 e.s.wh.vb, .int .u8 e.s.wh.wm, .int .i64 e.s.wh.ct, .int .u8 e.s.wh.su, .int .u8 e.s.wh.tr, .int .u8 e.s.wh.mr, .string e.s.wh.nm, .int .i64 (e.ro : Int)] 123 (0, 0))
theorem se_box {w : World} {g : Nat} {e : Se} (h : SeB w g e) : w.cell? ⟨g, 0, none⟩ = some (.int .i64 e.s.th) ∧ w.cell? ⟨g, 1, none⟩ = some (.int .i64 e.s.pl) ∧ w.cell? ⟨g, 2, none⟩ = some (.int .u8 e.s.wh.wn) ∧ w.cell? ⟨g, 3, none⟩ = some (.int .u8 e.s.wh.vb) ∧ w.cell? ⟨g, 4, none⟩ = some (.int .u8 e.s.wh.wm) ∧ w.cell? ⟨g, 5, none⟩ = some (.int .i64 e.s.wh.ct) ∧ w.cell? ⟨g, 6, none⟩ = some (.int .u8 e.s.wh.su) ∧ w.cell? ⟨g, 7, none⟩ = some (.int .u8 e.s.wh.tr) ∧ w.cell? ⟨g, 8, none⟩ = some (.int .u8 e.s.wh.mr) ∧ w.cell? ⟨g, 9, none⟩ = some (.string e.s.wh.nm) ∧ w.cell? ⟨g, 10, none⟩ = some (.int .i64 (e.ro : Int)) :=
  ⟨(block_cell h 0).trans rfl, (block_cell h 1).trans rfl, (block_cell h 2).trans rfl, (block_cell h 3).trans rfl, (block_cell h 4).trans rfl, (block_cell h 5).trans rfl, (block_cell h 6).trans rfl, (block_cell h 7).trans rfl, (block_cell h 8).trans rfl, (block_cell h 9).trans rfl, (block_cell h 10).trans rfl⟩
def rvc (x : Rv) : List Value := [.int .i64 x.r.nu, .int .i64 x.r.st, .string x.r.h.nm, .int .u8 x.r.h.su, .int .u8 x.r.h.kd, .int .i64 x.r.h.co, .int .i64 x.r.h.po, .int .i64 x.r.h.he, .int .u16 x.r.h.tr, .bool x.r.h.tk, x.u]
def rvv (x : Rv) : Value := .agg #[.int .i64 x.r.nu, .int .i64 x.r.st, .string x.r.h.nm, .int .u8 x.r.h.su, .int .u8 x.r.h.kd, .int .i64 x.r.h.co, .int .i64 x.r.h.po, .int .i64 x.r.h.he, .int .u16 x.r.h.tr, .bool x.r.h.tk, x.u]
theorem rvc_ones (x : Rv) : ∀ v ∈ rvc x, v.oneCell' = true := fun v h => by
  simp only [rvc, List.mem_cons, List.not_mem_nil, or_false] at h
  rcases h with h | h | h | h | h | h | h | h | h | h | h <;> (subst h; rfl)
def rvR : RecT Rv := ⟨11, rvc, fun _ => rfl, rvc_ones, by decide⟩
theorem rv_cells {w : World} {g o : Nat} {x : Rv} (h : w.rangeAt g o (rvc x)) : w.cell? ⟨g, o, none⟩ = some (.int .i64 x.r.nu) ∧ w.cell? ⟨g, o + 1, none⟩ = some (.int .i64 x.r.st) ∧ w.cell? ⟨g, o + 2, none⟩ = some (.string x.r.h.nm) ∧ w.cell? ⟨g, o + 3, none⟩ = some (.int .u8 x.r.h.su) ∧ w.cell? ⟨g, o + 4, none⟩ = some (.int .u8 x.r.h.kd) ∧ w.cell? ⟨g, o + 5, none⟩ = some (.int .i64 x.r.h.co) ∧ w.cell? ⟨g, o + 6, none⟩ = some (.int .i64 x.r.h.po) ∧ w.cell? ⟨g, o + 7, none⟩ = some (.int .i64 x.r.h.he) ∧ w.cell? ⟨g, o + 8, none⟩ = some (.int .u16 x.r.h.tr) ∧ w.cell? ⟨g, o + 9, none⟩ = some (.bool x.r.h.tk) ∧ w.cell? ⟨g, o + 10, none⟩ = some (x.u) :=
  ⟨h 0 _ rfl, h 1 _ rfl, h 2 _ rfl, h 3 _ rfl, h 4 _ rfl, h 5 _ rfl, h 6 _ rfl, h 7 _ rfl, h 8 _ rfl, h 9 _ rfl, h 10 _ rfl⟩
def RvB (w : World) (g : Nat) (x : Rv) : Prop := w.heap[g]? = some (.cells #[.int .i64 x.r.nu, .int .i64 x.r.st, .string x.r.h.nm, .int .u8 x.r.h.su, .int .u8 x.r.h.kd, .int .i64 x.r.h.co, .int .i64 x.r.h.po, .int .i64 x.r.h.he, .int .u16 x.r.h.tr, .bool x.r.h.tk, x.u] 174 (0, 0))
theorem rv_box {w : World} {g : Nat} {x : Rv} (h : RvB w g x) : w.cell? ⟨g, 0, none⟩ = some (.int .i64 x.r.nu) ∧ w.cell? ⟨g, 1, none⟩ = some (.int .i64 x.r.st) ∧ w.cell? ⟨g, 2, none⟩ = some (.string x.r.h.nm) ∧ w.cell? ⟨g, 3, none⟩ = some (.int .u8 x.r.h.su) ∧ w.cell? ⟨g, 4, none⟩ = some (.int .u8 x.r.h.kd) ∧ w.cell? ⟨g, 5, none⟩ = some (.int .i64 x.r.h.co) ∧ w.cell? ⟨g, 6, none⟩ = some (.int .i64 x.r.h.po) ∧ w.cell? ⟨g, 7, none⟩ = some (.int .i64 x.r.h.he) ∧ w.cell? ⟨g, 8, none⟩ = some (.int .u16 x.r.h.tr) ∧ w.cell? ⟨g, 9, none⟩ = some (.bool x.r.h.tk) ∧ w.cell? ⟨g, 10, none⟩ = some (x.u) :=
  ⟨(block_cell h 0).trans rfl, (block_cell h 1).trans rfl, (block_cell h 2).trans rfl, (block_cell h 3).trans rfl, (block_cell h 4).trans rfl, (block_cell h 5).trans rfl, (block_cell h 6).trans rfl, (block_cell h 7).trans rfl, (block_cell h 8).trans rfl, (block_cell h 9).trans rfl, (block_cell h 10).trans rfl⟩
/-- The table: rows and their features. -/
def tbv (vr vf : Value) : Value := .agg #[vr, vf]
def TbB (w : World) (g : Nat) (vr vf : Value) : Prop := w.heap[g]? = some (.cells #[vr, vf] 118 (0, 0))
theorem tb_box {w : World} {g : Nat} {vr vf : Value} (h : TbB w g vr vf) : w.cell? ⟨g, 0, none⟩ = some vr ∧ w.cell? ⟨g, 1, none⟩ = some vf := ⟨(block_cell h 0).trans rfl, (block_cell h 1).trans rfl⟩
structure TbAt (w : World) (vr vf : Value) (X : List Rv) (F : List Fe) : Prop where
  rows : rvR.At w vr X
  parts : ∀ x ∈ X, PsAt w x.u x.r.ps ∧ x.r.ps.length ≤ 4
  fs : feR.At w vf F
  len : F.length = X.length
  few : X.length ≤ 16
theorem TbAt.keep {w w' : World} {vr vf : Value} {X : List Rv} {F : List Fe} (h : TbAt w vr vf X F) (g : w.grownBy w' none) : TbAt w' vr vf X F := ⟨h.rows.keep g, fun x hx => ⟨(h.parts x hx).1.keep g, (h.parts x hx).2⟩, h.fs.keep g, h.len, h.few⟩
theorem TbAt.row {w : World} {vr vf : Value} {X : List Rv} {F : List Fe} (h : TbAt w vr vf X F) {i : Nat} (hi : i < X.length) : ∃ g off cap, vr = .slice (some ⟨g, off, none⟩) X.length cap ∧ w.rangeAt g (off + i * 11) (rvc X[i]) := h.rows.there hi
theorem TbAt.fe {w : World} {vr vf : Value} {X : List Rv} {F : List Fe} (h : TbAt w vr vf X F) {i : Nat} (hi : i < X.length) : ∃ g off cap, vf = .slice (some ⟨g, off, none⟩) F.length cap ∧ w.rangeAt g (off + i * 5) (fec (F.getD i Fe.none)) := by
  have hi' : i < F.length := by rw [h.len]; exact hi
  have := h.fs.there hi'
  rw [show F.getD i Fe.none = F[i] from by rw [List.getD_eq_getElem?_getD, List.getElem?_eq_getElem hi']; rfl]
  exact this
end Go.Proofs.YtmemeloehgemcaaGreat
namespace Go.Proofs.YtmemeloehgemcaaGreat
open Go.RowKit

theorem ret_bb {a b : Bool} (h : a = b) : Ending.returned (.bool a) = Ending.returned (.bool b) := by rw [h]
theorem grown_set5 {a b : World} {c : Nat} (h : a.grownBy b none) (hc : a.heap.size ≤ c) (v0 v1 v2 v3 v4 : Value) : a.grownBy (((((b.setCell ⟨c, 0, none⟩ v0).setCell ⟨c, 1, none⟩ v1).setCell ⟨c, 2, none⟩ v2).setCell ⟨c, 3, none⟩ v3).setCell ⟨c, 4, none⟩ v4) none := grown_own h (((((grown_set _ _ _ _).trans (grown_set _ _ _ _)).trans (grown_set _ _ _ _)).trans (grown_set _ _ _ _)).trans (grown_set _ _ _ _)) (fun y e => by cases e; exact hc)
theorem beq_dec (a b : Int) : (a == b) = decide (a = b) := by rw [Bool.eq_iff_iff]; simp
theorem bne_dec (a b : Int) : (a != b) = !decide (a = b) := by rw [Bool.eq_iff_iff]; simp
theorem nat_beq (a b : Nat) : ((a : Int) == (b : Int)) = decide (a = b) := by rw [Bool.eq_iff_iff]; simp; omega
set_option maxRecDepth 100000 in
set_option maxHeartbeats 4000000 in
theorem isAbout_self (vr vf : Value) (X : List Rv) (F : List Fe) (e : Se) (i : Nat) (w : World) (T : TbAt w vr vf X F) (hi : i < X.length) (hr : e.ro < X.length) (hw : e.s.wh.wm = 4) : Calls Tryz.prog 101 #[tbv vr vf, sev e, .int .i64 (i : Int)] w fun e' w' => e' = .returned (.bool (isAbB (rws X) F e i)) ∧ w.grownBy w' none := by
  obtain ⟨gr, rof, rcap, rfl, Rr⟩ := T.row hi
  obtain ⟨gf, fof, fcap, e1, Rf⟩ := T.fe hi
  obtain ⟨gf', fof', fcap', e2, Rh⟩ := T.fe hr
  rw [e1] at e2
  cases e2
  subst e1
  have hl : F.length = X.length := T.len
  have h16 : X.length ≤ 16 := T.few
  have HEx : Hid (isAbB (rws X) F e i = meantB e.s.wh (decide (i = e.ro)) X[i].r.h.kd (F.getD i Fe.none) (F.getD e.ro Fe.none).ho) := by show isAbB _ _ _ _ = _; unfold isAbB; rw [rws_get hi]
  obtain ⟨f, hf⟩ : ∃ f, f = F.getD i Fe.none := ⟨_, rfl⟩
  obtain ⟨ho, hho⟩ : ∃ ho, ho = (F.getD e.ro Fe.none).ho := ⟨_, rfl⟩
  obtain ⟨x, hx⟩ : ∃ x, x = X[i] := ⟨_, rfl⟩
  rw [← hf, ← hho, ← hx] at HEx
  rw [← hf] at Rf
  rw [← hx] at Rr
  obtain ⟨W1, hW1⟩ : ∃ W1, W1 = (w.alloc (.cells #[.slice (some ⟨gr, rof, none⟩) X.length rcap, .slice (some ⟨gf, fof, none⟩) F.length fcap] 118)).alloc (.cells #[.int .i64 e.s.th, .int .i64 e.s.pl, .int .u8 e.s.wh.wn, .int .u8 e.s.wh.vb, .int .u8 e.s.wh.wm, .int .i64 e.s.wh.ct, .int .u8 e.s.wh.su, .int .u8 e.s.wh.tr, .int .u8 e.s.wh.mr, .string e.s.wh.nm, .int .i64 (e.ro : Int)] 123) := ⟨_, rfl⟩
  have HG1 : Hid (w.grownBy W1 none) := by rw [hW1]; exact grown_push (World.grownBy_alloc _ _ none) _
  have HB : Hid (TbB W1 w.heap.size (.slice (some ⟨gr, rof, none⟩) X.length rcap) (.slice (some ⟨gf, fof, none⟩) F.length fcap)) := by rw [hW1]; exact grown_keep (World.grownBy_alloc _ _ none) (alloc_at w _ _) (by simp)
  have HS : Hid (SeB W1 (w.heap.size + 1) e) := by rw [hW1]; exact alloc2_b _ _ _ _
  have HRr : Hid (W1.rangeAt gr (rof + i * 11) (rvc x)) := rangeAt_keep Rr HG1.out
  have HRf : Hid (W1.rangeAt gf (fof + i * 5) (fec f)) := rangeAt_keep Rf HG1.out
  have HRh : Hid (W1.rangeAt gf (fof + e.ro * 5) (fec (F.getD e.ro Fe.none))) := rangeAt_keep Rh HG1.out
  have hi' : (i : Int) < X.length := by omega
  have hr' : (e.ro : Int) < X.length := by omega
  have hif : (i : Int) < F.length := by omega
  have hrf : (e.ro : Int) < F.length := by omega
  have Hho : Hid (ho = (F.getD e.ro Fe.none).ho) := hho
  unfold tbv sev
  have Hhw : Hid (e.s.wh.wm = 4) := hw
  clear hw
  clear T Rr Rf Rh hf hho hx hi hr hl h16
  go_enter Tryz.func101, Tryz.ntmps101
  go_upto_region 1 with fail
  rw [← hW1]
  clear hW1
  obtain ⟨n0, h0⟩ : ∃ n0, n0 = w.heap.size := ⟨_, rfl⟩
  simp only [← h0] at HB HS ⊢
  obtain ⟨n1, h1⟩ : ∃ n1, n1 = n0 + 1 := ⟨_, rfl⟩
  simp only [← h1] at HS ⊢
  clear h0 h1
  obtain ⟨b0, b1⟩ := tb_box HB.out
  obtain ⟨s0, s1, s2, s3, s4, s5, s6, s7, s8, s9, s10⟩ := se_box HS.out
  obtain ⟨r0, r1, r2, r3, r4, r5, r6, r7, r8, r9, r10⟩ := rv_cells HRr.out
  obtain ⟨f0, f1, f2, f3, f4⟩ := fe_cells HRf.out
  have g0 := (fe_cells HRh.out).1
  rw [← Hho.out] at g0
  clear r0 r1 r2 r3 r5 r6 r7 r8 r9 r10 s0 s1 s2 s3 s5 s7 s8 s9
  rw [Hhw.out] at s4
  have HY : Hid (isAbB (rws X) F e i = ((i : Int) == (e.ro : Int))) := by rw [nat_beq]; show _ = _; rw [HEx.out]; unfold meantB; rw [if_pos Hhw.out]
  go_wp2
  go_ret
  exact ⟨ret_bb HY.out.symm, HG1.out⟩
set_option maxRecDepth 100000 in
set_option maxHeartbeats 4000000 in
theorem isAbout_no (vr vf : Value) (X : List Rv) (F : List Fe) (e : Se) (i : Nat) (w : World) (T : TbAt w vr vf X F) (hi : i < X.length) (hr : e.ro < X.length) (hw : e.s.wh.wm ≠ 4) (hk : X[i].r.h.kd ≠ 1) : Calls Tryz.prog 101 #[tbv vr vf, sev e, .int .i64 (i : Int)] w fun e' w' => e' = .returned (.bool (isAbB (rws X) F e i)) ∧ w.grownBy w' none := by
  obtain ⟨gr, rof, rcap, rfl, Rr⟩ := T.row hi
  obtain ⟨gf, fof, fcap, e1, Rf⟩ := T.fe hi
  obtain ⟨gf', fof', fcap', e2, Rh⟩ := T.fe hr
  rw [e1] at e2
  cases e2
  subst e1
  have hl : F.length = X.length := T.len
  have h16 : X.length ≤ 16 := T.few
  have HEx : Hid (isAbB (rws X) F e i = meantB e.s.wh (decide (i = e.ro)) X[i].r.h.kd (F.getD i Fe.none) (F.getD e.ro Fe.none).ho) := by show isAbB _ _ _ _ = _; unfold isAbB; rw [rws_get hi]
  obtain ⟨f, hf⟩ : ∃ f, f = F.getD i Fe.none := ⟨_, rfl⟩
  obtain ⟨ho, hho⟩ : ∃ ho, ho = (F.getD e.ro Fe.none).ho := ⟨_, rfl⟩
  obtain ⟨x, hx⟩ : ∃ x, x = X[i] := ⟨_, rfl⟩
  rw [← hf, ← hho, ← hx] at HEx
  rw [← hf] at Rf
  rw [← hx] at Rr
  obtain ⟨W1, hW1⟩ : ∃ W1, W1 = (w.alloc (.cells #[.slice (some ⟨gr, rof, none⟩) X.length rcap, .slice (some ⟨gf, fof, none⟩) F.length fcap] 118)).alloc (.cells #[.int .i64 e.s.th, .int .i64 e.s.pl, .int .u8 e.s.wh.wn, .int .u8 e.s.wh.vb, .int .u8 e.s.wh.wm, .int .i64 e.s.wh.ct, .int .u8 e.s.wh.su, .int .u8 e.s.wh.tr, .int .u8 e.s.wh.mr, .string e.s.wh.nm, .int .i64 (e.ro : Int)] 123) := ⟨_, rfl⟩
  have HG1 : Hid (w.grownBy W1 none) := by rw [hW1]; exact grown_push (World.grownBy_alloc _ _ none) _
  have HB : Hid (TbB W1 w.heap.size (.slice (some ⟨gr, rof, none⟩) X.length rcap) (.slice (some ⟨gf, fof, none⟩) F.length fcap)) := by rw [hW1]; exact grown_keep (World.grownBy_alloc _ _ none) (alloc_at w _ _) (by simp)
  have HS : Hid (SeB W1 (w.heap.size + 1) e) := by rw [hW1]; exact alloc2_b _ _ _ _
  have HRr : Hid (W1.rangeAt gr (rof + i * 11) (rvc x)) := rangeAt_keep Rr HG1.out
  have HRf : Hid (W1.rangeAt gf (fof + i * 5) (fec f)) := rangeAt_keep Rf HG1.out
  have HRh : Hid (W1.rangeAt gf (fof + e.ro * 5) (fec (F.getD e.ro Fe.none))) := rangeAt_keep Rh HG1.out
  have hi' : (i : Int) < X.length := by omega
  have hr' : (e.ro : Int) < X.length := by omega
  have hif : (i : Int) < F.length := by omega
  have hrf : (e.ro : Int) < F.length := by omega
  have Hho : Hid (ho = (F.getD e.ro Fe.none).ho) := hho
  unfold tbv sev
  rw [← hx] at hk
  clear T Rr Rf Rh hf hho hx hi hr hl h16
  go_enter Tryz.func101, Tryz.ntmps101
  go_upto_region 1 with fail
  rw [← hW1]
  clear hW1
  obtain ⟨n0, h0⟩ : ∃ n0, n0 = w.heap.size := ⟨_, rfl⟩
  simp only [← h0] at HB HS ⊢
  obtain ⟨n1, h1⟩ : ∃ n1, n1 = n0 + 1 := ⟨_, rfl⟩
  simp only [← h1] at HS ⊢
  clear h0 h1
  obtain ⟨b0, b1⟩ := tb_box HB.out
  obtain ⟨s0, s1, s2, s3, s4, s5, s6, s7, s8, s9, s10⟩ := se_box HS.out
  obtain ⟨r0, r1, r2, r3, r4, r5, r6, r7, r8, r9, r10⟩ := rv_cells HRr.out
  obtain ⟨f0, f1, f2, f3, f4⟩ := fe_cells HRf.out
  have g0 := (fe_cells HRh.out).1
  rw [← Hho.out] at g0
  clear r0 r1 r2 r3 r5 r6 r7 r8 r9 r10 s0 s1 s2 s3 s5 s7 s8 s9
  have e4 : (e.s.wh.wm == 4) = false := by simpa using hw
  have e5 : (x.r.h.kd != 1) = true := by simpa using hk
  have HY : Hid (isAbB (rws X) F e i = false) := by show _ = _; rw [HEx.out]; unfold meantB; rw [if_neg hw, if_pos hk]
  clear hw hk
  go_wp2
  go_ret
  exact ⟨ret_bb HY.out.symm, HG1.out⟩
set_option maxRecDepth 100000 in
set_option maxHeartbeats 4000000 in
theorem isAbout_unit (vr vf : Value) (X : List Rv) (F : List Fe) (e : Se) (i : Nat) (w : World) (T : TbAt w vr vf X F) (hi : i < X.length) (hr : e.ro < X.length) (hw : e.s.wh.wm ≠ 4) (hk : X[i].r.h.kd = 1) : Calls Tryz.prog 101 #[tbv vr vf, sev e, .int .i64 (i : Int)] w fun e' w' => e' = .returned (.bool (isAbB (rws X) F e i)) ∧ w.grownBy w' none := by
  obtain ⟨gr, rof, rcap, rfl, Rr⟩ := T.row hi
  obtain ⟨gf, fof, fcap, e1, Rf⟩ := T.fe hi
  obtain ⟨gf', fof', fcap', e2, Rh⟩ := T.fe hr
  rw [e1] at e2
  cases e2
  subst e1
  have hl : F.length = X.length := T.len
  have h16 : X.length ≤ 16 := T.few
  have HEx : Hid (isAbB (rws X) F e i = meantB e.s.wh (decide (i = e.ro)) X[i].r.h.kd (F.getD i Fe.none) (F.getD e.ro Fe.none).ho) := by show isAbB _ _ _ _ = _; unfold isAbB; rw [rws_get hi]
  obtain ⟨f, hf⟩ : ∃ f, f = F.getD i Fe.none := ⟨_, rfl⟩
  obtain ⟨ho, hho⟩ : ∃ ho, ho = (F.getD e.ro Fe.none).ho := ⟨_, rfl⟩
  obtain ⟨x, hx⟩ : ∃ x, x = X[i] := ⟨_, rfl⟩
  rw [← hf, ← hho, ← hx] at HEx
  rw [← hf] at Rf
  rw [← hx] at Rr
  obtain ⟨W1, hW1⟩ : ∃ W1, W1 = (w.alloc (.cells #[.slice (some ⟨gr, rof, none⟩) X.length rcap, .slice (some ⟨gf, fof, none⟩) F.length fcap] 118)).alloc (.cells #[.int .i64 e.s.th, .int .i64 e.s.pl, .int .u8 e.s.wh.wn, .int .u8 e.s.wh.vb, .int .u8 e.s.wh.wm, .int .i64 e.s.wh.ct, .int .u8 e.s.wh.su, .int .u8 e.s.wh.tr, .int .u8 e.s.wh.mr, .string e.s.wh.nm, .int .i64 (e.ro : Int)] 123) := ⟨_, rfl⟩
  have HG1 : Hid (w.grownBy W1 none) := by rw [hW1]; exact grown_push (World.grownBy_alloc _ _ none) _
  have HB : Hid (TbB W1 w.heap.size (.slice (some ⟨gr, rof, none⟩) X.length rcap) (.slice (some ⟨gf, fof, none⟩) F.length fcap)) := by rw [hW1]; exact grown_keep (World.grownBy_alloc _ _ none) (alloc_at w _ _) (by simp)
  have HS : Hid (SeB W1 (w.heap.size + 1) e) := by rw [hW1]; exact alloc2_b _ _ _ _
  have HRr : Hid (W1.rangeAt gr (rof + i * 11) (rvc x)) := rangeAt_keep Rr HG1.out
  have HRf : Hid (W1.rangeAt gf (fof + i * 5) (fec f)) := rangeAt_keep Rf HG1.out
  have HRh : Hid (W1.rangeAt gf (fof + e.ro * 5) (fec (F.getD e.ro Fe.none))) := rangeAt_keep Rh HG1.out
  have hi' : (i : Int) < X.length := by omega
  have hr' : (e.ro : Int) < X.length := by omega
  have hif : (i : Int) < F.length := by omega
  have hrf : (e.ro : Int) < F.length := by omega
  have Hho : Hid (ho = (F.getD e.ro Fe.none).ho) := hho
  unfold tbv sev
  rw [← hx] at hk
  have Hhk : Hid (x.r.h.kd = 1) := hk
  clear hk
  clear T Rr Rf Rh hf hho hx hi hr hl h16
  go_enter Tryz.func101, Tryz.ntmps101
  go_upto_region 1 with fail
  rw [← hW1]
  clear hW1
  obtain ⟨n0, h0⟩ : ∃ n0, n0 = w.heap.size := ⟨_, rfl⟩
  simp only [← h0] at HB HS ⊢
  obtain ⟨n1, h1⟩ : ∃ n1, n1 = n0 + 1 := ⟨_, rfl⟩
  simp only [← h1] at HS ⊢
  clear h0 h1
  obtain ⟨b0, b1⟩ := tb_box HB.out
  obtain ⟨s0, s1, s2, s3, s4, s5, s6, s7, s8, s9, s10⟩ := se_box HS.out
  obtain ⟨r0, r1, r2, r3, r4, r5, r6, r7, r8, r9, r10⟩ := rv_cells HRr.out
  obtain ⟨f0, f1, f2, f3, f4⟩ := fe_cells HRf.out
  have g0 := (fe_cells HRh.out).1
  rw [← Hho.out] at g0
  clear r0 r1 r2 r3 r5 r6 r7 r8 r9 r10 s0 s1 s2 s3 s5 s8 s9
  rw [Hhk.out] at r4
  have e4 : (e.s.wh.wm == 4) = false := by simpa using hw
  have Hw : Hid (¬ e.s.wh.wm = 4) := hw
  clear hw
  go_upto_region 6 with fail
  refine wp_region_held_drew (S := fun w' => W1.grownBy w' none) (by kernel_rfl) (grown_drew _) (fun hHeld => ?_)
  refine wpAnyH_take (i := 0) (v := ?_) rfl (by kernel_rfl) (by kernel_rfl) (by kernel_rfl) (fun _ _ _ h => h) (Or.inl ⟨by rfl, ?_⟩) (by assumption) ?_
  rotate_left 1
  · (intro w0 hSw; go_simp; try with_reducible rfl)
  simp only [List.getElem_toArray, List.getElem_cons_zero]
  go_frame
  refine wpAnyH_take (i := 1) (v := ?_) rfl (by kernel_rfl) (by kernel_rfl) (by kernel_rfl) (fun _ _ _ h => h) (Or.inl ⟨by rfl, ?_⟩) (by assumption) ?_
  rotate_left 1
  · (intro w0 hSw; have b1 := hSw.cell b1 (by simp); go_simp; try with_reducible rfl)
  simp only [List.getElem_toArray, List.getElem_cons_zero, List.getElem_cons_succ]
  go_frame
  refine wpAnyH_take (i := 2) (v := ?_) rfl (by kernel_rfl) (by kernel_rfl) (by kernel_rfl) (fun _ _ _ h => h) (Or.inl ⟨by rfl, ?_⟩) (by assumption) ?_
  rotate_left 1
  · (intro w0 hSw; go_simp; try with_reducible rfl)
  simp only [List.getElem_toArray, List.getElem_cons_zero, List.getElem_cons_succ]
  go_frame
  refine wpAnyH_take (i := 3) (v := ?_) rfl (by kernel_rfl) (by kernel_rfl) (by kernel_rfl) (fun _ _ _ h => h) (Or.inl ⟨by rfl, ?_⟩) (by assumption) ?_
  rotate_left 1
  · (intro w0 hSw; go_simp; try with_reducible rfl)
  simp only [List.getElem_toArray, List.getElem_cons_zero, List.getElem_cons_succ]
  go_frame
  refine wpAnyH_take (i := 4) (v := ?_) rfl (by kernel_rfl) (by kernel_rfl) (by kernel_rfl) (fun _ _ _ h => h) (Or.inl ⟨by rfl, ?_⟩) (by assumption) ?_
  rotate_left 1
  · (intro w0 hSw; have f0 := hSw.cell f0 (by simp); have f1 := hSw.cell f1 (by simp); have f2 := hSw.cell f2 (by simp); have f3 := hSw.cell f3 (by simp); have f4 := hSw.cell f4 (by simp); go_simp; try with_reducible rfl)
  simp only [List.getElem_toArray, List.getElem_cons_zero, List.getElem_cons_succ]
  go_frame
  refine wpAnyH_take (i := 5) (v := ?_) rfl (by kernel_rfl) (by kernel_rfl) (by kernel_rfl) (fun _ _ _ h => h) (Or.inl ⟨by rfl, ?_⟩) (by assumption) ?_
  rotate_left 1
  · (intro w0 hSw; go_simp; try with_reducible rfl)
  simp only [List.getElem_toArray, List.getElem_cons_zero, List.getElem_cons_succ]
  go_frame
  refine wpAnyH_take (i := 6) (v := ?_) rfl (by kernel_rfl) (by kernel_rfl) (by kernel_rfl) (fun _ _ _ h => h) (Or.inl ⟨by rfl, ?_⟩) (by assumption) ?_
  rotate_left 1
  · (intro w0 hSw; have b1 := hSw.cell b1 (by simp); go_simp; try with_reducible rfl)
  simp only [List.getElem_toArray, List.getElem_cons_zero, List.getElem_cons_succ]
  go_frame
  refine wpAnyH_take (i := 7) (v := ?_) rfl (by kernel_rfl) (by kernel_rfl) (by kernel_rfl) (fun _ _ _ h => h) (Or.inl ⟨by rfl, ?_⟩) (by assumption) ?_
  rotate_left 1
  · (intro w0 hSw; go_simp; try with_reducible rfl)
  simp only [List.getElem_toArray, List.getElem_cons_zero, List.getElem_cons_succ]
  go_frame
  refine wpAnyH_take (i := 8) (v := ?_) rfl (by kernel_rfl) (by kernel_rfl) (by kernel_rfl) (fun _ _ _ h => h) (Or.inl ⟨by rfl, ?_⟩) (by assumption) ?_
  rotate_left 1
  · (intro w0 hSw; have s10 := hSw.cell s10 (by simp); go_simp; try with_reducible rfl)
  simp only [List.getElem_toArray, List.getElem_cons_zero, List.getElem_cons_succ]
  go_frame
  refine wpAnyH_take (i := 9) (v := ?_) rfl (by kernel_rfl) (by kernel_rfl) (by kernel_rfl) (fun _ _ _ h => h) (Or.inl ⟨by rfl, ?_⟩) (by assumption) ?_
  rotate_left 1
  · (intro w0 hSw; go_simp; try with_reducible rfl)
  simp only [List.getElem_toArray, List.getElem_cons_zero, List.getElem_cons_succ]
  go_frame
  refine wpAnyH_take (i := 10) (v := ?_) rfl (by kernel_rfl) (by kernel_rfl) (by kernel_rfl) (fun _ _ _ h => h) (Or.inl ⟨by rfl, ?_⟩) (by assumption) ?_
  rotate_left 1
  · (intro w0 hSw; go_simp; try with_reducible rfl)
  simp only [List.getElem_toArray, List.getElem_cons_zero, List.getElem_cons_succ]
  go_frame
  refine wpAnyH_take (i := 11) (v := ?_) rfl (by kernel_rfl) (by kernel_rfl) (by kernel_rfl) (fun _ _ _ h => h) (Or.inl ⟨by rfl, ?_⟩) (by assumption) ?_
  rotate_left 1
  · (intro w0 hSw; have g0 := hSw.cell g0 (by simp); go_simp; try with_reducible rfl)
  simp only [List.getElem_toArray, List.getElem_cons_zero, List.getElem_cons_succ]
  go_frame
  refine wpAnyH_ready (rs := [12]) (by kernel_rfl) (by simp) ?_
  refine AllReadyH.cons rfl (fun K9 hK => ?_) AllReadyH.nil
  simp only [List.getElem_toArray, List.getElem_cons_zero, List.getElem_cons_succ]
  go_simp
  refine hK.out _ _ (grown_trans (grown_push (grown_refl _ _) _) (grown_drew _)) (fun hHeld3 => ?_)
  clear hK K9
  (try go_frame)
  obtain ⟨V1, hV1⟩ : ∃ V1, V1 = (W1.alloc (.cells #[.int .i64 0, .int .u8 0, .int .u16 0, .int .i64 0, .int .i64 0] 64)).drew := ⟨_, rfl⟩
  rw [← hV1] at hHeld3 ⊢
  have HB1 : Hid (V1.heap[W1.heap.size]? = some (.cells #[.int .i64 0, .int .u8 0, .int .u16 0, .int .i64 0, .int .i64 0] 64 (0, 0))) := by rw [hV1]; exact alloc_at W1 _ _
  have HGV : Hid (W1.grownBy V1 none) := hHeld3
  obtain ⟨n2, h2⟩ : ∃ n2, n2 = W1.heap.size := ⟨_, rfl⟩
  have Hn2 : Hid (W1.heap.size ≤ n2 ∧ w.heap.size ≤ n2) := by have := HG1.out.size; show _ ∧ _; omega
  rw [← h2] at HB1 ⊢
  clear hV1 h2
  have z0 := (block_cell HB1.out 0).trans (show _ = some (.int .i64 0) from rfl)
  have z1 := (block_cell HB1.out 1).trans (show _ = some (.int .u8 0) from rfl)
  have z2 := (block_cell HB1.out 2).trans (show _ = some (.int .u16 0) from rfl)
  have z3 := (block_cell HB1.out 3).trans (show _ = some (.int .i64 0) from rfl)
  have z4 := (block_cell HB1.out 4).trans (show _ = some (.int .i64 0) from rfl)
  have zf := fun i => block_free HB1.out i
  refine wpAnyH_ready (rs := [13]) (by kernel_rfl) (by simp) ?_
  refine AllReadyH.cons rfl (fun K9 hK => ?_) AllReadyH.nil
  simp only [List.getElem_toArray, List.getElem_cons_zero, List.getElem_cons_succ]
  go_simp
  refine hK.out _ _ (grown_set5 HGV.out Hn2.out.1 _ _ _ _ _) (fun hHeld3 => ?_)
  clear hK K9
  (try go_frame)
  refine wpAnyH_take (i := 14) (v := ?_) rfl (by kernel_rfl) (by kernel_rfl) (by kernel_rfl) (fun _ _ _ h => h) (Or.inl ⟨by rfl, ?_⟩) (by assumption) ?_
  rotate_left 1
  · (intro w0 hSw; go_simp; try with_reducible rfl)
  simp only [List.getElem_toArray, List.getElem_cons_zero, List.getElem_cons_succ]
  go_frame
  refine wpAnyH_done (by kernel_rfl) ?_ _
  obtain ⟨V, hV⟩ : ∃ V, V = ((((V1.setCell ⟨n2, 0, none⟩ (.int .i64 f.ho)).setCell ⟨n2, 1, none⟩ (.int .u8 f.su)).setCell ⟨n2, 2, none⟩ (.int .u16 f.tr)).setCell ⟨n2, 3, none⟩ (.int .i64 f.po)).setCell ⟨n2, 4, none⟩ (.int .i64 f.he) := ⟨_, rfl⟩
  rw [← hV]
  have HG : Hid (w.grownBy V none) := by rw [hV]; exact grown_trans HG1.out (grown_set5 HGV.out Hn2.out.1 _ _ _ _ _)
  have HG' : W1.grownBy V none := by rw [hV]; exact grown_set5 HGV.out Hn2.out.1 _ _ _ _ _
  have HB2 : Hid (V.heap[n2]? = some (.cells #[.int .i64 f.ho, .int .u8 f.su, .int .u16 f.tr, .int .i64 f.po, .int .i64 f.he] 64 (0, 0))) := by rw [hV]; exact block_set (block_set (block_set (block_set (block_set HB1.out 0 _) 1 _) 2 _) 3 _) 4 _
  have u4 := HG'.cell s4 (by simp)
  have u6 := HG'.cell s6 (by simp)
  have u7 := HG'.cell s7 (by simp)
  have p0 := (block_cell HB2.out 0).trans (show _ = some (.int .i64 f.ho) from rfl)
  have p1 := (block_cell HB2.out 1).trans (show _ = some (.int .u8 f.su) from rfl)
  have p2 := (block_cell HB2.out 2).trans (show _ = some (.int .u16 f.tr) from rfl)
  clear hV hHeld hHeld3 HG' s4 s6 s7 s10 z0 z1 z2 z3 z4 zf f0 f1 f2 f3 f4 g0 b0 b1 r4 hi' hr' hif hrf HB1 HGV
  by_cases d5 : e.s.wh.wm = 5
  · have HY : Hid (isAbB (rws X) F e i = (f.ho == ho)) := by show _ = _; rw [HEx.out]; unfold meantB; rw [if_neg Hw.out, if_neg (fun q => q Hhk.out), if_pos d5]; rw [beq_dec]
    rw [d5] at u4
    clear e4 d5
    go_wp2
    go_ret
    exact ⟨ret_bb HY.out.symm, HG.out⟩
  by_cases d8 : e.s.wh.wm = 8
  · cases ho1 : (f.ho == ho) with
    | true =>
      have hb : f.ho = ho := by simpa using ho1
      have HY : Hid (isAbB (rws X) F e i = (!((i : Int) == (e.ro : Int)))) := by show _ = _; rw [HEx.out]; unfold meantB; rw [if_neg Hw.out, if_neg (fun q => q Hhk.out), if_neg d5, if_pos d8]; rw [nat_beq]; simp [hb]
      rw [d8] at u4
      clear e4 hb d5 d8
      go_wp2
      go_ret
      exact ⟨ret_bb HY.out.symm, HG.out⟩
    | false =>
      have hb : ¬ f.ho = ho := by simpa using ho1
      have HY : Hid (isAbB (rws X) F e i = false) := by show _ = _; rw [HEx.out]; unfold meantB; rw [if_neg Hw.out, if_neg (fun q => q Hhk.out), if_neg d5, if_pos d8]; simp [hb]
      rw [d8] at u4
      clear e4 hb d5 d8
      go_wp2
      go_ret
      exact ⟨ret_bb HY.out.symm, HG.out⟩
  by_cases d6 : e.s.wh.wm = 6
  · have HY : Hid (isAbB (rws X) F e i = (f.ho != ho)) := by show _ = _; rw [HEx.out]; unfold meantB; rw [if_neg Hw.out, if_neg (fun q => q Hhk.out), if_neg d5, if_neg d8, if_pos d6]; rw [bne_dec]
    rw [d6] at u4
    clear e4 d5 d8 d6
    go_wp2
    go_ret
    exact ⟨ret_bb HY.out.symm, HG.out⟩
  by_cases d7 : e.s.wh.wm = 7
  · have HY : Hid (isAbB (rws X) F e i = true) := by show _ = _; rw [HEx.out]; unfold meantB; rw [if_neg Hw.out, if_neg (fun q => q Hhk.out), if_neg d5, if_neg d8, if_neg d6, if_pos d7]
    rw [d7] at u4
    clear e4 d5 d8 d6 d7
    go_wp2
    go_ret
    exact ⟨ret_bb HY.out.symm, HG.out⟩
  by_cases d9 : e.s.wh.wm = 9
  · have HY : Hid (isAbB (rws X) F e i = (f.su == e.s.wh.su)) := by show _ = _; rw [HEx.out]; unfold meantB; rw [if_neg Hw.out, if_neg (fun q => q Hhk.out), if_neg d5, if_neg d8, if_neg d6, if_neg d7, if_pos d9]; rw [beq_dec]
    rw [d9] at u4
    clear e4 d5 d8 d6 d7 d9
    go_wp2
    go_ret
    exact ⟨ret_bb HY.out.symm, HG.out⟩
  by_cases d10 : e.s.wh.wm = 10
  · have HY : Hid (isAbB (rws X) F e i = (tHas f.tr e.s.wh.tr)) := by show _ = _; rw [HEx.out]; unfold meantB; rw [if_neg Hw.out, if_neg (fun q => q Hhk.out), if_neg d5, if_neg d8, if_neg d6, if_neg d7, if_neg d9, if_pos d10]
    rw [d10] at u4
    clear e4 d5 d8 d6 d7 d9 d10
    go_wp2_with (go_at_call 131; refine (has_any _ _ _).mono ?_; rintro e3 w3 ⟨rfl, rfl⟩)
    go_ret
    exact ⟨ret_bb HY.out.symm, HG.out⟩
  have HY : Hid (isAbB (rws X) F e i = false) := by show _ = _; rw [HEx.out]; unfold meantB; rw [if_neg Hw.out, if_neg (fun q => q Hhk.out), if_neg d5, if_neg d8, if_neg d6, if_neg d7, if_neg d9, if_neg d10]
  have k5 : (e.s.wh.wm == 5) = false := by simpa using d5
  have k8 : (e.s.wh.wm == 8) = false := by simpa using d8
  have k6 : (e.s.wh.wm == 6) = false := by simpa using d6
  have k7 : (e.s.wh.wm == 7) = false := by simpa using d7
  have k9 : (e.s.wh.wm == 9) = false := by simpa using d9
  have k10 : (e.s.wh.wm == 10) = false := by simpa using d10
  clear e4 d5 d8 d6 d7 d9 d10
  go_wp2
  go_ret
  exact ⟨ret_bb HY.out.symm, HG.out⟩
theorem isAbout_any (vr vf : Value) (X : List Rv) (F : List Fe) (e : Se) (i : Nat) (w : World) (T : TbAt w vr vf X F) (hi : i < X.length) (hr : e.ro < X.length) : Calls Tryz.prog 101 #[tbv vr vf, sev e, .int .i64 (i : Int)] w fun e' w' => e' = .returned (.bool (isAbB (rws X) F e i)) ∧ w.grownBy w' none := by
  by_cases hw : e.s.wh.wm = 4
  · exact isAbout_self vr vf X F e i w T hi hr hw
  · by_cases hk : X[i].r.h.kd = 1
    · exact isAbout_unit vr vf X F e i w T hi hr hw hk
    · exact isAbout_no vr vf X F e i w T hi hr hw hk
end Go.Proofs.YtmemeloehgemcaaGreat
