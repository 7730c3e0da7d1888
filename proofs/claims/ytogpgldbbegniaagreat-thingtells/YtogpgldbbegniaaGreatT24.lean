/-
  A thing, features, four numbers of marks, read as data.
  thing's isBook, mayLie and Marked, of every book made, features and marks.
  thing.Marked, of every book made, features and marks.
-/
import Derived.Test.YtogpgldbbegniaaGreatT17
import Derived.Test.YtogpgldbbegniaaGreatT22
import Derived.Test.YtogpgldbbegniaaGreatT23
import Derived.Laws.IdiomArrays
import Derived.ProofKit
import Derived.OpenShut
import Derived.ChangeOld
import Derived.ChangeAt
import Derived.Deep.Slices
import Derived.SizedLaws
import Derived.Deep.MidRow
namespace Go.Proofs.YtogpgldbbegniaaGreat
open Go.ChangeShapes Go.WideShapes Go.ChangeAt Go.RowKit Go.Deep

theorem Tryz.own : ownKnob Tryz.prog.godebug = none := by kernel_rfl
theorem Tryz.laidOut : laidOutB Tryz.prog = true := by kernel_rfl
def thv (t : Th) : Value := .agg #[.int .i64 t.card, .int .i64 t.owner, .int .u8 t.place, .int .i64 t.stamp, .int .i64 t.hurt, .int .i64 t.m0, .int .i64 t.m1, .int .i64 t.m2, .int .i64 t.m3, .int .i64 t.done, .bool t.fresh]
def fov (c0 c1 c2 c3 : Int) : Value := .agg #[.int .i64 c0, .int .i64 c1, .int .i64 c2, .int .i64 c3]
theorem inI_of {n : Int} (h : (Lit.int .i64 n).wf = true) : InI n := i64_of h
theorem cOfI : Tryz.prog.cellsOf 3 = 1 := by kernel_rfl
theorem cOfB : Tryz.prog.cellsOf 4 = 1 := by kernel_rfl
theorem cOfPl : Tryz.prog.cellsOf 36 = 1 := by kernel_rfl
theorem cOfSu : Tryz.prog.cellsOf 63 = 1 := by kernel_rfl
theorem cOfTs : Tryz.prog.cellsOf 66 = 1 := by kernel_rfl
theorem cOf4 : Tryz.prog.cellsOf 37 = 4 := by kernel_rfl
theorem cOfFe : Tryz.prog.cellsOf 74 = 5 := by kernel_rfl
theorem cOfTh : Tryz.prog.cellsOf 39 = 11 := by kernel_rfl
set_option maxRecDepth 100000 in
theorem four_cells {H : Type} {enc : TypeId × Value → H} {w : World} {base : Nat} {sp : Nat → Bool} {held : Bool} {fuel : Nat} {c0 c1 c2 c3 : Value} {x : DataW H × List MemPlace} (hf : DataW.trod enc Tryz.prog w base sp held fuel 37 [c0, c1, c2, c3] = some x) : ∃ z0 z1 z2 z3 : Int, c0 = .int .i64 z0 ∧ c1 = .int .i64 z1 ∧ c2 = .int .i64 z2 ∧ c3 = .int .i64 z3 ∧ InI z0 ∧ InI z1 ∧ InI z2 ∧ InI z3 := by
  obtain ⟨y0, y1, y2, y3, m, hx, hy0, hy1, hy2, hy3⟩ := trod_array4 Tryz.underlying37 cOfI hf
  obtain ⟨x0, e0, _, w0⟩ := DataW.trod_int Tryz.underlying3 hy0
  obtain ⟨x1, e1, _, w1⟩ := DataW.trod_int Tryz.underlying3 hy1
  obtain ⟨x2, e2, _, w2⟩ := DataW.trod_int Tryz.underlying3 hy2
  obtain ⟨x3, e3, _, w3⟩ := DataW.trod_int Tryz.underlying3 hy3
  simp only [List.cons.injEq, and_true] at e0 e1 e2 e3
  exact ⟨x0, x1, x2, x3, e0, e1, e2, e3, inI_of w0, inI_of w1, inI_of w2, inI_of w3⟩
set_option maxRecDepth 100000 in
theorem open_four {H : Type} {enc : TypeId × Value → H} {w : World} {base : Nat} {sp : Nat → Bool} {held : Bool} {r : Reach} {b0 : Nat} {v : Value} {d : DataW H} {pl : List MemPlace} (hval : Value.okWide Tryz.prog w r b0 37 v) (hd : DataW.Trod enc Tryz.prog w base sp held 37 v d pl) : ∃ c0 c1 c2 c3 : Int, v = fov c0 c1 c2 c3 ∧ InI c0 ∧ InI c1 ∧ InI c2 ∧ InI c3 := by
  obtain ⟨cs, rfl, hsz, _⟩ : ∃ cs, v = .agg cs ∧ cs.size = Tryz.prog.cellsOf 37 ∧ Row.okWide Tryz.prog w r b0 37 cs := by
    simpa [Value.okWide, Tryz.underlying37] using hval
  rw [cOf4] at hsz
  obtain ⟨fuel, hf⟩ := hd
  obtain ⟨l⟩ := cs
  obtain ⟨c0, c1, c2, c3, rfl⟩ : ∃ c0 c1 c2 c3, l = [c0, c1, c2, c3] := by
    match l, (show l.length = 4 from hsz) with
    | [c0, c1, c2, c3], _ => exact ⟨c0, c1, c2, c3, rfl⟩
  obtain ⟨z0, z1, z2, z3, rfl, rfl, rfl, rfl, h⟩ := four_cells hf
  exact ⟨z0, z1, z2, z3, rfl, h⟩
set_option maxRecDepth 100000 in
theorem open_feature {H : Type} {enc : TypeId × Value → H} {w : World} {base : Nat} {sp : Nat → Bool} {held : Bool} {r : Reach} {b0 : Nat} {v : Value} {d : DataW H} {pl : List MemPlace} (hval : Value.okWide Tryz.prog w r b0 74 v) (hd : DataW.Trod enc Tryz.prog w base sp held 74 v d pl) : ∃ f : Fe, v = fev f ∧ InI f.po ∧ InI f.he := by
  obtain ⟨cs, rfl, hsz⟩ := okWide_struct Tryz.underlying74 hval
  rw [cOfFe] at hsz
  obtain ⟨fuel, hf⟩ := hd
  obtain ⟨l⟩ := cs
  obtain ⟨c0, c1, c2, c3, c4, rfl⟩ : ∃ c0 c1 c2 c3 c4, l = [c0, c1, c2, c3, c4] := by
    match l, (show l.length = 5 from hsz) with
    | [c0, c1, c2, c3, c4], _ => exact ⟨c0, c1, c2, c3, c4, rfl⟩
  obtain ⟨xs, n, _, hx, _, hlen, hfl⟩ := DataW.trod_struct Tryz.underlying74 hf
  match xs, hlen with
  | [y0, y1, y2, y3, y4], _ =>
    have t0 : DataW.trod enc Tryz.prog w base sp held n 3 (([c0, c1, c2, c3, c4].drop 0).take (Tryz.prog.cellsOf 3)) = some y0 := hfl 0 _ rfl
    rw [cOfI] at t0
    have t1 : DataW.trod enc Tryz.prog w base sp held n 63 (([c0, c1, c2, c3, c4].drop 1).take (Tryz.prog.cellsOf 63)) = some y1 := hfl 1 _ rfl
    rw [cOfSu] at t1
    have t2 : DataW.trod enc Tryz.prog w base sp held n 66 (([c0, c1, c2, c3, c4].drop 2).take (Tryz.prog.cellsOf 66)) = some y2 := hfl 2 _ rfl
    rw [cOfTs] at t2
    have t3 : DataW.trod enc Tryz.prog w base sp held n 3 (([c0, c1, c2, c3, c4].drop 3).take (Tryz.prog.cellsOf 3)) = some y3 := hfl 3 _ rfl
    rw [cOfI] at t3
    have t4 : DataW.trod enc Tryz.prog w base sp held n 3 (([c0, c1, c2, c3, c4].drop 4).take (Tryz.prog.cellsOf 3)) = some y4 := hfl 4 _ rfl
    rw [cOfI] at t4
    obtain ⟨z0, e0, _, w0⟩ := DataW.trod_int Tryz.underlying3 (cs := [c0]) t0
    simp only [List.cons.injEq, and_true] at e0
    subst e0
    obtain ⟨z1, e1, _, w1⟩ := DataW.trod_int Tryz.underlying63 (cs := [c1]) t1
    simp only [List.cons.injEq, and_true] at e1
    subst e1
    obtain ⟨z2, e2, _, w2⟩ := DataW.trod_int Tryz.underlying66 (cs := [c2]) t2
    simp only [List.cons.injEq, and_true] at e2
    subst e2
    obtain ⟨z3, e3, _, w3⟩ := DataW.trod_int Tryz.underlying3 (cs := [c3]) t3
    simp only [List.cons.injEq, and_true] at e3
    subst e3
    obtain ⟨z4, e4, _, w4⟩ := DataW.trod_int Tryz.underlying3 (cs := [c4]) t4
    simp only [List.cons.injEq, and_true] at e4
    subst e4
    exact ⟨⟨z0, z1, z2, z3, z4⟩, rfl, inI_of w3, inI_of w4⟩
set_option maxRecDepth 100000 in
theorem open_thing {H : Type} {enc : TypeId × Value → H} {w : World} {base : Nat} {sp : Nat → Bool} {held : Bool} {r : Reach} {b0 : Nat} {v : Value} {d : DataW H} {pl : List MemPlace} (hval : Value.okWide Tryz.prog w r b0 39 v) (hd : DataW.Trod enc Tryz.prog w base sp held 39 v d pl) : ∃ t : Th, v = thv t := by
  obtain ⟨cs, rfl, hsz⟩ := okWide_struct Tryz.underlying39 hval
  rw [cOfTh] at hsz
  obtain ⟨fuel, hf⟩ := hd
  obtain ⟨l⟩ := cs
  obtain ⟨c0, c1, c2, c3, c4, c5, c6, c7, c8, c9, c10, rfl⟩ : ∃ c0 c1 c2 c3 c4 c5 c6 c7 c8 c9 c10, l = [c0, c1, c2, c3, c4, c5, c6, c7, c8, c9, c10] := by
    match l, (show l.length = 11 from hsz) with
    | [c0, c1, c2, c3, c4, c5, c6, c7, c8, c9, c10], _ => exact ⟨c0, c1, c2, c3, c4, c5, c6, c7, c8, c9, c10, rfl⟩
  obtain ⟨xs, n, _, hx, _, hlen, hfl⟩ := DataW.trod_struct Tryz.underlying39 hf
  match xs, hlen with
  | [y0, y1, y2, y3, y4, y5, y6, y7], _ =>
    have t0 : DataW.trod enc Tryz.prog w base sp held n 3 (([c0, c1, c2, c3, c4, c5, c6, c7, c8, c9, c10].drop 0).take (Tryz.prog.cellsOf 3)) = some y0 := hfl 0 _ rfl
    rw [cOfI] at t0
    have t1 : DataW.trod enc Tryz.prog w base sp held n 3 (([c0, c1, c2, c3, c4, c5, c6, c7, c8, c9, c10].drop 1).take (Tryz.prog.cellsOf 3)) = some y1 := hfl 1 _ rfl
    rw [cOfI] at t1
    have t2 : DataW.trod enc Tryz.prog w base sp held n 36 (([c0, c1, c2, c3, c4, c5, c6, c7, c8, c9, c10].drop 2).take (Tryz.prog.cellsOf 36)) = some y2 := hfl 2 _ rfl
    rw [cOfPl] at t2
    have t3 : DataW.trod enc Tryz.prog w base sp held n 3 (([c0, c1, c2, c3, c4, c5, c6, c7, c8, c9, c10].drop 3).take (Tryz.prog.cellsOf 3)) = some y3 := hfl 3 _ rfl
    rw [cOfI] at t3
    have t4 : DataW.trod enc Tryz.prog w base sp held n 3 (([c0, c1, c2, c3, c4, c5, c6, c7, c8, c9, c10].drop 4).take (Tryz.prog.cellsOf 3)) = some y4 := hfl 4 _ rfl
    rw [cOfI] at t4
    have t5 : DataW.trod enc Tryz.prog w base sp held n 37 (([c0, c1, c2, c3, c4, c5, c6, c7, c8, c9, c10].drop 5).take (Tryz.prog.cellsOf 37)) = some y5 := hfl 5 _ rfl
    rw [cOf4] at t5
    have t6 : DataW.trod enc Tryz.prog w base sp held n 3 (([c0, c1, c2, c3, c4, c5, c6, c7, c8, c9, c10].drop 9).take (Tryz.prog.cellsOf 3)) = some y6 := hfl 6 _ rfl
    rw [cOfI] at t6
    have t7 : DataW.trod enc Tryz.prog w base sp held n 4 (([c0, c1, c2, c3, c4, c5, c6, c7, c8, c9, c10].drop 10).take (Tryz.prog.cellsOf 4)) = some y7 := hfl 7 _ rfl
    rw [cOfB] at t7
    obtain ⟨z0, e0, _, w0⟩ := DataW.trod_int Tryz.underlying3 (cs := [c0]) t0
    simp only [List.cons.injEq, and_true] at e0
    subst e0
    obtain ⟨z1, e1, _, w1⟩ := DataW.trod_int Tryz.underlying3 (cs := [c1]) t1
    simp only [List.cons.injEq, and_true] at e1
    subst e1
    obtain ⟨z2, e2, _, w2⟩ := DataW.trod_int Tryz.underlying36 (cs := [c2]) t2
    simp only [List.cons.injEq, and_true] at e2
    subst e2
    obtain ⟨z3, e3, _, w3⟩ := DataW.trod_int Tryz.underlying3 (cs := [c3]) t3
    simp only [List.cons.injEq, and_true] at e3
    subst e3
    obtain ⟨z4, e4, _, w4⟩ := DataW.trod_int Tryz.underlying3 (cs := [c4]) t4
    simp only [List.cons.injEq, and_true] at e4
    subst e4
    obtain ⟨z5, z6, z7, z8, rfl, rfl, rfl, rfl, w5, w6, w7, w8⟩ := four_cells (c0 := c5) (c1 := c6) (c2 := c7) (c3 := c8) t5
    obtain ⟨z9, e9, _, w9⟩ := DataW.trod_int Tryz.underlying3 (cs := [c9]) t6
    simp only [List.cons.injEq, and_true] at e9
    subst e9
    obtain ⟨z10, e10, _⟩ := DataW.trod_bool Tryz.underlying4 (cs := [c10]) t7
    simp only [List.cons.injEq, and_true] at e10
    subst e10
    exact ⟨⟨z0, z1, z2, z3, z4, z5, z6, z7, z8, z9, z10⟩, rfl⟩
end Go.Proofs.YtogpgldbbegniaaGreat
namespace Go.Proofs.YtogpgldbbegniaaGreat
open Go.RowKit

def okc (c : Int) : Bool := decide (0 ≤ c) && decide (c ≤ 99)
def okcs (c0 c1 c2 c3 : Int) : Bool := okc c0 && (okc c1 && (okc c2 && okc c3))
theorem okc_yes {c : Int} (h : okc c = true) : 0 ≤ c ∧ c ≤ 99 := by unfold okc at h; simpa using h
theorem okc_no {c : Int} (h : okc c = false) : c < 0 ∨ 99 < c := by
  unfold okc at h
  have : ¬ (0 ≤ c ∧ c ≤ 99) := fun q => by simp [q.1, q.2] at h
  omega
theorem retB {a b : Bool} (h : a = b) : Ending.returned (.bool a) = Ending.returned (.bool b) := by rw [h]
def MlR (c0 c1 c2 c3 : Int) (k : Nat) : Prop := (k ≥ 1 → okc c0 = true) ∧ (k ≥ 2 → okc c1 = true) ∧ (k ≥ 3 → okc c2 = true) ∧ (k ≥ 4 → okc c3 = true)
def fovT (c0 c1 c2 c3 : Int) : Value := .agg #[.int .i64 c0, .int .i64 c1, .int .i64 c2, .int .i64 c3]
theorem ixf0 (c0 c1 c2 c3 : Int) (w : World) : (Instr.index 37 (.agg #[.int .i64 c0, .int .i64 c1, .int .i64 c2, .int .i64 c3]) (.int .i64 0)).run Tryz.prog w = .ok (.int .i64 c0) w := by kernel_rfl
theorem ixf1 (c0 c1 c2 c3 : Int) (w : World) : (Instr.index 37 (.agg #[.int .i64 c0, .int .i64 c1, .int .i64 c2, .int .i64 c3]) (.int .i64 1)).run Tryz.prog w = .ok (.int .i64 c1) w := by kernel_rfl
theorem ixf2 (c0 c1 c2 c3 : Int) (w : World) : (Instr.index 37 (.agg #[.int .i64 c0, .int .i64 c1, .int .i64 c2, .int .i64 c3]) (.int .i64 2)).run Tryz.prog w = .ok (.int .i64 c2) w := by kernel_rfl
theorem ixf3 (c0 c1 c2 c3 : Int) (w : World) : (Instr.index 37 (.agg #[.int .i64 c0, .int .i64 c1, .int .i64 c2, .int .i64 c3]) (.int .i64 3)).run Tryz.prog w = .ok (.int .i64 c3) w := by kernel_rfl
end Go.Proofs.YtogpgldbbegniaaGreat
namespace Go.Proofs.YtogpgldbbegniaaGreat
open Go.RowKit

/-- While marks are added: where the features and the answer lie. -/
structure MkS (w wr : World) (F R : Nat) (a b c d e : Int) : Prop where
  g : w.grownBy wr none
  f : wr.heap[F]? = some (.cells #[.int .i64 a, .int .u8 b, .int .u16 c, .int .i64 d, .int .i64 e] 74 (0, 0))
  r : wr.heap[R]? = some (.cells #[.int .i64 0, .int .u8 0, .int .u16 0, .int .i64 0, .int .i64 0] 74 (0, 0))
  hF : w.heap.size ≤ F
  hR : w.heap.size ≤ R
  ne : ¬ F = R
theorem MkS.grow {w wr w2 : World} {F R : Nat} {a b c d e : Int} (h : MkS w wr F R a b c d e) (g : wr.grownBy w2 none) : MkS w w2 F R a b c d e := ⟨grown_trans h.g g, grown_keep g h.f (by simp), grown_keep g h.r (by simp), h.hF, h.hR, h.ne⟩
theorem MkS.set3 {w wr : World} {F R : Nat} {a b c d e : Int} (h : MkS w wr F R a b c d e) (x : Int) : MkS w (wr.setCell ⟨F, 3, none⟩ (.int .i64 x)) F R a b c x e := ⟨grown_own h.g (grown_set _ _ _ _) (fun y e => by cases e; exact h.hF), block_set h.f _ _, grown_keep (grown_set wr F 3 (.int .i64 x)) h.r (fun e => by injection e with e; exact h.ne e.symm), h.hF, h.hR, h.ne⟩
theorem MkS.set4 {w wr : World} {F R : Nat} {a b c d e : Int} (h : MkS w wr F R a b c d e) (x : Int) : MkS w (wr.setCell ⟨F, 4, none⟩ (.int .i64 x)) F R a b c d x := ⟨grown_own h.g (grown_set _ _ _ _) (fun y e => by cases e; exact h.hF), block_set h.f _ _, grown_keep (grown_set wr F 4 (.int .i64 x)) h.r (fun e => by injection e with e; exact h.ne e.symm), h.hF, h.hR, h.ne⟩
theorem alloc2_at (w : World) (o : Obj) (cs : Array Value) (t : TypeId) : ((w.alloc o).alloc (.cells cs t)).heap[w.heap.size + 1]? = some (.cells cs t (0, 0)) := by have := alloc_at (w.alloc o) cs t; rwa [World.size_alloc] at this
theorem alloc3_at (w : World) (o o2 : Obj) (cs : Array Value) (t : TypeId) : (((w.alloc o).alloc o2).alloc (.cells cs t)).heap[w.heap.size + 1 + 1]? = some (.cells cs t (0, 0)) := by have := alloc_at ((w.alloc o).alloc o2) cs t; rwa [World.size_alloc, World.size_alloc] at this
/-- The first k marks, added. -/
def zk (p : Pl) (c0 c1 c2 c3 : Int) (k : Nat) : List (Int × Mk) := (zs p c0 c1 c2 c3).take k
theorem low0_max (a : Int) : low0 a = max a 0 := by unfold low0; split <;> omega
end Go.Proofs.YtogpgldbbegniaaGreat
