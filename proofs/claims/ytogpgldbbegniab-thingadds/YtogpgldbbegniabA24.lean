/-
  What a book is filled with (cards, marks, whether it stays open), read as data.
  A thing, features, four numbers of marks, read as data.
-/
import Derived.Test.YtogpgldbbegniabA23
import Derived.Test.YtogpgldbbegniabA21
import Derived.Test.YtogpgldbbegniabB4
import Derived.ChangeSlices
import Derived.Test.YtogpgldbbegniabA16
import Derived.Laws.IdiomArrays
import Derived.ProofKit
import Derived.OpenShut
import Derived.ChangeOld
import Derived.ChangeAt
import Derived.Deep.Slices
import Derived.SizedLaws
namespace Go.Proofs.Ytogpgldbbegniab
open Go.ChangeShapes Go.WideShapes Go.ChangeAt Go.RowKit Go.Deep

theorem u8_of {n : Int} (h : (Lit.int .u8 n).wf = true) : 0 ≤ n ∧ n ≤ 255 := by
  simp [Lit.wf, IntKind.min, IntKind.max, IntKind.signed, IntKind.bits] at h
  omega
theorem u16_of {n : Int} (h : (Lit.int .u16 n).wf = true) : 0 ≤ n ∧ n ≤ 65535 := by
  simp [Lit.wf, IntKind.min, IntKind.max, IntKind.signed, IntKind.bits] at h
  omega
theorem i64_of {n : Int} (h : (Lit.int .i64 n).wf = true) : -9223372036854775808 ≤ n ∧ n ≤ 9223372036854775807 := by
  have h1 : IntKind.i64.min = -9223372036854775808 := rfl
  have h2 : IntKind.i64.max = 9223372036854775807 := rfl
  simp [Lit.wf, h1, h2] at h
  omega
theorem wf_of {h : Hd} {ps : List Pt} (k : Hwf h) (q : ∀ p ∈ ps, Pwf p) : (h.with ps).wf := ⟨u8_of k.su, u8_of k.kd, i64_of k.co, i64_of k.po, i64_of k.he, u16_of k.tr, fun p hp => ⟨u8_of (q p hp).wn, u8_of (q p hp).vb, u8_of (q p hp).wm, i64_of (q p hp).ct, u8_of (q p hp).su, u8_of (q p hp).tr, u8_of (q p hp).mr⟩⟩
theorem Try.cells69'' : Try.prog.cellsOf 69 = 4 := by kernel_rfl
theorem Try.cells58'' : Try.prog.cellsOf 58 = 1 := by kernel_rfl
/-- The four cells of a mark, read as data. -/
theorem mark_cells {H : Type} {enc : TypeId × Value → H} {w : World} {base : Nat} {sp : Nat → Bool} {held : Bool} {fuel : Nat} {l : List Value} {x : DataW H × List MemPlace} (hsz : l.length = 4) (hf : DataW.trod enc Try.prog w base sp held fuel 69 l = some x) : ∃ m : Mk, l = mvs m ∧ (0 ≤ m.mi ∧ m.mi ≤ 255) := by
  obtain ⟨c0, c1, c2, c3, rfl⟩ : ∃ c0 c1 c2 c3, l = [c0, c1, c2, c3] := by
    match l, hsz with
    | [c0, c1, c2, c3], _ => exact ⟨c0, c1, c2, c3, rfl⟩
  obtain ⟨xs, n, _, hx, _, hlen, hfl⟩ := DataW.trod_struct Try.underlying69 hf
  match xs, hlen with
  | [y0, y1, y2, y3], _ =>
    have t0 : DataW.trod enc Try.prog w base sp held n 58 (([c0, c1, c2, c3].drop 0).take (Try.prog.cellsOf 58)) = some y0 := hfl 0 _ rfl
    have t1 : DataW.trod enc Try.prog w base sp held n 9 (([c0, c1, c2, c3].drop 1).take (Try.prog.cellsOf 9)) = some y1 := hfl 1 _ rfl
    have t2 : DataW.trod enc Try.prog w base sp held n 3 (([c0, c1, c2, c3].drop 2).take (Try.prog.cellsOf 3)) = some y2 := hfl 2 _ rfl
    have t3 : DataW.trod enc Try.prog w base sp held n 3 (([c0, c1, c2, c3].drop 3).take (Try.prog.cellsOf 3)) = some y3 := hfl 3 _ rfl
    rw [Try.cells58''] at t0
    rw [Try.cells9'] at t1
    rw [Try.cells3'] at t2 t3
    obtain ⟨z0, e0, _, w0⟩ := DataW.trod_int Try.underlying58 (cs := [c0]) t0
    obtain ⟨z1, e1, _, _⟩ := DataW.trod_string Try.underlying9 (cs := [c1]) t1
    obtain ⟨z2, e2, _, _⟩ := DataW.trod_int Try.underlying3 (cs := [c2]) t2
    obtain ⟨z3, e3, _, _⟩ := DataW.trod_int Try.underlying3 (cs := [c3]) t3
    simp only [List.cons.injEq, and_true] at e0 e1 e2 e3
    subst e0 e1 e2 e3
    exact ⟨⟨z0, z1, z2, z3⟩, rfl, by have h0 := w0; simp [Lit.wf, IntKind.min, IntKind.max, IntKind.signed, IntKind.bits] at h0; omega⟩
theorem bytesC : Try.prog.bytesOf 47 = 80 := by kernel_rfl
theorem bytesM : Try.prog.bytesOf 69 = 40 := by kernel_rfl
theorem weights_in {H : Type} {P : Program} {e : TypeId} {n : Nat} : ∀ {l : List (DataW H)} {d : DataW H}, d ∈ l → n ∈ d.weights P e → n ∈ DataW.weightsAll P e l
  | x :: r, d, hd, hn => by
    simp only [DataW.weightsAll, List.mem_append]
    rcases List.mem_cons.1 hd with rfl | hd
    · exact Or.inl hn
    · exact Or.inr (weights_in hd hn)
set_option maxRecDepth 100000 in
/-- A list of cards, read as data. -/
theorem cards_open {H : Type} {enc : TypeId × Value → H} {w : World} {base : Nat} {sp : Nat → Bool} {held : Bool} {fuel : Nat} {v : Value} {x : DataW H × List MemPlace}
    (h : DataW.trod enc Try.prog w base sp held fuel 22 [v] = some x) (hz : ∀ n ∈ x.1.weights Try.prog 22, n ≤ reachBytes) : ∃ cs : List Ent, (∃ a k, v = .slice a cs.length k ∧ (0 < cs.length → ∃ g o, a = some ⟨g, o, none⟩ ∧ EsAt w g o cs)) ∧ (∀ e ∈ cs, PsAt w e.v e.ps ∧ Fits e.ps.length ∧ (e.h.with e.ps).wf) ∧ Small cs.length := by
  rcases open_slice Try.underlying22 h with ⟨hcs, _⟩ | ⟨a, len, cp, m, f, D, Pl, hcs, _, hl, hm, hmm, hxx, hx⟩
  · simp at hcs
    subst hcs
    exact ⟨[], ⟨none, 0, rfl, fun h0 => by simp at h0⟩, by simp, by unfold Small; decide⟩
  · simp at hcs
    subst hcs
    rw [Try.cells47'] at hx
    have hnm : len ≤ m := by rw [hmm]; split <;> omega
    have hp : ∀ i, i < len → ∃ e : Ent, (PsAt w e.v e.ps ∧ Fits e.ps.length ∧ (e.h.with e.ps).wf) ∧ ∀ k u, (cvs e.h e.v)[k]? = some u → w.cell? ((a.add (i * 9)).add k) = some u := fun i hi => by
      obtain ⟨cs', h1, h2⟩ := hx i (by omega)
      obtain ⟨_, hlen, hc⟩ := World.cells?_some h1
      obtain ⟨hd, u, ps, e, p1, p2, p3⟩ := card_cells hlen h2 (fun n hn => hz n (by
        rw [hxx]
        simp only [DataW.weights, Try.underlying22]
        exact List.mem_cons_of_mem _ (List.mem_append_left _ (weights_in (List.mem_map.2 ⟨i, List.mem_range.2 hi, rfl⟩) hn))))
      subst e
      refine ⟨⟨hd, u, ps⟩, ⟨p1, p2, wf_of p3.1 p3.2⟩, fun k y hk => ?_⟩
      have hk9 : k < 9 := (List.getElem?_eq_some_iff.1 hk).1
      rw [hc k hk9]
      exact hk
    haveI : Inhabited Ent := ⟨⟨Hd.none, .bool false, []⟩⟩
    obtain ⟨F, hF⟩ := choose_lt (α := Ent) hp
    refine ⟨(List.range len).map F, ⟨some a, cp, by simp, fun h0 => ?_⟩, ?_, ?_⟩
    · have h0' : 0 < len := by simpa using h0
      have c0 := (hF 0 h0').2 0 _ rfl
      have ex : (a.add (0 * 9)).add 0 = a := by simp [Addr.add]
      rw [ex] at c0
      have pl := addr_plain c0
      refine ⟨a.block, a.off, by rw [← pl], fun j e he => ?_⟩
      have hj : j < len := by have := (List.getElem?_eq_some_iff.1 he).1; simpa using this
      obtain rfl : e = F j := by simp [hj] at he; exact he.symm
      have at_ : ∀ k u, (cvs (F j).h (F j).v)[k]? = some u → w.cell? ⟨a.block, a.off + j * 9 + k, none⟩ = some u := fun k u hk => by
        have := (hF j hj).2 k u hk
        rw [add_add pl, pl, add_plain, ← Nat.add_assoc] at this
        exact this
      exact ⟨at_ 0 _ rfl, at_ 1 _ rfl, at_ 2 _ rfl, at_ 3 _ rfl, at_ 4 _ rfl, at_ 5 _ rfl, at_ 6 _ rfl, at_ 7 _ rfl, at_ 8 _ rfl⟩
    · intro e he
      obtain ⟨i, hi, rfl⟩ := List.mem_map.1 he
      exact (hF i (List.mem_range.1 hi)).1
    · have hb := hz ((len + (m - len)) * 80) (by rw [hxx]; simp [DataW.weights, Try.underlying22, bytesC])
      unfold reachBytes at hb
      unfold Small
      simp only [List.length_map, List.length_range]
      omega
set_option maxRecDepth 100000 in
/-- A list of marks, read as data. -/
theorem marks_open {H : Type} {enc : TypeId × Value → H} {w : World} {base : Nat} {sp : Nat → Bool} {held : Bool} {fuel : Nat} {v : Value} {x : DataW H × List MemPlace}
    (h : DataW.trod enc Try.prog w base sp held fuel 23 [v] = some x) (hz : ∀ n ∈ x.1.weights Try.prog 23, n ≤ reachBytes) : ∃ ms : List Mk, (∃ a k, v = .slice a ms.length k ∧ (0 < ms.length → ∃ g o, a = some ⟨g, o, none⟩ ∧ MAt w g o ms)) ∧ (∀ m ∈ ms, 0 ≤ m.mi ∧ m.mi ≤ 255) ∧ Small ms.length := by
  rcases open_slice Try.underlying23 h with ⟨hcs, _⟩ | ⟨a, len, cp, m, f, D, Pl, hcs, _, hl, hm, hmm, hxx, hx⟩
  · simp at hcs
    subst hcs
    exact ⟨[], ⟨none, 0, rfl, fun h0 => by simp at h0⟩, by simp, by unfold Small; decide⟩
  · simp at hcs
    subst hcs
    rw [Try.cells69''] at hx
    have hnm : len ≤ m := by rw [hmm]; split <;> omega
    have hp : ∀ i, i < len → ∃ e : Mk, (0 ≤ e.mi ∧ e.mi ≤ 255) ∧ ∀ k u, (mvs e)[k]? = some u → w.cell? ((a.add (i * 4)).add k) = some u := fun i hi => by
      obtain ⟨cs', h1, h2⟩ := hx i (by omega)
      obtain ⟨_, hlen, hc⟩ := World.cells?_some h1
      obtain ⟨e, he, hr⟩ := mark_cells hlen h2
      subst he
      refine ⟨e, hr, fun k y hk => ?_⟩
      have hk4 : k < 4 := (List.getElem?_eq_some_iff.1 hk).1
      rw [hc k hk4]
      exact hk
    haveI : Inhabited Mk := ⟨Mk.none⟩
    obtain ⟨F, hF⟩ := choose_lt (α := Mk) hp
    refine ⟨(List.range len).map F, ⟨some a, cp, by simp, fun h0 => ?_⟩, fun m hm => by obtain ⟨i, hi, rfl⟩ := List.mem_map.1 hm; exact (hF i (List.mem_range.1 hi)).1, by
      have hb := hz ((len + (m - len)) * 40) (by rw [hxx]; simp [DataW.weights, Try.underlying23, bytesM])
      unfold reachBytes at hb
      unfold Small
      simp only [List.length_map, List.length_range]
      omega⟩
    have h0' : 0 < len := by simpa using h0
    have c0 := (hF 0 h0').2 0 _ rfl
    have ex : (a.add (0 * 4)).add 0 = a := by simp [Addr.add]
    rw [ex] at c0
    have pl := addr_plain c0
    refine ⟨a.block, a.off, by rw [← pl], fun j e he => ?_⟩
    have hj : j < len := by have := (List.getElem?_eq_some_iff.1 he).1; simpa using this
    obtain rfl : e = F j := by simp [hj] at he; exact he.symm
    have at_ : ∀ k u, (mvs (F j))[k]? = some u → w.cell? ⟨a.block, a.off + j * 4 + k, none⟩ = some u := fun k u hk => by
      have := (hF j hj).2 k u hk
      rw [add_add pl, pl, add_plain, ← Nat.add_assoc] at this
      exact this
    exact ⟨at_ 0 _ rfl, at_ 1 _ rfl, at_ 2 _ rfl, at_ 3 _ rfl⟩
/-- What a book is filled with, where it lies. -/
structure FiA (w : World) (vc vm : Value) (cs : List Ent) (ms : List Mk) : Prop where
  c : ∃ a k, vc = .slice a cs.length k ∧ (0 < cs.length → ∃ g o, a = some ⟨g, o, none⟩ ∧ EsAt w g o cs)
  m : ∃ a k, vm = .slice a ms.length k ∧ (0 < ms.length → ∃ g o, a = some ⟨g, o, none⟩ ∧ MAt w g o ms)
  ps : ∀ e ∈ cs, PsAt w e.v e.ps ∧ Fits e.ps.length ∧ (e.h.with e.ps).wf
  mr : ∀ m ∈ ms, 0 ≤ m.mi ∧ m.mi ≤ 255
  cz : Small cs.length
  mz : Small ms.length
theorem FiA.keep {w w' : World} {vc vm : Value} {cs : List Ent} {ms : List Mk} (h : FiA w vc vm cs ms) (g : w.grownBy w' none) : FiA w' vc vm cs ms := by
  obtain ⟨⟨a, k, e, h1⟩, ⟨c, m, i, h3⟩, h4, h5, h6, h7⟩ := h
  refine ⟨⟨a, k, e, fun h0 => ?_⟩, ⟨c, m, i, fun h0 => ?_⟩, fun e he => ⟨(h4 e he).1.keep g, (h4 e he).2⟩, h5, h6, h7⟩
  · obtain ⟨x, o, e1, e2⟩ := h1 h0; exact ⟨x, o, e1, e2.keep g⟩
  · obtain ⟨x, o, e1, e2⟩ := h3 h0; exact ⟨x, o, e1, e2.keep g⟩
theorem cellsOfFill : Try.prog.cellsOf 25 = 3 := by kernel_rfl
theorem Try.cells22'' : Try.prog.cellsOf 22 = 1 := by kernel_rfl
theorem Try.cells4'' : Try.prog.cellsOf 4 = 1 := by kernel_rfl
theorem Try.cells23'' : Try.prog.cellsOf 23 = 1 := by kernel_rfl
set_option maxRecDepth 100000 in
/-- What a book is filled with, read as data. -/
theorem open_fill {H : Type} {enc : TypeId × Value → H} {w : World} {base : Nat} {sp : Nat → Bool} {held : Bool} {r : Reach} {b0 : Nat} {v : Value} {d : DataW H} {pl : List MemPlace} (hval : Value.okWide Try.prog w r b0 25 v) (hd : DataW.Trod enc Try.prog w base sp held 25 v d pl) (hz : ∀ n ∈ d.weights Try.prog 25, n ≤ reachBytes) : ∃ (vc vm : Value) (op : Bool) (cs : List Ent) (ms : List Mk), v = .agg #[vc, vm, .bool op] ∧ FiA w vc vm cs ms := by
  obtain ⟨cs, rfl, hsz⟩ := okWide_struct Try.underlying25 hval
  rw [cellsOfFill] at hsz
  obtain ⟨fuel, hf⟩ := hd
  obtain ⟨l⟩ := cs
  obtain ⟨c0, c1, c2, rfl⟩ : ∃ c0 c1 c2, l = [c0, c1, c2] := by
    match l, (show l.length = 3 from hsz) with
    | [c0, c1, c2], _ => exact ⟨c0, c1, c2, rfl⟩
  obtain ⟨xs, n, _, hx, _, hlen, hfl⟩ := DataW.trod_struct Try.underlying25 hf
  match xs, hlen with
  | [y0, y1, y2], _ =>
    have t0 : DataW.trod enc Try.prog w base sp held n 22 (([c0, c1, c2].drop 0).take (Try.prog.cellsOf 22)) = some y0 := hfl 0 _ rfl
    have t1 : DataW.trod enc Try.prog w base sp held n 23 (([c0, c1, c2].drop 1).take (Try.prog.cellsOf 23)) = some y1 := hfl 1 _ rfl
    have t2 : DataW.trod enc Try.prog w base sp held n 4 (([c0, c1, c2].drop 2).take (Try.prog.cellsOf 4)) = some y2 := hfl 2 _ rfl
    rw [Try.cells22''] at t0
    rw [Try.cells23''] at t1
    rw [Try.cells4''] at t2
    obtain ⟨cs, hC, hP, hCz⟩ := cards_open (v := c0) t0 (fun n hn => hz n (by
      rw [(Prod.mk.inj hx).1]
      simp only [DataW.weights, Try.underlying25]
      exact DataW.weights_mem_each (j := 0) rfl rfl n hn))
    obtain ⟨ms, hM, hK, hMz⟩ := marks_open (v := c1) t1 (fun n hn => hz n (by
      rw [(Prod.mk.inj hx).1]
      simp only [DataW.weights, Try.underlying25]
      exact DataW.weights_mem_each (j := 1) rfl rfl n hn))
    obtain ⟨op, e2, _⟩ := DataW.trod_bool Try.underlying4 (cs := [c2]) t2
    simp only [List.cons.injEq, and_true] at e2
    subst e2
    exact ⟨c0, c1, op, cs, ms, rfl, hC, hM, hP, hK, hCz, hMz⟩
end Go.Proofs.Ytogpgldbbegniab
namespace Go.Proofs.Ytogpgldbbegniab
open Go.ChangeShapes Go.WideShapes Go.ChangeAt Go.RowKit Go.Deep

theorem Try.own : ownKnob Try.prog.godebug = none := by kernel_rfl
theorem Try.laidOut : laidOutB Try.prog = true := by kernel_rfl
def thv (t : Th) : Value := .agg #[.int .i64 t.card, .int .i64 t.owner, .int .u8 t.place, .int .i64 t.stamp, .int .i64 t.hurt, .int .i64 t.m0, .int .i64 t.m1, .int .i64 t.m2, .int .i64 t.m3, .int .i64 t.done, .bool t.fresh]
def fov (c0 c1 c2 c3 : Int) : Value := .agg #[.int .i64 c0, .int .i64 c1, .int .i64 c2, .int .i64 c3]
theorem inI_of {n : Int} (h : (Lit.int .i64 n).wf = true) : InI n := i64_of h
theorem cOfI : Try.prog.cellsOf 3 = 1 := by kernel_rfl
theorem cOfB : Try.prog.cellsOf 4 = 1 := by kernel_rfl
theorem cOfPl : Try.prog.cellsOf 32 = 1 := by kernel_rfl
theorem cOfSu : Try.prog.cellsOf 26 = 1 := by kernel_rfl
theorem cOfTs : Try.prog.cellsOf 28 = 1 := by kernel_rfl
theorem cOf4 : Try.prog.cellsOf 31 = 4 := by kernel_rfl
theorem cOfFe : Try.prog.cellsOf 30 = 5 := by kernel_rfl
theorem cOfTh : Try.prog.cellsOf 34 = 11 := by kernel_rfl
set_option maxRecDepth 100000 in
theorem four_cells {H : Type} {enc : TypeId × Value → H} {w : World} {base : Nat} {sp : Nat → Bool} {held : Bool} {fuel : Nat} {c0 c1 c2 c3 : Value} {x : DataW H × List MemPlace} (hf : DataW.trod enc Try.prog w base sp held fuel 31 [c0, c1, c2, c3] = some x) : ∃ z0 z1 z2 z3 : Int, c0 = .int .i64 z0 ∧ c1 = .int .i64 z1 ∧ c2 = .int .i64 z2 ∧ c3 = .int .i64 z3 ∧ InI z0 ∧ InI z1 ∧ InI z2 ∧ InI z3 := by
  obtain ⟨y0, y1, y2, y3, m, hx, hy0, hy1, hy2, hy3⟩ := trod_array4 Try.underlying31 cOfI hf
  obtain ⟨x0, e0, _, w0⟩ := DataW.trod_int Try.underlying3 hy0
  obtain ⟨x1, e1, _, w1⟩ := DataW.trod_int Try.underlying3 hy1
  obtain ⟨x2, e2, _, w2⟩ := DataW.trod_int Try.underlying3 hy2
  obtain ⟨x3, e3, _, w3⟩ := DataW.trod_int Try.underlying3 hy3
  simp only [List.cons.injEq, and_true] at e0 e1 e2 e3
  exact ⟨x0, x1, x2, x3, e0, e1, e2, e3, inI_of w0, inI_of w1, inI_of w2, inI_of w3⟩
set_option maxRecDepth 100000 in
theorem open_four {H : Type} {enc : TypeId × Value → H} {w : World} {base : Nat} {sp : Nat → Bool} {held : Bool} {r : Reach} {b0 : Nat} {v : Value} {d : DataW H} {pl : List MemPlace} (hval : Value.okWide Try.prog w r b0 31 v) (hd : DataW.Trod enc Try.prog w base sp held 31 v d pl) : ∃ c0 c1 c2 c3 : Int, v = fov c0 c1 c2 c3 ∧ InI c0 ∧ InI c1 ∧ InI c2 ∧ InI c3 := by
  obtain ⟨cs, rfl, hsz, _⟩ : ∃ cs, v = .agg cs ∧ cs.size = Try.prog.cellsOf 31 ∧ Row.okWide Try.prog w r b0 31 cs := by
    simpa [Value.okWide, Try.underlying31] using hval
  rw [cOf4] at hsz
  obtain ⟨fuel, hf⟩ := hd
  obtain ⟨l⟩ := cs
  obtain ⟨c0, c1, c2, c3, rfl⟩ : ∃ c0 c1 c2 c3, l = [c0, c1, c2, c3] := by
    match l, (show l.length = 4 from hsz) with
    | [c0, c1, c2, c3], _ => exact ⟨c0, c1, c2, c3, rfl⟩
  obtain ⟨z0, z1, z2, z3, rfl, rfl, rfl, rfl, h⟩ := four_cells hf
  exact ⟨z0, z1, z2, z3, rfl, h⟩
set_option maxRecDepth 100000 in
theorem open_feature {H : Type} {enc : TypeId × Value → H} {w : World} {base : Nat} {sp : Nat → Bool} {held : Bool} {r : Reach} {b0 : Nat} {v : Value} {d : DataW H} {pl : List MemPlace} (hval : Value.okWide Try.prog w r b0 30 v) (hd : DataW.Trod enc Try.prog w base sp held 30 v d pl) : ∃ f : Fe, v = fev f ∧ InI f.po ∧ InI f.he := by
  obtain ⟨cs, rfl, hsz⟩ := okWide_struct Try.underlying30 hval
  rw [cOfFe] at hsz
  obtain ⟨fuel, hf⟩ := hd
  obtain ⟨l⟩ := cs
  obtain ⟨c0, c1, c2, c3, c4, rfl⟩ : ∃ c0 c1 c2 c3 c4, l = [c0, c1, c2, c3, c4] := by
    match l, (show l.length = 5 from hsz) with
    | [c0, c1, c2, c3, c4], _ => exact ⟨c0, c1, c2, c3, c4, rfl⟩
  obtain ⟨xs, n, _, hx, _, hlen, hfl⟩ := DataW.trod_struct Try.underlying30 hf
  match xs, hlen with
  | [y0, y1, y2, y3, y4], _ =>
    have t0 : DataW.trod enc Try.prog w base sp held n 3 (([c0, c1, c2, c3, c4].drop 0).take (Try.prog.cellsOf 3)) = some y0 := hfl 0 _ rfl
    rw [cOfI] at t0
    have t1 : DataW.trod enc Try.prog w base sp held n 26 (([c0, c1, c2, c3, c4].drop 1).take (Try.prog.cellsOf 26)) = some y1 := hfl 1 _ rfl
    rw [cOfSu] at t1
    have t2 : DataW.trod enc Try.prog w base sp held n 28 (([c0, c1, c2, c3, c4].drop 2).take (Try.prog.cellsOf 28)) = some y2 := hfl 2 _ rfl
    rw [cOfTs] at t2
    have t3 : DataW.trod enc Try.prog w base sp held n 3 (([c0, c1, c2, c3, c4].drop 3).take (Try.prog.cellsOf 3)) = some y3 := hfl 3 _ rfl
    rw [cOfI] at t3
    have t4 : DataW.trod enc Try.prog w base sp held n 3 (([c0, c1, c2, c3, c4].drop 4).take (Try.prog.cellsOf 3)) = some y4 := hfl 4 _ rfl
    rw [cOfI] at t4
    obtain ⟨z0, e0, _, w0⟩ := DataW.trod_int Try.underlying3 (cs := [c0]) t0
    simp only [List.cons.injEq, and_true] at e0
    subst e0
    obtain ⟨z1, e1, _, w1⟩ := DataW.trod_int Try.underlying26 (cs := [c1]) t1
    simp only [List.cons.injEq, and_true] at e1
    subst e1
    obtain ⟨z2, e2, _, w2⟩ := DataW.trod_int Try.underlying28 (cs := [c2]) t2
    simp only [List.cons.injEq, and_true] at e2
    subst e2
    obtain ⟨z3, e3, _, w3⟩ := DataW.trod_int Try.underlying3 (cs := [c3]) t3
    simp only [List.cons.injEq, and_true] at e3
    subst e3
    obtain ⟨z4, e4, _, w4⟩ := DataW.trod_int Try.underlying3 (cs := [c4]) t4
    simp only [List.cons.injEq, and_true] at e4
    subst e4
    exact ⟨⟨z0, z1, z2, z3, z4⟩, rfl, inI_of w3, inI_of w4⟩
set_option maxRecDepth 100000 in
theorem open_thing {H : Type} {enc : TypeId × Value → H} {w : World} {base : Nat} {sp : Nat → Bool} {held : Bool} {r : Reach} {b0 : Nat} {v : Value} {d : DataW H} {pl : List MemPlace} (hval : Value.okWide Try.prog w r b0 34 v) (hd : DataW.Trod enc Try.prog w base sp held 34 v d pl) : ∃ t : Th, v = thv t := by
  obtain ⟨cs, rfl, hsz⟩ := okWide_struct Try.underlying34 hval
  rw [cOfTh] at hsz
  obtain ⟨fuel, hf⟩ := hd
  obtain ⟨l⟩ := cs
  obtain ⟨c0, c1, c2, c3, c4, c5, c6, c7, c8, c9, c10, rfl⟩ : ∃ c0 c1 c2 c3 c4 c5 c6 c7 c8 c9 c10, l = [c0, c1, c2, c3, c4, c5, c6, c7, c8, c9, c10] := by
    match l, (show l.length = 11 from hsz) with
    | [c0, c1, c2, c3, c4, c5, c6, c7, c8, c9, c10], _ => exact ⟨c0, c1, c2, c3, c4, c5, c6, c7, c8, c9, c10, rfl⟩
  obtain ⟨xs, n, _, hx, _, hlen, hfl⟩ := DataW.trod_struct Try.underlying34 hf
  match xs, hlen with
  | [y0, y1, y2, y3, y4, y5, y6, y7], _ =>
    have t0 : DataW.trod enc Try.prog w base sp held n 3 (([c0, c1, c2, c3, c4, c5, c6, c7, c8, c9, c10].drop 0).take (Try.prog.cellsOf 3)) = some y0 := hfl 0 _ rfl
    rw [cOfI] at t0
    have t1 : DataW.trod enc Try.prog w base sp held n 3 (([c0, c1, c2, c3, c4, c5, c6, c7, c8, c9, c10].drop 1).take (Try.prog.cellsOf 3)) = some y1 := hfl 1 _ rfl
    rw [cOfI] at t1
    have t2 : DataW.trod enc Try.prog w base sp held n 32 (([c0, c1, c2, c3, c4, c5, c6, c7, c8, c9, c10].drop 2).take (Try.prog.cellsOf 32)) = some y2 := hfl 2 _ rfl
    rw [cOfPl] at t2
    have t3 : DataW.trod enc Try.prog w base sp held n 3 (([c0, c1, c2, c3, c4, c5, c6, c7, c8, c9, c10].drop 3).take (Try.prog.cellsOf 3)) = some y3 := hfl 3 _ rfl
    rw [cOfI] at t3
    have t4 : DataW.trod enc Try.prog w base sp held n 3 (([c0, c1, c2, c3, c4, c5, c6, c7, c8, c9, c10].drop 4).take (Try.prog.cellsOf 3)) = some y4 := hfl 4 _ rfl
    rw [cOfI] at t4
    have t5 : DataW.trod enc Try.prog w base sp held n 31 (([c0, c1, c2, c3, c4, c5, c6, c7, c8, c9, c10].drop 5).take (Try.prog.cellsOf 31)) = some y5 := hfl 5 _ rfl
    rw [cOf4] at t5
    have t6 : DataW.trod enc Try.prog w base sp held n 3 (([c0, c1, c2, c3, c4, c5, c6, c7, c8, c9, c10].drop 9).take (Try.prog.cellsOf 3)) = some y6 := hfl 6 _ rfl
    rw [cOfI] at t6
    have t7 : DataW.trod enc Try.prog w base sp held n 4 (([c0, c1, c2, c3, c4, c5, c6, c7, c8, c9, c10].drop 10).take (Try.prog.cellsOf 4)) = some y7 := hfl 7 _ rfl
    rw [cOfB] at t7
    obtain ⟨z0, e0, _, w0⟩ := DataW.trod_int Try.underlying3 (cs := [c0]) t0
    simp only [List.cons.injEq, and_true] at e0
    subst e0
    obtain ⟨z1, e1, _, w1⟩ := DataW.trod_int Try.underlying3 (cs := [c1]) t1
    simp only [List.cons.injEq, and_true] at e1
    subst e1
    obtain ⟨z2, e2, _, w2⟩ := DataW.trod_int Try.underlying32 (cs := [c2]) t2
    simp only [List.cons.injEq, and_true] at e2
    subst e2
    obtain ⟨z3, e3, _, w3⟩ := DataW.trod_int Try.underlying3 (cs := [c3]) t3
    simp only [List.cons.injEq, and_true] at e3
    subst e3
    obtain ⟨z4, e4, _, w4⟩ := DataW.trod_int Try.underlying3 (cs := [c4]) t4
    simp only [List.cons.injEq, and_true] at e4
    subst e4
    obtain ⟨z5, z6, z7, z8, rfl, rfl, rfl, rfl, w5, w6, w7, w8⟩ := four_cells (c0 := c5) (c1 := c6) (c2 := c7) (c3 := c8) t5
    obtain ⟨z9, e9, _, w9⟩ := DataW.trod_int Try.underlying3 (cs := [c9]) t6
    simp only [List.cons.injEq, and_true] at e9
    subst e9
    obtain ⟨z10, e10, _⟩ := DataW.trod_bool Try.underlying4 (cs := [c10]) t7
    simp only [List.cons.injEq, and_true] at e10
    subst e10
    exact ⟨⟨z0, z1, z2, z3, z4, z5, z6, z7, z8, z9, z10⟩, rfl⟩
end Go.Proofs.Ytogpgldbbegniab
