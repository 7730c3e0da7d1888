/-
  A list of calls, read as data: each call's cells, and the numbers that it hands over.
-/
import Derived.Test.YtogpgldbbegniaaZpP
import Derived.Test.YtogpgldbbegniaaPlB
import Derived.Laws.IdiomArrays
namespace Go.Proofs.Ytogpgldbbegniaa
open Go.ChangeShapes Go.WideShapes Go.ChangeAt Go.RowKit Go.Deep

def opcs (o : Opc) (v : Value) : List Value := [.int .i64 o.call, .int .i64 o.n, .int .u8 o.tp, .int .i64 o.own, .int .i64 o.t.card, .int .i64 o.t.owner, .int .u8 o.t.place, .int .i64 o.t.stamp, .int .i64 o.t.hurt, .int .i64 o.t.m0, .int .i64 o.t.m1, .int .i64 o.t.m2, .int .i64 o.t.m3, .int .i64 o.t.done, .bool o.t.fresh, v]
theorem zI : Try.prog.cellsOf 3 = 1 := by kernel_rfl
theorem zB : Try.prog.cellsOf 4 = 1 := by kernel_rfl
theorem zPl : Try.prog.cellsOf 35 = 1 := by kernel_rfl
theorem zF : Try.prog.cellsOf 36 = 4 := by kernel_rfl
theorem zTh : Try.prog.cellsOf 38 = 11 := by kernel_rfl
theorem zSI : Try.prog.cellsOf 22 = 1 := by kernel_rfl
theorem zOp : Try.prog.cellsOf 40 = 16 := by kernel_rfl
theorem bytesOp : Try.prog.bytesOf 40 = 144 := by kernel_rfl
set_option maxRecDepth 100000 in
theorem four_q {H : Type} {enc : TypeId × Value → H} {w : World} {base : Nat} {held : Bool} {fuel : Nat} {c0 c1 c2 c3 : Value} {x : DataW H × List MemPlace} (hf : DataW.trod enc Try.prog w base (fun _ => true) held fuel 36 [c0, c1, c2, c3] = some x) : ∃ z0 z1 z2 z3 : Int, c0 = .int .i64 z0 ∧ c1 = .int .i64 z1 ∧ c2 = .int .i64 z2 ∧ c3 = .int .i64 z3 := by
  obtain ⟨y0, y1, y2, y3, m, hx, hy0, hy1, hy2, hy3⟩ := trod_array4 Try.underlying36 zI hf
  obtain ⟨x0, e0, _, w0⟩ := DataW.trod_int Try.underlying3 hy0
  obtain ⟨x1, e1, _, w1⟩ := DataW.trod_int Try.underlying3 hy1
  obtain ⟨x2, e2, _, w2⟩ := DataW.trod_int Try.underlying3 hy2
  obtain ⟨x3, e3, _, w3⟩ := DataW.trod_int Try.underlying3 hy3
  simp only [List.cons.injEq, and_true] at e0 e1 e2 e3
  exact ⟨x0, x1, x2, x3, e0, e1, e2, e3⟩
set_option maxRecDepth 100000 in
theorem thing_q {H : Type} {enc : TypeId × Value → H} {w : World} {base : Nat} {held : Bool} {fuel : Nat} {l : List Value} {x : DataW H × List MemPlace} (hsz : l.length = 11) (hf : DataW.trod enc Try.prog w base (fun _ => true) held fuel 38 l = some x) : ∃ t : Th, l = thc t := by
  obtain ⟨c0, c1, c2, c3, c4, c5, c6, c7, c8, c9, c10, rfl⟩ : ∃ c0 c1 c2 c3 c4 c5 c6 c7 c8 c9 c10, l = [c0, c1, c2, c3, c4, c5, c6, c7, c8, c9, c10] := by
    match l, hsz with
    | [c0, c1, c2, c3, c4, c5, c6, c7, c8, c9, c10], _ => exact ⟨c0, c1, c2, c3, c4, c5, c6, c7, c8, c9, c10, rfl⟩
  obtain ⟨xs, n, _, hx, _, hlen, hfl⟩ := DataW.trod_struct Try.underlying38 hf
  match xs, hlen with
  | [y0, y1, y2, y3, y4, y5, y6, y7], _ =>
    have t0 : DataW.trod enc Try.prog w base (fun _ => true) held n 3 (([c0, c1, c2, c3, c4, c5, c6, c7, c8, c9, c10].drop 0).take (Try.prog.cellsOf 3)) = some y0 := hfl 0 _ rfl
    rw [zI] at t0
    have t1 : DataW.trod enc Try.prog w base (fun _ => true) held n 3 (([c0, c1, c2, c3, c4, c5, c6, c7, c8, c9, c10].drop 1).take (Try.prog.cellsOf 3)) = some y1 := hfl 1 _ rfl
    rw [zI] at t1
    have t2 : DataW.trod enc Try.prog w base (fun _ => true) held n 35 (([c0, c1, c2, c3, c4, c5, c6, c7, c8, c9, c10].drop 2).take (Try.prog.cellsOf 35)) = some y2 := hfl 2 _ rfl
    rw [zPl] at t2
    have t3 : DataW.trod enc Try.prog w base (fun _ => true) held n 3 (([c0, c1, c2, c3, c4, c5, c6, c7, c8, c9, c10].drop 3).take (Try.prog.cellsOf 3)) = some y3 := hfl 3 _ rfl
    rw [zI] at t3
    have t4 : DataW.trod enc Try.prog w base (fun _ => true) held n 3 (([c0, c1, c2, c3, c4, c5, c6, c7, c8, c9, c10].drop 4).take (Try.prog.cellsOf 3)) = some y4 := hfl 4 _ rfl
    rw [zI] at t4
    have t5 : DataW.trod enc Try.prog w base (fun _ => true) held n 36 (([c0, c1, c2, c3, c4, c5, c6, c7, c8, c9, c10].drop 5).take (Try.prog.cellsOf 36)) = some y5 := hfl 5 _ rfl
    rw [zF] at t5
    have t6 : DataW.trod enc Try.prog w base (fun _ => true) held n 3 (([c0, c1, c2, c3, c4, c5, c6, c7, c8, c9, c10].drop 9).take (Try.prog.cellsOf 3)) = some y6 := hfl 6 _ rfl
    rw [zI] at t6
    have t7 : DataW.trod enc Try.prog w base (fun _ => true) held n 4 (([c0, c1, c2, c3, c4, c5, c6, c7, c8, c9, c10].drop 10).take (Try.prog.cellsOf 4)) = some y7 := hfl 7 _ rfl
    rw [zB] at t7
    obtain ⟨z0, e0, _, w0⟩ := DataW.trod_int Try.underlying3 (cs := [c0]) t0
    simp only [List.cons.injEq, and_true] at e0
    subst e0
    obtain ⟨z1, e1, _, w1⟩ := DataW.trod_int Try.underlying3 (cs := [c1]) t1
    simp only [List.cons.injEq, and_true] at e1
    subst e1
    obtain ⟨z2, e2, _, w2⟩ := DataW.trod_int Try.underlying35 (cs := [c2]) t2
    simp only [List.cons.injEq, and_true] at e2
    subst e2
    obtain ⟨z3, e3, _, w3⟩ := DataW.trod_int Try.underlying3 (cs := [c3]) t3
    simp only [List.cons.injEq, and_true] at e3
    subst e3
    obtain ⟨z4, e4, _, w4⟩ := DataW.trod_int Try.underlying3 (cs := [c4]) t4
    simp only [List.cons.injEq, and_true] at e4
    subst e4
    obtain ⟨z5, z6, z7, z8, rfl, rfl, rfl, rfl⟩ := four_q (c0 := c5) (c1 := c6) (c2 := c7) (c3 := c8) t5
    obtain ⟨z9, e9, _, w9⟩ := DataW.trod_int Try.underlying3 (cs := [c9]) t6
    simp only [List.cons.injEq, and_true] at e9
    subst e9
    obtain ⟨z10, e10, _⟩ := DataW.trod_bool Try.underlying4 (cs := [c10]) t7
    simp only [List.cons.injEq, and_true] at e10
    subst e10
    exact ⟨⟨z0, z1, z2, z3, z4, z5, z6, z7, z8, z9, z10⟩, rfl⟩
set_option maxRecDepth 100000 in
theorem op_q {H : Type} {enc : TypeId × Value → H} {w : World} {base : Nat} {held : Bool} {fuel : Nat} {l : List Value} {x : DataW H × List MemPlace} (hsz : l.length = 16) (hf : DataW.trod enc Try.prog w base (fun _ => true) held fuel 40 l = some x) (hz : ∀ m ∈ x.1.weights Try.prog 40, m ≤ reachBytes) : ∃ (q : Opc) (v : Value), l = opcs q v ∧ IntsB w v q.l ∧ (q.l.length + 2) * 8 ≤ 140737488355328 := by
  obtain ⟨c0, c1, c2, c3, c4, c5, c6, c7, c8, c9, c10, c11, c12, c13, c14, c15, rfl⟩ : ∃ c0 c1 c2 c3 c4 c5 c6 c7 c8 c9 c10 c11 c12 c13 c14 c15, l = [c0, c1, c2, c3, c4, c5, c6, c7, c8, c9, c10, c11, c12, c13, c14, c15] := by
    match l, hsz with
    | [c0, c1, c2, c3, c4, c5, c6, c7, c8, c9, c10, c11, c12, c13, c14, c15], _ => exact ⟨c0, c1, c2, c3, c4, c5, c6, c7, c8, c9, c10, c11, c12, c13, c14, c15, rfl⟩
  obtain ⟨xs, n, _, hx, _, hlen, hfl⟩ := DataW.trod_struct Try.underlying40 hf
  match xs, hlen with
  | [y0, y1, y2, y3, y4, y5], _ =>
    have t0 : DataW.trod enc Try.prog w base (fun _ => true) held n 3 (([c0, c1, c2, c3, c4, c5, c6, c7, c8, c9, c10, c11, c12, c13, c14, c15].drop 0).take (Try.prog.cellsOf 3)) = some y0 := hfl 0 _ rfl
    rw [zI] at t0
    have t1 : DataW.trod enc Try.prog w base (fun _ => true) held n 3 (([c0, c1, c2, c3, c4, c5, c6, c7, c8, c9, c10, c11, c12, c13, c14, c15].drop 1).take (Try.prog.cellsOf 3)) = some y1 := hfl 1 _ rfl
    rw [zI] at t1
    have t2 : DataW.trod enc Try.prog w base (fun _ => true) held n 35 (([c0, c1, c2, c3, c4, c5, c6, c7, c8, c9, c10, c11, c12, c13, c14, c15].drop 2).take (Try.prog.cellsOf 35)) = some y2 := hfl 2 _ rfl
    rw [zPl] at t2
    have t3 : DataW.trod enc Try.prog w base (fun _ => true) held n 3 (([c0, c1, c2, c3, c4, c5, c6, c7, c8, c9, c10, c11, c12, c13, c14, c15].drop 3).take (Try.prog.cellsOf 3)) = some y3 := hfl 3 _ rfl
    rw [zI] at t3
    have t4 : DataW.trod enc Try.prog w base (fun _ => true) held n 38 (([c0, c1, c2, c3, c4, c5, c6, c7, c8, c9, c10, c11, c12, c13, c14, c15].drop 4).take (Try.prog.cellsOf 38)) = some y4 := hfl 4 _ rfl
    rw [zTh] at t4
    have t5 : DataW.trod enc Try.prog w base (fun _ => true) held n 22 (([c0, c1, c2, c3, c4, c5, c6, c7, c8, c9, c10, c11, c12, c13, c14, c15].drop 15).take (Try.prog.cellsOf 22)) = some y5 := hfl 5 _ rfl
    rw [zSI] at t5
    obtain ⟨z0, e0, _, w0⟩ := DataW.trod_int Try.underlying3 (cs := [c0]) t0
    simp only [List.cons.injEq, and_true] at e0
    subst e0
    obtain ⟨z1, e1, _, w1⟩ := DataW.trod_int Try.underlying3 (cs := [c1]) t1
    simp only [List.cons.injEq, and_true] at e1
    subst e1
    obtain ⟨z2, e2, _, w2⟩ := DataW.trod_int Try.underlying35 (cs := [c2]) t2
    simp only [List.cons.injEq, and_true] at e2
    subst e2
    obtain ⟨z3, e3, _, w3⟩ := DataW.trod_int Try.underlying3 (cs := [c3]) t3
    simp only [List.cons.injEq, and_true] at e3
    subst e3
    obtain ⟨th, eth⟩ := thing_q (l := [c4, c5, c6, c7, c8, c9, c10, c11, c12, c13, c14]) rfl t4
    simp only [thc, List.cons.injEq, and_true] at eth
    obtain ⟨rfl, rfl, rfl, rfl, rfl, rfl, rfl, rfl, rfl, rfl, rfl⟩ := eth
    obtain ⟨il, hil, hib⟩ := numsB_open (v := c15) t5 (fun m hm => hz m (by
      rw [(Prod.mk.inj hx).1]
      simp only [DataW.weights, Try.underlying40]
      exact DataW.weights_mem_each (j := 5) rfl rfl m hm))
    exact ⟨⟨z0, z1, z2, z3, th, il⟩, c15, rfl, hil, hib⟩
/-- A call, and the slice of its numbers. -/
structure Oq where
  q : Opc
  v : Value
/-- Where a list of calls lies. -/
def OpsAt (w : World) (v : Value) (os : List Oq) : Prop := (∃ a k, v = .slice a os.length k ∧ (0 < os.length → ∃ g off, a = some ⟨g, off, none⟩ ∧ ∀ (j : Nat) o, os[j]? = some o → w.rangeAt g (off + j * 16) (opcs o.q o.v))) ∧ ∀ o ∈ os, IntsB w o.v o.q.l ∧ (o.q.l.length + 2) * 8 ≤ 140737488355328
theorem weights_inQ {H : Type} {P : Program} {e : TypeId} {n : Nat} : ∀ {l : List (DataW H)} {d : DataW H}, d ∈ l → n ∈ d.weights P e → n ∈ DataW.weightsAll P e l
  | x :: r, d, hd, hn => by
    simp only [DataW.weightsAll, List.mem_append]
    rcases List.mem_cons.1 hd with rfl | hd
    · exact Or.inl hn
    · exact Or.inr (weights_inQ hd hn)
set_option maxRecDepth 100000 in
/-- A list of calls, read as data. -/
theorem ops_open {H : Type} {enc : TypeId × Value → H} {w : World} {base : Nat} {held : Bool} {fuel : Nat} {v : Value} {x : DataW H × List MemPlace} (h : DataW.trod enc Try.prog w base (fun _ => true) held fuel 23 [v] = some x) (hz : ∀ n ∈ x.1.weights Try.prog 23, n ≤ reachBytes) : ∃ os : List Oq, OpsAt w v os ∧ os.length ≤ 140737488355328 := by
  rcases open_slice Try.underlying23 h with ⟨hcs, _⟩ | ⟨a, len, cp, m, f, D, Pl, hcs, _, hl, hm, hmm, hxx, hx⟩
  · simp at hcs
    subst hcs
    exact ⟨[], ⟨⟨none, 0, rfl, fun h0 => by simp at h0⟩, by simp⟩, by simp⟩
  · simp at hcs
    subst hcs
    rw [zOp] at hx
    have hnm : len ≤ m := by rw [hmm]; split <;> omega
    have hp : ∀ i, i < len → ∃ o : Oq, (IntsB w o.v o.q.l ∧ (o.q.l.length + 2) * 8 ≤ 140737488355328) ∧ ∀ k u, (opcs o.q o.v)[k]? = some u → w.cell? ((a.add (i * 16)).add k) = some u := fun i hi => by
      obtain ⟨cs', h1, h2⟩ := hx i (by omega)
      obtain ⟨_, hlen, hc⟩ := World.cells?_some h1
      obtain ⟨q, u, e, p1, p2⟩ := op_q hlen h2 (fun n hn => hz n (by
        rw [hxx]
        simp only [DataW.weights, Try.underlying23]
        exact List.mem_cons_of_mem _ (List.mem_append_left _ (weights_inQ (List.mem_map.2 ⟨i, List.mem_range.2 hi, rfl⟩) hn))))
      subst e
      refine ⟨⟨q, u⟩, ⟨p1, p2⟩, fun k y hk => ?_⟩
      have hk16 : k < 16 := (List.getElem?_eq_some_iff.1 hk).1
      rw [hc k hk16]
      exact hk
    haveI : Inhabited Oq := ⟨⟨⟨0, 0, 0, 0, Th.none, []⟩, .bool false⟩⟩
    obtain ⟨F, hF⟩ := choose_lt (α := Oq) hp
    refine ⟨(List.range len).map F, ⟨⟨some a, cp, by simp, fun h0 => ?_⟩, ?_⟩, ?_⟩
    · have h0' : 0 < len := by simpa using h0
      have c0 := (hF 0 h0').2 0 _ rfl
      have ex : (a.add (0 * 16)).add 0 = a := by simp [Addr.add]
      rw [ex] at c0
      have pl := addr_plain c0
      refine ⟨a.block, a.off, by rw [← pl], fun j o ho k u hk => ?_⟩
      have hj : j < len := by have := (List.getElem?_eq_some_iff.1 ho).1; simpa using this
      obtain rfl : o = F j := by simp [hj] at ho; exact ho.symm
      have := (hF j hj).2 k u hk
      rw [pl, add_plain, add_plain] at this
      exact this
    · intro o ho
      obtain ⟨i, hi, rfl⟩ := List.mem_map.1 ho
      exact (hF i (List.mem_range.1 hi)).1
    · have hb := hz ((len + (m - len)) * 144) (by rw [hxx]; simp [DataW.weights, Try.underlying23, bytesOp])
      unfold reachBytes at hb
      simp only [List.length_map, List.length_range]
      omega
end Go.Proofs.Ytogpgldbbegniaa
