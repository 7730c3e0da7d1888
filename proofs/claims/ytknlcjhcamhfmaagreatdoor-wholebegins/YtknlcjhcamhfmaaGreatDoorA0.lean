/-
  A card that was handed in, read as data: its fields, and where its parts lie.
  Memory, as the proofs of this seat see it: what reading and writing one cell of a block does; that a call touches nothing that was there.
  Memory of a log of package start, as the proofs of this seat see it: one block of 259 cells (256 notes, the count, closed, made).
  What the functions of package start answer, one contract a function: New, Note, Close, Closed, over the log's block of YtknlcjhcamhfmaaGreatDoorMem.
-/
import Derived.Test.YtknlcjhcamhfmaaGreatDoorJ13
import Derived.ProofKit
import Derived.OpenShut
import Derived.ChangeOld
import Derived.Deep.Slices
import Derived.SizedLaws
import Derived.Test.YtknlcjhcamhfmaaGreatDoorRows
import Derived.WalkKit
import Derived.WalkSpells
import Derived.WalkLawsBesides
import Derived.Deep.RegionHeld3
import Derived.BigQuiet
namespace Go.Proofs.YtknlcjhcamhfmaaGreatDoor
open Go.ChangeShapes Go.WideShapes Go.ChangeAt Go.RowKit Go.Deep

theorem Tryz.cells3' : Tryz.prog.cellsOf 3 = 1 := by kernel_rfl
theorem Tryz.cells4' : Tryz.prog.cellsOf 4 = 1 := by kernel_rfl
theorem Tryz.cells9' : Tryz.prog.cellsOf 9 = 1 := by kernel_rfl
theorem Tryz.cells56' : Tryz.prog.cellsOf 56 = 9 := by kernel_rfl
theorem Tryz.cells51' : Tryz.prog.cellsOf 51 = 1 := by kernel_rfl
theorem Tryz.cells58' : Tryz.prog.cellsOf 58 = 1 := by kernel_rfl
theorem Tryz.cells115' : Tryz.prog.cellsOf 115 = 8 := by kernel_rfl
theorem Tryz.cells50' : Tryz.prog.cellsOf 50 = 1 := by kernel_rfl
theorem Tryz.cells53' : Tryz.prog.cellsOf 53 = 1 := by kernel_rfl
theorem Tryz.cells57' : Tryz.prog.cellsOf 57 = 1 := by kernel_rfl
theorem Tryz.cells112' : Tryz.prog.cellsOf 112 = 1 := by kernel_rfl
theorem Tryz.cells111' : Tryz.prog.cellsOf 111 = 1 := by kernel_rfl
theorem Tryz.cells113' : Tryz.prog.cellsOf 113 = 1 := by kernel_rfl
theorem Tryz.cells54' : Tryz.prog.cellsOf 54 = 1 := by kernel_rfl
theorem Tryz.bytes115' : Tryz.prog.bytesOf 115 = 40 := by kernel_rfl
/-- Each field is a number of its type. -/
structure Pwf (p : Pt) : Prop where
  wn : (Lit.int .u8 p.wn).wf = true
  vb : (Lit.int .u8 p.vb).wf = true
  wm : (Lit.int .u8 p.wm).wf = true
  ct : (Lit.int .i64 p.ct).wf = true
  su : (Lit.int .u8 p.su).wf = true
  tr : (Lit.int .u8 p.tr).wf = true
  mr : (Lit.int .u8 p.mr).wf = true
  nm : p.nm.size ≤ maxLen
structure Hwf (h : Hd) : Prop where
  nm : h.nm.size ≤ maxLen
  su : (Lit.int .u8 h.su).wf = true
  kd : (Lit.int .u8 h.kd).wf = true
  co : (Lit.int .i64 h.co).wf = true
  po : (Lit.int .i64 h.po).wf = true
  he : (Lit.int .i64 h.he).wf = true
  tr : (Lit.int .u16 h.tr).wf = true
set_option maxRecDepth 100000 in
/-- One part, read as data: eight cells. -/
theorem part_open {H : Type} {enc : TypeId × Value → H} {w : World} {base : Nat} {sp : Nat → Bool} {held : Bool} {n : Nat} {a : Addr} {cs : List Value} {x : DataW H × List MemPlace}
    (h : w.cells? base a 8 = some cs) (ht : DataW.trod enc Tryz.prog w base sp held n 115 cs = some x) : ∃ p : Pt, Pwf p ∧ ∀ k u, (pvs p)[k]? = some u → w.cell? (a.add k) = some u := by
  obtain ⟨xs, m, _, hx, _, hn, hfl⟩ := DataW.trod_struct Tryz.underlying115 ht
  obtain ⟨_, hl, hc⟩ := World.cells?_some h
  match cs, hl, xs, hn with
  | [c0, c1, c2, c3, c4, c5, c6, c7], _, [y0, y1, y2, y3, y4, y5, y6, y7], _ =>
    have t0 : DataW.trod enc Tryz.prog w base sp held m 111 (([c0, c1, c2, c3, c4, c5, c6, c7].drop 0).take (Tryz.prog.cellsOf 111)) = some y0 := hfl 0 _ rfl
    rw [Tryz.cells111'] at t0
    change DataW.trod enc Tryz.prog w base sp held m 111 [c0] = some y0 at t0
    obtain ⟨z0, e0, hy0, w0⟩ := DataW.trod_int Tryz.underlying111 t0
    have t1 : DataW.trod enc Tryz.prog w base sp held m 112 (([c0, c1, c2, c3, c4, c5, c6, c7].drop 1).take (Tryz.prog.cellsOf 112)) = some y1 := hfl 1 _ rfl
    rw [Tryz.cells112'] at t1
    change DataW.trod enc Tryz.prog w base sp held m 112 [c1] = some y1 at t1
    obtain ⟨z1, e1, hy1, w1⟩ := DataW.trod_int Tryz.underlying112 t1
    have t2 : DataW.trod enc Tryz.prog w base sp held m 113 (([c0, c1, c2, c3, c4, c5, c6, c7].drop 2).take (Tryz.prog.cellsOf 113)) = some y2 := hfl 2 _ rfl
    rw [Tryz.cells113'] at t2
    change DataW.trod enc Tryz.prog w base sp held m 113 [c2] = some y2 at t2
    obtain ⟨z2, e2, hy2, w2⟩ := DataW.trod_int Tryz.underlying113 t2
    have t3 : DataW.trod enc Tryz.prog w base sp held m 3 (([c0, c1, c2, c3, c4, c5, c6, c7].drop 3).take (Tryz.prog.cellsOf 3)) = some y3 := hfl 3 _ rfl
    rw [Tryz.cells3'] at t3
    change DataW.trod enc Tryz.prog w base sp held m 3 [c3] = some y3 at t3
    obtain ⟨z3, e3, hy3, w3⟩ := DataW.trod_int Tryz.underlying3 t3
    have t4 : DataW.trod enc Tryz.prog w base sp held m 50 (([c0, c1, c2, c3, c4, c5, c6, c7].drop 4).take (Tryz.prog.cellsOf 50)) = some y4 := hfl 4 _ rfl
    rw [Tryz.cells50'] at t4
    change DataW.trod enc Tryz.prog w base sp held m 50 [c4] = some y4 at t4
    obtain ⟨z4, e4, hy4, w4⟩ := DataW.trod_int Tryz.underlying50 t4
    have t5 : DataW.trod enc Tryz.prog w base sp held m 57 (([c0, c1, c2, c3, c4, c5, c6, c7].drop 5).take (Tryz.prog.cellsOf 57)) = some y5 := hfl 5 _ rfl
    rw [Tryz.cells57'] at t5
    change DataW.trod enc Tryz.prog w base sp held m 57 [c5] = some y5 at t5
    obtain ⟨z5, e5, hy5, w5⟩ := DataW.trod_int Tryz.underlying57 t5
    have t6 : DataW.trod enc Tryz.prog w base sp held m 58 (([c0, c1, c2, c3, c4, c5, c6, c7].drop 6).take (Tryz.prog.cellsOf 58)) = some y6 := hfl 6 _ rfl
    rw [Tryz.cells58'] at t6
    change DataW.trod enc Tryz.prog w base sp held m 58 [c6] = some y6 at t6
    obtain ⟨z6, e6, hy6, w6⟩ := DataW.trod_int Tryz.underlying58 t6
    have t7 : DataW.trod enc Tryz.prog w base sp held m 9 (([c0, c1, c2, c3, c4, c5, c6, c7].drop 7).take (Tryz.prog.cellsOf 9)) = some y7 := hfl 7 _ rfl
    rw [Tryz.cells9'] at t7
    change DataW.trod enc Tryz.prog w base sp held m 9 [c7] = some y7 at t7
    obtain ⟨z7, e7, hy7, w7⟩ := DataW.trod_string Tryz.underlying9 t7
    simp only [List.cons.injEq, and_true] at e0 e1 e2 e3 e4 e5 e6 e7
    subst e0 e1 e2 e3 e4 e5 e6 e7
    refine ⟨⟨z0, z1, z2, z3, z4, z5, z6, z7⟩, ⟨w0, w1, w2, w3, w4, w5, w6, w7⟩, fun k u hk => ?_⟩
    have hk8 : k < 8 := (List.getElem?_eq_some_iff.1 hk).1
    have := hc k hk8
    rw [this]
    rw [← hk]
    rcases (show k = 0 ∨ k = 1 ∨ k = 2 ∨ k = 3 ∨ k = 4 ∨ k = 5 ∨ k = 6 ∨ k = 7 from by omega) with rfl | rfl | rfl | rfl | rfl | rfl | rfl | rfl <;> rfl
theorem add_add {a : Addr} (h : a = ⟨a.block, a.off, none⟩) (i j : Nat) : (a.add i).add j = a.add (i + j) := by
  rw [h, add_plain, add_plain, add_plain, Nat.add_assoc]
theorem range_pick (A : Nat → Pt) (n j : Nat) (p : Pt) (h : ((List.range n).map A)[j]? = some p) : j < n ∧ p = A j := by
  have hj := (List.getElem?_eq_some_iff.1 h).1
  simp at hj
  simp [hj] at h
  exact ⟨hj, h.symm⟩
set_option maxRecDepth 100000 in
/-- A list of parts, read as data. -/
theorem parts_open {H : Type} {enc : TypeId × Value → H} {w : World} {base : Nat} {sp : Nat → Bool} {held : Bool} {fuel : Nat} {v : Value} {x : DataW H × List MemPlace}
    (h : DataW.trod enc Tryz.prog w base sp held fuel 54 [v] = some x) (hz : ∀ n ∈ x.1.weights Tryz.prog 54, n ≤ reachBytes) : ∃ l, PsAt w v l ∧ Fits l.length ∧ ∀ p ∈ l, Pwf p := by
  rcases open_slice Tryz.underlying54 h with ⟨hcs, _⟩ | ⟨a, len, cp, m, f, D, Pl, hcs, _, hl, hm, hmm, hxx, hx⟩
  · simp at hcs
    subst hcs
    exact ⟨[], Or.inl ⟨rfl, rfl⟩, by unfold Fits; decide, by simp⟩
  · simp at hcs
    subst hcs
    rw [Tryz.cells115'] at hx
    have hnm : len ≤ m := by rw [hmm]; split <;> omega
    have hp : ∀ i, i < len → ∃ p : Pt, Pwf p ∧ ∀ k u, (pvs p)[k]? = some u → w.cell? ((a.add (i * 8)).add k) = some u := fun i hi => by
      obtain ⟨cs', h1, h2⟩ := hx i (by omega)
      exact part_open h1 h2
    haveI : Inhabited Pt := ⟨⟨0, 0, 0, 0, 0, 0, 0, ⟨#[]⟩⟩⟩
    obtain ⟨F, hF⟩ := choose_lt (α := Pt) hp
    refine ⟨(List.range len).map F, Or.inr ⟨a, cp, by simp, by simpa using hl, fun j u hu => ?_⟩, ?_, ?_⟩
    · have hj : j < len * 8 := by
        have := (List.getElem?_eq_some_iff.1 hu).1
        rw [pcells_len] at this
        simpa using this
      have h0 : 0 < len := by omega
      have hi : j / 8 < len := by omega
      have hs : ((List.range len).map F)[j / 8]? = some (F (j / 8)) := by simp [hi]
      have hq := pcells_at _ _ _ hs (j % 8) (by omega)
      rw [show j / 8 * 8 + j % 8 = j from by omega, hu] at hq
      have c0 := (hF 0 h0).2 0 _ rfl
      have ex : (a.add (0 * 8)).add 0 = a := by simp [Addr.add]
      rw [ex] at c0
      have := (hF (j / 8) hi).2 (j % 8) u hq.symm
      rw [add_add (addr_plain c0), show j / 8 * 8 + j % 8 = j from by omega] at this
      exact this
    · have hb := hz ((len + (m - len)) * 40) (by rw [hxx]; simp [DataW.weights, Tryz.underlying54, Tryz.bytes115'])
      unfold Fits
      unfold reachBytes at hb
      simp only [List.length_map, List.length_range]
      omega
    · intro p hpm
      obtain ⟨i, hi, rfl⟩ := List.mem_map.1 hpm
      exact (hF i (List.mem_range.1 hi)).1
set_option maxRecDepth 100000 in
/-- The nine cells of a card, read as data. -/
theorem card_cells {H : Type} {enc : TypeId × Value → H} {w : World} {base : Nat} {sp : Nat → Bool} {held : Bool} {fuel : Nat} {l : List Value} {x : DataW H × List MemPlace} (hsz : l.length = 9) (hf : DataW.trod enc Tryz.prog w base sp held fuel 56 l = some x) (hz : ∀ n ∈ x.1.weights Tryz.prog 56, n ≤ reachBytes) : ∃ (h : Hd) (u : Value) (ps : List Pt), l = cvs h u ∧ PsAt w u ps ∧ Fits ps.length ∧ Hwf h ∧ ∀ p ∈ ps, Pwf p := by
  obtain ⟨c0, c1, c2, c3, c4, c5, c6, c7, c8, rfl⟩ : ∃ c0 c1 c2 c3 c4 c5 c6 c7 c8, l = [c0, c1, c2, c3, c4, c5, c6, c7, c8] := by
    match l, hsz with
    | [c0, c1, c2, c3, c4, c5, c6, c7, c8], _ => exact ⟨c0, c1, c2, c3, c4, c5, c6, c7, c8, rfl⟩
  obtain ⟨xs, n, _, hx, _, hlen, hfl⟩ := DataW.trod_struct Tryz.underlying56 hf
  match xs, hlen with
  | [y0, y1, y2, y3, y4, y5, y6, y7, y8], _ =>
    have t0 : DataW.trod enc Tryz.prog w base sp held n 9 (([c0, c1, c2, c3, c4, c5, c6, c7, c8].drop 0).take (Tryz.prog.cellsOf 9)) = some y0 := hfl 0 _ rfl
    rw [Tryz.cells9'] at t0
    change DataW.trod enc Tryz.prog w base sp held n 9 [c0] = some y0 at t0
    obtain ⟨z0, e0, hy0, w0⟩ := DataW.trod_string Tryz.underlying9 t0
    have t1 : DataW.trod enc Tryz.prog w base sp held n 50 (([c0, c1, c2, c3, c4, c5, c6, c7, c8].drop 1).take (Tryz.prog.cellsOf 50)) = some y1 := hfl 1 _ rfl
    rw [Tryz.cells50'] at t1
    change DataW.trod enc Tryz.prog w base sp held n 50 [c1] = some y1 at t1
    obtain ⟨z1, e1, hy1, w1⟩ := DataW.trod_int Tryz.underlying50 t1
    have t2 : DataW.trod enc Tryz.prog w base sp held n 51 (([c0, c1, c2, c3, c4, c5, c6, c7, c8].drop 2).take (Tryz.prog.cellsOf 51)) = some y2 := hfl 2 _ rfl
    rw [Tryz.cells51'] at t2
    change DataW.trod enc Tryz.prog w base sp held n 51 [c2] = some y2 at t2
    obtain ⟨z2, e2, hy2, w2⟩ := DataW.trod_int Tryz.underlying51 t2
    have t3 : DataW.trod enc Tryz.prog w base sp held n 3 (([c0, c1, c2, c3, c4, c5, c6, c7, c8].drop 3).take (Tryz.prog.cellsOf 3)) = some y3 := hfl 3 _ rfl
    rw [Tryz.cells3'] at t3
    change DataW.trod enc Tryz.prog w base sp held n 3 [c3] = some y3 at t3
    obtain ⟨z3, e3, hy3, w3⟩ := DataW.trod_int Tryz.underlying3 t3
    have t4 : DataW.trod enc Tryz.prog w base sp held n 3 (([c0, c1, c2, c3, c4, c5, c6, c7, c8].drop 4).take (Tryz.prog.cellsOf 3)) = some y4 := hfl 4 _ rfl
    rw [Tryz.cells3'] at t4
    change DataW.trod enc Tryz.prog w base sp held n 3 [c4] = some y4 at t4
    obtain ⟨z4, e4, hy4, w4⟩ := DataW.trod_int Tryz.underlying3 t4
    have t5 : DataW.trod enc Tryz.prog w base sp held n 3 (([c0, c1, c2, c3, c4, c5, c6, c7, c8].drop 5).take (Tryz.prog.cellsOf 3)) = some y5 := hfl 5 _ rfl
    rw [Tryz.cells3'] at t5
    change DataW.trod enc Tryz.prog w base sp held n 3 [c5] = some y5 at t5
    obtain ⟨z5, e5, hy5, w5⟩ := DataW.trod_int Tryz.underlying3 t5
    have t6 : DataW.trod enc Tryz.prog w base sp held n 53 (([c0, c1, c2, c3, c4, c5, c6, c7, c8].drop 6).take (Tryz.prog.cellsOf 53)) = some y6 := hfl 6 _ rfl
    rw [Tryz.cells53'] at t6
    change DataW.trod enc Tryz.prog w base sp held n 53 [c6] = some y6 at t6
    obtain ⟨z6, e6, hy6, w6⟩ := DataW.trod_int Tryz.underlying53 t6
    have t7 : DataW.trod enc Tryz.prog w base sp held n 4 (([c0, c1, c2, c3, c4, c5, c6, c7, c8].drop 7).take (Tryz.prog.cellsOf 4)) = some y7 := hfl 7 _ rfl
    rw [Tryz.cells4'] at t7
    change DataW.trod enc Tryz.prog w base sp held n 4 [c7] = some y7 at t7
    obtain ⟨z7, e7, hy7⟩ := DataW.trod_bool Tryz.underlying4 t7
    have t8 : DataW.trod enc Tryz.prog w base sp held n 54 (([c0, c1, c2, c3, c4, c5, c6, c7, c8].drop 8).take (Tryz.prog.cellsOf 54)) = some y8 := hfl 8 _ rfl
    rw [Tryz.cells54'] at t8
    change DataW.trod enc Tryz.prog w base sp held n 54 [c8] = some y8 at t8
    simp only [List.cons.injEq, and_true] at e0 e1 e2 e3 e4 e5 e6 e7
    subst e0 e1 e2 e3 e4 e5 e6 e7
    obtain ⟨L, h1, h2, h3⟩ := parts_open t8 (fun n hn => hz n (by
      rw [hx]
      simp only [DataW.weights, Tryz.underlying56]
      exact DataW.weights_mem_each (j := 8) rfl rfl n hn))
    exact ⟨⟨z0, z1, z2, z3, z4, z5, z6, z7⟩, c8, L, rfl, h1, h2, ⟨w0, w1, w2, w3, w4, w5, w6⟩, h3⟩
set_option maxRecDepth 100000 in
/-- A card, read as data. -/
theorem open_card {H : Type} {enc : TypeId × Value → H} {w : World} {base : Nat} {sp : Nat → Bool} {held : Bool} {r : Reach} {b0 : Nat} {v : Value} {d : DataW H} {pl : List MemPlace} (hval : Value.okWide Tryz.prog w r b0 56 v) (hd : DataW.Trod enc Tryz.prog w base sp held 56 v d pl) (hz : ∀ n ∈ d.weights Tryz.prog 56, n ≤ reachBytes) : ∃ (h : Hd) (u : Value) (l : List Pt), v = cv h u ∧ PsAt w u l ∧ Fits l.length ∧ Hwf h ∧ ∀ p ∈ l, Pwf p := by
  obtain ⟨cs, rfl, hsz⟩ := okWide_struct Tryz.underlying56 hval
  rw [Tryz.cells56'] at hsz
  obtain ⟨fuel, hf⟩ := hd
  have hf' : DataW.trod enc Tryz.prog w base sp held fuel 56 cs.toList = some (d, pl) := hf
  obtain ⟨h, u, ps, e, k⟩ := card_cells (by simpa using hsz) hf' hz
  obtain ⟨l⟩ := cs
  have e' : l = cvs h u := e
  subst e'
  exact ⟨h, u, ps, rfl, k⟩
end Go.Proofs.YtknlcjhcamhfmaaGreatDoor
namespace Go.Proofs.YtknlcjhcamhfmaaGreatDoor.L
open Go.RowKit

theorem wpl_build {P : Program} {w w1 : World} {ops : Array Oper} {rest : List Oper} {o : Oper} {a : Act} {Q : Exit → Act → World → Prop} (hgd : o.guard = none) (t : TypeId) (parts : Array (Nat × Operand))
    (ho : o.op = .build t parts) (vs : Array (Nat × Value)) (hv : (parts.map fun (i, x) => (i, a.eval x)) = vs) (v : Value) (hrun : (Instr.build t vs).run P w = .ok v w1) (h : wpList P ops Q rest (a.put o.dst v) w1) : wpList P ops Q (o :: rest) a w := by
  refine wpList_plain hgd fun K hK => ?_
  unfold Oper.wp
  simp only [execOp, ho, Sem.run_bind, hv, hrun, Result.andThen_ok]
  exact hK _ _ h
theorem wpl_box {P : Program} {w w1 : World} {ops : Array Oper} {rest : List Oper} {o : Oper} {a : Act} {Q : Exit → Act → World → Prop} (hgd : o.guard = none) (t : TypeId) (x : Operand)
    (ho : o.op = .box t x) (y : Value) (hy : a.eval x = y) (v : Value) (hrun : (Instr.box t y).run P w = .ok v w1) (h : wpList P ops Q rest (a.put o.dst v) w1) : wpList P ops Q (o :: rest) a w := by
  refine wpList_plain hgd fun K hK => ?_
  unfold Oper.wp
  simp only [execOp, ho, Sem.run_bind, hy, hrun, Result.andThen_ok]
  exact hK _ _ h

/-- The numbers of a list, as cells. -/
def ints (l : List Int) : List Value := l.map fun z => Value.int .i64 z
theorem length_ints (l : List Int) : (ints l).length = l.length := by simp [ints]
theorem ints_at (l : List Int) (i : Nat) (h : i < l.length) : (ints l)[i]? = some (.int .i64 (l.getD i 0)) := by
  simp [ints, List.getD, List.getElem?_eq_getElem h]
theorem ints_snoc (l : List Int) (n : Int) : ints (l ++ [n]) = ints l ++ [Value.int .i64 n] := by simp [ints]
theorem ints_take (l : List Int) (n : Nat) : ints (l.take n) = (ints l).take n := by simp [ints, List.map_take]

theorem block_cell {w : World} {b : Nat} {cs : Array Value} {t : TypeId} (h : w.heap[b]? = some (.cells cs t (0, 0))) (i : Nat) : w.cell? ⟨b, i, none⟩ = cs[i]? := by simp [World.cell?, h]
theorem block_free {w : World} {b : Nat} {cs : Array Value} {t : TypeId} (h : w.heap[b]? = some (.cells cs t (0, 0))) (i : Nat) : w.frozen? ⟨b, i, none⟩ = false := by simp [World.frozen?, h]
theorem block_set {w : World} {b : Nat} {cs : Array Value} {t : TypeId} (h : w.heap[b]? = some (.cells cs t (0, 0))) (i : Nat) (v : Value) : (w.setCell ⟨b, i, none⟩ v).heap[b]? = some (.cells (cs.setIfInBounds i v) t (0, 0)) := by
  simp [World.setCell, Array.getElem?_modify, h]
theorem block_lt {w : World} {b : Nat} {o : Obj} (h : w.heap[b]? = some o) : b < w.heap.size := (Array.getElem?_eq_some_iff.1 h).1
theorem grown_refl (w : World) (r : Option Nat) : w.grownBy w r := ⟨rfl, rfl, rfl, Nat.le_refl _, fun _ _ _ => rfl⟩
theorem grown_set (w : World) (b i : Nat) (v : Value) : w.grownBy (w.setCell ⟨b, i, none⟩ v) (some b) :=
  ⟨rfl, rfl, rfl, by simp [World.setCell], fun k _ hk => Below.heap_setCell _ _ _ _ (by simpa using hk)⟩
theorem grown_trans {a b c : World} {r : Option Nat} (h : a.grownBy b r) (k : b.grownBy c r) : a.grownBy c r :=
  ⟨k.os.trans h.os, k.tape.trans h.tape, k.output.trans h.output, Nat.le_trans h.size k.size, fun i hi hr => (k.block i (Nat.lt_of_lt_of_le hi h.size) hr).trans (h.block i hi hr)⟩
theorem grown_keep {a b : World} {r : Option Nat} (h : a.grownBy b r) {k : Nat} {o : Obj} (hk : a.heap[k]? = some o) (hr : some k ≠ r) : b.heap[k]? = some o := by
  rw [h.block k (block_lt hk) hr]; exact hk
theorem grown_drewN (w : World) (n : Nat) (r : Option Nat) : w.grownBy (w.drewN n) r := ⟨rfl, rfl, rfl, Nat.le_refl _, fun _ _ _ => rfl⟩

theorem grown_own {a b c : World} {r : Option Nat} (h : a.grownBy b none) (k : b.grownBy c r) (hr : ∀ x, r = some x → a.heap.size ≤ x) : a.grownBy c none :=
  ⟨k.os.trans h.os, k.tape.trans h.tape, k.output.trans h.output, Nat.le_trans h.size k.size, fun i hi _ => (k.block i (Nat.lt_of_lt_of_le hi h.size) (fun e => by have := hr i e.symm; omega)).trans (h.block i hi (by simp))⟩
theorem getD_lt (l : List Int) (k : Nat) (h : k < l.length) : l.getD k 0 = l[k] := by simp [List.getD, h]
theorem ret_int {k : IntKind} {a b : Int} (h : a = b) : Ending.returned (.int k a) = .returned (.int k b) := by rw [h]
theorem grown_below {w w' : World} (h : w.grownBy w' none) : Below w.heap.size w w' := ⟨h.os, h.tape, h.output, h.size, fun k hk => h.block k hk (by simp)⟩
theorem grown_push {a b : World} (h : a.grownBy b none) (o : Obj) : a.grownBy (b.alloc o) none := grown_own (r := none) h (World.grownBy_alloc _ _ _) (by simp)
theorem alloc_at (w : World) (cs : Array Value) (t : TypeId) : (w.alloc (.cells cs t)).heap[w.heap.size]? = some (.cells cs t (0, 0)) := by
  show (w.heap.push _)[w.heap.size]? = _
  rw [Array.getElem?_push_size]

end Go.Proofs.YtknlcjhcamhfmaaGreatDoor.L
namespace Go.Proofs.YtknlcjhcamhfmaaGreatDoor.L
open Go.RowKit
/-- A log's block. -/
def logCells (Z : List Int) (n : Nat) (c m : Bool) : Array Value := (ints Z ++ [Value.int .i64 n, Value.bool c, Value.bool m]).toArray
def newCells : Array Value := logCells (List.replicate 256 0) 0 false true
def noCells : Array Value := logCells (List.replicate 256 0) 0 false false

theorem size_logCells (Z : List Int) (n : Nat) (c m : Bool) (h : Z.length = 256) : (logCells Z n c m).size = 259 := by simp [logCells, length_ints, h]
theorem log_note (Z : List Int) (n : Nat) (c m : Bool) (h : Z.length = 256) (i : Nat) (hi : i < 256) : (logCells Z n c m)[i]? = some (.int .i64 (Z.getD i 0)) := by
  simp only [logCells, List.getElem?_toArray]
  rw [List.getElem?_append_left (by rw [length_ints]; omega)]
  exact ints_at Z i (by omega)
theorem log_count (Z : List Int) (n : Nat) (c m : Bool) (h : Z.length = 256) : (logCells Z n c m)[256]? = some (.int .i64 n) := by
  simp only [logCells, List.getElem?_toArray]
  rw [List.getElem?_append_right (by rw [length_ints]; omega)]
  simp [length_ints, h]
theorem log_closed (Z : List Int) (n : Nat) (c m : Bool) (h : Z.length = 256) : (logCells Z n c m)[257]? = some (.bool c) := by
  simp only [logCells, List.getElem?_toArray]
  rw [List.getElem?_append_right (by rw [length_ints]; omega)]
  simp [length_ints, h]
theorem log_made (Z : List Int) (n : Nat) (c m : Bool) (h : Z.length = 256) : (logCells Z n c m)[258]? = some (.bool m) := by
  simp only [logCells, List.getElem?_toArray]
  rw [List.getElem?_append_right (by rw [length_ints]; omega)]
  simp [length_ints, h]
theorem set_note (Z : List Int) (n : Nat) (c m : Bool) (h : Z.length = 256) (i : Nat) (hi : i < 256) (v : Int) : (logCells Z n c m).setIfInBounds i (.int .i64 v) = logCells (Z.set i v) n c m := by
  simp only [logCells, List.setIfInBounds_toArray]
  rw [List.set_append_left _ _ (by rw [length_ints]; omega)]
  simp [ints, List.map_set]
theorem set_count (Z : List Int) (n n' : Nat) (c m : Bool) (h : Z.length = 256) : (logCells Z n c m).setIfInBounds 256 (.int .i64 n') = logCells Z n' c m := by
  simp only [logCells, List.setIfInBounds_toArray]
  rw [List.set_append_right _ _ (by rw [length_ints]; omega)]
  simp [length_ints, h]
theorem set_closed (Z : List Int) (n : Nat) (c c' m : Bool) (h : Z.length = 256) : (logCells Z n c m).setIfInBounds 257 (.bool c') = logCells Z n c' m := by
  simp only [logCells, List.setIfInBounds_toArray]
  rw [List.set_append_right _ _ (by rw [length_ints]; omega)]
  simp [length_ints, h]

/-- A log at block b: its notes are l; whether it is closed. -/
def LogAt (w : World) (b : Nat) (l : List Int) (c : Bool) : Prop :=
  ∃ Z : List Int, l.length ≤ 256 ∧ Z.length = 256 ∧ Z.take l.length = l ∧ w.heap[b]? = some (.cells (logCells Z l.length c true) 75 (0, 0))
theorem LogAt.keep {w w' : World} {b : Nat} {l : List Int} {c : Bool} {r : Option Nat} (h : LogAt w b l c) (hg : w.grownBy w' r) (hr : some b ≠ r) : LogAt w' b l c := by
  obtain ⟨Z, h1, h2, h3, h4⟩ := h
  exact ⟨Z, h1, h2, h3, grown_keep hg h4 hr⟩
theorem LogAt.len {w : World} {b : Nat} {l : List Int} {c : Bool} (h : LogAt w b l c) : l.length ≤ 256 := by
  obtain ⟨Z, h1, h2, h3, h4⟩ := h; exact h1
theorem LogAt.lt {w : World} {b : Nat} {l : List Int} {c : Bool} (h : LogAt w b l c) : b < w.heap.size := by
  obtain ⟨Z, h1, h2, h3, h4⟩ := h; exact block_lt h4
theorem take_set_snoc (Z l : List Int) (n : Int) (h1 : l.length < Z.length) (h : Z.take l.length = l) : (Z.set l.length n).take (l ++ [n]).length = l ++ [n] := by
  rw [List.length_append, List.length_singleton, List.take_succ_eq_append_getElem (by simpa using h1)]
  simp [List.take_set_of_le, h]

end Go.Proofs.YtknlcjhcamhfmaaGreatDoor.L
namespace Go.Proofs.YtknlcjhcamhfmaaGreatDoor.L
open Go.RowKit

/-- What is no log: nil, or a block that New did not make. -/
def NoLog (w : World) (p : Option Addr) : Prop := p = none ∨ ∃ b, p = some ⟨b, 0, none⟩ ∧ w.cell? ⟨b, 258, none⟩ = some (.bool false)

set_option maxHeartbeats 400000 in
theorem isLog_nil (w : World) : Calls Tryz.prog 75 #[.pointer none] w fun e w' => e = .returned (.bool false) ∧ w' = w := by
  go_enter Tryz.func75, Tryz.ntmps75
  go_wp2
  go_ret
  exact ⟨rfl, rfl⟩
set_option maxHeartbeats 400000 in
theorem isLog_made (b : Nat) (m : Bool) (w : World) (h : w.cell? ⟨b, 258, none⟩ = some (.bool m)) : Calls Tryz.prog 75 #[.pointer (some ⟨b, 0, none⟩)] w fun e w' => e = .returned (.bool m) ∧ w' = w := by
  go_enter Tryz.func75, Tryz.ntmps75
  go_wp2
  go_ret
  exact ⟨rfl, rfl⟩
theorem isLog_no (p : Option Addr) (w : World) (h : NoLog w p) : Calls Tryz.prog 75 #[.pointer p] w fun e w' => e = .returned (.bool false) ∧ w' = w := by
  rcases h with rfl | ⟨b, rfl, hc⟩
  · exact isLog_nil w
  · exact isLog_made b false w hc

theorem run_build43 (w : World) : (Instr.build 75 #[(3, .bool true)]).run Tryz.prog w = .ok (.agg newCells) w := by kernel_rfl
theorem run_box43 (cs : Array Value) (w : World) : (Instr.box 75 (.agg cs)).run Tryz.prog w = .ok (.pointer (some ⟨w.heap.size, 0, none⟩)) (w.alloc (.cells cs 75)) := by kernel_rfl
set_option maxRecDepth 100000 in
set_option maxHeartbeats 400000 in
theorem new_any (w : World) : Calls Tryz.prog 28 #[] w fun e w' => e = .returned (.pointer (some ⟨w.heap.size, 0, none⟩)) ∧ LogAt w' w.heap.size [] false ∧ w.grownBy w' none ∧ w'.heap.size = w.heap.size + 1 := by
  go_enter Tryz.func28, Tryz.ntmps28
  go_wp2_with (first | (refine wpl_build ?g 75 #[(3, .const (.bool true))] ?ho #[(3, .bool true)] ?hv (.agg newCells) (run_build43 _) ?_; (case g => rfl); (case ho => rfl); (case hv => simp [Act.eval])) | (refine wpl_box ?g 75 (.tmp 1) ?ho (.agg newCells) ?hv _ (run_box43 newCells _) ?_; (case g => rfl); (case ho => rfl); (case hv => simp [Act.eval])))
  go_ret
  refine ⟨rfl, ⟨List.replicate 256 0, by simp, by simp, rfl, ?_⟩, World.grownBy_alloc w _ none, by simp⟩
  show (w.heap.push _)[w.heap.size]? = _
  rw [Array.getElem?_push_size]; rfl

set_option maxRecDepth 100000 in
set_option maxHeartbeats 400000 in
theorem note_ok (b : Nat) (l : List Int) (n : Int) (w : World) (h : LogAt w b l false) (hl : l.length < 256) : Calls Tryz.prog 30 #[.pointer (some ⟨b, 0, none⟩), .int .i64 n] w fun e w' => e = .returned (.int .i64 l.length) ∧ LogAt w' b (l ++ [n]) false ∧ w.grownBy w' (some b) := by
  obtain ⟨Z, h1, h2, h3, h4⟩ := h
  have c0 := (block_cell h4 l.length).trans (log_note Z _ _ _ h2 _ hl)
  have c1 := (block_cell h4 256).trans (log_count Z _ _ _ h2)
  have c2 := (block_cell h4 257).trans (log_closed Z _ _ _ h2)
  have c3 := (block_cell h4 258).trans (log_made Z _ _ _ h2)
  have f := block_free h4
  have H : Hid (Z.take l.length = l) := h3
  have H4 : Hid (w.heap[b]? = some (.cells (logCells Z l.length false true) 75 (0, 0))) := h4
  clear h3 h4
  go_enter Tryz.func30, Tryz.ntmps30
  go_wp2_with (go_at_call 75; refine (isLog_made _ _ _ c3).mono ?_; rintro e w' ⟨rfl, rfl⟩)
  go_ret
  refine ⟨rfl, ⟨Z.set l.length n, by simp; omega, by simp [h2], take_set_snoc Z l n (by omega) H.out, ?_⟩, grown_trans (grown_set _ _ _ _) (grown_set _ _ _ _)⟩
  have e1 := block_set H4.out l.length (.int .i64 n)
  rw [set_note Z _ _ _ h2 _ hl] at e1
  have e2 := block_set e1 256 (.int .i64 ((l ++ [n]).length : Nat))
  rw [set_count (Z.set l.length n) _ _ _ _ (by simp [h2])] at e2
  simpa using e2
set_option maxRecDepth 100000 in
set_option maxHeartbeats 400000 in
theorem note_closed (b : Nat) (l : List Int) (n : Int) (w : World) (h : LogAt w b l true) : Calls Tryz.prog 30 #[.pointer (some ⟨b, 0, none⟩), .int .i64 n] w fun e w' => e = .returned (.int .i64 (-1)) ∧ w' = w := by
  obtain ⟨Z, h1, h2, h3, h4⟩ := h
  have c2 := (block_cell h4 257).trans (log_closed Z _ _ _ h2)
  have c3 := (block_cell h4 258).trans (log_made Z _ _ _ h2)
  clear h3 h4
  go_enter Tryz.func30, Tryz.ntmps30
  go_wp2_with (go_at_call 75; refine (isLog_made _ _ _ c3).mono ?_; rintro e w' ⟨rfl, rfl⟩)
  go_ret
  exact ⟨rfl, rfl⟩
set_option maxRecDepth 100000 in
set_option maxHeartbeats 400000 in
theorem note_full (b : Nat) (l : List Int) (c : Bool) (n : Int) (w : World) (h : LogAt w b l c) (hl : l.length = 256) : Calls Tryz.prog 30 #[.pointer (some ⟨b, 0, none⟩), .int .i64 n] w fun e w' => e = .returned (.int .i64 (-1)) ∧ w' = w := by
  cases c
  case true => exact note_closed b l n w h
  obtain ⟨Z, h1, h2, h3, h4⟩ := h
  rw [hl] at h4
  have c1 := (block_cell h4 256).trans (log_count Z _ _ _ h2)
  have c2 := (block_cell h4 257).trans (log_closed Z _ _ _ h2)
  have c3 := (block_cell h4 258).trans (log_made Z _ _ _ h2)
  clear h3 h4 hl h1
  go_enter Tryz.func30, Tryz.ntmps30
  go_wp2_with (go_at_call 75; refine (isLog_made _ _ _ c3).mono ?_; rintro e w' ⟨rfl, rfl⟩)
  go_ret
  exact ⟨rfl, rfl⟩
set_option maxHeartbeats 400000 in
theorem note_no (p : Option Addr) (n : Int) (w : World) (h : NoLog w p) : Calls Tryz.prog 30 #[.pointer p, .int .i64 n] w fun e w' => e = .returned (.int .i64 (-1)) ∧ w' = w := by
  go_enter Tryz.func30, Tryz.ntmps30
  go_wp2_with (go_at_call 75; refine (isLog_no _ _ h).mono ?_; rintro e w' ⟨rfl, rfl⟩)
  go_ret
  exact ⟨rfl, rfl⟩

set_option maxRecDepth 100000 in
set_option maxHeartbeats 400000 in
theorem close_log (b : Nat) (l : List Int) (c : Bool) (w : World) (h : LogAt w b l c) : Calls Tryz.prog 31 #[.pointer (some ⟨b, 0, none⟩)] w fun e w' => e = .returned (.tuple #[]) ∧ LogAt w' b l true ∧ w.grownBy w' (some b) := by
  obtain ⟨Z, h1, h2, h3, h4⟩ := h
  have c2 := (block_cell h4 257).trans (log_closed Z _ _ _ h2)
  have c3 := (block_cell h4 258).trans (log_made Z _ _ _ h2)
  have f := block_free h4
  have H : Hid (Z.take l.length = l) := h3
  have H4 : Hid (w.heap[b]? = some (.cells (logCells Z l.length c true) 75 (0, 0))) := h4
  clear h3 h4
  go_enter Tryz.func31, Tryz.ntmps31
  go_wp2_with (go_at_call 75; refine (isLog_made _ _ _ c3).mono ?_; rintro e w' ⟨rfl, rfl⟩)
  go_end0
  refine ⟨rfl, ⟨Z, h1, h2, H.out, ?_⟩, grown_set _ _ _ _⟩
  have e1 := block_set H4.out 257 (.bool true)
  rw [set_closed Z _ _ _ _ h2] at e1
  exact e1
set_option maxHeartbeats 400000 in
theorem close_no (p : Option Addr) (w : World) (h : NoLog w p) : Calls Tryz.prog 31 #[.pointer p] w fun e w' => e = .returned (.tuple #[]) ∧ w' = w := by
  go_enter Tryz.func31, Tryz.ntmps31
  go_wp2_with (go_at_call 75; refine (isLog_no _ _ h).mono ?_; rintro e w' ⟨rfl, rfl⟩)
  go_end0
  exact ⟨rfl, rfl⟩

set_option maxRecDepth 100000 in
set_option maxHeartbeats 400000 in
theorem closed_log (b : Nat) (l : List Int) (c : Bool) (w : World) (h : LogAt w b l c) : Calls Tryz.prog 36 #[.pointer (some ⟨b, 0, none⟩)] w fun e w' => e = .returned (.bool c) ∧ w' = w := by
  obtain ⟨Z, h1, h2, h3, h4⟩ := h
  have c2 := (block_cell h4 257).trans (log_closed Z _ _ _ h2)
  have c3 := (block_cell h4 258).trans (log_made Z _ _ _ h2)
  clear h3 h4
  go_enter Tryz.func36, Tryz.ntmps36
  go_wp2_with (go_at_call 75; refine (isLog_made _ _ _ c3).mono ?_; rintro e w' ⟨rfl, rfl⟩)
  go_ret
  exact ⟨rfl, rfl⟩
set_option maxHeartbeats 400000 in
theorem closed_no (p : Option Addr) (w : World) (h : NoLog w p) : Calls Tryz.prog 36 #[.pointer p] w fun e w' => e = .returned (.bool false) ∧ w' = w := by
  go_enter Tryz.func36, Tryz.ntmps36
  go_wp2_with (go_at_call 75; refine (isLog_no _ _ h).mono ?_; rintro e w' ⟨rfl, rfl⟩)
  go_ret
  exact ⟨rfl, rfl⟩

theorem getD_take (Z l : List Int) (h : Z.take l.length = l) (k : Nat) (hk : k < l.length) : Z.getD k 0 = l.getD k 0 := by
  have e : (Z.take l.length).getD k 0 = l.getD k 0 := by rw [h]
  rw [← e]
  simp [List.getD, hk]
set_option maxHeartbeats 400000 in
theorem list_no (p : Option Addr) (w : World) (h : NoLog w p) : Calls Tryz.prog 35 #[.pointer p] w fun e w' => e = .returned (.slice none 0 0) ∧ w' = w := by
  go_enter Tryz.func35, Tryz.ntmps35
  go_wp2_with (go_at_call 75; refine (isLog_no _ _ h).mono ?_; rintro e w' ⟨rfl, rfl⟩)
  go_ret
  exact ⟨rfl, rfl⟩

end Go.Proofs.YtknlcjhcamhfmaaGreatDoor.L
