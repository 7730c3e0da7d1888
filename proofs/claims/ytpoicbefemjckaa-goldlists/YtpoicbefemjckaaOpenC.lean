/-
  A card that was handed in, read as data: its fields, and where its parts lie.
-/
import Derived.Test.YtpoicbefemjckaaBok
import Derived.ProofKit
import Derived.OpenShut
import Derived.ChangeOld
import Derived.Deep.Slices
import Derived.SizedLaws
namespace Go.Proofs.Ytpoicbefemjckaa
open Go.ChangeShapes Go.WideShapes Go.ChangeAt Go.RowKit Go.Deep

theorem Try.cells3' : Try.prog.cellsOf 3 = 1 := by kernel_rfl
theorem Try.cells4' : Try.prog.cellsOf 4 = 1 := by kernel_rfl
theorem Try.cells9' : Try.prog.cellsOf 9 = 1 := by kernel_rfl
theorem Try.cells47' : Try.prog.cellsOf 47 = 9 := by kernel_rfl
theorem Try.cells42' : Try.prog.cellsOf 42 = 1 := by kernel_rfl
theorem Try.cells54' : Try.prog.cellsOf 54 = 1 := by kernel_rfl
theorem Try.cells81' : Try.prog.cellsOf 81 = 8 := by kernel_rfl
theorem Try.cells41' : Try.prog.cellsOf 41 = 1 := by kernel_rfl
theorem Try.cells44' : Try.prog.cellsOf 44 = 1 := by kernel_rfl
theorem Try.cells52' : Try.prog.cellsOf 52 = 1 := by kernel_rfl
theorem Try.cells78' : Try.prog.cellsOf 78 = 1 := by kernel_rfl
theorem Try.cells77' : Try.prog.cellsOf 77 = 1 := by kernel_rfl
theorem Try.cells79' : Try.prog.cellsOf 79 = 1 := by kernel_rfl
theorem Try.cells45' : Try.prog.cellsOf 45 = 1 := by kernel_rfl
theorem Try.bytes81' : Try.prog.bytesOf 81 = 40 := by kernel_rfl
/-- Each field is a number of its type. -/
structure Pwf (p : Pt) : Prop where
  wn : (Lit.int .u8 p.wn).wf = true
  vb : (Lit.int .u8 p.vb).wf = true
  wm : (Lit.int .u8 p.wm).wf = true
  ct : (Lit.int .i64 p.ct).wf = true
  su : (Lit.int .u8 p.su).wf = true
  tr : (Lit.int .u8 p.tr).wf = true
  mr : (Lit.int .u8 p.mr).wf = true
  nm : p.nm.size ≤ maxLen
structure Hwf (h : Hd) : Prop where
  nm : h.nm.size ≤ maxLen
  su : (Lit.int .u8 h.su).wf = true
  kd : (Lit.int .u8 h.kd).wf = true
  co : (Lit.int .i64 h.co).wf = true
  po : (Lit.int .i64 h.po).wf = true
  he : (Lit.int .i64 h.he).wf = true
  tr : (Lit.int .u16 h.tr).wf = true
set_option maxRecDepth 100000 in
/-- One part, read as data: eight cells. -/
theorem part_open {H : Type} {enc : TypeId × Value → H} {w : World} {base : Nat} {sp : Nat → Bool} {held : Bool} {n : Nat} {a : Addr} {cs : List Value} {x : DataW H × List MemPlace}
    (h : w.cells? base a 8 = some cs) (ht : DataW.trod enc Try.prog w base sp held n 81 cs = some x) : ∃ p : Pt, Pwf p ∧ ∀ k u, (pvs p)[k]? = some u → w.cell? (a.add k) = some u := by
  obtain ⟨xs, m, _, hx, _, hn, hfl⟩ := DataW.trod_struct Try.underlying81 ht
  obtain ⟨_, hl, hc⟩ := World.cells?_some h
  match cs, hl, xs, hn with
  | [c0, c1, c2, c3, c4, c5, c6, c7], _, [y0, y1, y2, y3, y4, y5, y6, y7], _ =>
    have t0 : DataW.trod enc Try.prog w base sp held m 77 (([c0, c1, c2, c3, c4, c5, c6, c7].drop 0).take (Try.prog.cellsOf 77)) = some y0 := hfl 0 _ rfl
    rw [Try.cells77'] at t0
    change DataW.trod enc Try.prog w base sp held m 77 [c0] = some y0 at t0
    obtain ⟨z0, e0, hy0, w0⟩ := DataW.trod_int Try.underlying77 t0
    have t1 : DataW.trod enc Try.prog w base sp held m 78 (([c0, c1, c2, c3, c4, c5, c6, c7].drop 1).take (Try.prog.cellsOf 78)) = some y1 := hfl 1 _ rfl
    rw [Try.cells78'] at t1
    change DataW.trod enc Try.prog w base sp held m 78 [c1] = some y1 at t1
    obtain ⟨z1, e1, hy1, w1⟩ := DataW.trod_int Try.underlying78 t1
    have t2 : DataW.trod enc Try.prog w base sp held m 79 (([c0, c1, c2, c3, c4, c5, c6, c7].drop 2).take (Try.prog.cellsOf 79)) = some y2 := hfl 2 _ rfl
    rw [Try.cells79'] at t2
    change DataW.trod enc Try.prog w base sp held m 79 [c2] = some y2 at t2
    obtain ⟨z2, e2, hy2, w2⟩ := DataW.trod_int Try.underlying79 t2
    have t3 : DataW.trod enc Try.prog w base sp held m 3 (([c0, c1, c2, c3, c4, c5, c6, c7].drop 3).take (Try.prog.cellsOf 3)) = some y3 := hfl 3 _ rfl
    rw [Try.cells3'] at t3
    change DataW.trod enc Try.prog w base sp held m 3 [c3] = some y3 at t3
    obtain ⟨z3, e3, hy3, w3⟩ := DataW.trod_int Try.underlying3 t3
    have t4 : DataW.trod enc Try.prog w base sp held m 41 (([c0, c1, c2, c3, c4, c5, c6, c7].drop 4).take (Try.prog.cellsOf 41)) = some y4 := hfl 4 _ rfl
    rw [Try.cells41'] at t4
    change DataW.trod enc Try.prog w base sp held m 41 [c4] = some y4 at t4
    obtain ⟨z4, e4, hy4, w4⟩ := DataW.trod_int Try.underlying41 t4
    have t5 : DataW.trod enc Try.prog w base sp held m 52 (([c0, c1, c2, c3, c4, c5, c6, c7].drop 5).take (Try.prog.cellsOf 52)) = some y5 := hfl 5 _ rfl
    rw [Try.cells52'] at t5
    change DataW.trod enc Try.prog w base sp held m 52 [c5] = some y5 at t5
    obtain ⟨z5, e5, hy5, w5⟩ := DataW.trod_int Try.underlying52 t5
    have t6 : DataW.trod enc Try.prog w base sp held m 54 (([c0, c1, c2, c3, c4, c5, c6, c7].drop 6).take (Try.prog.cellsOf 54)) = some y6 := hfl 6 _ rfl
    rw [Try.cells54'] at t6
    change DataW.trod enc Try.prog w base sp held m 54 [c6] = some y6 at t6
    obtain ⟨z6, e6, hy6, w6⟩ := DataW.trod_int Try.underlying54 t6
    have t7 : DataW.trod enc Try.prog w base sp held m 9 (([c0, c1, c2, c3, c4, c5, c6, c7].drop 7).take (Try.prog.cellsOf 9)) = some y7 := hfl 7 _ rfl
    rw [Try.cells9'] at t7
    change DataW.trod enc Try.prog w base sp held m 9 [c7] = some y7 at t7
    obtain ⟨z7, e7, hy7, w7⟩ := DataW.trod_string Try.underlying9 t7
    simp only [List.cons.injEq, and_true] at e0 e1 e2 e3 e4 e5 e6 e7
    subst e0 e1 e2 e3 e4 e5 e6 e7
    refine ⟨⟨z0, z1, z2, z3, z4, z5, z6, z7⟩, ⟨w0, w1, w2, w3, w4, w5, w6, w7⟩, fun k u hk => ?_⟩
    have hk8 : k < 8 := (List.getElem?_eq_some_iff.1 hk).1
    have := hc k hk8
    rw [this]
    rw [← hk]
    rcases (show k = 0 ∨ k = 1 ∨ k = 2 ∨ k = 3 ∨ k = 4 ∨ k = 5 ∨ k = 6 ∨ k = 7 from by omega) with rfl | rfl | rfl | rfl | rfl | rfl | rfl | rfl <;> rfl
theorem add_add {a : Addr} (h : a = ⟨a.block, a.off, none⟩) (i j : Nat) : (a.add i).add j = a.add (i + j) := by
  rw [h, add_plain, add_plain, add_plain, Nat.add_assoc]
theorem range_pick (A : Nat → Pt) (n j : Nat) (p : Pt) (h : ((List.range n).map A)[j]? = some p) : j < n ∧ p = A j := by
  have hj := (List.getElem?_eq_some_iff.1 h).1
  simp at hj
  simp [hj] at h
  exact ⟨hj, h.symm⟩
set_option maxRecDepth 100000 in
/-- A list of parts, read as data. -/
theorem parts_open {H : Type} {enc : TypeId × Value → H} {w : World} {base : Nat} {sp : Nat → Bool} {held : Bool} {fuel : Nat} {v : Value} {x : DataW H × List MemPlace}
    (h : DataW.trod enc Try.prog w base sp held fuel 45 [v] = some x) (hz : ∀ n ∈ x.1.weights Try.prog 45, n ≤ reachBytes) : ∃ l, PsAt w v l ∧ Fits l.length ∧ ∀ p ∈ l, Pwf p := by
  rcases open_slice Try.underlying45 h with ⟨hcs, _⟩ | ⟨a, len, cp, m, f, D, Pl, hcs, _, hl, hm, hmm, hxx, hx⟩
  · simp at hcs
    subst hcs
    exact ⟨[], Or.inl ⟨rfl, rfl⟩, by unfold Fits; decide, by simp⟩
  · simp at hcs
    subst hcs
    rw [Try.cells81'] at hx
    have hnm : len ≤ m := by rw [hmm]; split <;> omega
    have hp : ∀ i, i < len → ∃ p : Pt, Pwf p ∧ ∀ k u, (pvs p)[k]? = some u → w.cell? ((a.add (i * 8)).add k) = some u := fun i hi => by
      obtain ⟨cs', h1, h2⟩ := hx i (by omega)
      exact part_open h1 h2
    haveI : Inhabited Pt := ⟨⟨0, 0, 0, 0, 0, 0, 0, ⟨#[]⟩⟩⟩
    obtain ⟨F, hF⟩ := choose_lt (α := Pt) hp
    refine ⟨(List.range len).map F, Or.inr ⟨a, cp, by simp, by simpa using hl, fun j u hu => ?_⟩, ?_, ?_⟩
    · have hj : j < len * 8 := by
        have := (List.getElem?_eq_some_iff.1 hu).1
        rw [pcells_len] at this
        simpa using this
      have h0 : 0 < len := by omega
      have hi : j / 8 < len := by omega
      have hs : ((List.range len).map F)[j / 8]? = some (F (j / 8)) := by simp [hi]
      have hq := pcells_at _ _ _ hs (j % 8) (by omega)
      rw [show j / 8 * 8 + j % 8 = j from by omega, hu] at hq
      have c0 := (hF 0 h0).2 0 _ rfl
      have ex : (a.add (0 * 8)).add 0 = a := by simp [Addr.add]
      rw [ex] at c0
      have := (hF (j / 8) hi).2 (j % 8) u hq.symm
      rw [add_add (addr_plain c0), show j / 8 * 8 + j % 8 = j from by omega] at this
      exact this
    · have hb := hz ((len + (m - len)) * 40) (by rw [hxx]; simp [DataW.weights, Try.underlying45, Try.bytes81'])
      unfold Fits
      unfold reachBytes at hb
      simp only [List.length_map, List.length_range]
      omega
    · intro p hpm
      obtain ⟨i, hi, rfl⟩ := List.mem_map.1 hpm
      exact (hF i (List.mem_range.1 hi)).1
set_option maxRecDepth 100000 in
/-- The nine cells of a card, read as data. -/
theorem card_cells {H : Type} {enc : TypeId × Value → H} {w : World} {base : Nat} {sp : Nat → Bool} {held : Bool} {fuel : Nat} {l : List Value} {x : DataW H × List MemPlace} (hsz : l.length = 9) (hf : DataW.trod enc Try.prog w base sp held fuel 47 l = some x) (hz : ∀ n ∈ x.1.weights Try.prog 47, n ≤ reachBytes) : ∃ (h : Hd) (u : Value) (ps : List Pt), l = cvs h u ∧ PsAt w u ps ∧ Fits ps.length ∧ Hwf h ∧ ∀ p ∈ ps, Pwf p := by
  obtain ⟨c0, c1, c2, c3, c4, c5, c6, c7, c8, rfl⟩ : ∃ c0 c1 c2 c3 c4 c5 c6 c7 c8, l = [c0, c1, c2, c3, c4, c5, c6, c7, c8] := by
    match l, hsz with
    | [c0, c1, c2, c3, c4, c5, c6, c7, c8], _ => exact ⟨c0, c1, c2, c3, c4, c5, c6, c7, c8, rfl⟩
  obtain ⟨xs, n, _, hx, _, hlen, hfl⟩ := DataW.trod_struct Try.underlying47 hf
  match xs, hlen with
  | [y0, y1, y2, y3, y4, y5, y6, y7, y8], _ =>
    have t0 : DataW.trod enc Try.prog w base sp held n 9 (([c0, c1, c2, c3, c4, c5, c6, c7, c8].drop 0).take (Try.prog.cellsOf 9)) = some y0 := hfl 0 _ rfl
    rw [Try.cells9'] at t0
    change DataW.trod enc Try.prog w base sp held n 9 [c0] = some y0 at t0
    obtain ⟨z0, e0, hy0, w0⟩ := DataW.trod_string Try.underlying9 t0
    have t1 : DataW.trod enc Try.prog w base sp held n 41 (([c0, c1, c2, c3, c4, c5, c6, c7, c8].drop 1).take (Try.prog.cellsOf 41)) = some y1 := hfl 1 _ rfl
    rw [Try.cells41'] at t1
    change DataW.trod enc Try.prog w base sp held n 41 [c1] = some y1 at t1
    obtain ⟨z1, e1, hy1, w1⟩ := DataW.trod_int Try.underlying41 t1
    have t2 : DataW.trod enc Try.prog w base sp held n 42 (([c0, c1, c2, c3, c4, c5, c6, c7, c8].drop 2).take (Try.prog.cellsOf 42)) = some y2 := hfl 2 _ rfl
    rw [Try.cells42'] at t2
    change DataW.trod enc Try.prog w base sp held n 42 [c2] = some y2 at t2
    obtain ⟨z2, e2, hy2, w2⟩ := DataW.trod_int Try.underlying42 t2
    have t3 : DataW.trod enc Try.prog w base sp held n 3 (([c0, c1, c2, c3, c4, c5, c6, c7, c8].drop 3).take (Try.prog.cellsOf 3)) = some y3 := hfl 3 _ rfl
    rw [Try.cells3'] at t3
    change DataW.trod enc Try.prog w base sp held n 3 [c3] = some y3 at t3
    obtain ⟨z3, e3, hy3, w3⟩ := DataW.trod_int Try.underlying3 t3
    have t4 : DataW.trod enc Try.prog w base sp held n 3 (([c0, c1, c2, c3, c4, c5, c6, c7, c8].drop 4).take (Try.prog.cellsOf 3)) = some y4 := hfl 4 _ rfl
    rw [Try.cells3'] at t4
    change DataW.trod enc Try.prog w base sp held n 3 [c4] = some y4 at t4
    obtain ⟨z4, e4, hy4, w4⟩ := DataW.trod_int Try.underlying3 t4
    have t5 : DataW.trod enc Try.prog w base sp held n 3 (([c0, c1, c2, c3, c4, c5, c6, c7, c8].drop 5).take (Try.prog.cellsOf 3)) = some y5 := hfl 5 _ rfl
    rw [Try.cells3'] at t5
    change DataW.trod enc Try.prog w base sp held n 3 [c5] = some y5 at t5
    obtain ⟨z5, e5, hy5, w5⟩ := DataW.trod_int Try.underlying3 t5
    have t6 : DataW.trod enc Try.prog w base sp held n 44 (([c0, c1, c2, c3, c4, c5, c6, c7, c8].drop 6).take (Try.prog.cellsOf 44)) = some y6 := hfl 6 _ rfl
    rw [Try.cells44'] at t6
    change DataW.trod enc Try.prog w base sp held n 44 [c6] = some y6 at t6
    obtain ⟨z6, e6, hy6, w6⟩ := DataW.trod_int Try.underlying44 t6
    have t7 : DataW.trod enc Try.prog w base sp held n 4 (([c0, c1, c2, c3, c4, c5, c6, c7, c8].drop 7).take (Try.prog.cellsOf 4)) = some y7 := hfl 7 _ rfl
    rw [Try.cells4'] at t7
    change DataW.trod enc Try.prog w base sp held n 4 [c7] = some y7 at t7
    obtain ⟨z7, e7, hy7⟩ := DataW.trod_bool Try.underlying4 t7
    have t8 : DataW.trod enc Try.prog w base sp held n 45 (([c0, c1, c2, c3, c4, c5, c6, c7, c8].drop 8).take (Try.prog.cellsOf 45)) = some y8 := hfl 8 _ rfl
    rw [Try.cells45'] at t8
    change DataW.trod enc Try.prog w base sp held n 45 [c8] = some y8 at t8
    simp only [List.cons.injEq, and_true] at e0 e1 e2 e3 e4 e5 e6 e7
    subst e0 e1 e2 e3 e4 e5 e6 e7
    obtain ⟨L, h1, h2, h3⟩ := parts_open t8 (fun n hn => hz n (by
      rw [hx]
      simp only [DataW.weights, Try.underlying47]
      exact DataW.weights_mem_each (j := 8) rfl rfl n hn))
    exact ⟨⟨z0, z1, z2, z3, z4, z5, z6, z7⟩, c8, L, rfl, h1, h2, ⟨w0, w1, w2, w3, w4, w5, w6⟩, h3⟩
set_option maxRecDepth 100000 in
/-- A card, read as data. -/
theorem open_card {H : Type} {enc : TypeId × Value → H} {w : World} {base : Nat} {sp : Nat → Bool} {held : Bool} {r : Reach} {b0 : Nat} {v : Value} {d : DataW H} {pl : List MemPlace} (hval : Value.okWide Try.prog w r b0 47 v) (hd : DataW.Trod enc Try.prog w base sp held 47 v d pl) (hz : ∀ n ∈ d.weights Try.prog 47, n ≤ reachBytes) : ∃ (h : Hd) (u : Value) (l : List Pt), v = cv h u ∧ PsAt w u l ∧ Fits l.length ∧ Hwf h ∧ ∀ p ∈ l, Pwf p := by
  obtain ⟨cs, rfl, hsz⟩ := okWide_struct Try.underlying47 hval
  rw [Try.cells47'] at hsz
  obtain ⟨fuel, hf⟩ := hd
  have hf' : DataW.trod enc Try.prog w base sp held fuel 47 cs.toList = some (d, pl) := hf
  obtain ⟨h, u, ps, e, k⟩ := card_cells (by simpa using hsz) hf' hz
  obtain ⟨l⟩ := cs
  have e' : l = cvs h u := e
  subst e'
  exact ⟨h, u, ps, rfl, k⟩
end Go.Proofs.Ytpoicbefemjckaa
