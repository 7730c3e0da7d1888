/-
  A card that was handed in, read as data: its fields, and where its parts lie.
  CopyParts: the same parts, in new memory.
  LentParts, SameParts, KeptParts: a list is lent with two more behind it; two lists are held against each other; a lent list is as it was.
  KeptParts: is a lent list as it was? LentCard: a card with its parts lent.
  What a book is filled with (cards, marks, whether it stays open), read as data.
-/
import Derived.Test.YtmemeloehgemcaaGreatV10
import Derived.ProofKit
import Derived.OpenShut
import Derived.ChangeOld
import Derived.Deep.Slices
import Derived.SizedLaws
import Derived.Test.YtmemeloehgemcaaGreatV3
import Derived.Test.YtmemeloehgemcaaGreatB4
import Derived.ChangeSlices
namespace Go.Proofs.YtmemeloehgemcaaGreat
open Go.ChangeShapes Go.WideShapes Go.ChangeAt Go.RowKit Go.Deep

theorem Tryz.cells3' : Tryz.prog.cellsOf 3 = 1 := by kernel_rfl
theorem Tryz.cells4' : Tryz.prog.cellsOf 4 = 1 := by kernel_rfl
theorem Tryz.cells9' : Tryz.prog.cellsOf 9 = 1 := by kernel_rfl
theorem Tryz.cells88' : Tryz.prog.cellsOf 88 = 9 := by kernel_rfl
theorem Tryz.cells85' : Tryz.prog.cellsOf 85 = 1 := by kernel_rfl
theorem Tryz.cells45' : Tryz.prog.cellsOf 45 = 1 := by kernel_rfl
theorem Tryz.cells47' : Tryz.prog.cellsOf 47 = 8 := by kernel_rfl
theorem Tryz.cells43' : Tryz.prog.cellsOf 43 = 1 := by kernel_rfl
theorem Tryz.cells62' : Tryz.prog.cellsOf 62 = 1 := by kernel_rfl
theorem Tryz.cells44' : Tryz.prog.cellsOf 44 = 1 := by kernel_rfl
theorem Tryz.cells41' : Tryz.prog.cellsOf 41 = 1 := by kernel_rfl
theorem Tryz.cells40' : Tryz.prog.cellsOf 40 = 1 := by kernel_rfl
theorem Tryz.cells42' : Tryz.prog.cellsOf 42 = 1 := by kernel_rfl
theorem Tryz.cells86' : Tryz.prog.cellsOf 86 = 1 := by kernel_rfl
theorem Tryz.bytes47' : Tryz.prog.bytesOf 47 = 40 := by kernel_rfl
/-- Each field is a number of its type. -/
structure Pwf (p : Pt) : Prop where
  wn : (Lit.int .u8 p.wn).wf = true
  vb : (Lit.int .u8 p.vb).wf = true
  wm : (Lit.int .u8 p.wm).wf = true
  ct : (Lit.int .i64 p.ct).wf = true
  su : (Lit.int .u8 p.su).wf = true
  tr : (Lit.int .u8 p.tr).wf = true
  mr : (Lit.int .u8 p.mr).wf = true
  nm : p.nm.size ≤ maxLen
structure Hwf (h : Hd) : Prop where
  nm : h.nm.size ≤ maxLen
  su : (Lit.int .u8 h.su).wf = true
  kd : (Lit.int .u8 h.kd).wf = true
  co : (Lit.int .i64 h.co).wf = true
  po : (Lit.int .i64 h.po).wf = true
  he : (Lit.int .i64 h.he).wf = true
  tr : (Lit.int .u16 h.tr).wf = true
set_option maxRecDepth 100000 in
/-- One part, read as data: eight cells. -/
theorem part_open {H : Type} {enc : TypeId × Value → H} {w : World} {base : Nat} {sp : Nat → Bool} {held : Bool} {n : Nat} {a : Addr} {cs : List Value} {x : DataW H × List MemPlace}
    (h : w.cells? base a 8 = some cs) (ht : DataW.trod enc Tryz.prog w base sp held n 47 cs = some x) : ∃ p : Pt, Pwf p ∧ ∀ k u, (pvs p)[k]? = some u → w.cell? (a.add k) = some u := by
  obtain ⟨xs, m, _, hx, _, hn, hfl⟩ := DataW.trod_struct Tryz.underlying47 ht
  obtain ⟨_, hl, hc⟩ := World.cells?_some h
  match cs, hl, xs, hn with
  | [c0, c1, c2, c3, c4, c5, c6, c7], _, [y0, y1, y2, y3, y4, y5, y6, y7], _ =>
    have t0 : DataW.trod enc Tryz.prog w base sp held m 40 (([c0, c1, c2, c3, c4, c5, c6, c7].drop 0).take (Tryz.prog.cellsOf 40)) = some y0 := hfl 0 _ rfl
    rw [Tryz.cells40'] at t0
    change DataW.trod enc Tryz.prog w base sp held m 40 [c0] = some y0 at t0
    obtain ⟨z0, e0, hy0, w0⟩ := DataW.trod_int Tryz.underlying40 t0
    have t1 : DataW.trod enc Tryz.prog w base sp held m 41 (([c0, c1, c2, c3, c4, c5, c6, c7].drop 1).take (Tryz.prog.cellsOf 41)) = some y1 := hfl 1 _ rfl
    rw [Tryz.cells41'] at t1
    change DataW.trod enc Tryz.prog w base sp held m 41 [c1] = some y1 at t1
    obtain ⟨z1, e1, hy1, w1⟩ := DataW.trod_int Tryz.underlying41 t1
    have t2 : DataW.trod enc Tryz.prog w base sp held m 42 (([c0, c1, c2, c3, c4, c5, c6, c7].drop 2).take (Tryz.prog.cellsOf 42)) = some y2 := hfl 2 _ rfl
    rw [Tryz.cells42'] at t2
    change DataW.trod enc Tryz.prog w base sp held m 42 [c2] = some y2 at t2
    obtain ⟨z2, e2, hy2, w2⟩ := DataW.trod_int Tryz.underlying42 t2
    have t3 : DataW.trod enc Tryz.prog w base sp held m 3 (([c0, c1, c2, c3, c4, c5, c6, c7].drop 3).take (Tryz.prog.cellsOf 3)) = some y3 := hfl 3 _ rfl
    rw [Tryz.cells3'] at t3
    change DataW.trod enc Tryz.prog w base sp held m 3 [c3] = some y3 at t3
    obtain ⟨z3, e3, hy3, w3⟩ := DataW.trod_int Tryz.underlying3 t3
    have t4 : DataW.trod enc Tryz.prog w base sp held m 43 (([c0, c1, c2, c3, c4, c5, c6, c7].drop 4).take (Tryz.prog.cellsOf 43)) = some y4 := hfl 4 _ rfl
    rw [Tryz.cells43'] at t4
    change DataW.trod enc Tryz.prog w base sp held m 43 [c4] = some y4 at t4
    obtain ⟨z4, e4, hy4, w4⟩ := DataW.trod_int Tryz.underlying43 t4
    have t5 : DataW.trod enc Tryz.prog w base sp held m 44 (([c0, c1, c2, c3, c4, c5, c6, c7].drop 5).take (Tryz.prog.cellsOf 44)) = some y5 := hfl 5 _ rfl
    rw [Tryz.cells44'] at t5
    change DataW.trod enc Tryz.prog w base sp held m 44 [c5] = some y5 at t5
    obtain ⟨z5, e5, hy5, w5⟩ := DataW.trod_int Tryz.underlying44 t5
    have t6 : DataW.trod enc Tryz.prog w base sp held m 45 (([c0, c1, c2, c3, c4, c5, c6, c7].drop 6).take (Tryz.prog.cellsOf 45)) = some y6 := hfl 6 _ rfl
    rw [Tryz.cells45'] at t6
    change DataW.trod enc Tryz.prog w base sp held m 45 [c6] = some y6 at t6
    obtain ⟨z6, e6, hy6, w6⟩ := DataW.trod_int Tryz.underlying45 t6
    have t7 : DataW.trod enc Tryz.prog w base sp held m 9 (([c0, c1, c2, c3, c4, c5, c6, c7].drop 7).take (Tryz.prog.cellsOf 9)) = some y7 := hfl 7 _ rfl
    rw [Tryz.cells9'] at t7
    change DataW.trod enc Tryz.prog w base sp held m 9 [c7] = some y7 at t7
    obtain ⟨z7, e7, hy7, w7⟩ := DataW.trod_string Tryz.underlying9 t7
    simp only [List.cons.injEq, and_true] at e0 e1 e2 e3 e4 e5 e6 e7
    subst e0 e1 e2 e3 e4 e5 e6 e7
    refine ⟨⟨z0, z1, z2, z3, z4, z5, z6, z7⟩, ⟨w0, w1, w2, w3, w4, w5, w6, w7⟩, fun k u hk => ?_⟩
    have hk8 : k < 8 := (List.getElem?_eq_some_iff.1 hk).1
    have := hc k hk8
    rw [this]
    rw [← hk]
    rcases (show k = 0 ∨ k = 1 ∨ k = 2 ∨ k = 3 ∨ k = 4 ∨ k = 5 ∨ k = 6 ∨ k = 7 from by omega) with rfl | rfl | rfl | rfl | rfl | rfl | rfl | rfl <;> rfl
theorem add_add {a : Addr} (h : a = ⟨a.block, a.off, none⟩) (i j : Nat) : (a.add i).add j = a.add (i + j) := by
  rw [h, add_plain, add_plain, add_plain, Nat.add_assoc]
theorem range_pick (A : Nat → Pt) (n j : Nat) (p : Pt) (h : ((List.range n).map A)[j]? = some p) : j < n ∧ p = A j := by
  have hj := (List.getElem?_eq_some_iff.1 h).1
  simp at hj
  simp [hj] at h
  exact ⟨hj, h.symm⟩
set_option maxRecDepth 100000 in
/-- A list of parts, read as data. -/
theorem parts_open {H : Type} {enc : TypeId × Value → H} {w : World} {base : Nat} {sp : Nat → Bool} {held : Bool} {fuel : Nat} {v : Value} {x : DataW H × List MemPlace}
    (h : DataW.trod enc Tryz.prog w base sp held fuel 86 [v] = some x) (hz : ∀ n ∈ x.1.weights Tryz.prog 86, n ≤ reachBytes) : ∃ l, PsAt w v l ∧ Fits l.length ∧ ∀ p ∈ l, Pwf p := by
  rcases open_slice Tryz.underlying86 h with ⟨hcs, _⟩ | ⟨a, len, cp, m, f, D, Pl, hcs, _, hl, hm, hmm, hxx, hx⟩
  · simp at hcs
    subst hcs
    exact ⟨[], Or.inl ⟨rfl, rfl⟩, by unfold Fits; decide, by simp⟩
  · simp at hcs
    subst hcs
    rw [Tryz.cells47'] at hx
    have hnm : len ≤ m := by rw [hmm]; split <;> omega
    have hp : ∀ i, i < len → ∃ p : Pt, Pwf p ∧ ∀ k u, (pvs p)[k]? = some u → w.cell? ((a.add (i * 8)).add k) = some u := fun i hi => by
      obtain ⟨cs', h1, h2⟩ := hx i (by omega)
      exact part_open h1 h2
    haveI : Inhabited Pt := ⟨⟨0, 0, 0, 0, 0, 0, 0, ⟨#[]⟩⟩⟩
    obtain ⟨F, hF⟩ := choose_lt (α := Pt) hp
    refine ⟨(List.range len).map F, Or.inr ⟨a, cp, by simp, by simpa using hl, fun j u hu => ?_⟩, ?_, ?_⟩
    · have hj : j < len * 8 := by
        have := (List.getElem?_eq_some_iff.1 hu).1
        rw [pcells_len] at this
        simpa using this
      have h0 : 0 < len := by omega
      have hi : j / 8 < len := by omega
      have hs : ((List.range len).map F)[j / 8]? = some (F (j / 8)) := by simp [hi]
      have hq := pcells_at _ _ _ hs (j % 8) (by omega)
      rw [show j / 8 * 8 + j % 8 = j from by omega, hu] at hq
      have c0 := (hF 0 h0).2 0 _ rfl
      have ex : (a.add (0 * 8)).add 0 = a := by simp [Addr.add]
      rw [ex] at c0
      have := (hF (j / 8) hi).2 (j % 8) u hq.symm
      rw [add_add (addr_plain c0), show j / 8 * 8 + j % 8 = j from by omega] at this
      exact this
    · have hb := hz ((len + (m - len)) * 40) (by rw [hxx]; simp [DataW.weights, Tryz.underlying86, Tryz.bytes47'])
      unfold Fits
      unfold reachBytes at hb
      simp only [List.length_map, List.length_range]
      omega
    · intro p hpm
      obtain ⟨i, hi, rfl⟩ := List.mem_map.1 hpm
      exact (hF i (List.mem_range.1 hi)).1
set_option maxRecDepth 100000 in
/-- The nine cells of a card, read as data. -/
theorem card_cells {H : Type} {enc : TypeId × Value → H} {w : World} {base : Nat} {sp : Nat → Bool} {held : Bool} {fuel : Nat} {l : List Value} {x : DataW H × List MemPlace} (hsz : l.length = 9) (hf : DataW.trod enc Tryz.prog w base sp held fuel 88 l = some x) (hz : ∀ n ∈ x.1.weights Tryz.prog 88, n ≤ reachBytes) : ∃ (h : Hd) (u : Value) (ps : List Pt), l = cvs h u ∧ PsAt w u ps ∧ Fits ps.length ∧ Hwf h ∧ ∀ p ∈ ps, Pwf p := by
  obtain ⟨c0, c1, c2, c3, c4, c5, c6, c7, c8, rfl⟩ : ∃ c0 c1 c2 c3 c4 c5 c6 c7 c8, l = [c0, c1, c2, c3, c4, c5, c6, c7, c8] := by
    match l, hsz with
    | [c0, c1, c2, c3, c4, c5, c6, c7, c8], _ => exact ⟨c0, c1, c2, c3, c4, c5, c6, c7, c8, rfl⟩
  obtain ⟨xs, n, _, hx, _, hlen, hfl⟩ := DataW.trod_struct Tryz.underlying88 hf
  match xs, hlen with
  | [y0, y1, y2, y3, y4, y5, y6, y7, y8], _ =>
    have t0 : DataW.trod enc Tryz.prog w base sp held n 9 (([c0, c1, c2, c3, c4, c5, c6, c7, c8].drop 0).take (Tryz.prog.cellsOf 9)) = some y0 := hfl 0 _ rfl
    rw [Tryz.cells9'] at t0
    change DataW.trod enc Tryz.prog w base sp held n 9 [c0] = some y0 at t0
    obtain ⟨z0, e0, hy0, w0⟩ := DataW.trod_string Tryz.underlying9 t0
    have t1 : DataW.trod enc Tryz.prog w base sp held n 43 (([c0, c1, c2, c3, c4, c5, c6, c7, c8].drop 1).take (Tryz.prog.cellsOf 43)) = some y1 := hfl 1 _ rfl
    rw [Tryz.cells43'] at t1
    change DataW.trod enc Tryz.prog w base sp held n 43 [c1] = some y1 at t1
    obtain ⟨z1, e1, hy1, w1⟩ := DataW.trod_int Tryz.underlying43 t1
    have t2 : DataW.trod enc Tryz.prog w base sp held n 85 (([c0, c1, c2, c3, c4, c5, c6, c7, c8].drop 2).take (Tryz.prog.cellsOf 85)) = some y2 := hfl 2 _ rfl
    rw [Tryz.cells85'] at t2
    change DataW.trod enc Tryz.prog w base sp held n 85 [c2] = some y2 at t2
    obtain ⟨z2, e2, hy2, w2⟩ := DataW.trod_int Tryz.underlying85 t2
    have t3 : DataW.trod enc Tryz.prog w base sp held n 3 (([c0, c1, c2, c3, c4, c5, c6, c7, c8].drop 3).take (Tryz.prog.cellsOf 3)) = some y3 := hfl 3 _ rfl
    rw [Tryz.cells3'] at t3
    change DataW.trod enc Tryz.prog w base sp held n 3 [c3] = some y3 at t3
    obtain ⟨z3, e3, hy3, w3⟩ := DataW.trod_int Tryz.underlying3 t3
    have t4 : DataW.trod enc Tryz.prog w base sp held n 3 (([c0, c1, c2, c3, c4, c5, c6, c7, c8].drop 4).take (Tryz.prog.cellsOf 3)) = some y4 := hfl 4 _ rfl
    rw [Tryz.cells3'] at t4
    change DataW.trod enc Tryz.prog w base sp held n 3 [c4] = some y4 at t4
    obtain ⟨z4, e4, hy4, w4⟩ := DataW.trod_int Tryz.underlying3 t4
    have t5 : DataW.trod enc Tryz.prog w base sp held n 3 (([c0, c1, c2, c3, c4, c5, c6, c7, c8].drop 5).take (Tryz.prog.cellsOf 3)) = some y5 := hfl 5 _ rfl
    rw [Tryz.cells3'] at t5
    change DataW.trod enc Tryz.prog w base sp held n 3 [c5] = some y5 at t5
    obtain ⟨z5, e5, hy5, w5⟩ := DataW.trod_int Tryz.underlying3 t5
    have t6 : DataW.trod enc Tryz.prog w base sp held n 62 (([c0, c1, c2, c3, c4, c5, c6, c7, c8].drop 6).take (Tryz.prog.cellsOf 62)) = some y6 := hfl 6 _ rfl
    rw [Tryz.cells62'] at t6
    change DataW.trod enc Tryz.prog w base sp held n 62 [c6] = some y6 at t6
    obtain ⟨z6, e6, hy6, w6⟩ := DataW.trod_int Tryz.underlying62 t6
    have t7 : DataW.trod enc Tryz.prog w base sp held n 4 (([c0, c1, c2, c3, c4, c5, c6, c7, c8].drop 7).take (Tryz.prog.cellsOf 4)) = some y7 := hfl 7 _ rfl
    rw [Tryz.cells4'] at t7
    change DataW.trod enc Tryz.prog w base sp held n 4 [c7] = some y7 at t7
    obtain ⟨z7, e7, hy7⟩ := DataW.trod_bool Tryz.underlying4 t7
    have t8 : DataW.trod enc Tryz.prog w base sp held n 86 (([c0, c1, c2, c3, c4, c5, c6, c7, c8].drop 8).take (Tryz.prog.cellsOf 86)) = some y8 := hfl 8 _ rfl
    rw [Tryz.cells86'] at t8
    change DataW.trod enc Tryz.prog w base sp held n 86 [c8] = some y8 at t8
    simp only [List.cons.injEq, and_true] at e0 e1 e2 e3 e4 e5 e6 e7
    subst e0 e1 e2 e3 e4 e5 e6 e7
    obtain ⟨L, h1, h2, h3⟩ := parts_open t8 (fun n hn => hz n (by
      rw [hx]
      simp only [DataW.weights, Tryz.underlying88]
      exact DataW.weights_mem_each (j := 8) rfl rfl n hn))
    exact ⟨⟨z0, z1, z2, z3, z4, z5, z6, z7⟩, c8, L, rfl, h1, h2, ⟨w0, w1, w2, w3, w4, w5, w6⟩, h3⟩
set_option maxRecDepth 100000 in
/-- A card, read as data. -/
theorem open_card {H : Type} {enc : TypeId × Value → H} {w : World} {base : Nat} {sp : Nat → Bool} {held : Bool} {r : Reach} {b0 : Nat} {v : Value} {d : DataW H} {pl : List MemPlace} (hval : Value.okWide Tryz.prog w r b0 88 v) (hd : DataW.Trod enc Tryz.prog w base sp held 88 v d pl) (hz : ∀ n ∈ d.weights Tryz.prog 88, n ≤ reachBytes) : ∃ (h : Hd) (u : Value) (l : List Pt), v = cv h u ∧ PsAt w u l ∧ Fits l.length ∧ Hwf h ∧ ∀ p ∈ l, Pwf p := by
  obtain ⟨cs, rfl, hsz⟩ := okWide_struct Tryz.underlying88 hval
  rw [Tryz.cells88'] at hsz
  obtain ⟨fuel, hf⟩ := hd
  have hf' : DataW.trod enc Tryz.prog w base sp held fuel 88 cs.toList = some (d, pl) := hf
  obtain ⟨h, u, ps, e, k⟩ := card_cells (by simpa using hsz) hf' hz
  obtain ⟨l⟩ := cs
  have e' : l = cvs h u := e
  subst e'
  exact ⟨h, u, ps, rfl, k⟩
end Go.Proofs.YtmemeloehgemcaaGreat
namespace Go.Proofs.YtmemeloehgemcaaGreat
open Go.RowKit

set_option maxHeartbeats 1000000 in
/-- CopyParts: the same parts, in new memory. -/
theorem copy_any (v : Value) (ps : List Pt) (w : World) (h : PsAt w v ps) (hb : ps.length * 40 ≤ 140737488355328) : Calls Tryz.prog 84 #[v] w fun e w' => ∃ u, e = .returned u ∧ POwn w' w.heap.size u ps ∧ w.grownBy w' none := by
  obtain ⟨i0, hi, hz0, hz1, hz2⟩ := info_of Tryz.info47
  go_enter Tryz.func84, Tryz.ntmps84
  rcases h with ⟨rfl, rfl⟩ | ⟨ad, cap, rfl, hc, h⟩
  · go_wp2
    go_ret
    exact ⟨_, rfl, POwn.nil _ _, grown_refl _ _⟩
  · go_wp2_with (at_builtin; refine wpList_append_own_at _ rfl _ _ 86 rfl w.heap.size 47 i0 _ 8 40 Tryz.underlying86 hi hz0 hz1 hz2 rfl (by decide) _ 0 [] rfl (POwn.nil w _) ad ps.length cap (pcells ps) rfl (pcells_len ps) h (pcells_one ps) (by unfold maxLen; omega) (by rw [Nat.zero_add]; exact hb) (Nat.le_refl _) ?_; intro v1 w1 o1 g1 _ _)
    go_ret
    refine ⟨_, rfl, ?_, g1⟩
    simpa [POwn] using o1
end Go.Proofs.YtmemeloehgemcaaGreat
namespace Go.Proofs.YtmemeloehgemcaaGreat
open Go.RowKit

def mkP : Pt := ⟨0, 0, 0, 0, 0, 0, 0, ⟨#[109, 97, 114, 107]⟩⟩
theorem mk_cells {w : World} {g : Nat} (h : w.heap[g]? = some (.cells #[.int .u8 0, .int .u8 0, .int .u8 0, .int .i64 0, .int .u8 0, .int .u8 0, .int .u8 0, .string ⟨#[109, 97, 114, 107]⟩, .int .u8 0, .int .u8 0, .int .u8 0, .int .i64 0, .int .u8 0, .int .u8 0, .int .u8 0, .string ⟨#[109, 97, 114, 107]⟩] 47 (0, 0))) : ∀ j u, (pcells [mkP, mkP])[j]? = some u → w.cell? ((⟨g, 0, none⟩ : Addr).add j) = some u := fun j u hu => by
  rw [add_plain, Nat.zero_add, block_cell h]
  simpa [pcells, pvs, mkP] using hu
theorem own_app {w : World} {base : Nat} {v : Value} {a b : List Pt} (h : w.ownsRow base 47 8 v (a.length + b.length) (pcells a ++ pcells b)) : POwn w base v (a ++ b) := by
  unfold POwn
  rw [List.length_append, pcells_app]
  exact h
end Go.Proofs.YtmemeloehgemcaaGreat
namespace Go.Proofs.YtmemeloehgemcaaGreat
open Go.RowKit

end Go.Proofs.YtmemeloehgemcaaGreat
namespace Go.Proofs.YtmemeloehgemcaaGreat
open Go.ChangeShapes Go.WideShapes Go.ChangeAt Go.RowKit Go.Deep

theorem u8_of {n : Int} (h : (Lit.int .u8 n).wf = true) : 0 ≤ n ∧ n ≤ 255 := by
  simp [Lit.wf, IntKind.min, IntKind.max, IntKind.signed, IntKind.bits] at h
  omega
theorem u16_of {n : Int} (h : (Lit.int .u16 n).wf = true) : 0 ≤ n ∧ n ≤ 65535 := by
  simp [Lit.wf, IntKind.min, IntKind.max, IntKind.signed, IntKind.bits] at h
  omega
theorem i64_of {n : Int} (h : (Lit.int .i64 n).wf = true) : -9223372036854775808 ≤ n ∧ n ≤ 9223372036854775807 := by
  have h1 : IntKind.i64.min = -9223372036854775808 := rfl
  have h2 : IntKind.i64.max = 9223372036854775807 := rfl
  simp [Lit.wf, h1, h2] at h
  omega
theorem wf_of {h : Hd} {ps : List Pt} (k : Hwf h) (q : ∀ p ∈ ps, Pwf p) : (h.with ps).wf := ⟨u8_of k.su, u8_of k.kd, i64_of k.co, i64_of k.po, i64_of k.he, u16_of k.tr, fun p hp => ⟨u8_of (q p hp).wn, u8_of (q p hp).vb, u8_of (q p hp).wm, i64_of (q p hp).ct, u8_of (q p hp).su, u8_of (q p hp).tr, u8_of (q p hp).mr⟩⟩
theorem Tryz.cells92'' : Tryz.prog.cellsOf 92 = 4 := by kernel_rfl
theorem Tryz.cells45'' : Tryz.prog.cellsOf 45 = 1 := by kernel_rfl
/-- The four cells of a mark, read as data. -/
theorem mark_cells {H : Type} {enc : TypeId × Value → H} {w : World} {base : Nat} {sp : Nat → Bool} {held : Bool} {fuel : Nat} {l : List Value} {x : DataW H × List MemPlace} (hsz : l.length = 4) (hf : DataW.trod enc Tryz.prog w base sp held fuel 92 l = some x) : ∃ m : Mk, l = mvs m ∧ (0 ≤ m.mi ∧ m.mi ≤ 255) := by
  obtain ⟨c0, c1, c2, c3, rfl⟩ : ∃ c0 c1 c2 c3, l = [c0, c1, c2, c3] := by
    match l, hsz with
    | [c0, c1, c2, c3], _ => exact ⟨c0, c1, c2, c3, rfl⟩
  obtain ⟨xs, n, _, hx, _, hlen, hfl⟩ := DataW.trod_struct Tryz.underlying92 hf
  match xs, hlen with
  | [y0, y1, y2, y3], _ =>
    have t0 : DataW.trod enc Tryz.prog w base sp held n 45 (([c0, c1, c2, c3].drop 0).take (Tryz.prog.cellsOf 45)) = some y0 := hfl 0 _ rfl
    have t1 : DataW.trod enc Tryz.prog w base sp held n 9 (([c0, c1, c2, c3].drop 1).take (Tryz.prog.cellsOf 9)) = some y1 := hfl 1 _ rfl
    have t2 : DataW.trod enc Tryz.prog w base sp held n 3 (([c0, c1, c2, c3].drop 2).take (Tryz.prog.cellsOf 3)) = some y2 := hfl 2 _ rfl
    have t3 : DataW.trod enc Tryz.prog w base sp held n 3 (([c0, c1, c2, c3].drop 3).take (Tryz.prog.cellsOf 3)) = some y3 := hfl 3 _ rfl
    rw [Tryz.cells45''] at t0
    rw [Tryz.cells9'] at t1
    rw [Tryz.cells3'] at t2 t3
    obtain ⟨z0, e0, _, w0⟩ := DataW.trod_int Tryz.underlying45 (cs := [c0]) t0
    obtain ⟨z1, e1, _, _⟩ := DataW.trod_string Tryz.underlying9 (cs := [c1]) t1
    obtain ⟨z2, e2, _, _⟩ := DataW.trod_int Tryz.underlying3 (cs := [c2]) t2
    obtain ⟨z3, e3, _, _⟩ := DataW.trod_int Tryz.underlying3 (cs := [c3]) t3
    simp only [List.cons.injEq, and_true] at e0 e1 e2 e3
    subst e0 e1 e2 e3
    exact ⟨⟨z0, z1, z2, z3⟩, rfl, by have h0 := w0; simp [Lit.wf, IntKind.min, IntKind.max, IntKind.signed, IntKind.bits] at h0; omega⟩
theorem bytesC : Tryz.prog.bytesOf 88 = 80 := by kernel_rfl
theorem bytesM : Tryz.prog.bytesOf 92 = 40 := by kernel_rfl
theorem weights_in {H : Type} {P : Program} {e : TypeId} {n : Nat} : ∀ {l : List (DataW H)} {d : DataW H}, d ∈ l → n ∈ d.weights P e → n ∈ DataW.weightsAll P e l
  | x :: r, d, hd, hn => by
    simp only [DataW.weightsAll, List.mem_append]
    rcases List.mem_cons.1 hd with rfl | hd
    · exact Or.inl hn
    · exact Or.inr (weights_in hd hn)
set_option maxRecDepth 100000 in
/-- A list of cards, read as data. -/
theorem cards_open {H : Type} {enc : TypeId × Value → H} {w : World} {base : Nat} {sp : Nat → Bool} {held : Bool} {fuel : Nat} {v : Value} {x : DataW H × List MemPlace}
    (h : DataW.trod enc Tryz.prog w base sp held fuel 22 [v] = some x) (hz : ∀ n ∈ x.1.weights Tryz.prog 22, n ≤ reachBytes) : ∃ cs : List Ent, (∃ a k, v = .slice a cs.length k ∧ (0 < cs.length → ∃ g o, a = some ⟨g, o, none⟩ ∧ EsAt w g o cs)) ∧ (∀ e ∈ cs, PsAt w e.v e.ps ∧ Fits e.ps.length ∧ (e.h.with e.ps).wf) ∧ Small cs.length := by
  rcases open_slice Tryz.underlying22 h with ⟨hcs, _⟩ | ⟨a, len, cp, m, f, D, Pl, hcs, _, hl, hm, hmm, hxx, hx⟩
  · simp at hcs
    subst hcs
    exact ⟨[], ⟨none, 0, rfl, fun h0 => by simp at h0⟩, by simp, by unfold Small; decide⟩
  · simp at hcs
    subst hcs
    rw [Tryz.cells88'] at hx
    have hnm : len ≤ m := by rw [hmm]; split <;> omega
    have hp : ∀ i, i < len → ∃ e : Ent, (PsAt w e.v e.ps ∧ Fits e.ps.length ∧ (e.h.with e.ps).wf) ∧ ∀ k u, (cvs e.h e.v)[k]? = some u → w.cell? ((a.add (i * 9)).add k) = some u := fun i hi => by
      obtain ⟨cs', h1, h2⟩ := hx i (by omega)
      obtain ⟨_, hlen, hc⟩ := World.cells?_some h1
      obtain ⟨hd, u, ps, e, p1, p2, p3⟩ := card_cells hlen h2 (fun n hn => hz n (by
        rw [hxx]
        simp only [DataW.weights, Tryz.underlying22]
        exact List.mem_cons_of_mem _ (List.mem_append_left _ (weights_in (List.mem_map.2 ⟨i, List.mem_range.2 hi, rfl⟩) hn))))
      subst e
      refine ⟨⟨hd, u, ps⟩, ⟨p1, p2, wf_of p3.1 p3.2⟩, fun k y hk => ?_⟩
      have hk9 : k < 9 := (List.getElem?_eq_some_iff.1 hk).1
      rw [hc k hk9]
      exact hk
    haveI : Inhabited Ent := ⟨⟨Hd.none, .bool false, []⟩⟩
    obtain ⟨F, hF⟩ := choose_lt (α := Ent) hp
    refine ⟨(List.range len).map F, ⟨some a, cp, by simp, fun h0 => ?_⟩, ?_, ?_⟩
    · have h0' : 0 < len := by simpa using h0
      have c0 := (hF 0 h0').2 0 _ rfl
      have ex : (a.add (0 * 9)).add 0 = a := by simp [Addr.add]
      rw [ex] at c0
      have pl := addr_plain c0
      refine ⟨a.block, a.off, by rw [← pl], fun j e he => ?_⟩
      have hj : j < len := by have := (List.getElem?_eq_some_iff.1 he).1; simpa using this
      obtain rfl : e = F j := by simp [hj] at he; exact he.symm
      have at_ : ∀ k u, (cvs (F j).h (F j).v)[k]? = some u → w.cell? ⟨a.block, a.off + j * 9 + k, none⟩ = some u := fun k u hk => by
        have := (hF j hj).2 k u hk
        rw [add_add pl, pl, add_plain, ← Nat.add_assoc] at this
        exact this
      exact ⟨at_ 0 _ rfl, at_ 1 _ rfl, at_ 2 _ rfl, at_ 3 _ rfl, at_ 4 _ rfl, at_ 5 _ rfl, at_ 6 _ rfl, at_ 7 _ rfl, at_ 8 _ rfl⟩
    · intro e he
      obtain ⟨i, hi, rfl⟩ := List.mem_map.1 he
      exact (hF i (List.mem_range.1 hi)).1
    · have hb := hz ((len + (m - len)) * 80) (by rw [hxx]; simp [DataW.weights, Tryz.underlying22, bytesC])
      unfold reachBytes at hb
      unfold Small
      simp only [List.length_map, List.length_range]
      omega
set_option maxRecDepth 100000 in
/-- A list of marks, read as data. -/
theorem marks_open {H : Type} {enc : TypeId × Value → H} {w : World} {base : Nat} {sp : Nat → Bool} {held : Bool} {fuel : Nat} {v : Value} {x : DataW H × List MemPlace}
    (h : DataW.trod enc Tryz.prog w base sp held fuel 23 [v] = some x) (hz : ∀ n ∈ x.1.weights Tryz.prog 23, n ≤ reachBytes) : ∃ ms : List Mk, (∃ a k, v = .slice a ms.length k ∧ (0 < ms.length → ∃ g o, a = some ⟨g, o, none⟩ ∧ MAt w g o ms)) ∧ (∀ m ∈ ms, 0 ≤ m.mi ∧ m.mi ≤ 255) ∧ Small ms.length := by
  rcases open_slice Tryz.underlying23 h with ⟨hcs, _⟩ | ⟨a, len, cp, m, f, D, Pl, hcs, _, hl, hm, hmm, hxx, hx⟩
  · simp at hcs
    subst hcs
    exact ⟨[], ⟨none, 0, rfl, fun h0 => by simp at h0⟩, by simp, by unfold Small; decide⟩
  · simp at hcs
    subst hcs
    rw [Tryz.cells92''] at hx
    have hnm : len ≤ m := by rw [hmm]; split <;> omega
    have hp : ∀ i, i < len → ∃ e : Mk, (0 ≤ e.mi ∧ e.mi ≤ 255) ∧ ∀ k u, (mvs e)[k]? = some u → w.cell? ((a.add (i * 4)).add k) = some u := fun i hi => by
      obtain ⟨cs', h1, h2⟩ := hx i (by omega)
      obtain ⟨_, hlen, hc⟩ := World.cells?_some h1
      obtain ⟨e, he, hr⟩ := mark_cells hlen h2
      subst he
      refine ⟨e, hr, fun k y hk => ?_⟩
      have hk4 : k < 4 := (List.getElem?_eq_some_iff.1 hk).1
      rw [hc k hk4]
      exact hk
    haveI : Inhabited Mk := ⟨Mk.none⟩
    obtain ⟨F, hF⟩ := choose_lt (α := Mk) hp
    refine ⟨(List.range len).map F, ⟨some a, cp, by simp, fun h0 => ?_⟩, fun m hm => by obtain ⟨i, hi, rfl⟩ := List.mem_map.1 hm; exact (hF i (List.mem_range.1 hi)).1, by
      have hb := hz ((len + (m - len)) * 40) (by rw [hxx]; simp [DataW.weights, Tryz.underlying23, bytesM])
      unfold reachBytes at hb
      unfold Small
      simp only [List.length_map, List.length_range]
      omega⟩
    have h0' : 0 < len := by simpa using h0
    have c0 := (hF 0 h0').2 0 _ rfl
    have ex : (a.add (0 * 4)).add 0 = a := by simp [Addr.add]
    rw [ex] at c0
    have pl := addr_plain c0
    refine ⟨a.block, a.off, by rw [← pl], fun j e he => ?_⟩
    have hj : j < len := by have := (List.getElem?_eq_some_iff.1 he).1; simpa using this
    obtain rfl : e = F j := by simp [hj] at he; exact he.symm
    have at_ : ∀ k u, (mvs (F j))[k]? = some u → w.cell? ⟨a.block, a.off + j * 4 + k, none⟩ = some u := fun k u hk => by
      have := (hF j hj).2 k u hk
      rw [add_add pl, pl, add_plain, ← Nat.add_assoc] at this
      exact this
    exact ⟨at_ 0 _ rfl, at_ 1 _ rfl, at_ 2 _ rfl, at_ 3 _ rfl⟩
/-- What a book is filled with, where it lies. -/
structure FiA (w : World) (vc vm : Value) (cs : List Ent) (ms : List Mk) : Prop where
  c : ∃ a k, vc = .slice a cs.length k ∧ (0 < cs.length → ∃ g o, a = some ⟨g, o, none⟩ ∧ EsAt w g o cs)
  m : ∃ a k, vm = .slice a ms.length k ∧ (0 < ms.length → ∃ g o, a = some ⟨g, o, none⟩ ∧ MAt w g o ms)
  ps : ∀ e ∈ cs, PsAt w e.v e.ps ∧ Fits e.ps.length ∧ (e.h.with e.ps).wf
  mr : ∀ m ∈ ms, 0 ≤ m.mi ∧ m.mi ≤ 255
  cz : Small cs.length
  mz : Small ms.length
theorem FiA.keep {w w' : World} {vc vm : Value} {cs : List Ent} {ms : List Mk} (h : FiA w vc vm cs ms) (g : w.grownBy w' none) : FiA w' vc vm cs ms := by
  obtain ⟨⟨a, k, e, h1⟩, ⟨c, m, i, h3⟩, h4, h5, h6, h7⟩ := h
  refine ⟨⟨a, k, e, fun h0 => ?_⟩, ⟨c, m, i, fun h0 => ?_⟩, fun e he => ⟨(h4 e he).1.keep g, (h4 e he).2⟩, h5, h6, h7⟩
  · obtain ⟨x, o, e1, e2⟩ := h1 h0; exact ⟨x, o, e1, e2.keep g⟩
  · obtain ⟨x, o, e1, e2⟩ := h3 h0; exact ⟨x, o, e1, e2.keep g⟩
theorem cellsOfFill : Tryz.prog.cellsOf 25 = 3 := by kernel_rfl
theorem Tryz.cells22'' : Tryz.prog.cellsOf 22 = 1 := by kernel_rfl
theorem Tryz.cells4'' : Tryz.prog.cellsOf 4 = 1 := by kernel_rfl
theorem Tryz.cells23'' : Tryz.prog.cellsOf 23 = 1 := by kernel_rfl
set_option maxRecDepth 100000 in
/-- What a book is filled with, read as data. -/
theorem open_fill {H : Type} {enc : TypeId × Value → H} {w : World} {base : Nat} {sp : Nat → Bool} {held : Bool} {r : Reach} {b0 : Nat} {v : Value} {d : DataW H} {pl : List MemPlace} (hval : Value.okWide Tryz.prog w r b0 25 v) (hd : DataW.Trod enc Tryz.prog w base sp held 25 v d pl) (hz : ∀ n ∈ d.weights Tryz.prog 25, n ≤ reachBytes) : ∃ (vc vm : Value) (op : Bool) (cs : List Ent) (ms : List Mk), v = .agg #[vc, vm, .bool op] ∧ FiA w vc vm cs ms := by
  obtain ⟨cs, rfl, hsz⟩ := okWide_struct Tryz.underlying25 hval
  rw [cellsOfFill] at hsz
  obtain ⟨fuel, hf⟩ := hd
  obtain ⟨l⟩ := cs
  obtain ⟨c0, c1, c2, rfl⟩ : ∃ c0 c1 c2, l = [c0, c1, c2] := by
    match l, (show l.length = 3 from hsz) with
    | [c0, c1, c2], _ => exact ⟨c0, c1, c2, rfl⟩
  obtain ⟨xs, n, _, hx, _, hlen, hfl⟩ := DataW.trod_struct Tryz.underlying25 hf
  match xs, hlen with
  | [y0, y1, y2], _ =>
    have t0 : DataW.trod enc Tryz.prog w base sp held n 22 (([c0, c1, c2].drop 0).take (Tryz.prog.cellsOf 22)) = some y0 := hfl 0 _ rfl
    have t1 : DataW.trod enc Tryz.prog w base sp held n 23 (([c0, c1, c2].drop 1).take (Tryz.prog.cellsOf 23)) = some y1 := hfl 1 _ rfl
    have t2 : DataW.trod enc Tryz.prog w base sp held n 4 (([c0, c1, c2].drop 2).take (Tryz.prog.cellsOf 4)) = some y2 := hfl 2 _ rfl
    rw [Tryz.cells22''] at t0
    rw [Tryz.cells23''] at t1
    rw [Tryz.cells4''] at t2
    obtain ⟨cs, hC, hP, hCz⟩ := cards_open (v := c0) t0 (fun n hn => hz n (by
      rw [(Prod.mk.inj hx).1]
      simp only [DataW.weights, Tryz.underlying25]
      exact DataW.weights_mem_each (j := 0) rfl rfl n hn))
    obtain ⟨ms, hM, hK, hMz⟩ := marks_open (v := c1) t1 (fun n hn => hz n (by
      rw [(Prod.mk.inj hx).1]
      simp only [DataW.weights, Tryz.underlying25]
      exact DataW.weights_mem_each (j := 1) rfl rfl n hn))
    obtain ⟨op, e2, _⟩ := DataW.trod_bool Tryz.underlying4 (cs := [c2]) t2
    simp only [List.cons.injEq, and_true] at e2
    subst e2
    exact ⟨c0, c1, op, cs, ms, rfl, hC, hM, hP, hK, hCz, hMz⟩
end Go.Proofs.YtmemeloehgemcaaGreat
