/-
  A card that was handed in, read as data: its fields, and where its parts lie.
  LentInts, CopyInts, KeptInts: a list of numbers lent, copied, as it was.
  A sealed book refuses whatever is added.
-/
import Derived.Test.YtknlcjhcamhfmaaGreatDoorJ13
import Derived.ProofKit
import Derived.OpenShut
import Derived.ChangeOld
import Derived.Deep.Slices
import Derived.SizedLaws
import Derived.Test.YtknlcjhcamhfmaaGreatDoorJ0
import Derived.Test.YtknlcjhcamhfmaaGreatDoorJ22
import Derived.Test.YtknlcjhcamhfmaaGreatDoorJ27
import Derived.Test.YtknlcjhcamhfmaaGreatDoorLNoting
import Derived.Laws.MakeOwn
import Derived.Laws.AppendOwnNone
import Derived.OwnWalk
import Derived.Maps.AppendAt
import Derived.Test.YtknlcjhcamhfmaaGreatDoorJ43
namespace Go.Proofs.YtknlcjhcamhfmaaGreatDoor
open Go.ChangeShapes Go.WideShapes Go.ChangeAt Go.RowKit Go.Deep

theorem Tryz.cells3' : Tryz.prog.cellsOf 3 = 1 := by kernel_rfl
theorem Tryz.cells4' : Tryz.prog.cellsOf 4 = 1 := by kernel_rfl
theorem Tryz.cells9' : Tryz.prog.cellsOf 9 = 1 := by kernel_rfl
theorem Tryz.cells56' : Tryz.prog.cellsOf 56 = 9 := by kernel_rfl
theorem Tryz.cells51' : Tryz.prog.cellsOf 51 = 1 := by kernel_rfl
theorem Tryz.cells58' : Tryz.prog.cellsOf 58 = 1 := by kernel_rfl
theorem Tryz.cells115' : Tryz.prog.cellsOf 115 = 8 := by kernel_rfl
theorem Tryz.cells50' : Tryz.prog.cellsOf 50 = 1 := by kernel_rfl
theorem Tryz.cells53' : Tryz.prog.cellsOf 53 = 1 := by kernel_rfl
theorem Tryz.cells57' : Tryz.prog.cellsOf 57 = 1 := by kernel_rfl
theorem Tryz.cells112' : Tryz.prog.cellsOf 112 = 1 := by kernel_rfl
theorem Tryz.cells111' : Tryz.prog.cellsOf 111 = 1 := by kernel_rfl
theorem Tryz.cells113' : Tryz.prog.cellsOf 113 = 1 := by kernel_rfl
theorem Tryz.cells54' : Tryz.prog.cellsOf 54 = 1 := by kernel_rfl
theorem Tryz.bytes115' : Tryz.prog.bytesOf 115 = 40 := by kernel_rfl
/-- Each field is a number of its type. -/
structure Pwf (p : Pt) : Prop where
  wn : (Lit.int .u8 p.wn).wf = true
  vb : (Lit.int .u8 p.vb).wf = true
  wm : (Lit.int .u8 p.wm).wf = true
  ct : (Lit.int .i64 p.ct).wf = true
  su : (Lit.int .u8 p.su).wf = true
  tr : (Lit.int .u8 p.tr).wf = true
  mr : (Lit.int .u8 p.mr).wf = true
  nm : p.nm.size ≤ maxLen
structure Hwf (h : Hd) : Prop where
  nm : h.nm.size ≤ maxLen
  su : (Lit.int .u8 h.su).wf = true
  kd : (Lit.int .u8 h.kd).wf = true
  co : (Lit.int .i64 h.co).wf = true
  po : (Lit.int .i64 h.po).wf = true
  he : (Lit.int .i64 h.he).wf = true
  tr : (Lit.int .u16 h.tr).wf = true
set_option maxRecDepth 100000 in
/-- One part, read as data: eight cells. -/
theorem part_open {H : Type} {enc : TypeId × Value → H} {w : World} {base : Nat} {sp : Nat → Bool} {held : Bool} {n : Nat} {a : Addr} {cs : List Value} {x : DataW H × List MemPlace}
    (h : w.cells? base a 8 = some cs) (ht : DataW.trod enc Tryz.prog w base sp held n 115 cs = some x) : ∃ p : Pt, Pwf p ∧ ∀ k u, (pvs p)[k]? = some u → w.cell? (a.add k) = some u := by
  obtain ⟨xs, m, _, hx, _, hn, hfl⟩ := DataW.trod_struct Tryz.underlying115 ht
  obtain ⟨_, hl, hc⟩ := World.cells?_some h
  match cs, hl, xs, hn with
  | [c0, c1, c2, c3, c4, c5, c6, c7], _, [y0, y1, y2, y3, y4, y5, y6, y7], _ =>
    have t0 : DataW.trod enc Tryz.prog w base sp held m 111 (([c0, c1, c2, c3, c4, c5, c6, c7].drop 0).take (Tryz.prog.cellsOf 111)) = some y0 := hfl 0 _ rfl
    rw [Tryz.cells111'] at t0
    change DataW.trod enc Tryz.prog w base sp held m 111 [c0] = some y0 at t0
    obtain ⟨z0, e0, hy0, w0⟩ := DataW.trod_int Tryz.underlying111 t0
    have t1 : DataW.trod enc Tryz.prog w base sp held m 112 (([c0, c1, c2, c3, c4, c5, c6, c7].drop 1).take (Tryz.prog.cellsOf 112)) = some y1 := hfl 1 _ rfl
    rw [Tryz.cells112'] at t1
    change DataW.trod enc Tryz.prog w base sp held m 112 [c1] = some y1 at t1
    obtain ⟨z1, e1, hy1, w1⟩ := DataW.trod_int Tryz.underlying112 t1
    have t2 : DataW.trod enc Tryz.prog w base sp held m 113 (([c0, c1, c2, c3, c4, c5, c6, c7].drop 2).take (Tryz.prog.cellsOf 113)) = some y2 := hfl 2 _ rfl
    rw [Tryz.cells113'] at t2
    change DataW.trod enc Tryz.prog w base sp held m 113 [c2] = some y2 at t2
    obtain ⟨z2, e2, hy2, w2⟩ := DataW.trod_int Tryz.underlying113 t2
    have t3 : DataW.trod enc Tryz.prog w base sp held m 3 (([c0, c1, c2, c3, c4, c5, c6, c7].drop 3).take (Tryz.prog.cellsOf 3)) = some y3 := hfl 3 _ rfl
    rw [Tryz.cells3'] at t3
    change DataW.trod enc Tryz.prog w base sp held m 3 [c3] = some y3 at t3
    obtain ⟨z3, e3, hy3, w3⟩ := DataW.trod_int Tryz.underlying3 t3
    have t4 : DataW.trod enc Tryz.prog w base sp held m 50 (([c0, c1, c2, c3, c4, c5, c6, c7].drop 4).take (Tryz.prog.cellsOf 50)) = some y4 := hfl 4 _ rfl
    rw [Tryz.cells50'] at t4
    change DataW.trod enc Tryz.prog w base sp held m 50 [c4] = some y4 at t4
    obtain ⟨z4, e4, hy4, w4⟩ := DataW.trod_int Tryz.underlying50 t4
    have t5 : DataW.trod enc Tryz.prog w base sp held m 57 (([c0, c1, c2, c3, c4, c5, c6, c7].drop 5).take (Tryz.prog.cellsOf 57)) = some y5 := hfl 5 _ rfl
    rw [Tryz.cells57'] at t5
    change DataW.trod enc Tryz.prog w base sp held m 57 [c5] = some y5 at t5
    obtain ⟨z5, e5, hy5, w5⟩ := DataW.trod_int Tryz.underlying57 t5
    have t6 : DataW.trod enc Tryz.prog w base sp held m 58 (([c0, c1, c2, c3, c4, c5, c6, c7].drop 6).take (Tryz.prog.cellsOf 58)) = some y6 := hfl 6 _ rfl
    rw [Tryz.cells58'] at t6
    change DataW.trod enc Tryz.prog w base sp held m 58 [c6] = some y6 at t6
    obtain ⟨z6, e6, hy6, w6⟩ := DataW.trod_int Tryz.underlying58 t6
    have t7 : DataW.trod enc Tryz.prog w base sp held m 9 (([c0, c1, c2, c3, c4, c5, c6, c7].drop 7).take (Tryz.prog.cellsOf 9)) = some y7 := hfl 7 _ rfl
    rw [Tryz.cells9'] at t7
    change DataW.trod enc Tryz.prog w base sp held m 9 [c7] = some y7 at t7
    obtain ⟨z7, e7, hy7, w7⟩ := DataW.trod_string Tryz.underlying9 t7
    simp only [List.cons.injEq, and_true] at e0 e1 e2 e3 e4 e5 e6 e7
    subst e0 e1 e2 e3 e4 e5 e6 e7
    refine ⟨⟨z0, z1, z2, z3, z4, z5, z6, z7⟩, ⟨w0, w1, w2, w3, w4, w5, w6, w7⟩, fun k u hk => ?_⟩
    have hk8 : k < 8 := (List.getElem?_eq_some_iff.1 hk).1
    have := hc k hk8
    rw [this]
    rw [← hk]
    rcases (show k = 0 ∨ k = 1 ∨ k = 2 ∨ k = 3 ∨ k = 4 ∨ k = 5 ∨ k = 6 ∨ k = 7 from by omega) with rfl | rfl | rfl | rfl | rfl | rfl | rfl | rfl <;> rfl
theorem add_add {a : Addr} (h : a = ⟨a.block, a.off, none⟩) (i j : Nat) : (a.add i).add j = a.add (i + j) := by
  rw [h, add_plain, add_plain, add_plain, Nat.add_assoc]
theorem range_pick (A : Nat → Pt) (n j : Nat) (p : Pt) (h : ((List.range n).map A)[j]? = some p) : j < n ∧ p = A j := by
  have hj := (List.getElem?_eq_some_iff.1 h).1
  simp at hj
  simp [hj] at h
  exact ⟨hj, h.symm⟩
set_option maxRecDepth 100000 in
/-- A list of parts, read as data. -/
theorem parts_open {H : Type} {enc : TypeId × Value → H} {w : World} {base : Nat} {sp : Nat → Bool} {held : Bool} {fuel : Nat} {v : Value} {x : DataW H × List MemPlace}
    (h : DataW.trod enc Tryz.prog w base sp held fuel 54 [v] = some x) (hz : ∀ n ∈ x.1.weights Tryz.prog 54, n ≤ reachBytes) : ∃ l, PsAt w v l ∧ Fits l.length ∧ ∀ p ∈ l, Pwf p := by
  rcases open_slice Tryz.underlying54 h with ⟨hcs, _⟩ | ⟨a, len, cp, m, f, D, Pl, hcs, _, hl, hm, hmm, hxx, hx⟩
  · simp at hcs
    subst hcs
    exact ⟨[], Or.inl ⟨rfl, rfl⟩, by unfold Fits; decide, by simp⟩
  · simp at hcs
    subst hcs
    rw [Tryz.cells115'] at hx
    have hnm : len ≤ m := by rw [hmm]; split <;> omega
    have hp : ∀ i, i < len → ∃ p : Pt, Pwf p ∧ ∀ k u, (pvs p)[k]? = some u → w.cell? ((a.add (i * 8)).add k) = some u := fun i hi => by
      obtain ⟨cs', h1, h2⟩ := hx i (by omega)
      exact part_open h1 h2
    haveI : Inhabited Pt := ⟨⟨0, 0, 0, 0, 0, 0, 0, ⟨#[]⟩⟩⟩
    obtain ⟨F, hF⟩ := choose_lt (α := Pt) hp
    refine ⟨(List.range len).map F, Or.inr ⟨a, cp, by simp, by simpa using hl, fun j u hu => ?_⟩, ?_, ?_⟩
    · have hj : j < len * 8 := by
        have := (List.getElem?_eq_some_iff.1 hu).1
        rw [pcells_len] at this
        simpa using this
      have h0 : 0 < len := by omega
      have hi : j / 8 < len := by omega
      have hs : ((List.range len).map F)[j / 8]? = some (F (j / 8)) := by simp [hi]
      have hq := pcells_at _ _ _ hs (j % 8) (by omega)
      rw [show j / 8 * 8 + j % 8 = j from by omega, hu] at hq
      have c0 := (hF 0 h0).2 0 _ rfl
      have ex : (a.add (0 * 8)).add 0 = a := by simp [Addr.add]
      rw [ex] at c0
      have := (hF (j / 8) hi).2 (j % 8) u hq.symm
      rw [add_add (addr_plain c0), show j / 8 * 8 + j % 8 = j from by omega] at this
      exact this
    · have hb := hz ((len + (m - len)) * 40) (by rw [hxx]; simp [DataW.weights, Tryz.underlying54, Tryz.bytes115'])
      unfold Fits
      unfold reachBytes at hb
      simp only [List.length_map, List.length_range]
      omega
    · intro p hpm
      obtain ⟨i, hi, rfl⟩ := List.mem_map.1 hpm
      exact (hF i (List.mem_range.1 hi)).1
set_option maxRecDepth 100000 in
/-- The nine cells of a card, read as data. -/
theorem card_cells {H : Type} {enc : TypeId × Value → H} {w : World} {base : Nat} {sp : Nat → Bool} {held : Bool} {fuel : Nat} {l : List Value} {x : DataW H × List MemPlace} (hsz : l.length = 9) (hf : DataW.trod enc Tryz.prog w base sp held fuel 56 l = some x) (hz : ∀ n ∈ x.1.weights Tryz.prog 56, n ≤ reachBytes) : ∃ (h : Hd) (u : Value) (ps : List Pt), l = cvs h u ∧ PsAt w u ps ∧ Fits ps.length ∧ Hwf h ∧ ∀ p ∈ ps, Pwf p := by
  obtain ⟨c0, c1, c2, c3, c4, c5, c6, c7, c8, rfl⟩ : ∃ c0 c1 c2 c3 c4 c5 c6 c7 c8, l = [c0, c1, c2, c3, c4, c5, c6, c7, c8] := by
    match l, hsz with
    | [c0, c1, c2, c3, c4, c5, c6, c7, c8], _ => exact ⟨c0, c1, c2, c3, c4, c5, c6, c7, c8, rfl⟩
  obtain ⟨xs, n, _, hx, _, hlen, hfl⟩ := DataW.trod_struct Tryz.underlying56 hf
  match xs, hlen with
  | [y0, y1, y2, y3, y4, y5, y6, y7, y8], _ =>
    have t0 : DataW.trod enc Tryz.prog w base sp held n 9 (([c0, c1, c2, c3, c4, c5, c6, c7, c8].drop 0).take (Tryz.prog.cellsOf 9)) = some y0 := hfl 0 _ rfl
    rw [Tryz.cells9'] at t0
    change DataW.trod enc Tryz.prog w base sp held n 9 [c0] = some y0 at t0
    obtain ⟨z0, e0, hy0, w0⟩ := DataW.trod_string Tryz.underlying9 t0
    have t1 : DataW.trod enc Tryz.prog w base sp held n 50 (([c0, c1, c2, c3, c4, c5, c6, c7, c8].drop 1).take (Tryz.prog.cellsOf 50)) = some y1 := hfl 1 _ rfl
    rw [Tryz.cells50'] at t1
    change DataW.trod enc Tryz.prog w base sp held n 50 [c1] = some y1 at t1
    obtain ⟨z1, e1, hy1, w1⟩ := DataW.trod_int Tryz.underlying50 t1
    have t2 : DataW.trod enc Tryz.prog w base sp held n 51 (([c0, c1, c2, c3, c4, c5, c6, c7, c8].drop 2).take (Tryz.prog.cellsOf 51)) = some y2 := hfl 2 _ rfl
    rw [Tryz.cells51'] at t2
    change DataW.trod enc Tryz.prog w base sp held n 51 [c2] = some y2 at t2
    obtain ⟨z2, e2, hy2, w2⟩ := DataW.trod_int Tryz.underlying51 t2
    have t3 : DataW.trod enc Tryz.prog w base sp held n 3 (([c0, c1, c2, c3, c4, c5, c6, c7, c8].drop 3).take (Tryz.prog.cellsOf 3)) = some y3 := hfl 3 _ rfl
    rw [Tryz.cells3'] at t3
    change DataW.trod enc Tryz.prog w base sp held n 3 [c3] = some y3 at t3
    obtain ⟨z3, e3, hy3, w3⟩ := DataW.trod_int Tryz.underlying3 t3
    have t4 : DataW.trod enc Tryz.prog w base sp held n 3 (([c0, c1, c2, c3, c4, c5, c6, c7, c8].drop 4).take (Tryz.prog.cellsOf 3)) = some y4 := hfl 4 _ rfl
    rw [Tryz.cells3'] at t4
    change DataW.trod enc Tryz.prog w base sp held n 3 [c4] = some y4 at t4
    obtain ⟨z4, e4, hy4, w4⟩ := DataW.trod_int Tryz.underlying3 t4
    have t5 : DataW.trod enc Tryz.prog w base sp held n 3 (([c0, c1, c2, c3, c4, c5, c6, c7, c8].drop 5).take (Tryz.prog.cellsOf 3)) = some y5 := hfl 5 _ rfl
    rw [Tryz.cells3'] at t5
    change DataW.trod enc Tryz.prog w base sp held n 3 [c5] = some y5 at t5
    obtain ⟨z5, e5, hy5, w5⟩ := DataW.trod_int Tryz.underlying3 t5
    have t6 : DataW.trod enc Tryz.prog w base sp held n 53 (([c0, c1, c2, c3, c4, c5, c6, c7, c8].drop 6).take (Tryz.prog.cellsOf 53)) = some y6 := hfl 6 _ rfl
    rw [Tryz.cells53'] at t6
    change DataW.trod enc Tryz.prog w base sp held n 53 [c6] = some y6 at t6
    obtain ⟨z6, e6, hy6, w6⟩ := DataW.trod_int Tryz.underlying53 t6
    have t7 : DataW.trod enc Tryz.prog w base sp held n 4 (([c0, c1, c2, c3, c4, c5, c6, c7, c8].drop 7).take (Tryz.prog.cellsOf 4)) = some y7 := hfl 7 _ rfl
    rw [Tryz.cells4'] at t7
    change DataW.trod enc Tryz.prog w base sp held n 4 [c7] = some y7 at t7
    obtain ⟨z7, e7, hy7⟩ := DataW.trod_bool Tryz.underlying4 t7
    have t8 : DataW.trod enc Tryz.prog w base sp held n 54 (([c0, c1, c2, c3, c4, c5, c6, c7, c8].drop 8).take (Tryz.prog.cellsOf 54)) = some y8 := hfl 8 _ rfl
    rw [Tryz.cells54'] at t8
    change DataW.trod enc Tryz.prog w base sp held n 54 [c8] = some y8 at t8
    simp only [List.cons.injEq, and_true] at e0 e1 e2 e3 e4 e5 e6 e7
    subst e0 e1 e2 e3 e4 e5 e6 e7
    obtain ⟨L, h1, h2, h3⟩ := parts_open t8 (fun n hn => hz n (by
      rw [hx]
      simp only [DataW.weights, Tryz.underlying56]
      exact DataW.weights_mem_each (j := 8) rfl rfl n hn))
    exact ⟨⟨z0, z1, z2, z3, z4, z5, z6, z7⟩, c8, L, rfl, h1, h2, ⟨w0, w1, w2, w3, w4, w5, w6⟩, h3⟩
set_option maxRecDepth 100000 in
/-- A card, read as data. -/
theorem open_card {H : Type} {enc : TypeId × Value → H} {w : World} {base : Nat} {sp : Nat → Bool} {held : Bool} {r : Reach} {b0 : Nat} {v : Value} {d : DataW H} {pl : List MemPlace} (hval : Value.okWide Tryz.prog w r b0 56 v) (hd : DataW.Trod enc Tryz.prog w base sp held 56 v d pl) (hz : ∀ n ∈ d.weights Tryz.prog 56, n ≤ reachBytes) : ∃ (h : Hd) (u : Value) (l : List Pt), v = cv h u ∧ PsAt w u l ∧ Fits l.length ∧ Hwf h ∧ ∀ p ∈ l, Pwf p := by
  obtain ⟨cs, rfl, hsz⟩ := okWide_struct Tryz.underlying56 hval
  rw [Tryz.cells56'] at hsz
  obtain ⟨fuel, hf⟩ := hd
  have hf' : DataW.trod enc Tryz.prog w base sp held fuel 56 cs.toList = some (d, pl) := hf
  obtain ⟨h, u, ps, e, k⟩ := card_cells (by simpa using hsz) hf' hz
  obtain ⟨l⟩ := cs
  have e' : l = cvs h u := e
  subst e'
  exact ⟨h, u, ps, rfl, k⟩
end Go.Proofs.YtknlcjhcamhfmaaGreatDoor
namespace Go.Proofs.YtknlcjhcamhfmaaGreatDoor
open Go.RowKit

/-- Numbers that were handed in. -/
def IntsA (w : World) (v : Value) (os : List Int) : Prop := (v = .slice none 0 0 ∧ os = []) ∨ ∃ ad cap, v = .slice (some ad) os.length cap ∧ ∀ (j : Nat) u, (ints os)[j]? = some u → w.cell? (Addr.add ad j) = some u
theorem IntsA.keep {w w' : World} {v : Value} {os : List Int} (h : IntsA w v os) (g : w.grownBy w' none) : IntsA w' v os := by
  rcases h with h | ⟨ad, cap, e, h⟩
  · exact Or.inl h
  · exact Or.inr ⟨ad, cap, e, fun j u hu => g.cell (h j u hu) (by simp)⟩
theorem IntsA.in {w : World} {v : Value} {os : List Int} (h : IntsA w v os) : IntsIn w v os := by
  rcases h with ⟨rfl, rfl⟩ | ⟨ad, cap, rfl, h⟩
  · exact ⟨none, 0, rfl, fun h => absurd h (by decide)⟩
  · refine ⟨some ad, cap, rfl, fun h0 => ?_⟩
    have c0 := h 0 _ (ints_at os 0 h0)
    have ex : Addr.add ad 0 = ad := by simp [Addr.add]
    rw [ex] at c0
    have pl := addr_plain c0
    refine ⟨ad.block, ad.off, by rw [← pl], fun j x hx => ?_⟩
    have hj := (List.getElem?_eq_some_iff.1 hx).1
    have h9 := h j (.int .i64 x) (by unfold ints; rw [List.getElem?_map, hx]; rfl)
    rw [pl, add_plain] at h9
    exact h9
theorem ints_one (l : List Int) : ∀ u ∈ ints l, u.oneCell' = true := fun u hu => by
  obtain ⟨z, _, rfl⟩ := List.mem_map.1 hu
  rfl
theorem ints_app (a b : List Int) : ints (a ++ b) = ints a ++ ints b := by simp [ints]
theorem m77 {w : World} {g : Nat} (h : w.heap[g]? = some (.cells #[.int .i64 (-77), .int .i64 (-77)] 3 (0, 0))) : ∀ j u, (ints [-77, -77])[j]? = some u → w.cell? ((⟨g, 0, none⟩ : Addr).add j) = some u := fun j u hu => by
  rw [add_plain, Nat.zero_add, block_cell h]
  simpa [ints] using hu
theorem own_two {w : World} {base : Nat} {v : Value} {n : Nat} {xs : List Value} (h : w.ownsRow base 3 1 v (n + 2) xs) : ∃ g c, v = .slice (some ⟨g, 0, none⟩) (n + 2) c := by
  rcases h.2 with ⟨_, h0⟩ | ⟨g, cap, _, rfl, _⟩
  · omega
  · exact ⟨g, cap, rfl⟩
theorem Tryz.info3i : (Tryz.prog.info? 3).map (fun i => (i.zero, i.size, i.bytes)) = some (some (.int .i64 0), 1, 8) := by kernel_rfl
set_option maxRecDepth 100000 in
set_option maxHeartbeats 2000000 in
theorem lentI_any (v : Value) (os : List Int) (w : World) (h : IntsA w v os) (hb : (os.length + 2) * 8 ≤ 140737488355328) : Calls Tryz.prog 22 #[v] w fun e w' => e = .returned (.slice (some ⟨w.heap.size, 0, none⟩) (os.length + 2) (os.length + 2)) ∧ w'.ownsRow w.heap.size 3 1 (.slice (some ⟨w.heap.size, 0, none⟩) (os.length + 2) (os.length + 2)) (os.length + 2) (ints (os ++ [-77, -77])) ∧ w.grownBy w' none := by
  obtain ⟨i0, hi, hz0, hz1, hz2⟩ := info_parts Tryz.info3i
  have hw : wrap64 ((os.length : Int) + 2) = (os.length : Int) + 2 := by unfold wrap64; omega
  have hC : Hid (((os.length : Int) + 2) = ((os.length + 2 : Nat) : Int)) := by unfold Hid; omega
  have hB : Hid (i0.bytes * (os.length + 2) ≤ 281474976710656) := by unfold Hid; rw [hz2]; omega
  have hM : Hid (os.length + 2 ≤ maxLen) := by unfold Hid maxLen; omega
  rcases h with ⟨rfl, rfl⟩ | ⟨ad, cap, rfl, h⟩
  · go_enter Tryz.func22, Tryz.ntmps22
    go_wp2_with (first | (at_make; refine wpList_make_own _ rfl _ _ 28 rfl w.heap.size 3 i0 _ 1 Tryz.underlying28 hi hz0 hz1 .i64 .i64 _ 2 rfl rfl rfl (by rw [hz2]; decide) (by decide) (Nat.le_refl _) ?_; intro w1 o1 g1) | (at_builtin; refine wpList_append_own_none rfl (.tmp 8) (.tmp 9) 28 rfl w.heap.size 3 i0 1 Tryz.underlying28 hi _ 0 [] rfl o1 rfl ?_) | (at_builtin; refine wpList_append_fits _ rfl (.tmp 11) (.tmp 12) 28 rfl w.heap.size 3 i0 1 Tryz.underlying28 hi hz1 w.heap.size 0 2 [] rfl (o1.alloc _) ⟨w1.heap.size, 0, none⟩ 2 2 (ints [-77, -77]) rfl rfl (m77 (alloc_at _ _ _)) (ints_one _) (by decide) ?_; intro w3 o3 g3) | fail)
    go_ret
    have G : w.grownBy w3 none := grown_own (grown_push g1 _) g3 (fun x e => by cases e; exact Nat.le_refl _)
    exact ⟨rfl, o3, G⟩
  · have HS : Hid (∀ j u, (ints os)[j]? = some u → w.cell? (ad.add j) = some u) := h
    clear h
    go_enter Tryz.func22, Tryz.ntmps22
    go_wp2_with (first | (at_make; refine wpList_make_own _ rfl _ _ 28 rfl w.heap.size 3 i0 _ 1 Tryz.underlying28 hi hz0 hz1 .i64 .i64 _ (os.length + 2) rfl rfl hC.out hB.out hM.out (Nat.le_refl _) ?_; intro w1 o1 g1) | (at_builtin; refine wpList_append_fits _ rfl (.tmp 8) (.tmp 9) 28 rfl w.heap.size 3 i0 1 Tryz.underlying28 hi hz1 w.heap.size 0 (os.length + 2) [] rfl o1 ad os.length cap (ints os) rfl (by rw [length_ints, Nat.mul_one]) (fun j u hu => g1.cell (HS.out j u hu) (by simp)) (ints_one os) (by omega) ?_; intro w2 o2 g2; rw [Nat.zero_add, List.nil_append] at o2) | (at_builtin; refine wpList_append_fits _ rfl (.tmp 11) (.tmp 12) 28 rfl w.heap.size 3 i0 1 Tryz.underlying28 hi hz1 w.heap.size os.length (os.length + 2) (ints os) rfl (o2.alloc _) ⟨w2.heap.size, 0, none⟩ 2 2 (ints [-77, -77]) rfl rfl (m77 (alloc_at _ _ _)) (ints_one _) (by omega) ?_; intro w3 o3 g3) | fail)
    go_ret
    have G : w.grownBy w3 none := grown_own (grown_push (grown_own g1 g2 (fun x e => by cases e; exact Nat.le_refl _)) _) g3 (fun x e => by cases e; exact Nat.le_refl _)
    rw [ints_app]
    exact ⟨rfl, o3, G⟩
set_option maxRecDepth 100000 in
set_option maxHeartbeats 2000000 in
theorem copyI_any (v : Value) (os : List Int) (w : World) (h : IntsA w v os) (hb : (os.length + 2) * 8 ≤ 140737488355328) : Calls Tryz.prog 66 #[v] w fun e w' => ∃ u, e = .returned u ∧ w'.ownsRow w.heap.size 3 1 u os.length (ints os) ∧ w.grownBy w' none := by
  obtain ⟨i0, hi, hz0, hz1, hz2⟩ := info_parts Tryz.info3i
  rcases h with ⟨rfl, rfl⟩ | ⟨ad, cap, rfl, h⟩
  · go_enter Tryz.func66, Tryz.ntmps66
    go_wp2_with (first | (at_builtin; refine wpList_append_own_none rfl (.tmp 4) (.tmp 5) 28 rfl w.heap.size 3 i0 1 Tryz.underlying28 hi _ 0 [] rfl (World.ownsRow_nil _ _ _ _) rfl ?_) | fail)
    go_ret
    exact ⟨_, rfl, World.ownsRow_nil _ _ _ _, grown_refl _ _⟩
  · have HS : Hid (∀ j u, (ints os)[j]? = some u → w.cell? (ad.add j) = some u) := h
    clear h
    go_enter Tryz.func66, Tryz.ntmps66
    go_wp2_with (first | (at_builtin; refine wpList_append_own _ rfl (.tmp 4) (.tmp 5) 28 rfl w.heap.size 3 i0 _ 1 8 Tryz.underlying28 hi hz0 hz1 hz2 rfl (by decide) (.slice none 0 0) 0 [] rfl (World.ownsRow_nil _ _ _ _) ad os.length cap (ints os) rfl (by rw [length_ints, Nat.mul_one]) HS.out (ints_one os) (by unfold maxLen; omega) (by omega) (Nat.le_refl _) ?_; intro v3 w3 o3 g3 _; rw [Nat.zero_add, List.nil_append] at o3) | fail)
    go_ret
    exact ⟨_, rfl, o3, grown_own (grown_refl _ _) g3 (fun x e => by cases e)⟩
set_option maxRecDepth 100000 in
set_option maxHeartbeats 2000000 in
theorem keptI_any (vf vl : Value) (base : Nat) (os : List Int) (w : World) (hf : L.Own w base vf (os ++ [-77, -77])) (hl : IntsA w vl os) (hb : (os.length + 2) * 8 ≤ 140737488355328) : Calls Tryz.prog 24 #[vf, vl] w fun e w' => e = .returned (.bool true) ∧ w.grownBy w' none := by
  obtain ⟨i0, hi, hz0, hz1, hz2⟩ := info_parts Tryz.info3i
  have HF : Hid (L.Own w base vf (os ++ [-77, -77])) := hf
  have C1 := copyI_any vl os w hl hb
  obtain ⟨fa, fc, rfl⟩ := hf.form
  obtain ⟨la, ln, lc, rfl⟩ : ∃ a n c, vl = .slice a n c := by
    rcases hl with ⟨rfl, _⟩ | ⟨ad, cap, rfl, _⟩
    · exact ⟨_, _, _, rfl⟩
    · exact ⟨_, _, _, rfl⟩
  clear hf hl
  go_enter Tryz.func24, Tryz.ntmps24
  go_wp2_with fail
  refine C1.mono ?_
  rintro e w1 ⟨u, rfl, o1, g1⟩
  obtain ⟨ua, uc, rfl⟩ : ∃ a c, u = .slice a os.length c := by
    rcases o1.2 with ⟨h, h0⟩ | ⟨g, cap, cur, h, _⟩
    · exact ⟨none, 0, by rw [h, h0]⟩
    · exact ⟨_, _, h⟩
  have hs1 : w.heap.size ≤ w1.heap.size := g1.size
  go_wp2_with (first | (at_builtin; refine wpList_append_own _ rfl (.tmp 7) (.tmp 8) 28 rfl w.heap.size 3 i0 _ 1 8 Tryz.underlying28 hi hz0 hz1 hz2 rfl (by decide) _ os.length (ints os) rfl (World.ownsRow.alloc o1 _) ⟨w1.heap.size, 0, none⟩ 2 2 (ints [-77, -77]) rfl rfl (m77 (alloc_at _ _ _)) (ints_one _) (by unfold maxLen; omega) (by omega) (by rw [World.size_alloc]; omega) ?_; intro v3 w3 o3 g3 _; obtain ⟨g', c3, rfl⟩ : ∃ g c, v3 = .slice (some ⟨g, 0, none⟩) (os.length + 2) c := own_two o3) | fail)
  have G3 : w.grownBy w3 none := grown_own (grown_push g1 _) g3 (fun x e => (World.ownsRow.lt o1 x e).1)
  have O3 : L.Own w3 w.heap.size (.slice (some ⟨g', 0, none⟩) (os.length + 2) c3) (os ++ [-77, -77]) := by
    unfold L.Own
    rw [List.length_append]
    rw [← ints_app] at o3
    exact o3
  have F3 : L.Own w3 base (.slice fa (os ++ [-77, -77]).length fc) (os ++ [-77, -77]) := World.ownsRow.kept HF.out G3 (by cases fa <;> simp [Value.ownBlock])
  have hln : (os ++ [-77, -77] : List Int).length = os.length + 2 := by simp
  rw [hln] at F3
  refine (L.same_ints _ _ _ _ _ F3.ints O3.ints).mono ?_
  rintro e w4 ⟨rfl, n4, h4⟩
  rw [decide_eq_true rfl]
  have G4 : w.grownBy w4 none := by rw [h4]; exact grown_trans G3 (grown_drewN _ _ _)
  clear o1 g1 o3 g3 G3 O3 F3 h4 C1
  go_wp2
  go_ret
  exact ⟨rfl, G4⟩
end Go.Proofs.YtknlcjhcamhfmaaGreatDoor
namespace Go.Proofs.YtknlcjhcamhfmaaGreatDoor
open Go.RowKit

theorem refuse7 {w : World} {a : Nat} {es : List Ent} (F : FB w a es) : Calls Tryz.prog 58 #[.pointer (some ⟨a, 0, none⟩)] w fun e w' => e = .returned (.int .i64 7) ∧ w' = w := refusal_yes a es.length pShut w F.book.lies.flags
set_option maxRecDepth 100000 in
set_option maxHeartbeats 1000000 in
theorem card7 {w : World} {a : Nat} {es : List Ent} (F : FB w a es) (h : Hd) (x : Option Addr) (n c : Nat) : Calls Tryz.prog 25 #[.pointer (some ⟨a, 0, none⟩), cv h (.slice x n c)] w fun e w' => e = .returned (.int .i64 7) ∧ w.grownBy w' none := by
  obtain ⟨m0, m1, m2, m3, m4, m5, m6, m7⟩ := h
  have C := fun W (g : w.grownBy W none) => refuse7 (F.keep g)
  unfold cv
  simp only
  go_enter Tryz.func25, Tryz.ntmps25
  go_wp2_with fail
  refine (C _ (World.grownBy_alloc _ _ none)).mono ?_
  rintro e W1 ⟨rfl, rfl⟩
  go_wp2
  go_ret
  exact ⟨rfl, World.grownBy_alloc _ _ none⟩
set_option maxRecDepth 100000 in
set_option maxHeartbeats 1000000 in
theorem trait7 {w : World} {a : Nat} {es : List Ent} (F : FB w a es) (t : Int) (s : ByteArray) : Calls Tryz.prog 26 #[.pointer (some ⟨a, 0, none⟩), .int .u8 t, .string s] w fun e w' => e = .returned (.int .i64 7) ∧ w.grownBy w' none := by
  have C := fun W (g : w.grownBy W none) => refuse7 (F.keep g)
  go_enter Tryz.func26, Tryz.ntmps26
  go_wp2_with fail
  refine (C _ (grown_refl _ _)).mono ?_
  rintro e W1 ⟨rfl, rfl⟩
  go_wp2
  go_ret
  exact ⟨rfl, grown_refl _ _⟩
set_option maxRecDepth 100000 in
set_option maxHeartbeats 1000000 in
theorem mark7 {w : World} {a : Nat} {es : List Ent} (F : FB w a es) (m : Mk) : Calls Tryz.prog 27 #[.pointer (some ⟨a, 0, none⟩), mv m] w fun e w' => e = .returned (.int .i64 7) ∧ w.grownBy w' none := by
  obtain ⟨m0, m1, m2, m3⟩ := m
  have C := fun W (g : w.grownBy W none) => refuse7 (F.keep g)
  unfold mv
  simp only
  go_enter Tryz.func27, Tryz.ntmps27
  go_wp2_with fail
  refine (C _ (World.grownBy_alloc _ _ none)).mono ?_
  rintro e W1 ⟨rfl, rfl⟩
  go_wp2
  go_ret
  exact ⟨rfl, World.grownBy_alloc _ _ none⟩
set_option maxRecDepth 100000 in
set_option maxHeartbeats 1000000 in
theorem seal7 {w : World} {a : Nat} {es : List Ent} (F : FB w a es) : Calls Tryz.prog 18 #[.pointer (some ⟨a, 0, none⟩)] w fun e w' => e = .returned (.int .i64 7) ∧ w.grownBy w' none := by
  have C := fun W (g : w.grownBy W none) => refuse7 (F.keep g)
  go_enter Tryz.func18, Tryz.ntmps18
  go_wp2_with fail
  refine (C _ (grown_refl _ _)).mono ?_
  rintro e W1 ⟨rfl, rfl⟩
  go_wp2
  go_ret
  exact ⟨rfl, grown_refl _ _⟩
/-- A try: a card, a trait and its name, a mark. -/
structure Tr where
  h : Hd
  a : Option Addr
  n : Nat
  c : Nat
  t : Int
  s : ByteArray
  m : Mk
def trv (x : Tr) : List Value := cvs x.h (.slice x.a x.n x.c) ++ (.int .u8 x.t :: .string x.s :: mvs x.m)
/-- Tries that were handed in. -/
def TrsIn (w : World) (v : Value) (xs : List Tr) : Prop := ∃ a k, v = .slice a xs.length k ∧ (0 < xs.length → ∃ g o, a = some ⟨g, o, none⟩ ∧ ∀ (j : Nat) x, xs[j]? = some x → ∀ k u, (trv x)[k]? = some u → w.cell? ⟨g, o + j * 15 + k, none⟩ = some u)
end Go.Proofs.YtknlcjhcamhfmaaGreatDoor
