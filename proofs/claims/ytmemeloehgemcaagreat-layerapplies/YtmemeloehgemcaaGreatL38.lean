/-
  Layers' laws: what stands while a law asks of one book; answers of effects that a layer has.
  Layers: what a part that stands makes of features.
  Layers, plainly: each effect of a layer once, as it comes.
  Layers, plainly: whom an effect is about, by their numbers; what becomes of each feature.
-/
import Derived.Test.YtmemeloehgemcaaGreatL35
import Derived.Test.YtmemeloehgemcaaGreatL36
import Derived.Test.YtmemeloehgemcaaGreatBoB
import Derived.Test.YtmemeloehgemcaaGreatL22
namespace Go.Proofs.YtmemeloehgemcaaGreat
open Go.RowKit Go.Shelf

/-- What stands while a law asks. -/
structure RaS (w wr : World) (b1 : Nat) (bv vt vf : Value) (r m : Int) (cd : Int → Hd × List Pt) (ts : List Th) (fs : List Fe) : Prop where
  inn : LIn wr bv vt vf r m cd ts fs
  tab : TabB wr b1 vt vf
  gr : w.grownBy wr none
theorem RaS.keep {w wr wr' : World} {b1 : Nat} {bv vt vf : Value} {r m : Int} {cd : Int → Hd × List Pt} {ts : List Th} {fs : List Fe} (h : RaS w wr b1 bv vt vf r m cd ts fs) (g : wr.grownBy wr' none) : RaS w wr' b1 bv vt vf r m cd ts fs := ⟨h.inn.keep g, grown_keep g h.tab (by simp), grown_trans h.gr g⟩
theorem Tab.app {n : Int} {cd : Int → Hd × List Pt} {ts : List Th} {fs : List Fe} {R : List Rw} {F : List Fe} {k : Int} {a : Se} {w w' : World} {e : Ending} (h : Tab n cd ts fs R) (ha : a ∈ effL R F k) (q : ApplyPost w 0 n cd ts fs a.s e w') : ∃ p c, e = .returned (.tuple #[.slice p (amgL fs R (applyL R (pickF R fs) a)).length c, .int .i64 0]) ∧ w.grownBy w' none ∧ FOwn w' w.heap.size (.slice p (amgL fs R (applyL R (pickF R fs) a)).length c) (amgL fs R (applyL R (pickF R fs) a)) := by
  obtain ⟨p, m, c, e1, g, _, h1⟩ := q
  have o := h1 R a rfl h.tab (h.one ha)
  rw [lkE_ok h.tab (h.one ha)] at e1
  obtain ⟨p', c', e2⟩ := RecT.Own.form o
  cases e2
  exact ⟨p, c, e1, g, o⟩
theorem Tab.abt {n : Int} {cd : Int → Hd × List Pt} {ts : List Th} {fs : List Fe} {R : List Rw} {F : List Fe} {k : Int} {a : Se} {w w' : World} {e : Ending} (h : Tab n cd ts fs R) (ha : a ∈ effL R F k) (q : AboutPost w 0 n cd ts fs a.s e w') : ∃ p c, e = .returned (.tuple #[.slice p (numL R (aboutL R (pickF R fs) a)).length c, .int .i64 0]) ∧ w.grownBy w' none ∧ LOwnI w' w.heap.size (.slice p (numL R (aboutL R (pickF R fs) a)).length c) (numL R (aboutL R (pickF R fs) a)) := by
  obtain ⟨p, m, c, e1, g, _, h1⟩ := q
  have o := h1 R a rfl h.tab (h.one ha)
  rw [lkE_ok h.tab (h.one ha)] at e1
  obtain ⟨p', c', e2⟩ := LOwnI.form o
  cases e2
  exact ⟨p, c, e1, g, o⟩
theorem map_s_at {L : List Se} {i : Nat} (h : i < L.length) : (L.map Se.s)[i]'(by simpa using h) = (L.getD i Se.none).s := by rw [List.getElem_map, getD_in h]
theorem es_there {w : World} {v : Value} {L : List Se} (h : sdR.At w v (L.map Se.s)) {i : Nat} (hi : i < L.length) : ∃ g off cap, v = .slice (some ⟨g, off, none⟩) L.length cap ∧ w.rangeAt g (off + i * 10) (sdc (L.getD i Se.none).s) := by
  obtain ⟨g, off, cap, e, q⟩ := sd_there h (i := i) (by simpa using hi)
  rw [map_s_at hi] at q
  exact ⟨g, off, cap, by rw [e, List.length_map], q⟩
theorem es_slice {w : World} {v : Value} {L : List Se} (h : sdR.At w v (L.map Se.s)) (h0 : 0 < L.length) : ∃ g off cap, v = .slice (some ⟨g, off, none⟩) L.length cap ∧ ∀ w', w.grownBy w' none → ∀ i, i < L.length → w'.rangeAt g (off + i * 10) (sdc (L.getD i Se.none).s) := by
  obtain ⟨g, off, cap, e, _⟩ := es_there h h0
  refine ⟨g, off, cap, e, fun w' gr i hi => ?_⟩
  obtain ⟨g', off', cap', e', q⟩ := es_there (h.keep gr) hi
  rw [e] at e'
  cases e'
  exact q
theorem FiA.forms {w : World} {vc vm : Value} {cs : List Ent} {ms : List Mk} (h : FiA w vc vm cs ms) : ∃ a k a' k', vc = .slice a cs.length k ∧ vm = .slice a' ms.length k' := by
  obtain ⟨a, k, e, _⟩ := h.c
  obtain ⟨a', k', e', _⟩ := h.m
  exact ⟨a, k, a', k', e, e'⟩
theorem Tab.effs {n : Int} {cd : Int → Hd × List Pt} {ts : List Th} {fs : List Fe} {R : List Rw} (h : Tab n cd ts fs R) (hc : ∀ c, (cd c).2.length ≤ 4) (F : List Fe) (k : Int) : (effL R F k).length ≤ 64 := by
  have hp : ∀ i, (R.getD i Rw.none).ps.length ≤ 4 := fun i => by
    by_cases hi : i < R.length
    · rw [getD_in hi]
      obtain ⟨j, t, f, _, _, c⟩ := tbl_of _ _ _ (h.perm.mem_iff.1 (List.getElem_mem hi))
      rw [c]
      exact hc _
    · rw [List.getD_eq_getElem?_getD, List.getElem?_eq_none (by omega)]
      exact Nat.zero_le _
  have := effU_len (F := F) (k := k) hp R.length
  have := h.few
  unfold effL
  omega
def FilB (w : World) (g : Nat) (vc vm : Value) (op : Bool) : Prop := w.heap[g]? = some (.cells #[vc, vm, .bool op] 25 (0, 0))
theorem fil_box {w : World} {g : Nat} {vc vm : Value} {op : Bool} (h : FilB w g vc vm op) : w.cell? ⟨g, 0, none⟩ = some vc ∧ w.cell? ⟨g, 1, none⟩ = some vm ∧ w.cell? ⟨g, 2, none⟩ = some (.bool op) := ⟨(block_cell h 0).trans rfl, (block_cell h 1).trans rfl, (block_cell h 2).trans rfl⟩
/-- What stands ahead of the book. -/
structure Pre (w W : World) (b0 b1 : Nat) (vc vm vt vf : Value) (op : Bool) (cs : List Ent) (ms : List Mk) (ts : List Th) (fs : List Fe) : Prop where
  fi : FiA W vc vm cs ms
  th : thR.At W vt ts
  fe : feR.At W vf fs
  fb : FilB W b0 vc vm op
  tb : TabB W b1 vt vf
  gr : w.grownBy W none
theorem Pre.keep {w W W' : World} {b0 b1 : Nat} {vc vm vt vf : Value} {op : Bool} {cs : List Ent} {ms : List Mk} {ts : List Th} {fs : List Fe} (h : Pre w W b0 b1 vc vm vt vf op cs ms ts fs) (g : W.grownBy W' none) : Pre w W' b0 b1 vc vm vt vf op cs ms ts fs := ⟨h.fi.keep g, h.th.keep g, h.fe.keep g, grown_keep g h.fb (by simp), grown_keep g h.tb (by simp), grown_trans h.gr g⟩
theorem Pre.ras {w W W' : World} {b0 b1 : Nat} {vc vm vt vf : Value} {op : Bool} {cs : List Ent} {ms : List Mk} {ts : List Th} {fs : List Fe} {n b r : Nat} {v : Value} {es fs' : List Ent} {p : Pl} (h : Pre w W b0 b1 vc vm vt vf op cs ms ts fs) (g : W.grownBy W' none) (P : Pr (okB n) W' b r v es fs' p) (hf : fs.length ≤ 4096) : RaS w W' b1 (.pointer (some ⟨b, 0, none⟩)) vt vf (refE p ts.length) (es.length : Int) (atC p es) ts fs := ⟨LIn.of P.book (h.th.keep g) (h.fe.keep g) hf, (h.keep g).tb, (h.keep g).gr⟩
end Go.Proofs.YtmemeloehgemcaaGreat
namespace Go.Proofs.YtmemeloehgemcaaGreat
open Go.RowKit

set_option maxRecDepth 100000 in
set_option maxHeartbeats 4000000 in
theorem lawch_ho (f : Fe) (p : Pt) (ho : Int) (w : World) (hv : p.vb = 10) : Calls Tryz.prog 16 #[fev f, pv p, .int .i64 ho] w fun e w' => e = .returned (fev { f with ho := ho }) ∧ w.grownBy w' none := by
  obtain ⟨W1, hW1⟩ : ∃ W1, W1 = ((w.alloc (.cells #[.int .i64 f.ho, .int .u8 f.su, .int .u16 f.tr, .int .i64 f.po, .int .i64 f.he] 64)).alloc (.cells #[.int .u8 p.wn, .int .u8 p.vb, .int .u8 p.wm, .int .i64 p.ct, .int .u8 p.su, .int .u8 p.tr, .int .u8 p.mr, .string p.nm] 47)).alloc (.cells #[.int .i64 0, .int .u8 0, .int .u16 0, .int .i64 0, .int .i64 0] 64) := ⟨_, rfl⟩
  have HG1 : Hid (w.grownBy W1 none) := by rw [hW1]; exact grown_push (grown_push (World.grownBy_alloc _ _ none) _) _
  have HF : Hid (W1.heap[w.heap.size]? = some (.cells #[.int .i64 f.ho, .int .u8 f.su, .int .u16 f.tr, .int .i64 f.po, .int .i64 f.he] 64 (0, 0))) := by rw [hW1]; exact grown_keep (grown_push (World.grownBy_alloc _ _ none) _) (alloc_at w _ _) (by simp)
  have HP : Hid (W1.heap[w.heap.size + 1]? = some (.cells #[.int .u8 p.wn, .int .u8 p.vb, .int .u8 p.wm, .int .i64 p.ct, .int .u8 p.su, .int .u8 p.tr, .int .u8 p.mr, .string p.nm] 47 (0, 0))) := by rw [hW1]; exact grown_keep (World.grownBy_alloc _ _ none) (alloc2_b _ _ _ _) (by simp)
  have HR : Hid (W1.heap[w.heap.size + 1 + 1]? = some (.cells #[.int .i64 0, .int .u8 0, .int .u16 0, .int .i64 0, .int .i64 0] 64 (0, 0))) := by rw [hW1]; exact alloc3_b _ _ _ _ _
  have Hv : Hid (p.vb = 10) := hv
  clear hv
  unfold fev pv
  go_enter Tryz.func16, Tryz.ntmps16
  go_upto_region 1 with fail
  rw [← hW1]
  clear hW1
  obtain ⟨n0, h0⟩ : ∃ n0, n0 = w.heap.size := ⟨_, rfl⟩
  have HN : Hid (w.heap.size ≤ n0 ∧ w.heap.size ≤ n0 + 1 + 1) := by show _ ∧ _; omega
  simp only [← h0] at HF HP HR ⊢
  obtain ⟨n1, h1⟩ : ∃ n1, n1 = n0 + 1 := ⟨_, rfl⟩
  simp only [← h1] at HP HR HN ⊢
  obtain ⟨n2, h2⟩ : ∃ n2, n2 = n1 + 1 := ⟨_, rfl⟩
  have d1 : n0 ≠ n2 := by omega
  have d2 : n1 ≠ n0 := by omega
  simp only [← h2] at HR HN ⊢
  clear h0 h1 h2
  have f0 := (block_cell HF.out 0).trans (show _ = some (.int .i64 f.ho) from rfl)
  have f1 := (block_cell HF.out 1).trans (show _ = some (.int .u8 f.su) from rfl)
  have f2 := (block_cell HF.out 2).trans (show _ = some (.int .u16 f.tr) from rfl)
  have f3 := (block_cell HF.out 3).trans (show _ = some (.int .i64 f.po) from rfl)
  have f4 := (block_cell HF.out 4).trans (show _ = some (.int .i64 f.he) from rfl)
  have ff := fun i => block_free HF.out i
  have q1 := (block_cell HP.out 1).trans (show _ = some (.int .u8 p.vb) from rfl)
  have q3 := (block_cell HP.out 3).trans (show _ = some (.int .i64 p.ct) from rfl)
  have q4 := (block_cell HP.out 4).trans (show _ = some (.int .u8 p.su) from rfl)
  have q5 := (block_cell HP.out 5).trans (show _ = some (.int .u8 p.tr) from rfl)
  have r0 := (block_cell HR.out 0).trans (show _ = some (.int .i64 0) from rfl)
  have r1 := (block_cell HR.out 1).trans (show _ = some (.int .u8 0) from rfl)
  have r2 := (block_cell HR.out 2).trans (show _ = some (.int .u16 0) from rfl)
  have r3 := (block_cell HR.out 3).trans (show _ = some (.int .i64 0) from rfl)
  have r4 := (block_cell HR.out 4).trans (show _ = some (.int .i64 0) from rfl)
  have rf := fun i => block_free HR.out i
  rw [Hv.out] at q1
  clear q3 q4 q5
  go_wp2
  refine bodyPost_ret (v := fev { f with ho := ho }) (by simp [results, Tryz.results16, go_sem, fev, r0, r1, r2, r3, r4]) rfl ⟨rfl, ?_⟩
  exact (grown_set2 (grown_set2 (grown_set2 (grown_set2 (grown_set2 (grown_set2 HG1.out HN.out.1 _ _) HN.out.2 _ _) HN.out.2 _ _) HN.out.2 _ _) HN.out.2 _ _) HN.out.2 _ _)
set_option maxRecDepth 100000 in
set_option maxHeartbeats 4000000 in
theorem lawch_su (f : Fe) (p : Pt) (ho : Int) (w : World) (hv : p.vb = 11) : Calls Tryz.prog 16 #[fev f, pv p, .int .i64 ho] w fun e w' => e = .returned (fev { f with su := p.su }) ∧ w.grownBy w' none := by
  obtain ⟨W1, hW1⟩ : ∃ W1, W1 = ((w.alloc (.cells #[.int .i64 f.ho, .int .u8 f.su, .int .u16 f.tr, .int .i64 f.po, .int .i64 f.he] 64)).alloc (.cells #[.int .u8 p.wn, .int .u8 p.vb, .int .u8 p.wm, .int .i64 p.ct, .int .u8 p.su, .int .u8 p.tr, .int .u8 p.mr, .string p.nm] 47)).alloc (.cells #[.int .i64 0, .int .u8 0, .int .u16 0, .int .i64 0, .int .i64 0] 64) := ⟨_, rfl⟩
  have HG1 : Hid (w.grownBy W1 none) := by rw [hW1]; exact grown_push (grown_push (World.grownBy_alloc _ _ none) _) _
  have HF : Hid (W1.heap[w.heap.size]? = some (.cells #[.int .i64 f.ho, .int .u8 f.su, .int .u16 f.tr, .int .i64 f.po, .int .i64 f.he] 64 (0, 0))) := by rw [hW1]; exact grown_keep (grown_push (World.grownBy_alloc _ _ none) _) (alloc_at w _ _) (by simp)
  have HP : Hid (W1.heap[w.heap.size + 1]? = some (.cells #[.int .u8 p.wn, .int .u8 p.vb, .int .u8 p.wm, .int .i64 p.ct, .int .u8 p.su, .int .u8 p.tr, .int .u8 p.mr, .string p.nm] 47 (0, 0))) := by rw [hW1]; exact grown_keep (World.grownBy_alloc _ _ none) (alloc2_b _ _ _ _) (by simp)
  have HR : Hid (W1.heap[w.heap.size + 1 + 1]? = some (.cells #[.int .i64 0, .int .u8 0, .int .u16 0, .int .i64 0, .int .i64 0] 64 (0, 0))) := by rw [hW1]; exact alloc3_b _ _ _ _ _
  have Hv : Hid (p.vb = 11) := hv
  clear hv
  unfold fev pv
  go_enter Tryz.func16, Tryz.ntmps16
  go_upto_region 1 with fail
  rw [← hW1]
  clear hW1
  obtain ⟨n0, h0⟩ : ∃ n0, n0 = w.heap.size := ⟨_, rfl⟩
  have HN : Hid (w.heap.size ≤ n0 ∧ w.heap.size ≤ n0 + 1 + 1) := by show _ ∧ _; omega
  simp only [← h0] at HF HP HR ⊢
  obtain ⟨n1, h1⟩ : ∃ n1, n1 = n0 + 1 := ⟨_, rfl⟩
  simp only [← h1] at HP HR HN ⊢
  obtain ⟨n2, h2⟩ : ∃ n2, n2 = n1 + 1 := ⟨_, rfl⟩
  have d1 : n0 ≠ n2 := by omega
  have d2 : n1 ≠ n0 := by omega
  simp only [← h2] at HR HN ⊢
  clear h0 h1 h2
  have f0 := (block_cell HF.out 0).trans (show _ = some (.int .i64 f.ho) from rfl)
  have f1 := (block_cell HF.out 1).trans (show _ = some (.int .u8 f.su) from rfl)
  have f2 := (block_cell HF.out 2).trans (show _ = some (.int .u16 f.tr) from rfl)
  have f3 := (block_cell HF.out 3).trans (show _ = some (.int .i64 f.po) from rfl)
  have f4 := (block_cell HF.out 4).trans (show _ = some (.int .i64 f.he) from rfl)
  have ff := fun i => block_free HF.out i
  have q1 := (block_cell HP.out 1).trans (show _ = some (.int .u8 p.vb) from rfl)
  have q3 := (block_cell HP.out 3).trans (show _ = some (.int .i64 p.ct) from rfl)
  have q4 := (block_cell HP.out 4).trans (show _ = some (.int .u8 p.su) from rfl)
  have q5 := (block_cell HP.out 5).trans (show _ = some (.int .u8 p.tr) from rfl)
  have r0 := (block_cell HR.out 0).trans (show _ = some (.int .i64 0) from rfl)
  have r1 := (block_cell HR.out 1).trans (show _ = some (.int .u8 0) from rfl)
  have r2 := (block_cell HR.out 2).trans (show _ = some (.int .u16 0) from rfl)
  have r3 := (block_cell HR.out 3).trans (show _ = some (.int .i64 0) from rfl)
  have r4 := (block_cell HR.out 4).trans (show _ = some (.int .i64 0) from rfl)
  have rf := fun i => block_free HR.out i
  rw [Hv.out] at q1
  clear q3 q5
  go_wp2
  refine bodyPost_ret (v := fev { f with su := p.su }) (by simp [results, Tryz.results16, go_sem, fev, r0, r1, r2, r3, r4]) rfl ⟨rfl, ?_⟩
  exact (grown_set2 (grown_set2 (grown_set2 (grown_set2 (grown_set2 (grown_set2 HG1.out HN.out.1 _ _) HN.out.2 _ _) HN.out.2 _ _) HN.out.2 _ _) HN.out.2 _ _) HN.out.2 _ _)
set_option maxRecDepth 100000 in
set_option maxHeartbeats 4000000 in
theorem lawch_trwith (f : Fe) (p : Pt) (ho : Int) (w : World) (hv : p.vb = 12) : Calls Tryz.prog 16 #[fev f, pv p, .int .i64 ho] w fun e w' => e = .returned (fev { f with tr := tWith f.tr p.tr }) ∧ w.grownBy w' none := by
  obtain ⟨W1, hW1⟩ : ∃ W1, W1 = ((w.alloc (.cells #[.int .i64 f.ho, .int .u8 f.su, .int .u16 f.tr, .int .i64 f.po, .int .i64 f.he] 64)).alloc (.cells #[.int .u8 p.wn, .int .u8 p.vb, .int .u8 p.wm, .int .i64 p.ct, .int .u8 p.su, .int .u8 p.tr, .int .u8 p.mr, .string p.nm] 47)).alloc (.cells #[.int .i64 0, .int .u8 0, .int .u16 0, .int .i64 0, .int .i64 0] 64) := ⟨_, rfl⟩
  have HG1 : Hid (w.grownBy W1 none) := by rw [hW1]; exact grown_push (grown_push (World.grownBy_alloc _ _ none) _) _
  have HF : Hid (W1.heap[w.heap.size]? = some (.cells #[.int .i64 f.ho, .int .u8 f.su, .int .u16 f.tr, .int .i64 f.po, .int .i64 f.he] 64 (0, 0))) := by rw [hW1]; exact grown_keep (grown_push (World.grownBy_alloc _ _ none) _) (alloc_at w _ _) (by simp)
  have HP : Hid (W1.heap[w.heap.size + 1]? = some (.cells #[.int .u8 p.wn, .int .u8 p.vb, .int .u8 p.wm, .int .i64 p.ct, .int .u8 p.su, .int .u8 p.tr, .int .u8 p.mr, .string p.nm] 47 (0, 0))) := by rw [hW1]; exact grown_keep (World.grownBy_alloc _ _ none) (alloc2_b _ _ _ _) (by simp)
  have HR : Hid (W1.heap[w.heap.size + 1 + 1]? = some (.cells #[.int .i64 0, .int .u8 0, .int .u16 0, .int .i64 0, .int .i64 0] 64 (0, 0))) := by rw [hW1]; exact alloc3_b _ _ _ _ _
  have Hv : Hid (p.vb = 12) := hv
  clear hv
  have C := with_any f.tr p.tr
  obtain ⟨y, hy⟩ : ∃ y, y = tWith f.tr p.tr := ⟨_, rfl⟩
  rw [← hy] at C ⊢
  clear hy
  unfold fev pv
  go_enter Tryz.func16, Tryz.ntmps16
  go_upto_region 1 with fail
  rw [← hW1]
  clear hW1
  obtain ⟨n0, h0⟩ : ∃ n0, n0 = w.heap.size := ⟨_, rfl⟩
  have HN : Hid (w.heap.size ≤ n0 ∧ w.heap.size ≤ n0 + 1 + 1) := by show _ ∧ _; omega
  simp only [← h0] at HF HP HR ⊢
  obtain ⟨n1, h1⟩ : ∃ n1, n1 = n0 + 1 := ⟨_, rfl⟩
  simp only [← h1] at HP HR HN ⊢
  obtain ⟨n2, h2⟩ : ∃ n2, n2 = n1 + 1 := ⟨_, rfl⟩
  have d1 : n0 ≠ n2 := by omega
  have d2 : n1 ≠ n0 := by omega
  simp only [← h2] at HR HN ⊢
  clear h0 h1 h2
  have f0 := (block_cell HF.out 0).trans (show _ = some (.int .i64 f.ho) from rfl)
  have f1 := (block_cell HF.out 1).trans (show _ = some (.int .u8 f.su) from rfl)
  have f2 := (block_cell HF.out 2).trans (show _ = some (.int .u16 f.tr) from rfl)
  have f3 := (block_cell HF.out 3).trans (show _ = some (.int .i64 f.po) from rfl)
  have f4 := (block_cell HF.out 4).trans (show _ = some (.int .i64 f.he) from rfl)
  have ff := fun i => block_free HF.out i
  have q1 := (block_cell HP.out 1).trans (show _ = some (.int .u8 p.vb) from rfl)
  have q3 := (block_cell HP.out 3).trans (show _ = some (.int .i64 p.ct) from rfl)
  have q4 := (block_cell HP.out 4).trans (show _ = some (.int .u8 p.su) from rfl)
  have q5 := (block_cell HP.out 5).trans (show _ = some (.int .u8 p.tr) from rfl)
  have r0 := (block_cell HR.out 0).trans (show _ = some (.int .i64 0) from rfl)
  have r1 := (block_cell HR.out 1).trans (show _ = some (.int .u8 0) from rfl)
  have r2 := (block_cell HR.out 2).trans (show _ = some (.int .u16 0) from rfl)
  have r3 := (block_cell HR.out 3).trans (show _ = some (.int .i64 0) from rfl)
  have r4 := (block_cell HR.out 4).trans (show _ = some (.int .i64 0) from rfl)
  have rf := fun i => block_free HR.out i
  rw [Hv.out] at q1
  clear q3 q4
  go_wp2_with (go_at_call 56; refine (C _).mono ?_; rintro e w1 ⟨rfl, rfl⟩; clear C)
  refine bodyPost_ret (v := fev { f with tr := y }) (by simp [results, Tryz.results16, go_sem, fev, r0, r1, r2, r3, r4]) rfl ⟨rfl, ?_⟩
  exact (grown_set2 (grown_set2 (grown_set2 (grown_set2 (grown_set2 (grown_set2 HG1.out HN.out.1 _ _) HN.out.2 _ _) HN.out.2 _ _) HN.out.2 _ _) HN.out.2 _ _) HN.out.2 _ _)
set_option maxRecDepth 100000 in
set_option maxHeartbeats 4000000 in
theorem lawch_trwithout (f : Fe) (p : Pt) (ho : Int) (w : World) (hv : p.vb = 13) : Calls Tryz.prog 16 #[fev f, pv p, .int .i64 ho] w fun e w' => e = .returned (fev { f with tr := tWithout f.tr p.tr }) ∧ w.grownBy w' none := by
  obtain ⟨W1, hW1⟩ : ∃ W1, W1 = ((w.alloc (.cells #[.int .i64 f.ho, .int .u8 f.su, .int .u16 f.tr, .int .i64 f.po, .int .i64 f.he] 64)).alloc (.cells #[.int .u8 p.wn, .int .u8 p.vb, .int .u8 p.wm, .int .i64 p.ct, .int .u8 p.su, .int .u8 p.tr, .int .u8 p.mr, .string p.nm] 47)).alloc (.cells #[.int .i64 0, .int .u8 0, .int .u16 0, .int .i64 0, .int .i64 0] 64) := ⟨_, rfl⟩
  have HG1 : Hid (w.grownBy W1 none) := by rw [hW1]; exact grown_push (grown_push (World.grownBy_alloc _ _ none) _) _
  have HF : Hid (W1.heap[w.heap.size]? = some (.cells #[.int .i64 f.ho, .int .u8 f.su, .int .u16 f.tr, .int .i64 f.po, .int .i64 f.he] 64 (0, 0))) := by rw [hW1]; exact grown_keep (grown_push (World.grownBy_alloc _ _ none) _) (alloc_at w _ _) (by simp)
  have HP : Hid (W1.heap[w.heap.size + 1]? = some (.cells #[.int .u8 p.wn, .int .u8 p.vb, .int .u8 p.wm, .int .i64 p.ct, .int .u8 p.su, .int .u8 p.tr, .int .u8 p.mr, .string p.nm] 47 (0, 0))) := by rw [hW1]; exact grown_keep (World.grownBy_alloc _ _ none) (alloc2_b _ _ _ _) (by simp)
  have HR : Hid (W1.heap[w.heap.size + 1 + 1]? = some (.cells #[.int .i64 0, .int .u8 0, .int .u16 0, .int .i64 0, .int .i64 0] 64 (0, 0))) := by rw [hW1]; exact alloc3_b _ _ _ _ _
  have Hv : Hid (p.vb = 13) := hv
  clear hv
  have C := without_any f.tr p.tr
  obtain ⟨y, hy⟩ : ∃ y, y = tWithout f.tr p.tr := ⟨_, rfl⟩
  rw [← hy] at C ⊢
  clear hy
  unfold fev pv
  go_enter Tryz.func16, Tryz.ntmps16
  go_upto_region 1 with fail
  rw [← hW1]
  clear hW1
  obtain ⟨n0, h0⟩ : ∃ n0, n0 = w.heap.size := ⟨_, rfl⟩
  have HN : Hid (w.heap.size ≤ n0 ∧ w.heap.size ≤ n0 + 1 + 1) := by show _ ∧ _; omega
  simp only [← h0] at HF HP HR ⊢
  obtain ⟨n1, h1⟩ : ∃ n1, n1 = n0 + 1 := ⟨_, rfl⟩
  simp only [← h1] at HP HR HN ⊢
  obtain ⟨n2, h2⟩ : ∃ n2, n2 = n1 + 1 := ⟨_, rfl⟩
  have d1 : n0 ≠ n2 := by omega
  have d2 : n1 ≠ n0 := by omega
  simp only [← h2] at HR HN ⊢
  clear h0 h1 h2
  have f0 := (block_cell HF.out 0).trans (show _ = some (.int .i64 f.ho) from rfl)
  have f1 := (block_cell HF.out 1).trans (show _ = some (.int .u8 f.su) from rfl)
  have f2 := (block_cell HF.out 2).trans (show _ = some (.int .u16 f.tr) from rfl)
  have f3 := (block_cell HF.out 3).trans (show _ = some (.int .i64 f.po) from rfl)
  have f4 := (block_cell HF.out 4).trans (show _ = some (.int .i64 f.he) from rfl)
  have ff := fun i => block_free HF.out i
  have q1 := (block_cell HP.out 1).trans (show _ = some (.int .u8 p.vb) from rfl)
  have q3 := (block_cell HP.out 3).trans (show _ = some (.int .i64 p.ct) from rfl)
  have q4 := (block_cell HP.out 4).trans (show _ = some (.int .u8 p.su) from rfl)
  have q5 := (block_cell HP.out 5).trans (show _ = some (.int .u8 p.tr) from rfl)
  have r0 := (block_cell HR.out 0).trans (show _ = some (.int .i64 0) from rfl)
  have r1 := (block_cell HR.out 1).trans (show _ = some (.int .u8 0) from rfl)
  have r2 := (block_cell HR.out 2).trans (show _ = some (.int .u16 0) from rfl)
  have r3 := (block_cell HR.out 3).trans (show _ = some (.int .i64 0) from rfl)
  have r4 := (block_cell HR.out 4).trans (show _ = some (.int .i64 0) from rfl)
  have rf := fun i => block_free HR.out i
  rw [Hv.out] at q1
  clear q3 q4
  go_wp2_with (go_at_call 57; refine (C _).mono ?_; rintro e w1 ⟨rfl, rfl⟩; clear C)
  refine bodyPost_ret (v := fev { f with tr := y }) (by simp [results, Tryz.results16, go_sem, fev, r0, r1, r2, r3, r4]) rfl ⟨rfl, ?_⟩
  exact (grown_set2 (grown_set2 (grown_set2 (grown_set2 (grown_set2 (grown_set2 HG1.out HN.out.1 _ _) HN.out.2 _ _) HN.out.2 _ _) HN.out.2 _ _) HN.out.2 _ _) HN.out.2 _ _)
set_option maxRecDepth 100000 in
set_option maxHeartbeats 4000000 in
theorem lawch_base (f : Fe) (p : Pt) (ho : Int) (w : World) (hv : p.vb = 14) : Calls Tryz.prog 16 #[fev f, pv p, .int .i64 ho] w fun e w' => e = .returned (fev { f with po := p.ct, he := p.ct }) ∧ w.grownBy w' none := by
  obtain ⟨W1, hW1⟩ : ∃ W1, W1 = ((w.alloc (.cells #[.int .i64 f.ho, .int .u8 f.su, .int .u16 f.tr, .int .i64 f.po, .int .i64 f.he] 64)).alloc (.cells #[.int .u8 p.wn, .int .u8 p.vb, .int .u8 p.wm, .int .i64 p.ct, .int .u8 p.su, .int .u8 p.tr, .int .u8 p.mr, .string p.nm] 47)).alloc (.cells #[.int .i64 0, .int .u8 0, .int .u16 0, .int .i64 0, .int .i64 0] 64) := ⟨_, rfl⟩
  have HG1 : Hid (w.grownBy W1 none) := by rw [hW1]; exact grown_push (grown_push (World.grownBy_alloc _ _ none) _) _
  have HF : Hid (W1.heap[w.heap.size]? = some (.cells #[.int .i64 f.ho, .int .u8 f.su, .int .u16 f.tr, .int .i64 f.po, .int .i64 f.he] 64 (0, 0))) := by rw [hW1]; exact grown_keep (grown_push (World.grownBy_alloc _ _ none) _) (alloc_at w _ _) (by simp)
  have HP : Hid (W1.heap[w.heap.size + 1]? = some (.cells #[.int .u8 p.wn, .int .u8 p.vb, .int .u8 p.wm, .int .i64 p.ct, .int .u8 p.su, .int .u8 p.tr, .int .u8 p.mr, .string p.nm] 47 (0, 0))) := by rw [hW1]; exact grown_keep (World.grownBy_alloc _ _ none) (alloc2_b _ _ _ _) (by simp)
  have HR : Hid (W1.heap[w.heap.size + 1 + 1]? = some (.cells #[.int .i64 0, .int .u8 0, .int .u16 0, .int .i64 0, .int .i64 0] 64 (0, 0))) := by rw [hW1]; exact alloc3_b _ _ _ _ _
  have Hv : Hid (p.vb = 14) := hv
  clear hv
  unfold fev pv
  go_enter Tryz.func16, Tryz.ntmps16
  go_upto_region 1 with fail
  rw [← hW1]
  clear hW1
  obtain ⟨n0, h0⟩ : ∃ n0, n0 = w.heap.size := ⟨_, rfl⟩
  have HN : Hid (w.heap.size ≤ n0 ∧ w.heap.size ≤ n0 + 1 + 1) := by show _ ∧ _; omega
  simp only [← h0] at HF HP HR ⊢
  obtain ⟨n1, h1⟩ : ∃ n1, n1 = n0 + 1 := ⟨_, rfl⟩
  simp only [← h1] at HP HR HN ⊢
  obtain ⟨n2, h2⟩ : ∃ n2, n2 = n1 + 1 := ⟨_, rfl⟩
  have d1 : n0 ≠ n2 := by omega
  have d2 : n1 ≠ n0 := by omega
  simp only [← h2] at HR HN ⊢
  clear h0 h1 h2
  have f0 := (block_cell HF.out 0).trans (show _ = some (.int .i64 f.ho) from rfl)
  have f1 := (block_cell HF.out 1).trans (show _ = some (.int .u8 f.su) from rfl)
  have f2 := (block_cell HF.out 2).trans (show _ = some (.int .u16 f.tr) from rfl)
  have f3 := (block_cell HF.out 3).trans (show _ = some (.int .i64 f.po) from rfl)
  have f4 := (block_cell HF.out 4).trans (show _ = some (.int .i64 f.he) from rfl)
  have ff := fun i => block_free HF.out i
  have q1 := (block_cell HP.out 1).trans (show _ = some (.int .u8 p.vb) from rfl)
  have q3 := (block_cell HP.out 3).trans (show _ = some (.int .i64 p.ct) from rfl)
  have q4 := (block_cell HP.out 4).trans (show _ = some (.int .u8 p.su) from rfl)
  have q5 := (block_cell HP.out 5).trans (show _ = some (.int .u8 p.tr) from rfl)
  have r0 := (block_cell HR.out 0).trans (show _ = some (.int .i64 0) from rfl)
  have r1 := (block_cell HR.out 1).trans (show _ = some (.int .u8 0) from rfl)
  have r2 := (block_cell HR.out 2).trans (show _ = some (.int .u16 0) from rfl)
  have r3 := (block_cell HR.out 3).trans (show _ = some (.int .i64 0) from rfl)
  have r4 := (block_cell HR.out 4).trans (show _ = some (.int .i64 0) from rfl)
  have rf := fun i => block_free HR.out i
  rw [Hv.out] at q1
  clear q4 q5
  go_wp2_with fail
  go_region
  all_goals (go_wp2)
  all_goals (refine bodyPost_ret (v := fev { f with po := p.ct, he := p.ct }) (by simp [results, Tryz.results16, go_sem, fev, r0, r1, r2, r3, r4]) rfl ⟨rfl, ?_⟩)
  all_goals exact grown_trans (grown_set2 (grown_set2 (grown_set2 (grown_set2 (grown_set2 (grown_set2 (grown_set2 HG1.out HN.out.1 _ _) HN.out.1 _ _) HN.out.2 _ _) HN.out.2 _ _) HN.out.2 _ _) HN.out.2 _ _) HN.out.2 _ _) (grown_drew _)
set_option maxRecDepth 100000 in
set_option maxHeartbeats 4000000 in
theorem lawch_raise (f : Fe) (p : Pt) (ho : Int) (w : World) (hv : p.vb = 15) : Calls Tryz.prog 16 #[fev f, pv p, .int .i64 ho] w fun e w' => e = .returned (fev { f with po := wrap64 (f.po + p.ct), he := wrap64 (f.he + p.ct) }) ∧ w.grownBy w' none := by
  obtain ⟨W1, hW1⟩ : ∃ W1, W1 = ((w.alloc (.cells #[.int .i64 f.ho, .int .u8 f.su, .int .u16 f.tr, .int .i64 f.po, .int .i64 f.he] 64)).alloc (.cells #[.int .u8 p.wn, .int .u8 p.vb, .int .u8 p.wm, .int .i64 p.ct, .int .u8 p.su, .int .u8 p.tr, .int .u8 p.mr, .string p.nm] 47)).alloc (.cells #[.int .i64 0, .int .u8 0, .int .u16 0, .int .i64 0, .int .i64 0] 64) := ⟨_, rfl⟩
  have HG1 : Hid (w.grownBy W1 none) := by rw [hW1]; exact grown_push (grown_push (World.grownBy_alloc _ _ none) _) _
  have HF : Hid (W1.heap[w.heap.size]? = some (.cells #[.int .i64 f.ho, .int .u8 f.su, .int .u16 f.tr, .int .i64 f.po, .int .i64 f.he] 64 (0, 0))) := by rw [hW1]; exact grown_keep (grown_push (World.grownBy_alloc _ _ none) _) (alloc_at w _ _) (by simp)
  have HP : Hid (W1.heap[w.heap.size + 1]? = some (.cells #[.int .u8 p.wn, .int .u8 p.vb, .int .u8 p.wm, .int .i64 p.ct, .int .u8 p.su, .int .u8 p.tr, .int .u8 p.mr, .string p.nm] 47 (0, 0))) := by rw [hW1]; exact grown_keep (World.grownBy_alloc _ _ none) (alloc2_b _ _ _ _) (by simp)
  have HR : Hid (W1.heap[w.heap.size + 1 + 1]? = some (.cells #[.int .i64 0, .int .u8 0, .int .u16 0, .int .i64 0, .int .i64 0] 64 (0, 0))) := by rw [hW1]; exact alloc3_b _ _ _ _ _
  have Hv : Hid (p.vb = 15) := hv
  clear hv
  unfold fev pv
  go_enter Tryz.func16, Tryz.ntmps16
  go_upto_region 1 with fail
  rw [← hW1]
  clear hW1
  obtain ⟨n0, h0⟩ : ∃ n0, n0 = w.heap.size := ⟨_, rfl⟩
  have HN : Hid (w.heap.size ≤ n0 ∧ w.heap.size ≤ n0 + 1 + 1) := by show _ ∧ _; omega
  simp only [← h0] at HF HP HR ⊢
  obtain ⟨n1, h1⟩ : ∃ n1, n1 = n0 + 1 := ⟨_, rfl⟩
  simp only [← h1] at HP HR HN ⊢
  obtain ⟨n2, h2⟩ : ∃ n2, n2 = n1 + 1 := ⟨_, rfl⟩
  have d1 : n0 ≠ n2 := by omega
  have d2 : n1 ≠ n0 := by omega
  simp only [← h2] at HR HN ⊢
  clear h0 h1 h2
  have f0 := (block_cell HF.out 0).trans (show _ = some (.int .i64 f.ho) from rfl)
  have f1 := (block_cell HF.out 1).trans (show _ = some (.int .u8 f.su) from rfl)
  have f2 := (block_cell HF.out 2).trans (show _ = some (.int .u16 f.tr) from rfl)
  have f3 := (block_cell HF.out 3).trans (show _ = some (.int .i64 f.po) from rfl)
  have f4 := (block_cell HF.out 4).trans (show _ = some (.int .i64 f.he) from rfl)
  have ff := fun i => block_free HF.out i
  have q1 := (block_cell HP.out 1).trans (show _ = some (.int .u8 p.vb) from rfl)
  have q3 := (block_cell HP.out 3).trans (show _ = some (.int .i64 p.ct) from rfl)
  have q4 := (block_cell HP.out 4).trans (show _ = some (.int .u8 p.su) from rfl)
  have q5 := (block_cell HP.out 5).trans (show _ = some (.int .u8 p.tr) from rfl)
  have r0 := (block_cell HR.out 0).trans (show _ = some (.int .i64 0) from rfl)
  have r1 := (block_cell HR.out 1).trans (show _ = some (.int .u8 0) from rfl)
  have r2 := (block_cell HR.out 2).trans (show _ = some (.int .u16 0) from rfl)
  have r3 := (block_cell HR.out 3).trans (show _ = some (.int .i64 0) from rfl)
  have r4 := (block_cell HR.out 4).trans (show _ = some (.int .i64 0) from rfl)
  have rf := fun i => block_free HR.out i
  rw [Hv.out] at q1
  clear q4 q5
  go_wp2_with fail
  go_region
  all_goals (go_wp2)
  all_goals (refine bodyPost_ret (v := fev { f with po := wrap64 (f.po + p.ct), he := wrap64 (f.he + p.ct) }) (by simp [results, Tryz.results16, go_sem, fev, r0, r1, r2, r3, r4]) rfl ⟨rfl, ?_⟩)
  all_goals exact grown_trans (grown_set2 (grown_set2 (grown_set2 (grown_set2 (grown_set2 (grown_set2 (grown_set2 HG1.out HN.out.1 _ _) HN.out.1 _ _) HN.out.2 _ _) HN.out.2 _ _) HN.out.2 _ _) HN.out.2 _ _) HN.out.2 _ _) (grown_drew _)
set_option maxRecDepth 100000 in
set_option maxHeartbeats 4000000 in
theorem lawch_none (f : Fe) (p : Pt) (ho : Int) (w : World) (hv : ¬ (10 ≤ p.vb ∧ p.vb ≤ 15)) : Calls Tryz.prog 16 #[fev f, pv p, .int .i64 ho] w fun e w' => e = .returned (fev f) ∧ w.grownBy w' none := by
  obtain ⟨W1, hW1⟩ : ∃ W1, W1 = ((w.alloc (.cells #[.int .i64 f.ho, .int .u8 f.su, .int .u16 f.tr, .int .i64 f.po, .int .i64 f.he] 64)).alloc (.cells #[.int .u8 p.wn, .int .u8 p.vb, .int .u8 p.wm, .int .i64 p.ct, .int .u8 p.su, .int .u8 p.tr, .int .u8 p.mr, .string p.nm] 47)).alloc (.cells #[.int .i64 0, .int .u8 0, .int .u16 0, .int .i64 0, .int .i64 0] 64) := ⟨_, rfl⟩
  have HG1 : Hid (w.grownBy W1 none) := by rw [hW1]; exact grown_push (grown_push (World.grownBy_alloc _ _ none) _) _
  have HF : Hid (W1.heap[w.heap.size]? = some (.cells #[.int .i64 f.ho, .int .u8 f.su, .int .u16 f.tr, .int .i64 f.po, .int .i64 f.he] 64 (0, 0))) := by rw [hW1]; exact grown_keep (grown_push (World.grownBy_alloc _ _ none) _) (alloc_at w _ _) (by simp)
  have HP : Hid (W1.heap[w.heap.size + 1]? = some (.cells #[.int .u8 p.wn, .int .u8 p.vb, .int .u8 p.wm, .int .i64 p.ct, .int .u8 p.su, .int .u8 p.tr, .int .u8 p.mr, .string p.nm] 47 (0, 0))) := by rw [hW1]; exact grown_keep (World.grownBy_alloc _ _ none) (alloc2_b _ _ _ _) (by simp)
  have HR : Hid (W1.heap[w.heap.size + 1 + 1]? = some (.cells #[.int .i64 0, .int .u8 0, .int .u16 0, .int .i64 0, .int .i64 0] 64 (0, 0))) := by rw [hW1]; exact alloc3_b _ _ _ _ _
  unfold fev pv
  go_enter Tryz.func16, Tryz.ntmps16
  go_upto_region 1 with fail
  rw [← hW1]
  clear hW1
  obtain ⟨n0, h0⟩ : ∃ n0, n0 = w.heap.size := ⟨_, rfl⟩
  have HN : Hid (w.heap.size ≤ n0 ∧ w.heap.size ≤ n0 + 1 + 1) := by show _ ∧ _; omega
  simp only [← h0] at HF HP HR ⊢
  obtain ⟨n1, h1⟩ : ∃ n1, n1 = n0 + 1 := ⟨_, rfl⟩
  simp only [← h1] at HP HR HN ⊢
  obtain ⟨n2, h2⟩ : ∃ n2, n2 = n1 + 1 := ⟨_, rfl⟩
  have d1 : n0 ≠ n2 := by omega
  have d2 : n1 ≠ n0 := by omega
  simp only [← h2] at HR HN ⊢
  clear h0 h1 h2
  have f0 := (block_cell HF.out 0).trans (show _ = some (.int .i64 f.ho) from rfl)
  have f1 := (block_cell HF.out 1).trans (show _ = some (.int .u8 f.su) from rfl)
  have f2 := (block_cell HF.out 2).trans (show _ = some (.int .u16 f.tr) from rfl)
  have f3 := (block_cell HF.out 3).trans (show _ = some (.int .i64 f.po) from rfl)
  have f4 := (block_cell HF.out 4).trans (show _ = some (.int .i64 f.he) from rfl)
  have ff := fun i => block_free HF.out i
  have q1 := (block_cell HP.out 1).trans (show _ = some (.int .u8 p.vb) from rfl)
  have q3 := (block_cell HP.out 3).trans (show _ = some (.int .i64 p.ct) from rfl)
  have q4 := (block_cell HP.out 4).trans (show _ = some (.int .u8 p.su) from rfl)
  have q5 := (block_cell HP.out 5).trans (show _ = some (.int .u8 p.tr) from rfl)
  have r0 := (block_cell HR.out 0).trans (show _ = some (.int .i64 0) from rfl)
  have r1 := (block_cell HR.out 1).trans (show _ = some (.int .u8 0) from rfl)
  have r2 := (block_cell HR.out 2).trans (show _ = some (.int .u16 0) from rfl)
  have r3 := (block_cell HR.out 3).trans (show _ = some (.int .i64 0) from rfl)
  have r4 := (block_cell HR.out 4).trans (show _ = some (.int .i64 0) from rfl)
  have rf := fun i => block_free HR.out i
  have e1 : (p.vb == 10) = false := by simp; omega
  have e2 : (p.vb == 11) = false := by simp; omega
  have e3 : (p.vb == 12) = false := by simp; omega
  have e4 : (p.vb == 13) = false := by simp; omega
  have e5 : (p.vb == 14) = false := by simp; omega
  have e6 : (p.vb == 15) = false := by simp; omega
  clear hv q3 q4 q5
  go_wp2
  refine bodyPost_ret (v := fev f) (by simp [results, Tryz.results16, go_sem, fev, r0, r1, r2, r3, r4]) rfl ⟨rfl, ?_⟩
  exact (grown_set2 (grown_set2 (grown_set2 (grown_set2 (grown_set2 HG1.out HN.out.2 _ _) HN.out.2 _ _) HN.out.2 _ _) HN.out.2 _ _) HN.out.2 _ _)
theorem lawch_any (f : Fe) (p : Pt) (ho : Int) (w : World) : Calls Tryz.prog 16 #[fev f, pv p, .int .i64 ho] w fun e w' => e = .returned (fev (doneF f p ho)) ∧ w.grownBy w' none := by
  unfold doneF
  by_cases h1 : p.vb = 10
  · rw [if_pos h1]; exact lawch_ho f p ho w h1
  rw [if_neg h1]
  by_cases h2 : p.vb = 11
  · rw [if_pos h2]; exact lawch_su f p ho w h2
  rw [if_neg h2]
  by_cases h3 : p.vb = 12
  · rw [if_pos h3]; exact lawch_trwith f p ho w h3
  rw [if_neg h3]
  by_cases h4 : p.vb = 13
  · rw [if_pos h4]; exact lawch_trwithout f p ho w h4
  rw [if_neg h4]
  by_cases h5 : p.vb = 14
  · rw [if_pos h5]; exact lawch_base f p ho w h5
  rw [if_neg h5]
  by_cases h6 : p.vb = 15
  · rw [if_pos h6]; exact lawch_raise f p ho w h6
  rw [if_neg h6]
  exact lawch_none f p ho w (by omega)
end Go.Proofs.YtmemeloehgemcaaGreat
namespace Go.Proofs.YtmemeloehgemcaaGreat
open Go.RowKit Go.Shelf

end Go.Proofs.YtmemeloehgemcaaGreat
namespace Go.Proofs.YtmemeloehgemcaaGreat
open Go.RowKit Go.Shelf

def stOf (ts : List Th) (x : Int) : Int := (ts.getD (x - 1).toNat Th.none).stamp
theorem Tab.up {n : Int} {cd : Int → Hd × List Pt} {ts : List Th} {fs : List Fe} {R : List Rw} (h : Tab n cd ts fs R) : R.Pairwise fun a b => a.st < b.st := by
  have h' := h.tab
  unfold tabR at h'
  split at h'
  · split at h'
    · split at h'
      · rename_i hd
        cases h'
        have := dif_up (stamps_up (sortR_up _)) hd
        unfold stampsR at this
        rw [List.pairwise_map] at this
        exact this
      · cases h'
    · cases h'
  · cases h'
theorem about_at {R : List Rw} {F : List Fe} {a : Se} {i : Nat} (hi : i < R.length) : (aboutL R F a).getD i false = isAbB R F a i := by
  unfold aboutL aboutU
  rw [getD_in (by simpa using hi)]
  simp
theorem num_mem {R : List Rw} {F : List Fe} {a : Se} {x : Int} : x ∈ numL R (aboutL R F a) ↔ ∃ i, i < R.length ∧ isAbB R F a i = true ∧ (R.getD i Rw.none).nu = x := by
  unfold numL numU
  rw [List.mem_filterMap]
  constructor
  · rintro ⟨i, hi, e⟩
    rw [List.mem_range] at hi
    rw [about_at hi] at e
    split at e
    · rename_i hb
      cases e
      exact ⟨i, hi, hb, rfl⟩
    · cases e
  · rintro ⟨i, hi, hb, rfl⟩
    exact ⟨i, List.mem_range.2 hi, by rw [about_at hi, if_pos hb]⟩
theorem Tab.thing {n : Int} {cd : Int → Hd × List Pt} {ts : List Th} {fs : List Fe} {R : List Rw} (h : Tab n cd ts fs R) {i : Nat} (hi : i < R.length) : (ts.getD ((R.getD i Rw.none).nu - 1).toNat Th.none).place = 4 ∧ stOf ts (R.getD i Rw.none).nu = (R.getD i Rw.none).st ∧ 0 < (R.getD i Rw.none).st ∧ 1 ≤ (R.getD i Rw.none).nu ∧ (R.getD i Rw.none).nu ≤ (fs.length : Int) := by
  have hr : R.getD i Rw.none ∈ R := by rw [getD_in hi]; exact List.getElem_mem _
  obtain ⟨j, t, ht, h4, hn, hs⟩ := h.from hr
  have hj : j < ts.length := (List.getElem?_eq_some_iff.1 ht).1
  have e : ts.getD j Th.none = t := by rw [List.getD_eq_getElem?_getD, ht]; rfl
  have hm := h.may j t _ ht (List.getElem?_eq_getElem (by rw [← h.len]; exact hj)) h4
  unfold mayLieB at hm
  simp only [Bool.and_eq_true, decide_eq_true_eq] at hm
  unfold stOf
  rw [hn, show ((j : Int) + 1 - 1).toNat = j by omega, e, hs]
  exact ⟨h4, rfl, hm.1.1, by omega, by rw [← h.len]; omega⟩
theorem Tab.num {n : Int} {cd : Int → Hd × List Pt} {ts : List Th} {fs : List Fe} {R : List Rw} {F : List Fe} {a : Se} (h : Tab n cd ts fs R) {x : Int} (hx : x ∈ numL R (aboutL R F a)) : 1 ≤ x ∧ x ≤ (fs.length : Int) ∧ (ts.getD (x - 1).toNat Th.none).place = 4 ∧ 0 < stOf ts x := by
  obtain ⟨i, hi, _, rfl⟩ := num_mem.1 hx
  obtain ⟨a1, a2, a3, a4, a5⟩ := h.thing hi
  exact ⟨a4, a5, a1, by rw [a2]; exact a3⟩
theorem Tab.rise {n : Int} {cd : Int → Hd × List Pt} {ts : List Th} {fs : List Fe} {R : List Rw} (F : List Fe) (a : Se) (h : Tab n cd ts fs R) : (numL R (aboutL R F a)).Pairwise fun x y => stOf ts x < stOf ts y := by
  unfold numL numU
  refine List.Pairwise.filterMap _ (R := fun i j : Nat => i < R.length → j < R.length → i < j) ?_ ?_
  · intro i j hij x hx y hy
    by_cases hi : i < R.length
    · by_cases hj : j < R.length
      · split at hx
        · split at hy
          · cases hx; cases hy
            have hlt := hij hi hj
            rw [(h.thing hi).2.1, (h.thing hj).2.1, getD_in hi, getD_in hj]
            exact List.pairwise_iff_getElem.1 h.up i j hi hj hlt
          · cases hy
        · cases hx
      · split at hy
        · rename_i hb
          rw [List.getD_eq_getElem?_getD, List.getElem?_eq_none (by unfold aboutL aboutU; simp; omega)] at hb
          cases hb
        · cases hy
    · split at hx
      · rename_i hb
        rw [List.getD_eq_getElem?_getD, List.getElem?_eq_none (by unfold aboutL aboutU; simp; omega)] at hb
        cases hb
      · cases hx
  · exact List.pairwise_lt_range.imp (fun {i j} q _ _ => q)
/-- What becomes of the feature at a place. -/
theorem Tab.becomes {n : Int} {cd : Int → Hd × List Pt} {ts : List Th} {fs : List Fe} {R : List Rw} {G : List Fe} {k : Int} {a : Se} (h : Tab n cd ts fs R) (ha : a ∈ effL R G k) (j : Nat) : (amgL fs R (applyL R (pickF R fs) a)).getD j Fe.none = if ((j : Int) + 1) ∈ numL R (aboutL R (pickF R fs) a) then doneF (fs.getD j Fe.none) a.s.wh (fs.getD (a.s.th - 1).toNat Fe.none).ho else fs.getD j Fe.none := by
  have q := amgU_at (fs := fs) (F := applyL R (pickF R fs) a) h.nod h.nu R.length (Nat.le_refl _)
  obtain ⟨hro, hth, _⟩ := eff_mem ha
  have pk : ∀ i, i < R.length → (pickF R fs).getD i Fe.none = fs.getD ((R.getD i Rw.none).nu - 1).toNat Fe.none := fun i hi => by
    rw [getD_in (by rw [pickF_len]; exact hi)]
    unfold pickF
    rw [List.getElem_map, ← getD_in (d := Rw.none) hi]
  by_cases z : ∃ i, i < R.length ∧ (R.getD i Rw.none).nu = (j : Int) + 1
  · obtain ⟨i, hi, e⟩ := z
    have e1 := q.1 i hi
    rw [e, show ((j : Int) + 1 - 1).toNat = j by omega, applyL_at (by rw [pickF_len]; exact hi)] at e1
    have e2 : (amgL fs R (applyL R (pickF R fs) a)).getD j Fe.none = applyAt R (pickF R fs) a i := by
      rw [List.getD_eq_getElem?_getD]
      unfold amgL
      rw [e1]
      rfl
    rw [e2]
    unfold applyAt
    rw [pk i hi, e, show ((j : Int) + 1 - 1).toNat = j by omega, pk a.ro hro, ← hth]
    by_cases hb : isAbB R (pickF R fs) a i = true
    · rw [if_pos hb, if_pos (num_mem.2 ⟨i, hi, hb, e⟩)]
    · rw [if_neg hb, if_neg]
      intro hm
      obtain ⟨i', hi', hb', e'⟩ := num_mem.1 hm
      have := nu_inj h.nod hi hi' (by rw [e, e'])
      subst this
      exact hb hb'
  · have hz : ∀ i, i < R.length → (R.getD i Rw.none).nu ≠ (j : Int) + 1 := fun i hi e => z ⟨i, hi, e⟩
    have e1 := q.2 j hz
    rw [if_neg (fun hm => by obtain ⟨i', hi', _, e'⟩ := num_mem.1 hm; exact hz i' hi' e'), List.getD_eq_getElem?_getD, List.getD_eq_getElem?_getD]
    unfold amgL
    rw [e1]
end Go.Proofs.YtmemeloehgemcaaGreat
