/-
  Layers' laws: what stands while a law asks of one book; answers of effects that a layer has.
  View: Steps.
  Layers, plainly: whom an effect is about, by their numbers; what becomes of each feature.
  Views, plainly: the same table under other numbers and stamps has the same features, by the same effects.
-/
import Derived.Test.YtmemeloehgemcaaGreatV43
import Derived.Test.YtmemeloehgemcaaGreatV36
import Derived.Test.YtmemeloehgemcaaGreatBoB
import Derived.Test.YtmemeloehgemcaaGreatV37
namespace Go.Proofs.YtmemeloehgemcaaGreat
open Go.RowKit Go.Shelf

theorem LIn.feat {w : World} {bv vt vf vf' : Value} {r n : Int} {cd : Int → Hd × List Pt} {ts : List Th} {fs fs' : List Fe} (h : LIn w bv vt vf r n cd ts fs) (F : feR.At w vf' fs') (hl : fs'.length = fs.length) : LIn w bv vt vf' r n cd ts fs' := ⟨h.ref, h.book, h.things, F, fun q => by rw [hl]; exact h.few q⟩
/-- What stands while a law asks. -/
structure RaS (w wr : World) (b1 : Nat) (bv vt vf : Value) (r m : Int) (cd : Int → Hd × List Pt) (ts : List Th) (fs : List Fe) : Prop where
  inn : LIn wr bv vt vf r m cd ts fs
  tab : TabB wr b1 vt vf
  gr : w.grownBy wr none
theorem RaS.keep {w wr wr' : World} {b1 : Nat} {bv vt vf : Value} {r m : Int} {cd : Int → Hd × List Pt} {ts : List Th} {fs : List Fe} (h : RaS w wr b1 bv vt vf r m cd ts fs) (g : wr.grownBy wr' none) : RaS w wr' b1 bv vt vf r m cd ts fs := ⟨h.inn.keep g, grown_keep g h.tab (by simp), grown_trans h.gr g⟩
theorem Pair2.dep {n : Int} {cd : Int → Hd × List Pt} {ts : List Th} {fs : List Fe} {R : List Rw} {a b : Se} {w w' : World} {e : Ending} (h : Pair2 n cd ts fs R a b) (q : DependsPost w 0 n cd ts fs a.s b.s e w') : e = .returned (.tuple #[.bool (depB R (pickF R fs) a b), .int .i64 0]) ∧ w.grownBy w' none := by
  obtain ⟨z, e1, g, _, h1⟩ := q
  rw [lkE_ok h.tab.tab h.list, h1 R a b rfl h.tab.tab h.list] at e1
  exact ⟨e1, g⟩
theorem Tab.app {n : Int} {cd : Int → Hd × List Pt} {ts : List Th} {fs : List Fe} {R : List Rw} {F : List Fe} {k : Int} {a : Se} {w w' : World} {e : Ending} (h : Tab n cd ts fs R) (ha : a ∈ effL R F k) (q : ApplyPost w 0 n cd ts fs a.s e w') : ∃ p c, e = .returned (.tuple #[.slice p (amgL fs R (applyL R (pickF R fs) a)).length c, .int .i64 0]) ∧ w.grownBy w' none ∧ FOwn w' w.heap.size (.slice p (amgL fs R (applyL R (pickF R fs) a)).length c) (amgL fs R (applyL R (pickF R fs) a)) := by
  obtain ⟨p, m, c, e1, g, _, h1⟩ := q
  have o := h1 R a rfl h.tab (h.one ha)
  rw [lkE_ok h.tab (h.one ha)] at e1
  obtain ⟨p', c', e2⟩ := RecT.Own.form o
  cases e2
  exact ⟨p, c, e1, g, o⟩
theorem Tab.abt {n : Int} {cd : Int → Hd × List Pt} {ts : List Th} {fs : List Fe} {R : List Rw} {F : List Fe} {k : Int} {a : Se} {w w' : World} {e : Ending} (h : Tab n cd ts fs R) (ha : a ∈ effL R F k) (q : AboutPost w 0 n cd ts fs a.s e w') : ∃ p c, e = .returned (.tuple #[.slice p (numL R (aboutL R (pickF R fs) a)).length c, .int .i64 0]) ∧ w.grownBy w' none ∧ LOwnI w' w.heap.size (.slice p (numL R (aboutL R (pickF R fs) a)).length c) (numL R (aboutL R (pickF R fs) a)) := by
  obtain ⟨p, m, c, e1, g, _, h1⟩ := q
  have o := h1 R a rfl h.tab (h.one ha)
  rw [lkE_ok h.tab (h.one ha)] at e1
  obtain ⟨p', c', e2⟩ := LOwnI.form o
  cases e2
  exact ⟨p, c, e1, g, o⟩
theorem map_s_at {L : List Se} {i : Nat} (h : i < L.length) : (L.map Se.s)[i]'(by simpa using h) = (L.getD i Se.none).s := by rw [List.getElem_map, getD_in h]
theorem es_there {w : World} {v : Value} {L : List Se} (h : sdR.At w v (L.map Se.s)) {i : Nat} (hi : i < L.length) : ∃ g off cap, v = .slice (some ⟨g, off, none⟩) L.length cap ∧ w.rangeAt g (off + i * 10) (sdc (L.getD i Se.none).s) := by
  obtain ⟨g, off, cap, e, q⟩ := sd_there h (i := i) (by simpa using hi)
  rw [map_s_at hi] at q
  exact ⟨g, off, cap, by rw [e, List.length_map], q⟩
theorem es_slice {w : World} {v : Value} {L : List Se} (h : sdR.At w v (L.map Se.s)) (h0 : 0 < L.length) : ∃ g off cap, v = .slice (some ⟨g, off, none⟩) L.length cap ∧ ∀ w', w.grownBy w' none → ∀ i, i < L.length → w'.rangeAt g (off + i * 10) (sdc (L.getD i Se.none).s) := by
  obtain ⟨g, off, cap, e, _⟩ := es_there h h0
  refine ⟨g, off, cap, e, fun w' gr i hi => ?_⟩
  obtain ⟨g', off', cap', e', q⟩ := es_there (h.keep gr) hi
  rw [e] at e'
  cases e'
  exact q
theorem FiA.forms {w : World} {vc vm : Value} {cs : List Ent} {ms : List Mk} (h : FiA w vc vm cs ms) : ∃ a k a' k', vc = .slice a cs.length k ∧ vm = .slice a' ms.length k' := by
  obtain ⟨a, k, e, _⟩ := h.c
  obtain ⟨a', k', e', _⟩ := h.m
  exact ⟨a, k, a', k', e, e'⟩
theorem Tab.effs {n : Int} {cd : Int → Hd × List Pt} {ts : List Th} {fs : List Fe} {R : List Rw} (h : Tab n cd ts fs R) (hc : ∀ c, (cd c).2.length ≤ 4) (F : List Fe) (k : Int) : (effL R F k).length ≤ 64 := by
  have hp : ∀ i, (R.getD i Rw.none).ps.length ≤ 4 := fun i => by
    by_cases hi : i < R.length
    · rw [getD_in hi]
      obtain ⟨j, t, f, _, _, c⟩ := tbl_of _ _ _ (h.perm.mem_iff.1 (List.getElem_mem hi))
      rw [c]
      exact hc _
    · rw [List.getD_eq_getElem?_getD, List.getElem?_eq_none (by omega)]
      exact Nat.zero_le _
  have := effU_len (F := F) (k := k) hp R.length
  have := h.few
  unfold effL
  omega
def FilB (w : World) (g : Nat) (vc vm : Value) (op : Bool) : Prop := w.heap[g]? = some (.cells #[vc, vm, .bool op] 25 (0, 0))
theorem fil_box {w : World} {g : Nat} {vc vm : Value} {op : Bool} (h : FilB w g vc vm op) : w.cell? ⟨g, 0, none⟩ = some vc ∧ w.cell? ⟨g, 1, none⟩ = some vm ∧ w.cell? ⟨g, 2, none⟩ = some (.bool op) := ⟨(block_cell h 0).trans rfl, (block_cell h 1).trans rfl, (block_cell h 2).trans rfl⟩
/-- What stands ahead of the book. -/
structure Pre (w W : World) (b0 b1 : Nat) (vc vm vt vf : Value) (op : Bool) (cs : List Ent) (ms : List Mk) (ts : List Th) (fs : List Fe) : Prop where
  fi : FiA W vc vm cs ms
  th : thR.At W vt ts
  fe : feR.At W vf fs
  fb : FilB W b0 vc vm op
  tb : TabB W b1 vt vf
  gr : w.grownBy W none
theorem Pre.keep {w W W' : World} {b0 b1 : Nat} {vc vm vt vf : Value} {op : Bool} {cs : List Ent} {ms : List Mk} {ts : List Th} {fs : List Fe} (h : Pre w W b0 b1 vc vm vt vf op cs ms ts fs) (g : W.grownBy W' none) : Pre w W' b0 b1 vc vm vt vf op cs ms ts fs := ⟨h.fi.keep g, h.th.keep g, h.fe.keep g, grown_keep g h.fb (by simp), grown_keep g h.tb (by simp), grown_trans h.gr g⟩
theorem Pre.ras {w W W' : World} {b0 b1 : Nat} {vc vm vt vf : Value} {op : Bool} {cs : List Ent} {ms : List Mk} {ts : List Th} {fs : List Fe} {n b r : Nat} {v : Value} {es fs' : List Ent} {p : Pl} (h : Pre w W b0 b1 vc vm vt vf op cs ms ts fs) (g : W.grownBy W' none) (P : Pr (okB n) W' b r v es fs' p) (hf : fs.length ≤ 4096) : RaS w W' b1 (.pointer (some ⟨b, 0, none⟩)) vt vf (refE p ts.length) (es.length : Int) (atC p es) ts fs := ⟨LIn.of P.book (h.th.keep g) (h.fe.keep g) hf, (h.keep g).tb, (h.keep g).gr⟩
end Go.Proofs.YtmemeloehgemcaaGreat
namespace Go.Proofs.YtmemeloehgemcaaGreat
open Go.RowKit Go.Shelf

theorem ClS.block {w0 w w' : World} {B gk gf gs : Nat} {bp : Option Addr} {vt vp vf : Value} {k : Int} {fs : List Fe} {base n : Nat} {v : Value} {xs : List Value} (h : ClS w0 w B gk gf gs bp vt vp k vf fs) (o : w.ownsRow base 49 10 v n xs) (g : w.grownBy w' v.ownBlock) (hb : w0.heap.size ≤ base) : ClS w0 w' B gk gf gs bp vt vp k vf fs := ⟨⟨grown_keep g h.cl.kb (own_tag o h.cl.kb (by decide)), grown_keep g h.cl.fb (own_tag o h.cl.fb (by decide)), grown_keep g h.cl.sb (own_tag o h.cl.sb (by decide))⟩, own_other h.fo o (by decide) g, grown_own h.gr g (fun x e => Nat.le_trans hb (World.ownsRow.lt o x e).1), h.hk, h.hf⟩
theorem VIn.few4 {w : World} {bv vt : Value} {r n : Int} {cd : Int → Hd × List Pt} {ts : List Th} {pf : Th → Fe} {mf : Fe → Th → Fe} {me : Th → Int} (I : VIn w bv vt r n cd ts pf mf me) (hr : r = 0) : ∀ c, (cd c).2.length ≤ 4 := ((I.li w (.slice none 0 0) [] (grown_refl _ _) (RecT.At.nil _ _) (by decide)).book hr).1.few
theorem ap_few {n : Int} {cd : Int → Hd × List Pt} {ts : List Th} {fs : List Fe} {R : List Rw} (h : Tab n cd ts fs R) (hc : ∀ c, (cd c).2.length ≤ 4) (k : Nat) : (apK R fs k).length ≤ 64 := by
  unfold apK
  rw [allR_len]
  exact (h.cl k).effs hc _ _
theorem st_few {n : Int} {cd : Int → Hd × List Pt} {ts : List Th} {fs : List Fe} {R : List Rw} (h : Tab n cd ts fs R) (hc : ∀ c, (cd c).2.length ≤ 4) : ∀ k, (stU R fs k).length ≤ 64 * k
  | 0 => Nat.le_refl _
  | k + 1 => by
    show (stU R fs k ++ apK R fs k).length ≤ _
    rw [List.length_append]
    have := st_few h hc k
    have := ap_few h hc k
    omega
theorem vSt_is {r n : Int} {cd : Int → Hd × List Pt} {ts : List Th} {pf : Th → Fe} {me : Th → Int} {R : List Rw} (h : vkE r n cd ts (prtF pf (ts.take 2048)) me = 0) (hT : Tab n cd ts (prtF pf ts) R) : vSt r n cd ts pf me = stU R (prtF pf ts) 5 := by
  unfold vSt
  rw [if_pos h, hT.tab]
theorem vSt_no {r n : Int} {cd : Int → Hd × List Pt} {ts : List Th} {pf : Th → Fe} {me : Th → Int} (h : vkE r n cd ts (prtF pf (ts.take 2048)) me ≠ 0) : vSt r n cd ts pf me = [] := if_neg h
def StPost (w : World) (r n : Int) (cd : Int → Hd × List Pt) (ts : List Th) (pf : Th → Fe) (me : Th → Int) (e : Ending) (w' : World) : Prop := ∃ v, e = .returned (.tuple #[v, .int .i64 (vkE r n cd ts (prtF pf (ts.take 2048)) me)]) ∧ w.grownBy w' none ∧ DOwn w' w.heap.size v ((vSt r n cd ts pf me).map Se.s)
theorem len_two {a b : Nat} (h1 : a ≤ 320) (h2 : b ≤ 64) : a + b ≤ maxLen ∧ (a + b) * 56 ≤ 140737488355328 := by unfold maxLen; omega
theorem app_sd {w : World} {base : Nat} {v : Value} {A B : List Sd} (h : w.ownsRow base 49 10 v (A.length + B.length) (sdR.cs A ++ sdR.cs B)) : DOwn w base v (A ++ B) := by
  unfold DOwn RecT.Own
  rw [List.length_append, sdR.app]
  exact h
set_option maxRecDepth 100000 in
set_option maxHeartbeats 4000000 in
theorem vsteps_any (bp : Option Addr) (vt : Value) (r n : Int) (cd : Int → Hd × List Pt) (ts : List Th) (pf : Th → Fe) (mf : Fe → Th → Fe) (me : Th → Int) (w : World) (I : VIn w (.pointer bp) vt r n cd ts pf mf me) : Calls Tryz.prog 27 #[.pointer bp, vt] w (StPost w r n cd ts pf me) := by
  have HLk := vlook_any bp vt r n cd ts pf mf me w I
  unfold VkPost at HLk
  obtain ⟨pt, ct, rfl, hcap⟩ := I.cap
  have HI : Hid (VIn w (.pointer bp) (.slice pt ts.length ct) r n cd ts pf mf me) := I
  clear I hcap
  go_enter Tryz.func27, Tryz.ntmps27
  go_wp2_with fail
  refine HLk.mono ?_
  rintro e2 w2 ⟨bq, p1, m1, c1, p2, m2, c2, rfl, g2, h2⟩
  obtain ⟨q, hq⟩ : ∃ q, q = vkE r n cd ts (prtF pf (ts.take 2048)) me := ⟨_, rfl⟩
  rw [← hq] at h2 ⊢
  have Hq : Hid (q = vkE r n cd ts (prtF pf (ts.take 2048)) me) := hq
  clear HLk hq
  obtain ⟨W3, hW3⟩ : ∃ W3, W3 = w2.alloc (.cells #[.pointer bq, .slice p1 m1 c1, .slice p2 m2 c2] 144) := ⟨_, rfl⟩
  have HG3 : Hid (w.grownBy W3 none) := by rw [hW3]; exact grown_push g2 _
  have HS3 : Hid (ScB W3 w2.heap.size bq (.slice p1 m1 c1) (.slice p2 m2 c2)) := by rw [hW3]; exact alloc_at _ _ _
  have H2 : Hid (q = 0 → bq = bp ∧ Value.slice pt ts.length ct = .slice p1 m1 c1 ∧ FOwn W3 w.heap.size (.slice p2 m2 c2) (prtF pf ts)) := fun z => by
    obtain ⟨a, b, c⟩ := h2 z
    exact ⟨a, b, own_grow c (by rw [hW3]; exact World.grownBy_alloc _ _ none)⟩
  clear g2 h2
  go_upto_region 2 with fail
  rw [← hW3]
  clear hW3
  obtain ⟨ns, hns⟩ : ∃ ns, ns = w2.heap.size := ⟨_, rfl⟩
  simp only [← hns] at HS3 ⊢
  clear hns
  by_cases hq0 : q = 0
  · have e1 : (q != 0) = false := by simpa using hq0
    have hv0 : vkE r n cd ts (prtF pf (ts.take 2048)) me = 0 := Hq.out.symm.trans hq0
    obtain ⟨hr0, ⟨R, hR⟩, -⟩ := vkE_of hv0
    have hts : ts.length ≤ 2048 := HI.out.few hr0
    rw [List.take_of_length_le hts] at hR
    obtain ⟨eb, ev, hO⟩ := H2.out hq0
    subst eb
    injection ev with ev1 ev2 ev3
    subst ev1
    subst ev3
    rw [← ev2] at HS3 ⊢
    obtain ⟨L, hL⟩ : ∃ L, L = ts.length := ⟨_, rfl⟩
    have hm2 : m2 = ts.length := by obtain ⟨a, b, e⟩ := RecT.Own.form hO; injection e with _ e _; rw [e, prtF_len]
    obtain ⟨F, hF⟩ : ∃ F, F = prtF pf ts := ⟨_, rfl⟩
    have HF : Hid (F = prtF pf ts ∧ F.length = ts.length) := ⟨hF, by rw [hF, prtF_len]⟩
    rw [← hF] at hO hR
    rw [hm2] at hO HS3 ⊢
    have HO : Hid (FOwn W3 w.heap.size (.slice p2 ts.length c2) F) := hO
    have HT : Hid (Tab n cd ts F R ∧ r = 0 ∧ ts.length ≤ 2048 ∧ vkE r n cd ts (prtF pf (ts.take 2048)) me = 0) := ⟨hR, hr0, hts, hv0⟩
    clear H2 hq0 hv0 hR hr0 hts hm2 hO hF ev2 m1 m2 hL L
    obtain ⟨s0, s1, s2⟩ := sc_box HS3.out
    have C4 := vclimber_any bq pt p2 ts.length ct ts.length c2 W3
    go_wp2_with fail
    refine C4.mono ?_
    rintro e4 w4 ⟨gk, gf, gs, rfl, h4, g4, hk4, hf4⟩
    have HG4 : Hid (W3.grownBy w4 none) := g4
    have HC0 : Hid (ClS w w4 w.heap.size gk gf gs bq (.slice pt ts.length ct) (.slice p2 ts.length c2) ((0 : Nat) : Int) (.slice p2 ts.length c2) (clF R F 0)) := ⟨h4, own_grow HO.out g4, grown_trans HG3.out g4, Nat.le_trans HG3.out.size hk4, Nat.le_trans HG3.out.size hf4⟩
    clear C4 h4 g4 hk4 hf4 s0 s1 s2 e1
    unfold clV
    obtain ⟨i0, hi, hz0, hz1, hz2⟩ := info_parts Tryz.linfoD
    go_wp2_with fail
    go_loopw [8, 21] (fun x y wr => ∃ (j : Nat) (p : Option Addr) (c B : Nat) (ps : Option Addr) (nS cS : Nat), j ≤ 5 ∧ y = .int .i64 (j : Int) ∧ x = .slice ps nS cS ∧ Hid (ClS w wr B gk gf gs bq (.slice pt ts.length ct) (.slice p2 ts.length c2) (j : Int) (.slice p ts.length c) (clF R F j)) ∧ Hid (DOwn wr w.heap.size (.slice ps nS cS) ((stU R F j).map Se.s))) (fun _ y _ => 5 - (intOf y).toNat)
    case atStart => exact ⟨0, p2, c2, w.heap.size, none, 0, 0, Nat.zero_le _, rfl, rfl, HC0, RecT.Own.nil _ _ _ _⟩
    case round =>
      obtain ⟨j, p, c, B, ps, nS, cS, hj, rfl, rfl, HC, HD⟩ := hrel
      obtain ⟨U, hU⟩ : ∃ U, U = wr := ⟨_, rfl⟩
      subst hU
      clear HC0
      by_cases hlt : j < 5
      · have hlf : (clF R F j).length = ts.length := by rw [clF_len]; exact HF.out.2
        have C5 := vclimb_any bq pt p2 ct ts.length c2 r n cd ts pf mf me w U B gk gf gs (j : Int) (.slice p ts.length c) (clF R F j) R HI.out HC.out (HT.out.1.cl j) HT.out.2.1 (by omega) (by omega)
        unfold ClPost at C5
        rw [hlf] at C5
        have hlt' : (j : Int) < 5 := by omega
        have hwk := wrap_next (k := j) (by omega)
        have Hlt : Hid (j < 5) := hlt
        have HM : Hid (5 - (intOf (.int .i64 ((j : Int) + 1))).toNat < 5 - (intOf (.int .i64 (j : Int))).toNat) := meas_k hlt
        have HSz : Hid (w.heap.size ≤ U.heap.size) := HC.out.gr.size
        have HCL : Hid (ClB U gk gf gs bq (.slice pt ts.length ct) (.slice p2 ts.length c2) (j : Int) (.slice p ts.length c)) := HC.out.cl
        obtain ⟨A, hA⟩ : ∃ A, A = (stU R F j).map Se.s := ⟨_, rfl⟩
        obtain ⟨E, hE⟩ : ∃ E, E = (allR R (clF R F j) ((j : Int) + 1)).2.map Se.s := ⟨_, rfl⟩
        have HAE : Hid ((stU R F (j + 1)).map Se.s = A ++ E ∧ A.length ≤ 320 ∧ E.length ≤ 64) := by
          refine ⟨?_, ?_, ?_⟩
          · rw [hA, hE]; show (stU R F j ++ apK R F j).map Se.s = _; rw [List.map_append]; rfl
          · rw [hA, List.length_map]; have := st_few HT.out.1 (HI.out.few4 HT.out.2.1) j; omega
          · rw [hE, List.length_map]; exact ap_few HT.out.1 (HI.out.few4 HT.out.2.1) j
        rw [← hE] at C5
        rw [← hA] at HD
        clear hlt hj hlf HC hA hE
        have hfl := Tryz.fl1
        go_wp2_with (first
          | (go_at_call 113; refine C5.mono ?_; rintro e5 w5 ⟨q1, n1, d1, q2, d2, rfl, h5, hD5, -, tw5⟩; have HC5 : Hid (ClS w w5 U.heap.size gk gf gs bq (.slice pt ts.length ct) (.slice p2 ts.length c2) ((j + 1 : Nat) : Int) (.slice q2 ts.length d2) (clF R F (j + 1))) := h5; have HD5 : Hid (DOwn w5 w.heap.size (.slice ps nS cS) A) := tw5.own HCL.out HD.out (by decide) (by decide); have HS5 : Hid (Src w5 (.slice q1 n1 d1) E.length 10 (sdR.cs E)) := RecT.At.src (RecT.Own.at hD5); have HL5 : Hid (A.length + E.length ≤ maxLen ∧ (A.length + E.length) * 56 ≤ 140737488355328) := len_two HAE.out.2.1 HAE.out.2.2; have HW5 : Hid (w.heap.size ≤ w5.heap.size) := HC5.out.gr.size; clear C5 h5 hD5 tw5)
          | (at_builtin; refine lwpl_app (by rfl) (.tmp 23) (.tmp 26) 36 rfl w.heap.size 49 i0 _ 10 56 Tryz.underlying36 hi hz0 hz1 hz2 rfl (by decide) _ A.length (sdR.cs A) rfl HD5.out _ E.length (sdR.cs E) rfl HS5.out (sdR.ones E) HL5.out.1 HL5.out.2 HW5.out ?_; intro v6 w6 o6 g6 _; have HO6 : Hid (w6.ownsRow w.heap.size 49 10 v6 (A.length + E.length) (sdR.cs A ++ sdR.cs E) ∧ w5.grownBy w6 (Value.slice ps nS cS).ownBlock) := ⟨o6, g6⟩; clear o6 g6))
        obtain ⟨ps', cS', ev, -⟩ := own_slice HO6.out.1
        have HC6 : Hid (ClS w w6 U.heap.size gk gf gs bq (.slice pt ts.length ct) (.slice p2 ts.length c2) ((j + 1 : Nat) : Int) (.slice q2 ts.length d2) (clF R F (j + 1))) := HC5.out.block HD5.out HO6.out.2 (Nat.le_refl _)
        have HD6 : Hid (DOwn w6 w.heap.size v6 ((stU R F (j + 1)).map Se.s)) := by show DOwn _ _ _ _; rw [HAE.out.1]; exact app_sd HO6.out.1
        subst ev
        go_roundw
        case rel => exact ⟨j + 1, q2, d2, U.heap.size, ps', A.length + E.length, cS', Hlt.out, by first | rfl | (rw [hwk]; rfl) | go_num, rfl, HC6, HD6⟩
        case measure => first | exact HM.out | (rw [hwk]; exact HM.out)
      · obtain rfl : j = 5 := Nat.le_antisymm hj (Nat.le_of_not_lt hlt)
        have HX : Hid (DOwn U w.heap.size (.slice ps nS cS) ((vSt r n cd ts pf me).map Se.s) ∧ w.grownBy U none) := ⟨by rw [vSt_is HT.out.2.2.2 (HF.out.1 ▸ HT.out.1), ← HF.out.1]; exact HD.out, HC.out.gr⟩
        clear hj hlt
        go_wp2_with fail
        go_ret2
        exact ⟨_, by rw [HT.out.2.2.2]; rfl, HX.out.2, HX.out.1⟩
  · have e1 : (q != 0) = true := by simpa using hq0
    have HX : Hid (vSt r n cd ts pf me = []) := vSt_no (fun z => hq0 (Hq.out.trans z))
    clear hq0
    go_wp2_with fail
    go_ret2
    exact ⟨_, by rw [← Hq.out]; rfl, HG3.out, by rw [HX.out]; exact RecT.Own.nil _ _ _ _⟩
end Go.Proofs.YtmemeloehgemcaaGreat
namespace Go.Proofs.YtmemeloehgemcaaGreat
open Go.RowKit Go.Shelf

def stOf (ts : List Th) (x : Int) : Int := (ts.getD (x - 1).toNat Th.none).stamp
theorem Tab.up {n : Int} {cd : Int → Hd × List Pt} {ts : List Th} {fs : List Fe} {R : List Rw} (h : Tab n cd ts fs R) : R.Pairwise fun a b => a.st < b.st := by
  have h' := h.tab
  unfold tabR at h'
  split at h'
  · split at h'
    · split at h'
      · rename_i hd
        cases h'
        have := dif_up (stamps_up (sortR_up _)) hd
        unfold stampsR at this
        rw [List.pairwise_map] at this
        exact this
      · cases h'
    · cases h'
  · cases h'
theorem about_at {R : List Rw} {F : List Fe} {a : Se} {i : Nat} (hi : i < R.length) : (aboutL R F a).getD i false = isAbB R F a i := by
  unfold aboutL aboutU
  rw [getD_in (by simpa using hi)]
  simp
theorem num_mem {R : List Rw} {F : List Fe} {a : Se} {x : Int} : x ∈ numL R (aboutL R F a) ↔ ∃ i, i < R.length ∧ isAbB R F a i = true ∧ (R.getD i Rw.none).nu = x := by
  unfold numL numU
  rw [List.mem_filterMap]
  constructor
  · rintro ⟨i, hi, e⟩
    rw [List.mem_range] at hi
    rw [about_at hi] at e
    split at e
    · rename_i hb
      cases e
      exact ⟨i, hi, hb, rfl⟩
    · cases e
  · rintro ⟨i, hi, hb, rfl⟩
    exact ⟨i, List.mem_range.2 hi, by rw [about_at hi, if_pos hb]⟩
theorem Tab.thing {n : Int} {cd : Int → Hd × List Pt} {ts : List Th} {fs : List Fe} {R : List Rw} (h : Tab n cd ts fs R) {i : Nat} (hi : i < R.length) : (ts.getD ((R.getD i Rw.none).nu - 1).toNat Th.none).place = 4 ∧ stOf ts (R.getD i Rw.none).nu = (R.getD i Rw.none).st ∧ 0 < (R.getD i Rw.none).st ∧ 1 ≤ (R.getD i Rw.none).nu ∧ (R.getD i Rw.none).nu ≤ (fs.length : Int) := by
  have hr : R.getD i Rw.none ∈ R := by rw [getD_in hi]; exact List.getElem_mem _
  obtain ⟨j, t, ht, h4, hn, hs⟩ := h.from hr
  have hj : j < ts.length := (List.getElem?_eq_some_iff.1 ht).1
  have e : ts.getD j Th.none = t := by rw [List.getD_eq_getElem?_getD, ht]; rfl
  have hm := h.may j t _ ht (List.getElem?_eq_getElem (by rw [← h.len]; exact hj)) h4
  unfold mayLieB at hm
  simp only [Bool.and_eq_true, decide_eq_true_eq] at hm
  unfold stOf
  rw [hn, show ((j : Int) + 1 - 1).toNat = j by omega, e, hs]
  exact ⟨h4, rfl, hm.1.1, by omega, by rw [← h.len]; omega⟩
theorem Tab.num {n : Int} {cd : Int → Hd × List Pt} {ts : List Th} {fs : List Fe} {R : List Rw} {F : List Fe} {a : Se} (h : Tab n cd ts fs R) {x : Int} (hx : x ∈ numL R (aboutL R F a)) : 1 ≤ x ∧ x ≤ (fs.length : Int) ∧ (ts.getD (x - 1).toNat Th.none).place = 4 ∧ 0 < stOf ts x := by
  obtain ⟨i, hi, _, rfl⟩ := num_mem.1 hx
  obtain ⟨a1, a2, a3, a4, a5⟩ := h.thing hi
  exact ⟨a4, a5, a1, by rw [a2]; exact a3⟩
theorem Tab.rise {n : Int} {cd : Int → Hd × List Pt} {ts : List Th} {fs : List Fe} {R : List Rw} (F : List Fe) (a : Se) (h : Tab n cd ts fs R) : (numL R (aboutL R F a)).Pairwise fun x y => stOf ts x < stOf ts y := by
  unfold numL numU
  refine List.Pairwise.filterMap _ (R := fun i j : Nat => i < R.length → j < R.length → i < j) ?_ ?_
  · intro i j hij x hx y hy
    by_cases hi : i < R.length
    · by_cases hj : j < R.length
      · split at hx
        · split at hy
          · cases hx; cases hy
            have hlt := hij hi hj
            rw [(h.thing hi).2.1, (h.thing hj).2.1, getD_in hi, getD_in hj]
            exact List.pairwise_iff_getElem.1 h.up i j hi hj hlt
          · cases hy
        · cases hx
      · split at hy
        · rename_i hb
          rw [List.getD_eq_getElem?_getD, List.getElem?_eq_none (by unfold aboutL aboutU; simp; omega)] at hb
          cases hb
        · cases hy
    · split at hx
      · rename_i hb
        rw [List.getD_eq_getElem?_getD, List.getElem?_eq_none (by unfold aboutL aboutU; simp; omega)] at hb
        cases hb
      · cases hx
  · exact List.pairwise_lt_range.imp (fun {i j} q _ _ => q)
/-- What becomes of the feature at a place. -/
theorem Tab.becomes {n : Int} {cd : Int → Hd × List Pt} {ts : List Th} {fs : List Fe} {R : List Rw} {G : List Fe} {k : Int} {a : Se} (h : Tab n cd ts fs R) (ha : a ∈ effL R G k) (j : Nat) : (amgL fs R (applyL R (pickF R fs) a)).getD j Fe.none = if ((j : Int) + 1) ∈ numL R (aboutL R (pickF R fs) a) then doneF (fs.getD j Fe.none) a.s.wh (fs.getD (a.s.th - 1).toNat Fe.none).ho else fs.getD j Fe.none := by
  have q := amgU_at (fs := fs) (F := applyL R (pickF R fs) a) h.nod h.nu R.length (Nat.le_refl _)
  obtain ⟨hro, hth, _⟩ := eff_mem ha
  have pk : ∀ i, i < R.length → (pickF R fs).getD i Fe.none = fs.getD ((R.getD i Rw.none).nu - 1).toNat Fe.none := fun i hi => by
    rw [getD_in (by rw [pickF_len]; exact hi)]
    unfold pickF
    rw [List.getElem_map, ← getD_in (d := Rw.none) hi]
  by_cases z : ∃ i, i < R.length ∧ (R.getD i Rw.none).nu = (j : Int) + 1
  · obtain ⟨i, hi, e⟩ := z
    have e1 := q.1 i hi
    rw [e, show ((j : Int) + 1 - 1).toNat = j by omega, applyL_at (by rw [pickF_len]; exact hi)] at e1
    have e2 : (amgL fs R (applyL R (pickF R fs) a)).getD j Fe.none = applyAt R (pickF R fs) a i := by
      rw [List.getD_eq_getElem?_getD]
      unfold amgL
      rw [e1]
      rfl
    rw [e2]
    unfold applyAt
    rw [pk i hi, e, show ((j : Int) + 1 - 1).toNat = j by omega, pk a.ro hro, ← hth]
    by_cases hb : isAbB R (pickF R fs) a i = true
    · rw [if_pos hb, if_pos (num_mem.2 ⟨i, hi, hb, e⟩)]
    · rw [if_neg hb, if_neg]
      intro hm
      obtain ⟨i', hi', hb', e'⟩ := num_mem.1 hm
      have := nu_inj h.nod hi hi' (by rw [e, e'])
      subst this
      exact hb hb'
  · have hz : ∀ i, i < R.length → (R.getD i Rw.none).nu ≠ (j : Int) + 1 := fun i hi e => z ⟨i, hi, e⟩
    have e1 := q.2 j hz
    rw [if_neg (fun hm => by obtain ⟨i', hi', _, e'⟩ := num_mem.1 hm; exact hz i' hi' e'), List.getD_eq_getElem?_getD, List.getD_eq_getElem?_getD]
    unfold amgL
    rw [e1]
end Go.Proofs.YtmemeloehgemcaaGreat
namespace Go.Proofs.YtmemeloehgemcaaGreat
open Go.RowKit Go.Shelf

/-- Features on the table alone, behind each layer; the effects of one. -/
def pkA (R : List Rw) (F : List Fe) (k : Int) : List Fe × List Se := allL R (effL R F k).length F (effL R F k) []
def pkF (R : List Rw) (F : List Fe) : Nat → List Fe
  | 0 => F
  | k + 1 => (pkA R (pkF R F k) ((k : Int) + 1)).1
theorem allL_len (R : List Rw) : ∀ (n : Nat) (F : List Fe) (L A : List Se), (allL R n F L A).1.length = F.length
  | 0, F, L, A => rfl
  | n + 1, F, L, A => by
    unfold allL
    split
    · rfl
    · rw [allL_len R n, applyL_len]
theorem pkF_len (R : List Rw) (F : List Fe) : ∀ k, (pkF R F k).length = F.length
  | 0 => rfl
  | k + 1 => (allL_len _ _ _ _ _).trans (pkF_len R F k)
theorem Tab.cl_pick {m : Int} {cd : Int → Hd × List Pt} {ts : List Th} {fs : List Fe} {R : List Rw} (h : Tab m cd ts fs R) : ∀ k, pickF R (clF R fs k) = pkF R (pickF R fs) k ∧ clF R fs k = amgL fs R (pkF R (pickF R fs) k)
  | 0 => ⟨rfl, h.self.symm⟩
  | k + 1 => by
    obtain ⟨h1, h2⟩ := h.cl_pick k
    have e : (allR R (clF R fs k) ((k : Int) + 1)).1 = pkF R (pickF R fs) (k + 1) := by
      show _ = (pkA R (pkF R (pickF R fs) k) ((k : Int) + 1)).1
      unfold allR pkA
      rw [h1]
    have hl : (pkF R (pickF R fs) (k + 1)).length = R.length := by rw [pkF_len, pickF_len]
    constructor
    · show pickF R (amgL (clF R fs k) R (allR R (clF R fs k) ((k : Int) + 1)).1) = _
      rw [e]
      exact (h.cl k).pick hl
    · show amgL (clF R fs k) R (allR R (clF R fs k) ((k : Int) + 1)).1 = _
      rw [e, h2]
      exact h.lay2 _ _
theorem Tab.ap_pick {m : Int} {cd : Int → Hd × List Pt} {ts : List Th} {fs : List Fe} {R : List Rw} (h : Tab m cd ts fs R) (k : Nat) : apK R fs k = (pkA R (pkF R (pickF R fs) k) ((k : Int) + 1)).2 := by
  unfold apK allR pkA
  rw [(h.cl_pick k).1]
/-- Rows that differ by their numbers and stamps alone. -/
structure SmQ (u : Int → Int) (R Q : List Rw) : Prop where
  len : Q.length = R.length
  nu : ∀ i, i < R.length → (Q.getD i Rw.none).nu = u (R.getD i Rw.none).nu
  h : ∀ i, (Q.getD i Rw.none).h = (R.getD i Rw.none).h
  ps : ∀ i, (Q.getD i Rw.none).ps = (R.getD i Rw.none).ps
def reS (u : Int → Int) (s : Sd) : Sd := { s with th := u s.th }
def reE (u : Int → Int) (e : Se) : Se := { e with s := reS u e.s }
theorem reE_wh (u : Int → Int) (e : Se) : (reE u e).s.wh = e.s.wh := rfl
theorem reE_ro (u : Int → Int) (e : Se) : (reE u e).ro = e.ro := rfl
theorem SmQ.isAb {u : Int → Int} {R Q : List Rw} (h : SmQ u R Q) (F : List Fe) (s : Se) (i : Nat) : isAbB Q F (reE u s) i = isAbB R F s i := by unfold isAbB; rw [h.h, reE_wh, reE_ro]
theorem SmQ.about {u : Int → Int} {R Q : List Rw} (h : SmQ u R Q) (F : List Fe) (s : Se) : aboutL Q F (reE u s) = aboutL R F s := by
  unfold aboutL aboutU
  rw [h.len]
  exact List.map_congr_left fun i _ => h.isAb F s i
theorem SmQ.apply {u : Int → Int} {R Q : List Rw} (h : SmQ u R Q) (F : List Fe) (s : Se) : applyL Q F (reE u s) = applyL R F s := by
  unfold applyL
  exact List.map_congr_left fun i _ => by unfold applyAt; rw [h.isAb, reE_wh, reE_ro]
theorem SmQ.dep {u : Int → Int} {R Q : List Rw} (h : SmQ u R Q) (F : List Fe) (s o : Se) : depB Q F (reE u s) (reE u o) = depB R F s o := by unfold depB; rw [h.about, h.apply, h.about]
theorem getD_map {α β : Type} (f : α → β) (l : List α) (i : Nat) (d : α) (e : β) (h : i < l.length) : (l.map f).getD i e = f (l.getD i d) := by
  rw [List.getD_eq_getElem?_getD, List.getD_eq_getElem?_getD, List.getElem?_map, List.getElem?_eq_getElem h]
  rfl
theorem SmQ.next {u : Int → Int} {R Q : List Rw} (h : SmQ u R Q) (F : List Fe) (L : List Se) : nextN Q F (L.map (reE u)) = nextN R F L := by
  unfold nextN
  rw [List.length_map]
  have e : ∀ i ∈ List.range L.length, freeB Q F (L.map (reE u)) i = freeB R F L i := fun i hi => by
    rw [List.mem_range] at hi
    unfold freeB
    rw [List.length_map]
    have q : ∀ j ∈ List.range L.length, (decide (i = j) || !depB Q F ((L.map (reE u)).getD i Se.none) ((L.map (reE u)).getD j Se.none)) = (decide (i = j) || !depB R F (L.getD i Se.none) (L.getD j Se.none)) := fun j hj => by
      rw [List.mem_range] at hj
      rw [getD_map _ _ _ Se.none _ hi, getD_map _ _ _ Se.none _ hj, h.dep]
    rw [Bool.eq_iff_iff, List.all_eq_true, List.all_eq_true]
    exact ⟨fun z j hj => by rw [← q j hj]; exact z j hj, fun z j hj => by rw [q j hj]; exact z j hj⟩
  congr 1
  generalize List.range L.length = l at e
  induction l with
  | nil => rfl
  | cons a l ih =>
    rw [List.find?_cons, List.find?_cons, e a List.mem_cons_self, ih (fun i hi => e i (List.mem_cons_of_mem _ hi))]
theorem eraseIdx_map' {α β : Type} (f : α → β) : ∀ (l : List α) (i : Nat), (l.map f).eraseIdx i = (l.eraseIdx i).map f
  | [], _ => rfl
  | _ :: _, 0 => rfl
  | a :: l, i + 1 => by rw [List.map_cons, List.eraseIdx_cons_succ, List.eraseIdx_cons_succ, List.map_cons, eraseIdx_map' f l i]
theorem SmQ.all {u : Int → Int} {R Q : List Rw} (h : SmQ u R Q) : ∀ (n : Nat) (F : List Fe) (L A : List Se), allL Q n F (L.map (reE u)) (A.map (reE u)) = ((allL R n F L A).1, (allL R n F L A).2.map (reE u))
  | 0, F, L, A => rfl
  | n + 1, F, L, A => by
    by_cases h0 : L = []
    · subst h0
      rfl
    · have hlt : nextN R F L < L.length := nextN_lt h0
      rw [allL_step (by simpa using h0), allL_step h0, h.next, getD_map _ _ _ Se.none _ hlt, h.apply, eraseIdx_map', show A.map (reE u) ++ [reE u (L.getD (nextN R F L) Se.none)] = (A ++ [L.getD (nextN R F L) Se.none]).map (reE u) from by rw [List.map_append]; rfl]
      exact h.all n _ _ _
theorem SmQ.eff {u : Int → Int} {R Q : List Rw} (h : SmQ u R Q) (F : List Fe) (k : Int) : effL Q F k = (effL R F k).map (reE u) := by
  unfold effL effU
  rw [h.len, List.map_flatMap]
  have e : ∀ i ∈ List.range R.length, effR Q F k i = (effR R F k i).map (reE u) := fun i hi => by
    rw [List.mem_range] at hi
    unfold effR
    split
    · rfl
    · unfold effP
      rw [h.ps, List.map_filterMap, h.nu i hi]
      congr 1
      funext j
      split <;> rfl
  generalize List.range R.length = l at e
  induction l with
  | nil => rfl
  | cons a l ih => rw [List.flatMap_cons, List.flatMap_cons, e a List.mem_cons_self, ih (fun i hi => e i (List.mem_cons_of_mem _ hi))]
theorem SmQ.pk {u : Int → Int} {R Q : List Rw} (h : SmQ u R Q) (F : List Fe) (k : Int) : pkA Q F k = ((pkA R F k).1, (pkA R F k).2.map (reE u)) := by
  unfold pkA
  rw [h.eff, List.length_map]
  exact h.all _ F _ []
theorem SmQ.pkF {u : Int → Int} {R Q : List Rw} (h : SmQ u R Q) (F : List Fe) : ∀ k, pkF Q F k = pkF R F k
  | 0 => rfl
  | k + 1 => by
    show (pkA Q (Go.Proofs.YtmemeloehgemcaaGreat.pkF Q F k) ((k : Int) + 1)).1 = (pkA R (Go.Proofs.YtmemeloehgemcaaGreat.pkF R F k) ((k : Int) + 1)).1
    rw [h.pkF F k, h.pk]
theorem SmQ.st {u : Int → Int} {R Q : List Rw} {m : Int} {cd : Int → Hd × List Pt} {ts us : List Th} {fs gs : List Fe} (h : SmQ u R Q) (hR : Tab m cd ts fs R) (hQ : Tab m cd us gs Q) (e : pickF Q gs = pickF R fs) : ∀ k, stU Q gs k = (stU R fs k).map (reE u)
  | 0 => rfl
  | k + 1 => by
    show stU Q gs k ++ apK Q gs k = (stU R fs k ++ apK R fs k).map (reE u)
    rw [h.st hR hQ e k, hQ.ap_pick, hR.ap_pick, e, h.pkF, h.pk, List.map_append]
/-- Features of a thing on the table, by its row. -/
theorem Tab.cl_at {m : Int} {cd : Int → Hd × List Pt} {ts : List Th} {fs : List Fe} {R : List Rw} (h : Tab m cd ts fs R) {i j : Nat} (hi : i < R.length) (hj : (R.getD i Rw.none).nu = (j : Int) + 1) (k : Nat) : (clF R fs k)[j]? = some ((pkF R (pickF R fs) k).getD i Fe.none) := by
  rw [(h.cl_pick k).2]
  have := (amgU_at (F := pkF R (pickF R fs) k) h.nod h.nu R.length (Nat.le_refl _)).1 i hi
  rw [hj, show ((j : Int) + 1 - 1).toNat = j by omega] at this
  exact this
/-- What is laid, if all may be. -/
theorem layF_all {n : Int} {cd : Int → Hd × List Pt} : ∀ (l : List (Th × Fe)) (i : Nat) (acc : List Rw), (∀ x ∈ l, mayBeB n x.1 = true ∧ (x.1.place = 4 → mayLieB x.1 x.2 = true ∧ (cd x.1.card).1.kd ≠ 2)) → acc.length + (tblR cd l i).length ≤ 16 → layF n cd l i acc = some (acc ++ tblR cd l i)
  | [], i, acc, _, _ => by simp [layF, tblR]
  | (t, f) :: r, i, acc, h, hl => by
    obtain ⟨h1, h2⟩ := h (t, f) List.mem_cons_self
    have hr : ∀ x ∈ r, mayBeB n x.1 = true ∧ (x.1.place = 4 → mayLieB x.1 x.2 = true ∧ (cd x.1.card).1.kd ≠ 2) := fun x hx => h x (List.mem_cons_of_mem _ hx)
    unfold layF
    rw [if_neg (by simp only at h1; rw [h1]; simp)]
    by_cases hp : t.place = 4
    · obtain ⟨h3, h4⟩ := h2 hp
      rw [tblR_yes hp] at hl ⊢
      rw [List.length_cons] at hl
      rw [if_neg (by simp [hp]), if_neg (by simp only at h3; rw [h3]; simp; omega), if_neg h4, layF_all r (i + 1) _ hr (by rw [List.length_append, List.length_singleton]; omega), List.append_assoc, List.singleton_append]
    · rw [tblR_no hp] at hl ⊢
      rw [if_pos hp, layF_all r (i + 1) acc hr hl]
theorem layF_may {n : Int} {cd : Int → Hd × List Pt} : ∀ (l : List (Th × Fe)) (i : Nat) (acc A : List Rw), layF n cd l i acc = some A → ∀ x ∈ l, mayBeB n x.1 = true ∧ (x.1.place = 4 → mayLieB x.1 x.2 = true ∧ (cd x.1.card).1.kd ≠ 2)
  | [], i, acc, A, h, x, hx => by cases hx
  | (t, f) :: r, i, acc, A, h, x, hx => by
    unfold layF at h
    split at h
    · cases h
    · rename_i h1
      have h1' : mayBeB n t = true := by cases q : mayBeB n t with | true => rfl | false => exact absurd q h1
      split at h
      · rename_i hp
        rcases List.mem_cons.1 hx with rfl | hx
        · exact ⟨h1', fun z => absurd z hp⟩
        · exact layF_may r _ _ A h x hx
      · split at h
        · cases h
        · rename_i hm
          split at h
          · cases h
          · rename_i hk
            rcases List.mem_cons.1 hx with rfl | hx
            · refine ⟨h1', fun _ => ⟨?_, hk⟩⟩
              cases q : mayLieB t f with
              | true => rfl
              | false => exact absurd (Or.inr q) hm
            · exact layF_may r _ _ A h x hx
theorem Tab.mays {n : Int} {cd : Int → Hd × List Pt} {ts : List Th} {fs : List Fe} {R : List Rw} (h : Tab n cd ts fs R) {j : Nat} {t : Th} {f : Fe} (ht : ts[j]? = some t) (hf : fs[j]? = some f) : mayBeB n t = true ∧ (t.place = 4 → mayLieB t f = true ∧ (cd t.card).1.kd ≠ 2) := by
  have := h.tab
  unfold tabR at this
  split at this
  · split at this
    · rename_i acc ha
      exact layF_may _ _ _ _ ha (t, f) (List.mem_of_getElem? (zip_get.2 ⟨ht, hf⟩))
    · cases this
  · cases this
theorem dif_strict : ∀ l : List Int, (l.Pairwise fun a b => a < b) → dif l = true
  | [], _ => rfl
  | [a], _ => rfl
  | a :: b :: l, h => by
    have h' := List.pairwise_cons.1 h
    have hab := h'.1 b List.mem_cons_self
    unfold dif
    rw [dif_strict (b :: l) h'.2]
    simp only [Bool.and_true, decide_eq_true_eq]
    omega
/-- The same things under other numbers: s tells where each is now. -/
structure Turned (n : Int) (s : Nat → Nat) (ts us : List Th) : Prop where
  len : us.length = ts.length
  lt : ∀ j, j < ts.length → s j < ts.length
  inj : ∀ i j, i < ts.length → j < ts.length → s i = s j → i = j
  sur : ∀ i, i < ts.length → ∃ j, j < ts.length ∧ s j = i
  pl : ∀ j t u, ts[j]? = some t → us[s j]? = some u → (u.place = 4 ↔ t.place = 4) ∧ mayBeB n u = mayBeB n t ∧ (t.place = 4 → u.card = t.card ∧ u.owner = t.owner ∧ u.m0 = t.m0 ∧ u.m1 = t.m1 ∧ u.m2 = t.m2 ∧ u.m3 = t.m3 ∧ 0 < u.stamp)
  st : ∀ i j t t' u u', ts[i]? = some t → ts[j]? = some t' → us[s i]? = some u → us[s j]? = some u' → t.place = 4 → t'.place = 4 → t.stamp < t'.stamp → u.stamp < u'.stamp
def uOf (s : Nat → Nat) (x : Int) : Int := ((s (x - 1).toNat : Nat) : Int) + 1
def rowT (s : Nat → Nat) (us : List Th) (r : Rw) : Rw := ⟨uOf s r.nu, (us.getD (s (r.nu - 1).toNat) Th.none).stamp, r.h, r.ps⟩
theorem tbl_mem' {cd : Int → Hd × List Pt} : ∀ (l : List (Th × Fe)) (i j : Nat) (t : Th) (f : Fe), l[j]? = some (t, f) → t.place = 4 → (⟨(i : Int) + j + 1, t.stamp, (cd t.card).1, (cd t.card).2⟩ : Rw) ∈ tblR cd l i
  | [], i, j, t, f, h, _ => by simp at h
  | (t', f') :: l, i, 0, t, f, h, h4 => by
    simp at h
    obtain ⟨rfl, rfl⟩ := h
    rw [tblR_yes h4]
    exact List.mem_cons.2 (Or.inl (by simp))
  | (t', f') :: l, i, j + 1, t, f, h, h4 => by
    have := tbl_mem' (cd := cd) l (i + 1) j t f (by simpa using h) h4
    have e : (((i + 1 : Nat) : Int) + j + 1) = ((i : Int) + ((j + 1 : Nat) : Int) + 1) := by omega
    rw [e] at this
    by_cases hp : t'.place = 4
    · rw [tblR_yes hp]; exact List.mem_cons_of_mem _ this
    · rw [tblR_no hp]; exact this
theorem tbl_nodup {cd : Int → Hd × List Pt} (l : List (Th × Fe)) (i : Nat) : (tblR cd l i).Nodup := (tbl_nu (cd := cd) l i).2.imp (fun {a b} q e => by rw [e] at q; omega)
/-- A row, and its thing. -/
theorem Tab.row {n : Int} {cd : Int → Hd × List Pt} {ts : List Th} {fs : List Fe} {R : List Rw} (h : Tab n cd ts fs R) {r : Rw} (hr : r ∈ R) : ∃ (j : Nat) (t : Th), ts[j]? = some t ∧ t.place = 4 ∧ r = ⟨(j : Int) + 1, t.stamp, (cd t.card).1, (cd t.card).2⟩ := by
  obtain ⟨j, t, f, a, b, c⟩ := tbl_of _ _ _ (h.perm.mem_iff.1 hr)
  exact ⟨j, t, (zip_get.1 a).1, b, by rw [c]; simp⟩
theorem Tab.row_in {n : Int} {cd : Int → Hd × List Pt} {ts : List Th} {fs : List Fe} {R : List Rw} (h : Tab n cd ts fs R) {j : Nat} {t : Th} (ht : ts[j]? = some t) (h4 : t.place = 4) : (⟨(j : Int) + 1, t.stamp, (cd t.card).1, (cd t.card).2⟩ : Rw) ∈ R := by
  have hj : j < ts.length := (List.getElem?_eq_some_iff.1 ht).1
  have := tbl_mem' (cd := cd) (ts.zip fs) 0 j t _ (zip_get.2 ⟨ht, List.getElem?_eq_getElem (show j < fs.length by rw [← h.len]; exact hj)⟩) h4
  rw [show (((0 : Nat) : Int) + j + 1) = (j : Int) + 1 by omega] at this
  exact h.perm.mem_iff.2 this
theorem prt_get (pf : Th → Fe) {ts : List Th} {j : Nat} {t : Th} (h : ts[j]? = some t) : (prtF pf ts)[j]? = some (prtT pf t) := by
  unfold prtF
  rw [List.getElem?_map, h]
  rfl
theorem prt_getD (pf : Th → Fe) {ts : List Th} {j : Nat} {t : Th} (h : ts[j]? = some t) : (prtF pf ts).getD j Fe.none = prtT pf t := by
  rw [List.getD_eq_getElem?_getD, prt_get pf h]
  rfl
theorem prt_on {pf : Th → Fe} {t : Th} (h : t.place = 4) : prtT pf t = pf t := if_pos h
theorem st_inj {Q : List Rw} (h : Q.Pairwise fun a b => a.st < b.st) {a b : Rw} (ha : a ∈ Q) (hb : b ∈ Q) (e : a.st = b.st) : a = b := by
  obtain ⟨i, hi, rfl⟩ := List.getElem_of_mem ha
  obtain ⟨j, hj, rfl⟩ := List.getElem_of_mem hb
  have q := List.pairwise_iff_getElem.1 h
  rcases Nat.lt_trichotomy i j with z | z | z
  · have := q i j hi hj z; omega
  · subst z; rfl
  · have := q j i hj hi z; omega
theorem sort_is {A Q : List Rw} (hp : A.Perm Q) (h : Q.Pairwise fun a b => a.st < b.st) : sortR A = Q := by
  unfold sortR
  have h1 : (A.mergeSort fun a b => decide (a.st ≤ b.st)).Pairwise fun a b => a.st ≤ b.st := (List.pairwise_mergeSort (le := fun a b : Rw => decide (a.st ≤ b.st)) (fun a b c h1 h2 => by simp only [decide_eq_true_eq] at *; omega) (fun a b => by simp only [Bool.or_eq_true, decide_eq_true_eq]; omega) A).imp (fun {a b} q => by simpa using q)
  exact ((List.mergeSort_perm _ _).trans hp).eq_of_pairwise (fun a b ha hb q1 q2 => st_inj h (((List.mergeSort_perm _ _).trans hp).mem_iff.1 ha) hb (by omega)) h1 (h.imp (fun {a b} q => by omega))
theorem toN (j : Nat) : ((j : Int) + 1 - 1).toNat = j := by omega
theorem Turned.get {n : Int} {s : Nat → Nat} {ts us : List Th} (T : Turned n s ts us) {j : Nat} {t : Th} (h : ts[j]? = some t) : ∃ u, us[s j]? = some u := ⟨_, List.getElem?_eq_getElem (by rw [T.len]; exact T.lt j (List.getElem?_eq_some_iff.1 h).1)⟩
set_option maxHeartbeats 1000000 in
theorem Turned.tab {n : Int} {cd : Int → Hd × List Pt} {s : Nat → Nat} {ts us : List Th} {pf : Th → Fe} {R : List Rw} (T : Turned n s ts us) (hpf : ∀ t u : Th, u.card = t.card → u.owner = t.owner → pf u = pf t) (h : Tab n cd ts (prtF pf ts) R) : ∃ Q, Tab n cd us (prtF pf us) Q ∧ SmQ (uOf s) R Q ∧ pickF Q (prtF pf us) = pickF R (prtF pf ts) := by
  have hmem : ∀ r, r ∈ R.map (rowT s us) ↔ r ∈ tblR cd (us.zip (prtF pf us)) 0 := fun r => by
    constructor
    · intro hr
      obtain ⟨r0, hr0, rfl⟩ := List.mem_map.1 hr
      obtain ⟨j, t, a, b, c⟩ := h.row hr0
      obtain ⟨u, hu⟩ := T.get a
      obtain ⟨p1, p2, p3⟩ := T.pl j t u a hu
      have := tbl_mem' (cd := cd) (us.zip (prtF pf us)) 0 (s j) u _ (zip_get.2 ⟨hu, prt_get pf hu⟩) (p1.2 b)
      have e : rowT s us r0 = ⟨((0 : Nat) : Int) + (s j : Nat) + 1, u.stamp, (cd u.card).1, (cd u.card).2⟩ := by
        rw [c]
        unfold rowT uOf
        simp only [toN]
        rw [List.getD_eq_getElem?_getD, hu, (p3 b).1]
        simp
      rw [e]
      exact this
    · intro hr
      obtain ⟨i, u, f, a, b, c⟩ := tbl_of _ _ _ hr
      have hu := (zip_get.1 a).1
      have hi : i < us.length := (List.getElem?_eq_some_iff.1 hu).1
      obtain ⟨j, hj, e⟩ := T.sur i (by rw [← T.len]; exact hi)
      have ht : ts[j]? = some ts[j] := List.getElem?_eq_getElem hj
      rw [← e] at hu
      obtain ⟨p1, p2, p3⟩ := T.pl j _ u ht hu
      have h4 := p1.1 b
      refine List.mem_map.2 ⟨_, h.row_in ht h4, ?_⟩
      rw [c]
      unfold rowT uOf
      simp only [toN]
      rw [List.getD_eq_getElem?_getD, hu, (p3 h4).1, e]
      simp
  have hinj : ∀ a ∈ R, ∀ b ∈ R, uOf s a.nu = uOf s b.nu → a.nu = b.nu := fun a ha b hb e => by
    obtain ⟨j, t, a1, a2, a3⟩ := h.row ha
    obtain ⟨j', t', b1, b2, b3⟩ := h.row hb
    have n1 : a.nu = (j : Int) + 1 := by rw [a3]
    have n2 : b.nu = (j' : Int) + 1 := by rw [b3]
    rw [n1, n2] at e ⊢
    unfold uOf at e
    rw [toN, toN] at e
    rw [T.inj j j' (List.getElem?_eq_some_iff.1 a1).1 (List.getElem?_eq_some_iff.1 b1).1 (by omega)]
  have hnod : (R.map (rowT s us)).Nodup := by
    refine List.Pairwise.map _ (R := fun a b : Rw => uOf s a.nu ≠ uOf s b.nu) (fun a b q e => q (congrArg Rw.nu e)) ?_
    exact List.Pairwise.imp_of_mem (fun {a b} ha hb q e => q (hinj a ha b hb e)) (List.pairwise_map.1 h.nod)
  have hperm : (R.map (rowT s us)).Perm (tblR cd (us.zip (prtF pf us)) 0) := (List.perm_ext_iff_of_nodup hnod (tbl_nodup _ _)).2 hmem
  have hup : (R.map (rowT s us)).Pairwise fun a b => a.st < b.st := by
    refine List.pairwise_map.2 (List.Pairwise.imp_of_mem (fun {a b} ha hb q => ?_) h.up)
    obtain ⟨j, t, a1, a2, a3⟩ := h.row ha
    obtain ⟨j', t', b1, b2, b3⟩ := h.row hb
    obtain ⟨u, hu⟩ := T.get a1
    obtain ⟨u', hu'⟩ := T.get b1
    rw [a3, b3] at q
    have := T.st j j' t t' u u' a1 b1 hu hu' a2 b2 q
    rw [a3, b3]
    unfold rowT
    simp only [toN]
    rw [List.getD_eq_getElem?_getD, List.getD_eq_getElem?_getD, hu, hu']
    exact this
  have hlay : layF n cd (us.zip (prtF pf us)) 0 [] = some (tblR cd (us.zip (prtF pf us)) 0) := by
    rw [layF_all _ _ _ (fun x hx => ?_) (by rw [← hperm.length_eq, List.length_map]; have := h.few; simp; exact this)]
    · rfl
    · obtain ⟨i, hi⟩ := List.getElem?_of_mem hx
      obtain ⟨hu, hf⟩ := zip_get (t := x.1) (f := x.2) |>.1 hi
      obtain ⟨j, hj, e⟩ := T.sur i (by rw [← T.len]; exact (List.getElem?_eq_some_iff.1 hu).1)
      have ht : ts[j]? = some ts[j] := List.getElem?_eq_getElem hj
      rw [prt_get pf hu] at hf
      rw [← e] at hu
      obtain ⟨p1, p2, p3⟩ := T.pl j _ x.1 ht hu
      obtain ⟨q1, q2⟩ := h.mays ht (prt_get pf ht)
      refine ⟨p2.trans q1, fun h4 => ?_⟩
      have h4' := p1.1 h4
      obtain ⟨c1, c2, -, -, -, -, c3⟩ := p3 h4'
      obtain ⟨r1, r2⟩ := q2 h4'
      have e2 : x.2 = pf ts[j] := by
        have := Option.some.inj hf
        rw [← this, prt_on h4, hpf _ _ c1 c2]
      rw [prt_on h4'] at r1
      rw [e2, c1]
      refine ⟨?_, r2⟩
      unfold mayLieB at r1 ⊢
      simp only [Bool.and_eq_true, decide_eq_true_eq] at r1 ⊢
      exact ⟨⟨c3, r1.1.2⟩, r1.2⟩
  have htab : tabR n cd us (prtF pf us) = some (R.map (rowT s us)) := by
    unfold tabR
    rw [if_pos (prtF_len pf us).symm, hlay]
    simp only
    rw [sort_is hperm.symm hup]
    exact if_pos (dif_strict _ (List.pairwise_map.2 hup))
  refine ⟨_, Tab.of htab, ⟨List.length_map _, fun i hi => ?_, fun i => ?_, fun i => ?_⟩, ?_⟩
  · rw [getD_map _ _ _ Rw.none _ hi]; rfl
  · by_cases hi : i < R.length
    · rw [getD_map _ _ _ Rw.none _ hi]; rfl
    · rw [List.getD_eq_getElem?_getD, List.getD_eq_getElem?_getD, List.getElem?_eq_none (by rw [List.length_map]; omega), List.getElem?_eq_none (by omega)]
  · by_cases hi : i < R.length
    · rw [getD_map _ _ _ Rw.none _ hi]; rfl
    · rw [List.getD_eq_getElem?_getD, List.getD_eq_getElem?_getD, List.getElem?_eq_none (by rw [List.length_map]; omega), List.getElem?_eq_none (by omega)]
  · unfold pickF
    rw [List.map_map]
    refine List.map_congr_left fun r hr => ?_
    obtain ⟨j, t, a, b, c⟩ := h.row hr
    obtain ⟨u, hu⟩ := T.get a
    obtain ⟨p1, p2, p3⟩ := T.pl j t u a hu
    show (prtF pf us).getD ((rowT s us r).nu - 1).toNat Fe.none = (prtF pf ts).getD (r.nu - 1).toNat Fe.none
    rw [c]
    unfold rowT uOf
    simp only [toN]
    rw [prt_getD pf hu, prt_getD pf a, prt_on (p1.2 b), prt_on b, hpf _ _ (p3 b).1 (p3 b).2.1]
end Go.Proofs.YtmemeloehgemcaaGreat
