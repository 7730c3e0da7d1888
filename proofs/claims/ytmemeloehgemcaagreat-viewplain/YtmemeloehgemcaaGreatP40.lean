/-
  Layers' laws: what stands while a law asks of one book; answers of effects that a layer has.
  View: Steps.
  Layers, plainly: whom an effect is about, by their numbers; what becomes of each feature.
  Views, plainly: the same table under other numbers and stamps has the same features, by the same effects.
  Views, plainly: whom effects are about, step by step; Raises add up; the layers' order.
  View: is a number among numbers; is it a thing on the table; what of a layer was about it.
-/
import Derived.Test.YtmemeloehgemcaaGreatP38
import Derived.Test.YtmemeloehgemcaaGreatP35
import Derived.Test.YtmemeloehgemcaaGreatBoB
namespace Go.Proofs.YtmemeloehgemcaaGreat
open Go.RowKit Go.Shelf

theorem LIn.feat {w : World} {bv vt vf vf' : Value} {r n : Int} {cd : Int → Hd × List Pt} {ts : List Th} {fs fs' : List Fe} (h : LIn w bv vt vf r n cd ts fs) (F : feR.At w vf' fs') (hl : fs'.length = fs.length) : LIn w bv vt vf' r n cd ts fs' := ⟨h.ref, h.book, h.things, F, fun q => by rw [hl]; exact h.few q⟩
theorem Tab.app {n : Int} {cd : Int → Hd × List Pt} {ts : List Th} {fs : List Fe} {R : List Rw} {F : List Fe} {k : Int} {a : Se} {w w' : World} {e : Ending} (h : Tab n cd ts fs R) (ha : a ∈ effL R F k) (q : ApplyPost w 0 n cd ts fs a.s e w') : ∃ p c, e = .returned (.tuple #[.slice p (amgL fs R (applyL R (pickF R fs) a)).length c, .int .i64 0]) ∧ w.grownBy w' none ∧ FOwn w' w.heap.size (.slice p (amgL fs R (applyL R (pickF R fs) a)).length c) (amgL fs R (applyL R (pickF R fs) a)) := by
  obtain ⟨p, m, c, e1, g, _, h1⟩ := q
  have o := h1 R a rfl h.tab (h.one ha)
  rw [lkE_ok h.tab (h.one ha)] at e1
  obtain ⟨p', c', e2⟩ := RecT.Own.form o
  cases e2
  exact ⟨p, c, e1, g, o⟩
theorem Tab.abt {n : Int} {cd : Int → Hd × List Pt} {ts : List Th} {fs : List Fe} {R : List Rw} {F : List Fe} {k : Int} {a : Se} {w w' : World} {e : Ending} (h : Tab n cd ts fs R) (ha : a ∈ effL R F k) (q : AboutPost w 0 n cd ts fs a.s e w') : ∃ p c, e = .returned (.tuple #[.slice p (numL R (aboutL R (pickF R fs) a)).length c, .int .i64 0]) ∧ w.grownBy w' none ∧ LOwnI w' w.heap.size (.slice p (numL R (aboutL R (pickF R fs) a)).length c) (numL R (aboutL R (pickF R fs) a)) := by
  obtain ⟨p, m, c, e1, g, _, h1⟩ := q
  have o := h1 R a rfl h.tab (h.one ha)
  rw [lkE_ok h.tab (h.one ha)] at e1
  obtain ⟨p', c', e2⟩ := LOwnI.form o
  cases e2
  exact ⟨p, c, e1, g, o⟩
theorem map_s_at {L : List Se} {i : Nat} (h : i < L.length) : (L.map Se.s)[i]'(by simpa using h) = (L.getD i Se.none).s := by rw [List.getElem_map, getD_in h]
theorem es_there {w : World} {v : Value} {L : List Se} (h : sdR.At w v (L.map Se.s)) {i : Nat} (hi : i < L.length) : ∃ g off cap, v = .slice (some ⟨g, off, none⟩) L.length cap ∧ w.rangeAt g (off + i * 10) (sdc (L.getD i Se.none).s) := by
  obtain ⟨g, off, cap, e, q⟩ := sd_there h (i := i) (by simpa using hi)
  rw [map_s_at hi] at q
  exact ⟨g, off, cap, by rw [e, List.length_map], q⟩
theorem FiA.forms {w : World} {vc vm : Value} {cs : List Ent} {ms : List Mk} (h : FiA w vc vm cs ms) : ∃ a k a' k', vc = .slice a cs.length k ∧ vm = .slice a' ms.length k' := by
  obtain ⟨a, k, e, _⟩ := h.c
  obtain ⟨a', k', e', _⟩ := h.m
  exact ⟨a, k, a', k', e, e'⟩
theorem Tab.effs {n : Int} {cd : Int → Hd × List Pt} {ts : List Th} {fs : List Fe} {R : List Rw} (h : Tab n cd ts fs R) (hc : ∀ c, (cd c).2.length ≤ 4) (F : List Fe) (k : Int) : (effL R F k).length ≤ 64 := by
  have hp : ∀ i, (R.getD i Rw.none).ps.length ≤ 4 := fun i => by
    by_cases hi : i < R.length
    · rw [getD_in hi]
      obtain ⟨j, t, f, _, _, c⟩ := tbl_of _ _ _ (h.perm.mem_iff.1 (List.getElem_mem hi))
      rw [c]
      exact hc _
    · rw [List.getD_eq_getElem?_getD, List.getElem?_eq_none (by omega)]
      exact Nat.zero_le _
  have := effU_len (F := F) (k := k) hp R.length
  have := h.few
  unfold effL
  omega
end Go.Proofs.YtmemeloehgemcaaGreat
namespace Go.Proofs.YtmemeloehgemcaaGreat
open Go.RowKit Go.Shelf

theorem ClS.block {w0 w w' : World} {B gk gf gs : Nat} {bp : Option Addr} {vt vp vf : Value} {k : Int} {fs : List Fe} {base n : Nat} {v : Value} {xs : List Value} (h : ClS w0 w B gk gf gs bp vt vp k vf fs) (o : w.ownsRow base 49 10 v n xs) (g : w.grownBy w' v.ownBlock) (hb : w0.heap.size ≤ base) : ClS w0 w' B gk gf gs bp vt vp k vf fs := ⟨⟨grown_keep g h.cl.kb (own_tag o h.cl.kb (by decide)), grown_keep g h.cl.fb (own_tag o h.cl.fb (by decide)), grown_keep g h.cl.sb (own_tag o h.cl.sb (by decide))⟩, own_other h.fo o (by decide) g, grown_own h.gr g (fun x e => Nat.le_trans hb (World.ownsRow.lt o x e).1), h.hk, h.hf⟩
theorem VIn.few4 {w : World} {bv vt : Value} {r n : Int} {cd : Int → Hd × List Pt} {ts : List Th} {pf : Th → Fe} {mf : Fe → Th → Fe} {me : Th → Int} (I : VIn w bv vt r n cd ts pf mf me) (hr : r = 0) : ∀ c, (cd c).2.length ≤ 4 := ((I.li w (.slice none 0 0) [] (grown_refl _ _) (RecT.At.nil _ _) (by decide)).book hr).1.few
theorem ap_few {n : Int} {cd : Int → Hd × List Pt} {ts : List Th} {fs : List Fe} {R : List Rw} (h : Tab n cd ts fs R) (hc : ∀ c, (cd c).2.length ≤ 4) (k : Nat) : (apK R fs k).length ≤ 64 := by
  unfold apK
  rw [allR_len]
  exact (h.cl k).effs hc _ _
theorem st_few {n : Int} {cd : Int → Hd × List Pt} {ts : List Th} {fs : List Fe} {R : List Rw} (h : Tab n cd ts fs R) (hc : ∀ c, (cd c).2.length ≤ 4) : ∀ k, (stU R fs k).length ≤ 64 * k
  | 0 => Nat.le_refl _
  | k + 1 => by
    show (stU R fs k ++ apK R fs k).length ≤ _
    rw [List.length_append]
    have := st_few h hc k
    have := ap_few h hc k
    omega
theorem vSt_is {r n : Int} {cd : Int → Hd × List Pt} {ts : List Th} {pf : Th → Fe} {me : Th → Int} {R : List Rw} (h : vkE r n cd ts (prtF pf (ts.take 2048)) me = 0) (hT : Tab n cd ts (prtF pf ts) R) : vSt r n cd ts pf me = stU R (prtF pf ts) 5 := by
  unfold vSt
  rw [if_pos h, hT.tab]
theorem vSt_no {r n : Int} {cd : Int → Hd × List Pt} {ts : List Th} {pf : Th → Fe} {me : Th → Int} (h : vkE r n cd ts (prtF pf (ts.take 2048)) me ≠ 0) : vSt r n cd ts pf me = [] := if_neg h
def StPost (w : World) (r n : Int) (cd : Int → Hd × List Pt) (ts : List Th) (pf : Th → Fe) (me : Th → Int) (e : Ending) (w' : World) : Prop := ∃ v, e = .returned (.tuple #[v, .int .i64 (vkE r n cd ts (prtF pf (ts.take 2048)) me)]) ∧ w.grownBy w' none ∧ DOwn w' w.heap.size v ((vSt r n cd ts pf me).map Se.s)
theorem len_two {a b : Nat} (h1 : a ≤ 320) (h2 : b ≤ 64) : a + b ≤ maxLen ∧ (a + b) * 56 ≤ 140737488355328 := by unfold maxLen; omega
theorem app_sd {w : World} {base : Nat} {v : Value} {A B : List Sd} (h : w.ownsRow base 49 10 v (A.length + B.length) (sdR.cs A ++ sdR.cs B)) : DOwn w base v (A ++ B) := by
  unfold DOwn RecT.Own
  rw [List.length_append, sdR.app]
  exact h
set_option maxRecDepth 100000 in
set_option maxHeartbeats 4000000 in
theorem vsteps_any (bp : Option Addr) (vt : Value) (r n : Int) (cd : Int → Hd × List Pt) (ts : List Th) (pf : Th → Fe) (mf : Fe → Th → Fe) (me : Th → Int) (w : World) (I : VIn w (.pointer bp) vt r n cd ts pf mf me) : Calls Tryz.prog 27 #[.pointer bp, vt] w (StPost w r n cd ts pf me) := by
  have HLk := vlook_any bp vt r n cd ts pf mf me w I
  unfold VkPost at HLk
  obtain ⟨pt, ct, rfl, hcap⟩ := I.cap
  have HI : Hid (VIn w (.pointer bp) (.slice pt ts.length ct) r n cd ts pf mf me) := I
  clear I hcap
  go_enter Tryz.func27, Tryz.ntmps27
  go_wp2_with fail
  refine HLk.mono ?_
  rintro e2 w2 ⟨bq, p1, m1, c1, p2, m2, c2, rfl, g2, h2⟩
  obtain ⟨q, hq⟩ : ∃ q, q = vkE r n cd ts (prtF pf (ts.take 2048)) me := ⟨_, rfl⟩
  rw [← hq] at h2 ⊢
  have Hq : Hid (q = vkE r n cd ts (prtF pf (ts.take 2048)) me) := hq
  clear HLk hq
  obtain ⟨W3, hW3⟩ : ∃ W3, W3 = w2.alloc (.cells #[.pointer bq, .slice p1 m1 c1, .slice p2 m2 c2] 144) := ⟨_, rfl⟩
  have HG3 : Hid (w.grownBy W3 none) := by rw [hW3]; exact grown_push g2 _
  have HS3 : Hid (ScB W3 w2.heap.size bq (.slice p1 m1 c1) (.slice p2 m2 c2)) := by rw [hW3]; exact alloc_at _ _ _
  have H2 : Hid (q = 0 → bq = bp ∧ Value.slice pt ts.length ct = .slice p1 m1 c1 ∧ FOwn W3 w.heap.size (.slice p2 m2 c2) (prtF pf ts)) := fun z => by
    obtain ⟨a, b, c⟩ := h2 z
    exact ⟨a, b, own_grow c (by rw [hW3]; exact World.grownBy_alloc _ _ none)⟩
  clear g2 h2
  go_upto_region 2 with fail
  rw [← hW3]
  clear hW3
  obtain ⟨ns, hns⟩ : ∃ ns, ns = w2.heap.size := ⟨_, rfl⟩
  simp only [← hns] at HS3 ⊢
  clear hns
  by_cases hq0 : q = 0
  · have e1 : (q != 0) = false := by simpa using hq0
    have hv0 : vkE r n cd ts (prtF pf (ts.take 2048)) me = 0 := Hq.out.symm.trans hq0
    obtain ⟨hr0, ⟨R, hR⟩, -⟩ := vkE_of hv0
    have hts : ts.length ≤ 2048 := HI.out.few hr0
    rw [List.take_of_length_le hts] at hR
    obtain ⟨eb, ev, hO⟩ := H2.out hq0
    subst eb
    injection ev with ev1 ev2 ev3
    subst ev1
    subst ev3
    rw [← ev2] at HS3 ⊢
    obtain ⟨L, hL⟩ : ∃ L, L = ts.length := ⟨_, rfl⟩
    have hm2 : m2 = ts.length := by obtain ⟨a, b, e⟩ := RecT.Own.form hO; injection e with _ e _; rw [e, prtF_len]
    obtain ⟨F, hF⟩ : ∃ F, F = prtF pf ts := ⟨_, rfl⟩
    have HF : Hid (F = prtF pf ts ∧ F.length = ts.length) := ⟨hF, by rw [hF, prtF_len]⟩
    rw [← hF] at hO hR
    rw [hm2] at hO HS3 ⊢
    have HO : Hid (FOwn W3 w.heap.size (.slice p2 ts.length c2) F) := hO
    have HT : Hid (Tab n cd ts F R ∧ r = 0 ∧ ts.length ≤ 2048 ∧ vkE r n cd ts (prtF pf (ts.take 2048)) me = 0) := ⟨hR, hr0, hts, hv0⟩
    clear H2 hq0 hv0 hR hr0 hts hm2 hO hF ev2 m1 m2 hL L
    obtain ⟨s0, s1, s2⟩ := sc_box HS3.out
    have C4 := vclimber_any bq pt p2 ts.length ct ts.length c2 W3
    go_wp2_with fail
    refine C4.mono ?_
    rintro e4 w4 ⟨gk, gf, gs, rfl, h4, g4, hk4, hf4⟩
    have HG4 : Hid (W3.grownBy w4 none) := g4
    have HC0 : Hid (ClS w w4 w.heap.size gk gf gs bq (.slice pt ts.length ct) (.slice p2 ts.length c2) ((0 : Nat) : Int) (.slice p2 ts.length c2) (clF R F 0)) := ⟨h4, own_grow HO.out g4, grown_trans HG3.out g4, Nat.le_trans HG3.out.size hk4, Nat.le_trans HG3.out.size hf4⟩
    clear C4 h4 g4 hk4 hf4 s0 s1 s2 e1
    unfold clV
    obtain ⟨i0, hi, hz0, hz1, hz2⟩ := info_parts Tryz.linfoD
    go_wp2_with fail
    go_loopw [8, 21] (fun x y wr => ∃ (j : Nat) (p : Option Addr) (c B : Nat) (ps : Option Addr) (nS cS : Nat), j ≤ 5 ∧ y = .int .i64 (j : Int) ∧ x = .slice ps nS cS ∧ Hid (ClS w wr B gk gf gs bq (.slice pt ts.length ct) (.slice p2 ts.length c2) (j : Int) (.slice p ts.length c) (clF R F j)) ∧ Hid (DOwn wr w.heap.size (.slice ps nS cS) ((stU R F j).map Se.s))) (fun _ y _ => 5 - (intOf y).toNat)
    case atStart => exact ⟨0, p2, c2, w.heap.size, none, 0, 0, Nat.zero_le _, rfl, rfl, HC0, RecT.Own.nil _ _ _ _⟩
    case round =>
      obtain ⟨j, p, c, B, ps, nS, cS, hj, rfl, rfl, HC, HD⟩ := hrel
      obtain ⟨U, hU⟩ : ∃ U, U = wr := ⟨_, rfl⟩
      subst hU
      clear HC0
      by_cases hlt : j < 5
      · have hlf : (clF R F j).length = ts.length := by rw [clF_len]; exact HF.out.2
        have C5 := vclimb_any bq pt p2 ct ts.length c2 r n cd ts pf mf me w U B gk gf gs (j : Int) (.slice p ts.length c) (clF R F j) R HI.out HC.out (HT.out.1.cl j) HT.out.2.1 (by omega) (by omega)
        unfold ClPost at C5
        rw [hlf] at C5
        have hlt' : (j : Int) < 5 := by omega
        have hwk := wrap_next (k := j) (by omega)
        have Hlt : Hid (j < 5) := hlt
        have HM : Hid (5 - (intOf (.int .i64 ((j : Int) + 1))).toNat < 5 - (intOf (.int .i64 (j : Int))).toNat) := meas_k hlt
        have HSz : Hid (w.heap.size ≤ U.heap.size) := HC.out.gr.size
        have HCL : Hid (ClB U gk gf gs bq (.slice pt ts.length ct) (.slice p2 ts.length c2) (j : Int) (.slice p ts.length c)) := HC.out.cl
        obtain ⟨A, hA⟩ : ∃ A, A = (stU R F j).map Se.s := ⟨_, rfl⟩
        obtain ⟨E, hE⟩ : ∃ E, E = (allR R (clF R F j) ((j : Int) + 1)).2.map Se.s := ⟨_, rfl⟩
        have HAE : Hid ((stU R F (j + 1)).map Se.s = A ++ E ∧ A.length ≤ 320 ∧ E.length ≤ 64) := by
          refine ⟨?_, ?_, ?_⟩
          · rw [hA, hE]; show (stU R F j ++ apK R F j).map Se.s = _; rw [List.map_append]; rfl
          · rw [hA, List.length_map]; have := st_few HT.out.1 (HI.out.few4 HT.out.2.1) j; omega
          · rw [hE, List.length_map]; exact ap_few HT.out.1 (HI.out.few4 HT.out.2.1) j
        rw [← hE] at C5
        rw [← hA] at HD
        clear hlt hj hlf HC hA hE
        have hfl := Tryz.fl1
        go_wp2_with (first
          | (go_at_call 113; refine C5.mono ?_; rintro e5 w5 ⟨q1, n1, d1, q2, d2, rfl, h5, hD5, -, tw5⟩; have HC5 : Hid (ClS w w5 U.heap.size gk gf gs bq (.slice pt ts.length ct) (.slice p2 ts.length c2) ((j + 1 : Nat) : Int) (.slice q2 ts.length d2) (clF R F (j + 1))) := h5; have HD5 : Hid (DOwn w5 w.heap.size (.slice ps nS cS) A) := tw5.own HCL.out HD.out (by decide) (by decide); have HS5 : Hid (Src w5 (.slice q1 n1 d1) E.length 10 (sdR.cs E)) := RecT.At.src (RecT.Own.at hD5); have HL5 : Hid (A.length + E.length ≤ maxLen ∧ (A.length + E.length) * 56 ≤ 140737488355328) := len_two HAE.out.2.1 HAE.out.2.2; have HW5 : Hid (w.heap.size ≤ w5.heap.size) := HC5.out.gr.size; clear C5 h5 hD5 tw5)
          | (at_builtin; refine lwpl_app (by rfl) (.tmp 23) (.tmp 26) 36 rfl w.heap.size 49 i0 _ 10 56 Tryz.underlying36 hi hz0 hz1 hz2 rfl (by decide) _ A.length (sdR.cs A) rfl HD5.out _ E.length (sdR.cs E) rfl HS5.out (sdR.ones E) HL5.out.1 HL5.out.2 HW5.out ?_; intro v6 w6 o6 g6 _; have HO6 : Hid (w6.ownsRow w.heap.size 49 10 v6 (A.length + E.length) (sdR.cs A ++ sdR.cs E) ∧ w5.grownBy w6 (Value.slice ps nS cS).ownBlock) := ⟨o6, g6⟩; clear o6 g6))
        obtain ⟨ps', cS', ev, -⟩ := own_slice HO6.out.1
        have HC6 : Hid (ClS w w6 U.heap.size gk gf gs bq (.slice pt ts.length ct) (.slice p2 ts.length c2) ((j + 1 : Nat) : Int) (.slice q2 ts.length d2) (clF R F (j + 1))) := HC5.out.block HD5.out HO6.out.2 (Nat.le_refl _)
        have HD6 : Hid (DOwn w6 w.heap.size v6 ((stU R F (j + 1)).map Se.s)) := by show DOwn _ _ _ _; rw [HAE.out.1]; exact app_sd HO6.out.1
        subst ev
        go_roundw
        case rel => exact ⟨j + 1, q2, d2, U.heap.size, ps', A.length + E.length, cS', Hlt.out, by first | rfl | (rw [hwk]; rfl) | go_num, rfl, HC6, HD6⟩
        case measure => first | exact HM.out | (rw [hwk]; exact HM.out)
      · obtain rfl : j = 5 := Nat.le_antisymm hj (Nat.le_of_not_lt hlt)
        have HX : Hid (DOwn U w.heap.size (.slice ps nS cS) ((vSt r n cd ts pf me).map Se.s) ∧ w.grownBy U none) := ⟨by rw [vSt_is HT.out.2.2.2 (HF.out.1 ▸ HT.out.1), ← HF.out.1]; exact HD.out, HC.out.gr⟩
        clear hj hlt
        go_wp2_with fail
        go_ret2
        exact ⟨_, by rw [HT.out.2.2.2]; rfl, HX.out.2, HX.out.1⟩
  · have e1 : (q != 0) = true := by simpa using hq0
    have HX : Hid (vSt r n cd ts pf me = []) := vSt_no (fun z => hq0 (Hq.out.trans z))
    clear hq0
    go_wp2_with fail
    go_ret2
    exact ⟨_, by rw [← Hq.out]; rfl, HG3.out, by rw [HX.out]; exact RecT.Own.nil _ _ _ _⟩
end Go.Proofs.YtmemeloehgemcaaGreat
namespace Go.Proofs.YtmemeloehgemcaaGreat
open Go.RowKit Go.Shelf

def stOf (ts : List Th) (x : Int) : Int := (ts.getD (x - 1).toNat Th.none).stamp
theorem Tab.up {n : Int} {cd : Int → Hd × List Pt} {ts : List Th} {fs : List Fe} {R : List Rw} (h : Tab n cd ts fs R) : R.Pairwise fun a b => a.st < b.st := by
  have h' := h.tab
  unfold tabR at h'
  split at h'
  · split at h'
    · split at h'
      · rename_i hd
        cases h'
        have := dif_up (stamps_up (sortR_up _)) hd
        unfold stampsR at this
        rw [List.pairwise_map] at this
        exact this
      · cases h'
    · cases h'
  · cases h'
theorem about_at {R : List Rw} {F : List Fe} {a : Se} {i : Nat} (hi : i < R.length) : (aboutL R F a).getD i false = isAbB R F a i := by
  unfold aboutL aboutU
  rw [getD_in (by simpa using hi)]
  simp
theorem num_mem {R : List Rw} {F : List Fe} {a : Se} {x : Int} : x ∈ numL R (aboutL R F a) ↔ ∃ i, i < R.length ∧ isAbB R F a i = true ∧ (R.getD i Rw.none).nu = x := by
  unfold numL numU
  rw [List.mem_filterMap]
  constructor
  · rintro ⟨i, hi, e⟩
    rw [List.mem_range] at hi
    rw [about_at hi] at e
    split at e
    · rename_i hb
      cases e
      exact ⟨i, hi, hb, rfl⟩
    · cases e
  · rintro ⟨i, hi, hb, rfl⟩
    exact ⟨i, List.mem_range.2 hi, by rw [about_at hi, if_pos hb]⟩
theorem Tab.thing {n : Int} {cd : Int → Hd × List Pt} {ts : List Th} {fs : List Fe} {R : List Rw} (h : Tab n cd ts fs R) {i : Nat} (hi : i < R.length) : (ts.getD ((R.getD i Rw.none).nu - 1).toNat Th.none).place = 4 ∧ stOf ts (R.getD i Rw.none).nu = (R.getD i Rw.none).st ∧ 0 < (R.getD i Rw.none).st ∧ 1 ≤ (R.getD i Rw.none).nu ∧ (R.getD i Rw.none).nu ≤ (fs.length : Int) := by
  have hr : R.getD i Rw.none ∈ R := by rw [getD_in hi]; exact List.getElem_mem _
  obtain ⟨j, t, ht, h4, hn, hs⟩ := h.from hr
  have hj : j < ts.length := (List.getElem?_eq_some_iff.1 ht).1
  have e : ts.getD j Th.none = t := by rw [List.getD_eq_getElem?_getD, ht]; rfl
  have hm := h.may j t _ ht (List.getElem?_eq_getElem (by rw [← h.len]; exact hj)) h4
  unfold mayLieB at hm
  simp only [Bool.and_eq_true, decide_eq_true_eq] at hm
  unfold stOf
  rw [hn, show ((j : Int) + 1 - 1).toNat = j by omega, e, hs]
  exact ⟨h4, rfl, hm.1.1, by omega, by rw [← h.len]; omega⟩
end Go.Proofs.YtmemeloehgemcaaGreat
namespace Go.Proofs.YtmemeloehgemcaaGreat
open Go.RowKit Go.Shelf

def pkA (R : List Rw) (F : List Fe) (k : Int) : List Fe × List Se := allL R (effL R F k).length F (effL R F k) []
def pkF (R : List Rw) (F : List Fe) : Nat → List Fe
  | 0 => F
  | k + 1 => (pkA R (pkF R F k) ((k : Int) + 1)).1
theorem allL_len (R : List Rw) : ∀ (n : Nat) (F : List Fe) (L A : List Se), (allL R n F L A).1.length = F.length
  | 0, F, L, A => rfl
  | n + 1, F, L, A => by
    unfold allL
    split
    · rfl
    · rw [allL_len R n, applyL_len]
theorem pkF_len (R : List Rw) (F : List Fe) : ∀ k, (pkF R F k).length = F.length
  | 0 => rfl
  | k + 1 => (allL_len _ _ _ _ _).trans (pkF_len R F k)
theorem Tab.cl_pick {m : Int} {cd : Int → Hd × List Pt} {ts : List Th} {fs : List Fe} {R : List Rw} (h : Tab m cd ts fs R) : ∀ k, pickF R (clF R fs k) = pkF R (pickF R fs) k ∧ clF R fs k = amgL fs R (pkF R (pickF R fs) k)
  | 0 => ⟨rfl, h.self.symm⟩
  | k + 1 => by
    obtain ⟨h1, h2⟩ := h.cl_pick k
    have e : (allR R (clF R fs k) ((k : Int) + 1)).1 = pkF R (pickF R fs) (k + 1) := by
      show _ = (pkA R (pkF R (pickF R fs) k) ((k : Int) + 1)).1
      unfold allR pkA
      rw [h1]
    have hl : (pkF R (pickF R fs) (k + 1)).length = R.length := by rw [pkF_len, pickF_len]
    constructor
    · show pickF R (amgL (clF R fs k) R (allR R (clF R fs k) ((k : Int) + 1)).1) = _
      rw [e]
      exact (h.cl k).pick hl
    · show amgL (clF R fs k) R (allR R (clF R fs k) ((k : Int) + 1)).1 = _
      rw [e, h2]
      exact h.lay2 _ _
theorem getD_map {α β : Type} (f : α → β) (l : List α) (i : Nat) (d : α) (e : β) (h : i < l.length) : (l.map f).getD i e = f (l.getD i d) := by
  rw [List.getD_eq_getElem?_getD, List.getD_eq_getElem?_getD, List.getElem?_map, List.getElem?_eq_getElem h]
  rfl
theorem Tab.cl_at {m : Int} {cd : Int → Hd × List Pt} {ts : List Th} {fs : List Fe} {R : List Rw} (h : Tab m cd ts fs R) {i j : Nat} (hi : i < R.length) (hj : (R.getD i Rw.none).nu = (j : Int) + 1) (k : Nat) : (clF R fs k)[j]? = some ((pkF R (pickF R fs) k).getD i Fe.none) := by
  rw [(h.cl_pick k).2]
  have := (amgU_at (F := pkF R (pickF R fs) k) h.nod h.nu R.length (Nat.le_refl _)).1 i hi
  rw [hj, show ((j : Int) + 1 - 1).toNat = j by omega] at this
  exact this
theorem Tab.row {n : Int} {cd : Int → Hd × List Pt} {ts : List Th} {fs : List Fe} {R : List Rw} (h : Tab n cd ts fs R) {r : Rw} (hr : r ∈ R) : ∃ (j : Nat) (t : Th), ts[j]? = some t ∧ t.place = 4 ∧ r = ⟨(j : Int) + 1, t.stamp, (cd t.card).1, (cd t.card).2⟩ := by
  obtain ⟨j, t, f, a, b, c⟩ := tbl_of _ _ _ (h.perm.mem_iff.1 hr)
  exact ⟨j, t, (zip_get.1 a).1, b, by rw [c]; simp⟩
theorem prt_get (pf : Th → Fe) {ts : List Th} {j : Nat} {t : Th} (h : ts[j]? = some t) : (prtF pf ts)[j]? = some (prtT pf t) := by
  unfold prtF
  rw [List.getElem?_map, h]
  rfl
theorem prt_getD (pf : Th → Fe) {ts : List Th} {j : Nat} {t : Th} (h : ts[j]? = some t) : (prtF pf ts).getD j Fe.none = prtT pf t := by
  rw [List.getD_eq_getElem?_getD, prt_get pf h]
  rfl
theorem prt_on {pf : Th → Fe} {t : Th} (h : t.place = 4) : prtT pf t = pf t := if_pos h
theorem toN (j : Nat) : ((j : Int) + 1 - 1).toNat = j := by omega
end Go.Proofs.YtmemeloehgemcaaGreat
namespace Go.Proofs.YtmemeloehgemcaaGreat
open Go.RowKit Go.Shelf

theorem allL_in (R : List Rw) : ∀ (n : Nat) (F : List Fe) (L A : List Se), ∀ e ∈ (allL R n F L A).2, e ∈ A ∨ e ∈ L
  | 0, F, L, A, e, h => Or.inl h
  | n + 1, F, L, A, e, h => by
    by_cases h0 : L = []
    · subst h0
      exact Or.inl h
    · rw [allL_step h0] at h
      have hlt := nextN_lt (R := R) (F := F) h0
      rcases allL_in R n _ _ _ e h with q | q
      · rcases List.mem_append.1 q with q | q
        · exact Or.inl q
        · rw [List.mem_singleton] at q
          subst q
          rw [getD_in hlt]
          exact Or.inr (List.getElem_mem _)
      · exact Or.inr (List.mem_of_mem_eraseIdx q)
theorem ap_eff {R : List Rw} {fs : List Fe} {k : Nat} {e : Se} (h : e ∈ apK R fs k) : e ∈ effL R (pickF R (clF R fs k)) ((k : Int) + 1) := by
  rcases allL_in R _ _ _ _ e h with q | q
  · cases q
  · exact q
theorem st_lay {R : List Rw} {fs : List Fe} : ∀ {k : Nat} {e : Se}, e ∈ stU R fs k → 1 ≤ lay e.s.wh.vb ∧ lay e.s.wh.vb ≤ (k : Int)
  | 0, e, h => by cases h
  | k + 1, e, h => by
    rcases List.mem_append.1 h with q | q
    · have := st_lay q; omega
    · obtain ⟨_, _, _, _, _, _, _, z⟩ := eff_mem (ap_eff q)
      rw [z]; omega
theorem st_up (R : List Rw) (fs : List Fe) : ∀ k, (stU R fs k).Pairwise fun a b => lay a.s.wh.vb ≤ lay b.s.wh.vb
  | 0 => List.Pairwise.nil
  | k + 1 => by
    refine List.pairwise_append.2 ⟨st_up R fs k, ?_, fun a ha b hb => ?_⟩
    · refine List.Pairwise.imp_of_mem (R := fun _ _ => True) (fun {a b} ha hb _ => ?_) (List.pairwise_of_forall fun _ _ => trivial)
      obtain ⟨_, _, _, _, _, _, _, z1⟩ := eff_mem (ap_eff ha)
      obtain ⟨_, _, _, _, _, _, _, z2⟩ := eff_mem (ap_eff hb)
      rw [z1, z2]
      exact Int.le_refl _
    · have := st_lay ha
      obtain ⟨_, _, _, _, _, _, _, z⟩ := eff_mem (ap_eff hb)
      rw [z]; omega
theorem whyL_cons (R : List Rw) (n : Int) (fs : List Fe) (e : Se) (l : List Se) : whyL R n fs (e :: l) = (if n ∈ numL R (aboutL R (pickF R fs) e) then [e] else []) ++ whyL R n (amgL fs R (applyL R (pickF R fs) e)) l := rfl
theorem why_sub (R : List Rw) (n : Int) : ∀ (l : List Se) (fs : List Fe), (whyL R n fs l).Sublist l
  | [], _ => List.Sublist.refl _
  | e :: l, fs => by
    unfold whyL
    have := why_sub R n l (amgL fs R (applyL R (pickF R fs) e))
    split
    · exact this.cons_cons e
    · exact this.cons e
theorem whU_sub (R : List Rw) (n : Int) (fs : List Fe) : ∀ k, (whU R n fs k).Sublist (stU R fs k)
  | 0 => List.Sublist.refl _
  | k + 1 => (whU_sub R n fs k).append (why_sub R n _ _)
def radd (f : Fe) (e : Se) : Fe := { f with po := wrap64 (f.po + e.s.wh.ct), he := wrap64 (f.he + e.s.wh.ct) }
def rads (f : Fe) (L : List Se) : Fe := L.foldl radd f
theorem rads_app (f : Fe) (A B : List Se) : rads f (A ++ B) = rads (rads f A) B := List.foldl_append
theorem run_row {m : Int} {cd : Int → Hd × List Pt} {ts : List Th} {fs0 : List Fe} {R : List Rw} {k : Int} {i : Nat} (hi : i < R.length) : ∀ (l : List Se) (fs : List Fe) (L acc : List Se), Onc m cd ts fs0 R k fs L acc → (allR R fs0 k).2.drop acc.length = l → (∀ e ∈ whyL R (R.getD i Rw.none).nu fs l, e.s.wh.vb = 15) → (pickF R (amgL fs0 R (allR R fs0 k).1)).getD i Fe.none = rads ((pickF R fs).getD i Fe.none) (whyL R (R.getD i Rw.none).nu fs l)
  | [], fs, L, acc, h, hd, _ => by
    have h0 : L = [] := by
      obtain ⟨B, e, hB⟩ := allL_pre R _ (pickF R fs) L acc rfl
      rw [h.all, e] at hd
      simp at hd
      subst hd
      exact List.length_eq_zero_iff.1 (by rw [← hB]; rfl)
    subst h0
    rw [h.end]
    rfl
  | e :: l, fs, L, acc, h, hd, hw => by
    have h0 : 0 < L.length := by
      obtain ⟨B, e1, hB⟩ := allL_pre R _ (pickF R fs) L acc rfl
      rw [h.all, e1] at hd
      simp at hd
      rw [← hB, hd]
      simp
    have hst := h.step h0
    have hn := h.now h0
    have hee : L.getD (nextN R (pickF R fs) L) Se.none = e := by
      rw [← hn, List.getD_eq_getElem?_getD]
      have : (allR R fs0 k).2[acc.length]? = some e := by
        have := congrArg (fun z => z[0]?) hd
        simp only [List.getElem?_drop, Nat.add_zero, List.getElem?_cons_zero] at this
        exact this
      rw [this]
      rfl
    rw [hee] at hst
    have hd2 : (allR R fs0 k).2.drop (acc ++ [e]).length = l := by
      rw [List.length_append, List.length_singleton, ← List.drop_drop, hd]
      rfl
    have ih := run_row hi l _ _ _ hst hd2 (fun x hx => hw x (by rw [whyL_cons]; exact List.mem_append_right _ hx))
    have hro : e.ro < R.length := (eff_mem (h.mem e (by rw [← hee, getD_in (h.lt h0)]; exact List.getElem_mem _))).1
    have hpl : (pickF R fs).length = R.length := pickF_len _ _
    have hF : (applyL R (pickF R fs) e).length = R.length := by rw [applyL_len, hpl]
    rw [ih, h.tab.pick hF, applyL_at (by rw [hpl]; exact hi)]
    unfold applyAt
    rw [whyL_cons R _ fs e l]
    by_cases ha : isAbB R (pickF R fs) e i = true
    · have hm : (R.getD i Rw.none).nu ∈ numL R (aboutL R (pickF R fs) e) := num_mem.2 ⟨i, hi, ha, rfl⟩
      have h15 := hw e (by rw [whyL_cons, if_pos hm]; exact List.mem_append_left _ (List.mem_singleton.2 rfl))
      rw [if_pos ha, if_pos hm, rads_app, done_raise h15]
      rfl
    · have hm : ¬ (R.getD i Rw.none).nu ∈ numL R (aboutL R (pickF R fs) e) := fun q => by
        obtain ⟨i', hi', a', e'⟩ := num_mem.1 q
        have := nu_inj h.base.nod hi' hi e'
        subst this
        exact ha a'
      rw [if_neg ha, if_neg hm]
      rfl
theorem cl_row {m : Int} {cd : Int → Hd × List Pt} {ts : List Th} {fs : List Fe} {R : List Rw} (h : Tab m cd ts fs R) {i : Nat} (hi : i < R.length) : ∀ k, (∀ e ∈ whU R (R.getD i Rw.none).nu fs k, e.s.wh.vb = 15) → (pickF R (clF R fs k)).getD i Fe.none = rads ((pickF R fs).getD i Fe.none) (whU R (R.getD i Rw.none).nu fs k)
  | 0, _ => rfl
  | k + 1, hw => by
    have h1 := cl_row h hi k (fun e he => hw e (List.mem_append_left _ he))
    have h2 := run_row hi (apK R fs k) (clF R fs k) _ _ (Onc.start (k := (k : Int) + 1) (h.cl k)) rfl (fun e he => hw e (List.mem_append_right _ he))
    show (pickF R (amgL (clF R fs k) R (allR R (clF R fs k) ((k : Int) + 1)).1)).getD i Fe.none = rads _ (whU R (R.getD i Rw.none).nu fs k ++ whyL R (R.getD i Rw.none).nu (clF R fs k) (apK R fs k))
    rw [h2, h1, rads_app]
def cnts (L : List Se) (a : Int) : Int := L.foldl (fun a e => wrap64 (a + e.s.wh.ct)) a
theorem cnts_shift : ∀ (L : List Se) (a b : Int), wrap64 (b + cnts L a) = cnts L (wrap64 (b + a))
  | [], a, b => rfl
  | e :: L, a, b => by
    show wrap64 (b + cnts L (wrap64 (a + e.s.wh.ct))) = cnts L (wrap64 (wrap64 (b + a) + e.s.wh.ct))
    rw [cnts_shift L, wrap_addR, wrap_addL, Int.add_assoc]
theorem rads_eq : ∀ (L : List Se) (f : Fe), rads f L = ⟨f.ho, f.su, f.tr, cnts L f.po, cnts L f.he⟩
  | [], f => rfl
  | e :: L, f => by
    show rads (radd f e) L = _
    rw [rads_eq L (radd f e)]
    rfl
end Go.Proofs.YtmemeloehgemcaaGreat
namespace Go.Proofs.YtmemeloehgemcaaGreat
open Go.RowKit Go.Shelf

theorem vwp_app {P : Program} {w : World} {o : Oper} {a : Act} {K : Act → World → Prop} {Q : Exit → Act → World → Prop} (s x : Operand) (t : TypeId)
    (ho : o.op = .call { callee := .builtin .append, args := #[s, x], argTypes := #[t, t] })
    (base : Nat) (e : TypeId) (i : TypeInfo) (z : Value) (size bytes : Nat) (ht : P.underlying t = some (.slice e)) (hi : P.info? e = some i) (hz : i.zero = some z)
    (hsize : i.size = size) (hby : i.bytes = bytes) (hzs : z.cells.size = size) (hsz : 0 < size)
    (v : Value) (n : Nat) (xs : List Value) (hs : a.eval s = v) (hown : w.ownsRow base e size v n xs)
    (vx : Value) (m : Nat) (ys : List Value) (hx : a.eval x = vx) (hsrc : Src w vx m size ys) (h1 : ∀ u ∈ ys, u.oneCell' = true)
    (h63 : n + m ≤ maxLen) (hbytes : (n + m) * bytes ≤ 140737488355328) (hbase : base ≤ w.heap.size)
    (h : ∀ v' w', w'.ownsRow base e size v' (n + m) (xs ++ ys) → w.grownBy w' v.ownBlock → (v'.ownBlock = v.ownBlock ∨ v'.ownBlock = some w.heap.size) → K (a.put o.dst v') w') : Oper.wp P o a w K Q := by
  obtain ⟨p, c, e1, hl, hc⟩ := hsrc
  subst e1
  by_cases h0 : m = 0
  · subst h0
    have hy : ys = [] := List.length_eq_zero_iff.1 (by omega)
    subst hy
    cases p with
    | none =>
      have hx2 : a.eval x = .slice none 0 c := hx
      have hrun : (Builtin.append_ #[t, t] o.type #[v, .slice none 0 c]).run P w = .ok v w := run_append_owned_none (P := P) (w := w) base t o.type e i size ht hi v n xs hown
      unfold Oper.wp
      simp [execOp, ho, resolve, invoke, builtin, hs, hx2, hrun, Result.andThen]
      exact h v w (by rw [List.append_nil]; exact hown) (grown_refl _ _) (Or.inl rfl)
    | some ad =>
      exact lwp_append_at s x t ho base e i z size bytes ht hi hz hsize hby hzs hsz v n xs hs hown ad 0 c [] hx (by simp) (fun j u hu => by simp at hu) h1 h63 hbytes hbase h
  · obtain ⟨ad, e2, hcell⟩ := hc (by omega)
    subst e2
    exact lwp_append_at s x t ho base e i z size bytes ht hi hz hsize hby hzs hsz v n xs hs hown ad m c ys hx hl hcell h1 h63 hbytes hbase h
theorem ints_in {w : World} {base : Nat} {v : Value} {l : List Int} (h : LOwnI w base v l) {j : Nat} (hj : j < l.length) : ∃ g c, v = .slice (some ⟨g, 0, none⟩) l.length c ∧ w.cell? ⟨g, j, none⟩ = some (.int .i64 (l.getD j 0)) := by
  obtain ⟨g, c, e, _, _, _, _, hc⟩ := own_cell h (by omega)
  refine ⟨g, c, e, (hc j (by omega)).1.trans ?_⟩
  unfold ints
  rw [List.getElem?_map, List.getElem?_eq_getElem hj, Option.map_some, getD_in hj]
theorem mem_at {l : List Int} {x : Int} {j : Nat} (hj : j < l.length) (h : l.getD j 0 = x) : x ∈ l := by rw [← h, getD_in hj]; exact List.getElem_mem _
theorem not_mem {l : List Int} {x : Int} (h : ∀ i, i < l.length → ¬ l.getD i 0 = x) : x ∉ l := fun q => by
  obtain ⟨i, hi, e⟩ := List.getElem_of_mem q
  exact h i hi (by rw [getD_in hi]; exact e)
set_option maxRecDepth 100000 in
set_option maxHeartbeats 4000000 in
theorem vindex_any (v : Value) (base : Nat) (l : List Int) (x : Int) (w : World) (O : LOwnI w base v l) (hb : l.length ≤ 2048) : Calls Tryz.prog 153 #[v, .int .i64 x] w fun e w' => ∃ i : Int, e = .returned (.int .i64 i) ∧ decide (0 ≤ i) = decide (x ∈ l) ∧ w' = w := by
  obtain ⟨p, cap, rfl, _⟩ := own_slice O
  have HO : Hid (LOwnI w base (.slice p l.length cap) l) := O
  have Hb : Hid (l.length ≤ 2048) := hb
  clear O hb
  go_enter Tryz.func153, Tryz.ntmps153
  go_wp2_with fail
  go_loopw [5, 8] (fun _ i wr => ∃ m : Nat, m ≤ l.length ∧ i = .int .i64 (m : Int) ∧ wr = w ∧ Hid (∀ i, i < m → ¬ l.getD i 0 = x)) (fun _ i _ => l.length - (intOf i).toNat)
  case atStart => exact ⟨0, Nat.zero_le _, rfl, rfl, fun i hi => absurd hi (Nat.not_lt_zero _)⟩
  case round =>
    obtain ⟨m, hm, rfl, rfl, HN⟩ := hrel
    by_cases hlt : m < l.length
    · obtain ⟨g, cap', e1, c1⟩ := ints_in HO.out hlt
      cases e1
      obtain ⟨y, hy⟩ : ∃ y, y = l.getD m 0 := ⟨_, rfl⟩
      rw [← hy] at c1
      have hlt' : (m : Int) < l.length := Int.ofNat_lt.2 hlt
      have hwk := wrap_next (k := m) (Nat.le_trans (Nat.le_of_lt hlt) (Nat.le_trans Hb.out (by decide)))
      have Hlt : Hid (m < l.length) := hlt
      have HM : Hid (l.length - (intOf (.int .i64 ((m : Int) + 1))).toNat < l.length - (intOf (.int .i64 (m : Int))).toNat) := meas_k hlt
      by_cases hxy : x = y
      · have e : (x == y) = true := by rw [hxy]; simp
        have HX : Hid (decide (0 ≤ (m : Int)) = decide (x ∈ l)) := by show _ = _; rw [decide_eq_true (by omega), decide_eq_true (mem_at hlt (hy.symm.trans hxy.symm))]
        clear hlt hm hy hxy
        go_wp2_with fail
        go_ret
        exact ⟨_, rfl, HX.out, rfl⟩
      · have e : (x == y) = false := by simpa using hxy
        have HN2 : Hid (∀ i, i < m + 1 → ¬ l.getD i 0 = x) := fun i hi => by
          by_cases q : i = m
          · rw [q, ← hy]; exact fun z => hxy z.symm
          · exact HN.out i (by omega)
        clear hlt hm hy hxy HN
        go_wp2_with fail
        go_roundw
        case rel => exact ⟨m + 1, Hlt.out, by first | rfl | (rw [hwk]; rfl) | go_num, by trivial, HN2⟩
        case measure => first | exact HM.out | (rw [hwk]; exact HM.out)
    · obtain rfl : m = l.length := Nat.le_antisymm hm (Nat.le_of_not_lt hlt)
      have HX : Hid (decide (0 ≤ (-1 : Int)) = decide (x ∈ l)) := by show _ = _; rw [decide_eq_false (by omega), decide_eq_false (not_mem HN.out)]
      clear hm hlt HN
      go_wp2_with fail
      go_ret
      exact ⟨_, rfl, HX.out, rfl⟩
set_option maxRecDepth 100000 in
set_option maxHeartbeats 4000000 in
theorem vcontains_any (v : Value) (base : Nat) (l : List Int) (x : Int) (w : World) (O : LOwnI w base v l) (hb : l.length ≤ 2048) : Calls Tryz.prog 114 #[v, .int .i64 x] w fun e w' => e = .returned (.bool (decide (x ∈ l))) ∧ w' = w := by
  have C := vindex_any v base l x w O hb
  obtain ⟨p, cap, rfl, _⟩ := own_slice O
  clear O hb
  go_enter Tryz.func114, Tryz.ntmps114
  go_wp2_with fail
  refine C.mono ?_
  rintro e1 w1 ⟨i, rfl, h1, rfl⟩
  have H1 : Hid (decide (0 ≤ i) = decide (x ∈ l)) := h1
  clear C h1
  go_wp2_with fail
  go_ret
  exact ⟨by rw [← H1.out]; rfl, rfl⟩
set_option maxRecDepth 100000 in
set_option maxHeartbeats 4000000 in
theorem vonTable_any (bp pt pp : Option Addr) (ct np cp : Nat) (ts : List Th) (x : Int) (w : World) (A : thR.At w (.slice pt ts.length ct) ts) : Calls Tryz.prog 72 #[.agg #[.pointer bp, .slice pt ts.length ct, .slice pp np cp], .int .i64 x] w fun e w' => e = .returned (.bool (onT ts x)) ∧ w.grownBy w' none := by
  obtain ⟨W1, hW1⟩ : ∃ W1, W1 = w.alloc (.cells #[.pointer bp, .slice pt ts.length ct, .slice pp np cp] 144) := ⟨_, rfl⟩
  have HG1 : Hid (w.grownBy W1 none) := by rw [hW1]; exact World.grownBy_alloc _ _ none
  have HS1 : Hid (ScB W1 w.heap.size bp (.slice pt ts.length ct) (.slice pp np cp)) := by rw [hW1]; exact alloc_at _ _ _
  have HA : Hid (thR.At W1 (.slice pt ts.length ct) ts) := A.keep HG1.out
  have HLn : Hid (ts.length ≤ maxLen) := by obtain ⟨_, _, _, q, _⟩ := A; exact q
  clear A
  go_enter Tryz.func72, Tryz.ntmps72
  go_upto_region 1 with fail
  rw [← hW1]
  clear hW1
  obtain ⟨n0, hn0⟩ : ∃ n0, n0 = w.heap.size := ⟨_, rfl⟩
  simp only [← hn0] at HS1 ⊢
  clear hn0
  obtain ⟨s0, s1, s2⟩ := sc_box HS1.out
  by_cases h1 : 1 ≤ x
  · have d1 : decide (1 ≤ x) = true := decide_eq_true h1
    by_cases h2 : x ≤ (ts.length : Int)
    · have d2 : decide (x ≤ (ts.length : Int)) = true := decide_eq_true h2
      obtain ⟨j, hj⟩ : ∃ j : Nat, x = (j : Int) + 1 := ⟨(x - 1).toNat, by omega⟩
      have hjl : j < ts.length := by omega
      obtain ⟨g, off, cap, ee, R⟩ := th_there HA.out hjl
      cases ee
      obtain ⟨t, ht⟩ : ∃ t, t = ts[j] := ⟨_, rfl⟩
      rw [← ht] at R
      obtain ⟨c0, c1, c2, c3, c4, c5, c6, c7, c8, c9, c10⟩ := th_cells R
      have hjl' : (j : Int) < ts.length := Int.ofNat_lt.2 hjl
      have hw1 : wrap64 (x - 1) = (j : Int) := by have := HLn.out; unfold maxLen at this; unfold wrap64; omega
      have hw2 : IntKind.i64.wrap (x - 1) = (j : Int) := by have := HLn.out; unfold maxLen at this; rw [IntWalk.i64_in _ (by omega)]; omega
      have HX : Hid (onT ts x = (t.place == 4)) := by
        show _ = _
        unfold onT
        rw [d1, d2, hj, show ((j : Int) + 1 - 1).toNat = j by omega, getD_in hjl, ← ht, Bool.true_and, Bool.true_and]
        by_cases q : t.place = 4
        · rw [decide_eq_true q, q]; rfl
        · rw [decide_eq_false q]; symm; simpa using q
      clear h1 h2 hj hjl R ht c0 c1 c3 c4 c5 c6 c7 c8 c9 c10
      go_wp2_with fail
      go_ret
      exact ⟨by rw [HX.out]; rfl, HG1.out⟩
    · have d2 : decide (x ≤ (ts.length : Int)) = false := decide_eq_false h2
      have HX : Hid (onT ts x = false) := by show _ = _; unfold onT; rw [d2, Bool.false_and, Bool.and_false]
      clear h1 h2
      go_wp2_with fail
      go_ret
      exact ⟨by rw [HX.out]; rfl, HG1.out⟩
  · have d1 : decide (1 ≤ x) = false := decide_eq_false h1
    have HX : Hid (onT ts x = false) := by show _ = _; unfold onT; rw [d1, Bool.false_and]
    clear h1
    go_wp2_with fail
    go_ret
    exact ⟨by rw [HX.out]; rfl, HG1.out⟩
theorem why_at {R : List Rw} {x : Int} {X : List Fe} {E : List Se} {j : Nat} (hj : j < E.length) : whyL R x X (E.drop j) = (if x ∈ numL R (aboutL R (pickF R X) (E.getD j Se.none)) then [E.getD j Se.none] else []) ++ whyL R x (amgL X R (applyL R (pickF R X) (E.getD j Se.none))) (E.drop (j + 1)) := by
  rw [List.drop_eq_getElem_cons hj, whyL_cons, getD_in hj]
end Go.Proofs.YtmemeloehgemcaaGreat
