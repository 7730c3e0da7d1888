/-
  Layers' laws: what stands while a law asks of one book; answers of effects that a layer has.
  View: Steps.
  Layers, plainly: whom an effect is about, by their numbers; what becomes of each feature.
-/
import Derived.Test.YtmemeloehgemcaaGreatT39
import Derived.Test.YtmemeloehgemcaaGreatT35
import Derived.Test.YtmemeloehgemcaaGreatBoB
namespace Go.Proofs.YtmemeloehgemcaaGreat
open Go.RowKit Go.Shelf

theorem Tab.app {n : Int} {cd : Int → Hd × List Pt} {ts : List Th} {fs : List Fe} {R : List Rw} {F : List Fe} {k : Int} {a : Se} {w w' : World} {e : Ending} (h : Tab n cd ts fs R) (ha : a ∈ effL R F k) (q : ApplyPost w 0 n cd ts fs a.s e w') : ∃ p c, e = .returned (.tuple #[.slice p (amgL fs R (applyL R (pickF R fs) a)).length c, .int .i64 0]) ∧ w.grownBy w' none ∧ FOwn w' w.heap.size (.slice p (amgL fs R (applyL R (pickF R fs) a)).length c) (amgL fs R (applyL R (pickF R fs) a)) := by
  obtain ⟨p, m, c, e1, g, _, h1⟩ := q
  have o := h1 R a rfl h.tab (h.one ha)
  rw [lkE_ok h.tab (h.one ha)] at e1
  obtain ⟨p', c', e2⟩ := RecT.Own.form o
  cases e2
  exact ⟨p, c, e1, g, o⟩
theorem Tab.abt {n : Int} {cd : Int → Hd × List Pt} {ts : List Th} {fs : List Fe} {R : List Rw} {F : List Fe} {k : Int} {a : Se} {w w' : World} {e : Ending} (h : Tab n cd ts fs R) (ha : a ∈ effL R F k) (q : AboutPost w 0 n cd ts fs a.s e w') : ∃ p c, e = .returned (.tuple #[.slice p (numL R (aboutL R (pickF R fs) a)).length c, .int .i64 0]) ∧ w.grownBy w' none ∧ LOwnI w' w.heap.size (.slice p (numL R (aboutL R (pickF R fs) a)).length c) (numL R (aboutL R (pickF R fs) a)) := by
  obtain ⟨p, m, c, e1, g, _, h1⟩ := q
  have o := h1 R a rfl h.tab (h.one ha)
  rw [lkE_ok h.tab (h.one ha)] at e1
  obtain ⟨p', c', e2⟩ := LOwnI.form o
  cases e2
  exact ⟨p, c, e1, g, o⟩
theorem FiA.forms {w : World} {vc vm : Value} {cs : List Ent} {ms : List Mk} (h : FiA w vc vm cs ms) : ∃ a k a' k', vc = .slice a cs.length k ∧ vm = .slice a' ms.length k' := by
  obtain ⟨a, k, e, _⟩ := h.c
  obtain ⟨a', k', e', _⟩ := h.m
  exact ⟨a, k, a', k', e, e'⟩
theorem Tab.effs {n : Int} {cd : Int → Hd × List Pt} {ts : List Th} {fs : List Fe} {R : List Rw} (h : Tab n cd ts fs R) (hc : ∀ c, (cd c).2.length ≤ 4) (F : List Fe) (k : Int) : (effL R F k).length ≤ 64 := by
  have hp : ∀ i, (R.getD i Rw.none).ps.length ≤ 4 := fun i => by
    by_cases hi : i < R.length
    · rw [getD_in hi]
      obtain ⟨j, t, f, _, _, c⟩ := tbl_of _ _ _ (h.perm.mem_iff.1 (List.getElem_mem hi))
      rw [c]
      exact hc _
    · rw [List.getD_eq_getElem?_getD, List.getElem?_eq_none (by omega)]
      exact Nat.zero_le _
  have := effU_len (F := F) (k := k) hp R.length
  have := h.few
  unfold effL
  omega
end Go.Proofs.YtmemeloehgemcaaGreat
namespace Go.Proofs.YtmemeloehgemcaaGreat
open Go.RowKit Go.Shelf

theorem ClS.block {w0 w w' : World} {B gk gf gs : Nat} {bp : Option Addr} {vt vp vf : Value} {k : Int} {fs : List Fe} {base n : Nat} {v : Value} {xs : List Value} (h : ClS w0 w B gk gf gs bp vt vp k vf fs) (o : w.ownsRow base 49 10 v n xs) (g : w.grownBy w' v.ownBlock) (hb : w0.heap.size ≤ base) : ClS w0 w' B gk gf gs bp vt vp k vf fs := ⟨⟨grown_keep g h.cl.kb (own_tag o h.cl.kb (by decide)), grown_keep g h.cl.fb (own_tag o h.cl.fb (by decide)), grown_keep g h.cl.sb (own_tag o h.cl.sb (by decide))⟩, own_other h.fo o (by decide) g, grown_own h.gr g (fun x e => Nat.le_trans hb (World.ownsRow.lt o x e).1), h.hk, h.hf⟩
theorem VIn.few4 {w : World} {bv vt : Value} {r n : Int} {cd : Int → Hd × List Pt} {ts : List Th} {pf : Th → Fe} {mf : Fe → Th → Fe} {me : Th → Int} (I : VIn w bv vt r n cd ts pf mf me) (hr : r = 0) : ∀ c, (cd c).2.length ≤ 4 := ((I.li w (.slice none 0 0) [] (grown_refl _ _) (RecT.At.nil _ _) (by decide)).book hr).1.few
theorem ap_few {n : Int} {cd : Int → Hd × List Pt} {ts : List Th} {fs : List Fe} {R : List Rw} (h : Tab n cd ts fs R) (hc : ∀ c, (cd c).2.length ≤ 4) (k : Nat) : (apK R fs k).length ≤ 64 := by
  unfold apK
  rw [allR_len]
  exact (h.cl k).effs hc _ _
theorem st_few {n : Int} {cd : Int → Hd × List Pt} {ts : List Th} {fs : List Fe} {R : List Rw} (h : Tab n cd ts fs R) (hc : ∀ c, (cd c).2.length ≤ 4) : ∀ k, (stU R fs k).length ≤ 64 * k
  | 0 => Nat.le_refl _
  | k + 1 => by
    show (stU R fs k ++ apK R fs k).length ≤ _
    rw [List.length_append]
    have := st_few h hc k
    have := ap_few h hc k
    omega
theorem vSt_is {r n : Int} {cd : Int → Hd × List Pt} {ts : List Th} {pf : Th → Fe} {me : Th → Int} {R : List Rw} (h : vkE r n cd ts (prtF pf (ts.take 2048)) me = 0) (hT : Tab n cd ts (prtF pf ts) R) : vSt r n cd ts pf me = stU R (prtF pf ts) 5 := by
  unfold vSt
  rw [if_pos h, hT.tab]
theorem vSt_no {r n : Int} {cd : Int → Hd × List Pt} {ts : List Th} {pf : Th → Fe} {me : Th → Int} (h : vkE r n cd ts (prtF pf (ts.take 2048)) me ≠ 0) : vSt r n cd ts pf me = [] := if_neg h
def StPost (w : World) (r n : Int) (cd : Int → Hd × List Pt) (ts : List Th) (pf : Th → Fe) (me : Th → Int) (e : Ending) (w' : World) : Prop := ∃ v, e = .returned (.tuple #[v, .int .i64 (vkE r n cd ts (prtF pf (ts.take 2048)) me)]) ∧ w.grownBy w' none ∧ DOwn w' w.heap.size v ((vSt r n cd ts pf me).map Se.s)
theorem len_two {a b : Nat} (h1 : a ≤ 320) (h2 : b ≤ 64) : a + b ≤ maxLen ∧ (a + b) * 56 ≤ 140737488355328 := by unfold maxLen; omega
theorem app_sd {w : World} {base : Nat} {v : Value} {A B : List Sd} (h : w.ownsRow base 49 10 v (A.length + B.length) (sdR.cs A ++ sdR.cs B)) : DOwn w base v (A ++ B) := by
  unfold DOwn RecT.Own
  rw [List.length_append, sdR.app]
  exact h
set_option maxRecDepth 100000 in
set_option maxHeartbeats 4000000 in
theorem vsteps_any (bp : Option Addr) (vt : Value) (r n : Int) (cd : Int → Hd × List Pt) (ts : List Th) (pf : Th → Fe) (mf : Fe → Th → Fe) (me : Th → Int) (w : World) (I : VIn w (.pointer bp) vt r n cd ts pf mf me) : Calls Tryz.prog 27 #[.pointer bp, vt] w (StPost w r n cd ts pf me) := by
  have HLk := vlook_any bp vt r n cd ts pf mf me w I
  unfold VkPost at HLk
  obtain ⟨pt, ct, rfl, hcap⟩ := I.cap
  have HI : Hid (VIn w (.pointer bp) (.slice pt ts.length ct) r n cd ts pf mf me) := I
  clear I hcap
  go_enter Tryz.func27, Tryz.ntmps27
  go_wp2_with fail
  refine HLk.mono ?_
  rintro e2 w2 ⟨bq, p1, m1, c1, p2, m2, c2, rfl, g2, h2⟩
  obtain ⟨q, hq⟩ : ∃ q, q = vkE r n cd ts (prtF pf (ts.take 2048)) me := ⟨_, rfl⟩
  rw [← hq] at h2 ⊢
  have Hq : Hid (q = vkE r n cd ts (prtF pf (ts.take 2048)) me) := hq
  clear HLk hq
  obtain ⟨W3, hW3⟩ : ∃ W3, W3 = w2.alloc (.cells #[.pointer bq, .slice p1 m1 c1, .slice p2 m2 c2] 144) := ⟨_, rfl⟩
  have HG3 : Hid (w.grownBy W3 none) := by rw [hW3]; exact grown_push g2 _
  have HS3 : Hid (ScB W3 w2.heap.size bq (.slice p1 m1 c1) (.slice p2 m2 c2)) := by rw [hW3]; exact alloc_at _ _ _
  have H2 : Hid (q = 0 → bq = bp ∧ Value.slice pt ts.length ct = .slice p1 m1 c1 ∧ FOwn W3 w.heap.size (.slice p2 m2 c2) (prtF pf ts)) := fun z => by
    obtain ⟨a, b, c⟩ := h2 z
    exact ⟨a, b, own_grow c (by rw [hW3]; exact World.grownBy_alloc _ _ none)⟩
  clear g2 h2
  go_upto_region 2 with fail
  rw [← hW3]
  clear hW3
  obtain ⟨ns, hns⟩ : ∃ ns, ns = w2.heap.size := ⟨_, rfl⟩
  simp only [← hns] at HS3 ⊢
  clear hns
  by_cases hq0 : q = 0
  · have e1 : (q != 0) = false := by simpa using hq0
    have hv0 : vkE r n cd ts (prtF pf (ts.take 2048)) me = 0 := Hq.out.symm.trans hq0
    obtain ⟨hr0, ⟨R, hR⟩, -⟩ := vkE_of hv0
    have hts : ts.length ≤ 2048 := HI.out.few hr0
    rw [List.take_of_length_le hts] at hR
    obtain ⟨eb, ev, hO⟩ := H2.out hq0
    subst eb
    injection ev with ev1 ev2 ev3
    subst ev1
    subst ev3
    rw [← ev2] at HS3 ⊢
    obtain ⟨L, hL⟩ : ∃ L, L = ts.length := ⟨_, rfl⟩
    have hm2 : m2 = ts.length := by obtain ⟨a, b, e⟩ := RecT.Own.form hO; injection e with _ e _; rw [e, prtF_len]
    obtain ⟨F, hF⟩ : ∃ F, F = prtF pf ts := ⟨_, rfl⟩
    have HF : Hid (F = prtF pf ts ∧ F.length = ts.length) := ⟨hF, by rw [hF, prtF_len]⟩
    rw [← hF] at hO hR
    rw [hm2] at hO HS3 ⊢
    have HO : Hid (FOwn W3 w.heap.size (.slice p2 ts.length c2) F) := hO
    have HT : Hid (Tab n cd ts F R ∧ r = 0 ∧ ts.length ≤ 2048 ∧ vkE r n cd ts (prtF pf (ts.take 2048)) me = 0) := ⟨hR, hr0, hts, hv0⟩
    clear H2 hq0 hv0 hR hr0 hts hm2 hO hF ev2 m1 m2 hL L
    obtain ⟨s0, s1, s2⟩ := sc_box HS3.out
    have C4 := vclimber_any bq pt p2 ts.length ct ts.length c2 W3
    go_wp2_with fail
    refine C4.mono ?_
    rintro e4 w4 ⟨gk, gf, gs, rfl, h4, g4, hk4, hf4⟩
    have HG4 : Hid (W3.grownBy w4 none) := g4
    have HC0 : Hid (ClS w w4 w.heap.size gk gf gs bq (.slice pt ts.length ct) (.slice p2 ts.length c2) ((0 : Nat) : Int) (.slice p2 ts.length c2) (clF R F 0)) := ⟨h4, own_grow HO.out g4, grown_trans HG3.out g4, Nat.le_trans HG3.out.size hk4, Nat.le_trans HG3.out.size hf4⟩
    clear C4 h4 g4 hk4 hf4 s0 s1 s2 e1
    unfold clV
    obtain ⟨i0, hi, hz0, hz1, hz2⟩ := info_parts Tryz.linfoD
    go_wp2_with fail
    go_loopw [8, 21] (fun x y wr => ∃ (j : Nat) (p : Option Addr) (c B : Nat) (ps : Option Addr) (nS cS : Nat), j ≤ 5 ∧ y = .int .i64 (j : Int) ∧ x = .slice ps nS cS ∧ Hid (ClS w wr B gk gf gs bq (.slice pt ts.length ct) (.slice p2 ts.length c2) (j : Int) (.slice p ts.length c) (clF R F j)) ∧ Hid (DOwn wr w.heap.size (.slice ps nS cS) ((stU R F j).map Se.s))) (fun _ y _ => 5 - (intOf y).toNat)
    case atStart => exact ⟨0, p2, c2, w.heap.size, none, 0, 0, Nat.zero_le _, rfl, rfl, HC0, RecT.Own.nil _ _ _ _⟩
    case round =>
      obtain ⟨j, p, c, B, ps, nS, cS, hj, rfl, rfl, HC, HD⟩ := hrel
      obtain ⟨U, hU⟩ : ∃ U, U = wr := ⟨_, rfl⟩
      subst hU
      clear HC0
      by_cases hlt : j < 5
      · have hlf : (clF R F j).length = ts.length := by rw [clF_len]; exact HF.out.2
        have C5 := vclimb_any bq pt p2 ct ts.length c2 r n cd ts pf mf me w U B gk gf gs (j : Int) (.slice p ts.length c) (clF R F j) R HI.out HC.out (HT.out.1.cl j) HT.out.2.1 (by omega) (by omega)
        unfold ClPost at C5
        rw [hlf] at C5
        have hlt' : (j : Int) < 5 := by omega
        have hwk := wrap_next (k := j) (by omega)
        have Hlt : Hid (j < 5) := hlt
        have HM : Hid (5 - (intOf (.int .i64 ((j : Int) + 1))).toNat < 5 - (intOf (.int .i64 (j : Int))).toNat) := meas_k hlt
        have HSz : Hid (w.heap.size ≤ U.heap.size) := HC.out.gr.size
        have HCL : Hid (ClB U gk gf gs bq (.slice pt ts.length ct) (.slice p2 ts.length c2) (j : Int) (.slice p ts.length c)) := HC.out.cl
        obtain ⟨A, hA⟩ : ∃ A, A = (stU R F j).map Se.s := ⟨_, rfl⟩
        obtain ⟨E, hE⟩ : ∃ E, E = (allR R (clF R F j) ((j : Int) + 1)).2.map Se.s := ⟨_, rfl⟩
        have HAE : Hid ((stU R F (j + 1)).map Se.s = A ++ E ∧ A.length ≤ 320 ∧ E.length ≤ 64) := by
          refine ⟨?_, ?_, ?_⟩
          · rw [hA, hE]; show (stU R F j ++ apK R F j).map Se.s = _; rw [List.map_append]; rfl
          · rw [hA, List.length_map]; have := st_few HT.out.1 (HI.out.few4 HT.out.2.1) j; omega
          · rw [hE, List.length_map]; exact ap_few HT.out.1 (HI.out.few4 HT.out.2.1) j
        rw [← hE] at C5
        rw [← hA] at HD
        clear hlt hj hlf HC hA hE
        have hfl := Tryz.fl1
        go_wp2_with (first
          | (go_at_call 113; refine C5.mono ?_; rintro e5 w5 ⟨q1, n1, d1, q2, d2, rfl, h5, hD5, -, tw5⟩; have HC5 : Hid (ClS w w5 U.heap.size gk gf gs bq (.slice pt ts.length ct) (.slice p2 ts.length c2) ((j + 1 : Nat) : Int) (.slice q2 ts.length d2) (clF R F (j + 1))) := h5; have HD5 : Hid (DOwn w5 w.heap.size (.slice ps nS cS) A) := tw5.own HCL.out HD.out (by decide) (by decide); have HS5 : Hid (Src w5 (.slice q1 n1 d1) E.length 10 (sdR.cs E)) := RecT.At.src (RecT.Own.at hD5); have HL5 : Hid (A.length + E.length ≤ maxLen ∧ (A.length + E.length) * 56 ≤ 140737488355328) := len_two HAE.out.2.1 HAE.out.2.2; have HW5 : Hid (w.heap.size ≤ w5.heap.size) := HC5.out.gr.size; clear C5 h5 hD5 tw5)
          | (at_builtin; refine lwpl_app (by rfl) (.tmp 23) (.tmp 26) 36 rfl w.heap.size 49 i0 _ 10 56 Tryz.underlying36 hi hz0 hz1 hz2 rfl (by decide) _ A.length (sdR.cs A) rfl HD5.out _ E.length (sdR.cs E) rfl HS5.out (sdR.ones E) HL5.out.1 HL5.out.2 HW5.out ?_; intro v6 w6 o6 g6 _; have HO6 : Hid (w6.ownsRow w.heap.size 49 10 v6 (A.length + E.length) (sdR.cs A ++ sdR.cs E) ∧ w5.grownBy w6 (Value.slice ps nS cS).ownBlock) := ⟨o6, g6⟩; clear o6 g6))
        obtain ⟨ps', cS', ev, -⟩ := own_slice HO6.out.1
        have HC6 : Hid (ClS w w6 U.heap.size gk gf gs bq (.slice pt ts.length ct) (.slice p2 ts.length c2) ((j + 1 : Nat) : Int) (.slice q2 ts.length d2) (clF R F (j + 1))) := HC5.out.block HD5.out HO6.out.2 (Nat.le_refl _)
        have HD6 : Hid (DOwn w6 w.heap.size v6 ((stU R F (j + 1)).map Se.s)) := by show DOwn _ _ _ _; rw [HAE.out.1]; exact app_sd HO6.out.1
        subst ev
        go_roundw
        case rel => exact ⟨j + 1, q2, d2, U.heap.size, ps', A.length + E.length, cS', Hlt.out, by first | rfl | (rw [hwk]; rfl) | go_num, rfl, HC6, HD6⟩
        case measure => first | exact HM.out | (rw [hwk]; exact HM.out)
      · obtain rfl : j = 5 := Nat.le_antisymm hj (Nat.le_of_not_lt hlt)
        have HX : Hid (DOwn U w.heap.size (.slice ps nS cS) ((vSt r n cd ts pf me).map Se.s) ∧ w.grownBy U none) := ⟨by rw [vSt_is HT.out.2.2.2 (HF.out.1 ▸ HT.out.1), ← HF.out.1]; exact HD.out, HC.out.gr⟩
        clear hj hlt
        go_wp2_with fail
        go_ret2
        exact ⟨_, by rw [HT.out.2.2.2]; rfl, HX.out.2, HX.out.1⟩
  · have e1 : (q != 0) = true := by simpa using hq0
    have HX : Hid (vSt r n cd ts pf me = []) := vSt_no (fun z => hq0 (Hq.out.trans z))
    clear hq0
    go_wp2_with fail
    go_ret2
    exact ⟨_, by rw [← Hq.out]; rfl, HG3.out, by rw [HX.out]; exact RecT.Own.nil _ _ _ _⟩
end Go.Proofs.YtmemeloehgemcaaGreat
namespace Go.Proofs.YtmemeloehgemcaaGreat
open Go.RowKit Go.Shelf

def stOf (ts : List Th) (x : Int) : Int := (ts.getD (x - 1).toNat Th.none).stamp
theorem Tab.up {n : Int} {cd : Int → Hd × List Pt} {ts : List Th} {fs : List Fe} {R : List Rw} (h : Tab n cd ts fs R) : R.Pairwise fun a b => a.st < b.st := by
  have h' := h.tab
  unfold tabR at h'
  split at h'
  · split at h'
    · split at h'
      · rename_i hd
        cases h'
        have := dif_up (stamps_up (sortR_up _)) hd
        unfold stampsR at this
        rw [List.pairwise_map] at this
        exact this
      · cases h'
    · cases h'
  · cases h'
theorem Tab.thing {n : Int} {cd : Int → Hd × List Pt} {ts : List Th} {fs : List Fe} {R : List Rw} (h : Tab n cd ts fs R) {i : Nat} (hi : i < R.length) : (ts.getD ((R.getD i Rw.none).nu - 1).toNat Th.none).place = 4 ∧ stOf ts (R.getD i Rw.none).nu = (R.getD i Rw.none).st ∧ 0 < (R.getD i Rw.none).st ∧ 1 ≤ (R.getD i Rw.none).nu ∧ (R.getD i Rw.none).nu ≤ (fs.length : Int) := by
  have hr : R.getD i Rw.none ∈ R := by rw [getD_in hi]; exact List.getElem_mem _
  obtain ⟨j, t, ht, h4, hn, hs⟩ := h.from hr
  have hj : j < ts.length := (List.getElem?_eq_some_iff.1 ht).1
  have e : ts.getD j Th.none = t := by rw [List.getD_eq_getElem?_getD, ht]; rfl
  have hm := h.may j t _ ht (List.getElem?_eq_getElem (by rw [← h.len]; exact hj)) h4
  unfold mayLieB at hm
  simp only [Bool.and_eq_true, decide_eq_true_eq] at hm
  unfold stOf
  rw [hn, show ((j : Int) + 1 - 1).toNat = j by omega, e, hs]
  exact ⟨h4, rfl, hm.1.1, by omega, by rw [← h.len]; omega⟩
end Go.Proofs.YtmemeloehgemcaaGreat
