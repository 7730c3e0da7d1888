/-
  Swaps: lookAt, List, All.
-/
import Derived.Test.YthfjgpjcepmnmaaGreatSwN
namespace Go.Proofs.YthfjgpjcepmnmaaGreat
open Go.RowKit

def laE (r n : Int) (cd : Int → Hd × List Pt) (ts : List Th) (F : List Fe) (h : Hp) : Int := if bgE r n cd ts F 1 = 0 then (if hpMay ts h = true then 0 else 2) else bgE r n cd ts F 1
def swT (r n : Int) (cd : Int → Hd × List Pt) (ts : List Th) (F : List Fe) : List Sd := if bgE r n cd ts F 1 = 0 then (match tabR n cd ts F with | some R => swL R F | none => []) else []
theorem swT_ok {r n : Int} {cd : Int → Hd × List Pt} {ts : List Th} {F : List Fe} {R : List Rw} (hb : bgE r n cd ts F 1 = 0) (hR : tabR n cd ts F = some R) : swT r n cd ts F = swL R F := by unfold swT; rw [if_pos hb, hR]
theorem swT_no {r n : Int} {cd : Int → Hd × List Pt} {ts : List Th} {F : List Fe} (hb : ¬ bgE r n cd ts F 1 = 0) : swT r n cd ts F = [] := by unfold swT; rw [if_neg hb]
theorem sw_mem {n : Int} {cd : Int → Hd × List Pt} {ts : List Th} {F : List Fe} {R : List Rw} (hT : Tab n cd ts F R) (hg : SwGood cd) {s : Sd} (hs : s ∈ swL R F) : SwOk F s ∧ (s.wh.vb = 16 → 1 ≤ s.wh.ct ∧ s.wh.ct ≤ 99) := by
  unfold swL at hs
  obtain ⟨r, hr, hs⟩ := List.mem_flatMap.1 hs
  obtain ⟨j, t, ht, h4, e⟩ := hT.row hr
  have hj : j < F.length := by rw [← hT.len]; exact (List.getElem?_eq_some_iff.1 ht).1
  obtain ⟨f, hf⟩ : ∃ f, F[j]? = some f := ⟨_, List.getElem?_eq_getElem hj⟩
  have hm := hT.may j t f ht hf h4
  unfold swOne at hs
  split at hs
  · cases hs
  · unfold swRow at hs
    obtain ⟨x, hx, e2⟩ := List.mem_map.1 hs
    obtain ⟨q, e3, hq, hw⟩ := plF_memS r.ps 0 6 x hx
    have hps : r.ps = (cd t.card).2 := by rw [e]
    have hin : s.wh ∈ (cd t.card).2 := by
      rw [← e2, e3]
      show r.ps.getD ((0 + q : Nat) : Int).toNat Pt.none ∈ _
      rw [Nat.zero_add, Int.toNat_natCast, getD_in hq, ← hps]
      exact List.getElem_mem _
    have hw6 : s.wh.wn = 6 := by
      rw [← e2, e3]
      show (r.ps.getD ((0 + q : Nat) : Int).toNat Pt.none).wn = 6
      rw [Nat.zero_add, Int.toNat_natCast]
      exact hw
    obtain ⟨g1, g2, g3⟩ := hg _ _ hin hw6
    refine ⟨⟨j, f, by rw [← e2, e], hf, ?_, g1, g2⟩, fun q => g3 (Or.inl q)⟩
    unfold mayLieB isPl at hm
    simp only [Bool.and_eq_true, Bool.or_eq_true, decide_eq_true_eq] at hm
    exact hm.1.2
theorem sw_len {n : Int} {cd : Int → Hd × List Pt} {ts : List Th} {F : List Fe} {R : List Rw} (hT : Tab n cd ts F R) (h4 : ∀ c, (cd c).2.length ≤ 4) : (swL R F).length ≤ 64 := by
  have := swK_len (F := F) (hT.ps4 h4) R.length (Nat.le_refl _)
  rw [swK_all] at this
  have := hT.few
  omega
theorem SIn.scene {w w' : World} {bv vt vf vl : Value} {r n : Int} {cd : Int → Hd × List Pt} {ts : List Th} {F : List Fe} {R : List Rw} {B : Nat} (I : SIn w bv vt vf r n cd ts F) (hr : r = 0) (hT : Tab n cd ts F R) (g : w.grownBy w' none) (O : DOwn w' B vl (swL R F)) : NIn w' bv vt vf vl n cd ts F (swL R F) := ⟨I.li.things.keep g, I.li.feats.keep g, RecT.Own.at O, (I.card hr).keep g, hT.len, (I.li.book hr).2, fun j t ht => by
    have hj : j < F.length := by rw [← hT.len]; exact (List.getElem?_eq_some_iff.1 ht).1
    exact card_in (hT.mays ht (List.getElem?_eq_getElem hj)).1, fun s hs => (sw_mem hT I.good hs).1⟩
def LaPost (w : World) (bv vt vf : Value) (r n : Int) (cd : Int → Hd × List Pt) (ts : List Th) (F : List Fe) (h : Hp) (e : Ending) (w' : World) : Prop := ∃ a p1 m1 c1 p2 m2 c2 p3 m3 c3, e = .returned (.tuple #[.agg #[.pointer a, .slice p1 m1 c1, .slice p2 m2 c2, .slice p3 m3 c3], .int .i64 (laE r n cd ts F h)]) ∧ w.grownBy w' none ∧ (∀ R, r = 0 → tabR n cd ts F = some R → hpMay ts h = true → .pointer a = bv ∧ .slice p1 m1 c1 = vt ∧ .slice p2 m2 c2 = vf ∧ DOwn w' w.heap.size (.slice p3 m3 c3) (swL R F))
theorem LaPost.no {w w' : World} {bv vt vf : Value} {r n : Int} {cd : Int → Hd × List Pt} {ts : List Th} {F : List Fe} {h : Hp} {q : Int} (e : laE r n cd ts F h = q) (hq : q ≠ 0) (g : w.grownBy w' none) : LaPost w bv vt vf r n cd ts F h (.returned (.tuple #[.agg #[.pointer none, .slice none 0 0, .slice none 0 0, .slice none 0 0], .int .i64 q])) w' := ⟨none, none, 0, 0, none, 0, 0, none, 0, 0, by rw [e], g, fun R h0 h1 h2 => by unfold laE at e; rw [h0, bgE_ok h1 (by decide), if_pos rfl, if_pos h2] at e; exact absurd e.symm hq⟩
theorem bg_tab {r n : Int} {cd : Int → Hd × List Pt} {ts : List Th} {F : List Fe} (h : bgE r n cd ts F 1 = 0) : r = 0 ∧ ∃ R, tabR n cd ts F = some R ∧ Tab n cd ts F R := by
  obtain ⟨a, _, R, c⟩ := bgE_of h
  exact ⟨a, R, c, Tab.of c⟩
set_option maxRecDepth 100000 in
set_option maxHeartbeats 4000000 in
theorem slookAt_any (bv vt vf : Value) (r n : Int) (cd : Int → Hd × List Pt) (ts : List Th) (F : List Fe) (h : Hp) (w : World) (I : SIn w bv vt vf r n cd ts F) (hb : ∃ a, bv = .pointer a) : Calls Tryz.prog 63 #[bv, vt, vf, hpv h] w (LaPost w bv vt vf r n cd ts F h) := by
  obtain ⟨ba, rfl⟩ := hb
  obtain ⟨pt, ct, rfl⟩ := I.li.things.form
  obtain ⟨pf, cf, rfl⟩ := I.li.feats.form
  obtain ⟨W0, hW0⟩ : ∃ W0, W0 = w.alloc (.cells #[.int .u8 h.vb, .int .i64 h.on, .int .i64 h.ct, .int .i64 h.ho, .bool h.vn, .bool h.dr] 43) := ⟨_, rfl⟩
  obtain ⟨W1, hW1⟩ : ∃ W1, W1 = W0.alloc (.cells #[.pointer none, .slice none 0 0, .slice none 0 0, .slice none 0 0] 136) := ⟨_, rfl⟩
  have g0 : w.grownBy W0 none := by rw [hW0]; exact World.grownBy_alloc _ _ none
  have g1 : W0.grownBy W1 none := by rw [hW1]; exact World.grownBy_alloc _ _ none
  have e0 : W0.heap.size = w.heap.size + 1 := by rw [hW0, World.size_alloc]
  have HG1 : Hid (w.grownBy W1 none) := grown_trans g0 g1
  have HH : Hid (HpB W1 w.heap.size h) := grown_keep g1 (by rw [hW0]; exact alloc_at w _ _) (by simp)
  have HR : Hid (ScnB W1 (w.heap.size + 1) (.pointer none) (.slice none 0 0) (.slice none 0 0) (.slice none 0 0)) := by rw [← e0, hW1]; exact alloc_at _ _ _
  have HI : Hid (SIn W1 (.pointer ba) (.slice pt ts.length ct) (.slice pf F.length cf) r n cd ts F) := I.keep HG1.out
  have CL := slook_any (.pointer ba) _ _ r n cd ts F W1 HI.out ⟨ba, rfl⟩
  unfold SkPost at CL
  have hW1' : W1 = (w.alloc (.cells #[.int .u8 h.vb, .int .i64 h.on, .int .i64 h.ct, .int .i64 h.ho, .bool h.vn, .bool h.dr] 43)).alloc (.cells #[.pointer none, .slice none 0 0, .slice none 0 0, .slice none 0 0] 136) := by rw [hW1, hW0]
  unfold hpv
  clear I hW0 hW1 g0 g1 e0
  go_enter Tryz.func63, Tryz.ntmps63
  go_upto_region 1 with fail
  rw [← hW1']
  clear hW1'
  obtain ⟨n0, hn0⟩ : ∃ n0, n0 = w.heap.size := ⟨_, rfl⟩
  have Hn0 : Hid (w.heap.size ≤ n0) := by rw [hn0]; exact Nat.le_refl _
  simp only [← hn0] at HH HR ⊢
  obtain ⟨n1, hn1⟩ : ∃ n1, n1 = n0 + 1 := ⟨_, rfl⟩
  have Hn1 : Hid (w.heap.size ≤ n1 ∧ n0 ≠ n1) := ⟨by have := Hn0.out; omega, by omega⟩
  simp only [← hn1] at HR ⊢
  clear hn0 hn1
  go_wp2_with fail
  refine CL.mono ?_
  rintro e2 w2 ⟨a, p1, m1, c1, p2, m2, c2, p3, m3, c3, rfl, g2, h2⟩
  obtain ⟨q, hq⟩ : ∃ q, q = bgE r n cd ts F 1 := ⟨_, rfl⟩
  have Hq : Hid (q = bgE r n cd ts F 1) := hq
  rw [← hq]
  obtain ⟨V, hV⟩ : ∃ V, V = w2.alloc (.cells #[.pointer a, .slice p1 m1 c1, .slice p2 m2 c2, .slice p3 m3 c3] 136) := ⟨_, rfl⟩
  have gV : w2.grownBy V none := by rw [hV]; exact World.grownBy_alloc _ _ none
  have HV : Hid (W1.grownBy V none ∧ w.grownBy V none ∧ HpB V n0 h ∧ ScnB V n1 (.pointer none) (.slice none 0 0) (.slice none 0 0) (.slice none 0 0) ∧ ScnB V w2.heap.size (.pointer a) (.slice p1 m1 c1) (.slice p2 m2 c2) (.slice p3 m3 c3)) := ⟨grown_trans g2 gV, grown_trans HG1.out (grown_trans g2 gV), grown_keep (grown_trans g2 gV) HH.out (by simp), grown_keep (grown_trans g2 gV) HR.out (by simp), by rw [hV]; exact alloc_at _ _ _⟩
  have H2 : Hid (∀ R, r = 0 → tabR n cd ts F = some R → .pointer a = Value.pointer ba ∧ .slice p1 m1 c1 = Value.slice pt ts.length ct ∧ .slice p2 m2 c2 = Value.slice pf F.length cf ∧ DOwn V W1.heap.size (.slice p3 m3 c3) (swL R F)) := fun R x y => by
    obtain ⟨k1, k2, k3, k4⟩ := h2 R x y
    exact ⟨k1, k2, k3, own_grow k4 gV⟩
  clear CL g2 h2 hq gV
  go_upto_region 2 with fail
  rw [← hV]
  obtain ⟨n2, hn2⟩ : ∃ n2, n2 = w2.heap.size := ⟨_, rfl⟩
  rw [← hn2] at HV ⊢
  clear hV hn2
  obtain ⟨r0, r1, r2, r3⟩ := scn_box HV.out.2.2.2.1
  have rf := fun i => block_free HV.out.2.2.2.1 i
  by_cases hq0 : q = 0
  case neg =>
    have k0 : (q != 0) = true := by simpa using hq0
    have HE : Hid (laE r n cd ts F h = q ∧ q ≠ 0) := ⟨by unfold laE; rw [← Hq.out, if_neg hq0], hq0⟩
    clear hq0
    go_wp2_with fail
    refine bodyPost_ret (v := .tuple #[.agg #[.pointer none, .slice none 0 0, .slice none 0 0, .slice none 0 0], .int .i64 q]) (by simp [results, Tryz.results63, go_sem, r0, r1, r2, r3]) rfl (LaPost.no HE.out.1 HE.out.2 ?_)
    exact grown_set4 HV.out.2.1 Hn1.out.1 _ _ _ _
  have k0 : (q != 0) = false := by simpa using hq0
  obtain ⟨hr, R, hR, hT⟩ := bg_tab (Hq.out.symm.trans hq0)
  obtain ⟨k1, k2, k3, k4⟩ := H2.out R hr hR
  have HT : Hid (tabR n cd ts F = some R ∧ DOwn V W1.heap.size (.slice p3 m3 c3) (swL R F) ∧ bgE r n cd ts F 1 = 0 ∧ W1.heap.size ≤ V.heap.size) := ⟨hR, k4, Hq.out.symm.trans hq0, HV.out.1.size⟩
  have CM := smayBe_any (.pointer a) (.slice p1 m1 c1) (.slice p2 m2 c2) (.slice p3 m3 c3) ts h V (by rw [k2]; exact HI.out.li.things.keep HV.out.1) (HI.out.li.book hr).2
  have HK : Hid (.pointer a = Value.pointer ba ∧ .slice p1 m1 c1 = Value.slice pt ts.length ct ∧ .slice p2 m2 c2 = Value.slice pf F.length cf) := ⟨k1, k2, k3⟩
  unfold scnv hpv at CM
  obtain ⟨s0, s1, s2, s3⟩ := scn_box HV.out.2.2.2.2
  obtain ⟨x0, x1, x2, x3, x4, x5⟩ := hp_box HV.out.2.2.1
  obtain ⟨b, hb⟩ : ∃ b, b = hpMay ts h := ⟨_, rfl⟩
  have Hb : Hid (b = hpMay ts h) := hb
  rw [← hb] at CM
  clear hq0 hr hR hT k1 k2 k3 k4 hb H2 r0 r1 r2 r3 rf
  go_wp2_with fail
  refine CM.mono ?_
  rintro e4 w4 ⟨rfl, g4⟩
  have H4 : Hid (w.grownBy w4 none ∧ ScnB w4 n1 (.pointer none) (.slice none 0 0) (.slice none 0 0) (.slice none 0 0) ∧ ScnB w4 n2 (.pointer a) (.slice p1 m1 c1) (.slice p2 m2 c2) (.slice p3 m3 c3) ∧ DOwn w4 W1.heap.size (.slice p3 m3 c3) (swL R F)) := ⟨grown_trans HV.out.2.1 g4, grown_keep g4 HV.out.2.2.2.1 (by simp), grown_keep g4 HV.out.2.2.2.2 (by simp), own_grow HT.out.2.1 g4⟩
  clear CM g4 s0 s1 s2 s3 x0 x1 x2 x3 x4 x5
  obtain ⟨s0, s1, s2, s3⟩ := scn_box H4.out.2.2.1
  obtain ⟨r0, r1, r2, r3⟩ := scn_box H4.out.2.1
  have rf := fun i => block_free H4.out.2.1 i
  cases b with
  | false =>
    have HE : Hid (laE r n cd ts F h = 2) := by show _ = _; unfold laE; rw [if_pos HT.out.2.2.1, ← Hb.out]; rfl
    go_wp2_with fail
    refine bodyPost_ret (v := .tuple #[.agg #[.pointer none, .slice none 0 0, .slice none 0 0, .slice none 0 0], .int .i64 2]) (by simp [results, Tryz.results63, go_sem, r0, r1, r2, r3]) rfl (LaPost.no HE.out (by decide) ?_)
    exact grown_set4 H4.out.1 Hn1.out.1 _ _ _ _
  | true =>
    have HE : Hid (laE r n cd ts F h = 0) := by show _ = _; unfold laE; rw [if_pos HT.out.2.2.1, ← Hb.out]; rfl
    go_wp2_with fail
    refine bodyPost_ret (v := .tuple #[.agg #[.pointer a, .slice p1 m1 c1, .slice p2 m2 c2, .slice p3 m3 c3], .int .i64 0]) (by simp [results, Tryz.results63, go_sem, r0, r1, r2, r3]) rfl ⟨a, p1, m1, c1, p2, m2, c2, p3, m3, c3, by rw [HE.out], ?_, fun R' _ hR' _ => ⟨HK.out.1, HK.out.2.1, HK.out.2.2, ?_⟩⟩
    · exact grown_set4 H4.out.1 Hn1.out.1 _ _ _ _
    · rw [HT.out.1] at hR'
      cases hR'
      exact own_big (own_tagged H4.out.2.2.2 (set4_some _ _ _ _ _ _) H4.out.2.1 (by decide)) HG1.out.size
set_option maxRecDepth 100000 in
set_option maxHeartbeats 4000000 in
theorem slist_any (bv vt vf : Value) (r n : Int) (cd : Int → Hd × List Pt) (ts : List Th) (F : List Fe) (w : World) (I : SIn w bv vt vf r n cd ts F) (hb : ∃ a, bv = .pointer a) : Calls Tryz.prog 10 #[bv, vt, vf] w fun e w' => ∃ v, e = .returned (.tuple #[v, .int .i64 (bgE r n cd ts F 1)]) ∧ DOwn w' w.heap.size v (swT r n cd ts F) ∧ w.grownBy w' none := by
  have CL := slook_any bv vt vf r n cd ts F w I hb
  obtain ⟨ba, rfl⟩ := hb
  obtain ⟨pt, ct, rfl⟩ := I.li.things.form
  obtain ⟨pf, cf, rfl⟩ := I.li.feats.form
  unfold SkPost at CL
  clear I
  go_enter Tryz.func10, Tryz.ntmps10
  go_wp2_with fail
  refine CL.mono ?_
  rintro e2 w2 ⟨a, p1, m1, c1, p2, m2, c2, p3, m3, c3, rfl, g2, h2⟩
  obtain ⟨q, hq⟩ : ∃ q, q = bgE r n cd ts F 1 := ⟨_, rfl⟩
  have Hq : Hid (q = bgE r n cd ts F 1) := hq
  rw [← hq]
  obtain ⟨V, hV⟩ : ∃ V, V = w2.alloc (.cells #[.pointer a, .slice p1 m1 c1, .slice p2 m2 c2, .slice p3 m3 c3] 136) := ⟨_, rfl⟩
  have gV : w2.grownBy V none := by rw [hV]; exact World.grownBy_alloc _ _ none
  have HV : Hid (w.grownBy V none ∧ ScnB V w2.heap.size (.pointer a) (.slice p1 m1 c1) (.slice p2 m2 c2) (.slice p3 m3 c3)) := ⟨grown_trans g2 gV, by rw [hV]; exact alloc_at _ _ _⟩
  have H2 : Hid (∀ R, r = 0 → tabR n cd ts F = some R → DOwn V w.heap.size (.slice p3 m3 c3) (swL R F)) := fun R x y => own_grow (h2 R x y).2.2.2 gV
  clear CL g2 h2 hq gV
  go_upto_region 2 with fail
  rw [← hV]
  obtain ⟨n2, hn2⟩ : ∃ n2, n2 = w2.heap.size := ⟨_, rfl⟩
  rw [← hn2] at HV ⊢
  clear hV hn2
  obtain ⟨s0, s1, s2, s3⟩ := scn_box HV.out.2
  by_cases hq0 : q = 0
  · have k0 : (q != 0) = false := by simpa using hq0
    obtain ⟨hr, R, hR, hT⟩ := bg_tab (Hq.out.symm.trans hq0)
    have HF : Hid (DOwn V w.heap.size (.slice p3 m3 c3) (swT r n cd ts F) ∧ q = 0) := ⟨by rw [swT_ok (Hq.out.symm.trans hq0) hR]; exact H2.out R hr hR, hq0⟩
    clear hq0 hr hR hT H2
    go_wp2_with fail
    refine bodyPost_ret (v := .tuple #[.slice p3 m3 c3, .int .i64 0]) (by simp [results, Tryz.results10, go_sem]) rfl ⟨_, by rw [← Hq.out, HF.out.2], HF.out.1, HV.out.1⟩
  · have k0 : (q != 0) = true := by simpa using hq0
    have HF : Hid (swT r n cd ts F = []) := swT_no (fun e => hq0 (Hq.out.trans e))
    clear hq0 H2
    go_wp2_with fail
    refine bodyPost_ret (v := .tuple #[.slice none 0 0, .int .i64 q]) (by simp [results, Tryz.results10, go_sem]) rfl ⟨_, by rw [← Hq.out], by rw [HF.out]; exact RecT.Own.nil _ _ _ _, HV.out.1⟩
end Go.Proofs.YthfjgpjcepmnmaaGreat
