/-
  Swaps: All.
  Swap's laws: a book and none as swap is asked of; a card.
-/
import Derived.Test.YthfjgpjcepmnmaaGreatSwO
import Derived.Test.YthfjgpjcepmnmaaGreatS16
import Derived.Test.YthfjgpjcepmnmaaGreatS25
namespace Go.Proofs.YthfjgpjcepmnmaaGreat
open Go.RowKit

def allT (r n : Int) (cd : Int → Hd × List Pt) (ts : List Th) (F : List Fe) (h : Hp) : Ss :=
  if ¬ laE r n cd ts F h = 0 then Ss.none
  else if noHarm h = true then Ss.none
  else if (decide (h.vb = 1) && shlB cd ts h.on) = true then ⟨Hp.none, [], 1, 0⟩
  else allS2 cd ts F (swT r n cd ts F) h (Ss.begin h)
theorem la_of {r n : Int} {cd : Int → Hd × List Pt} {ts : List Th} {F : List Fe} {h : Hp} (e : laE r n cd ts F h = 0) : bgE r n cd ts F 1 = 0 ∧ hpMay ts h = true := by
  unfold laE at e
  split at e
  · rename_i hb
    split at e
    · rename_i hm; exact ⟨hb, hm⟩
    · cases e
  · rename_i hb; exact absurd e hb
set_option maxRecDepth 100000 in
set_option maxHeartbeats 4000000 in
theorem sAll_any (bv vt vf : Value) (r n : Int) (cd : Int → Hd × List Pt) (ts : List Th) (F : List Fe) (h : Hp) (w : World) (I : SIn w bv vt vf r n cd ts F) (hb : ∃ a, bv = .pointer a) : Calls Tryz.prog 13 #[bv, vt, vf, hpv h] w fun e w' => ∃ p m c, e = .returned (.tuple #[swdv (allT r n cd ts F h).af (.slice p m c) (allT r n cd ts F h).go (allT r n cd ts F h).li, .int .i64 (laE r n cd ts F h)]) ∧ DOwn w' w.heap.size (.slice p m c) (allT r n cd ts F h).us ∧ w.grownBy w' none := by
  obtain ⟨ba, rfl⟩ := hb
  obtain ⟨pt, ct, rfl⟩ := I.li.things.form
  obtain ⟨pf, cf, rfl⟩ := I.li.feats.form
  obtain ⟨W0, hW0⟩ : ∃ W0, W0 = w.alloc (.cells #[.int .u8 h.vb, .int .i64 h.on, .int .i64 h.ct, .int .i64 h.ho, .bool h.vn, .bool h.dr] 43) := ⟨_, rfl⟩
  obtain ⟨W1, hW1⟩ : ∃ W1, W1 = W0.alloc (.cells #[.int .u8 0, .int .i64 0, .int .i64 0, .int .i64 0, .bool false, .bool false, .slice none 0 0, .int .i64 0, .int .i64 0] 45) := ⟨_, rfl⟩
  have g0 : w.grownBy W0 none := by rw [hW0]; exact World.grownBy_alloc _ _ none
  have g1 : W0.grownBy W1 none := by rw [hW1]; exact World.grownBy_alloc _ _ none
  have e0 : W0.heap.size = w.heap.size + 1 := by rw [hW0, World.size_alloc]
  have HG1 : Hid (w.grownBy W1 none) := grown_trans g0 g1
  have HH : Hid (HpB W1 w.heap.size h) := grown_keep g1 (by rw [hW0]; exact alloc_at w _ _) (by simp)
  have HR : Hid (SwB W1 (w.heap.size + 1) Hp.none (.slice none 0 0) 0 0) := by rw [← e0, hW1]; exact alloc_at _ _ _
  have HI : Hid (SIn W1 (.pointer ba) (.slice pt ts.length ct) (.slice pf F.length cf) r n cd ts F) := I.keep HG1.out
  have CL := slookAt_any (.pointer ba) _ _ r n cd ts F h W1 HI.out ⟨ba, rfl⟩
  unfold LaPost hpv at CL
  have CN := fun W => sisNoHarm_any h W
  unfold hpv at CN
  have hW1' : W1 = (w.alloc (.cells #[.int .u8 h.vb, .int .i64 h.on, .int .i64 h.ct, .int .i64 h.ho, .bool h.vn, .bool h.dr] 43)).alloc (.cells #[.int .u8 0, .int .i64 0, .int .i64 0, .int .i64 0, .bool false, .bool false, .slice none 0 0, .int .i64 0, .int .i64 0] 45) := by rw [hW1, hW0]
  unfold hpv
  clear I hW0 hW1 g0 g1 e0
  go_enter Tryz.func13, Tryz.ntmps13
  go_upto_region 1 with fail
  rw [← hW1']
  clear hW1'
  obtain ⟨n0, hn0⟩ : ∃ n0, n0 = w.heap.size := ⟨_, rfl⟩
  have Hn0 : Hid (w.heap.size ≤ n0) := by rw [hn0]; exact Nat.le_refl _
  simp only [← hn0] at HH HR ⊢
  obtain ⟨n1, hn1⟩ : ∃ n1, n1 = n0 + 1 := ⟨_, rfl⟩
  have Hn1 : Hid (w.heap.size ≤ n1 ∧ n0 ≠ n1) := ⟨by have := Hn0.out; omega, by omega⟩
  simp only [← hn1] at HR ⊢
  clear hn0 hn1
  obtain ⟨x0, x1, x2, x3, x4, x5⟩ := hp_box HH.out
  go_wp2_with fail
  refine CL.mono ?_
  rintro e2 w2 ⟨a, p1, m1, c1, p2, m2, c2, p3, m3, c3, rfl, g2, h2⟩
  obtain ⟨q, hq⟩ : ∃ q, q = laE r n cd ts F h := ⟨_, rfl⟩
  have Hq : Hid (q = laE r n cd ts F h) := hq
  rw [← hq]
  obtain ⟨V, hV⟩ : ∃ V, V = w2.alloc (.cells #[.pointer a, .slice p1 m1 c1, .slice p2 m2 c2, .slice p3 m3 c3] 136) := ⟨_, rfl⟩
  have gV : w2.grownBy V none := by rw [hV]; exact World.grownBy_alloc _ _ none
  have HV : Hid (W1.grownBy V none ∧ w.grownBy V none ∧ HpB V n0 h ∧ SwB V n1 Hp.none (.slice none 0 0) 0 0 ∧ ScnB V w2.heap.size (.pointer a) (.slice p1 m1 c1) (.slice p2 m2 c2) (.slice p3 m3 c3)) := ⟨grown_trans g2 gV, grown_trans HG1.out (grown_trans g2 gV), grown_keep (grown_trans g2 gV) HH.out (by simp), grown_keep (grown_trans g2 gV) HR.out (by simp), by rw [hV]; exact alloc_at _ _ _⟩
  have H2 : Hid (∀ R, r = 0 → tabR n cd ts F = some R → hpMay ts h = true → .pointer a = Value.pointer ba ∧ .slice p1 m1 c1 = Value.slice pt ts.length ct ∧ .slice p2 m2 c2 = Value.slice pf F.length cf ∧ DOwn V W1.heap.size (.slice p3 m3 c3) (swL R F)) := fun R x y z => by
    obtain ⟨k1, k2, k3, k4⟩ := h2 R x y z
    exact ⟨k1, k2, k3, own_grow k4 gV⟩
  clear CL g2 h2 hq gV x0 x1 x2 x3 x4 x5
  go_upto_region 2 with fail
  rw [← hV]
  obtain ⟨n2, hn2⟩ : ∃ n2, n2 = w2.heap.size := ⟨_, rfl⟩
  rw [← hn2] at HV ⊢
  clear hV hn2
  obtain ⟨x0, x1, x2, x3, x4, x5⟩ := hp_box HV.out.2.2.1
  by_cases hq0 : q = 0
  case neg =>
    have k0 : (q != 0) = true := by simpa using hq0
    have HE : Hid (allT r n cd ts F h = Ss.none) := by show _ = _; unfold allT; rw [if_pos (fun e => hq0 (Hq.out.trans e))]
    clear hq0 H2
    go_wp2_with (refine wpList_store_row rfl 45 (.tmp 8) (.tmp 23) rfl n1 (swa Hp.none (.slice none 0 0) 0 0) rfl rfl 45 _ HV.out.2.2.2.1 (by kernel_rfl) rfl (by simp [swa, Value.oneCell', Hp.none]) ?_)
    obtain ⟨Wr, hWr⟩ : ∃ Wr, Wr = V.setRow n1 (swa Hp.none (.slice none 0 0) 0 0) := ⟨_, rfl⟩
    have HWr : Hid (SwB Wr n1 Hp.none (.slice none 0 0) 0 0 ∧ V.grownBy Wr (some n1)) := ⟨by rw [hWr]; exact swa_row V n1 _ _ _ _ _ _ _ _ (HV.out.2.2.2.1), by rw [hWr]; exact grown_rowL _ _ _⟩
    rw [← hWr]
    clear hWr
    obtain ⟨r0, r1, r2, r3, r4, r5, r6, r7, r8⟩ := sw_box HWr.out.1
    refine bodyPost_ret (v := .tuple #[swdv Hp.none (.slice none 0 0) 0 0, .int .i64 q]) (by simp [results, Tryz.results13, go_sem, swdv, r0, r1, r2, r3, r4, r5, r6, r7, r8]) rfl ⟨none, 0, 0, by rw [HE.out, ← Hq.out]; rfl, by rw [HE.out]; exact RecT.Own.nil _ _ _ _, grown_own HV.out.2.1 HWr.out.2 (fun y e => by cases e; exact Hn1.out.1)⟩
  have k0 : (q != 0) = false := by simpa using hq0
  have hla := la_of (Hq.out.symm.trans hq0)
  obtain ⟨hr, R, hR, hT⟩ := bg_tab hla.1
  obtain ⟨k1, k2, k3, k4⟩ := H2.out R hr hR hla.2
  have HT : Hid (swT r n cd ts F = swL R F ∧ DOwn V W1.heap.size (.slice p3 m3 c3) (swL R F) ∧ laE r n cd ts F h = 0 ∧ hpMay ts h = true ∧ r = 0 ∧ Tab n cd ts F R ∧ q = 0) := ⟨swT_ok hla.1 hR, k4, Hq.out.symm.trans hq0, hla.2, hr, hT, hq0⟩
  have HN : Hid (∀ X, V.grownBy X none → NIn X (.pointer a) (.slice p1 m1 c1) (.slice p2 m2 c2) (.slice p3 m3 c3) n cd ts F (swL R F)) := fun X qx => by
    rw [k1, k2, k3]
    exact HI.out.scene hr hT (grown_trans HV.out.1 qx) (own_grow k4 qx)
  clear hq0 hla hr hR hT k1 k2 k3 k4 H2
  obtain ⟨b, hb⟩ : ∃ b, b = noHarm h := ⟨_, rfl⟩
  have Hb : Hid (b = noHarm h) := hb
  rw [← hb] at CN
  clear hb
  go_wp2_with fail
  refine (CN _).mono ?_
  rintro e4 w4 ⟨rfl, g4⟩
  have H4 : Hid (V.grownBy w4 none ∧ HpB w4 n0 h ∧ SwB w4 n1 Hp.none (.slice none 0 0) 0 0 ∧ ScnB w4 n2 (.pointer a) (.slice p1 m1 c1) (.slice p2 m2 c2) (.slice p3 m3 c3)) := ⟨g4, grown_keep g4 HV.out.2.2.1 (by simp), grown_keep g4 HV.out.2.2.2.1 (by simp), grown_keep g4 HV.out.2.2.2.2 (by simp)⟩
  clear CN g4 x0 x1 x2 x3 x4 x5
  cases b with
  | true =>
    have HE : Hid (allT r n cd ts F h = Ss.none) := by show _ = _; unfold allT; rw [if_neg (fun e => e HT.out.2.2.1), if_pos Hb.out.symm]
    go_wp2_with (refine wpList_store_row rfl 45 (.tmp 8) (.tmp 28) rfl n1 (swa Hp.none (.slice none 0 0) 0 0) rfl rfl 45 _ H4.out.2.2.1 (by kernel_rfl) rfl (by simp [swa, Value.oneCell', Hp.none]) ?_)
    obtain ⟨Wr, hWr⟩ : ∃ Wr, Wr = w4.setRow n1 (swa Hp.none (.slice none 0 0) 0 0) := ⟨_, rfl⟩
    have HWr : Hid (SwB Wr n1 Hp.none (.slice none 0 0) 0 0 ∧ w4.grownBy Wr (some n1)) := ⟨by rw [hWr]; exact swa_row w4 n1 _ _ _ _ _ _ _ _ (H4.out.2.2.1), by rw [hWr]; exact grown_rowL _ _ _⟩
    rw [← hWr]
    clear hWr
    obtain ⟨r0, r1, r2, r3, r4, r5, r6, r7, r8⟩ := sw_box HWr.out.1
    refine bodyPost_ret (v := .tuple #[swdv Hp.none (.slice none 0 0) 0 0, .int .i64 0]) (by simp [results, Tryz.results13, go_sem, swdv, r0, r1, r2, r3, r4, r5, r6, r7, r8]) rfl ⟨none, 0, 0, by rw [HE.out, HT.out.2.2.1]; rfl, by rw [HE.out]; exact RecT.Own.nil _ _ _ _, grown_own (grown_trans HV.out.2.1 H4.out.1) HWr.out.2 (fun y e => by cases e; exact Hn1.out.1)⟩
  | false =>
    have hnh : ¬ noHarm h = true := by rw [← Hb.out]; simp
    obtain ⟨u0, u1, u2, u3⟩ := scn_box H4.out.2.2.2
    obtain ⟨x0, x1, x2, x3, x4, x5⟩ := hp_box H4.out.2.1
    have hm2 := hpMay_on HT.out.2.2.2.1
    have CS : ∀ X, V.grownBy X none → Calls Tryz.prog 65 #[scnv (.pointer a) (.slice p1 m1 c1) (.slice p2 m2 c2) (.slice p3 m3 c3), .int .i64 h.on] X fun e w' => e = .returned (.bool (shlB cd ts h.on)) ∧ X.grownBy w' none := fun X qx => sisShielded_any _ _ _ _ n cd ts h.on X (HN.out X qx).at1 (HN.out X qx).card (HN.out X qx).few (HN.out X qx).be hm2.1
    have CA : ∀ X, V.grownBy X none → Calls Tryz.prog 66 #[scnv (.pointer a) (.slice p1 m1 c1) (.slice p2 m2 c2) (.slice p3 m3 c3), hpv h] X fun e w' => ∃ p m c, e = .returned (swdv (allS2 cd ts F (swL R F) h (Ss.begin h)).af (.slice p m c) (allS2 cd ts F (swL R F) h (Ss.begin h)).go (allS2 cd ts F (swL R F) h (Ss.begin h)).li) ∧ DOwn w' X.heap.size (.slice p m c) (allS2 cd ts F (swL R F) h (Ss.begin h)).us ∧ X.grownBy w' none := fun X qx => sall_any _ _ _ _ n cd ts F (swL R F) h X (HN.out X qx) HT.out.2.2.2.1 (sw_len HT.out.2.2.2.2.2.1 (HI.out.li.book HT.out.2.2.2.2.1).1.few) (fun s hs => (sw_mem HT.out.2.2.2.2.2.1 HI.out.good hs).2)
    unfold scnv at CS CA
    unfold hpv at CA
    have HE0 : Hid (¬ noHarm h = true) := hnh
    clear hnh hm2
    by_cases v1 : h.vb = 1
    · have Hv1 : Hid (h.vb = 1) := v1
      rw [v1] at x0
      have CS1 := CS w4 H4.out.1
      obtain ⟨s, hs⟩ : ∃ s, s = shlB cd ts h.on := ⟨_, rfl⟩
      have Hs : Hid (s = shlB cd ts h.on) := hs
      rw [← hs] at CS1
      clear v1 hs CS
      go_wp2_with fail
      refine CS1.mono ?_
      rintro e5 w5 ⟨rfl, g5⟩
      have H5 : Hid (V.grownBy w5 none ∧ HpB w5 n0 h ∧ SwB w5 n1 Hp.none (.slice none 0 0) 0 0 ∧ ScnB w5 n2 (.pointer a) (.slice p1 m1 c1) (.slice p2 m2 c2) (.slice p3 m3 c3)) := ⟨grown_trans H4.out.1 g5, grown_keep g5 H4.out.2.1 (by simp), grown_keep g5 H4.out.2.2.1 (by simp), grown_keep g5 H4.out.2.2.2 (by simp)⟩
      clear CS1 g5 x0 x1 x2 x3 x4 x5 u0 u1 u2 u3
      cases s with
      | true =>
        have HE : Hid (allT r n cd ts F h = ⟨Hp.none, [], 1, 0⟩) := by show _ = _; unfold allT; rw [if_neg (fun e => e HT.out.2.2.1), if_neg HE0.out, if_pos (by rw [decide_eq_true Hv1.out, ← Hs.out]; rfl)]
        go_wp2_with (refine wpList_store_row rfl 45 (.tmp 8) (.tmp 39) rfl n1 (swa Hp.none (.slice none 0 0) 1 0) rfl rfl 45 _ H5.out.2.2.1 (by kernel_rfl) rfl (by simp [swa, Value.oneCell', Hp.none]) ?_)
        obtain ⟨Wr, hWr⟩ : ∃ Wr, Wr = w5.setRow n1 (swa Hp.none (.slice none 0 0) 1 0) := ⟨_, rfl⟩
        have HWr : Hid (SwB Wr n1 Hp.none (.slice none 0 0) 1 0 ∧ w5.grownBy Wr (some n1)) := ⟨by rw [hWr]; exact swa_row w5 n1 _ _ _ _ _ _ _ _ (H5.out.2.2.1), by rw [hWr]; exact grown_rowL _ _ _⟩
        rw [← hWr]
        clear hWr
        obtain ⟨r0, r1, r2, r3, r4, r5, r6, r7, r8⟩ := sw_box HWr.out.1
        refine bodyPost_ret (v := .tuple #[swdv Hp.none (.slice none 0 0) 1 0, .int .i64 0]) (by simp [results, Tryz.results13, go_sem, swdv, r0, r1, r2, r3, r4, r5, r6, r7, r8]) rfl ⟨none, 0, 0, by rw [HE.out, HT.out.2.2.1], by rw [HE.out]; exact RecT.Own.nil _ _ _ _, grown_own (grown_trans HV.out.2.1 H5.out.1) HWr.out.2 (fun y e => by cases e; exact Hn1.out.1)⟩
      | false =>
        have HE : Hid (allT r n cd ts F h = allS2 cd ts F (swL R F) h (Ss.begin h)) := by show _ = _; unfold allT; rw [if_neg (fun e => e HT.out.2.2.1), if_neg HE0.out, if_neg (by rw [← Hs.out]; simp), HT.out.1]
        obtain ⟨u0, u1, u2, u3⟩ := scn_box H5.out.2.2.2
        obtain ⟨x0, x1, x2, x3, x4, x5⟩ := hp_box H5.out.2.1
        have CA1 := CA w5 H5.out.1
        have HW5 : Hid (SwB w5 n1 Hp.none (.slice none 0 0) 0 0 ∧ V.grownBy w5 none) := ⟨H5.out.2.2.1, H5.out.1⟩
        clear CA
        go_wp2_with fail
        refine CA1.mono ?_
        rintro e6 w6 ⟨p6, m6, c6, rfl, o6, g6⟩
        obtain ⟨X, hX⟩ : ∃ X, X = allS2 cd ts F (swL R F) h (Ss.begin h) := ⟨_, rfl⟩
        rw [← hX] at HE o6 ⊢
        have H6 : Hid (DOwn w6 W1.heap.size (.slice p6 m6 c6) X.us ∧ SwB w6 n1 Hp.none (.slice none 0 0) 0 0 ∧ w.grownBy w6 none) := ⟨own_big o6 (Nat.le_trans HV.out.1.size HW5.out.2.size), grown_keep g6 HW5.out.1 (by simp), grown_trans HV.out.2.1 (grown_trans HW5.out.2 g6)⟩
        clear CA1 o6 g6 hX x0 x1 x2 x3 x4 x5 u0 u1 u2 u3
        unfold swdv
        go_wp2_with (refine wpList_store_row rfl 45 (.tmp 8) (.tmp 42) rfl n1 (swa X.af (.slice p6 m6 c6) X.go X.li) rfl rfl 45 _ H6.out.2.1 (by kernel_rfl) rfl (by simp [swa, Value.oneCell']) ?_)
        obtain ⟨Wr, hWr⟩ : ∃ Wr, Wr = w6.setRow n1 (swa X.af (.slice p6 m6 c6) X.go X.li) := ⟨_, rfl⟩
        have HWr : Hid (SwB Wr n1 X.af (.slice p6 m6 c6) X.go X.li ∧ w6.grownBy Wr (some n1)) := ⟨by rw [hWr]; exact swa_row w6 n1 _ _ _ _ _ _ _ _ (H6.out.2.1), by rw [hWr]; exact grown_rowL _ _ _⟩
        rw [← hWr]
        clear hWr
        obtain ⟨r0, r1, r2, r3, r4, r5, r6, r7, r8⟩ := sw_box HWr.out.1
        refine bodyPost_ret (v := .tuple #[swdv X.af (.slice p6 m6 c6) X.go X.li, .int .i64 0]) (by simp [results, Tryz.results13, go_sem, swdv, r0, r1, r2, r3, r4, r5, r6, r7, r8]) rfl ⟨p6, m6, c6, by rw [HE.out, HT.out.2.2.1], ?_, grown_own H6.out.2.2 HWr.out.2 (fun y e => by cases e; exact Hn1.out.1)⟩
        rw [HE.out]
        exact own_big (own_tagged H6.out.1 HWr.out.2 H6.out.2.1 (by decide)) HG1.out.size
    · have k1 : (h.vb == 1) = false := by simpa using v1
      have HE : Hid (allT r n cd ts F h = allS2 cd ts F (swL R F) h (Ss.begin h)) := by show _ = _; unfold allT; rw [if_neg (fun e => e HT.out.2.2.1), if_neg HE0.out, if_neg (by rw [decide_eq_false v1]; simp), HT.out.1]
      have CA1 := CA w4 H4.out.1
      have HW5 : Hid (SwB w4 n1 Hp.none (.slice none 0 0) 0 0 ∧ V.grownBy w4 none) := ⟨H4.out.2.2.1, H4.out.1⟩
      clear CA CS v1
      go_wp2_with fail
      refine CA1.mono ?_
      rintro e6 w6 ⟨p6, m6, c6, rfl, o6, g6⟩
      obtain ⟨X, hX⟩ : ∃ X, X = allS2 cd ts F (swL R F) h (Ss.begin h) := ⟨_, rfl⟩
      rw [← hX] at HE o6 ⊢
      have H6 : Hid (DOwn w6 W1.heap.size (.slice p6 m6 c6) X.us ∧ SwB w6 n1 Hp.none (.slice none 0 0) 0 0 ∧ w.grownBy w6 none) := ⟨own_big o6 (Nat.le_trans HV.out.1.size HW5.out.2.size), grown_keep g6 HW5.out.1 (by simp), grown_trans HV.out.2.1 (grown_trans HW5.out.2 g6)⟩
      clear CA1 o6 g6 hX x0 x1 x2 x3 x4 x5 u0 u1 u2 u3
      unfold swdv
      go_wp2_with (refine wpList_store_row rfl 45 (.tmp 8) (.tmp 42) rfl n1 (swa X.af (.slice p6 m6 c6) X.go X.li) rfl rfl 45 _ H6.out.2.1 (by kernel_rfl) rfl (by simp [swa, Value.oneCell']) ?_)
      obtain ⟨Wr, hWr⟩ : ∃ Wr, Wr = w6.setRow n1 (swa X.af (.slice p6 m6 c6) X.go X.li) := ⟨_, rfl⟩
      have HWr : Hid (SwB Wr n1 X.af (.slice p6 m6 c6) X.go X.li ∧ w6.grownBy Wr (some n1)) := ⟨by rw [hWr]; exact swa_row w6 n1 _ _ _ _ _ _ _ _ (H6.out.2.1), by rw [hWr]; exact grown_rowL _ _ _⟩
      rw [← hWr]
      clear hWr
      obtain ⟨r0, r1, r2, r3, r4, r5, r6, r7, r8⟩ := sw_box HWr.out.1
      refine bodyPost_ret (v := .tuple #[swdv X.af (.slice p6 m6 c6) X.go X.li, .int .i64 0]) (by simp [results, Tryz.results13, go_sem, swdv, r0, r1, r2, r3, r4, r5, r6, r7, r8]) rfl ⟨p6, m6, c6, by rw [HE.out, HT.out.2.2.1], ?_, grown_own H6.out.2.2 HWr.out.2 (fun y e => by cases e; exact Hn1.out.1)⟩
      rw [HE.out]
      exact own_big (own_tagged H6.out.1 HWr.out.2 H6.out.2.1 (by decide)) HG1.out.size
end Go.Proofs.YthfjgpjcepmnmaaGreat
namespace Go.Proofs.YthfjgpjcepmnmaaGreat
open Go.RowKit Go.Shelf

theorem chk_swap {q : Pt} (h : chk q = 0) (hw : q.wn = 6) : 16 ≤ q.vb ∧ q.vb ≤ 19 ∧ (q.vb = 16 ∨ q.vb = 19 → 1 ≤ q.ct ∧ q.ct ≤ 99) := by
  unfold chk at h
  split at h
  · omega
  · split at h
    · omega
    · rename_i h1 h2
      split at h
      · omega
      · split at h
        · omega
        · rename_i h3 h4
          have e1 : cls q.vb = 3 := by
            rw [hw] at h2
            by_cases c : cls q.vb = wnt 6
            · rw [c]; rfl
            · exact absurd (Or.inl c) h2
          have e2 : 16 ≤ q.vb ∧ q.vb ≤ 19 := by
            unfold cls at e1
            repeat' split at e1
            all_goals omega
          refine ⟨e2.1, e2.2, fun hv => ?_⟩
          have e3 : cfit q.vb q.ct = true := by
            cases hc : cfit q.vb q.ct
            · exact absurd (Or.inl hc) h4
            · rfl
          unfold cfit at e3
          rcases hv with hv | hv <;> rw [hv] at e3 <;> by_cases h0 : q.ct = 0
          · rw [if_pos h0] at e3; exact absurd e3 (by decide)
          · rw [if_neg h0, Bool.and_eq_true, decide_eq_true_eq, decide_eq_true_eq] at e3; exact e3
          · rw [if_pos h0] at e3; exact absurd e3 (by decide)
          · rw [if_neg h0, Bool.and_eq_true, decide_eq_true_eq, decide_eq_true_eq] at e3; exact e3
theorem chk_of {c : Cd} (h : cchk c = 0) : chkPs c.kd c.ps = 0 := by
  unfold cchk at h
  repeat' split at h
  all_goals first | omega | exact h
theorem swGood_at {ok : Nat → Prop} {w : World} {b : Nat} {es : List Ent} {p : Pl} (B : Book ok w b es p) : SwGood (atC p es) := fun c q hq hw => by
  unfold atC at hq
  split at hq
  · split at hq
    · rename_i e he
      exact chk_swap (chkPs_all _ _ (chk_of (B.may e (List.mem_of_getElem? he))) q hq) hw
    · simp at hq
  · simp at hq
theorem swGood_no : SwGood (fun _ => (Hd.none, [])) := fun _ q hq => by simp at hq
theorem SIn.of {ok : Nat → Prop} {w : World} {b : Nat} {es : List Ent} {p : Pl} {vt vf : Value} {ts : List Th} {fs : List Fe} (B : Book ok w b es p) (T : thR.At w vt ts) (F : feR.At w vf fs) (hf : fs.length ≤ 4096) : SIn w (.pointer (some ⟨b, 0, none⟩)) vt vf (refE p ts.length) (es.length : Int) (atC p es) ts fs := ⟨LIn.of B T F hf, fun hr X t g h1 h2 => by
  have hs : p.shut = true := by
    unfold refE at hr
    repeat' split at hr
    all_goals first | assumption | omega
  have h := tcard_book ok b es p t X (B.keep g)
  rwa [show atX p es t.card = 0 from if_pos ⟨hs, h1, h2⟩] at h, swGood_at B⟩
theorem SIn.no {w : World} {v vt vf : Value} {ts : List Th} {fs : List Fe} (B : NoBk w v) (T : thR.At w vt ts) (F : feR.At w vf fs) : SIn w v vt vf 1 0 (fun _ => (Hd.none, [])) ts fs := ⟨LIn.no B T F, fun h => by omega, swGood_no⟩
def crd (nm : ByteArray) (su kd he : Int) : Hd := ⟨nm, su, kd, 0, 0, he, 0, false⟩
set_option maxRecDepth 100000 in
set_option maxHeartbeats 4000000 in
theorem xcard_any (nm : ByteArray) (su kd he : Int) (pa : Option Addr) (pn pc : Nat) (w : World) : Calls Tryz.prog 60 #[.string nm, .int .u8 su, .int .u8 kd, .int .i64 he, .slice pa pn pc] w fun e w' => e = .returned (cv (crd nm su kd he) (.slice pa pn pc)) ∧ w.grownBy w' none := by
  obtain ⟨W1, hW1⟩ : ∃ W1, W1 = w.alloc (.cells #[.string ⟨#[]⟩, .int .u8 0, .int .u8 0, .int .i64 0, .int .i64 0, .int .i64 0, .int .u16 0, .bool false, .slice none 0 0] 54) := ⟨_, rfl⟩
  have HG1 : Hid (w.grownBy W1 none) := by rw [hW1]; exact World.grownBy_alloc _ _ none
  have HR1 : Hid (W1.heap[w.heap.size]? = some (.cells #[.string ⟨#[]⟩, .int .u8 0, .int .u8 0, .int .i64 0, .int .i64 0, .int .i64 0, .int .u16 0, .bool false, .slice none 0 0] 54 (0, 0))) := by rw [hW1]; exact alloc_at _ _ _
  unfold cv crd
  go_enter Tryz.func60, Tryz.ntmps60
  go_upto_region 1 with fail
  rw [← hW1]
  clear hW1
  obtain ⟨n0, hn0⟩ : ∃ n0, n0 = w.heap.size := ⟨_, rfl⟩
  have Hn0 : Hid (w.heap.size ≤ n0) := by show _ ≤ _; omega
  simp only [← hn0] at HR1 ⊢
  clear hn0
  have rf := fun i => block_free HR1.out i
  have r0 : W1.cell? ⟨n0, 0, none⟩ = some (.string ⟨#[]⟩) := (block_cell HR1.out 0).trans rfl
  have r1 : W1.cell? ⟨n0, 1, none⟩ = some (.int .u8 0) := (block_cell HR1.out 1).trans rfl
  have r2 : W1.cell? ⟨n0, 2, none⟩ = some (.int .u8 0) := (block_cell HR1.out 2).trans rfl
  have r3 : W1.cell? ⟨n0, 3, none⟩ = some (.int .i64 0) := (block_cell HR1.out 3).trans rfl
  have r4 : W1.cell? ⟨n0, 4, none⟩ = some (.int .i64 0) := (block_cell HR1.out 4).trans rfl
  have r5 : W1.cell? ⟨n0, 5, none⟩ = some (.int .i64 0) := (block_cell HR1.out 5).trans rfl
  have r6 : W1.cell? ⟨n0, 6, none⟩ = some (.int .u16 0) := (block_cell HR1.out 6).trans rfl
  have r7 : W1.cell? ⟨n0, 7, none⟩ = some (.bool false) := (block_cell HR1.out 7).trans rfl
  have r8 : W1.cell? ⟨n0, 8, none⟩ = some (.slice none 0 0) := (block_cell HR1.out 8).trans rfl
  go_wp2_with fail
  refine bodyPost_ret (v := .agg #[.string nm, .int .u8 su, .int .u8 kd, .int .i64 0, .int .i64 0, .int .i64 he, .int .u16 0, .bool false, .slice pa pn pc]) (by simp [results, Tryz.results60, go_sem, r0, r1, r2, r3, r4, r5, r6, r7, r8]) rfl ⟨rfl, ?_⟩
  have k : ∀ {v : World} (i : Nat) (u : Value), w.grownBy v none → w.grownBy (v.setCell ⟨n0, i, none⟩ u) none := fun i u q => grown_own q (grown_set _ _ _ _) (fun y e => by cases e; exact Hn0.out)
  exact k _ _ (k _ _ (k _ _ (k _ _ (k _ _ (k _ _ (k _ _ (k _ _ (k _ _ HG1.out))))))))
end Go.Proofs.YthfjgpjcepmnmaaGreat
