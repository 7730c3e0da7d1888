/-
  EffectBack, walked: there and back.
-/
import Derived.Test.YthpoejgmofppbaaGreatDoorLives
namespace Go.Proofs.YthpoejgmofppbaaGreatDoor
open Go.RowKit

theorem prB_size {p : Pt} (h : chk p = 0) : (prB p).size ≤ 80 := by
  have := prt_len (may_of h)
  unfold prB
  rw [if_pos h]
  show (prt p).toArray.size ≤ 80
  simpa using this
theorem prB_data {p : Pt} (h : chk p = 0) : (prB p).data.toList = prt p := by
  unfold prB
  rw [if_pos h]
theorem prB_back {p : Pt} (h : chk p = 0) : parse (prB p).data.toList = (p, 0) := by rw [prB_data h]; exact parse_prt h
theorem prB_same {p q : Pt} (hp : chk p = 0) (hq : chk q = 0) : ((prB q).toList == (prB p).toList) = samep p q := by
  rw [Lib.toList_data, Lib.toList_data, prB_data hp, prB_data hq]
  by_cases h : p = q
  · rw [samep_yes h, h]; simp
  · rw [samep_no h]
    simp only [beq_eq_false_iff_ne, ne_eq]
    exact fun e => h (prt_inj hq hp e).symm
theorem same_self (p : Pt) : samep p p = true := samep_yes rfl
/-- The two parts of the law, in their boxes. -/
structure TwoAt (w W : World) (p q : Pt) : Prop where
  a : PAt W w.heap.size p
  b : PAt W (w.heap.size + 1) q
  g : w.grownBy W none
  l : LaidAt W
theorem TwoAt.keep {w W W' : World} {p q : Pt} (h : TwoAt w W p q) (k : W.grownBy W' none) : TwoAt w W' p q := ⟨h.a.keep k, h.b.keep k, grown_trans h.g k, h.l.keep k⟩
theorem two_start (w : World) (p q : Pt) (L : LaidAt w) : TwoAt w ((w.alloc (.cells #[.int .u8 p.wn, .int .u8 p.vb, .int .u8 p.wm, .int .i64 p.ct, .int .u8 p.su, .int .u8 p.tr, .int .u8 p.mr, .string p.nm] 30)).alloc (.cells #[.int .u8 q.wn, .int .u8 q.vb, .int .u8 q.wm, .int .i64 q.ct, .int .u8 q.su, .int .u8 q.tr, .int .u8 q.mr, .string q.nm] 30)) p q := by
  have g : w.grownBy ((w.alloc (.cells #[.int .u8 p.wn, .int .u8 p.vb, .int .u8 p.wm, .int .i64 p.ct, .int .u8 p.su, .int .u8 p.tr, .int .u8 p.mr, .string p.nm] 30)).alloc (.cells #[.int .u8 q.wn, .int .u8 q.vb, .int .u8 q.wm, .int .i64 q.ct, .int .u8 q.su, .int .u8 q.tr, .int .u8 q.mr, .string q.nm] 30)) none := grown_push (World.grownBy_alloc _ _ _) _
  refine ⟨(PAt.new w p).keep (World.grownBy_alloc _ _ none), ?_, g, L.keep g⟩
  have := alloc_at (w.alloc (.cells #[.int .u8 p.wn, .int .u8 p.vb, .int .u8 p.wm, .int .i64 p.ct, .int .u8 p.su, .int .u8 p.tr, .int .u8 p.mr, .string p.nm] 30)) #[.int .u8 q.wn, .int .u8 q.vb, .int .u8 q.wm, .int .i64 q.ct, .int .u8 q.su, .int .u8 q.tr, .int .u8 q.mr, .string q.nm] 30
  rw [World.size_alloc] at this
  exact this
set_option maxHeartbeats 8000000 in
set_option maxRecDepth 100000 in
theorem back_a (p q : Pt) (s : ByteArray) (hp : ¬ chk p = 0) (hs : (parse s.data.toList).2 = 0) (w : World) (L : LaidAt w) : Calls Tryz.prog 7 #[pv p, pv q, .string s] w fun e w' => e = .returned (.bool true) ∧ w.grownBy w' none := by
  have HT : Hid (TwoAt w ((w.alloc (.cells #[.int .u8 p.wn, .int .u8 p.vb, .int .u8 p.wm, .int .i64 p.ct, .int .u8 p.su, .int .u8 p.tr, .int .u8 p.mr, .string p.nm] 30)).alloc (.cells #[.int .u8 q.wn, .int .u8 q.vb, .int .u8 q.wm, .int .i64 q.ct, .int .u8 q.su, .int .u8 q.tr, .int .u8 q.mr, .string q.nm] 30)) p q) := two_start w p q L
  have he := eql_part
  have hne := neq_part
  have hg := eqg_part
  have hss := same_self
  clear L
  unfold pv
  go_enter Tryz.func7, Tryz.ntmps7
  go_wp2_with fail
  refine (print_any p _ HT.out.l).mono ?_
  rintro e w1 ⟨rfl, g1⟩
  have T1 : Hid (TwoAt w w1 p q) := HT.out.keep g1
  clear HT g1
  obtain ⟨c1, hc1⟩ : ∃ c1, c1 = chk p := ⟨_, rfl⟩
  rw [← hc1] at hp ⊢
  have hpb : (c1 == 0) = false := by simpa using hp
  obtain ⟨t, ht⟩ : ∃ t, t = prB p := ⟨_, rfl⟩
  rw [← ht]
  clear hp hc1 ht
  go_wp2_with fail
  refine (parse_any s _ T1.out.l).mono ?_
  rintro e w8 ⟨rfl, g8⟩
  have T8 : Hid (TwoAt w w8 p q) := T1.out.keep g8
  clear T1 g8
  have hz : (parse s.data.toList).2 = 0 := hs
  obtain ⟨r, hr⟩ : ∃ r, r = (parse s.data.toList).1 := ⟨_, rfl⟩
  have hrc : chk r = 0 := by rw [hr]; exact (parse_yes hz).1
  have hrs : (prB r).toList = s.toList := by rw [Lib.toList_data, Lib.toList_data, prB_data hrc, hr]; exact (parse_yes hz).2
  rw [show parse s.data.toList = (r, 0) from Prod.ext hr.symm hz]
  have HRC : Hid (chk r = 0) := hrc
  have hrb : ((prB r).toList == s.toList) = true := by rw [hrs]; simp
  clear hz hr hrc hrs hs
  simp only [pe, pv]
  have T9 : Hid (TwoAt w (w8.alloc (.cells #[.int .u8 r.wn, .int .u8 r.vb, .int .u8 r.wm, .int .i64 r.ct, .int .u8 r.su, .int .u8 r.tr, .int .u8 r.mr, .string r.nm] 30)) p q) := T8.out.keep (World.grownBy_alloc _ _ _)
  go_wp2_with fail
  refine (print_any r _ T9.out.l).mono ?_
  rintro e w9 ⟨rfl, g9⟩
  rw [HRC.out]
  have TA : Hid (TwoAt w w9 p q) := T9.out.keep g9
  obtain ⟨t9, ht9⟩ : ∃ t9, t9 = prB r := ⟨_, rfl⟩
  rw [← ht9] at hrb ⊢
  clear T9 g9 T8 HRC ht9
  go_wp2_with fail
  refine (lives_any _ TA.out.l).mono ?_
  rintro e w10 ⟨rfl, g10⟩
  go_wp2
  go_ret
  exact ⟨rfl, grown_trans TA.out.g g10⟩
set_option maxHeartbeats 8000000 in
set_option maxRecDepth 100000 in
theorem back_b (p q : Pt) (s : ByteArray) (hp : ¬ chk p = 0) (hs : ¬ (parse s.data.toList).2 = 0) (w : World) (L : LaidAt w) : Calls Tryz.prog 7 #[pv p, pv q, .string s] w fun e w' => e = .returned (.bool true) ∧ w.grownBy w' none := by
  have HT : Hid (TwoAt w ((w.alloc (.cells #[.int .u8 p.wn, .int .u8 p.vb, .int .u8 p.wm, .int .i64 p.ct, .int .u8 p.su, .int .u8 p.tr, .int .u8 p.mr, .string p.nm] 30)).alloc (.cells #[.int .u8 q.wn, .int .u8 q.vb, .int .u8 q.wm, .int .i64 q.ct, .int .u8 q.su, .int .u8 q.tr, .int .u8 q.mr, .string q.nm] 30)) p q) := two_start w p q L
  have he := eql_part
  have hne := neq_part
  have hg := eqg_part
  have hss := same_self
  clear L
  unfold pv
  go_enter Tryz.func7, Tryz.ntmps7
  go_wp2_with fail
  refine (print_any p _ HT.out.l).mono ?_
  rintro e w1 ⟨rfl, g1⟩
  have T1 : Hid (TwoAt w w1 p q) := HT.out.keep g1
  clear HT g1
  obtain ⟨c1, hc1⟩ : ∃ c1, c1 = chk p := ⟨_, rfl⟩
  rw [← hc1] at hp ⊢
  have hpb : (c1 == 0) = false := by simpa using hp
  obtain ⟨t, ht⟩ : ∃ t, t = prB p := ⟨_, rfl⟩
  rw [← ht]
  clear hp hc1 ht
  go_wp2_with fail
  refine (parse_any s _ T1.out.l).mono ?_
  rintro e w8 ⟨rfl, g8⟩
  have T8 : Hid (TwoAt w w8 p q) := T1.out.keep g8
  clear T1 g8
  have hz : ¬ (parse s.data.toList).2 = 0 := hs
  obtain ⟨c, hc⟩ : ∃ c, c = (parse s.data.toList).2 := ⟨_, rfl⟩
  rw [show parse s.data.toList = (Pt.none, c) from Prod.ext (parse_no hz) hc.symm]
  rw [← hc] at hz
  have hcn : (c != 0) = true := by simpa using hz
  have hcb : (c == 0) = false := by simpa using hz
  clear hz hc hs
  simp only [pe, pv, Pt.none]
  have T9 : Hid (TwoAt w (w8.alloc (.cells #[.int .u8 0, .int .u8 0, .int .u8 0, .int .i64 0, .int .u8 0, .int .u8 0, .int .u8 0, .string ⟨#[]⟩] 30)) p q) := T8.out.keep (World.grownBy_alloc _ _ _)
  go_wp2_with fail
  refine (lives_any _ T9.out.l).mono ?_
  rintro e w10 ⟨rfl, g10⟩
  go_wp2
  go_ret
  exact ⟨rfl, grown_trans T9.out.g g10⟩
set_option maxHeartbeats 8000000 in
set_option maxRecDepth 100000 in
theorem back_c (p q : Pt) (s : ByteArray) (hp : chk p = 0) (hq : ¬ chk q = 0) (hs : (parse s.data.toList).2 = 0) (w : World) (L : LaidAt w) : Calls Tryz.prog 7 #[pv p, pv q, .string s] w fun e w' => e = .returned (.bool true) ∧ w.grownBy w' none := by
  have HT : Hid (TwoAt w ((w.alloc (.cells #[.int .u8 p.wn, .int .u8 p.vb, .int .u8 p.wm, .int .i64 p.ct, .int .u8 p.su, .int .u8 p.tr, .int .u8 p.mr, .string p.nm] 30)).alloc (.cells #[.int .u8 q.wn, .int .u8 q.vb, .int .u8 q.wm, .int .i64 q.ct, .int .u8 q.su, .int .u8 q.tr, .int .u8 q.mr, .string q.nm] 30)) p q) := two_start w p q L
  have he := eql_part
  have hne := neq_part
  have hg := eqg_part
  have hss := same_self
  clear L
  unfold pv
  go_enter Tryz.func7, Tryz.ntmps7
  go_wp2_with fail
  refine (print_any p _ HT.out.l).mono ?_
  rintro e w1 ⟨rfl, g1⟩
  have T1 : Hid (TwoAt w w1 p q) := HT.out.keep g1
  clear HT g1
  rw [hp]
  obtain ⟨t, ht⟩ : ∃ t, t = prB p := ⟨_, rfl⟩
  have ht80 : ¬ (80 : Int) < (t.size : Int) := by have := prB_size hp; rw [← ht] at this; omega
  have htb : parse t.data.toList = (p, 0) := by rw [ht]; exact prB_back hp
  have HTE : Hid (t = prB p) := ht
  rw [← ht]
  clear ht
  have HP : Hid (chk p = 0) := hp
  clear hp
  go_wp2_with fail
  refine (parse_any t _ T1.out.l).mono ?_
  rintro e w2 ⟨rfl, g2⟩
  rw [htb]
  have T2 : Hid (TwoAt w w2 p q) := T1.out.keep g2
  clear T1 g2 htb
  simp only [pe, pv]
  obtain ⟨c0, c1, c2, c3, c4, c5, c6, c7⟩ := (T2.out.keep (World.grownBy_alloc w2 (.cells #[.int .u8 p.wn, .int .u8 p.vb, .int .u8 p.wm, .int .i64 p.ct, .int .u8 p.su, .int .u8 p.tr, .int .u8 p.mr, .string p.nm] 30) none)).a.cells
  have HC : Hid (Calls Tryz.prog 10 #[.agg #[.int .u8 p.wn, .int .u8 p.vb, .int .u8 p.wm, .int .i64 p.ct, .int .u8 p.su, .int .u8 p.tr, .int .u8 p.mr, .string p.nm]] (w2.alloc (.cells #[.int .u8 p.wn, .int .u8 p.vb, .int .u8 p.wm, .int .i64 p.ct, .int .u8 p.su, .int .u8 p.tr, .int .u8 p.mr, .string p.nm] 30)) fun e w' => e = .returned (.int .i64 (chk p)) ∧ (w2.alloc (.cells #[.int .u8 p.wn, .int .u8 p.vb, .int .u8 p.wm, .int .i64 p.ct, .int .u8 p.su, .int .u8 p.tr, .int .u8 p.mr, .string p.nm] 30)).grownBy w' none) := check_any p _
  go_wp2_with fail
  refine HC.out.mono ?_
  rintro e w3 ⟨rfl, g3⟩
  rw [HP.out]
  have T3 : Hid (TwoAt w w3 p q) := (T2.out.keep (World.grownBy_alloc w2 (.cells #[.int .u8 p.wn, .int .u8 p.vb, .int .u8 p.wm, .int .i64 p.ct, .int .u8 p.su, .int .u8 p.tr, .int .u8 p.mr, .string p.nm] 30) none)).keep g3
  clear c0 c1 c2 c3 c4 c5 c6 c7 T2 g3 HC
  obtain ⟨d0, d1, d2, d3, d4, d5, d6, d7⟩ := T3.out.b.cells
  go_wp2_with fail
  refine (print_any q _ T3.out.l).mono ?_
  rintro e w4 ⟨rfl, g4⟩
  have T4 : Hid (TwoAt w w4 p q) := T3.out.keep g4
  clear d0 d1 d2 d3 d4 d5 d6 d7 T3 g4
  obtain ⟨cq, hcq⟩ : ∃ cq, cq = chk q := ⟨_, rfl⟩
  rw [← hcq] at hq ⊢
  have hqb : (cq == 0) = false := by simpa using hq
  obtain ⟨u, hu⟩ : ∃ u, u = prB q := ⟨_, rfl⟩
  rw [← hu]
  clear hq hcq hu HTE HP
  go_wp2_with fail
  refine (parse_any s _ T4.out.l).mono ?_
  rintro e w8 ⟨rfl, g8⟩
  have T8 : Hid (TwoAt w w8 p q) := T4.out.keep g8
  clear T4 g8
  have hz : (parse s.data.toList).2 = 0 := hs
  obtain ⟨r, hr⟩ : ∃ r, r = (parse s.data.toList).1 := ⟨_, rfl⟩
  have hrc : chk r = 0 := by rw [hr]; exact (parse_yes hz).1
  have hrs : (prB r).toList = s.toList := by rw [Lib.toList_data, Lib.toList_data, prB_data hrc, hr]; exact (parse_yes hz).2
  rw [show parse s.data.toList = (r, 0) from Prod.ext hr.symm hz]
  have HRC : Hid (chk r = 0) := hrc
  have hrb : ((prB r).toList == s.toList) = true := by rw [hrs]; simp
  clear hz hr hrc hrs hs
  simp only [pe, pv]
  have T9 : Hid (TwoAt w (w8.alloc (.cells #[.int .u8 r.wn, .int .u8 r.vb, .int .u8 r.wm, .int .i64 r.ct, .int .u8 r.su, .int .u8 r.tr, .int .u8 r.mr, .string r.nm] 30)) p q) := T8.out.keep (World.grownBy_alloc _ _ _)
  go_wp2_with fail
  refine (print_any r _ T9.out.l).mono ?_
  rintro e w9 ⟨rfl, g9⟩
  rw [HRC.out]
  have TA : Hid (TwoAt w w9 p q) := T9.out.keep g9
  obtain ⟨t9, ht9⟩ : ∃ t9, t9 = prB r := ⟨_, rfl⟩
  rw [← ht9] at hrb ⊢
  clear T9 g9 T8 HRC ht9
  go_wp2_with fail
  refine (lives_any _ TA.out.l).mono ?_
  rintro e w10 ⟨rfl, g10⟩
  go_wp2
  go_ret
  exact ⟨rfl, grown_trans TA.out.g g10⟩
set_option maxHeartbeats 8000000 in
set_option maxRecDepth 100000 in
theorem back_d (p q : Pt) (s : ByteArray) (hp : chk p = 0) (hq : ¬ chk q = 0) (hs : ¬ (parse s.data.toList).2 = 0) (w : World) (L : LaidAt w) : Calls Tryz.prog 7 #[pv p, pv q, .string s] w fun e w' => e = .returned (.bool true) ∧ w.grownBy w' none := by
  have HT : Hid (TwoAt w ((w.alloc (.cells #[.int .u8 p.wn, .int .u8 p.vb, .int .u8 p.wm, .int .i64 p.ct, .int .u8 p.su, .int .u8 p.tr, .int .u8 p.mr, .string p.nm] 30)).alloc (.cells #[.int .u8 q.wn, .int .u8 q.vb, .int .u8 q.wm, .int .i64 q.ct, .int .u8 q.su, .int .u8 q.tr, .int .u8 q.mr, .string q.nm] 30)) p q) := two_start w p q L
  have he := eql_part
  have hne := neq_part
  have hg := eqg_part
  have hss := same_self
  clear L
  unfold pv
  go_enter Tryz.func7, Tryz.ntmps7
  go_wp2_with fail
  refine (print_any p _ HT.out.l).mono ?_
  rintro e w1 ⟨rfl, g1⟩
  have T1 : Hid (TwoAt w w1 p q) := HT.out.keep g1
  clear HT g1
  rw [hp]
  obtain ⟨t, ht⟩ : ∃ t, t = prB p := ⟨_, rfl⟩
  have ht80 : ¬ (80 : Int) < (t.size : Int) := by have := prB_size hp; rw [← ht] at this; omega
  have htb : parse t.data.toList = (p, 0) := by rw [ht]; exact prB_back hp
  have HTE : Hid (t = prB p) := ht
  rw [← ht]
  clear ht
  have HP : Hid (chk p = 0) := hp
  clear hp
  go_wp2_with fail
  refine (parse_any t _ T1.out.l).mono ?_
  rintro e w2 ⟨rfl, g2⟩
  rw [htb]
  have T2 : Hid (TwoAt w w2 p q) := T1.out.keep g2
  clear T1 g2 htb
  simp only [pe, pv]
  obtain ⟨c0, c1, c2, c3, c4, c5, c6, c7⟩ := (T2.out.keep (World.grownBy_alloc w2 (.cells #[.int .u8 p.wn, .int .u8 p.vb, .int .u8 p.wm, .int .i64 p.ct, .int .u8 p.su, .int .u8 p.tr, .int .u8 p.mr, .string p.nm] 30) none)).a.cells
  have HC : Hid (Calls Tryz.prog 10 #[.agg #[.int .u8 p.wn, .int .u8 p.vb, .int .u8 p.wm, .int .i64 p.ct, .int .u8 p.su, .int .u8 p.tr, .int .u8 p.mr, .string p.nm]] (w2.alloc (.cells #[.int .u8 p.wn, .int .u8 p.vb, .int .u8 p.wm, .int .i64 p.ct, .int .u8 p.su, .int .u8 p.tr, .int .u8 p.mr, .string p.nm] 30)) fun e w' => e = .returned (.int .i64 (chk p)) ∧ (w2.alloc (.cells #[.int .u8 p.wn, .int .u8 p.vb, .int .u8 p.wm, .int .i64 p.ct, .int .u8 p.su, .int .u8 p.tr, .int .u8 p.mr, .string p.nm] 30)).grownBy w' none) := check_any p _
  go_wp2_with fail
  refine HC.out.mono ?_
  rintro e w3 ⟨rfl, g3⟩
  rw [HP.out]
  have T3 : Hid (TwoAt w w3 p q) := (T2.out.keep (World.grownBy_alloc w2 (.cells #[.int .u8 p.wn, .int .u8 p.vb, .int .u8 p.wm, .int .i64 p.ct, .int .u8 p.su, .int .u8 p.tr, .int .u8 p.mr, .string p.nm] 30) none)).keep g3
  clear c0 c1 c2 c3 c4 c5 c6 c7 T2 g3 HC
  obtain ⟨d0, d1, d2, d3, d4, d5, d6, d7⟩ := T3.out.b.cells
  go_wp2_with fail
  refine (print_any q _ T3.out.l).mono ?_
  rintro e w4 ⟨rfl, g4⟩
  have T4 : Hid (TwoAt w w4 p q) := T3.out.keep g4
  clear d0 d1 d2 d3 d4 d5 d6 d7 T3 g4
  obtain ⟨cq, hcq⟩ : ∃ cq, cq = chk q := ⟨_, rfl⟩
  rw [← hcq] at hq ⊢
  have hqb : (cq == 0) = false := by simpa using hq
  obtain ⟨u, hu⟩ : ∃ u, u = prB q := ⟨_, rfl⟩
  rw [← hu]
  clear hq hcq hu HTE HP
  go_wp2_with fail
  refine (parse_any s _ T4.out.l).mono ?_
  rintro e w8 ⟨rfl, g8⟩
  have T8 : Hid (TwoAt w w8 p q) := T4.out.keep g8
  clear T4 g8
  have hz : ¬ (parse s.data.toList).2 = 0 := hs
  obtain ⟨c, hc⟩ : ∃ c, c = (parse s.data.toList).2 := ⟨_, rfl⟩
  rw [show parse s.data.toList = (Pt.none, c) from Prod.ext (parse_no hz) hc.symm]
  rw [← hc] at hz
  have hcn : (c != 0) = true := by simpa using hz
  have hcb : (c == 0) = false := by simpa using hz
  clear hz hc hs
  simp only [pe, pv, Pt.none]
  have T9 : Hid (TwoAt w (w8.alloc (.cells #[.int .u8 0, .int .u8 0, .int .u8 0, .int .i64 0, .int .u8 0, .int .u8 0, .int .u8 0, .string ⟨#[]⟩] 30)) p q) := T8.out.keep (World.grownBy_alloc _ _ _)
  go_wp2_with fail
  refine (lives_any _ T9.out.l).mono ?_
  rintro e w10 ⟨rfl, g10⟩
  go_wp2
  go_ret
  exact ⟨rfl, grown_trans T9.out.g g10⟩
set_option maxHeartbeats 8000000 in
set_option maxRecDepth 100000 in
theorem back_e (p q : Pt) (s : ByteArray) (hp : chk p = 0) (hq : chk q = 0) (hs : (parse s.data.toList).2 = 0) (w : World) (L : LaidAt w) : Calls Tryz.prog 7 #[pv p, pv q, .string s] w fun e w' => e = .returned (.bool true) ∧ w.grownBy w' none := by
  have HT : Hid (TwoAt w ((w.alloc (.cells #[.int .u8 p.wn, .int .u8 p.vb, .int .u8 p.wm, .int .i64 p.ct, .int .u8 p.su, .int .u8 p.tr, .int .u8 p.mr, .string p.nm] 30)).alloc (.cells #[.int .u8 q.wn, .int .u8 q.vb, .int .u8 q.wm, .int .i64 q.ct, .int .u8 q.su, .int .u8 q.tr, .int .u8 q.mr, .string q.nm] 30)) p q) := two_start w p q L
  have he := eql_part
  have hne := neq_part
  have hg := eqg_part
  have hss := same_self
  clear L
  unfold pv
  go_enter Tryz.func7, Tryz.ntmps7
  go_wp2_with fail
  refine (print_any p _ HT.out.l).mono ?_
  rintro e w1 ⟨rfl, g1⟩
  have T1 : Hid (TwoAt w w1 p q) := HT.out.keep g1
  clear HT g1
  rw [hp]
  obtain ⟨t, ht⟩ : ∃ t, t = prB p := ⟨_, rfl⟩
  have ht80 : ¬ (80 : Int) < (t.size : Int) := by have := prB_size hp; rw [← ht] at this; omega
  have htb : parse t.data.toList = (p, 0) := by rw [ht]; exact prB_back hp
  have HTE : Hid (t = prB p) := ht
  rw [← ht]
  clear ht
  have HP : Hid (chk p = 0) := hp
  clear hp
  go_wp2_with fail
  refine (parse_any t _ T1.out.l).mono ?_
  rintro e w2 ⟨rfl, g2⟩
  rw [htb]
  have T2 : Hid (TwoAt w w2 p q) := T1.out.keep g2
  clear T1 g2 htb
  simp only [pe, pv]
  obtain ⟨c0, c1, c2, c3, c4, c5, c6, c7⟩ := (T2.out.keep (World.grownBy_alloc w2 (.cells #[.int .u8 p.wn, .int .u8 p.vb, .int .u8 p.wm, .int .i64 p.ct, .int .u8 p.su, .int .u8 p.tr, .int .u8 p.mr, .string p.nm] 30) none)).a.cells
  have HC : Hid (Calls Tryz.prog 10 #[.agg #[.int .u8 p.wn, .int .u8 p.vb, .int .u8 p.wm, .int .i64 p.ct, .int .u8 p.su, .int .u8 p.tr, .int .u8 p.mr, .string p.nm]] (w2.alloc (.cells #[.int .u8 p.wn, .int .u8 p.vb, .int .u8 p.wm, .int .i64 p.ct, .int .u8 p.su, .int .u8 p.tr, .int .u8 p.mr, .string p.nm] 30)) fun e w' => e = .returned (.int .i64 (chk p)) ∧ (w2.alloc (.cells #[.int .u8 p.wn, .int .u8 p.vb, .int .u8 p.wm, .int .i64 p.ct, .int .u8 p.su, .int .u8 p.tr, .int .u8 p.mr, .string p.nm] 30)).grownBy w' none) := check_any p _
  go_wp2_with fail
  refine HC.out.mono ?_
  rintro e w3 ⟨rfl, g3⟩
  rw [HP.out]
  have T3 : Hid (TwoAt w w3 p q) := (T2.out.keep (World.grownBy_alloc w2 (.cells #[.int .u8 p.wn, .int .u8 p.vb, .int .u8 p.wm, .int .i64 p.ct, .int .u8 p.su, .int .u8 p.tr, .int .u8 p.mr, .string p.nm] 30) none)).keep g3
  clear c0 c1 c2 c3 c4 c5 c6 c7 T2 g3 HC
  obtain ⟨d0, d1, d2, d3, d4, d5, d6, d7⟩ := T3.out.b.cells
  go_wp2_with fail
  refine (print_any q _ T3.out.l).mono ?_
  rintro e w4 ⟨rfl, g4⟩
  have T4 : Hid (TwoAt w w4 p q) := T3.out.keep g4
  clear d0 d1 d2 d3 d4 d5 d6 d7 T3 g4
  have hut : ((prB q).toList == t.toList) = samep p q := by rw [HTE.out]; exact prB_same HP.out hq
  rw [hq]
  obtain ⟨u, hu⟩ : ∃ u, u = prB q := ⟨_, rfl⟩
  rw [← hu] at hut ⊢
  have hbn : (samep p q != samep p q) = false := by simp
  obtain ⟨d0, d1, d2, d3, d4, d5, d6, d7⟩ := T4.out.b.cells
  obtain ⟨c0, c1, c2, c3, c4, c5, c6, c7⟩ := T4.out.a.cells
  have hsam : samep ⟨p.wn, p.vb, p.wm, p.ct, p.su, p.tr, p.mr, p.nm⟩ ⟨q.wn, q.vb, q.wm, q.ct, q.su, q.tr, q.mr, q.nm⟩ = samep p q := rfl
  clear hq hu HTE HP
  go_wp2_with fail
  clear c0 c1 c2 c3 c4 c5 c6 c7 d0 d1 d2 d3 d4 d5 d6 d7
  refine (parse_any s _ T4.out.l).mono ?_
  rintro e w8 ⟨rfl, g8⟩
  have T8 : Hid (TwoAt w w8 p q) := T4.out.keep g8
  clear T4 g8
  have hz : (parse s.data.toList).2 = 0 := hs
  obtain ⟨r, hr⟩ : ∃ r, r = (parse s.data.toList).1 := ⟨_, rfl⟩
  have hrc : chk r = 0 := by rw [hr]; exact (parse_yes hz).1
  have hrs : (prB r).toList = s.toList := by rw [Lib.toList_data, Lib.toList_data, prB_data hrc, hr]; exact (parse_yes hz).2
  rw [show parse s.data.toList = (r, 0) from Prod.ext hr.symm hz]
  have HRC : Hid (chk r = 0) := hrc
  have hrb : ((prB r).toList == s.toList) = true := by rw [hrs]; simp
  clear hz hr hrc hrs hs
  simp only [pe, pv]
  have T9 : Hid (TwoAt w (w8.alloc (.cells #[.int .u8 r.wn, .int .u8 r.vb, .int .u8 r.wm, .int .i64 r.ct, .int .u8 r.su, .int .u8 r.tr, .int .u8 r.mr, .string r.nm] 30)) p q) := T8.out.keep (World.grownBy_alloc _ _ _)
  go_wp2_with fail
  refine (print_any r _ T9.out.l).mono ?_
  rintro e w9 ⟨rfl, g9⟩
  rw [HRC.out]
  have TA : Hid (TwoAt w w9 p q) := T9.out.keep g9
  obtain ⟨t9, ht9⟩ : ∃ t9, t9 = prB r := ⟨_, rfl⟩
  rw [← ht9] at hrb ⊢
  clear T9 g9 T8 HRC ht9
  go_wp2_with fail
  refine (lives_any _ TA.out.l).mono ?_
  rintro e w10 ⟨rfl, g10⟩
  go_wp2
  go_ret
  exact ⟨rfl, grown_trans TA.out.g g10⟩
set_option maxHeartbeats 8000000 in
set_option maxRecDepth 100000 in
theorem back_f (p q : Pt) (s : ByteArray) (hp : chk p = 0) (hq : chk q = 0) (hs : ¬ (parse s.data.toList).2 = 0) (w : World) (L : LaidAt w) : Calls Tryz.prog 7 #[pv p, pv q, .string s] w fun e w' => e = .returned (.bool true) ∧ w.grownBy w' none := by
  have HT : Hid (TwoAt w ((w.alloc (.cells #[.int .u8 p.wn, .int .u8 p.vb, .int .u8 p.wm, .int .i64 p.ct, .int .u8 p.su, .int .u8 p.tr, .int .u8 p.mr, .string p.nm] 30)).alloc (.cells #[.int .u8 q.wn, .int .u8 q.vb, .int .u8 q.wm, .int .i64 q.ct, .int .u8 q.su, .int .u8 q.tr, .int .u8 q.mr, .string q.nm] 30)) p q) := two_start w p q L
  have he := eql_part
  have hne := neq_part
  have hg := eqg_part
  have hss := same_self
  clear L
  unfold pv
  go_enter Tryz.func7, Tryz.ntmps7
  go_wp2_with fail
  refine (print_any p _ HT.out.l).mono ?_
  rintro e w1 ⟨rfl, g1⟩
  have T1 : Hid (TwoAt w w1 p q) := HT.out.keep g1
  clear HT g1
  rw [hp]
  obtain ⟨t, ht⟩ : ∃ t, t = prB p := ⟨_, rfl⟩
  have ht80 : ¬ (80 : Int) < (t.size : Int) := by have := prB_size hp; rw [← ht] at this; omega
  have htb : parse t.data.toList = (p, 0) := by rw [ht]; exact prB_back hp
  have HTE : Hid (t = prB p) := ht
  rw [← ht]
  clear ht
  have HP : Hid (chk p = 0) := hp
  clear hp
  go_wp2_with fail
  refine (parse_any t _ T1.out.l).mono ?_
  rintro e w2 ⟨rfl, g2⟩
  rw [htb]
  have T2 : Hid (TwoAt w w2 p q) := T1.out.keep g2
  clear T1 g2 htb
  simp only [pe, pv]
  obtain ⟨c0, c1, c2, c3, c4, c5, c6, c7⟩ := (T2.out.keep (World.grownBy_alloc w2 (.cells #[.int .u8 p.wn, .int .u8 p.vb, .int .u8 p.wm, .int .i64 p.ct, .int .u8 p.su, .int .u8 p.tr, .int .u8 p.mr, .string p.nm] 30) none)).a.cells
  have HC : Hid (Calls Tryz.prog 10 #[.agg #[.int .u8 p.wn, .int .u8 p.vb, .int .u8 p.wm, .int .i64 p.ct, .int .u8 p.su, .int .u8 p.tr, .int .u8 p.mr, .string p.nm]] (w2.alloc (.cells #[.int .u8 p.wn, .int .u8 p.vb, .int .u8 p.wm, .int .i64 p.ct, .int .u8 p.su, .int .u8 p.tr, .int .u8 p.mr, .string p.nm] 30)) fun e w' => e = .returned (.int .i64 (chk p)) ∧ (w2.alloc (.cells #[.int .u8 p.wn, .int .u8 p.vb, .int .u8 p.wm, .int .i64 p.ct, .int .u8 p.su, .int .u8 p.tr, .int .u8 p.mr, .string p.nm] 30)).grownBy w' none) := check_any p _
  go_wp2_with fail
  refine HC.out.mono ?_
  rintro e w3 ⟨rfl, g3⟩
  rw [HP.out]
  have T3 : Hid (TwoAt w w3 p q) := (T2.out.keep (World.grownBy_alloc w2 (.cells #[.int .u8 p.wn, .int .u8 p.vb, .int .u8 p.wm, .int .i64 p.ct, .int .u8 p.su, .int .u8 p.tr, .int .u8 p.mr, .string p.nm] 30) none)).keep g3
  clear c0 c1 c2 c3 c4 c5 c6 c7 T2 g3 HC
  obtain ⟨d0, d1, d2, d3, d4, d5, d6, d7⟩ := T3.out.b.cells
  go_wp2_with fail
  refine (print_any q _ T3.out.l).mono ?_
  rintro e w4 ⟨rfl, g4⟩
  have T4 : Hid (TwoAt w w4 p q) := T3.out.keep g4
  clear d0 d1 d2 d3 d4 d5 d6 d7 T3 g4
  have hut : ((prB q).toList == t.toList) = samep p q := by rw [HTE.out]; exact prB_same HP.out hq
  rw [hq]
  obtain ⟨u, hu⟩ : ∃ u, u = prB q := ⟨_, rfl⟩
  rw [← hu] at hut ⊢
  have hbn : (samep p q != samep p q) = false := by simp
  obtain ⟨d0, d1, d2, d3, d4, d5, d6, d7⟩ := T4.out.b.cells
  obtain ⟨c0, c1, c2, c3, c4, c5, c6, c7⟩ := T4.out.a.cells
  have hsam : samep ⟨p.wn, p.vb, p.wm, p.ct, p.su, p.tr, p.mr, p.nm⟩ ⟨q.wn, q.vb, q.wm, q.ct, q.su, q.tr, q.mr, q.nm⟩ = samep p q := rfl
  clear hq hu HTE HP
  go_wp2_with fail
  clear c0 c1 c2 c3 c4 c5 c6 c7 d0 d1 d2 d3 d4 d5 d6 d7
  refine (parse_any s _ T4.out.l).mono ?_
  rintro e w8 ⟨rfl, g8⟩
  have T8 : Hid (TwoAt w w8 p q) := T4.out.keep g8
  clear T4 g8
  have hz : ¬ (parse s.data.toList).2 = 0 := hs
  obtain ⟨c, hc⟩ : ∃ c, c = (parse s.data.toList).2 := ⟨_, rfl⟩
  rw [show parse s.data.toList = (Pt.none, c) from Prod.ext (parse_no hz) hc.symm]
  rw [← hc] at hz
  have hcn : (c != 0) = true := by simpa using hz
  have hcb : (c == 0) = false := by simpa using hz
  clear hz hc hs
  simp only [pe, pv, Pt.none]
  have T9 : Hid (TwoAt w (w8.alloc (.cells #[.int .u8 0, .int .u8 0, .int .u8 0, .int .i64 0, .int .u8 0, .int .u8 0, .int .u8 0, .string ⟨#[]⟩] 30)) p q) := T8.out.keep (World.grownBy_alloc _ _ _)
  go_wp2_with fail
  refine (lives_any _ T9.out.l).mono ?_
  rintro e w10 ⟨rfl, g10⟩
  go_wp2
  go_ret
  exact ⟨rfl, grown_trans T9.out.g g10⟩
/-- Of every two parts and every text. -/
theorem back_any (p q : Pt) (s : ByteArray) (w : World) (L : LaidAt w) : Calls Tryz.prog 7 #[pv p, pv q, .string s] w fun e w' => e = .returned (.bool true) ∧ w.grownBy w' none := by
  by_cases hp : chk p = 0
  · by_cases hq : chk q = 0
    · by_cases hs : (parse s.data.toList).2 = 0
      · exact back_e p q s hp hq hs w L
      · exact back_f p q s hp hq hs w L
    · by_cases hs : (parse s.data.toList).2 = 0
      · exact back_c p q s hp hq hs w L
      · exact back_d p q s hp hq hs w L
  · by_cases hs : (parse s.data.toList).2 = 0
    · exact back_a p q s hp hs w L
    · exact back_b p q s hp hs w L
end Go.Proofs.YthpoejgmofppbaaGreatDoor
