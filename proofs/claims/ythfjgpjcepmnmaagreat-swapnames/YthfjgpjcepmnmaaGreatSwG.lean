/-
  Swaps: whether a thing is a unit, whom a swap is about, whether a thing is shielded, whether a swap swaps an event.
-/
import Derived.Test.YthfjgpjcepmnmaaGreatSwF
namespace Go.Proofs.YthfjgpjcepmnmaaGreat
open Go.RowKit

def shlB (cd : Int → Hd × List Pt) (ts : List Th) (n : Int) : Bool := !isPlN n && (uniB cd (thN ts n) && decide (0 < (thN ts n).m2))
theorem sunit_any (bv : Value) (n : Int) (cd : Int → Hd × List Pt) (t : Th) (w : World) (C : SCard w bv n cd) (h1 : 1 ≤ t.card) (h2 : t.card ≤ n) : Calls Tryz.prog 133 #[bv, thv t] w fun e w' => e = .returned (.bool (uniB cd t)) ∧ w.grownBy w' none := by
  have h := tunit_of bv t (cd t.card).1 (cd t.card).2 0 w (fun X q => C X t q h1 h2)
  exact h
theorem hpMay_on {ts : List Th} {h : Hp} (hm : hpMay ts h = true) : (isPlN h.on = true ∨ onTb ts h.on = true) ∧ (h.vb = 6 → onTb ts h.on = true) := by
  unfold hpMay at hm
  split at hm
  · rename_i h1
    simp only [Bool.and_eq_true, Bool.or_eq_true] at hm
    exact ⟨hm.1, fun q => by omega⟩
  · split at hm
    · exact ⟨Or.inr hm, fun _ => hm⟩
    · split at hm
      · rename_i h3
        exact ⟨Or.inl hm, fun q => by omega⟩
      · cases hm
structure AIn (w : World) (bv vt vf : Value) (n : Int) (cd : Int → Hd × List Pt) (ts : List Th) (F : List Fe) (s : Sd) (z : Nat) (g : Fe) : Prop where
  at1 : thR.At w vt ts
  at2 : feR.At w vf F
  card : SCard w bv n cd
  hz : s.th = (z : Int) + 1
  hg : F[z]? = some g
  pl : g.ho = 0 ∨ g.ho = 1
  len : ts.length = F.length
  few : ts.length ≤ 2048
  be : ∀ (j : Nat) t, ts[j]? = some t → 1 ≤ t.card ∧ t.card ≤ n
theorem AIn.keep {w w' : World} {bv vt vf : Value} {n : Int} {cd : Int → Hd × List Pt} {ts : List Th} {F : List Fe} {s : Sd} {z : Nat} {g : Fe} (h : AIn w bv vt vf n cd ts F s z g) (q : w.grownBy w' none) : AIn w' bv vt vf n cd ts F s z g := ⟨h.at1.keep q, h.at2.keep q, h.card.keep q, h.hz, h.hg, h.pl, h.len, h.few, h.be⟩
theorem hoN_at {F : List Fe} {s : Sd} {z : Nat} {g : Fe} (hz : s.th = (z : Int) + 1) (hg : F[z]? = some g) : hoN F s.th = g.ho := by unfold hoN; rw [hz, toN, List.getD_eq_getElem?_getD, hg]; rfl
theorem abtN_1 {cd : Int → Hd × List Pt} {ts : List Th} {F : List Fe} {s : Sd} {n ho : Int} (h : s.wh.wm = 1) (hh : hoN F s.th = ho) (hp : ho = 0 ∨ ho = 1) : abtN cd ts F s n = (n == wrap64 (-1 - ho)) := by
  unfold abtN
  rw [if_pos h, hh]
  rcases hp with rfl | rfl
  · rw [show wrap64 (-1 - 0) = -1 - 0 from by unfold wrap64; omega, beq_dec]
  · rw [show wrap64 (-1 - 1) = -1 - 1 from by unfold wrap64; omega, beq_dec]
theorem abtN_2 {cd : Int → Hd × List Pt} {ts : List Th} {F : List Fe} {s : Sd} {n ho : Int} (h : s.wh.wm = 2) (hh : hoN F s.th = ho) (hp : ho = 0 ∨ ho = 1) : abtN cd ts F s n = (n == wrap64 (-1 - wrap64 (1 - ho))) := by
  unfold abtN
  rw [if_neg (by omega), if_pos h, hh]
  rcases hp with rfl | rfl
  · rw [show wrap64 (1 - 0) = 1 - 0 from by unfold wrap64; omega, show wrap64 (-1 - (1 - 0)) = -1 - (1 - 0) from by unfold wrap64; omega, beq_dec]
  · rw [show wrap64 (1 - 1) = 1 - 1 from by unfold wrap64; omega, show wrap64 (-1 - (1 - 1)) = -1 - (1 - 1) from by unfold wrap64; omega, beq_dec]
theorem abtN_pl {cd : Int → Hd × List Pt} {ts : List Th} {F : List Fe} {s : Sd} {n : Int} (h1 : ¬ s.wh.wm = 1) (h2 : ¬ s.wh.wm = 2) (h : isPlN n = true) : abtN cd ts F s n = false := by unfold abtN; rw [if_neg h1, if_neg h2, if_pos h]
theorem abtN_th {cd : Int → Hd × List Pt} {ts : List Th} {F : List Fe} {s : Sd} {j : Nat} {t : Th} {f : Fe} {ho : Int} (h1 : ¬ s.wh.wm = 1) (h2 : ¬ s.wh.wm = 2) (h : isPlN ((j : Int) + 1) = false) (ht : ts[j]? = some t) (hf : F[j]? = some f) (hh : hoN F s.th = ho) : abtN cd ts F s ((j : Int) + 1) = meantU s.wh (((j : Int) + 1) == s.th) (uniB cd t) f ho := by
  unfold abtN
  rw [if_neg h1, if_neg h2, if_neg (by rw [h]; simp), thN_at ht, toN, hh, beq_dec, List.getD_eq_getElem?_getD, hf]
  rfl
set_option maxRecDepth 100000 in
set_option maxHeartbeats 4000000 in
theorem sisAbout_any (bv vt vf vl : Value) (n : Int) (cd : Int → Hd × List Pt) (ts : List Th) (F : List Fe) (s : Sd) (z : Nat) (g : Fe) (on : Int) (w : World) (I : AIn w bv vt vf n cd ts F s z g) (ho : isPlN on = true ∨ onTb ts on = true) : Calls Tryz.prog 153 #[scnv bv vt vf vl, sdv s, .int .i64 on] w fun e w' => e = .returned (.bool (abtN cd ts F s on)) ∧ w.grownBy w' none := by
  obtain ⟨pt, ct, rfl⟩ := I.at1.form
  obtain ⟨pf, cf, rfl⟩ := I.at2.form
  obtain ⟨V, hV⟩ : ∃ V, V = (w.alloc (.cells #[bv, .slice pt ts.length ct, .slice pf F.length cf, vl] 136)).alloc (.cells #[.int .i64 s.th, .int .i64 s.pl, .int .u8 s.wh.wn, .int .u8 s.wh.vb, .int .u8 s.wh.wm, .int .i64 s.wh.ct, .int .u8 s.wh.su, .int .u8 s.wh.tr, .int .u8 s.wh.mr, .string s.wh.nm] 40) := ⟨_, rfl⟩
  have HG : Hid (w.grownBy V none) := by rw [hV]; exact grown_push (World.grownBy_alloc _ _ none) _
  have HS : Hid (SdB V (w.heap.size + 1) s) := by rw [hV]; exact alloc2_b _ _ _ _
  have HC : Hid (ScnB V w.heap.size bv (.slice pt ts.length ct) (.slice pf F.length cf) vl) := by rw [hV]; exact grown_keep (World.grownBy_alloc _ _ none) (alloc_at w _ _) (by simp)
  have HI : Hid (AIn V bv (.slice pt ts.length ct) (.slice pf F.length cf) n cd ts F s z g) := I.keep HG.out
  have HO : Hid (isPlN on = true ∨ onTb ts on = true) := ho
  have CH := sholder_any bv (.slice pt ts.length ct) (.slice pf F.length cf) vl F s z g V HI.out.at2 HI.out.hg HI.out.hz (by rw [← HI.out.len]; exact Nat.le_trans HI.out.few (by decide))
  unfold scnv sdv at CH ⊢
  clear I ho
  go_enter Tryz.func153, Tryz.ntmps153
  go_upto_region 1 with fail
  rw [← hV]
  clear hV
  obtain ⟨n0, hn0⟩ : ∃ n0, n0 = w.heap.size := ⟨_, rfl⟩
  simp only [← hn0] at HC HS ⊢
  obtain ⟨n1, hn1⟩ : ∃ n1, n1 = n0 + 1 := ⟨_, rfl⟩
  simp only [← hn1] at HS ⊢
  clear hn0 hn1
  obtain ⟨c0, c1, c2, c3⟩ := scn_box HC.out
  obtain ⟨s0, s1, s2, s3, s4, s5, s6, s7, s8, s9⟩ := sd_box HS.out
  go_wp2_with fail
  refine CH.mono ?_
  rintro e1 w1 ⟨rfl, g1⟩
  have HG1 : Hid (V.grownBy w1 none) := g1
  have HC1 : Hid (ScnB w1 n0 bv (.slice pt ts.length ct) (.slice pf F.length cf) vl) := grown_keep g1 HC.out (by simp)
  have HS1 : Hid (SdB w1 n1 s) := grown_keep g1 HS.out (by simp)
  obtain ⟨ho, hho⟩ : ∃ ho, ho = g.ho := ⟨_, rfl⟩
  have Hho : Hid (hoN F s.th = ho ∧ (ho = 0 ∨ ho = 1)) := ⟨by rw [hho]; exact hoN_at HI.out.hz HI.out.hg, by rw [hho]; exact HI.out.pl⟩
  rw [← hho]
  clear CH g1 hho c0 c1 c2 c3 s0 s1 s2 s3 s4 s5 s6 s7 s8 s9
  obtain ⟨c0, c1, c2, c3⟩ := scn_box HC1.out
  obtain ⟨s0, s1, s2, s3, s4, s5, s6, s7, s8, s9⟩ := sd_box HS1.out
  by_cases m1 : s.wh.wm = 1
  · have HR : Hid (abtN cd ts F s on = (on == wrap64 (-1 - ho))) := abtN_1 m1 Hho.out.1 Hho.out.2
    rw [m1] at s4
    clear m1
    go_wp2_with (go_at_call 200; refine (snumber_any _ _).mono ?_; rintro e2 w2 ⟨rfl, q2⟩; obtain rfl : w1 = w2 := q2.symm)
    go_ret
    exact ⟨ret_bb HR.out.symm, grown_trans HG.out HG1.out⟩
  have k1 : (s.wh.wm == 1) = false := by simpa using m1
  by_cases m2 : s.wh.wm = 2
  · have HR : Hid (abtN cd ts F s on = (on == wrap64 (-1 - wrap64 (1 - ho)))) := abtN_2 m2 Hho.out.1 Hho.out.2
    rw [m2] at s4
    clear m1 m2 k1
    go_wp2_with (first | (go_at_call 200; refine (snumber_any _ _).mono ?_; rintro e2 w2 ⟨rfl, q2⟩; obtain rfl : w1 = w2 := q2.symm) | (go_at_call 213; refine (sfoe_any _ _).mono ?_; rintro e2 w2 ⟨rfl, q2⟩; obtain rfl : w1 = w2 := q2.symm))
    go_ret
    exact ⟨ret_bb HR.out.symm, grown_trans HG.out HG1.out⟩
  have k2 : (s.wh.wm == 2) = false := by simpa using m2
  have CP := fun W => sisPlayer_any on W
  cases hp : isPlN on with
  | true =>
    have HR : Hid (abtN cd ts F s on = false) := abtN_pl m1 m2 hp
    rw [hp] at CP
    clear m1 m2 hp
    go_wp2_with (go_at_call 132; refine (CP _).mono ?_; rintro e2 w2 ⟨rfl, q2⟩; obtain rfl : w1 = w2 := q2.symm)
    go_ret
    exact ⟨ret_bb HR.out.symm, grown_trans HG.out HG1.out⟩
  | false =>
    obtain ⟨j, t, rfl, ht, -⟩ := onTb_of (HO.out.resolve_left (by rw [hp]; simp))
    have hjl : j < ts.length := (List.getElem?_eq_some_iff.1 ht).1
    have hjf : j < F.length := by rw [← HI.out.len]; exact hjl
    obtain ⟨f, hf⟩ : ∃ f, F[j]? = some f := ⟨_, List.getElem?_eq_getElem hjf⟩
    have HR : Hid (abtN cd ts F s ((j : Int) + 1) = meantU s.wh (((j : Int) + 1) == s.th) (uniB cd t) f ho) := abtN_th m1 m2 hp ht hf Hho.out.1
    have CU : ∀ X, w1.grownBy X none → Calls Tryz.prog 133 #[bv, thv t] X fun e w' => e = .returned (.bool (uniB cd t)) ∧ X.grownBy w' none := fun X q => sunit_any bv n cd t X (HI.out.card.keep (grown_trans HG1.out q)) (HI.out.be j t ht).1 (HI.out.be j t ht).2
    have CW := fun W => whomIs_any s.wh ho f (uniB cd t) (((j : Int) + 1) == s.th) W
    obtain ⟨u, hu⟩ : ∃ u, u = uniB cd t := ⟨_, rfl⟩
    obtain ⟨o, hoo⟩ : ∃ o, o = (((j : Int) + 1) == s.th) := ⟨_, rfl⟩
    rw [← hu, ← hoo] at HR
    simp only [← hu, ← hoo] at CU CW
    have HQ : Hid (o = (((j : Int) + 1) == s.th)) := hoo
    rw [hp] at CP
    have j1 : ((j : Int)) < (ts.length : Int) := Int.ofNat_lt.2 hjl
    have j2 : ((j : Int)) < (F.length : Int) := Int.ofNat_lt.2 hjf
    have wj : wrap64 (j : Int) = (j : Int) := wrS1 hjl HI.out.few
    have wj2 : IntKind.i64.wrap (j : Int) = (j : Int) := wrS2 hjl HI.out.few
    obtain ⟨gT, oT, cT, eT, -⟩ := th_there HI.out.at1 hjl
    injection eT with eT eT2 eT3
    clear eT2 eT3
    subst eT
    obtain ⟨gF, oF, cF, eF, -⟩ := fe_there HI.out.at2 hjf
    injection eF with eF eF2 eF3
    clear eF2 eF3
    subst eF
    obtain ⟨t0, t1, t2, t3, t4, t5, t6, t7, t8, t9, t10⟩ := th_cells (rec_thV (HI.out.at1.keep HG1.out) ht)
    obtain ⟨f0, f1, f2, f3, f4⟩ := fe_cells (rec_feV (HI.out.at2.keep HG1.out) hf)
    unfold thv at CU
    unfold pv cdv at CW
    clear m1 m2 hp ht hf hjl hjf hu hoo
    go_upto_region 8 with (go_at_call 132; refine (CP _).mono ?_; rintro e2 w2 ⟨rfl, q2⟩; obtain rfl : w1 = w2 := q2.symm)
    clear CP k1 k2
    refine wp_region_held_drew (S := fun w' => w1.grownBy w' none) (by kernel_rfl) (grown_drew _) (fun hHeld => ?_)
    refine wpAnyH_take (i := 0) (v := ?_) rfl (by kernel_rfl) (by kernel_rfl) (by kernel_rfl) (fun _ _ _ h => h) (Or.inl ⟨by rfl, ?_⟩) (by assumption) ?_
    rotate_left 1
    · (intro w0 hSw; go_simp; try with_reducible rfl)
    simp only [List.getElem_toArray, List.getElem_cons_zero]
    go_frame
    refine wpAnyH_take (i := 1) (v := ?_) rfl (by kernel_rfl) (by kernel_rfl) (by kernel_rfl) (fun _ _ _ h => h) (Or.inl ⟨by rfl, ?_⟩) (by assumption) ?_
    rotate_left 1
    · (intro w0 hSw; have c2 := hSw.cell c2 (by simp); go_simp; try with_reducible rfl)
    simp only [List.getElem_toArray, List.getElem_cons_zero, List.getElem_cons_succ]
    go_frame
    refine wpAnyH_take (i := 2) (v := ?_) rfl (by kernel_rfl) (by kernel_rfl) (by kernel_rfl) (fun _ _ _ h => h) (Or.inl ⟨by rfl, ?_⟩) (by assumption) ?_
    rotate_left 1
    · (intro w0 hSw; go_simp; try with_reducible rfl)
    simp only [List.getElem_toArray, List.getElem_cons_zero, List.getElem_cons_succ]
    go_frame
    refine wpAnyH_take (i := 3) (v := ?_) rfl (by kernel_rfl) (by kernel_rfl) (by kernel_rfl) (fun _ _ _ h => h) (Or.inl ⟨by rfl, ?_⟩) (by assumption) ?_
    rotate_left 1
    · (intro w0 hSw; go_simp; try with_reducible rfl)
    simp only [List.getElem_toArray, List.getElem_cons_zero, List.getElem_cons_succ]
    go_frame
    refine wpAnyH_take (i := 4) (v := ?_) rfl (by kernel_rfl) (by kernel_rfl) (by kernel_rfl) (fun _ _ _ h => h) (Or.inl ⟨by rfl, ?_⟩) (by assumption) ?_
    rotate_left 1
    · (intro w0 hSw; go_simp; try with_reducible rfl)
    simp only [List.getElem_toArray, List.getElem_cons_zero, List.getElem_cons_succ]
    go_frame
    refine wpAnyH_take (i := 5) (v := ?_) rfl (by kernel_rfl) (by kernel_rfl) (by kernel_rfl) (fun _ _ _ h => h) (Or.inl ⟨by rfl, ?_⟩) (by assumption) ?_
    rotate_left 1
    · (intro w0 hSw; have f0 := hSw.cell f0 (by simp); have f1 := hSw.cell f1 (by simp); have f2 := hSw.cell f2 (by simp); have f3 := hSw.cell f3 (by simp); have f4 := hSw.cell f4 (by simp); go_simp; try with_reducible rfl)
    simp only [List.getElem_toArray, List.getElem_cons_zero, List.getElem_cons_succ]
    go_frame
    refine wpAnyH_take (i := 6) (v := ?_) rfl (by kernel_rfl) (by kernel_rfl) (by kernel_rfl) (fun _ _ _ h => h) (Or.inl ⟨by rfl, ?_⟩) (by assumption) ?_
    rotate_left 1
    · (intro w0 hSw; go_simp; try with_reducible rfl)
    simp only [List.getElem_toArray, List.getElem_cons_zero, List.getElem_cons_succ]
    go_frame
    refine wpAnyH_take (i := 7) (v := ?_) rfl (by kernel_rfl) (by kernel_rfl) (by kernel_rfl) (fun _ _ _ h => h) (Or.inl ⟨by rfl, ?_⟩) (by assumption) ?_
    rotate_left 1
    · (intro w0 hSw; have c0 := hSw.cell c0 (by simp); go_simp; try with_reducible rfl)
    simp only [List.getElem_toArray, List.getElem_cons_zero, List.getElem_cons_succ]
    go_frame
    refine wpAnyH_take (i := 8) (v := ?_) rfl (by kernel_rfl) (by kernel_rfl) (by kernel_rfl) (fun _ _ _ h => h) (Or.inl ⟨by rfl, ?_⟩) (by assumption) ?_
    rotate_left 1
    · (intro w0 hSw; go_simp; try with_reducible rfl)
    simp only [List.getElem_toArray, List.getElem_cons_zero, List.getElem_cons_succ]
    go_frame
    refine wpAnyH_take (i := 9) (v := ?_) rfl (by kernel_rfl) (by kernel_rfl) (by kernel_rfl) (fun _ _ _ h => h) (Or.inl ⟨by rfl, ?_⟩) (by assumption) ?_
    rotate_left 1
    · (intro w0 hSw; have c1 := hSw.cell c1 (by simp); go_simp; try with_reducible rfl)
    simp only [List.getElem_toArray, List.getElem_cons_zero, List.getElem_cons_succ]
    go_frame
    refine wpAnyH_take (i := 10) (v := ?_) rfl (by kernel_rfl) (by kernel_rfl) (by kernel_rfl) (fun _ _ _ h => h) (Or.inl ⟨by rfl, ?_⟩) (by assumption) ?_
    rotate_left 1
    · (intro w0 hSw; go_simp; try with_reducible rfl)
    simp only [List.getElem_toArray, List.getElem_cons_zero, List.getElem_cons_succ]
    go_frame
    refine wpAnyH_take (i := 11) (v := ?_) rfl (by kernel_rfl) (by kernel_rfl) (by kernel_rfl) (fun _ _ _ h => h) (Or.inl ⟨by rfl, ?_⟩) (by assumption) ?_
    rotate_left 1
    · (intro w0 hSw; go_simp; try with_reducible rfl)
    simp only [List.getElem_toArray, List.getElem_cons_zero, List.getElem_cons_succ]
    go_frame
    refine wpAnyH_take (i := 12) (v := ?_) rfl (by kernel_rfl) (by kernel_rfl) (by kernel_rfl) (fun _ _ _ h => h) (Or.inl ⟨by rfl, ?_⟩) (by assumption) ?_
    rotate_left 1
    · (intro w0 hSw; go_simp; try with_reducible rfl)
    simp only [List.getElem_toArray, List.getElem_cons_zero, List.getElem_cons_succ]
    go_frame
    refine wpAnyH_take (i := 13) (v := ?_) rfl (by kernel_rfl) (by kernel_rfl) (by kernel_rfl) (fun _ _ _ h => h) (Or.inl ⟨by rfl, ?_⟩) (by assumption) ?_
    rotate_left 1
    · (intro w0 hSw; have t0 := hSw.cell t0 (by simp); have t1 := hSw.cell t1 (by simp); have t2 := hSw.cell t2 (by simp); have t3 := hSw.cell t3 (by simp); have t4 := hSw.cell t4 (by simp); have t5 := hSw.cell t5 (by simp); have t6 := hSw.cell t6 (by simp); have t7 := hSw.cell t7 (by simp); have t8 := hSw.cell t8 (by simp); have t9 := hSw.cell t9 (by simp); have t10 := hSw.cell t10 (by simp); go_simp; try with_reducible rfl)
    simp only [List.getElem_toArray, List.getElem_cons_zero, List.getElem_cons_succ]
    go_frame
    refine wpAnyH_take (i := 15) (v := ?_) rfl (by kernel_rfl) (by kernel_rfl) (by kernel_rfl) (fun _ _ _ h => h) (Or.inl ⟨by rfl, ?_⟩) (by assumption) ?_
    rotate_left 1
    · (intro w0 hSw; go_simp; try with_reducible rfl)
    simp only [List.getElem_toArray, List.getElem_cons_zero, List.getElem_cons_succ]
    go_frame
    refine wpAnyH_take (i := 16) (v := ?_) rfl (by kernel_rfl) (by kernel_rfl) (by kernel_rfl) (fun _ _ _ h => h) (Or.inl ⟨by rfl, ?_⟩) (by assumption) ?_
    rotate_left 1
    · (intro w0 hSw; go_simp; try with_reducible rfl)
    simp only [List.getElem_toArray, List.getElem_cons_zero, List.getElem_cons_succ]
    go_frame
    refine wpAnyH_take (i := 17) (v := ?_) rfl (by kernel_rfl) (by kernel_rfl) (by kernel_rfl) (fun _ _ _ h => h) (Or.inl ⟨by rfl, ?_⟩) (by assumption) ?_
    rotate_left 1
    · (intro w0 hSw; have s0 := hSw.cell s0 (by simp); go_simp; try with_reducible rfl)
    simp only [List.getElem_toArray, List.getElem_cons_zero, List.getElem_cons_succ]
    go_frame
    refine wpAnyH_take (i := 18) (v := ?_) rfl (by kernel_rfl) (by kernel_rfl) (by kernel_rfl) (fun _ _ _ h => h) (Or.inl ⟨by rfl, ?_⟩) (by assumption) ?_
    rotate_left 1
    · (intro w0 hSw; go_simp; try with_reducible rfl)
    simp only [List.getElem_toArray, List.getElem_cons_zero, List.getElem_cons_succ]
    go_frame
    rw [← HQ.out]
    refine wpAnyH_ready (rs := [14, 20]) (by kernel_rfl) (by simp) ?_
    refine AllReadyH.cons rfl (fun K9 hK => ?_) (AllReadyH.cons rfl (fun K9 hK => ?_) AllReadyH.nil)
    · simp only [List.getElem_toArray, List.getElem_cons_zero, List.getElem_cons_succ]
      go_simp
      go_at_call 133
      refine (CU _ (grown_drew _)).mono ?_
      rintro e3 w3 ⟨rfl, g3⟩
      have HG3 : Hid (w1.grownBy w3 none) := grown_trans (grown_drew _) g3
      refine hK.out _ _ HG3.out (fun hHeld2 => ?_)
      clear hK K9
      (try go_frame)
      refine wpAnyH_take (i := 19) (v := ?_) rfl (by kernel_rfl) (by kernel_rfl) (by kernel_rfl) (fun _ _ _ h => h) (Or.inl ⟨by rfl, ?_⟩) (by assumption) ?_
      rotate_left 1
      · (intro w0 hSw; go_simp; try with_reducible rfl)
      simp only [List.getElem_toArray, List.getElem_cons_zero, List.getElem_cons_succ]
      go_frame
      refine wpAnyH_ready (rs := [20]) (by kernel_rfl) (by simp) ?_
      refine AllReadyH.cons rfl (fun K9 hK => ?_) AllReadyH.nil
      simp only [List.getElem_toArray, List.getElem_cons_zero, List.getElem_cons_succ]
      go_simp
      refine hK.out _ _ (grown_push HG3.out _) (fun hHeld3 => ?_)
      clear hK K9
      (try go_frame)
      obtain ⟨X, hX⟩ : ∃ X, X = w3.alloc (.cells #[.int .i64 0, .int .u8 0, .int .u16 0, .int .i64 0, .int .i64 0, .bool false, .bool false] 283) := ⟨_, rfl⟩
      rw [← hX]
      have HB1 : Hid (X.heap[w3.heap.size]? = some (.cells #[.int .i64 0, .int .u8 0, .int .u16 0, .int .i64 0, .int .i64 0, .bool false, .bool false] 283 (0, 0))) := by rw [hX]; exact alloc_at w3 _ _
      have HGX : Hid (w1.grownBy X none) := by rw [hX]; exact grown_push HG3.out _
      obtain ⟨n2, h2⟩ : ∃ n2, n2 = w3.heap.size := ⟨_, rfl⟩
      have Hn2 : Hid (w1.heap.size ≤ n2) := by rw [h2]; exact HG3.out.size
      rw [← h2] at HB1 ⊢
      clear hX h2
      have z0 := (block_cell HB1.out 0).trans (show _ = some (.int .i64 0) from rfl)
      have z1 := (block_cell HB1.out 1).trans (show _ = some (.int .u8 0) from rfl)
      have z2 := (block_cell HB1.out 2).trans (show _ = some (.int .u16 0) from rfl)
      have z3 := (block_cell HB1.out 3).trans (show _ = some (.int .i64 0) from rfl)
      have z4 := (block_cell HB1.out 4).trans (show _ = some (.int .i64 0) from rfl)
      have z5 := (block_cell HB1.out 5).trans (show _ = some (.bool false) from rfl)
      have z6 := (block_cell HB1.out 6).trans (show _ = some (.bool false) from rfl)
      have zf := fun i => block_free HB1.out i
      refine wpAnyH_ready (rs := [21]) (by kernel_rfl) (by simp) ?_
      refine AllReadyH.cons rfl (fun K9 hK => ?_) AllReadyH.nil
      simp only [List.getElem_toArray, List.getElem_cons_zero, List.getElem_cons_succ]
      go_simp
      refine hK.out _ _ (grown_set7 HGX.out Hn2.out _ _ _ _ _ _ _) (fun hHeld3 => ?_)
      clear hK K9
      (try go_frame)
      refine wpAnyH_done (by kernel_rfl) ?_ _
      obtain ⟨Y, hY⟩ : ∃ Y, Y = ((((((X.setCell ⟨n2, 0, none⟩ (.int .i64 f.ho)).setCell ⟨n2, 1, none⟩ (.int .u8 f.su)).setCell ⟨n2, 2, none⟩ (.int .u16 f.tr)).setCell ⟨n2, 3, none⟩ (.int .i64 f.po)).setCell ⟨n2, 4, none⟩ (.int .i64 f.he)).setCell ⟨n2, 5, none⟩ (.bool u)).setCell ⟨n2, 6, none⟩ (.bool o) := ⟨_, rfl⟩
      rw [← hY]
      have HY : Hid (w1.grownBy Y none ∧ CdB Y n2 f u o) := ⟨by rw [hY]; exact grown_set7 HGX.out Hn2.out _ _ _ _ _ _ _, by rw [hY]; exact block_set (block_set (block_set (block_set (block_set (block_set (block_set HB1.out 0 _) 1 _) 2 _) 3 _) 4 _) 5 _) 6 _⟩
      have s2 := HY.out.1.cell s2 (by simp)
      have s3 := HY.out.1.cell s3 (by simp)
      have s4 := HY.out.1.cell s4 (by simp)
      have s5 := HY.out.1.cell s5 (by simp)
      have s6 := HY.out.1.cell s6 (by simp)
      have s7 := HY.out.1.cell s7 (by simp)
      have s8 := HY.out.1.cell s8 (by simp)
      have s9 := HY.out.1.cell s9 (by simp)
      obtain ⟨q0, q1, q2, q3, q4, q5, q6⟩ := cd_box HY.out.2
      clear hY hHeld hHeld2 hHeld3 z0 z1 z2 z3 z4 z5 z6 zf HB1 HGX Hn2 t0 t1 t2 t3 t4 t5 t6 t7 t8 t9 t10 f0 f1 f2 f3 f4
      go_wp2_with (go_at_call 214; refine (CW _).mono ?_; rintro e4 w4 ⟨rfl, g4⟩; have HG4 : Hid (Y.grownBy w4 none) := g4)
      go_ret
      exact ⟨ret_bb HR.out.symm, grown_trans HG.out (grown_trans HG1.out (grown_trans HY.out.1 HG4.out))⟩
    · simp only [List.getElem_toArray, List.getElem_cons_zero, List.getElem_cons_succ]
      go_simp
      refine hK.out _ _ (grown_trans (grown_push (grown_refl _ _) _) (grown_drew _)) (fun hHeld3 => ?_)
      clear hK K9
      (try go_frame)
      obtain ⟨X1, hX1⟩ : ∃ X1, X1 = (w1.alloc (.cells #[.int .i64 0, .int .u8 0, .int .u16 0, .int .i64 0, .int .i64 0, .bool false, .bool false] 283)).drew := ⟨_, rfl⟩
      rw [← hX1]
      have HB0 : Hid (X1.heap[w1.heap.size]? = some (.cells #[.int .i64 0, .int .u8 0, .int .u16 0, .int .i64 0, .int .i64 0, .bool false, .bool false] 283 (0, 0))) := by rw [hX1]; exact alloc_at w1 _ _
      have HGX1 : Hid (w1.grownBy X1 none) := by rw [hX1]; exact grown_trans (grown_push (grown_refl _ _) _) (grown_drew _)
      obtain ⟨n2, h2⟩ : ∃ n2, n2 = w1.heap.size := ⟨_, rfl⟩
      have Hn2 : Hid (w1.heap.size ≤ n2) := by rw [h2]; exact Nat.le_refl _
      rw [← h2] at HB0 ⊢
      clear hX1 h2
      refine wpAnyH_ready (rs := [14]) (by kernel_rfl) (by simp) ?_
      refine AllReadyH.cons rfl (fun K9 hK => ?_) AllReadyH.nil
      simp only [List.getElem_toArray, List.getElem_cons_zero, List.getElem_cons_succ]
      go_simp
      go_at_call 133
      refine (CU _ (HGX1.out)).mono ?_
      rintro e3 w3 ⟨rfl, g3⟩
      have HG3 : Hid (w1.grownBy w3 none) := grown_trans (HGX1.out) g3
      refine hK.out _ _ HG3.out (fun hHeld2 => ?_)
      clear hK K9
      (try go_frame)
      refine wpAnyH_take (i := 19) (v := ?_) rfl (by kernel_rfl) (by kernel_rfl) (by kernel_rfl) (fun _ _ _ h => h) (Or.inl ⟨by rfl, ?_⟩) (by assumption) ?_
      rotate_left 1
      · (intro w0 hSw; go_simp; try with_reducible rfl)
      simp only [List.getElem_toArray, List.getElem_cons_zero, List.getElem_cons_succ]
      go_frame
      obtain ⟨X, hX⟩ : ∃ X, X = w3 := ⟨_, rfl⟩
      subst hX
      have HB1 : Hid (X.heap[n2]? = some (.cells #[.int .i64 0, .int .u8 0, .int .u16 0, .int .i64 0, .int .i64 0, .bool false, .bool false] 283 (0, 0))) := grown_keep (g3) HB0.out (by simp)
      have HGX : Hid (w1.grownBy X none) := HG3.out
      have z0 := (block_cell HB1.out 0).trans (show _ = some (.int .i64 0) from rfl)
      have z1 := (block_cell HB1.out 1).trans (show _ = some (.int .u8 0) from rfl)
      have z2 := (block_cell HB1.out 2).trans (show _ = some (.int .u16 0) from rfl)
      have z3 := (block_cell HB1.out 3).trans (show _ = some (.int .i64 0) from rfl)
      have z4 := (block_cell HB1.out 4).trans (show _ = some (.int .i64 0) from rfl)
      have z5 := (block_cell HB1.out 5).trans (show _ = some (.bool false) from rfl)
      have z6 := (block_cell HB1.out 6).trans (show _ = some (.bool false) from rfl)
      have zf := fun i => block_free HB1.out i
      refine wpAnyH_ready (rs := [21]) (by kernel_rfl) (by simp) ?_
      refine AllReadyH.cons rfl (fun K9 hK => ?_) AllReadyH.nil
      simp only [List.getElem_toArray, List.getElem_cons_zero, List.getElem_cons_succ]
      go_simp
      refine hK.out _ _ (grown_set7 HGX.out Hn2.out _ _ _ _ _ _ _) (fun hHeld3 => ?_)
      clear hK K9
      (try go_frame)
      refine wpAnyH_done (by kernel_rfl) ?_ _
      obtain ⟨Y, hY⟩ : ∃ Y, Y = ((((((X.setCell ⟨n2, 0, none⟩ (.int .i64 f.ho)).setCell ⟨n2, 1, none⟩ (.int .u8 f.su)).setCell ⟨n2, 2, none⟩ (.int .u16 f.tr)).setCell ⟨n2, 3, none⟩ (.int .i64 f.po)).setCell ⟨n2, 4, none⟩ (.int .i64 f.he)).setCell ⟨n2, 5, none⟩ (.bool u)).setCell ⟨n2, 6, none⟩ (.bool o) := ⟨_, rfl⟩
      rw [← hY]
      have HY : Hid (w1.grownBy Y none ∧ CdB Y n2 f u o) := ⟨by rw [hY]; exact grown_set7 HGX.out Hn2.out _ _ _ _ _ _ _, by rw [hY]; exact block_set (block_set (block_set (block_set (block_set (block_set (block_set HB1.out 0 _) 1 _) 2 _) 3 _) 4 _) 5 _) 6 _⟩
      have s2 := HY.out.1.cell s2 (by simp)
      have s3 := HY.out.1.cell s3 (by simp)
      have s4 := HY.out.1.cell s4 (by simp)
      have s5 := HY.out.1.cell s5 (by simp)
      have s6 := HY.out.1.cell s6 (by simp)
      have s7 := HY.out.1.cell s7 (by simp)
      have s8 := HY.out.1.cell s8 (by simp)
      have s9 := HY.out.1.cell s9 (by simp)
      obtain ⟨q0, q1, q2, q3, q4, q5, q6⟩ := cd_box HY.out.2
      clear hY hHeld hHeld2 hHeld3 z0 z1 z2 z3 z4 z5 z6 zf HB1 HGX Hn2 t0 t1 t2 t3 t4 t5 t6 t7 t8 t9 t10 f0 f1 f2 f3 f4
      go_wp2_with (go_at_call 214; refine (CW _).mono ?_; rintro e4 w4 ⟨rfl, g4⟩; have HG4 : Hid (Y.grownBy w4 none) := g4)
      go_ret
      exact ⟨ret_bb HR.out.symm, grown_trans HG.out (grown_trans HG1.out (grown_trans HY.out.1 HG4.out))⟩
set_option maxRecDepth 100000 in
set_option maxHeartbeats 4000000 in
theorem sisShielded_any (bv vt vf vl : Value) (n : Int) (cd : Int → Hd × List Pt) (ts : List Th) (on : Int) (w : World) (A : thR.At w vt ts) (C : SCard w bv n cd) (hl : ts.length ≤ 2048) (hbe : ∀ (j : Nat) t, ts[j]? = some t → 1 ≤ t.card ∧ t.card ≤ n) (ho : isPlN on = true ∨ onTb ts on = true) : Calls Tryz.prog 65 #[scnv bv vt vf vl, .int .i64 on] w fun e w' => e = .returned (.bool (shlB cd ts on)) ∧ w.grownBy w' none := by
  obtain ⟨pt, ct, rfl⟩ := A.form
  obtain ⟨V, hV⟩ : ∃ V, V = w.alloc (.cells #[bv, .slice pt ts.length ct, vf, vl] 136) := ⟨_, rfl⟩
  have HG : Hid (w.grownBy V none) := by rw [hV]; exact World.grownBy_alloc _ _ none
  have HC : Hid (ScnB V w.heap.size bv (.slice pt ts.length ct) vf vl) := by rw [hV]; exact alloc_at w _ _
  have HA : Hid (thR.At V (.slice pt ts.length ct) ts ∧ SCard V bv n cd ∧ ts.length ≤ 2048 ∧ (∀ (j : Nat) t, ts[j]? = some t → 1 ≤ t.card ∧ t.card ≤ n) ∧ (isPlN on = true ∨ onTb ts on = true)) := ⟨A.keep HG.out, C.keep HG.out, hl, hbe, ho⟩
  have CP := fun W => sisPlayer_any on W
  unfold scnv
  clear A C hl hbe ho
  go_enter Tryz.func65, Tryz.ntmps65
  go_upto_region 1 with fail
  rw [← hV]
  clear hV
  obtain ⟨n0, hn0⟩ : ∃ n0, n0 = w.heap.size := ⟨_, rfl⟩
  simp only [← hn0] at HC ⊢
  clear hn0
  obtain ⟨c0, c1, c2, c3⟩ := scn_box HC.out
  cases hp : isPlN on with
  | true =>
    have HR : Hid (shlB cd ts on = false) := by show _ = _; unfold shlB; rw [hp]; rfl
    rw [hp] at CP
    clear hp
    refine wp_region_held_drew (S := fun w' => V.grownBy w' none) (by kernel_rfl) (grown_drew _) (fun hHeld => ?_)
    refine wpAnyH_take (i := 0) (v := ?_) rfl (by kernel_rfl) (by kernel_rfl) (by kernel_rfl) (fun _ _ _ h => h) (Or.inl ⟨by rfl, ?_⟩) (by assumption) ?_
    rotate_left 1
    · (intro w0 hSw; go_simp; try with_reducible rfl)
    simp only [List.getElem_toArray, List.getElem_cons_zero]
    go_frame
    refine wpAnyH_ready (rs := [1]) (by kernel_rfl) (by simp) ?_
    refine AllReadyH.cons rfl (fun K hK => ?_) AllReadyH.nil
    simp only [List.getElem_toArray, List.getElem_cons_zero, List.getElem_cons_succ]
    go_simp
    go_at_call 132
    refine (CP _).mono ?_
    rintro e2 w2 ⟨rfl, q2⟩
    have HG2 : Hid (V.grownBy w2 none) := by rw [q2]; exact grown_drew _
    clear q2
    refine hK.out _ _ (HG2.out) (fun hHeld2 => ?_)
    clear hK K
    (try go_frame)
    refine wpAnyH_take (i := 2) (v := ?_) rfl (by kernel_rfl) (by kernel_rfl) (by kernel_rfl) (fun _ _ _ h => h) (Or.inl ⟨by rfl, ?_⟩) (by assumption) ?_
    rotate_left 1
    · (intro w0 hSw; go_simp; try with_reducible rfl)
    simp only [List.getElem_toArray, List.getElem_cons_zero, List.getElem_cons_succ]
    go_frame
    refine wpAnyH_take (i := 3) (v := ?_) rfl (by kernel_rfl) (by kernel_rfl) (by kernel_rfl) (fun _ _ _ h => h) (Or.inl ⟨by rfl, ?_⟩) (by assumption) ?_
    rotate_left 1
    · (intro w0 hSw; go_simp; try with_reducible rfl)
    simp only [List.getElem_toArray, List.getElem_cons_zero, List.getElem_cons_succ]
    go_frame
    refine wpAnyH_take (i := 4) (v := undef) rfl (by kernel_rfl) (by kernel_rfl) (by kernel_rfl) (fun _ _ _ h => h) (Or.inr ⟨by rfl, rfl⟩) (by assumption) ?_
    simp only [List.getElem_toArray, List.getElem_cons_zero, List.getElem_cons_succ]
    go_frame
    refine wpAnyH_take (i := 5) (v := undef) rfl (by kernel_rfl) (by kernel_rfl) (by kernel_rfl) (fun _ _ _ h => h) (Or.inr ⟨by rfl, rfl⟩) (by assumption) ?_
    simp only [List.getElem_toArray, List.getElem_cons_zero, List.getElem_cons_succ]
    go_frame
    refine wpAnyH_take (i := 6) (v := undef) rfl (by kernel_rfl) (by kernel_rfl) (by kernel_rfl) (fun _ _ _ h => h) (Or.inr ⟨by rfl, rfl⟩) (by assumption) ?_
    simp only [List.getElem_toArray, List.getElem_cons_zero, List.getElem_cons_succ]
    go_frame
    refine wpAnyH_take (i := 7) (v := undef) rfl (by kernel_rfl) (by kernel_rfl) (by kernel_rfl) (fun _ _ _ h => h) (Or.inr ⟨by rfl, rfl⟩) (by assumption) ?_
    simp only [List.getElem_toArray, List.getElem_cons_zero, List.getElem_cons_succ]
    go_frame
    refine wpAnyH_take (i := 8) (v := undef) rfl (by kernel_rfl) (by kernel_rfl) (by kernel_rfl) (fun _ _ _ h => h) (Or.inr ⟨by rfl, rfl⟩) (by assumption) ?_
    simp only [List.getElem_toArray, List.getElem_cons_zero, List.getElem_cons_succ]
    go_frame
    refine wpAnyH_take (i := 9) (v := undef) rfl (by kernel_rfl) (by kernel_rfl) (by kernel_rfl) (fun _ _ _ h => h) (Or.inr ⟨by rfl, rfl⟩) (by assumption) ?_
    simp only [List.getElem_toArray, List.getElem_cons_zero, List.getElem_cons_succ]
    go_frame
    refine wpAnyH_take (i := 10) (v := undef) rfl (by kernel_rfl) (by kernel_rfl) (by kernel_rfl) (fun _ _ _ h => h) (Or.inr ⟨by rfl, rfl⟩) (by assumption) ?_
    simp only [List.getElem_toArray, List.getElem_cons_zero, List.getElem_cons_succ]
    go_frame
    refine wpAnyH_take (i := 11) (v := undef) rfl (by kernel_rfl) (by kernel_rfl) (by kernel_rfl) (fun _ _ _ h => h) (Or.inr ⟨by rfl, rfl⟩) (by assumption) ?_
    simp only [List.getElem_toArray, List.getElem_cons_zero, List.getElem_cons_succ]
    go_frame
    refine wpAnyH_ready (rs := [12]) (by kernel_rfl) (by simp) ?_
    refine AllReadyH.cons rfl (fun K hK => ?_) AllReadyH.nil
    simp only [List.getElem_toArray, List.getElem_cons_zero, List.getElem_cons_succ]
    rw [if_neg (Bool.eq_false_iff.1 (by rfl))]
    refine hK.out _ _ (by assumption) (fun hHeld2 => ?_)
    clear hK K
    (try go_frame)
    refine wpAnyH_take (i := 13) (v := ?_) rfl (by kernel_rfl) (by kernel_rfl) (by kernel_rfl) (fun _ _ _ h => h) (Or.inl ⟨by rfl, ?_⟩) (by assumption) ?_
    rotate_left 1
    · (intro w0 hSw; go_simp; try with_reducible rfl)
    simp only [List.getElem_toArray, List.getElem_cons_zero, List.getElem_cons_succ]
    go_frame
    refine wpAnyH_take (i := 14) (v := ?_) rfl (by kernel_rfl) (by kernel_rfl) (by kernel_rfl) (fun _ _ _ h => h) (Or.inl ⟨by rfl, ?_⟩) (by assumption) ?_
    rotate_left 1
    · (intro w0 hSw; go_simp; try with_reducible rfl)
    simp only [List.getElem_toArray, List.getElem_cons_zero, List.getElem_cons_succ]
    go_frame
    refine wpAnyH_take (i := 15) (v := undef) rfl (by kernel_rfl) (by kernel_rfl) (by kernel_rfl) (fun _ _ _ h => h) (Or.inr ⟨by rfl, rfl⟩) (by assumption) ?_
    simp only [List.getElem_toArray, List.getElem_cons_zero, List.getElem_cons_succ]
    go_frame
    refine wpAnyH_take (i := 16) (v := undef) rfl (by kernel_rfl) (by kernel_rfl) (by kernel_rfl) (fun _ _ _ h => h) (Or.inr ⟨by rfl, rfl⟩) (by assumption) ?_
    simp only [List.getElem_toArray, List.getElem_cons_zero, List.getElem_cons_succ]
    go_frame
    refine wpAnyH_ready (rs := [17]) (by kernel_rfl) (by simp) ?_
    refine AllReadyH.cons rfl (fun K hK => ?_) AllReadyH.nil
    simp only [List.getElem_toArray, List.getElem_cons_zero, List.getElem_cons_succ]
    rw [if_neg (Bool.eq_false_iff.1 (by rfl))]
    refine hK.out _ _ (by assumption) (fun hHeld2 => ?_)
    clear hK K
    (try go_frame)
    refine wpAnyH_take (i := 18) (v := undef) rfl (by kernel_rfl) (by kernel_rfl) (by kernel_rfl) (fun _ _ _ h => h) (Or.inr ⟨by rfl, rfl⟩) (by assumption) ?_
    simp only [List.getElem_toArray, List.getElem_cons_zero, List.getElem_cons_succ]
    go_frame
    refine wpAnyH_take (i := 19) (v := ?_) rfl (by kernel_rfl) (by kernel_rfl) (by kernel_rfl) (fun _ _ _ h => h) (Or.inl ⟨by rfl, ?_⟩) (by assumption) ?_
    rotate_left 1
    · (intro w0 hSw; go_simp; try with_reducible rfl)
    simp only [List.getElem_toArray, List.getElem_cons_zero, List.getElem_cons_succ]
    go_frame
    refine wpAnyH_take (i := 20) (v := ?_) rfl (by kernel_rfl) (by kernel_rfl) (by kernel_rfl) (fun _ _ _ h => h) (Or.inl ⟨by rfl, ?_⟩) (by assumption) ?_
    rotate_left 1
    · (intro w0 hSw; go_simp; try with_reducible rfl)
    simp only [List.getElem_toArray, List.getElem_cons_zero, List.getElem_cons_succ]
    go_frame
    refine wpAnyH_done (by kernel_rfl) ?_ _
    go_wp2_with fail
    go_ret
    exact ⟨ret_bb HR.out.symm, grown_trans HG.out HG2.out⟩
  | false =>
    obtain ⟨j, t, rfl, ht, -⟩ := onTb_of (HA.out.2.2.2.2.resolve_left (by rw [hp]; simp))
    have hjl : j < ts.length := (List.getElem?_eq_some_iff.1 ht).1
    have HR : Hid (shlB cd ts ((j : Int) + 1) = (uniB cd t && decide (0 < t.m2))) := by show _ = _; unfold shlB; rw [hp, thN_at ht]; rfl
    have CU : ∀ X, V.grownBy X none → Calls Tryz.prog 133 #[bv, thv t] X fun e w' => e = .returned (.bool (uniB cd t)) ∧ X.grownBy w' none := fun X q => sunit_any bv n cd t X (HA.out.2.1.keep q) (HA.out.2.2.2.1 j t ht).1 (HA.out.2.2.2.1 j t ht).2
    have CS : ∀ X, V.grownBy X none → Calls Tryz.prog 134 #[scnv bv (.slice pt ts.length ct) vf vl, .int .i64 ((j : Int) + 1)] X fun e w' => e = .returned (.int .i64 t.m2) ∧ X.grownBy w' none := fun X q => sshields_any bv _ vf vl ts j t X (HA.out.1.keep q) ht HA.out.2.2.1
    unfold scnv at CS
    rw [hp] at CP
    have j1 : ((j : Int)) < (ts.length : Int) := Int.ofNat_lt.2 hjl
    have wj : wrap64 (j : Int) = (j : Int) := wrS1 hjl HA.out.2.2.1
    have wj2 : IntKind.i64.wrap (j : Int) = (j : Int) := wrS2 hjl HA.out.2.2.1
    obtain ⟨gT, oT, cT, eT, -⟩ := th_there HA.out.1 hjl
    injection eT with eT eT2 eT3
    clear eT2 eT3
    subst eT
    obtain ⟨t0, t1, t2, t3, t4, t5, t6, t7, t8, t9, t10⟩ := th_cells (rec_thV HA.out.1 ht)
    unfold thv at CU
    obtain ⟨u, hu⟩ : ∃ u, u = uniB cd t := ⟨_, rfl⟩
    rw [← hu] at HR
    simp only [← hu] at CU
    clear hp ht hjl hu
    cases u with
    | false =>
      refine wp_region_held_drew (S := fun w' => V.grownBy w' none) (by kernel_rfl) (grown_drew _) (fun hHeld => ?_)
      refine wpAnyH_take (i := 0) (v := ?_) rfl (by kernel_rfl) (by kernel_rfl) (by kernel_rfl) (fun _ _ _ h => h) (Or.inl ⟨by rfl, ?_⟩) (by assumption) ?_
      rotate_left 1
      · (intro w0 hSw; go_simp; try with_reducible rfl)
      simp only [List.getElem_toArray, List.getElem_cons_zero]
      go_frame
      refine wpAnyH_ready (rs := [1]) (by kernel_rfl) (by simp) ?_
      refine AllReadyH.cons rfl (fun K hK => ?_) AllReadyH.nil
      simp only [List.getElem_toArray, List.getElem_cons_zero, List.getElem_cons_succ]
      go_simp
      go_at_call 132
      refine (CP _).mono ?_
      rintro e2 w2 ⟨rfl, q2⟩
      have HG2 : Hid (V.grownBy w2 none) := by rw [q2]; exact grown_drew _
      clear q2
      refine hK.out _ _ (HG2.out) (fun hHeld2 => ?_)
      clear hK K
      (try go_frame)
      refine wpAnyH_take (i := 2) (v := ?_) rfl (by kernel_rfl) (by kernel_rfl) (by kernel_rfl) (fun _ _ _ h => h) (Or.inl ⟨by rfl, ?_⟩) (by assumption) ?_
      rotate_left 1
      · (intro w0 hSw; go_simp; try with_reducible rfl)
      simp only [List.getElem_toArray, List.getElem_cons_zero, List.getElem_cons_succ]
      go_frame
      refine wpAnyH_take (i := 3) (v := ?_) rfl (by kernel_rfl) (by kernel_rfl) (by kernel_rfl) (fun _ _ _ h => h) (Or.inl ⟨by rfl, ?_⟩) (by assumption) ?_
      rotate_left 1
      · (intro w0 hSw; go_simp; try with_reducible rfl)
      simp only [List.getElem_toArray, List.getElem_cons_zero, List.getElem_cons_succ]
      go_frame
      refine wpAnyH_take (i := 4) (v := ?_) rfl (by kernel_rfl) (by kernel_rfl) (by kernel_rfl) (fun _ _ _ h => h) (Or.inl ⟨by rfl, ?_⟩) (by assumption) ?_
      rotate_left 1
      · (intro w0 hSw; go_simp; try with_reducible rfl)
      simp only [List.getElem_toArray, List.getElem_cons_zero, List.getElem_cons_succ]
      go_frame
      refine wpAnyH_take (i := 5) (v := ?_) rfl (by kernel_rfl) (by kernel_rfl) (by kernel_rfl) (fun _ _ _ h => h) (Or.inl ⟨by rfl, ?_⟩) (by assumption) ?_
      rotate_left 1
      · (intro w0 hSw; have c0 := hSw.cell c0 (by simp); go_simp; try with_reducible rfl)
      simp only [List.getElem_toArray, List.getElem_cons_zero, List.getElem_cons_succ]
      go_frame
      refine wpAnyH_take (i := 6) (v := ?_) rfl (by kernel_rfl) (by kernel_rfl) (by kernel_rfl) (fun _ _ _ h => h) (Or.inl ⟨by rfl, ?_⟩) (by assumption) ?_
      rotate_left 1
      · (intro w0 hSw; go_simp; try with_reducible rfl)
      simp only [List.getElem_toArray, List.getElem_cons_zero, List.getElem_cons_succ]
      go_frame
      refine wpAnyH_take (i := 7) (v := ?_) rfl (by kernel_rfl) (by kernel_rfl) (by kernel_rfl) (fun _ _ _ h => h) (Or.inl ⟨by rfl, ?_⟩) (by assumption) ?_
      rotate_left 1
      · (intro w0 hSw; have c1 := hSw.cell c1 (by simp); go_simp; try with_reducible rfl)
      simp only [List.getElem_toArray, List.getElem_cons_zero, List.getElem_cons_succ]
      go_frame
      refine wpAnyH_take (i := 8) (v := ?_) rfl (by kernel_rfl) (by kernel_rfl) (by kernel_rfl) (fun _ _ _ h => h) (Or.inl ⟨by rfl, ?_⟩) (by assumption) ?_
      rotate_left 1
      · (intro w0 hSw; go_simp; try with_reducible rfl)
      simp only [List.getElem_toArray, List.getElem_cons_zero, List.getElem_cons_succ]
      go_frame
      refine wpAnyH_take (i := 9) (v := ?_) rfl (by kernel_rfl) (by kernel_rfl) (by kernel_rfl) (fun _ _ _ h => h) (Or.inl ⟨by rfl, ?_⟩) (by assumption) ?_
      rotate_left 1
      · (intro w0 hSw; go_simp; try with_reducible rfl)
      simp only [List.getElem_toArray, List.getElem_cons_zero, List.getElem_cons_succ]
      go_frame
      refine wpAnyH_take (i := 10) (v := ?_) rfl (by kernel_rfl) (by kernel_rfl) (by kernel_rfl) (fun _ _ _ h => h) (Or.inl ⟨by rfl, ?_⟩) (by assumption) ?_
      rotate_left 1
      · (intro w0 hSw; go_simp; try with_reducible rfl)
      simp only [List.getElem_toArray, List.getElem_cons_zero, List.getElem_cons_succ]
      go_frame
      refine wpAnyH_take (i := 11) (v := ?_) rfl (by kernel_rfl) (by kernel_rfl) (by kernel_rfl) (fun _ _ _ h => h) (Or.inl ⟨by rfl, ?_⟩) (by assumption) ?_
      rotate_left 1
      · (intro w0 hSw; have t0 := hSw.cell t0 (by simp); have t1 := hSw.cell t1 (by simp); have t2 := hSw.cell t2 (by simp); have t3 := hSw.cell t3 (by simp); have t4 := hSw.cell t4 (by simp); have t5 := hSw.cell t5 (by simp); have t6 := hSw.cell t6 (by simp); have t7 := hSw.cell t7 (by simp); have t8 := hSw.cell t8 (by simp); have t9 := hSw.cell t9 (by simp); have t10 := hSw.cell t10 (by simp); go_simp; try with_reducible rfl)
      simp only [List.getElem_toArray, List.getElem_cons_zero, List.getElem_cons_succ]
      go_frame
      refine wpAnyH_ready (rs := [12]) (by kernel_rfl) (by simp) ?_
      refine AllReadyH.cons rfl (fun K hK => ?_) AllReadyH.nil
      simp only [List.getElem_toArray, List.getElem_cons_zero, List.getElem_cons_succ]
      rw [if_pos (by rfl)]
      go_simp
      go_at_call 133
      refine (CU _ HG2.out).mono ?_
      rintro e3 w3 ⟨rfl, g3⟩
      have HG3 : Hid (V.grownBy w3 none) := grown_trans HG2.out g3
      clear g3
      refine hK.out _ _ (HG3.out) (fun hHeld2 => ?_)
      clear hK K
      (try go_frame)
      refine wpAnyH_take (i := 13) (v := ?_) rfl (by kernel_rfl) (by kernel_rfl) (by kernel_rfl) (fun _ _ _ h => h) (Or.inl ⟨by rfl, ?_⟩) (by assumption) ?_
      rotate_left 1
      · (intro w0 hSw; go_simp; try with_reducible rfl)
      simp only [List.getElem_toArray, List.getElem_cons_zero, List.getElem_cons_succ]
      go_frame
      refine wpAnyH_take (i := 14) (v := ?_) rfl (by kernel_rfl) (by kernel_rfl) (by kernel_rfl) (fun _ _ _ h => h) (Or.inl ⟨by rfl, ?_⟩) (by assumption) ?_
      rotate_left 1
      · (intro w0 hSw; go_simp; try with_reducible rfl)
      simp only [List.getElem_toArray, List.getElem_cons_zero, List.getElem_cons_succ]
      go_frame
      refine wpAnyH_take (i := 15) (v := undef) rfl (by kernel_rfl) (by kernel_rfl) (by kernel_rfl) (fun _ _ _ h => h) (Or.inr ⟨by rfl, rfl⟩) (by assumption) ?_
      simp only [List.getElem_toArray, List.getElem_cons_zero, List.getElem_cons_succ]
      go_frame
      refine wpAnyH_take (i := 16) (v := undef) rfl (by kernel_rfl) (by kernel_rfl) (by kernel_rfl) (fun _ _ _ h => h) (Or.inr ⟨by rfl, rfl⟩) (by assumption) ?_
      simp only [List.getElem_toArray, List.getElem_cons_zero, List.getElem_cons_succ]
      go_frame
      refine wpAnyH_ready (rs := [17]) (by kernel_rfl) (by simp) ?_
      refine AllReadyH.cons rfl (fun K hK => ?_) AllReadyH.nil
      simp only [List.getElem_toArray, List.getElem_cons_zero, List.getElem_cons_succ]
      rw [if_neg (Bool.eq_false_iff.1 (by rfl))]
      refine hK.out _ _ (by assumption) (fun hHeld2 => ?_)
      clear hK K
      (try go_frame)
      refine wpAnyH_take (i := 18) (v := undef) rfl (by kernel_rfl) (by kernel_rfl) (by kernel_rfl) (fun _ _ _ h => h) (Or.inr ⟨by rfl, rfl⟩) (by assumption) ?_
      simp only [List.getElem_toArray, List.getElem_cons_zero, List.getElem_cons_succ]
      go_frame
      refine wpAnyH_take (i := 19) (v := ?_) rfl (by kernel_rfl) (by kernel_rfl) (by kernel_rfl) (fun _ _ _ h => h) (Or.inl ⟨by rfl, ?_⟩) (by assumption) ?_
      rotate_left 1
      · (intro w0 hSw; go_simp; try with_reducible rfl)
      simp only [List.getElem_toArray, List.getElem_cons_zero, List.getElem_cons_succ]
      go_frame
      refine wpAnyH_take (i := 20) (v := ?_) rfl (by kernel_rfl) (by kernel_rfl) (by kernel_rfl) (fun _ _ _ h => h) (Or.inl ⟨by rfl, ?_⟩) (by assumption) ?_
      rotate_left 1
      · (intro w0 hSw; go_simp; try with_reducible rfl)
      simp only [List.getElem_toArray, List.getElem_cons_zero, List.getElem_cons_succ]
      go_frame
      refine wpAnyH_done (by kernel_rfl) ?_ _
      go_wp2_with fail
      go_ret
      exact ⟨ret_bb HR.out.symm, grown_trans HG.out HG3.out⟩
    | true =>
      refine wp_region_held_drew (S := fun w' => V.grownBy w' none) (by kernel_rfl) (grown_drew _) (fun hHeld => ?_)
      refine wpAnyH_take (i := 0) (v := ?_) rfl (by kernel_rfl) (by kernel_rfl) (by kernel_rfl) (fun _ _ _ h => h) (Or.inl ⟨by rfl, ?_⟩) (by assumption) ?_
      rotate_left 1
      · (intro w0 hSw; go_simp; try with_reducible rfl)
      simp only [List.getElem_toArray, List.getElem_cons_zero]
      go_frame
      refine wpAnyH_ready (rs := [1]) (by kernel_rfl) (by simp) ?_
      refine AllReadyH.cons rfl (fun K hK => ?_) AllReadyH.nil
      simp only [List.getElem_toArray, List.getElem_cons_zero, List.getElem_cons_succ]
      go_simp
      go_at_call 132
      refine (CP _).mono ?_
      rintro e2 w2 ⟨rfl, q2⟩
      have HG2 : Hid (V.grownBy w2 none) := by rw [q2]; exact grown_drew _
      clear q2
      refine hK.out _ _ (HG2.out) (fun hHeld2 => ?_)
      clear hK K
      (try go_frame)
      refine wpAnyH_take (i := 2) (v := ?_) rfl (by kernel_rfl) (by kernel_rfl) (by kernel_rfl) (fun _ _ _ h => h) (Or.inl ⟨by rfl, ?_⟩) (by assumption) ?_
      rotate_left 1
      · (intro w0 hSw; go_simp; try with_reducible rfl)
      simp only [List.getElem_toArray, List.getElem_cons_zero, List.getElem_cons_succ]
      go_frame
      refine wpAnyH_take (i := 3) (v := ?_) rfl (by kernel_rfl) (by kernel_rfl) (by kernel_rfl) (fun _ _ _ h => h) (Or.inl ⟨by rfl, ?_⟩) (by assumption) ?_
      rotate_left 1
      · (intro w0 hSw; go_simp; try with_reducible rfl)
      simp only [List.getElem_toArray, List.getElem_cons_zero, List.getElem_cons_succ]
      go_frame
      refine wpAnyH_take (i := 4) (v := ?_) rfl (by kernel_rfl) (by kernel_rfl) (by kernel_rfl) (fun _ _ _ h => h) (Or.inl ⟨by rfl, ?_⟩) (by assumption) ?_
      rotate_left 1
      · (intro w0 hSw; go_simp; try with_reducible rfl)
      simp only [List.getElem_toArray, List.getElem_cons_zero, List.getElem_cons_succ]
      go_frame
      refine wpAnyH_take (i := 5) (v := ?_) rfl (by kernel_rfl) (by kernel_rfl) (by kernel_rfl) (fun _ _ _ h => h) (Or.inl ⟨by rfl, ?_⟩) (by assumption) ?_
      rotate_left 1
      · (intro w0 hSw; have c0 := hSw.cell c0 (by simp); go_simp; try with_reducible rfl)
      simp only [List.getElem_toArray, List.getElem_cons_zero, List.getElem_cons_succ]
      go_frame
      refine wpAnyH_take (i := 6) (v := ?_) rfl (by kernel_rfl) (by kernel_rfl) (by kernel_rfl) (fun _ _ _ h => h) (Or.inl ⟨by rfl, ?_⟩) (by assumption) ?_
      rotate_left 1
      · (intro w0 hSw; go_simp; try with_reducible rfl)
      simp only [List.getElem_toArray, List.getElem_cons_zero, List.getElem_cons_succ]
      go_frame
      refine wpAnyH_take (i := 7) (v := ?_) rfl (by kernel_rfl) (by kernel_rfl) (by kernel_rfl) (fun _ _ _ h => h) (Or.inl ⟨by rfl, ?_⟩) (by assumption) ?_
      rotate_left 1
      · (intro w0 hSw; have c1 := hSw.cell c1 (by simp); go_simp; try with_reducible rfl)
      simp only [List.getElem_toArray, List.getElem_cons_zero, List.getElem_cons_succ]
      go_frame
      refine wpAnyH_take (i := 8) (v := ?_) rfl (by kernel_rfl) (by kernel_rfl) (by kernel_rfl) (fun _ _ _ h => h) (Or.inl ⟨by rfl, ?_⟩) (by assumption) ?_
      rotate_left 1
      · (intro w0 hSw; go_simp; try with_reducible rfl)
      simp only [List.getElem_toArray, List.getElem_cons_zero, List.getElem_cons_succ]
      go_frame
      refine wpAnyH_take (i := 9) (v := ?_) rfl (by kernel_rfl) (by kernel_rfl) (by kernel_rfl) (fun _ _ _ h => h) (Or.inl ⟨by rfl, ?_⟩) (by assumption) ?_
      rotate_left 1
      · (intro w0 hSw; go_simp; try with_reducible rfl)
      simp only [List.getElem_toArray, List.getElem_cons_zero, List.getElem_cons_succ]
      go_frame
      refine wpAnyH_take (i := 10) (v := ?_) rfl (by kernel_rfl) (by kernel_rfl) (by kernel_rfl) (fun _ _ _ h => h) (Or.inl ⟨by rfl, ?_⟩) (by assumption) ?_
      rotate_left 1
      · (intro w0 hSw; go_simp; try with_reducible rfl)
      simp only [List.getElem_toArray, List.getElem_cons_zero, List.getElem_cons_succ]
      go_frame
      refine wpAnyH_take (i := 11) (v := ?_) rfl (by kernel_rfl) (by kernel_rfl) (by kernel_rfl) (fun _ _ _ h => h) (Or.inl ⟨by rfl, ?_⟩) (by assumption) ?_
      rotate_left 1
      · (intro w0 hSw; have t0 := hSw.cell t0 (by simp); have t1 := hSw.cell t1 (by simp); have t2 := hSw.cell t2 (by simp); have t3 := hSw.cell t3 (by simp); have t4 := hSw.cell t4 (by simp); have t5 := hSw.cell t5 (by simp); have t6 := hSw.cell t6 (by simp); have t7 := hSw.cell t7 (by simp); have t8 := hSw.cell t8 (by simp); have t9 := hSw.cell t9 (by simp); have t10 := hSw.cell t10 (by simp); go_simp; try with_reducible rfl)
      simp only [List.getElem_toArray, List.getElem_cons_zero, List.getElem_cons_succ]
      go_frame
      refine wpAnyH_ready (rs := [12]) (by kernel_rfl) (by simp) ?_
      refine AllReadyH.cons rfl (fun K hK => ?_) AllReadyH.nil
      simp only [List.getElem_toArray, List.getElem_cons_zero, List.getElem_cons_succ]
      rw [if_pos (by rfl)]
      go_simp
      go_at_call 133
      refine (CU _ HG2.out).mono ?_
      rintro e3 w3 ⟨rfl, g3⟩
      have HG3 : Hid (V.grownBy w3 none) := grown_trans HG2.out g3
      clear g3
      refine hK.out _ _ (HG3.out) (fun hHeld2 => ?_)
      clear hK K
      (try go_frame)
      refine wpAnyH_take (i := 13) (v := ?_) rfl (by kernel_rfl) (by kernel_rfl) (by kernel_rfl) (fun _ _ _ h => h) (Or.inl ⟨by rfl, ?_⟩) (by assumption) ?_
      rotate_left 1
      · (intro w0 hSw; go_simp; try with_reducible rfl)
      simp only [List.getElem_toArray, List.getElem_cons_zero, List.getElem_cons_succ]
      go_frame
      refine wpAnyH_take (i := 14) (v := ?_) rfl (by kernel_rfl) (by kernel_rfl) (by kernel_rfl) (fun _ _ _ h => h) (Or.inl ⟨by rfl, ?_⟩) (by assumption) ?_
      rotate_left 1
      · (intro w0 hSw; go_simp; try with_reducible rfl)
      simp only [List.getElem_toArray, List.getElem_cons_zero, List.getElem_cons_succ]
      go_frame
      refine wpAnyH_take (i := 15) (v := ?_) rfl (by kernel_rfl) (by kernel_rfl) (by kernel_rfl) (fun _ _ _ h => h) (Or.inl ⟨by rfl, ?_⟩) (by assumption) ?_
      rotate_left 1
      · (intro w0 hSw; have c0 := hSw.cell c0 (by simp); have c1 := hSw.cell c1 (by simp); have c2 := hSw.cell c2 (by simp); have c3 := hSw.cell c3 (by simp); go_simp; try with_reducible rfl)
      simp only [List.getElem_toArray, List.getElem_cons_zero, List.getElem_cons_succ]
      go_frame
      refine wpAnyH_take (i := 16) (v := ?_) rfl (by kernel_rfl) (by kernel_rfl) (by kernel_rfl) (fun _ _ _ h => h) (Or.inl ⟨by rfl, ?_⟩) (by assumption) ?_
      rotate_left 1
      · (intro w0 hSw; go_simp; try with_reducible rfl)
      simp only [List.getElem_toArray, List.getElem_cons_zero, List.getElem_cons_succ]
      go_frame
      refine wpAnyH_ready (rs := [17]) (by kernel_rfl) (by simp) ?_
      refine AllReadyH.cons rfl (fun K hK => ?_) AllReadyH.nil
      simp only [List.getElem_toArray, List.getElem_cons_zero, List.getElem_cons_succ]
      rw [if_pos (by rfl)]
      go_simp
      go_at_call 134
      refine (CS _ HG3.out).mono ?_
      rintro e4 w4 ⟨rfl, g4⟩
      have HG4 : Hid (V.grownBy w4 none) := grown_trans HG3.out g4
      clear g4
      refine hK.out _ _ (HG4.out) (fun hHeld2 => ?_)
      clear hK K
      (try go_frame)
      refine wpAnyH_take (i := 18) (v := ?_) rfl (by kernel_rfl) (by kernel_rfl) (by kernel_rfl) (fun _ _ _ h => h) (Or.inl ⟨by rfl, ?_⟩) (by assumption) ?_
      rotate_left 1
      · (intro w0 hSw; go_simp; try with_reducible rfl)
      simp only [List.getElem_toArray, List.getElem_cons_zero, List.getElem_cons_succ]
      go_frame
      refine wpAnyH_take (i := 19) (v := ?_) rfl (by kernel_rfl) (by kernel_rfl) (by kernel_rfl) (fun _ _ _ h => h) (Or.inl ⟨by rfl, ?_⟩) (by assumption) ?_
      rotate_left 1
      · (intro w0 hSw; go_simp; try with_reducible rfl)
      simp only [List.getElem_toArray, List.getElem_cons_zero, List.getElem_cons_succ]
      go_frame
      refine wpAnyH_take (i := 20) (v := ?_) rfl (by kernel_rfl) (by kernel_rfl) (by kernel_rfl) (fun _ _ _ h => h) (Or.inl ⟨by rfl, ?_⟩) (by assumption) ?_
      rotate_left 1
      · (intro w0 hSw; go_simp; try with_reducible rfl)
      simp only [List.getElem_toArray, List.getElem_cons_zero, List.getElem_cons_succ]
      go_frame
      refine wpAnyH_done (by kernel_rfl) ?_ _
      go_wp2_with fail
      go_ret
      exact ⟨ret_bb HR.out.symm, grown_trans HG.out HG4.out⟩
set_option maxRecDepth 100000 in
set_option maxHeartbeats 4000000 in
theorem sswaps_any (bv vt vf vl : Value) (n : Int) (cd : Int → Hd × List Pt) (ts : List Th) (F : List Fe) (s : Sd) (z : Nat) (g : Fe) (h : Hp) (w : World) (I : AIn w bv vt vf n cd ts F s z g) (hm : hpMay ts h = true) : Calls Tryz.prog 88 #[scnv bv vt vf vl, sdv s, hpv h] w fun e w' => e = .returned (.bool (swpB cd ts F s h)) ∧ w.grownBy w' none := by
  obtain ⟨pt, ct, rfl⟩ := I.at1.form
  obtain ⟨pf, cf, rfl⟩ := I.at2.form
  obtain ⟨V, hV⟩ : ∃ V, V = ((w.alloc (.cells #[bv, .slice pt ts.length ct, .slice pf F.length cf, vl] 136)).alloc (.cells #[.int .i64 s.th, .int .i64 s.pl, .int .u8 s.wh.wn, .int .u8 s.wh.vb, .int .u8 s.wh.wm, .int .i64 s.wh.ct, .int .u8 s.wh.su, .int .u8 s.wh.tr, .int .u8 s.wh.mr, .string s.wh.nm] 40)).alloc (.cells #[.int .u8 h.vb, .int .i64 h.on, .int .i64 h.ct, .int .i64 h.ho, .bool h.vn, .bool h.dr] 43) := ⟨_, rfl⟩
  have HG : Hid (w.grownBy V none) := by rw [hV]; exact grown_push (grown_push (World.grownBy_alloc _ _ none) _) _
  have HC : Hid (ScnB V w.heap.size bv (.slice pt ts.length ct) (.slice pf F.length cf) vl) := by rw [hV]; exact grown_keep (grown_push (World.grownBy_alloc _ _ none) _) (alloc_at w _ _) (by simp)
  have HS : Hid (SdB V (w.heap.size + 1) s) := by rw [hV]; exact grown_keep (World.grownBy_alloc _ _ none) (alloc2_b w _ _ _) (by simp)
  have HH : Hid (HpB V (w.heap.size + 1 + 1) h) := by rw [hV]; have := alloc_at ((w.alloc (.cells #[bv, .slice pt ts.length ct, .slice pf F.length cf, vl] 136)).alloc (.cells #[.int .i64 s.th, .int .i64 s.pl, .int .u8 s.wh.wn, .int .u8 s.wh.vb, .int .u8 s.wh.wm, .int .i64 s.wh.ct, .int .u8 s.wh.su, .int .u8 s.wh.tr, .int .u8 s.wh.mr, .string s.wh.nm] 40)) #[.int .u8 h.vb, .int .i64 h.on, .int .i64 h.ct, .int .i64 h.ho, .bool h.vn, .bool h.dr] 43; rw [World.size_alloc, World.size_alloc] at this; exact this
  have HI : Hid (AIn V bv (.slice pt ts.length ct) (.slice pf F.length cf) n cd ts F s z g) := I.keep HG.out
  have hm2 := hpMay_on hm
  have CA := sisAbout_any bv (.slice pt ts.length ct) (.slice pf F.length cf) vl n cd ts F s z g h.on V HI.out hm2.1
  have CF : ∀ X, V.grownBy X none → Calls Tryz.prog 154 #[scnv bv (.slice pt ts.length ct) (.slice pf F.length cf) vl, pv s.wh, hpv h] X fun e w' => e = .returned (.bool (fitN ts s.wh h)) ∧ X.grownBy w' none := fun X q => sfits_any bv _ _ vl ts s.wh h X (HI.out.at1.keep q) HI.out.few hm2.2
  unfold scnv sdv at CA
  unfold scnv pv hpv at CF
  unfold scnv sdv hpv
  have HR : Hid (swpB cd ts F s h = (abtN cd ts F s h.on && fitN ts s.wh h)) := rfl
  clear I hm hm2
  go_enter Tryz.func88, Tryz.ntmps88
  go_upto_region 1 with fail
  rw [← hV]
  clear hV
  obtain ⟨n0, hn0⟩ : ∃ n0, n0 = w.heap.size := ⟨_, rfl⟩
  simp only [← hn0] at HC HS HH ⊢
  obtain ⟨n1, hn1⟩ : ∃ n1, n1 = n0 + 1 := ⟨_, rfl⟩
  simp only [← hn1] at HS HH ⊢
  obtain ⟨n2, hn2⟩ : ∃ n2, n2 = n1 + 1 := ⟨_, rfl⟩
  simp only [← hn2] at HH ⊢
  clear hn0 hn1 hn2
  obtain ⟨c0, c1, c2, c3⟩ := scn_box HC.out
  obtain ⟨s0, s1, s2, s3, s4, s5, s6, s7, s8, s9⟩ := sd_box HS.out
  obtain ⟨x0, x1, x2, x3, x4, x5⟩ := hp_box HH.out
  obtain ⟨a, ha⟩ : ∃ a, a = abtN cd ts F s h.on := ⟨_, rfl⟩
  rw [← ha] at HR CA
  clear ha
  go_wp2_with fail
  refine CA.mono ?_
  rintro e1 w1 ⟨rfl, g1⟩
  have HG1 : Hid (V.grownBy w1 none) := g1
  have HC1 : Hid (ScnB w1 n0 bv (.slice pt ts.length ct) (.slice pf F.length cf) vl) := grown_keep g1 HC.out (by simp)
  have HS1 : Hid (SdB w1 n1 s) := grown_keep g1 HS.out (by simp)
  have HH1 : Hid (HpB w1 n2 h) := grown_keep g1 HH.out (by simp)
  have CF1 := CF w1 HG1.out
  clear CA CF g1 c0 c1 c2 c3 s0 s1 s2 s3 s4 s5 s6 s7 s8 s9 x0 x1 x2 x3 x4 x5
  obtain ⟨c0, c1, c2, c3⟩ := scn_box HC1.out
  obtain ⟨s0, s1, s2, s3, s4, s5, s6, s7, s8, s9⟩ := sd_box HS1.out
  obtain ⟨x0, x1, x2, x3, x4, x5⟩ := hp_box HH1.out
  cases a with
  | false =>
    go_wp2_with fail
    go_ret
    exact ⟨ret_bb HR.out.symm, grown_trans HG.out HG1.out⟩
  | true =>
    go_wp2_with fail
    refine CF1.mono ?_
    rintro e2 w2 ⟨rfl, g2⟩
    have HG2 : Hid (w1.grownBy w2 none) := g2
    clear g2 CF1
    go_wp2_with fail
    go_ret
    exact ⟨ret_bb HR.out.symm, grown_trans HG.out (grown_trans HG1.out HG2.out)⟩
end Go.Proofs.YthfjgpjcepmnmaaGreat
