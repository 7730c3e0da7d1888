/-
  Swaps: whether a thing lies on the table, whether an event may be, whether a part fits an event, whether a thing is shielded.
-/
import Derived.Test.YthfjgpjcepmnmaaGreatS28
import Derived.BigQuiet
namespace Go.Proofs.YthfjgpjcepmnmaaGreat
open Go.RowKit

theorem onTb_low {ts : List Th} {n : Int} (h : ¬ 1 ≤ n) : onTb ts n = false := by unfold onTb; rw [decide_eq_false h, Bool.false_and]
theorem onTb_high {ts : List Th} {n : Int} (h : ¬ n ≤ (ts.length : Int)) : onTb ts n = false := by unfold onTb; rw [decide_eq_false h, Bool.false_and, Bool.and_false]
theorem thN_at {ts : List Th} {j : Nat} {t : Th} (h : ts[j]? = some t) : thN ts ((j : Int) + 1) = t := by unfold thN; rw [show ((j : Int) + 1 - 1).toNat = j by omega, List.getD_eq_getElem?_getD, h]; rfl
theorem onTb_at {ts : List Th} {j : Nat} {t : Th} (h : ts[j]? = some t) : onTb ts ((j : Int) + 1) = decide (t.place = 4) := by
  have hj := (List.getElem?_eq_some_iff.1 h).1
  unfold onTb
  rw [thN_at h, decide_eq_true (by omega), decide_eq_true (by omega), Bool.true_and, Bool.true_and]
theorem onTb_of {ts : List Th} {n : Int} (h : onTb ts n = true) : ∃ (j : Nat) (t : Th), n = (j : Int) + 1 ∧ ts[j]? = some t ∧ t.place = 4 := by
  unfold onTb at h
  simp only [Bool.and_eq_true, decide_eq_true_eq] at h
  obtain ⟨h1, h2, h3⟩ := h
  have hj : (n - 1).toNat < ts.length := by omega
  refine ⟨(n - 1).toNat, ts[(n - 1).toNat], by omega, List.getElem?_eq_getElem hj, ?_⟩
  unfold thN at h3
  rw [List.getD_eq_getElem?_getD, List.getElem?_eq_getElem hj] at h3
  exact h3
set_option maxRecDepth 100000 in
set_option maxHeartbeats 4000000 in
theorem sonTable_any (bv vt vf vl : Value) (ts : List Th) (n : Int) (w : World) (A : thR.At w vt ts) (hl : ts.length ≤ 2048) : Calls Tryz.prog 199 #[scnv bv vt vf vl, .int .i64 n] w fun e w' => e = .returned (.bool (onTb ts n)) ∧ w.grownBy w' none := by
  obtain ⟨pt, ct, rfl⟩ := A.form
  obtain ⟨V, hV⟩ : ∃ V, V = w.alloc (.cells #[bv, .slice pt ts.length ct, vf, vl] 136) := ⟨_, rfl⟩
  have HG : Hid (w.grownBy V none) := by rw [hV]; exact World.grownBy_alloc _ _ none
  have HC : Hid (ScnB V w.heap.size bv (.slice pt ts.length ct) vf vl) := by rw [hV]; exact alloc_at w _ _
  unfold scnv
  by_cases h1 : 1 ≤ n
  · by_cases h2 : n ≤ (ts.length : Int)
    · obtain ⟨j, rfl⟩ : ∃ j : Nat, n = (j : Int) + 1 := ⟨(n - 1).toNat, by omega⟩
      have hjl : j < ts.length := by omega
      obtain ⟨t, ht⟩ : ∃ t, ts[j]? = some t := ⟨_, List.getElem?_eq_getElem hjl⟩
      have HR : Hid (onTb ts ((j : Int) + 1) = (t.place == 4)) := by show _ = _; rw [onTb_at ht, beq_dec]
      have d1 : decide ((1 : Int) ≤ (j : Int) + 1) = true := decide_eq_true h1
      have d2 : decide ((j : Int) + 1 ≤ (ts.length : Int)) = true := decide_eq_true h2
      have z1 : ((j : Int)) < (ts.length : Int) := Int.ofNat_lt.2 hjl
      have wz : wrap64 (j : Int) = (j : Int) := by unfold wrap64; omega
      have wz2 : IntKind.i64.wrap (j : Int) = (j : Int) := by rw [IntWalk.i64_in _ (by omega)]
      obtain ⟨gT, oT, cT, eT, -⟩ := th_there A hjl
      injection eT with eT eT2 eT3
      clear eT2 eT3
      subst eT
      obtain ⟨-, -, t2, -⟩ := th_cells (rec_thV (A.keep HG.out) ht)
      clear A ht hl hjl h1 h2
      go_enter Tryz.func199, Tryz.ntmps199
      go_upto_region 1 with fail
      rw [← hV]
      clear hV
      obtain ⟨-, c1, -, -⟩ := scn_box HC.out
      go_wp2
      go_ret
      exact ⟨ret_bb HR.out.symm, HG.out⟩
    · have HR : Hid (onTb ts n = false) := onTb_high h2
      have d1 : decide (1 ≤ n) = true := decide_eq_true h1
      have d2 : decide (n ≤ (ts.length : Int)) = false := decide_eq_false h2
      clear A hl h1 h2
      go_enter Tryz.func199, Tryz.ntmps199
      go_upto_region 1 with fail
      rw [← hV]
      clear hV
      obtain ⟨-, c1, -, -⟩ := scn_box HC.out
      go_wp2
      go_ret
      exact ⟨ret_bb HR.out.symm, HG.out⟩
  · have HR : Hid (onTb ts n = false) := onTb_low h1
    have d1 : decide (1 ≤ n) = false := decide_eq_false h1
    clear A hl h1
    go_enter Tryz.func199, Tryz.ntmps199
    go_upto_region 1 with fail
    rw [← hV]
    clear hV
    obtain ⟨-, c1, -, -⟩ := scn_box HC.out
    go_wp2
    go_ret
    exact ⟨ret_bb HR.out.symm, HG.out⟩
set_option maxRecDepth 100000 in
set_option maxHeartbeats 4000000 in
theorem smayBe_any (bv vt vf vl : Value) (ts : List Th) (h : Hp) (w : World) (A : thR.At w vt ts) (hl : ts.length ≤ 2048) : Calls Tryz.prog 131 #[scnv bv vt vf vl, hpv h] w fun e w' => e = .returned (.bool (hpMay ts h)) ∧ w.grownBy w' none := by
  obtain ⟨pt, ct, rfl⟩ := A.form
  obtain ⟨V, hV⟩ : ∃ V, V = (w.alloc (.cells #[bv, .slice pt ts.length ct, vf, vl] 136)).alloc (.cells #[.int .u8 h.vb, .int .i64 h.on, .int .i64 h.ct, .int .i64 h.ho, .bool h.vn, .bool h.dr] 43) := ⟨_, rfl⟩
  have HG : Hid (w.grownBy V none) := by rw [hV]; exact grown_push (World.grownBy_alloc _ _ none) _
  have HC : Hid (ScnB V w.heap.size bv (.slice pt ts.length ct) vf vl) := by rw [hV]; exact grown_keep (World.grownBy_alloc _ _ none) (alloc_at w _ _) (by simp)
  have HH : Hid (HpB V (w.heap.size + 1) h) := by rw [hV]; exact alloc2_b _ _ _ _
  have HA : Hid (thR.At V (.slice pt ts.length ct) ts ∧ ts.length ≤ 2048) := ⟨A.keep HG.out, hl⟩
  unfold scnv hpv
  clear A hl
  go_enter Tryz.func131, Tryz.ntmps131
  go_upto_region 1 with fail
  rw [← hV]
  clear hV
  obtain ⟨n0, hn0⟩ : ∃ n0, n0 = w.heap.size := ⟨_, rfl⟩
  simp only [← hn0] at HC HH ⊢
  obtain ⟨n1, hn1⟩ : ∃ n1, n1 = n0 + 1 := ⟨_, rfl⟩
  simp only [← hn1] at HH ⊢
  clear hn0 hn1
  obtain ⟨c0, c1, c2, c3⟩ := scn_box HC.out
  obtain ⟨x0, x1, x2, x3, x4, x5⟩ := hp_box HH.out
  have CT := sonTable_any bv (.slice pt ts.length ct) vf vl ts h.on V HA.out.1 HA.out.2
  unfold scnv at CT
  by_cases v1 : h.vb = 1
  · have HR : Hid (hpMay ts h = ((isPlN h.on || onTb ts h.on) && (decide (-9999 ≤ h.ct) && decide (h.ct ≤ 9999)))) := by show _ = _; unfold hpMay; rw [if_pos v1]
    rw [v1] at x0
    clear v1
    have CP := fun W => sisPlayer_any h.on W
    cases hp : isPlN h.on with
    | true =>
      rw [hp] at CP HR
      clear CT
      cases d1 : decide (-9999 ≤ h.ct) with
      | false =>
        rw [d1] at HR
        go_wp2_with (go_at_call 132; refine (CP _).mono ?_; rintro e1 w1 ⟨rfl, q1⟩; obtain rfl : V = w1 := q1.symm)
        go_ret
        exact ⟨ret_bb HR.out.symm, HG.out⟩
      | true =>
        rw [d1] at HR
        go_wp2_with (go_at_call 132; refine (CP _).mono ?_; rintro e1 w1 ⟨rfl, q1⟩; obtain rfl : V = w1 := q1.symm)
        go_ret
        exact ⟨ret_bb HR.out.symm, HG.out⟩
    | false =>
      rw [hp] at CP HR
      obtain ⟨b, hb⟩ : ∃ b, b = onTb ts h.on := ⟨_, rfl⟩
      rw [← hb] at CT HR
      clear hb
      cases b with
      | false =>
        go_wp2_with (first | (go_at_call 132; refine (CP _).mono ?_; rintro e1 w1 ⟨rfl, q1⟩; obtain rfl : V = w1 := q1.symm) | (go_at_call 199; refine CT.mono ?_; rintro e2 w2 ⟨rfl, g2⟩; have HG2 : Hid (V.grownBy w2 none) := g2; clear g2))
        go_ret
        exact ⟨ret_bb HR.out.symm, grown_trans HG.out HG2.out⟩
      | true =>
        cases d1 : decide (-9999 ≤ h.ct) with
        | false =>
          rw [d1] at HR
          go_wp2_with (first | (go_at_call 132; refine (CP _).mono ?_; rintro e1 w1 ⟨rfl, q1⟩; obtain rfl : V = w1 := q1.symm) | (go_at_call 199; refine CT.mono ?_; rintro e2 w2 ⟨rfl, g2⟩; have HG2 : Hid (V.grownBy w2 none) := g2; have x2 := g2.cell x2 (by simp); clear g2))
          go_ret
          exact ⟨ret_bb HR.out.symm, grown_trans HG.out HG2.out⟩
        | true =>
          rw [d1] at HR
          go_wp2_with (first | (go_at_call 132; refine (CP _).mono ?_; rintro e1 w1 ⟨rfl, q1⟩; obtain rfl : V = w1 := q1.symm) | (go_at_call 199; refine CT.mono ?_; rintro e2 w2 ⟨rfl, g2⟩; have HG2 : Hid (V.grownBy w2 none) := g2; have x2 := g2.cell x2 (by simp); clear g2))
          go_ret
          exact ⟨ret_bb HR.out.symm, grown_trans HG.out HG2.out⟩
  have k1 : (h.vb == 1) = false := by simpa using v1
  by_cases v6 : h.vb = 6
  · have HR : Hid (hpMay ts h = onTb ts h.on) := by show _ = _; unfold hpMay; rw [if_neg v1, if_pos v6]
    rw [v6] at x0
    clear v1 v6 k1
    go_wp2_with (go_at_call 199; refine CT.mono ?_; rintro e2 w2 ⟨rfl, g2⟩; have HG2 : Hid (V.grownBy w2 none) := g2; clear g2)
    go_ret
    exact ⟨ret_bb HR.out.symm, grown_trans HG.out HG2.out⟩
  have k6 : (h.vb == 6) = false := by simpa using v6
  by_cases v3 : h.vb = 3
  · have HR : Hid (hpMay ts h = isPlN h.on) := by show _ = _; unfold hpMay; rw [if_neg v1, if_neg v6, if_pos v3]
    rw [v3] at x0
    have CP := fun W => sisPlayer_any h.on W
    clear v1 v6 v3 k1 k6 CT
    go_wp2_with (go_at_call 132; refine (CP _).mono ?_; rintro e1 w1 ⟨rfl, q1⟩; obtain rfl : V = w1 := q1.symm)
    go_ret
    exact ⟨ret_bb HR.out.symm, HG.out⟩
  have k3 : (h.vb == 3) = false := by simpa using v3
  have HR : Hid (hpMay ts h = false) := by show _ = _; unfold hpMay; rw [if_neg v1, if_neg v6, if_neg v3]
  clear v1 v6 v3 CT
  go_wp2
  go_ret
  exact ⟨ret_bb HR.out.symm, HG.out⟩
set_option maxRecDepth 100000 in
set_option maxHeartbeats 4000000 in
theorem sfits_any (bv vt vf vl : Value) (ts : List Th) (p : Pt) (h : Hp) (w : World) (A : thR.At w vt ts) (hl : ts.length ≤ 2048) (hm : h.vb = 6 → onTb ts h.on = true) : Calls Tryz.prog 154 #[scnv bv vt vf vl, pv p, hpv h] w fun e w' => e = .returned (.bool (fitN ts p h)) ∧ w.grownBy w' none := by
  obtain ⟨pt, ct, rfl⟩ := A.form
  obtain ⟨V, hV⟩ : ∃ V, V = ((w.alloc (.cells #[bv, .slice pt ts.length ct, vf, vl] 136)).alloc (.cells #[.int .u8 p.wn, .int .u8 p.vb, .int .u8 p.wm, .int .i64 p.ct, .int .u8 p.su, .int .u8 p.tr, .int .u8 p.mr, .string p.nm] 38)).alloc (.cells #[.int .u8 h.vb, .int .i64 h.on, .int .i64 h.ct, .int .i64 h.ho, .bool h.vn, .bool h.dr] 43) := ⟨_, rfl⟩
  have HG : Hid (w.grownBy V none) := by rw [hV]; exact grown_push (grown_push (World.grownBy_alloc _ _ none) _) _
  have HC : Hid (ScnB V w.heap.size bv (.slice pt ts.length ct) vf vl) := by rw [hV]; exact grown_keep (grown_push (World.grownBy_alloc _ _ none) _) (alloc_at w _ _) (by simp)
  have HP : Hid (PqB V (w.heap.size + 1) p) := by rw [hV]; exact grown_keep (World.grownBy_alloc _ _ none) (alloc2_b w _ _ _) (by simp)
  have HH : Hid (HpB V (w.heap.size + 1 + 1) h) := by rw [hV]; have := alloc_at ((w.alloc (.cells #[bv, .slice pt ts.length ct, vf, vl] 136)).alloc (.cells #[.int .u8 p.wn, .int .u8 p.vb, .int .u8 p.wm, .int .i64 p.ct, .int .u8 p.su, .int .u8 p.tr, .int .u8 p.mr, .string p.nm] 38)) #[.int .u8 h.vb, .int .i64 h.on, .int .i64 h.ct, .int .i64 h.ho, .bool h.vn, .bool h.dr] 43; rw [World.size_alloc, World.size_alloc] at this; exact this
  have HA : Hid (thR.At V (.slice pt ts.length ct) ts ∧ ts.length ≤ 2048 ∧ (h.vb = 6 → onTb ts h.on = true)) := ⟨A.keep HG.out, hl, hm⟩
  unfold scnv hpv pv
  clear A hl hm
  go_enter Tryz.func154, Tryz.ntmps154
  go_upto_region 1 with fail
  rw [← hV]
  clear hV
  obtain ⟨n0, hn0⟩ : ∃ n0, n0 = w.heap.size := ⟨_, rfl⟩
  simp only [← hn0] at HC HH HP ⊢
  obtain ⟨n1, hn1⟩ : ∃ n1, n1 = n0 + 1 := ⟨_, rfl⟩
  simp only [← hn1] at HH HP ⊢
  obtain ⟨n2, hn2⟩ : ∃ n2, n2 = n1 + 1 := ⟨_, rfl⟩
  simp only [← hn2] at HH ⊢
  clear hn0 hn1 hn2
  obtain ⟨c0, c1, c2, c3⟩ := scn_box HC.out
  obtain ⟨x0, x1, x2, x3, x4, x5⟩ := hp_box HH.out
  obtain ⟨-, p1, p2, p3, -⟩ := pq_box HP.out
  by_cases b19 : p.vb = 19
  · have k19 : (p.vb != 19) = false := by simpa using b19
    by_cases m1 : p.wm = 1
    · have HR : Hid (fitN ts p h = (h.vb == 3)) := by show _ = _; unfold fitN; rw [if_neg (by simpa using b19), if_pos (Or.inl m1), beq_dec]
      rw [m1] at p2
      clear b19 m1
      go_wp2
      go_ret
      exact ⟨ret_bb HR.out.symm, HG.out⟩
    have k1 : (p.wm == 1) = false := by simpa using m1
    by_cases m2 : p.wm = 2
    · have HR : Hid (fitN ts p h = (h.vb == 3)) := by show _ = _; unfold fitN; rw [if_neg (by simpa using b19), if_pos (Or.inr m2), beq_dec]
      rw [m2] at p2
      clear b19 m1 m2 k1
      go_wp2
      go_ret
      exact ⟨ret_bb HR.out.symm, HG.out⟩
    have k2 : (p.wm == 2) = false := by simpa using m2
    have HR : Hid (fitN ts p h = (decide (h.vb = 6) && decide (p.ct ≤ (thN ts h.on).m2))) := by show _ = _; unfold fitN; rw [if_neg (by simpa using b19), if_neg (by simp [m1, m2])]
    by_cases v6 : h.vb = 6
    · obtain ⟨j, t, hj, ht, h4⟩ := onTb_of (HA.out.2.2 v6)
      have CS := sshields_any bv (.slice pt ts.length ct) vf vl ts j t (V.drew) (HA.out.1.keep (grown_drew _)) ht HA.out.2.1
      unfold scnv at CS
      have HQ : Hid (fitN ts p h = decide (p.ct ≤ t.m2)) := by show _ = _; rw [HR.out, decide_eq_true v6, Bool.true_and, hj, thN_at ht]
      rw [v6] at x0
      rw [hj] at x1
      clear b19 m1 m2 v6 HR hj h4 ht
      go_upto_region 5 with fail
      refine wp_region_held_drew (S := fun w' => V.grownBy w' none) (by kernel_rfl) (grown_drew _) (fun hHeld => ?_)
      refine wpAnyH_take (i := 0) (v := ?_) rfl (by kernel_rfl) (by kernel_rfl) (by kernel_rfl) (fun _ _ _ h => h) (Or.inl ⟨by rfl, ?_⟩) (by assumption) ?_
      rotate_left 1
      · (intro w0 hSw; go_simp; try with_reducible rfl)
      simp only [List.getElem_toArray, List.getElem_cons_zero]
      go_frame
      refine wpAnyH_take (i := 1) (v := ?_) rfl (by kernel_rfl) (by kernel_rfl) (by kernel_rfl) (fun _ _ _ h => h) (Or.inl ⟨by rfl, ?_⟩) (by assumption) ?_
      rotate_left 1
      · (intro w0 hSw; have x0 := hSw.cell x0 (by simp); go_simp; try with_reducible rfl)
      simp only [List.getElem_toArray, List.getElem_cons_zero, List.getElem_cons_succ]
      go_frame
      refine wpAnyH_take (i := 2) (v := ?_) rfl (by kernel_rfl) (by kernel_rfl) (by kernel_rfl) (fun _ _ _ h => h) (Or.inl ⟨by rfl, ?_⟩) (by assumption) ?_
      rotate_left 1
      · (intro w0 hSw; go_simp; try with_reducible rfl)
      simp only [List.getElem_toArray, List.getElem_cons_zero, List.getElem_cons_succ]
      go_frame
      refine wpAnyH_take (i := 3) (v := ?_) rfl (by kernel_rfl) (by kernel_rfl) (by kernel_rfl) (fun _ _ _ h => h) (Or.inl ⟨by rfl, ?_⟩) (by assumption) ?_
      rotate_left 1
      · (intro w0 hSw; go_simp; try with_reducible rfl)
      simp only [List.getElem_toArray, List.getElem_cons_zero, List.getElem_cons_succ]
      go_frame
      refine wpAnyH_take (i := 4) (v := ?_) rfl (by kernel_rfl) (by kernel_rfl) (by kernel_rfl) (fun _ _ _ h => h) (Or.inl ⟨by rfl, ?_⟩) (by assumption) ?_
      rotate_left 1
      · (intro w0 hSw; have c0 := hSw.cell c0 (by simp); have c1 := hSw.cell c1 (by simp); have c2 := hSw.cell c2 (by simp); have c3 := hSw.cell c3 (by simp); go_simp; try with_reducible rfl)
      simp only [List.getElem_toArray, List.getElem_cons_zero, List.getElem_cons_succ]
      go_frame
      refine wpAnyH_take (i := 5) (v := ?_) rfl (by kernel_rfl) (by kernel_rfl) (by kernel_rfl) (fun _ _ _ h => h) (Or.inl ⟨by rfl, ?_⟩) (by assumption) ?_
      rotate_left 1
      · (intro w0 hSw; go_simp; try with_reducible rfl)
      simp only [List.getElem_toArray, List.getElem_cons_zero, List.getElem_cons_succ]
      go_frame
      refine wpAnyH_take (i := 6) (v := ?_) rfl (by kernel_rfl) (by kernel_rfl) (by kernel_rfl) (fun _ _ _ h => h) (Or.inl ⟨by rfl, ?_⟩) (by assumption) ?_
      rotate_left 1
      · (intro w0 hSw; have x1 := hSw.cell x1 (by simp); go_simp; try with_reducible rfl)
      simp only [List.getElem_toArray, List.getElem_cons_zero, List.getElem_cons_succ]
      go_frame
      refine wpAnyH_take (i := 8) (v := ?_) rfl (by kernel_rfl) (by kernel_rfl) (by kernel_rfl) (fun _ _ _ h => h) (Or.inl ⟨by rfl, ?_⟩) (by assumption) ?_
      rotate_left 1
      · (intro w0 hSw; go_simp; try with_reducible rfl)
      simp only [List.getElem_toArray, List.getElem_cons_zero, List.getElem_cons_succ]
      go_frame
      refine wpAnyH_take (i := 9) (v := ?_) rfl (by kernel_rfl) (by kernel_rfl) (by kernel_rfl) (fun _ _ _ h => h) (Or.inl ⟨by rfl, ?_⟩) (by assumption) ?_
      rotate_left 1
      · (intro w0 hSw; have p3 := hSw.cell p3 (by simp); go_simp; try with_reducible rfl)
      simp only [List.getElem_toArray, List.getElem_cons_zero, List.getElem_cons_succ]
      go_frame
      refine wpAnyH_ready (rs := [7]) (by kernel_rfl) (by simp) ?_
      refine AllReadyH.cons rfl (fun K hK => ?_) AllReadyH.nil
      simp only [List.getElem_toArray, List.getElem_cons_zero, List.getElem_cons_succ]
      rw [if_pos (by rfl)]
      go_simp
      go_at_call 134
      refine (CS).mono ?_
      rintro e2 w2 ⟨rfl, g2⟩
      have HG2 : Hid (V.grownBy w2 none) := grown_trans (grown_drew _) g2
      clear g2
      refine hK.out _ _ (HG2.out) (fun hHeld2 => ?_)
      clear hK K
      (try go_frame)
      refine wpAnyH_take (i := 10) (v := ?_) rfl (by kernel_rfl) (by kernel_rfl) (by kernel_rfl) (fun _ _ _ h => h) (Or.inl ⟨by rfl, ?_⟩) (by assumption) ?_
      rotate_left 1
      · (intro w0 hSw; go_simp; try with_reducible rfl)
      simp only [List.getElem_toArray, List.getElem_cons_zero, List.getElem_cons_succ]
      go_frame
      refine wpAnyH_take (i := 11) (v := ?_) rfl (by kernel_rfl) (by kernel_rfl) (by kernel_rfl) (fun _ _ _ h => h) (Or.inl ⟨by rfl, ?_⟩) (by assumption) ?_
      rotate_left 1
      · (intro w0 hSw; go_simp; try with_reducible rfl)
      simp only [List.getElem_toArray, List.getElem_cons_zero, List.getElem_cons_succ]
      go_frame
      refine wpAnyH_take (i := 12) (v := ?_) rfl (by kernel_rfl) (by kernel_rfl) (by kernel_rfl) (fun _ _ _ h => h) (Or.inl ⟨by rfl, ?_⟩) (by assumption) ?_
      rotate_left 1
      · (intro w0 hSw; go_simp; try with_reducible rfl)
      simp only [List.getElem_toArray, List.getElem_cons_zero, List.getElem_cons_succ]
      go_frame
      refine wpAnyH_done (by kernel_rfl) ?_ _
      go_wp2_with fail
      go_ret
      exact ⟨ret_bb HQ.out.symm, grown_trans HG.out HG2.out⟩
    · have k6 : (h.vb == 6) = false := by simpa using v6
      have HQ : Hid (fitN ts p h = false) := by show _ = _; rw [HR.out, decide_eq_false v6, Bool.false_and]
      clear b19 m1 m2 v6 HR
      go_upto_region 5 with fail
      refine wp_region_held_drew (S := fun w' => V.grownBy w' none) (by kernel_rfl) (grown_drew _) (fun hHeld => ?_)
      refine wpAnyH_take (i := 0) (v := ?_) rfl (by kernel_rfl) (by kernel_rfl) (by kernel_rfl) (fun _ _ _ h => h) (Or.inl ⟨by rfl, ?_⟩) (by assumption) ?_
      rotate_left 1
      · (intro w0 hSw; go_simp; try with_reducible rfl)
      simp only [List.getElem_toArray, List.getElem_cons_zero]
      go_frame
      refine wpAnyH_take (i := 1) (v := ?_) rfl (by kernel_rfl) (by kernel_rfl) (by kernel_rfl) (fun _ _ _ h => h) (Or.inl ⟨by rfl, ?_⟩) (by assumption) ?_
      rotate_left 1
      · (intro w0 hSw; have x0 := hSw.cell x0 (by simp); go_simp; try with_reducible rfl)
      simp only [List.getElem_toArray, List.getElem_cons_zero, List.getElem_cons_succ]
      go_frame
      refine wpAnyH_take (i := 2) (v := ?_) rfl (by kernel_rfl) (by kernel_rfl) (by kernel_rfl) (fun _ _ _ h => h) (Or.inl ⟨by rfl, ?_⟩) (by assumption) ?_
      rotate_left 1
      · (intro w0 hSw; go_simp; try with_reducible rfl)
      simp only [List.getElem_toArray, List.getElem_cons_zero, List.getElem_cons_succ]
      go_frame
      refine wpAnyH_take (i := 3) (v := ?_) rfl (by kernel_rfl) (by kernel_rfl) (by kernel_rfl) (fun _ _ _ h => h) (Or.inl ⟨by rfl, ?_⟩) (by assumption) ?_
      rotate_left 1
      · (intro w0 hSw; go_simp; try with_reducible rfl)
      simp only [List.getElem_toArray, List.getElem_cons_zero, List.getElem_cons_succ]
      go_frame
      refine wpAnyH_take (i := 4) (v := undef) rfl (by kernel_rfl) (by kernel_rfl) (by kernel_rfl) (fun _ _ _ h => h) (Or.inr ⟨by rfl, rfl⟩) (by assumption) ?_
      simp only [List.getElem_toArray, List.getElem_cons_zero, List.getElem_cons_succ]
      go_frame
      refine wpAnyH_take (i := 5) (v := undef) rfl (by kernel_rfl) (by kernel_rfl) (by kernel_rfl) (fun _ _ _ h => h) (Or.inr ⟨by rfl, rfl⟩) (by assumption) ?_
      simp only [List.getElem_toArray, List.getElem_cons_zero, List.getElem_cons_succ]
      go_frame
      refine wpAnyH_take (i := 6) (v := undef) rfl (by kernel_rfl) (by kernel_rfl) (by kernel_rfl) (fun _ _ _ h => h) (Or.inr ⟨by rfl, rfl⟩) (by assumption) ?_
      simp only [List.getElem_toArray, List.getElem_cons_zero, List.getElem_cons_succ]
      go_frame
      refine wpAnyH_take (i := 8) (v := undef) rfl (by kernel_rfl) (by kernel_rfl) (by kernel_rfl) (fun _ _ _ h => h) (Or.inr ⟨by rfl, rfl⟩) (by assumption) ?_
      simp only [List.getElem_toArray, List.getElem_cons_zero, List.getElem_cons_succ]
      go_frame
      refine wpAnyH_take (i := 9) (v := undef) rfl (by kernel_rfl) (by kernel_rfl) (by kernel_rfl) (fun _ _ _ h => h) (Or.inr ⟨by rfl, rfl⟩) (by assumption) ?_
      simp only [List.getElem_toArray, List.getElem_cons_zero, List.getElem_cons_succ]
      go_frame
      refine wpAnyH_ready (rs := [7]) (by kernel_rfl) (by simp) ?_
      refine AllReadyH.cons rfl (fun K hK => ?_) AllReadyH.nil
      simp only [List.getElem_toArray, List.getElem_cons_zero, List.getElem_cons_succ]
      rw [if_neg (Bool.eq_false_iff.1 (by rfl))]
      refine hK.out _ _ (by assumption) (fun hHeld2 => ?_)
      clear hK K
      (try go_frame)
      refine wpAnyH_take (i := 10) (v := undef) rfl (by kernel_rfl) (by kernel_rfl) (by kernel_rfl) (fun _ _ _ h => h) (Or.inr ⟨by rfl, rfl⟩) (by assumption) ?_
      simp only [List.getElem_toArray, List.getElem_cons_zero, List.getElem_cons_succ]
      go_frame
      refine wpAnyH_take (i := 11) (v := ?_) rfl (by kernel_rfl) (by kernel_rfl) (by kernel_rfl) (fun _ _ _ h => h) (Or.inl ⟨by rfl, ?_⟩) (by assumption) ?_
      rotate_left 1
      · (intro w0 hSw; go_simp; try with_reducible rfl)
      simp only [List.getElem_toArray, List.getElem_cons_zero, List.getElem_cons_succ]
      go_frame
      refine wpAnyH_take (i := 12) (v := ?_) rfl (by kernel_rfl) (by kernel_rfl) (by kernel_rfl) (fun _ _ _ h => h) (Or.inl ⟨by rfl, ?_⟩) (by assumption) ?_
      rotate_left 1
      · (intro w0 hSw; go_simp; try with_reducible rfl)
      simp only [List.getElem_toArray, List.getElem_cons_zero, List.getElem_cons_succ]
      go_frame
      refine wpAnyH_done (by kernel_rfl) ?_ _
      go_wp2_with fail
      go_ret
      exact ⟨ret_bb HQ.out.symm, grown_trans HG.out (by assumption)⟩
  · have k19 : (p.vb != 19) = true := by simpa using b19
    have HR : Hid (fitN ts p h = (h.vb == 1)) := by show _ = _; unfold fitN; rw [if_pos b19, beq_dec]
    clear b19
    go_wp2
    go_ret
    exact ⟨ret_bb HR.out.symm, HG.out⟩
end Go.Proofs.YthfjgpjcepmnmaaGreat
