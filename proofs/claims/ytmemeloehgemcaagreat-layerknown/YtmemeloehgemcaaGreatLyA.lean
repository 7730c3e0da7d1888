/-
  Layers: whom an effect is about.
-/
import Derived.Test.YtmemeloehgemcaaGreatK18
namespace Go.Proofs.YtmemeloehgemcaaGreat
open Go.RowKit

theorem ret_bb {a b : Bool} (h : a = b) : Ending.returned (.bool a) = Ending.returned (.bool b) := by rw [h]
theorem grown_set5 {a b : World} {c : Nat} (h : a.grownBy b none) (hc : a.heap.size ≤ c) (v0 v1 v2 v3 v4 : Value) : a.grownBy (((((b.setCell ⟨c, 0, none⟩ v0).setCell ⟨c, 1, none⟩ v1).setCell ⟨c, 2, none⟩ v2).setCell ⟨c, 3, none⟩ v3).setCell ⟨c, 4, none⟩ v4) none := grown_own h (((((grown_set _ _ _ _).trans (grown_set _ _ _ _)).trans (grown_set _ _ _ _)).trans (grown_set _ _ _ _)).trans (grown_set _ _ _ _)) (fun y e => by cases e; exact hc)
theorem beq_dec (a b : Int) : (a == b) = decide (a = b) := by rw [Bool.eq_iff_iff]; simp
theorem bne_dec (a b : Int) : (a != b) = !decide (a = b) := by rw [Bool.eq_iff_iff]; simp
theorem nat_beq (a b : Nat) : ((a : Int) == (b : Int)) = decide (a = b) := by rw [Bool.eq_iff_iff]; simp; omega
set_option maxRecDepth 100000 in
set_option maxHeartbeats 4000000 in
theorem isAbout_self (vr vf : Value) (X : List Rv) (F : List Fe) (e : Se) (i : Nat) (w : World) (T : TbAt w vr vf X F) (hi : i < X.length) (hr : e.ro < X.length) (hw : e.s.wh.wm = 4) : Calls Tryz.prog 101 #[tbv vr vf, sev e, .int .i64 (i : Int)] w fun e' w' => e' = .returned (.bool (isAbB (rws X) F e i)) ∧ w.grownBy w' none := by
  obtain ⟨gr, rof, rcap, rfl, Rr⟩ := T.row hi
  obtain ⟨gf, fof, fcap, e1, Rf⟩ := T.fe hi
  obtain ⟨gf', fof', fcap', e2, Rh⟩ := T.fe hr
  rw [e1] at e2
  cases e2
  subst e1
  have hl : F.length = X.length := T.len
  have h16 : X.length ≤ 16 := T.few
  have HEx : Hid (isAbB (rws X) F e i = meantB e.s.wh (decide (i = e.ro)) X[i].r.h.kd (F.getD i Fe.none) (F.getD e.ro Fe.none).ho) := by show isAbB _ _ _ _ = _; unfold isAbB; rw [rws_get hi]
  obtain ⟨f, hf⟩ : ∃ f, f = F.getD i Fe.none := ⟨_, rfl⟩
  obtain ⟨ho, hho⟩ : ∃ ho, ho = (F.getD e.ro Fe.none).ho := ⟨_, rfl⟩
  obtain ⟨x, hx⟩ : ∃ x, x = X[i] := ⟨_, rfl⟩
  rw [← hf, ← hho, ← hx] at HEx
  rw [← hf] at Rf
  rw [← hx] at Rr
  obtain ⟨W1, hW1⟩ : ∃ W1, W1 = (w.alloc (.cells #[.slice (some ⟨gr, rof, none⟩) X.length rcap, .slice (some ⟨gf, fof, none⟩) F.length fcap] 118)).alloc (.cells #[.int .i64 e.s.th, .int .i64 e.s.pl, .int .u8 e.s.wh.wn, .int .u8 e.s.wh.vb, .int .u8 e.s.wh.wm, .int .i64 e.s.wh.ct, .int .u8 e.s.wh.su, .int .u8 e.s.wh.tr, .int .u8 e.s.wh.mr, .string e.s.wh.nm, .int .i64 (e.ro : Int)] 123) := ⟨_, rfl⟩
  have HG1 : Hid (w.grownBy W1 none) := by rw [hW1]; exact grown_push (World.grownBy_alloc _ _ none) _
  have HB : Hid (TbB W1 w.heap.size (.slice (some ⟨gr, rof, none⟩) X.length rcap) (.slice (some ⟨gf, fof, none⟩) F.length fcap)) := by rw [hW1]; exact grown_keep (World.grownBy_alloc _ _ none) (alloc_at w _ _) (by simp)
  have HS : Hid (SeB W1 (w.heap.size + 1) e) := by rw [hW1]; exact alloc2_b _ _ _ _
  have HRr : Hid (W1.rangeAt gr (rof + i * 11) (rvc x)) := rangeAt_keep Rr HG1.out
  have HRf : Hid (W1.rangeAt gf (fof + i * 5) (fec f)) := rangeAt_keep Rf HG1.out
  have HRh : Hid (W1.rangeAt gf (fof + e.ro * 5) (fec (F.getD e.ro Fe.none))) := rangeAt_keep Rh HG1.out
  have hi' : (i : Int) < X.length := by omega
  have hr' : (e.ro : Int) < X.length := by omega
  have hif : (i : Int) < F.length := by omega
  have hrf : (e.ro : Int) < F.length := by omega
  have Hho : Hid (ho = (F.getD e.ro Fe.none).ho) := hho
  unfold tbv sev
  have Hhw : Hid (e.s.wh.wm = 4) := hw
  clear hw
  clear T Rr Rf Rh hf hho hx hi hr hl h16
  go_enter Tryz.func101, Tryz.ntmps101
  go_upto_region 1 with fail
  rw [← hW1]
  clear hW1
  obtain ⟨n0, h0⟩ : ∃ n0, n0 = w.heap.size := ⟨_, rfl⟩
  simp only [← h0] at HB HS ⊢
  obtain ⟨n1, h1⟩ : ∃ n1, n1 = n0 + 1 := ⟨_, rfl⟩
  simp only [← h1] at HS ⊢
  clear h0 h1
  obtain ⟨b0, b1⟩ := tb_box HB.out
  obtain ⟨s0, s1, s2, s3, s4, s5, s6, s7, s8, s9, s10⟩ := se_box HS.out
  obtain ⟨r0, r1, r2, r3, r4, r5, r6, r7, r8, r9, r10⟩ := rv_cells HRr.out
  obtain ⟨f0, f1, f2, f3, f4⟩ := fe_cells HRf.out
  have g0 := (fe_cells HRh.out).1
  rw [← Hho.out] at g0
  clear r0 r1 r2 r3 r5 r6 r7 r8 r9 r10 s0 s1 s2 s3 s5 s7 s8 s9
  rw [Hhw.out] at s4
  have HY : Hid (isAbB (rws X) F e i = ((i : Int) == (e.ro : Int))) := by rw [nat_beq]; show _ = _; rw [HEx.out]; unfold meantB; rw [if_pos Hhw.out]
  go_wp2
  go_ret
  exact ⟨ret_bb HY.out.symm, HG1.out⟩
set_option maxRecDepth 100000 in
set_option maxHeartbeats 4000000 in
theorem isAbout_no (vr vf : Value) (X : List Rv) (F : List Fe) (e : Se) (i : Nat) (w : World) (T : TbAt w vr vf X F) (hi : i < X.length) (hr : e.ro < X.length) (hw : e.s.wh.wm ≠ 4) (hk : X[i].r.h.kd ≠ 1) : Calls Tryz.prog 101 #[tbv vr vf, sev e, .int .i64 (i : Int)] w fun e' w' => e' = .returned (.bool (isAbB (rws X) F e i)) ∧ w.grownBy w' none := by
  obtain ⟨gr, rof, rcap, rfl, Rr⟩ := T.row hi
  obtain ⟨gf, fof, fcap, e1, Rf⟩ := T.fe hi
  obtain ⟨gf', fof', fcap', e2, Rh⟩ := T.fe hr
  rw [e1] at e2
  cases e2
  subst e1
  have hl : F.length = X.length := T.len
  have h16 : X.length ≤ 16 := T.few
  have HEx : Hid (isAbB (rws X) F e i = meantB e.s.wh (decide (i = e.ro)) X[i].r.h.kd (F.getD i Fe.none) (F.getD e.ro Fe.none).ho) := by show isAbB _ _ _ _ = _; unfold isAbB; rw [rws_get hi]
  obtain ⟨f, hf⟩ : ∃ f, f = F.getD i Fe.none := ⟨_, rfl⟩
  obtain ⟨ho, hho⟩ : ∃ ho, ho = (F.getD e.ro Fe.none).ho := ⟨_, rfl⟩
  obtain ⟨x, hx⟩ : ∃ x, x = X[i] := ⟨_, rfl⟩
  rw [← hf, ← hho, ← hx] at HEx
  rw [← hf] at Rf
  rw [← hx] at Rr
  obtain ⟨W1, hW1⟩ : ∃ W1, W1 = (w.alloc (.cells #[.slice (some ⟨gr, rof, none⟩) X.length rcap, .slice (some ⟨gf, fof, none⟩) F.length fcap] 118)).alloc (.cells #[.int .i64 e.s.th, .int .i64 e.s.pl, .int .u8 e.s.wh.wn, .int .u8 e.s.wh.vb, .int .u8 e.s.wh.wm, .int .i64 e.s.wh.ct, .int .u8 e.s.wh.su, .int .u8 e.s.wh.tr, .int .u8 e.s.wh.mr, .string e.s.wh.nm, .int .i64 (e.ro : Int)] 123) := ⟨_, rfl⟩
  have HG1 : Hid (w.grownBy W1 none) := by rw [hW1]; exact grown_push (World.grownBy_alloc _ _ none) _
  have HB : Hid (TbB W1 w.heap.size (.slice (some ⟨gr, rof, none⟩) X.length rcap) (.slice (some ⟨gf, fof, none⟩) F.length fcap)) := by rw [hW1]; exact grown_keep (World.grownBy_alloc _ _ none) (alloc_at w _ _) (by simp)
  have HS : Hid (SeB W1 (w.heap.size + 1) e) := by rw [hW1]; exact alloc2_b _ _ _ _
  have HRr : Hid (W1.rangeAt gr (rof + i * 11) (rvc x)) := rangeAt_keep Rr HG1.out
  have HRf : Hid (W1.rangeAt gf (fof + i * 5) (fec f)) := rangeAt_keep Rf HG1.out
  have HRh : Hid (W1.rangeAt gf (fof + e.ro * 5) (fec (F.getD e.ro Fe.none))) := rangeAt_keep Rh HG1.out
  have hi' : (i : Int) < X.length := by omega
  have hr' : (e.ro : Int) < X.length := by omega
  have hif : (i : Int) < F.length := by omega
  have hrf : (e.ro : Int) < F.length := by omega
  have Hho : Hid (ho = (F.getD e.ro Fe.none).ho) := hho
  unfold tbv sev
  rw [← hx] at hk
  clear T Rr Rf Rh hf hho hx hi hr hl h16
  go_enter Tryz.func101, Tryz.ntmps101
  go_upto_region 1 with fail
  rw [← hW1]
  clear hW1
  obtain ⟨n0, h0⟩ : ∃ n0, n0 = w.heap.size := ⟨_, rfl⟩
  simp only [← h0] at HB HS ⊢
  obtain ⟨n1, h1⟩ : ∃ n1, n1 = n0 + 1 := ⟨_, rfl⟩
  simp only [← h1] at HS ⊢
  clear h0 h1
  obtain ⟨b0, b1⟩ := tb_box HB.out
  obtain ⟨s0, s1, s2, s3, s4, s5, s6, s7, s8, s9, s10⟩ := se_box HS.out
  obtain ⟨r0, r1, r2, r3, r4, r5, r6, r7, r8, r9, r10⟩ := rv_cells HRr.out
  obtain ⟨f0, f1, f2, f3, f4⟩ := fe_cells HRf.out
  have g0 := (fe_cells HRh.out).1
  rw [← Hho.out] at g0
  clear r0 r1 r2 r3 r5 r6 r7 r8 r9 r10 s0 s1 s2 s3 s5 s7 s8 s9
  have e4 : (e.s.wh.wm == 4) = false := by simpa using hw
  have e5 : (x.r.h.kd != 1) = true := by simpa using hk
  have HY : Hid (isAbB (rws X) F e i = false) := by show _ = _; rw [HEx.out]; unfold meantB; rw [if_neg hw, if_pos hk]
  clear hw hk
  go_wp2
  go_ret
  exact ⟨ret_bb HY.out.symm, HG1.out⟩
set_option maxRecDepth 100000 in
set_option maxHeartbeats 4000000 in
theorem isAbout_unit (vr vf : Value) (X : List Rv) (F : List Fe) (e : Se) (i : Nat) (w : World) (T : TbAt w vr vf X F) (hi : i < X.length) (hr : e.ro < X.length) (hw : e.s.wh.wm ≠ 4) (hk : X[i].r.h.kd = 1) : Calls Tryz.prog 101 #[tbv vr vf, sev e, .int .i64 (i : Int)] w fun e' w' => e' = .returned (.bool (isAbB (rws X) F e i)) ∧ w.grownBy w' none := by
  obtain ⟨gr, rof, rcap, rfl, Rr⟩ := T.row hi
  obtain ⟨gf, fof, fcap, e1, Rf⟩ := T.fe hi
  obtain ⟨gf', fof', fcap', e2, Rh⟩ := T.fe hr
  rw [e1] at e2
  cases e2
  subst e1
  have hl : F.length = X.length := T.len
  have h16 : X.length ≤ 16 := T.few
  have HEx : Hid (isAbB (rws X) F e i = meantB e.s.wh (decide (i = e.ro)) X[i].r.h.kd (F.getD i Fe.none) (F.getD e.ro Fe.none).ho) := by show isAbB _ _ _ _ = _; unfold isAbB; rw [rws_get hi]
  obtain ⟨f, hf⟩ : ∃ f, f = F.getD i Fe.none := ⟨_, rfl⟩
  obtain ⟨ho, hho⟩ : ∃ ho, ho = (F.getD e.ro Fe.none).ho := ⟨_, rfl⟩
  obtain ⟨x, hx⟩ : ∃ x, x = X[i] := ⟨_, rfl⟩
  rw [← hf, ← hho, ← hx] at HEx
  rw [← hf] at Rf
  rw [← hx] at Rr
  obtain ⟨W1, hW1⟩ : ∃ W1, W1 = (w.alloc (.cells #[.slice (some ⟨gr, rof, none⟩) X.length rcap, .slice (some ⟨gf, fof, none⟩) F.length fcap] 118)).alloc (.cells #[.int .i64 e.s.th, .int .i64 e.s.pl, .int .u8 e.s.wh.wn, .int .u8 e.s.wh.vb, .int .u8 e.s.wh.wm, .int .i64 e.s.wh.ct, .int .u8 e.s.wh.su, .int .u8 e.s.wh.tr, .int .u8 e.s.wh.mr, .string e.s.wh.nm, .int .i64 (e.ro : Int)] 123) := ⟨_, rfl⟩
  have HG1 : Hid (w.grownBy W1 none) := by rw [hW1]; exact grown_push (World.grownBy_alloc _ _ none) _
  have HB : Hid (TbB W1 w.heap.size (.slice (some ⟨gr, rof, none⟩) X.length rcap) (.slice (some ⟨gf, fof, none⟩) F.length fcap)) := by rw [hW1]; exact grown_keep (World.grownBy_alloc _ _ none) (alloc_at w _ _) (by simp)
  have HS : Hid (SeB W1 (w.heap.size + 1) e) := by rw [hW1]; exact alloc2_b _ _ _ _
  have HRr : Hid (W1.rangeAt gr (rof + i * 11) (rvc x)) := rangeAt_keep Rr HG1.out
  have HRf : Hid (W1.rangeAt gf (fof + i * 5) (fec f)) := rangeAt_keep Rf HG1.out
  have HRh : Hid (W1.rangeAt gf (fof + e.ro * 5) (fec (F.getD e.ro Fe.none))) := rangeAt_keep Rh HG1.out
  have hi' : (i : Int) < X.length := by omega
  have hr' : (e.ro : Int) < X.length := by omega
  have hif : (i : Int) < F.length := by omega
  have hrf : (e.ro : Int) < F.length := by omega
  have Hho : Hid (ho = (F.getD e.ro Fe.none).ho) := hho
  unfold tbv sev
  rw [← hx] at hk
  have Hhk : Hid (x.r.h.kd = 1) := hk
  clear hk
  clear T Rr Rf Rh hf hho hx hi hr hl h16
  go_enter Tryz.func101, Tryz.ntmps101
  go_upto_region 1 with fail
  rw [← hW1]
  clear hW1
  obtain ⟨n0, h0⟩ : ∃ n0, n0 = w.heap.size := ⟨_, rfl⟩
  simp only [← h0] at HB HS ⊢
  obtain ⟨n1, h1⟩ : ∃ n1, n1 = n0 + 1 := ⟨_, rfl⟩
  simp only [← h1] at HS ⊢
  clear h0 h1
  obtain ⟨b0, b1⟩ := tb_box HB.out
  obtain ⟨s0, s1, s2, s3, s4, s5, s6, s7, s8, s9, s10⟩ := se_box HS.out
  obtain ⟨r0, r1, r2, r3, r4, r5, r6, r7, r8, r9, r10⟩ := rv_cells HRr.out
  obtain ⟨f0, f1, f2, f3, f4⟩ := fe_cells HRf.out
  have g0 := (fe_cells HRh.out).1
  rw [← Hho.out] at g0
  clear r0 r1 r2 r3 r5 r6 r7 r8 r9 r10 s0 s1 s2 s3 s5 s8 s9
  rw [Hhk.out] at r4
  have e4 : (e.s.wh.wm == 4) = false := by simpa using hw
  have Hw : Hid (¬ e.s.wh.wm = 4) := hw
  clear hw
  go_upto_region 6 with fail
  refine wp_region_held_drew (S := fun w' => W1.grownBy w' none) (by kernel_rfl) (grown_drew _) (fun hHeld => ?_)
  refine wpAnyH_take (i := 0) (v := ?_) rfl (by kernel_rfl) (by kernel_rfl) (by kernel_rfl) (fun _ _ _ h => h) (Or.inl ⟨by rfl, ?_⟩) (by assumption) ?_
  rotate_left 1
  · (intro w0 hSw; go_simp; try with_reducible rfl)
  simp only [List.getElem_toArray, List.getElem_cons_zero]
  go_frame
  refine wpAnyH_take (i := 1) (v := ?_) rfl (by kernel_rfl) (by kernel_rfl) (by kernel_rfl) (fun _ _ _ h => h) (Or.inl ⟨by rfl, ?_⟩) (by assumption) ?_
  rotate_left 1
  · (intro w0 hSw; have b1 := hSw.cell b1 (by simp); go_simp; try with_reducible rfl)
  simp only [List.getElem_toArray, List.getElem_cons_zero, List.getElem_cons_succ]
  go_frame
  refine wpAnyH_take (i := 2) (v := ?_) rfl (by kernel_rfl) (by kernel_rfl) (by kernel_rfl) (fun _ _ _ h => h) (Or.inl ⟨by rfl, ?_⟩) (by assumption) ?_
  rotate_left 1
  · (intro w0 hSw; go_simp; try with_reducible rfl)
  simp only [List.getElem_toArray, List.getElem_cons_zero, List.getElem_cons_succ]
  go_frame
  refine wpAnyH_take (i := 3) (v := ?_) rfl (by kernel_rfl) (by kernel_rfl) (by kernel_rfl) (fun _ _ _ h => h) (Or.inl ⟨by rfl, ?_⟩) (by assumption) ?_
  rotate_left 1
  · (intro w0 hSw; go_simp; try with_reducible rfl)
  simp only [List.getElem_toArray, List.getElem_cons_zero, List.getElem_cons_succ]
  go_frame
  refine wpAnyH_take (i := 4) (v := ?_) rfl (by kernel_rfl) (by kernel_rfl) (by kernel_rfl) (fun _ _ _ h => h) (Or.inl ⟨by rfl, ?_⟩) (by assumption) ?_
  rotate_left 1
  · (intro w0 hSw; have f0 := hSw.cell f0 (by simp); have f1 := hSw.cell f1 (by simp); have f2 := hSw.cell f2 (by simp); have f3 := hSw.cell f3 (by simp); have f4 := hSw.cell f4 (by simp); go_simp; try with_reducible rfl)
  simp only [List.getElem_toArray, List.getElem_cons_zero, List.getElem_cons_succ]
  go_frame
  refine wpAnyH_take (i := 5) (v := ?_) rfl (by kernel_rfl) (by kernel_rfl) (by kernel_rfl) (fun _ _ _ h => h) (Or.inl ⟨by rfl, ?_⟩) (by assumption) ?_
  rotate_left 1
  · (intro w0 hSw; go_simp; try with_reducible rfl)
  simp only [List.getElem_toArray, List.getElem_cons_zero, List.getElem_cons_succ]
  go_frame
  refine wpAnyH_take (i := 6) (v := ?_) rfl (by kernel_rfl) (by kernel_rfl) (by kernel_rfl) (fun _ _ _ h => h) (Or.inl ⟨by rfl, ?_⟩) (by assumption) ?_
  rotate_left 1
  · (intro w0 hSw; have b1 := hSw.cell b1 (by simp); go_simp; try with_reducible rfl)
  simp only [List.getElem_toArray, List.getElem_cons_zero, List.getElem_cons_succ]
  go_frame
  refine wpAnyH_take (i := 7) (v := ?_) rfl (by kernel_rfl) (by kernel_rfl) (by kernel_rfl) (fun _ _ _ h => h) (Or.inl ⟨by rfl, ?_⟩) (by assumption) ?_
  rotate_left 1
  · (intro w0 hSw; go_simp; try with_reducible rfl)
  simp only [List.getElem_toArray, List.getElem_cons_zero, List.getElem_cons_succ]
  go_frame
  refine wpAnyH_take (i := 8) (v := ?_) rfl (by kernel_rfl) (by kernel_rfl) (by kernel_rfl) (fun _ _ _ h => h) (Or.inl ⟨by rfl, ?_⟩) (by assumption) ?_
  rotate_left 1
  · (intro w0 hSw; have s10 := hSw.cell s10 (by simp); go_simp; try with_reducible rfl)
  simp only [List.getElem_toArray, List.getElem_cons_zero, List.getElem_cons_succ]
  go_frame
  refine wpAnyH_take (i := 9) (v := ?_) rfl (by kernel_rfl) (by kernel_rfl) (by kernel_rfl) (fun _ _ _ h => h) (Or.inl ⟨by rfl, ?_⟩) (by assumption) ?_
  rotate_left 1
  · (intro w0 hSw; go_simp; try with_reducible rfl)
  simp only [List.getElem_toArray, List.getElem_cons_zero, List.getElem_cons_succ]
  go_frame
  refine wpAnyH_take (i := 10) (v := ?_) rfl (by kernel_rfl) (by kernel_rfl) (by kernel_rfl) (fun _ _ _ h => h) (Or.inl ⟨by rfl, ?_⟩) (by assumption) ?_
  rotate_left 1
  · (intro w0 hSw; go_simp; try with_reducible rfl)
  simp only [List.getElem_toArray, List.getElem_cons_zero, List.getElem_cons_succ]
  go_frame
  refine wpAnyH_take (i := 11) (v := ?_) rfl (by kernel_rfl) (by kernel_rfl) (by kernel_rfl) (fun _ _ _ h => h) (Or.inl ⟨by rfl, ?_⟩) (by assumption) ?_
  rotate_left 1
  · (intro w0 hSw; have g0 := hSw.cell g0 (by simp); go_simp; try with_reducible rfl)
  simp only [List.getElem_toArray, List.getElem_cons_zero, List.getElem_cons_succ]
  go_frame
  refine wpAnyH_ready (rs := [12]) (by kernel_rfl) (by simp) ?_
  refine AllReadyH.cons rfl (fun K9 hK => ?_) AllReadyH.nil
  simp only [List.getElem_toArray, List.getElem_cons_zero, List.getElem_cons_succ]
  go_simp
  refine hK.out _ _ (grown_trans (grown_push (grown_refl _ _) _) (grown_drew _)) (fun hHeld3 => ?_)
  clear hK K9
  (try go_frame)
  obtain ⟨V1, hV1⟩ : ∃ V1, V1 = (W1.alloc (.cells #[.int .i64 0, .int .u8 0, .int .u16 0, .int .i64 0, .int .i64 0] 64)).drew := ⟨_, rfl⟩
  rw [← hV1] at hHeld3 ⊢
  have HB1 : Hid (V1.heap[W1.heap.size]? = some (.cells #[.int .i64 0, .int .u8 0, .int .u16 0, .int .i64 0, .int .i64 0] 64 (0, 0))) := by rw [hV1]; exact alloc_at W1 _ _
  have HGV : Hid (W1.grownBy V1 none) := hHeld3
  obtain ⟨n2, h2⟩ : ∃ n2, n2 = W1.heap.size := ⟨_, rfl⟩
  have Hn2 : Hid (W1.heap.size ≤ n2 ∧ w.heap.size ≤ n2) := by have := HG1.out.size; show _ ∧ _; omega
  rw [← h2] at HB1 ⊢
  clear hV1 h2
  have z0 := (block_cell HB1.out 0).trans (show _ = some (.int .i64 0) from rfl)
  have z1 := (block_cell HB1.out 1).trans (show _ = some (.int .u8 0) from rfl)
  have z2 := (block_cell HB1.out 2).trans (show _ = some (.int .u16 0) from rfl)
  have z3 := (block_cell HB1.out 3).trans (show _ = some (.int .i64 0) from rfl)
  have z4 := (block_cell HB1.out 4).trans (show _ = some (.int .i64 0) from rfl)
  have zf := fun i => block_free HB1.out i
  refine wpAnyH_ready (rs := [13]) (by kernel_rfl) (by simp) ?_
  refine AllReadyH.cons rfl (fun K9 hK => ?_) AllReadyH.nil
  simp only [List.getElem_toArray, List.getElem_cons_zero, List.getElem_cons_succ]
  go_simp
  refine hK.out _ _ (grown_set5 HGV.out Hn2.out.1 _ _ _ _ _) (fun hHeld3 => ?_)
  clear hK K9
  (try go_frame)
  refine wpAnyH_take (i := 14) (v := ?_) rfl (by kernel_rfl) (by kernel_rfl) (by kernel_rfl) (fun _ _ _ h => h) (Or.inl ⟨by rfl, ?_⟩) (by assumption) ?_
  rotate_left 1
  · (intro w0 hSw; go_simp; try with_reducible rfl)
  simp only [List.getElem_toArray, List.getElem_cons_zero, List.getElem_cons_succ]
  go_frame
  refine wpAnyH_done (by kernel_rfl) ?_ _
  obtain ⟨V, hV⟩ : ∃ V, V = ((((V1.setCell ⟨n2, 0, none⟩ (.int .i64 f.ho)).setCell ⟨n2, 1, none⟩ (.int .u8 f.su)).setCell ⟨n2, 2, none⟩ (.int .u16 f.tr)).setCell ⟨n2, 3, none⟩ (.int .i64 f.po)).setCell ⟨n2, 4, none⟩ (.int .i64 f.he) := ⟨_, rfl⟩
  rw [← hV]
  have HG : Hid (w.grownBy V none) := by rw [hV]; exact grown_trans HG1.out (grown_set5 HGV.out Hn2.out.1 _ _ _ _ _)
  have HG' : W1.grownBy V none := by rw [hV]; exact grown_set5 HGV.out Hn2.out.1 _ _ _ _ _
  have HB2 : Hid (V.heap[n2]? = some (.cells #[.int .i64 f.ho, .int .u8 f.su, .int .u16 f.tr, .int .i64 f.po, .int .i64 f.he] 64 (0, 0))) := by rw [hV]; exact block_set (block_set (block_set (block_set (block_set HB1.out 0 _) 1 _) 2 _) 3 _) 4 _
  have u4 := HG'.cell s4 (by simp)
  have u6 := HG'.cell s6 (by simp)
  have u7 := HG'.cell s7 (by simp)
  have p0 := (block_cell HB2.out 0).trans (show _ = some (.int .i64 f.ho) from rfl)
  have p1 := (block_cell HB2.out 1).trans (show _ = some (.int .u8 f.su) from rfl)
  have p2 := (block_cell HB2.out 2).trans (show _ = some (.int .u16 f.tr) from rfl)
  clear hV hHeld hHeld3 HG' s4 s6 s7 s10 z0 z1 z2 z3 z4 zf f0 f1 f2 f3 f4 g0 b0 b1 r4 hi' hr' hif hrf HB1 HGV
  by_cases d5 : e.s.wh.wm = 5
  · have HY : Hid (isAbB (rws X) F e i = (f.ho == ho)) := by show _ = _; rw [HEx.out]; unfold meantB; rw [if_neg Hw.out, if_neg (fun q => q Hhk.out), if_pos d5]; rw [beq_dec]
    rw [d5] at u4
    clear e4 d5
    go_wp2
    go_ret
    exact ⟨ret_bb HY.out.symm, HG.out⟩
  by_cases d8 : e.s.wh.wm = 8
  · cases ho1 : (f.ho == ho) with
    | true =>
      have hb : f.ho = ho := by simpa using ho1
      have HY : Hid (isAbB (rws X) F e i = (!((i : Int) == (e.ro : Int)))) := by show _ = _; rw [HEx.out]; unfold meantB; rw [if_neg Hw.out, if_neg (fun q => q Hhk.out), if_neg d5, if_pos d8]; rw [nat_beq]; simp [hb]
      rw [d8] at u4
      clear e4 hb d5 d8
      go_wp2
      go_ret
      exact ⟨ret_bb HY.out.symm, HG.out⟩
    | false =>
      have hb : ¬ f.ho = ho := by simpa using ho1
      have HY : Hid (isAbB (rws X) F e i = false) := by show _ = _; rw [HEx.out]; unfold meantB; rw [if_neg Hw.out, if_neg (fun q => q Hhk.out), if_neg d5, if_pos d8]; simp [hb]
      rw [d8] at u4
      clear e4 hb d5 d8
      go_wp2
      go_ret
      exact ⟨ret_bb HY.out.symm, HG.out⟩
  by_cases d6 : e.s.wh.wm = 6
  · have HY : Hid (isAbB (rws X) F e i = (f.ho != ho)) := by show _ = _; rw [HEx.out]; unfold meantB; rw [if_neg Hw.out, if_neg (fun q => q Hhk.out), if_neg d5, if_neg d8, if_pos d6]; rw [bne_dec]
    rw [d6] at u4
    clear e4 d5 d8 d6
    go_wp2
    go_ret
    exact ⟨ret_bb HY.out.symm, HG.out⟩
  by_cases d7 : e.s.wh.wm = 7
  · have HY : Hid (isAbB (rws X) F e i = true) := by show _ = _; rw [HEx.out]; unfold meantB; rw [if_neg Hw.out, if_neg (fun q => q Hhk.out), if_neg d5, if_neg d8, if_neg d6, if_pos d7]
    rw [d7] at u4
    clear e4 d5 d8 d6 d7
    go_wp2
    go_ret
    exact ⟨ret_bb HY.out.symm, HG.out⟩
  by_cases d9 : e.s.wh.wm = 9
  · have HY : Hid (isAbB (rws X) F e i = (f.su == e.s.wh.su)) := by show _ = _; rw [HEx.out]; unfold meantB; rw [if_neg Hw.out, if_neg (fun q => q Hhk.out), if_neg d5, if_neg d8, if_neg d6, if_neg d7, if_pos d9]; rw [beq_dec]
    rw [d9] at u4
    clear e4 d5 d8 d6 d7 d9
    go_wp2
    go_ret
    exact ⟨ret_bb HY.out.symm, HG.out⟩
  by_cases d10 : e.s.wh.wm = 10
  · have HY : Hid (isAbB (rws X) F e i = (tHas f.tr e.s.wh.tr)) := by show _ = _; rw [HEx.out]; unfold meantB; rw [if_neg Hw.out, if_neg (fun q => q Hhk.out), if_neg d5, if_neg d8, if_neg d6, if_neg d7, if_neg d9, if_pos d10]
    rw [d10] at u4
    clear e4 d5 d8 d6 d7 d9 d10
    go_wp2_with (go_at_call 131; refine (has_any _ _ _).mono ?_; rintro e3 w3 ⟨rfl, rfl⟩)
    go_ret
    exact ⟨ret_bb HY.out.symm, HG.out⟩
  have HY : Hid (isAbB (rws X) F e i = false) := by show _ = _; rw [HEx.out]; unfold meantB; rw [if_neg Hw.out, if_neg (fun q => q Hhk.out), if_neg d5, if_neg d8, if_neg d6, if_neg d7, if_neg d9, if_neg d10]
  have k5 : (e.s.wh.wm == 5) = false := by simpa using d5
  have k8 : (e.s.wh.wm == 8) = false := by simpa using d8
  have k6 : (e.s.wh.wm == 6) = false := by simpa using d6
  have k7 : (e.s.wh.wm == 7) = false := by simpa using d7
  have k9 : (e.s.wh.wm == 9) = false := by simpa using d9
  have k10 : (e.s.wh.wm == 10) = false := by simpa using d10
  clear e4 d5 d8 d6 d7 d9 d10
  go_wp2
  go_ret
  exact ⟨ret_bb HY.out.symm, HG.out⟩
theorem isAbout_any (vr vf : Value) (X : List Rv) (F : List Fe) (e : Se) (i : Nat) (w : World) (T : TbAt w vr vf X F) (hi : i < X.length) (hr : e.ro < X.length) : Calls Tryz.prog 101 #[tbv vr vf, sev e, .int .i64 (i : Int)] w fun e' w' => e' = .returned (.bool (isAbB (rws X) F e i)) ∧ w.grownBy w' none := by
  by_cases hw : e.s.wh.wm = 4
  · exact isAbout_self vr vf X F e i w T hi hr hw
  · by_cases hk : X[i].r.h.kd = 1
    · exact isAbout_unit vr vf X F e i w T hi hr hw hk
    · exact isAbout_no vr vf X F e i w T hi hr hw hk
end Go.Proofs.YtmemeloehgemcaaGreat
