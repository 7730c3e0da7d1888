/-
  Layers: which effect depends on which.
-/
import Derived.Test.YtmemeloehgemcaaGreatLyF
import Derived.Laws.StructEq
namespace Go.Proofs.YtmemeloehgemcaaGreat
open Go.RowKit

theorem all_range_b : ∀ (xs ys : List Bool), xs.length = ys.length → ((List.range xs.length).all fun i => xs.getD i false == ys.getD i false) = (xs == ys)
  | [], [], _ => rfl
  | x :: xs, y :: ys, h => by
    have ih := all_range_b xs ys (by simpa using h)
    rw [List.length_cons, List.range_succ_eq_map, List.all_cons, List.all_map]
    simp only [List.getD_cons_zero, Function.comp_def, List.getD_cons_succ, ih]
    simp [List.cons_beq_cons]
  | [], _ :: _, h => by simp at h
  | _ :: _, [], h => by simp at h
theorem run_equalIn_bools {P : Program} (w : World) (d : Nat) (t e : TypeId) (n : Nat) (ht : P.underlying t = some (.array n e)) (he : P.underlying e = some .bool) (hsz : ∀ w, (sizeOf e).run P w = .ok 1 w)
    (xs ys : List Bool) (hx : xs.length = n) (hy : ys.length = n) :
    (Op.equalIn (d + 2) t (.agg (xs.map Value.bool).toArray) (.agg (ys.map Value.bool).toArray)).run P w = .ok (xs == ys) w := by
  rw [← all_range_b xs ys (hx.trans hy.symm), hx, List.range_eq_range', Op.equalIn]
  simp only [Sem.run_bind, run_underlying ht, Result.andThen_ok, hsz, Std.Legacy.Range.forIn_eq_forIn_range', Std.Legacy.Range.size, Nat.sub_zero, Nat.add_sub_cancel, Nat.div_one]
  have hl : ∀ i ∈ List.range' 0 n 1, i < n := fun i hi => by simpa using (List.mem_range'_1.1 hi).2
  generalize List.range' 0 n 1 = l at hl ⊢
  induction l with
  | nil => simp
  | cons i l ih =>
    have hi : i < n := hl i (by simp)
    have px : (part e (xs.map Value.bool).toArray (i * 1)).run P w = .ok (.bool (xs.getD i false)) w := by
      simp [part, isAgg, run_underlying he, List.getD, List.getElem?_eq_getElem (show i < xs.length by omega)]
    have py : (part e (ys.map Value.bool).toArray (i * 1)).run P w = .ok (.bool (ys.getD i false)) w := by
      simp [part, isAgg, run_underlying he, List.getD, List.getElem?_eq_getElem (show i < ys.length by omega)]
    have pe : (Op.equalIn (d + 1) e (.bool (xs.getD i false)) (.bool (ys.getD i false))).run P w = .ok (xs.getD i false == ys.getD i false) w := run_equalIn_bool' w d e _ _ he
    simp only [List.forIn_cons, Sem.run_bind, px, py, pe, Result.andThen_ok, List.all_cons]
    cases hb : (xs.getD i false == ys.getD i false)
    · simp
    · simp only [Bool.not_true, Bool.false_eq_true, if_false, Sem.run_pure, Result.andThen_ok, Bool.true_and]
      exact ih fun j hj => hl j (by simp [hj])
theorem neq_some (a b : List Bool) (ha : a.length ≤ 16) (hb : b.length ≤ 16) (w : World) : (binOp .neq 127 (.agg (smc a)) (.agg (smc b))).run Tryz.prog w = .ok (.bool (!(pad a == pad b))) w := by
  unfold smc
  rw [run_neq_struct, run_equalIn_bools w 9998 127 4 16 (by kernel_rfl) (by kernel_rfl) (fun _ => by kernel_rfl) _ _ (pad_len ha) (pad_len hb)]
  rfl
theorem eqg_some (op : BinOp) (x y : Operand) (xs ys : Array Value) (w : World) : (eqGuard op 127 x y (.agg xs) (.agg ys)).run Tryz.prog w = .ok () w := run_eqGuard_agg w op 127 x y xs ys (by kernel_rfl)
theorem aboutL_len (R : List Rw) (F : List Fe) (s : Se) : (aboutL R F s).length = R.length := aboutU_len _ _ _ _
theorem dep_pad (R : List Rw) (F : List Fe) (s o : Se) : (!(pad (aboutL R F s) == pad (aboutL R (applyL R F o) s))) = depB R F s o := by
  unfold depB
  congr 1
  rw [Bool.eq_iff_iff]
  simp only [beq_iff_eq, decide_eq_true_eq]
  exact ⟨fun h => pad_inj (by rw [aboutL_len, aboutL_len]) h, fun h => by rw [h]⟩
theorem TbAt.applied {w w' : World} {vr vf vf' : Value} {X : List Rv} {F : List Fe} {base : Nat} (T : TbAt w vr vf X F) (g : w.grownBy w' none) (s : Se) (o : FOwn w' base vf' (applyL (rws X) F s)) : TbAt w' vr vf' X (applyL (rws X) F s) :=
  ⟨T.rows.keep g, fun x hx => ⟨(T.parts x hx).1.keep g, (T.parts x hx).2⟩, o.at, by rw [applyL_len]; exact T.len, T.few⟩
set_option maxRecDepth 100000 in
set_option maxHeartbeats 4000000 in
theorem ldepends_any (vr vf : Value) (X : List Rv) (F : List Fe) (e o : Se) (w : World) (T : TbAt w vr vf X F) (hr : e.ro < X.length) (hq : o.ro < X.length) : Calls Tryz.prog 63 #[tbv vr vf, sev e, sev o] w fun e' w' => e' = .returned (.bool (depB (rws X) F e o)) ∧ w.grownBy w' none := by
  obtain ⟨pr, cr, rfl⟩ := T.rows.form
  obtain ⟨pf, cf, rfl⟩ := T.fs.form
  obtain ⟨W1, hW1⟩ : ∃ W1, W1 = ((w.alloc (.cells #[.slice pr X.length cr, .slice pf F.length cf] 118)).alloc (.cells #[.int .i64 e.s.th, .int .i64 e.s.pl, .int .u8 e.s.wh.wn, .int .u8 e.s.wh.vb, .int .u8 e.s.wh.wm, .int .i64 e.s.wh.ct, .int .u8 e.s.wh.su, .int .u8 e.s.wh.tr, .int .u8 e.s.wh.mr, .string e.s.wh.nm, .int .i64 (e.ro : Int)] 123)).alloc (.cells #[.int .i64 o.s.th, .int .i64 o.s.pl, .int .u8 o.s.wh.wn, .int .u8 o.s.wh.vb, .int .u8 o.s.wh.wm, .int .i64 o.s.wh.ct, .int .u8 o.s.wh.su, .int .u8 o.s.wh.tr, .int .u8 o.s.wh.mr, .string o.s.wh.nm, .int .i64 (o.ro : Int)] 123) := ⟨_, rfl⟩
  have HG1 : Hid (w.grownBy W1 none) := by rw [hW1]; exact grown_push (grown_push (World.grownBy_alloc _ _ none) _) _
  have HB : Hid (TbB W1 w.heap.size (.slice pr X.length cr) (.slice pf F.length cf)) := by rw [hW1]; exact grown_keep (grown_push (World.grownBy_alloc _ _ none) _) (alloc_at w _ _) (by simp)
  have HS : Hid (SeB W1 (w.heap.size + 1) e) := by rw [hW1]; exact grown_keep (World.grownBy_alloc _ _ none) (alloc2_b _ _ _ _) (by simp)
  have HO : Hid (SeB W1 (w.heap.size + 1 + 1) o) := by rw [hW1]; exact alloc3_b _ _ _ _ _
  have HTW : Hid (TbAt W1 (.slice pr X.length cr) (.slice pf F.length cf) X F) := T.keep HG1.out
  have Hr : Hid (e.ro < X.length) := hr
  have Hq : Hid (o.ro < X.length) := hq
  have H16 : Hid ((rws X).length ≤ 16) := by rw [rws_len]; exact T.few
  have C1 := labout_any _ _ X F e W1.drew (HTW.out.keep (grown_drew _)) hr
  have C2 : Hid (∀ V, W1.grownBy V none → Calls Tryz.prog 54 #[.agg #[.slice pr X.length cr, .slice pf F.length cf], .agg #[.int .i64 o.s.th, .int .i64 o.s.pl, .int .u8 o.s.wh.wn, .int .u8 o.s.wh.vb, .int .u8 o.s.wh.wm, .int .i64 o.s.wh.ct, .int .u8 o.s.wh.su, .int .u8 o.s.wh.tr, .int .u8 o.s.wh.mr, .string o.s.wh.nm, .int .i64 (o.ro : Int)]] V fun e' w' => ∃ vf', e' = .returned (tbv (.slice pr X.length cr) vf') ∧ FOwn w' V.heap.size vf' (applyL (rws X) F o) ∧ V.grownBy w' none) := fun V g => lapply_any _ _ X F o V (HTW.out.keep g) hq
  unfold tbv sev smv at C1
  have HD : Hid ((!(pad (aboutL (rws X) F e) == pad (aboutL (rws X) (applyL (rws X) F o) e))) = depB (rws X) F e o) := dep_pad _ _ _ _
  obtain ⟨a, ha⟩ : ∃ a, a = aboutL (rws X) F e := ⟨_, rfl⟩
  have Ha : Hid (a.length ≤ 16) := by show _ ≤ _; rw [ha, aboutL_len]; exact H16.out
  rw [← ha] at C1 HD
  unfold tbv sev
  clear T hr hq ha
  go_enter Tryz.func63, Tryz.ntmps63
  go_upto_region 1 with fail
  rw [← hW1]
  clear hW1
  obtain ⟨n0, h0⟩ : ∃ n0, n0 = w.heap.size := ⟨_, rfl⟩
  simp only [← h0] at HB HS HO ⊢
  obtain ⟨n1, h1⟩ : ∃ n1, n1 = n0 + 1 := ⟨_, rfl⟩
  simp only [← h1] at HS HO ⊢
  obtain ⟨n2, h2⟩ : ∃ n2, n2 = n1 + 1 := ⟨_, rfl⟩
  simp only [← h2] at HO ⊢
  clear h0 h1 h2
  obtain ⟨b0, b1⟩ := tb_box HB.out
  obtain ⟨s0, s1, s2, s3, s4, s5, s6, s7, s8, s9, s10⟩ := se_box HS.out
  obtain ⟨o0, o1, o2, o3, o4, o5, o6, o7, o8, o9, o10⟩ := se_box HO.out
  refine wp_region_held_drew (S := fun w' => W1.grownBy w' none) (by kernel_rfl) (grown_drew _) (fun hHeld => ?_)
  refine wpAnyH_take (i := 0) (v := ?_) rfl (by kernel_rfl) (by kernel_rfl) (by kernel_rfl) (fun _ _ _ h => h) (Or.inl ⟨by rfl, ?_⟩) (by assumption) ?_
  rotate_left 1
  · (intro w0 hSw; have b0 := hSw.cell b0 (by simp); have b1 := hSw.cell b1 (by simp); go_simp; try with_reducible rfl)
  simp only [List.getElem_toArray, List.getElem_cons_zero]
  go_frame
  refine wpAnyH_take (i := 1) (v := ?_) rfl (by kernel_rfl) (by kernel_rfl) (by kernel_rfl) (fun _ _ _ h => h) (Or.inl ⟨by rfl, ?_⟩) (by assumption) ?_
  rotate_left 1
  · (intro w0 hSw; have s0 := hSw.cell s0 (by simp); have s1 := hSw.cell s1 (by simp); have s2 := hSw.cell s2 (by simp); have s3 := hSw.cell s3 (by simp); have s4 := hSw.cell s4 (by simp); have s5 := hSw.cell s5 (by simp); have s6 := hSw.cell s6 (by simp); have s7 := hSw.cell s7 (by simp); have s8 := hSw.cell s8 (by simp); have s9 := hSw.cell s9 (by simp); have s10 := hSw.cell s10 (by simp); go_simp; try with_reducible rfl)
  simp only [List.getElem_toArray, List.getElem_cons_zero, List.getElem_cons_succ]
  go_frame
  refine wpAnyH_take (i := 3) (v := ?_) rfl (by kernel_rfl) (by kernel_rfl) (by kernel_rfl) (fun _ _ _ h => h) (Or.inl ⟨by rfl, ?_⟩) (by assumption) ?_
  rotate_left 1
  · (intro w0 hSw; have b0 := hSw.cell b0 (by simp); have b1 := hSw.cell b1 (by simp); go_simp; try with_reducible rfl)
  simp only [List.getElem_toArray, List.getElem_cons_zero, List.getElem_cons_succ]
  go_frame
  refine wpAnyH_take (i := 4) (v := ?_) rfl (by kernel_rfl) (by kernel_rfl) (by kernel_rfl) (fun _ _ _ h => h) (Or.inl ⟨by rfl, ?_⟩) (by assumption) ?_
  rotate_left 1
  · (intro w0 hSw; have o0 := hSw.cell o0 (by simp); have o1 := hSw.cell o1 (by simp); have o2 := hSw.cell o2 (by simp); have o3 := hSw.cell o3 (by simp); have o4 := hSw.cell o4 (by simp); have o5 := hSw.cell o5 (by simp); have o6 := hSw.cell o6 (by simp); have o7 := hSw.cell o7 (by simp); have o8 := hSw.cell o8 (by simp); have o9 := hSw.cell o9 (by simp); have o10 := hSw.cell o10 (by simp); go_simp; try with_reducible rfl)
  simp only [List.getElem_toArray, List.getElem_cons_zero, List.getElem_cons_succ]
  go_frame
  refine wpAnyH_take (i := 6) (v := ?_) rfl (by kernel_rfl) (by kernel_rfl) (by kernel_rfl) (fun _ _ _ h => h) (Or.inl ⟨by rfl, ?_⟩) (by assumption) ?_
  rotate_left 1
  · (intro w0 hSw; have s0 := hSw.cell s0 (by simp); have s1 := hSw.cell s1 (by simp); have s2 := hSw.cell s2 (by simp); have s3 := hSw.cell s3 (by simp); have s4 := hSw.cell s4 (by simp); have s5 := hSw.cell s5 (by simp); have s6 := hSw.cell s6 (by simp); have s7 := hSw.cell s7 (by simp); have s8 := hSw.cell s8 (by simp); have s9 := hSw.cell s9 (by simp); have s10 := hSw.cell s10 (by simp); go_simp; try with_reducible rfl)
  simp only [List.getElem_toArray, List.getElem_cons_zero, List.getElem_cons_succ]
  go_frame
  clear b0 b1 s0 s1 s2 s3 s4 s5 s6 s7 s8 s9 s10 o0 o1 o2 o3 o4 o5 o6 o7 o8 o9 o10
  refine wpAnyH_ready (rs := [2]) (by kernel_rfl) (by simp) ?_
  refine AllReadyH.cons rfl (fun K hK => ?_) AllReadyH.nil
  simp only [List.getElem_toArray, List.getElem_cons_zero, List.getElem_cons_succ]
  go_simp
  go_at_call 53
  refine (C1).mono ?_
  rintro e2 w2 ⟨rfl, g2⟩
  have HG2 : Hid (W1.grownBy w2 none) := grown_trans (grown_drew _) g2
  clear g2 C1
  refine hK.out _ _ (HG2.out) (fun hHeld2 => ?_)
  clear hK K
  (try go_frame)
  refine wpAnyH_ready (rs := [5]) (by kernel_rfl) (by simp) ?_
  refine AllReadyH.cons rfl (fun K hK => ?_) AllReadyH.nil
  simp only [List.getElem_toArray, List.getElem_cons_zero, List.getElem_cons_succ]
  go_simp
  go_at_call 54
  refine (C2.out _ HG2.out).mono ?_
  rintro e3 w3 ⟨v3, rfl, o3, g3⟩
  unfold tbv
  have HG3 : Hid (W1.grownBy w3 none) := grown_trans HG2.out g3
  have C3 := labout_any _ _ X _ e w3 (HTW.out.applied HG3.out o o3) Hr.out
  unfold tbv sev smv at C3
  obtain ⟨b, hb⟩ : ∃ b, b = aboutL (rws X) (applyL (rws X) F o) e := ⟨_, rfl⟩
  have Hb : Hid (b.length ≤ 16) := by show _ ≤ _; rw [hb, aboutL_len]; exact H16.out
  rw [← hb] at C3 HD
  clear g3 o3 hb C2
  refine hK.out _ _ (HG3.out) (fun hHeld2 => ?_)
  clear hK K
  (try go_frame)
  refine wpAnyH_ready (rs := [7]) (by kernel_rfl) (by simp) ?_
  refine AllReadyH.cons rfl (fun K hK => ?_) AllReadyH.nil
  simp only [List.getElem_toArray, List.getElem_cons_zero, List.getElem_cons_succ]
  go_simp
  go_at_call 53
  refine (C3).mono ?_
  rintro e4 w4 ⟨rfl, g4⟩
  have HG4 : Hid (W1.grownBy w4 none) := grown_trans HG3.out g4
  clear g4 C3
  refine hK.out _ _ (HG4.out) (fun hHeld2 => ?_)
  clear hK K
  (try go_frame)
  refine wpAnyH_take (i := 8) (v := ?_) rfl (by kernel_rfl) (by kernel_rfl) (by kernel_rfl) (fun _ _ _ h => h) (Or.inl ⟨by rfl, ?_⟩) (by assumption) ?_
  rotate_left 1
  · (intro w0 hSw; have q1 := neq_some a b Ha.out Hb.out; have q2 := eqg_some; go_simp; try with_reducible rfl)
  simp only [List.getElem_toArray, List.getElem_cons_zero, List.getElem_cons_succ]
  go_frame
  refine wpAnyH_take (i := 9) (v := ?_) rfl (by kernel_rfl) (by kernel_rfl) (by kernel_rfl) (fun _ _ _ h => h) (Or.inl ⟨by rfl, ?_⟩) (by assumption) ?_
  rotate_left 1
  · (intro w0 hSw; go_simp; try with_reducible rfl)
  simp only [List.getElem_toArray, List.getElem_cons_zero, List.getElem_cons_succ]
  go_frame
  refine wpAnyH_done (by kernel_rfl) ?_ _
  go_wp2_with fail
  go_ret
  exact ⟨ret_bb HD.out, grown_trans HG1.out HG4.out⟩
end Go.Proofs.YtmemeloehgemcaaGreat
