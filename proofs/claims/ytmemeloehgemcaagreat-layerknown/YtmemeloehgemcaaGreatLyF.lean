/-
  Layers: an effect applied: the program's apply.
-/
import Derived.Test.YtmemeloehgemcaaGreatK22
import Derived.Laws.Tables
namespace Go.Proofs.YtmemeloehgemcaaGreat
open Go.RowKit

theorem grown_drewR (w : World) (r : Option Nat) : w.grownBy w.drew r := ⟨rfl, rfl, rfl, Nat.le_refl _, fun _ _ _ => rfl⟩
theorem grown_some {a b : World} (h : a.grownBy b none) (r : Option Nat) : a.grownBy b r := ⟨h.os, h.tape, h.output, h.size, fun i hi _ => h.block i hi (by simp)⟩
theorem smc_ones (l : List Bool) : (smc l).all (·.oneCell') = true := all_oneCell_toArray fun u hu => by
  obtain ⟨b, _, rfl⟩ := List.mem_map.1 hu
  rfl
def appU (R : List Rw) (F : List Fe) (s : Se) (k : Nat) : List Fe := (List.range k).map (applyAt R F s) ++ F.drop k
theorem appU_zero (R : List Rw) (F : List Fe) (s : Se) : appU R F s 0 = F := by simp [appU]
theorem appU_all (R : List Rw) (F : List Fe) (s : Se) : appU R F s F.length = applyL R F s := by simp [appU, applyL]
theorem appU_len {R : List Rw} {F : List Fe} {s : Se} {k : Nat} (h : k ≤ F.length) : (appU R F s k).length = F.length := by simp [appU]; omega
theorem appU_at {R : List Rw} {F : List Fe} {s : Se} {k : Nat} (h : k < F.length) : (appU R F s k)[k]? = some (F.getD k Fe.none) := by
  unfold appU
  rw [List.getElem?_append_right (by simp)]
  simp [List.getElem?_drop, List.getD, h]
theorem appU_next {R : List Rw} {F : List Fe} {s : Se} {k : Nat} (h : k < F.length) : (appU R F s k).set k (applyAt R F s k) = appU R F s (k + 1) := by
  unfold appU
  rw [List.set_append_right _ _ (by simp), List.range_succ, List.map_append]
  simp only [List.length_map, List.length_range, Nat.sub_self, List.map_cons, List.map_nil, List.append_assoc, List.singleton_append]
  rw [List.drop_eq_getElem_cons h, List.set_cons_zero]
theorem appU_same {R : List Rw} {F : List Fe} {s : Se} {k : Nat} (h : k < F.length) (e : isAbB R F s k = false) : appU R F s (k + 1) = appU R F s k := by
  rw [← appU_next h]
  refine List.ext_getElem? fun i => ?_
  by_cases hi : i = k
  · subst hi
    rw [List.getElem?_set_self (by rw [appU_len (by omega)]; exact h), appU_at h]
    unfold applyAt
    rw [e]
    rfl
  · rw [List.getElem?_set_ne (fun q => hi q.symm)]
theorem applyL_len (R : List Rw) (F : List Fe) (s : Se) : (applyL R F s).length = F.length := by simp [applyL]
structure ApS (w wr : World) (n0 n1 n2 n3 B : Nat) (vr vf : Value) (e : Se) (L : List Bool) (G : List Fe) : Prop where
  tb : TbB wr n0 vr vf
  se : SeB wr n1 e
  re : TbB wr n2 (.slice none 0 0) (.slice none 0 0)
  sm : SmB wr n3 L
  fo : FOwn wr B vf G
  gr : w.grownBy wr none
theorem ApS.grow {w wr wr' : World} {n0 n1 n2 n3 B : Nat} {vr vf : Value} {e : Se} {L : List Bool} {G : List Fe} (h : ApS w wr n0 n1 n2 n3 B vr vf e L G) (g : wr.grownBy wr' none) : ApS w wr' n0 n1 n2 n3 B vr vf e L G :=
  ⟨grown_keep g h.tb (by simp), grown_keep g h.se (by simp), grown_keep g h.re (by simp), grown_keep g h.sm (by simp), h.fo.grow g, grown_trans h.gr g⟩
theorem ApS.set {w wr : World} {n0 n1 n2 n3 B g n cap k : Nat} {vr : Value} {e : Se} {L : List Bool} {G : List Fe} (h : ApS w wr n0 n1 n2 n3 B vr (.slice (some ⟨g, 0, none⟩) n cap) e L G) (hn : G.length = n) (hk : k < n) (hB : n0 < B ∧ n1 < B ∧ n2 < B ∧ n3 < B ∧ w.heap.size ≤ B) (f : Fe) : ApS w (wr.setCells g (k * 5) (fec f)) n0 n1 n2 n3 B vr (.slice (some ⟨g, 0, none⟩) n cap) e L (G.set k f) := by
  obtain ⟨o, q⟩ := RecT.Own.set h.fo hn hk f
  have hg : B ≤ g := (h.fo.lt g rfl).1
  obtain ⟨b0, b1, b2, b3, b4⟩ := hB
  exact ⟨grown_keep q h.tb (by simp; omega), grown_keep q h.se (by simp; omega), grown_keep q h.re (by simp; omega), grown_keep q h.sm (by simp; omega), o, grown_own h.gr q (fun y e => by cases e; omega)⟩
set_option maxRecDepth 100000 in
set_option maxHeartbeats 4000000 in
theorem lapply_any (vr vf : Value) (X : List Rv) (F : List Fe) (e : Se) (w : World) (T : TbAt w vr vf X F) (hr : e.ro < X.length) : Calls Tryz.prog 54 #[tbv vr vf, sev e] w fun e' w' => ∃ vf', e' = .returned (tbv vr vf') ∧ FOwn w' w.heap.size vf' (applyL (rws X) F e) ∧ w.grownBy w' none := by
  obtain ⟨pr, cr, rfl⟩ := T.rows.form
  obtain ⟨gf, fof, fcap, e1, Rh⟩ := T.fe hr
  subst e1
  obtain ⟨W1, hW1⟩ : ∃ W1, W1 = ((w.alloc (.cells #[.slice pr X.length cr, .slice (some ⟨gf, fof, none⟩) F.length fcap] 118)).alloc (.cells #[.int .i64 e.s.th, .int .i64 e.s.pl, .int .u8 e.s.wh.wn, .int .u8 e.s.wh.vb, .int .u8 e.s.wh.wm, .int .i64 e.s.wh.ct, .int .u8 e.s.wh.su, .int .u8 e.s.wh.tr, .int .u8 e.s.wh.mr, .string e.s.wh.nm, .int .i64 (e.ro : Int)] 123)).alloc (.cells #[.slice none 0 0, .slice none 0 0] 118) := ⟨_, rfl⟩
  have HG1 : Hid (w.grownBy W1 none) := by rw [hW1]; exact grown_push (grown_push (World.grownBy_alloc _ _ none) _) _
  have HB : Hid (TbB W1 w.heap.size (.slice pr X.length cr) (.slice (some ⟨gf, fof, none⟩) F.length fcap)) := by rw [hW1]; exact grown_keep (grown_push (World.grownBy_alloc _ _ none) _) (alloc_at w _ _) (by simp)
  have HS : Hid (SeB W1 (w.heap.size + 1) e) := by rw [hW1]; exact grown_keep (World.grownBy_alloc _ _ none) (alloc2_b _ _ _ _) (by simp)
  have HR : Hid (TbB W1 (w.heap.size + 1 + 1) (.slice none 0 0) (.slice none 0 0)) := by rw [hW1]; exact alloc3_b _ _ _ _ _
  have HT : Hid (TbAt w (.slice pr X.length cr) (.slice (some ⟨gf, fof, none⟩) F.length fcap) X F) := T
  have HLF : Hid (F.length = X.length) := T.len
  have H16 : Hid (X.length ≤ 16) := T.few
  have Hr : Hid (e.ro < X.length) := hr
  have HRh : Hid (W1.rangeAt gf (fof + e.ro * 5) (fec (F.getD e.ro Fe.none))) := rangeAt_keep Rh HG1.out
  have hrf : (e.ro : Int) < F.length := by have := T.len; omega
  obtain ⟨ho, hho⟩ : ∃ ho, ho = (F.getD e.ro Fe.none).ho := ⟨_, rfl⟩
  have Hho : Hid (ho = (F.getD e.ro Fe.none).ho) := hho
  obtain ⟨L, hL⟩ : ∃ L, L = aboutL (rws X) F e := ⟨_, rfl⟩
  have HL : Hid (L = aboutL (rws X) F e) := hL
  have HLl : Hid (L.length = X.length) := by show L.length = _; rw [hL]; unfold aboutL; rw [aboutU_len, rws_len]
  have HC : Hid (∀ V, w.grownBy V none → Calls Tryz.prog 53 #[.agg #[.slice pr X.length cr, .slice (some ⟨gf, fof, none⟩) F.length fcap], .agg #[.int .i64 e.s.th, .int .i64 e.s.pl, .int .u8 e.s.wh.wn, .int .u8 e.s.wh.vb, .int .u8 e.s.wh.wm, .int .i64 e.s.wh.ct, .int .u8 e.s.wh.su, .int .u8 e.s.wh.tr, .int .u8 e.s.wh.mr, .string e.s.wh.nm, .int .i64 (e.ro : Int)]] V fun e' w' => e' = .returned (.agg (smc L)) ∧ V.grownBy w' none) := fun V g => by rw [hL]; exact labout_any _ _ X F e V (T.keep g) hr
  unfold tbv sev
  clear T hr Rh hho hL
  go_enter Tryz.func54, Tryz.ntmps54
  go_upto_region 1 with fail
  rw [← hW1]
  clear hW1
  obtain ⟨n0, h0⟩ : ∃ n0, n0 = w.heap.size := ⟨_, rfl⟩
  have HN : Hid (w.heap.size ≤ n0) := by show _ ≤ _; omega
  simp only [← h0] at HB HS HR ⊢
  obtain ⟨n1, h1⟩ : ∃ n1, n1 = n0 + 1 := ⟨_, rfl⟩
  simp only [← h1] at HS HR ⊢
  obtain ⟨n2, h2⟩ : ∃ n2, n2 = n1 + 1 := ⟨_, rfl⟩
  simp only [← h2] at HR ⊢
  have HD : Hid (n0 < W1.heap.size ∧ n1 < W1.heap.size ∧ n2 < W1.heap.size ∧ n0 ≠ n1 ∧ n0 ≠ n2 ∧ w.heap.size ≤ n0 ∧ w.heap.size ≤ n2) := ⟨block_lt HB.out, block_lt HS.out, block_lt HR.out, by omega, by omega, by omega, by omega⟩
  clear h0 h1 h2
  go_cut [5, 6] from 9 to 18 (fun x5 x6 wc => ∃ n3, x5 = .pointer (some ⟨n3, 0, none⟩) ∧ x6 = .int .i64 ho ∧ SmB wc n3 L ∧ W1.heap.size ≤ n3 ∧ W1.grownBy wc none)
  case first =>
    obtain ⟨b0, b1⟩ := tb_box HB.out
    obtain ⟨s0, s1, s2, s3, s4, s5, s6, s7, s8, s9, s10⟩ := se_box HS.out
    have g0 := (fe_cells HRh.out).1
    rw [← Hho.out] at g0
    refine wp_region_held_drew (S := fun w' => W1.grownBy w' none) (by kernel_rfl) (grown_drew _) (fun hHeld => ?_)
    refine wpAnyH_take (i := 0) (v := ?_) rfl (by kernel_rfl) (by kernel_rfl) (by kernel_rfl) (fun _ _ _ h => h) (Or.inl ⟨by rfl, ?_⟩) (by assumption) ?_
    rotate_left 1
    · (intro w0 hSw; have b0 := hSw.cell b0 (by simp); have b1 := hSw.cell b1 (by simp); go_simp; try with_reducible rfl)
    simp only [List.getElem_toArray, List.getElem_cons_zero]
    go_frame
    refine wpAnyH_take (i := 1) (v := ?_) rfl (by kernel_rfl) (by kernel_rfl) (by kernel_rfl) (fun _ _ _ h => h) (Or.inl ⟨by rfl, ?_⟩) (by assumption) ?_
    rotate_left 1
    · (intro w0 hSw; have s0 := hSw.cell s0 (by simp); have s1 := hSw.cell s1 (by simp); have s2 := hSw.cell s2 (by simp); have s3 := hSw.cell s3 (by simp); have s4 := hSw.cell s4 (by simp); have s5 := hSw.cell s5 (by simp); have s6 := hSw.cell s6 (by simp); have s7 := hSw.cell s7 (by simp); have s8 := hSw.cell s8 (by simp); have s9 := hSw.cell s9 (by simp); have s10 := hSw.cell s10 (by simp); go_simp; try with_reducible rfl)
    simp only [List.getElem_toArray, List.getElem_cons_zero, List.getElem_cons_succ]
    go_frame
    refine wpAnyH_take (i := 3) (v := ?_) rfl (by kernel_rfl) (by kernel_rfl) (by kernel_rfl) (fun _ _ _ h => h) (Or.inl ⟨by rfl, ?_⟩) (by assumption) ?_
    rotate_left 1
    · (intro w0 hSw; go_simp; try with_reducible rfl)
    simp only [List.getElem_toArray, List.getElem_cons_zero, List.getElem_cons_succ]
    go_frame
    refine wpAnyH_take (i := 4) (v := ?_) rfl (by kernel_rfl) (by kernel_rfl) (by kernel_rfl) (fun _ _ _ h => h) (Or.inl ⟨by rfl, ?_⟩) (by assumption) ?_
    rotate_left 1
    · (intro w0 hSw; have b1 := hSw.cell b1 (by simp); go_simp; try with_reducible rfl)
    simp only [List.getElem_toArray, List.getElem_cons_zero, List.getElem_cons_succ]
    go_frame
    refine wpAnyH_take (i := 5) (v := ?_) rfl (by kernel_rfl) (by kernel_rfl) (by kernel_rfl) (fun _ _ _ h => h) (Or.inl ⟨by rfl, ?_⟩) (by assumption) ?_
    rotate_left 1
    · (intro w0 hSw; go_simp; try with_reducible rfl)
    simp only [List.getElem_toArray, List.getElem_cons_zero, List.getElem_cons_succ]
    go_frame
    refine wpAnyH_take (i := 6) (v := ?_) rfl (by kernel_rfl) (by kernel_rfl) (by kernel_rfl) (fun _ _ _ h => h) (Or.inl ⟨by rfl, ?_⟩) (by assumption) ?_
    rotate_left 1
    · (intro w0 hSw; have s10 := hSw.cell s10 (by simp); go_simp; try with_reducible rfl)
    simp only [List.getElem_toArray, List.getElem_cons_zero, List.getElem_cons_succ]
    go_frame
    refine wpAnyH_take (i := 7) (v := ?_) rfl (by kernel_rfl) (by kernel_rfl) (by kernel_rfl) (fun _ _ _ h => h) (Or.inl ⟨by rfl, ?_⟩) (by assumption) ?_
    rotate_left 1
    · (intro w0 hSw; go_simp; try with_reducible rfl)
    simp only [List.getElem_toArray, List.getElem_cons_zero, List.getElem_cons_succ]
    go_frame
    refine wpAnyH_take (i := 8) (v := ?_) rfl (by kernel_rfl) (by kernel_rfl) (by kernel_rfl) (fun _ _ _ h => h) (Or.inl ⟨by rfl, ?_⟩) (by assumption) ?_
    rotate_left 1
    · (intro w0 hSw; go_simp; try with_reducible rfl)
    simp only [List.getElem_toArray, List.getElem_cons_zero, List.getElem_cons_succ]
    go_frame
    refine wpAnyH_take (i := 9) (v := ?_) rfl (by kernel_rfl) (by kernel_rfl) (by kernel_rfl) (fun _ _ _ h => h) (Or.inl ⟨by rfl, ?_⟩) (by assumption) ?_
    rotate_left 1
    · (intro w0 hSw; have g0 := hSw.cell g0 (by simp); go_simp; try with_reducible rfl)
    simp only [List.getElem_toArray, List.getElem_cons_zero, List.getElem_cons_succ]
    go_frame
    clear b0 b1 s0 s1 s2 s3 s4 s5 s6 s7 s8 s9 s10 g0
    refine wpAnyH_ready (rs := [2, 10]) (by kernel_rfl) (by simp) ?_
    refine AllReadyH.cons rfl (fun K9 hK => ?_) (AllReadyH.cons rfl (fun K9 hK => ?_) AllReadyH.nil)
    · simp only [List.getElem_toArray, List.getElem_cons_zero, List.getElem_cons_succ]
      go_simp
      go_at_call 53
      refine (HC.out _ (grown_trans HG1.out (grown_drew _))).mono ?_
      rintro e2 w2 ⟨rfl, g2⟩
      have HG2 : Hid (W1.grownBy w2 none) := grown_trans (grown_drew _) g2
      clear g2
      refine hK.out _ _ (HG2.out) (fun hHeld2 => ?_)
      clear hK K9
      (try go_frame)
      refine wpAnyH_ready (rs := [10]) (by kernel_rfl) (by simp) ?_
      refine AllReadyH.cons rfl (fun K9 hK => ?_) AllReadyH.nil
      simp only [List.getElem_toArray, List.getElem_cons_zero, List.getElem_cons_succ]
      go_simp
      refine hK.out _ _ (grown_push HG2.out _) (fun hHeld3 => ?_)
      clear hK K9
      (try go_frame)
      obtain ⟨V, hV⟩ : ∃ V, V = w2.alloc (.cells #[.bool false, .bool false, .bool false, .bool false, .bool false, .bool false, .bool false, .bool false, .bool false, .bool false, .bool false, .bool false, .bool false, .bool false, .bool false, .bool false] 127) := ⟨_, rfl⟩
      rw [← hV] at hHeld3 ⊢
      have HV : Hid (V.heap[w2.heap.size]? = some (.cells #[.bool false, .bool false, .bool false, .bool false, .bool false, .bool false, .bool false, .bool false, .bool false, .bool false, .bool false, .bool false, .bool false, .bool false, .bool false, .bool false] 127 (0, 0))) := by rw [hV]; exact alloc_at _ _ _
      have HGV : Hid (W1.grownBy V none) := hHeld3
      clear hV
      refine wpAnyH_ready (rs := [11]) (by kernel_rfl) (by simp) ?_
      refine AllReadyH.cons rfl (fun K9 hK => ?_) AllReadyH.nil
      simp only [List.getElem_toArray, List.getElem_cons_zero, List.getElem_cons_succ]
      refine wp_store_row 127 (.tmp 5) (.tmp 11) rfl w2.heap.size (smc L) rfl rfl 127 _ HV.out ((by rw [smc_size (by rw [HLl.out]; exact H16.out)]; kernel_rfl)) ((by rw [smc_size (by rw [HLl.out]; exact H16.out)]; rfl)) (smc_ones L) ?_
      refine hK.out _ _ (grown_cells HGV.out (HG2.out.size) _) (fun hHeld3 => ?_)
      clear hK K9
      (try go_frame)
      refine wpAnyH_take (i := 12) (v := ?_) rfl (by kernel_rfl) (by kernel_rfl) (by kernel_rfl) (fun _ _ _ h => h) (Or.inl ⟨by rfl, ?_⟩) (by assumption) ?_
      rotate_left 1
      · (intro w0 hSw; go_simp; try with_reducible rfl)
      simp only [List.getElem_toArray, List.getElem_cons_zero, List.getElem_cons_succ]
      go_frame
      refine wpAnyH_done (by kernel_rfl) ?_ _
      go_wp2_with fail
      go_meet
      exact ⟨w2.heap.size, rfl, rfl, setRow_heap _ _ _ _ _ _ HV.out, HG2.out.size, grown_cells HGV.out (HG2.out.size) _⟩
    · simp only [List.getElem_toArray, List.getElem_cons_zero, List.getElem_cons_succ]
      go_simp
      refine hK.out _ _ (grown_trans (grown_push (grown_refl _ _) _) (grown_drew _)) (fun hHeld2 => ?_)
      clear hK K9
      (try go_frame)
      obtain ⟨V1, hV1⟩ : ∃ V1, V1 = (W1.alloc (.cells #[.bool false, .bool false, .bool false, .bool false, .bool false, .bool false, .bool false, .bool false, .bool false, .bool false, .bool false, .bool false, .bool false, .bool false, .bool false, .bool false] 127)).drew := ⟨_, rfl⟩
      rw [← hV1] at hHeld2 ⊢
      have HV1 : Hid (V1.heap[W1.heap.size]? = some (.cells #[.bool false, .bool false, .bool false, .bool false, .bool false, .bool false, .bool false, .bool false, .bool false, .bool false, .bool false, .bool false, .bool false, .bool false, .bool false, .bool false] 127 (0, 0))) := by rw [hV1]; exact alloc_at W1 _ _
      clear hV1
      refine wpAnyH_ready (rs := [2]) (by kernel_rfl) (by simp) ?_
      refine AllReadyH.cons rfl (fun K9 hK => ?_) AllReadyH.nil
      simp only [List.getElem_toArray, List.getElem_cons_zero, List.getElem_cons_succ]
      go_simp
      go_at_call 53
      refine (HC.out _ (grown_trans HG1.out hHeld2)).mono ?_
      rintro e2 V ⟨rfl, g2⟩
      have HGV : Hid (W1.grownBy V none) := grown_trans hHeld2 g2
      have HV : Hid (V.heap[W1.heap.size]? = some (.cells #[.bool false, .bool false, .bool false, .bool false, .bool false, .bool false, .bool false, .bool false, .bool false, .bool false, .bool false, .bool false, .bool false, .bool false, .bool false, .bool false] 127 (0, 0))) := grown_keep g2 HV1.out (by simp)
      clear g2
      refine hK.out _ _ (HGV.out) (fun hHeld4 => ?_)
      clear hK K9 hHeld2 HV1
      (try go_frame)
      refine wpAnyH_ready (rs := [11]) (by kernel_rfl) (by simp) ?_
      refine AllReadyH.cons rfl (fun K9 hK => ?_) AllReadyH.nil
      simp only [List.getElem_toArray, List.getElem_cons_zero, List.getElem_cons_succ]
      refine wp_store_row 127 (.tmp 5) (.tmp 11) rfl W1.heap.size (smc L) rfl rfl 127 _ HV.out ((by rw [smc_size (by rw [HLl.out]; exact H16.out)]; kernel_rfl)) ((by rw [smc_size (by rw [HLl.out]; exact H16.out)]; rfl)) (smc_ones L) ?_
      refine hK.out _ _ (grown_cells HGV.out (Nat.le_refl _) _) (fun hHeld3 => ?_)
      clear hK K9
      (try go_frame)
      refine wpAnyH_take (i := 12) (v := ?_) rfl (by kernel_rfl) (by kernel_rfl) (by kernel_rfl) (fun _ _ _ h => h) (Or.inl ⟨by rfl, ?_⟩) (by assumption) ?_
      rotate_left 1
      · (intro w0 hSw; go_simp; try with_reducible rfl)
      simp only [List.getElem_toArray, List.getElem_cons_zero, List.getElem_cons_succ]
      go_frame
      refine wpAnyH_done (by kernel_rfl) ?_ _
      go_wp2_with fail
      go_meet
      exact ⟨W1.heap.size, rfl, rfl, setRow_heap _ _ _ _ _ _ HV.out, Nat.le_refl _, grown_cells HGV.out (Nat.le_refl _) _⟩
  case rest =>
    obtain ⟨n3, rfl, rfl, hsm, hge, hg⟩ := hcut
    obtain ⟨V, hV⟩ : ∃ V, V = wc := ⟨_, rfl⟩
    subst hV
    have HGV : Hid (W1.grownBy V none) := hg
    have HGw : Hid (w.grownBy V none) := grown_trans HG1.out hg
    have HSM : Hid (SmB V n3 L) := hsm
    have Hge : Hid (W1.heap.size ≤ n3) := hge
    have HTV := HT.out.keep HGw.out
    have HCl := cloneF_any _ F V HTV.fs (by have := HLF.out; have := H16.out; omega)
    obtain ⟨b0, b1⟩ := tb_box (show TbB V n0 _ _ from grown_keep hg HB.out (by simp))
    clear hsm hge hg HTV HC
    go_wp2_with fail
    refine HCl.mono ?_
    rintro e2 w2 ⟨v2, rfl, o2, g2⟩
    obtain ⟨p2, c2, rfl⟩ := o2.form
    obtain ⟨g, cap, ec, hge2, -, -, -, -⟩ := own_cell o2 (show 0 < F.length by have := HLF.out; have := Hr.out; omega)
    injection ec with ec1 _ ec2
    subst ec1 ec2
    have HG2 : Hid (V.grownBy w2 none) := g2
    have k0 := tb_box (show TbB w2 n0 _ _ from grown_keep (grown_trans HGV.out g2) HB.out (by simp))
    obtain ⟨k0, k1⟩ := k0
    have kf := fun i => block_free (show TbB w2 n0 _ _ from grown_keep (grown_trans HGV.out g2) HB.out (by simp)) i
    obtain ⟨Y, hY⟩ : ∃ Y, Y = w2.setCell ⟨n0, 1, none⟩ (.slice (some ⟨g, 0, none⟩) F.length c2) := ⟨_, rfl⟩
    have HBd : Hid (n0 < V.heap.size ∧ n1 < V.heap.size ∧ n2 < V.heap.size ∧ n3 < V.heap.size ∧ w.heap.size ≤ V.heap.size) := ⟨by have := HD.out; have := HGV.out.size; omega, by have := HD.out; have := HGV.out.size; omega, by have := HD.out; have := HGV.out.size; omega, block_lt HSM.out, HGw.out.size⟩
    have HA : Hid (ApS w Y n0 n1 n2 n3 V.heap.size (.slice pr X.length cr) (.slice (some ⟨g, 0, none⟩) F.length c2) e L F) := by
      have q : w2.grownBy Y (some n0) := by rw [hY]; exact grown_set _ _ _ _
      have h3 : w2.heap[n0]? = some (.cells #[.slice pr X.length cr, .slice (some ⟨gf, fof, none⟩) F.length fcap] 118 (0, 0)) := grown_keep (grown_trans HGV.out g2) HB.out (by simp)
      have hd := HD.out
      refine ⟨by rw [hY]; exact block_set h3 1 _, grown_keep q (grown_keep (grown_trans HGV.out g2) HS.out (by simp)) (by simp; omega), grown_keep q (grown_keep (grown_trans HGV.out g2) HR.out (by simp)) (by simp; omega), grown_keep q (grown_keep g2 HSM.out (by simp)) (by simp; have := Hge.out; omega), World.ownsRow.kept o2 q (Or.inr (by simp [Value.ownBlock]; have := HBd.out; omega)), grown_own (grown_trans HGw.out g2) q (fun y e => by cases e; exact hd.2.2.2.2.2.1)⟩
    clear HCl o2 g2 b0 b1 HG2 HSM hge2
    go_upto_region 3 with fail
    rw [← hY]
    clear hY k0 k1 kf
    obtain ⟨b0, b1⟩ := tb_box HA.out.tb
    go_wp2_with fail
    clear b0 b1
    go_loopw [7, 8, 26] (fun _ _ i wr => ∃ k : Nat, k ≤ F.length ∧ i = .int .i64 (k : Int) ∧ ApS w wr n0 n1 n2 n3 V.heap.size (.slice pr X.length cr) (.slice (some ⟨g, 0, none⟩) F.length c2) e L (appU (rws X) F e k)) (fun _ _ i _ => F.length - (intOf i).toNat)
    case atStart => exact ⟨0, Nat.zero_le _, rfl, by rw [appU_zero]; exact HA.out⟩
    case round =>
      clear HA
      obtain ⟨k, hk, rfl, A⟩ := hrel
      obtain ⟨U, hU⟩ : ∃ U, U = wr := ⟨_, rfl⟩
      subst hU
      by_cases hlt : k < F.length
      · have HA : Hid (ApS w U n0 n1 n2 n3 V.heap.size (.slice pr X.length cr) (.slice (some ⟨g, 0, none⟩) F.length c2) e L (appU (rws X) F e k)) := A
        obtain ⟨f, hf⟩ : ∃ f, f = F.getD k Fe.none := ⟨_, rfl⟩
        have Hf : Hid (f = F.getD k Fe.none) := hf
        have RF : ∀ Z, ApS w Z n0 n1 n2 n3 V.heap.size (.slice pr X.length cr) (.slice (some ⟨g, 0, none⟩) F.length c2) e L (appU (rws X) F e k) → Z.rangeAt g (k * 5) (fec f) := fun Z a => by
          obtain ⟨p9, c9, e9, _, h9⟩ := a.fo.at
          obtain ⟨g9, o9, e10, h10⟩ := h9 (by rw [appU_len hk]; omega)
          rw [e10] at e9
          have q := a.fo
          injection e9 with q1 q2 q3
          injection q1 with q1
          injection q1 with q1 q4
          have := h10 k _ (appU_at hlt)
          rw [← q1, ← q4, Nat.zero_add, ← hf] at this
          exact this
        obtain ⟨f0, f1, f2, f3, f4⟩ := fe_cells (RF U A)
        obtain ⟨U2, hU2⟩ : ∃ U2, U2 = U.alloc (.cells #[.int .i64 f.ho, .int .u8 f.su, .int .u16 f.tr, .int .i64 f.po, .int .i64 f.he] 64) := ⟨_, rfl⟩
        have HGU : Hid (U.grownBy U2 none) := by rw [hU2]; exact World.grownBy_alloc _ _ none
        have HA2 : Hid (ApS w U2 n0 n1 n2 n3 V.heap.size (.slice pr X.length cr) (.slice (some ⟨g, 0, none⟩) F.length c2) e L (appU (rws X) F e k)) := HA.out.grow HGU.out
        have HgU : Hid (g < U.heap.size) := (HA.out.fo.lt g rfl).2
        have HBf : Hid (FeB U2 U.heap.size f) := by rw [hU2]; exact alloc_at _ _ _
        obtain ⟨b, hb⟩ : ∃ b, b = isAbB (rws X) F e k := ⟨_, rfl⟩
        have Hb : Hid (b = isAbB (rws X) F e k) := hb
        have hLk : L[k]? = some b := by
          rw [HL.out, hb]
          unfold aboutL aboutU
          rw [List.getElem?_map, List.getElem?_range (by rw [rws_len, ← HLF.out]; exact hlt)]
          rfl
        have y0 : U2.cell? ⟨n3, k, none⟩ = some (.bool b) := (block_cell HA2.out.sm k).trans (smc_at hLk)
        have hk16 : (k : Int) < 16 := by have := H16.out; have := HLF.out; omega
        have hwk : wrap64 ((k : Int) + 1) = (k : Int) + 1 := by unfold wrap64; omega
        have hlt' : (k : Int) < F.length := by omega
        have Hlt : Hid (k < F.length) := hlt
        have HM : Hid (F.length - (intOf (.int .i64 ((k : Int) + 1))).toNat < F.length - (intOf (.int .i64 (k : Int))).toNat) := meas_k hlt
        clear A hf RF hb hLk hlt hk HA
        go_upto_region 6 with fail
        rw [← hU2]
        obtain ⟨nb, hnb⟩ : ∃ nb, nb = U.heap.size := ⟨_, rfl⟩
        have Hnb : Hid (nb = U.heap.size) := hnb
        rw [← hnb] at HBf ⊢
        clear hU2 hnb f0 f1 f2 f3 f4
        cases b with
        | false =>
          have HY : Hid (appU (rws X) F e (k + 1) = appU (rws X) F e k) := appU_same Hlt.out Hb.out.symm
          go_wp2
          go_roundw
          case rel => exact ⟨k + 1, Hlt.out, by first | rfl | (rw [hwk]; rfl) | go_num, by rw [HY.out]; exact HA2.out⟩
          case measure => first | exact HM.out | (rw [hwk]; exact HM.out)
        | true =>
          obtain ⟨f2, hf2⟩ : ∃ f2, f2 = doneF f e.s.wh ho := ⟨_, rfl⟩
          have HCh := changed_any f e.s.wh ho U2.drew
          rw [← hf2] at HCh
          unfold fev pv at HCh
          have HY : Hid (appU (rws X) F e (k + 1) = (appU (rws X) F e k).set k f2) := by
            show _ = _
            rw [← appU_next Hlt.out]
            congr 1
            unfold applyAt
            rw [← Hb.out, if_pos rfl, hf2, Hho.out, Hf.out]
          clear hf2
          have hgB : V.heap.size ≤ g := (HA2.out.fo.lt g rfl).1
          have d0 : some n0 ≠ some g := by have := HBd.out; simp; omega
          have d1 : some n1 ≠ some g := by have := HBd.out; simp; omega
          have d2 : some nb ≠ some g := by rw [Hnb.out]; have := HgU.out; simp; omega
          obtain ⟨b0, b1⟩ := tb_box HA2.out.tb
          obtain ⟨s0, s1, s2, s3, s4, s5, s6, s7, s8, s9, s10⟩ := se_box HA2.out.se
          obtain ⟨f0, f1, f2', f3, f4⟩ := fe_box HBf.out
          clear hgB
          go_upto_region 7 with fail
          clear y0
          refine wp_region_held_drew (S := fun w' => U2.grownBy w' (some g)) (by kernel_rfl) (grown_drewR _ _) (fun hHeld => ?_)
          refine wpAnyH_take (i := 0) (v := ?_) rfl (by kernel_rfl) (by kernel_rfl) (by kernel_rfl) (fun _ _ _ h => h) (Or.inl ⟨by rfl, ?_⟩) (by assumption) ?_
          rotate_left 1
          · (intro w0 hSw; go_simp; try with_reducible rfl)
          simp only [List.getElem_toArray, List.getElem_cons_zero]
          go_frame
          refine wpAnyH_take (i := 1) (v := ?_) rfl (by kernel_rfl) (by kernel_rfl) (by kernel_rfl) (fun _ _ _ h => h) (Or.inl ⟨by rfl, ?_⟩) (by assumption) ?_
          rotate_left 1
          · (intro w0 hSw; have b1 := hSw.cell b1 d0; go_simp; try with_reducible rfl)
          simp only [List.getElem_toArray, List.getElem_cons_zero, List.getElem_cons_succ]
          go_frame
          refine wpAnyH_take (i := 2) (v := ?_) rfl (by kernel_rfl) (by kernel_rfl) (by kernel_rfl) (fun _ _ _ h => h) (Or.inl ⟨by rfl, ?_⟩) (by assumption) ?_
          rotate_left 1
          · (intro w0 hSw; go_simp; try with_reducible rfl)
          simp only [List.getElem_toArray, List.getElem_cons_zero, List.getElem_cons_succ]
          go_frame
          refine wpAnyH_take (i := 3) (v := ?_) rfl (by kernel_rfl) (by kernel_rfl) (by kernel_rfl) (fun _ _ _ h => h) (Or.inl ⟨by rfl, ?_⟩) (by assumption) ?_
          rotate_left 1
          · (intro w0 hSw; have f0 := hSw.cell f0 d2; have f1 := hSw.cell f1 d2; have f2' := hSw.cell f2' d2; have f3 := hSw.cell f3 d2; have f4 := hSw.cell f4 d2; go_simp; try with_reducible rfl)
          simp only [List.getElem_toArray, List.getElem_cons_zero, List.getElem_cons_succ]
          go_frame
          refine wpAnyH_take (i := 4) (v := ?_) rfl (by kernel_rfl) (by kernel_rfl) (by kernel_rfl) (fun _ _ _ h => h) (Or.inl ⟨by rfl, ?_⟩) (by assumption) ?_
          rotate_left 1
          · (intro w0 hSw; go_simp; try with_reducible rfl)
          simp only [List.getElem_toArray, List.getElem_cons_zero, List.getElem_cons_succ]
          go_frame
          refine wpAnyH_take (i := 5) (v := ?_) rfl (by kernel_rfl) (by kernel_rfl) (by kernel_rfl) (fun _ _ _ h => h) (Or.inl ⟨by rfl, ?_⟩) (by assumption) ?_
          rotate_left 1
          · (intro w0 hSw; go_simp; try with_reducible rfl)
          simp only [List.getElem_toArray, List.getElem_cons_zero, List.getElem_cons_succ]
          go_frame
          refine wpAnyH_take (i := 6) (v := ?_) rfl (by kernel_rfl) (by kernel_rfl) (by kernel_rfl) (fun _ _ _ h => h) (Or.inl ⟨by rfl, ?_⟩) (by assumption) ?_
          rotate_left 1
          · (intro w0 hSw; have s2 := hSw.cell s2 d1; have s3 := hSw.cell s3 d1; have s4 := hSw.cell s4 d1; have s5 := hSw.cell s5 d1; have s6 := hSw.cell s6 d1; have s7 := hSw.cell s7 d1; have s8 := hSw.cell s8 d1; have s9 := hSw.cell s9 d1; go_simp; try with_reducible rfl)
          simp only [List.getElem_toArray, List.getElem_cons_zero, List.getElem_cons_succ]
          go_frame
          refine wpAnyH_take (i := 7) (v := ?_) rfl (by kernel_rfl) (by kernel_rfl) (by kernel_rfl) (fun _ _ _ h => h) (Or.inl ⟨by rfl, ?_⟩) (by assumption) ?_
          rotate_left 1
          · (intro w0 hSw; go_simp; try with_reducible rfl)
          simp only [List.getElem_toArray, List.getElem_cons_zero, List.getElem_cons_succ]
          go_frame
          refine wpAnyH_ready (rs := [8]) (by kernel_rfl) (by simp) ?_
          refine AllReadyH.cons rfl (fun K hK => ?_) AllReadyH.nil
          simp only [List.getElem_toArray, List.getElem_cons_zero, List.getElem_cons_succ]
          go_simp
          go_at_call 103
          refine (HCh).mono ?_
          rintro e3 w3 ⟨rfl, g3⟩
          have HG3 : Hid (U2.grownBy w3 none) := grown_trans (grown_drew _) g3
          clear g3
          refine hK.out _ _ (grown_some HG3.out _) (fun hHeld2 => ?_)
          clear hK K
          (try go_frame)
          refine wpAnyH_take (i := 9) (v := ?_) rfl (by kernel_rfl) (by kernel_rfl) (by kernel_rfl) (fun _ _ _ h => h) (Or.inl ⟨by rfl, ?_⟩) (by assumption) ?_
          rotate_left 1
          · (intro w0 hSw; go_simp; try with_reducible rfl)
          simp only [List.getElem_toArray, List.getElem_cons_zero, List.getElem_cons_succ]
          go_frame
          refine wpAnyH_ready (rs := [10]) (by kernel_rfl) (by simp) ?_
          refine AllReadyH.cons rfl (fun K9 hK => ?_) AllReadyH.nil
          simp only [List.getElem_toArray, List.getElem_cons_zero, List.getElem_cons_succ]
          have HA3 : Hid (ApS w w3 n0 n1 n2 n3 V.heap.size (.slice pr X.length cr) (.slice (some ⟨g, 0, none⟩) F.length c2) e L (appU (rws X) F e k)) := HA2.out.grow HG3.out
          refine wp_store_mid 64 (.tmp 43) (.tmp 42) rfl g (k * 5) (fec f2).toArray rfl rfl (RecT.Own.there HA3.out.fo (appU_len (Nat.le_of_lt Hlt.out)) Hlt.out) (by kernel_rfl) (all_oneCell_toArray (fec_ones f2)) ?_
          refine hK.out _ _ (grown_trans (grown_some HG3.out _) (RecT.Own.set HA3.out.fo (appU_len (Nat.le_of_lt Hlt.out)) Hlt.out f2).2) (fun hHeld3 => ?_)
          clear hK K9
          (try go_frame)
          refine wpAnyH_done (by kernel_rfl) ?_ _
          have HA4 : Hid (ApS w (w3.setCells g (k * 5) (fec f2)) n0 n1 n2 n3 V.heap.size (.slice pr X.length cr) (.slice (some ⟨g, 0, none⟩) F.length c2) e L ((appU (rws X) F e k).set k f2)) := HA3.out.set (appU_len (Nat.le_of_lt Hlt.out)) Hlt.out HBd.out f2
          obtain ⟨Z, hZ⟩ : ∃ Z, Z = w3.setCells g (k * 5) (fec f2) := ⟨_, rfl⟩
          rw [← hZ] at HA4
          change _ at hHeld3
          clear hHeld hHeld2 hHeld3 HCh b0 b1 s0 s1 s2 s3 s4 s5 s6 s7 s8 s9 s10 f0 f1 f2' f3 f4
          rw [show w3.setCells g (k * 5) (fec f2).toArray.toList = Z from hZ.symm]
          clear hZ
          go_wp2_with fail
          go_roundw
          case rel => exact ⟨k + 1, Hlt.out, by first | rfl | (rw [hwk]; rfl) | go_num, by rw [HY.out]; exact HA4.out⟩
          case measure => first | exact HM.out | (rw [hwk]; exact HM.out)
      · obtain rfl : k = F.length := by omega
        rw [appU_all] at A
        have HA : Hid (ApS w U n0 n1 n2 n3 V.heap.size (.slice pr X.length cr) (.slice (some ⟨g, 0, none⟩) F.length c2) e L (applyL (rws X) F e)) := A
        obtain ⟨b0, b1⟩ := tb_box HA.out.tb
        obtain ⟨r0, r1⟩ := tb_box HA.out.re
        have rf := fun i => block_free HA.out.re i
        clear A hk hlt
        go_wp2_with fail
        refine bodyPost_ret (v := .agg #[.slice pr X.length cr, .slice (some ⟨g, 0, none⟩) F.length c2]) (by simp [results, Tryz.results54, go_sem, r0, r1]) rfl ⟨_, rfl, ?_, ?_⟩
        · have hd := HD.out
          have hb := HBd.out
          exact World.ownsRow.kept (own_big HA.out.fo hb.2.2.2.2) (grown_trans (grown_set _ n2 _ _) (grown_set _ n2 _ _)) (Or.inr (by have := (HA.out.fo.lt g rfl).1; simp [Value.ownBlock]; omega))
        · exact grown_set2 (grown_set2 HA.out.gr HD.out.2.2.2.2.2.2 _ _) HD.out.2.2.2.2.2.2 _ _
end Go.Proofs.YtmemeloehgemcaaGreat
