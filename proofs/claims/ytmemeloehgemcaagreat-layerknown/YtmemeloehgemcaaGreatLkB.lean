/-
  LayerKnown: of two effects the one that hangs on the other comes behind it.
-/
import Derived.Test.YtmemeloehgemcaaGreatK45
namespace Go.Proofs.YtmemeloehgemcaaGreat
open Go.RowKit Go.Shelf

structure HgS (w wr : World) (b S gt gf : Nat) (vG vS : Value) : Prop where
  bk : Book (fun k => tgOk b k ∧ k < S) wr b (hgES vG vS) exP
  th : thR.Own 60 wr S (.slice (some ⟨gt, 0, none⟩) 2 2) hgT
  fe : feR.Own 64 wr S (.slice (some ⟨gf, 0, none⟩) 2 2) hgF
  gr : w.grownBy wr none
theorem HgS.keep {w wr w' : World} {b S gt gf : Nat} {vG vS : Value} (h : HgS w wr b S gt gf vG vS) (g : wr.grownBy w' none) : HgS w w' b S gt gf vG vS := ⟨h.bk.keep g, own_grow h.th g, own_grow h.fe g, grown_trans h.gr g⟩
theorem HgS.inn {w wr : World} {b S gt gf : Nat} {vG vS : Value} (h : HgS w wr b S gt gf vG vS) : LIn wr (.pointer (some ⟨b, 0, none⟩)) (.slice (some ⟨gt, 0, none⟩) 2 2) (.slice (some ⟨gf, 0, none⟩) 2 2) 0 2 (atC exP (hgES vG vS)) hgT hgF := LIn.of h.bk (RecT.Own.at h.th) (RecT.Own.at h.fe) (by decide)
theorem hg_lit {W : World} {g S : Nat} (h : W.heap[g]? = some (.cells (thR.cs hgT).toArray 60 (0, 0))) (hS : S ≤ g) : thR.Own 60 W S (.slice (some ⟨g, 0, none⟩) 2 2) hgT := ⟨rfl, Or.inr ⟨g, 2, _, rfl, hS, h, Nat.le_refl _, (by unfold maxLen; decide), rfl, rfl⟩⟩
theorem hg_lit2 {W : World} {g S : Nat} (h : W.heap[g]? = some (.cells (feR.cs hgF).toArray 64 (0, 0))) (hS : S ≤ g) : feR.Own 64 W S (.slice (some ⟨g, 0, none⟩) 2 2) hgF := ⟨rfl, Or.inr ⟨g, 2, _, rfl, hS, h, Nat.le_refl _, (by unfold maxLen; decide), rfl, rfl⟩⟩
theorem hg_two {W : World} {g : Nat} (h : W.heap[g]? = some (.cells (sdR.cs [hgB.s, hgA.s]).toArray 49 (0, 0))) : sdR.At W (.slice (some ⟨g, 0, none⟩) 2 2) [hgB.s, hgA.s] := RecT.Own.at (T := 49) (base := 0) ⟨rfl, Or.inr ⟨g, 2, _, rfl, Nat.zero_le _, h, Nat.le_refl _, (by unfold maxLen; decide), rfl, rfl⟩⟩
set_option maxRecDepth 100000 in
set_option maxHeartbeats 4000000 in
theorem lhangs_any (w : World) : Calls Tryz.prog 23 #[] w fun e w' => e = .returned (.bool true) ∧ w.grownBy w' none := by
  have HN := bnew (tgOk w.heap.size) w
  obtain ⟨b, hb⟩ : ∃ b, b = w.heap.size := ⟨_, rfl⟩
  have HBb : Hid (b = w.heap.size) := hb
  rw [← hb] at HN
  clear hb
  go_enter Tryz.func23, Tryz.ntmps23
  go_wp2_with fail
  refine HN.mono ?_
  rintro e w1 ⟨rfl, B1, g1, hz1⟩
  have HG1 : Hid (w.grownBy w1 none) := g1
  clear HN g1 hz1
  obtain ⟨W1, hW1⟩ : ∃ W1, W1 = w1.alloc (.cells #[.int .u8 hgSp.wn, .int .u8 hgSp.vb, .int .u8 hgSp.wm, .int .i64 hgSp.ct, .int .u8 hgSp.su, .int .u8 hgSp.tr, .int .u8 hgSp.mr, .string hgSp.nm] 47) := ⟨_, rfl⟩
  have HGW1 : Hid (w.grownBy W1 none) := by rw [hW1]; exact grown_push HG1.out _
  have HC1 := bcard (tgOk b) b [] plNew hgS (.slice (some ⟨w1.heap.size, 0, none⟩) 1 1) [hgSp] W1 (by rw [hW1]; exact B1.keep (World.grownBy_alloc _ _ none)) (Nat.lt_irrefl _) (fun q hq => by show b < q; have := B1.lt; rw [hW1, World.size_alloc] at hq; omega) (by rw [hW1]; exact ps_one (alloc_at _ _ _)) (by unfold Small; simp)
  rw [hg_caS] at HC1
  have HWe1 : Hid (W1 = _) := hW1
  unfold cv hgS at HC1
  rw [hW1] at HC1
  unfold hgSp at HC1
  clear B1 hW1
  go_wp2_with fail
  refine HC1.mono ?_
  rw [show w1.alloc (.cells #[.int .u8 5, .int .u8 13, .int .u8 10, .int .i64 0, .int .u8 0, .int .u8 1, .int .u8 0, .string ⟨#[]⟩] 47) = W1 from HWe1.out.symm]
  rintro e w2 ⟨vS, rfl, B2', g2⟩
  have B2 : Book (tgOk b) w2 b [⟨hgS, vS, [hgSp]⟩] plNew := by rw [← hg_inS]; exact B2'
  have HG2 : Hid (w.grownBy w2 none) := grown_own HGW1.out g2 (fun x e => by cases e; rw [HBb.out]; exact Nat.le_refl _)
  clear HC1 B2' g2 HG1 HGW1 HWe1
  obtain ⟨W2, hW2⟩ : ∃ W2, W2 = w2.alloc (.cells #[.int .u8 hgGp.wn, .int .u8 hgGp.vb, .int .u8 hgGp.wm, .int .i64 hgGp.ct, .int .u8 hgGp.su, .int .u8 hgGp.tr, .int .u8 hgGp.mr, .string hgGp.nm] 47) := ⟨_, rfl⟩
  have HGW2 : Hid (w.grownBy W2 none) := by rw [hW2]; exact grown_push HG2.out _
  have HC2 := bcard (tgOk b) b [⟨hgS, vS, [hgSp]⟩] plNew hgG (.slice (some ⟨w2.heap.size, 0, none⟩) 1 1) [hgGp] W2 (by rw [hW2]; exact B2.keep (World.grownBy_alloc _ _ none)) (Nat.lt_irrefl _) (fun q hq => by show b < q; have := B2.lt; rw [hW2, World.size_alloc] at hq; omega) (by rw [hW2]; exact ps_one (alloc_at _ _ _)) (by unfold Small; simp)
  rw [hg_caG] at HC2
  have HWe2 : Hid (W2 = _) := hW2
  unfold cv hgG at HC2
  rw [hW2] at HC2
  unfold hgGp at HC2
  clear B2 hW2
  go_wp2_with fail
  refine HC2.mono ?_
  rw [show w2.alloc (.cells #[.int .u8 5, .int .u8 12, .int .u8 7, .int .i64 0, .int .u8 0, .int .u8 1, .int .u8 0, .string ⟨#[]⟩] 47) = W2 from HWe2.out.symm]
  rintro e w3 ⟨vG, rfl, B3', g3⟩
  have B3 : Book (tgOk b) w3 b [⟨hgG, vG, [hgGp]⟩, ⟨hgS, vS, [hgSp]⟩] plNew := by rw [← hg_inG]; exact B3'
  have HG3 : Hid (w.grownBy w3 none) := grown_own HGW2.out g3 (fun x e => by cases e; rw [HBb.out]; exact Nat.le_refl _)
  clear HC2 B3' g3 HG2 HGW2 HWe2
  have HS := bseal (tgOk b) b (hgES vG vS) plNew w3 B3 (Nat.lt_irrefl _)
  rw [hg_seal, hg_shut] at HS
  clear B3
  go_wp2_with fail
  refine HS.mono ?_
  rintro e w4 ⟨rfl, B4, g4⟩
  obtain ⟨S, hS⟩ : ∃ S, S = w4.heap.size := ⟨_, rfl⟩
  have HB4 : Hid (Book (fun k => tgOk b k ∧ k < S) w4 b (hgES vG vS) exP ∧ w.grownBy w4 none ∧ S ≤ w4.heap.size) := ⟨by rw [hS]; exact B4.oldL, grown_own HG3.out g4 (fun x e => by cases e; rw [HBb.out]; exact Nat.le_refl _), Nat.le_of_eq hS⟩
  clear HS B4 g4 HG3 hS HBb
  have C1 := find_yes b (hgES vG vS) exP hgG.nm w4 HB4.out.1.lies HB4.out.1.good.slc
  rw [(hg_fN vG vS).1, (hg_fE vG vS).1] at C1
  unfold hgG at C1
  go_wp2_with fail
  refine C1.mono ?_
  rintro e w5 ⟨rfl, g5⟩
  have HB5 : Hid (Book (fun k => tgOk b k ∧ k < S) w5 b (hgES vG vS) exP ∧ w.grownBy w5 none ∧ S ≤ w5.heap.size) := ⟨HB4.out.1.keep g5, grown_trans HB4.out.2.1 g5, Nat.le_trans HB4.out.2.2 g5.size⟩
  clear C1 g5 HB4
  have C2 := find_yes b (hgES vG vS) exP hgS.nm w5 HB5.out.1.lies HB5.out.1.good.slc
  rw [(hg_fN vG vS).2, (hg_fE vG vS).2] at C2
  unfold hgS at C2
  go_wp2_with fail
  refine C2.mono ?_
  rintro e w6 ⟨rfl, g6⟩
  have HB6 : Hid (Book (fun k => tgOk b k ∧ k < S) w6 b (hgES vG vS) exP ∧ w.grownBy w6 none ∧ S ≤ w6.heap.size) := ⟨HB5.out.1.keep g6, grown_trans HB5.out.2.1 g6, Nat.le_trans HB5.out.2.2 g6.size⟩
  clear C2 g6 HB5
  obtain ⟨V, hV⟩ : ∃ V, V = (w6.alloc (.cells #[.int .i64 2, .int .i64 0, .int .u8 4, .int .i64 1, .int .i64 0, .int .i64 0, .int .i64 0, .int .i64 0, .int .i64 0, .int .i64 0, .bool false, .int .i64 1, .int .i64 0, .int .u8 4, .int .i64 2, .int .i64 0, .int .i64 0, .int .i64 0, .int .i64 0, .int .i64 0, .int .i64 0, .bool false] 60)).alloc (.cells #[.int .i64 0, .int .u8 2, .int .u16 0, .int .i64 0, .int .i64 1, .int .i64 0, .int .u8 2, .int .u16 0, .int .i64 0, .int .i64 1] 64) := ⟨_, rfl⟩
  have gV : w6.grownBy V none := by rw [hV]; exact grown_push (World.grownBy_alloc _ _ none) _
  have HV : Hid (HgS w V b S w6.heap.size (w6.heap.size + 1) vG vS) := ⟨HB6.out.1.keep gV, hg_lit (by rw [hV]; exact alloc_two _ _ _ _ _) HB6.out.2.2, hg_lit2 (by rw [hV]; exact alloc2_b _ _ _ _) (Nat.le_succ_of_le HB6.out.2.2), grown_trans HB6.out.2.1 gV⟩
  clear gV HB6
  go_upto_region 9 with fail
  rw [← hV]
  obtain ⟨gt, hgt⟩ : ∃ gt, gt = w6.heap.size := ⟨_, rfl⟩
  obtain ⟨gf, hgf⟩ : ∃ gf, gf = gt + 1 := ⟨_, rfl⟩
  simp only [← hgt, ← hgf] at HV ⊢
  clear hV hgt hgf
  have C3 := lEffects_any _ _ _ 0 2 _ hgT hgF 3 V HV.out.inn
  go_wp2_with fail
  refine (C3.mono fun e w' q => hg_effp q).mono ?_
  rintro e w7 ⟨ge, ce, rfl, ⟨R1, R2⟩, A7, g7⟩
  have H7 : Hid (HgS w w7 b S gt gf vG vS) := HV.out.keep g7
  have HA7 : Hid (sdR.At w7 (.slice (some ⟨ge, 0, none⟩) 2 ce) [hgA.s, hgB.s] ∧ w7.rangeAt ge 0 (sdc ⟨1, 0, hgSp⟩) ∧ w7.rangeAt ge 10 (sdc ⟨2, 0, hgGp⟩)) := ⟨A7, R1, R2⟩
  obtain ⟨x0, x1, x2, x3, x4, x5, x6, x7, x8, x9⟩ := sd_cells R1
  obtain ⟨y0, y1, y2, y3, y4, y5, y6, y7, y8, y9⟩ := sd_cells R2
  simp only [Nat.zero_add, Nat.reduceAdd, hgSp, hgGp] at x0 x1 x2 x3 x4 x5 x6 x7 x8 x9 y0 y1 y2 y3 y4 y5 y6 y7 y8 y9
  clear C3 g7 A7 R1 R2 HV
  have C4 := lDepends_any _ _ _ 0 2 _ hgT hgF hgA.s hgB.s w7.drew (H7.out.keep (grown_drew _)).inn
  unfold sdv hgA hgB hgSp hgGp at C4
  have h02 : (0 : Int) < ((2 : Nat) : Int) := by decide
  have h12 : (1 : Int) < ((2 : Nat) : Int) := by decide
  go_upto_region 12 with fail
  refine wp_region_held_drew (S := fun w' => w7.grownBy w' none) (by kernel_rfl) (grown_drew _) (fun hHeld => ?_)
  refine wpAnyH_take (i := 0) (v := ?_) rfl (by kernel_rfl) (by kernel_rfl) (by kernel_rfl) (fun _ _ _ h => h) (Or.inl ⟨by rfl, ?_⟩) (by assumption) ?_
  rotate_left 1
  · (intro w0 hSw; go_simp; try with_reducible rfl)
  simp only [List.getElem_toArray, List.getElem_cons_zero]
  go_frame
  refine wpAnyH_take (i := 1) (v := ?_) rfl (by kernel_rfl) (by kernel_rfl) (by kernel_rfl) (fun _ _ _ h => h) (Or.inl ⟨by rfl, ?_⟩) (by assumption) ?_
  rotate_left 1
  · (intro w0 hSw; go_simp; try with_reducible rfl)
  simp only [List.getElem_toArray, List.getElem_cons_zero, List.getElem_cons_succ]
  go_frame
  refine wpAnyH_take (i := 2) (v := ?_) rfl (by kernel_rfl) (by kernel_rfl) (by kernel_rfl) (fun _ _ _ h => h) (Or.inl ⟨by rfl, ?_⟩) (by assumption) ?_
  rotate_left 1
  · (intro w0 hSw; go_simp; try with_reducible rfl)
  simp only [List.getElem_toArray, List.getElem_cons_zero, List.getElem_cons_succ]
  go_frame
  refine wpAnyH_take (i := 3) (v := ?_) rfl (by kernel_rfl) (by kernel_rfl) (by kernel_rfl) (fun _ _ _ h => h) (Or.inl ⟨by rfl, ?_⟩) (by assumption) ?_
  rotate_left 1
  · (intro w0 hSw; go_simp; try with_reducible rfl)
  simp only [List.getElem_toArray, List.getElem_cons_zero, List.getElem_cons_succ]
  go_frame
  refine wpAnyH_take (i := 4) (v := ?_) rfl (by kernel_rfl) (by kernel_rfl) (by kernel_rfl) (fun _ _ _ h => h) (Or.inl ⟨by rfl, ?_⟩) (by assumption) ?_
  rotate_left 1
  · (intro w0 hSw; go_simp; try with_reducible rfl)
  simp only [List.getElem_toArray, List.getElem_cons_zero, List.getElem_cons_succ]
  go_frame
  refine wpAnyH_take (i := 5) (v := ?_) rfl (by kernel_rfl) (by kernel_rfl) (by kernel_rfl) (fun _ _ _ h => h) (Or.inl ⟨by rfl, ?_⟩) (by assumption) ?_
  rotate_left 1
  · (intro w0 hSw; have x0 := hSw.cell x0 (by simp); have x1 := hSw.cell x1 (by simp); have x2 := hSw.cell x2 (by simp); have x3 := hSw.cell x3 (by simp); have x4 := hSw.cell x4 (by simp); have x5 := hSw.cell x5 (by simp); have x6 := hSw.cell x6 (by simp); have x7 := hSw.cell x7 (by simp); have x8 := hSw.cell x8 (by simp); have x9 := hSw.cell x9 (by simp); go_simp; try with_reducible rfl)
  simp only [List.getElem_toArray, List.getElem_cons_zero, List.getElem_cons_succ]
  go_frame
  refine wpAnyH_take (i := 6) (v := ?_) rfl (by kernel_rfl) (by kernel_rfl) (by kernel_rfl) (fun _ _ _ h => h) (Or.inl ⟨by rfl, ?_⟩) (by assumption) ?_
  rotate_left 1
  · (intro w0 hSw; go_simp; try with_reducible rfl)
  simp only [List.getElem_toArray, List.getElem_cons_zero, List.getElem_cons_succ]
  go_frame
  refine wpAnyH_take (i := 7) (v := ?_) rfl (by kernel_rfl) (by kernel_rfl) (by kernel_rfl) (fun _ _ _ h => h) (Or.inl ⟨by rfl, ?_⟩) (by assumption) ?_
  rotate_left 1
  · (intro w0 hSw; go_simp; try with_reducible rfl)
  simp only [List.getElem_toArray, List.getElem_cons_zero, List.getElem_cons_succ]
  go_frame
  refine wpAnyH_take (i := 8) (v := ?_) rfl (by kernel_rfl) (by kernel_rfl) (by kernel_rfl) (fun _ _ _ h => h) (Or.inl ⟨by rfl, ?_⟩) (by assumption) ?_
  rotate_left 1
  · (intro w0 hSw; have y0 := hSw.cell y0 (by simp); have y1 := hSw.cell y1 (by simp); have y2 := hSw.cell y2 (by simp); have y3 := hSw.cell y3 (by simp); have y4 := hSw.cell y4 (by simp); have y5 := hSw.cell y5 (by simp); have y6 := hSw.cell y6 (by simp); have y7 := hSw.cell y7 (by simp); have y8 := hSw.cell y8 (by simp); have y9 := hSw.cell y9 (by simp); go_simp; try with_reducible rfl)
  simp only [List.getElem_toArray, List.getElem_cons_zero, List.getElem_cons_succ]
  go_frame
  refine wpAnyH_ready (rs := [9]) (by kernel_rfl) (by simp) ?_
  refine AllReadyH.cons rfl (fun K hK => ?_) AllReadyH.nil
  simp only [List.getElem_toArray, List.getElem_cons_zero, List.getElem_cons_succ]
  go_simp
  go_at_call 20
  refine (C4).mono ?_
  rintro e8 w8 q8
  obtain ⟨rfl, g8⟩ := hg_depp q8
  have HG8 : Hid (w7.grownBy w8 none) := grown_trans (grown_drew _) g8
  clear C4 g8 q8
  refine hK.out _ _ (HG8.out) (fun hHeld2 => ?_)
  clear hK K
  (try go_frame)
  refine wpAnyH_take (i := 10) (v := ?_) rfl (by kernel_rfl) (by kernel_rfl) (by kernel_rfl) (fun _ _ _ h => h) (Or.inl ⟨by rfl, ?_⟩) (by assumption) ?_
  rotate_left 1
  · (intro w0 hSw; go_simp; try with_reducible rfl)
  simp only [List.getElem_toArray, List.getElem_cons_zero, List.getElem_cons_succ]
  go_frame
  refine wpAnyH_take (i := 11) (v := ?_) rfl (by kernel_rfl) (by kernel_rfl) (by kernel_rfl) (fun _ _ _ h => h) (Or.inl ⟨by rfl, ?_⟩) (by assumption) ?_
  rotate_left 1
  · (intro w0 hSw; go_simp; try with_reducible rfl)
  simp only [List.getElem_toArray, List.getElem_cons_zero, List.getElem_cons_succ]
  go_frame
  refine wpAnyH_take (i := 12) (v := ?_) rfl (by kernel_rfl) (by kernel_rfl) (by kernel_rfl) (fun _ _ _ h => h) (Or.inl ⟨by rfl, ?_⟩) (by assumption) ?_
  rotate_left 1
  · (intro w0 hSw; go_simp; try with_reducible rfl)
  simp only [List.getElem_toArray, List.getElem_cons_zero, List.getElem_cons_succ]
  go_frame
  refine wpAnyH_take (i := 13) (v := ?_) rfl (by kernel_rfl) (by kernel_rfl) (by kernel_rfl) (fun _ _ _ h => h) (Or.inl ⟨by rfl, ?_⟩) (by assumption) ?_
  rotate_left 1
  · (intro w0 hSw; go_simp; try with_reducible rfl)
  simp only [List.getElem_toArray, List.getElem_cons_zero, List.getElem_cons_succ]
  go_frame
  refine wpAnyH_take (i := 14) (v := ?_) rfl (by kernel_rfl) (by kernel_rfl) (by kernel_rfl) (fun _ _ _ h => h) (Or.inl ⟨by rfl, ?_⟩) (by assumption) ?_
  rotate_left 1
  · (intro w0 hSw; go_simp; try with_reducible rfl)
  simp only [List.getElem_toArray, List.getElem_cons_zero, List.getElem_cons_succ]
  go_frame
  refine wpAnyH_done (by kernel_rfl) ?_ _
  have H8 : Hid (HgS w w8 b S gt gf vG vS) := H7.out.keep HG8.out
  have HA8 : Hid (sdR.At w8 (.slice (some ⟨ge, 0, none⟩) 2 ce) [hgA.s, hgB.s] ∧ w8.rangeAt ge 0 (sdc ⟨1, 0, hgSp⟩) ∧ w8.rangeAt ge 10 (sdc ⟨2, 0, hgGp⟩)) := ⟨HA7.out.1.keep HG8.out, rangeAt_keep HA7.out.2.1 HG8.out, rangeAt_keep HA7.out.2.2 HG8.out⟩
  clear x0 x1 x2 x3 x4 x5 x6 x7 x8 x9 y0 y1 y2 y3 y4 y5 y6 y7 y8 y9 H7 HA7 HG8 hHeld hHeld2
  have C5 := lNext_any _ _ _ _ 0 2 _ hgT hgF _ w8 H8.out.inn HA8.out.1 (by decide)
  go_wp2_with fail
  refine (C5.mono fun e w' q => hg_nextp q).mono ?_
  rintro e w9 ⟨rfl, g9⟩
  have H9 : Hid (HgS w w9 b S gt gf vG vS) := H8.out.keep g9
  have HA9 : Hid (w9.rangeAt ge 0 (sdc ⟨1, 0, hgSp⟩) ∧ w9.rangeAt ge 10 (sdc ⟨2, 0, hgGp⟩)) := ⟨rangeAt_keep HA8.out.2.1 g9, rangeAt_keep HA8.out.2.2 g9⟩
  obtain ⟨x0, x1, x2, x3, x4, x5, x6, x7, x8, x9⟩ := sd_cells HA9.out.1
  obtain ⟨y0, y1, y2, y3, y4, y5, y6, y7, y8, y9⟩ := sd_cells HA9.out.2
  simp only [Nat.zero_add, Nat.reduceAdd, hgSp, hgGp] at x0 x1 x2 x3 x4 x5 x6 x7 x8 x9 y0 y1 y2 y3 y4 y5 y6 y7 y8 y9
  clear C5 g9 H8 HA8
  obtain ⟨Z, hZ⟩ : ∃ Z, Z = (w9.alloc (.cells #[.int .i64 2, .int .i64 0, .int .u8 5, .int .u8 12, .int .u8 7, .int .i64 0, .int .u8 0, .int .u8 1, .int .u8 0, .string ⟨#[]⟩, .int .i64 1, .int .i64 0, .int .u8 5, .int .u8 13, .int .u8 10, .int .i64 0, .int .u8 0, .int .u8 1, .int .u8 0, .string ⟨#[]⟩] 49)).drew := ⟨_, rfl⟩
  have HZ : Hid (HgS w Z b S gt gf vG vS ∧ sdR.At Z (.slice (some ⟨w9.heap.size, 0, none⟩) 2 2) [hgB.s, hgA.s] ∧ w9.grownBy Z none) := by
    have g1 : w9.grownBy (w9.alloc (.cells #[.int .i64 2, .int .i64 0, .int .u8 5, .int .u8 12, .int .u8 7, .int .i64 0, .int .u8 0, .int .u8 1, .int .u8 0, .string ⟨#[]⟩, .int .i64 1, .int .i64 0, .int .u8 5, .int .u8 13, .int .u8 10, .int .i64 0, .int .u8 0, .int .u8 1, .int .u8 0, .string ⟨#[]⟩] 49)) none := World.grownBy_alloc _ _ none
    have g : w9.grownBy Z none := by rw [hZ]; exact grown_trans g1 (grown_drew _)
    exact ⟨H9.out.keep g, by rw [hZ]; exact (hg_two (alloc_at _ _ _)).keep (grown_drew _), g⟩
  have C6 := lNext_any _ _ _ _ 0 2 _ hgT hgF _ Z HZ.out.1.inn HZ.out.2.1 (by decide)
  go_upto_region 14 with fail
  refine wp_region_held_drew (S := fun w' => w9.grownBy w' none) (by kernel_rfl) (grown_drew _) (fun hHeld => ?_)
  refine wpAnyH_take (i := 0) (v := ?_) rfl (by kernel_rfl) (by kernel_rfl) (by kernel_rfl) (fun _ _ _ h => h) (Or.inl ⟨by rfl, ?_⟩) (by assumption) ?_
  rotate_left 1
  · (intro w0 hSw; go_simp; try with_reducible rfl)
  simp only [List.getElem_toArray, List.getElem_cons_zero]
  go_frame
  refine wpAnyH_take (i := 1) (v := ?_) rfl (by kernel_rfl) (by kernel_rfl) (by kernel_rfl) (fun _ _ _ h => h) (Or.inl ⟨by rfl, ?_⟩) (by assumption) ?_
  rotate_left 1
  · (intro w0 hSw; go_simp; try with_reducible rfl)
  simp only [List.getElem_toArray, List.getElem_cons_zero, List.getElem_cons_succ]
  go_frame
  refine wpAnyH_take (i := 2) (v := ?_) rfl (by kernel_rfl) (by kernel_rfl) (by kernel_rfl) (fun _ _ _ h => h) (Or.inl ⟨by rfl, ?_⟩) (by assumption) ?_
  rotate_left 1
  · (intro w0 hSw; go_simp; try with_reducible rfl)
  simp only [List.getElem_toArray, List.getElem_cons_zero, List.getElem_cons_succ]
  go_frame
  refine wpAnyH_take (i := 3) (v := ?_) rfl (by kernel_rfl) (by kernel_rfl) (by kernel_rfl) (fun _ _ _ h => h) (Or.inl ⟨by rfl, ?_⟩) (by assumption) ?_
  rotate_left 1
  · (intro w0 hSw; go_simp; try with_reducible rfl)
  simp only [List.getElem_toArray, List.getElem_cons_zero, List.getElem_cons_succ]
  go_frame
  refine wpAnyH_take (i := 4) (v := ?_) rfl (by kernel_rfl) (by kernel_rfl) (by kernel_rfl) (fun _ _ _ h => h) (Or.inl ⟨by rfl, ?_⟩) (by assumption) ?_
  rotate_left 1
  · (intro w0 hSw; go_simp; try with_reducible rfl)
  simp only [List.getElem_toArray, List.getElem_cons_zero, List.getElem_cons_succ]
  go_frame
  refine wpAnyH_take (i := 5) (v := ?_) rfl (by kernel_rfl) (by kernel_rfl) (by kernel_rfl) (fun _ _ _ h => h) (Or.inl ⟨by rfl, ?_⟩) (by assumption) ?_
  rotate_left 1
  · (intro w0 hSw; have y0 := hSw.cell y0 (by simp); have y1 := hSw.cell y1 (by simp); have y2 := hSw.cell y2 (by simp); have y3 := hSw.cell y3 (by simp); have y4 := hSw.cell y4 (by simp); have y5 := hSw.cell y5 (by simp); have y6 := hSw.cell y6 (by simp); have y7 := hSw.cell y7 (by simp); have y8 := hSw.cell y8 (by simp); have y9 := hSw.cell y9 (by simp); go_simp; try with_reducible rfl)
  simp only [List.getElem_toArray, List.getElem_cons_zero, List.getElem_cons_succ]
  go_frame
  refine wpAnyH_take (i := 6) (v := ?_) rfl (by kernel_rfl) (by kernel_rfl) (by kernel_rfl) (fun _ _ _ h => h) (Or.inl ⟨by rfl, ?_⟩) (by assumption) ?_
  rotate_left 1
  · (intro w0 hSw; go_simp; try with_reducible rfl)
  simp only [List.getElem_toArray, List.getElem_cons_zero, List.getElem_cons_succ]
  go_frame
  refine wpAnyH_take (i := 7) (v := ?_) rfl (by kernel_rfl) (by kernel_rfl) (by kernel_rfl) (fun _ _ _ h => h) (Or.inl ⟨by rfl, ?_⟩) (by assumption) ?_
  rotate_left 1
  · (intro w0 hSw; go_simp; try with_reducible rfl)
  simp only [List.getElem_toArray, List.getElem_cons_zero, List.getElem_cons_succ]
  go_frame
  refine wpAnyH_take (i := 8) (v := ?_) rfl (by kernel_rfl) (by kernel_rfl) (by kernel_rfl) (fun _ _ _ h => h) (Or.inl ⟨by rfl, ?_⟩) (by assumption) ?_
  rotate_left 1
  · (intro w0 hSw; have x0 := hSw.cell x0 (by simp); have x1 := hSw.cell x1 (by simp); have x2 := hSw.cell x2 (by simp); have x3 := hSw.cell x3 (by simp); have x4 := hSw.cell x4 (by simp); have x5 := hSw.cell x5 (by simp); have x6 := hSw.cell x6 (by simp); have x7 := hSw.cell x7 (by simp); have x8 := hSw.cell x8 (by simp); have x9 := hSw.cell x9 (by simp); go_simp; try with_reducible rfl)
  simp only [List.getElem_toArray, List.getElem_cons_zero, List.getElem_cons_succ]
  go_frame
  refine wpAnyH_ready (rs := [9]) (by kernel_rfl) (by simp) ?_
  refine AllReadyH.cons rfl (fun K9 hK => ?_) AllReadyH.nil
  simp only [List.getElem_toArray, List.getElem_cons_zero, List.getElem_cons_succ]
  go_simp
  rw [← hZ]
  clear hZ
  refine hK.out _ _ (HZ.out.2.2) (fun hHeld3 => ?_)
  clear hK K9
  (try go_frame)
  refine wpAnyH_ready (rs := [10]) (by kernel_rfl) (by simp) ?_
  refine AllReadyH.cons rfl (fun K hK => ?_) AllReadyH.nil
  simp only [List.getElem_toArray, List.getElem_cons_zero, List.getElem_cons_succ]
  go_simp
  go_at_call 21
  refine (C6).mono ?_
  rintro e10 w10 q10
  obtain ⟨rfl, g10⟩ := hg_nextp2 q10
  have HG10 : Hid (w9.grownBy w10 none ∧ w.grownBy w10 none) := ⟨grown_trans HZ.out.2.2 g10, grown_trans HZ.out.1.gr g10⟩
  clear C6 g10 q10
  refine hK.out _ _ (HG10.out.1) (fun hHeld2 => ?_)
  clear hK K
  (try go_frame)
  refine wpAnyH_take (i := 11) (v := ?_) rfl (by kernel_rfl) (by kernel_rfl) (by kernel_rfl) (fun _ _ _ h => h) (Or.inl ⟨by rfl, ?_⟩) (by assumption) ?_
  rotate_left 1
  · (intro w0 hSw; go_simp; try with_reducible rfl)
  simp only [List.getElem_toArray, List.getElem_cons_zero, List.getElem_cons_succ]
  go_frame
  refine wpAnyH_take (i := 12) (v := ?_) rfl (by kernel_rfl) (by kernel_rfl) (by kernel_rfl) (fun _ _ _ h => h) (Or.inl ⟨by rfl, ?_⟩) (by assumption) ?_
  rotate_left 1
  · (intro w0 hSw; go_simp; try with_reducible rfl)
  simp only [List.getElem_toArray, List.getElem_cons_zero, List.getElem_cons_succ]
  go_frame
  refine wpAnyH_take (i := 13) (v := ?_) rfl (by kernel_rfl) (by kernel_rfl) (by kernel_rfl) (fun _ _ _ h => h) (Or.inl ⟨by rfl, ?_⟩) (by assumption) ?_
  rotate_left 1
  · (intro w0 hSw; go_simp; try with_reducible rfl)
  simp only [List.getElem_toArray, List.getElem_cons_zero, List.getElem_cons_succ]
  go_frame
  refine wpAnyH_take (i := 14) (v := ?_) rfl (by kernel_rfl) (by kernel_rfl) (by kernel_rfl) (fun _ _ _ h => h) (Or.inl ⟨by rfl, ?_⟩) (by assumption) ?_
  rotate_left 1
  · (intro w0 hSw; go_simp; try with_reducible rfl)
  simp only [List.getElem_toArray, List.getElem_cons_zero, List.getElem_cons_succ]
  go_frame
  refine wpAnyH_take (i := 15) (v := ?_) rfl (by kernel_rfl) (by kernel_rfl) (by kernel_rfl) (fun _ _ _ h => h) (Or.inl ⟨by rfl, ?_⟩) (by assumption) ?_
  rotate_left 1
  · (intro w0 hSw; go_simp; try with_reducible rfl)
  simp only [List.getElem_toArray, List.getElem_cons_zero, List.getElem_cons_succ]
  go_frame
  refine wpAnyH_done (by kernel_rfl) ?_ _
  clear x0 x1 x2 x3 x4 x5 x6 x7 x8 x9 y0 y1 y2 y3 y4 y5 y6 y7 y8 y9 HZ HA9 H9
  go_wp2_with fail
  go_ret
  exact ⟨rfl, HG10.out.2⟩
end Go.Proofs.YtmemeloehgemcaaGreat
