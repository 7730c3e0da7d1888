/-
  Layers: the chapter's example.
-/
import Derived.Test.YtmemeloehgemcaaGreatLzH
namespace Go.Proofs.YtmemeloehgemcaaGreat
open Go.RowKit Go.Shelf

set_option maxRecDepth 100000 in
set_option maxHeartbeats 4000000 in
theorem lexample_any (w : World) : Calls Tryz.prog 17 #[] w fun e w' => ∃ vE vB vC vF vt vf S, e = .returned (.tuple #[.pointer (some ⟨w.heap.size + 1, 0, none⟩), .agg #[vt, vf]]) ∧ ExR w w' (w.heap.size + 1) S vE vB vC vF vt vf := by
  obtain ⟨iT, hiT, hT0, hT1, hT2⟩ := info_parts Tryz.linfoT
  obtain ⟨iF, hiF, hF0, hF1, hF2⟩ := info_parts Tryz.linfoF
  obtain ⟨w0, hw0⟩ : ∃ w0, w0 = w.alloc (.cells #[.slice none 0 0, .slice none 0 0] 29) := ⟨_, rfl⟩
  have HT0 : Hid (TabB w0 w.heap.size (.slice none 0 0) (.slice none 0 0) ∧ w.grownBy w0 none ∧ w0.heap.size = w.heap.size + 1) := by rw [hw0]; exact ⟨alloc_at _ _ _, World.grownBy_alloc _ _ none, World.size_alloc _ _⟩
  have HN := bnew (tgOk w0.heap.size) w0
  obtain ⟨b, hb⟩ : ∃ b, b = w0.heap.size := ⟨_, rfl⟩
  have HBb : Hid (b = w0.heap.size) := hb
  rw [← HT0.out.2.2]
  rw [← hb] at HN ⊢
  obtain ⟨t0, ht0⟩ : ∃ t0, t0 = w.heap.size := ⟨_, rfl⟩
  have Ht0 : Hid (t0 = w.heap.size) := ht0
  rw [hw0] at HN
  clear hb
  go_enter Tryz.func17, Tryz.ntmps17
  go_wp2_with fail
  refine HN.mono ?_
  rw [← hw0, ← ht0]
  rintro e w1 ⟨rfl, B1, g1, hz1⟩
  have HG1 : Hid (w0.grownBy w1 none) := g1
  clear HN g1 hw0 ht0 hz1
  obtain ⟨W1, hW1⟩ : ∃ W1, W1 = w1.alloc (.cells #[.int .u8 exCp.wn, .int .u8 exCp.vb, .int .u8 exCp.wm, .int .i64 exCp.ct, .int .u8 exCp.su, .int .u8 exCp.tr, .int .u8 exCp.mr, .string exCp.nm] 47) := ⟨_, rfl⟩
  have HGW1 : Hid (w0.grownBy W1 none) := by rw [hW1]; exact grown_push HG1.out _
  have HC1 := bcard (tgOk b) b [] plNew exC (.slice (some ⟨w1.heap.size, 0, none⟩) 1 1) [exCp] W1 (by rw [hW1]; exact B1.keep (World.grownBy_alloc _ _ none)) (Nat.lt_irrefl _) (fun q hq => by show b < q; have := B1.lt; rw [hW1, World.size_alloc] at hq; omega) (by rw [hW1]; exact ps_one (alloc_at _ _ _)) (by unfold Small; simp)
  rw [ex_caC] at HC1
  have HWe1 : Hid (W1 = _) := hW1
  unfold cv exC at HC1
  rw [hW1] at HC1
  unfold exCp at HC1
  clear B1 hW1
  go_wp2_with fail
  refine HC1.mono ?_
  rw [show w1.alloc (.cells #[.int .u8 5, .int .u8 15, .int .u8 9, .int .i64 1, .int .u8 6, .int .u8 0, .int .u8 0, .string ⟨#[]⟩] 47) = W1 from HWe1.out.symm]
  rintro e w2 ⟨vC, rfl, B2', g2⟩
  have B2 : Book (tgOk b) w2 b [⟨exC, vC, [exCp]⟩] plNew := by rw [← ex_inC]; exact B2'
  have HG2 : Hid (w0.grownBy w2 none) := grown_own HGW1.out g2 (fun x e => by cases e; rw [HBb.out]; exact Nat.le_refl _)
  clear HC1 B2' g2 HG1 HGW1 HWe1
  obtain ⟨W2, hW2⟩ : ∃ W2, W2 = w2.alloc (.cells #[.int .u8 exBp.wn, .int .u8 exBp.vb, .int .u8 exBp.wm, .int .i64 exBp.ct, .int .u8 exBp.su, .int .u8 exBp.tr, .int .u8 exBp.mr, .string exBp.nm] 47) := ⟨_, rfl⟩
  have HGW2 : Hid (w0.grownBy W2 none) := by rw [hW2]; exact grown_push HG2.out _
  have HC2 := bcard (tgOk b) b [⟨exC, vC, [exCp]⟩] plNew exB (.slice (some ⟨w2.heap.size, 0, none⟩) 1 1) [exBp] W2 (by rw [hW2]; exact B2.keep (World.grownBy_alloc _ _ none)) (Nat.lt_irrefl _) (fun q hq => by show b < q; have := B2.lt; rw [hW2, World.size_alloc] at hq; omega) (by rw [hW2]; exact ps_one (alloc_at _ _ _)) (by unfold Small; simp)
  rw [ex_caB] at HC2
  have HWe2 : Hid (W2 = _) := hW2
  unfold cv exB at HC2
  rw [hW2] at HC2
  unfold exBp at HC2
  clear B2 hW2
  go_wp2_with fail
  refine HC2.mono ?_
  rw [show w2.alloc (.cells #[.int .u8 5, .int .u8 11, .int .u8 5, .int .i64 0, .int .u8 6, .int .u8 0, .int .u8 0, .string ⟨#[]⟩] 47) = W2 from HWe2.out.symm]
  rintro e w3 ⟨vB, rfl, B3', g3⟩
  have B3 : Book (tgOk b) w3 b [⟨exB, vB, [exBp]⟩, ⟨exC, vC, [exCp]⟩] plNew := by rw [← ex_inB]; exact B3'
  have HG3 : Hid (w0.grownBy w3 none) := grown_own HGW2.out g3 (fun x e => by cases e; rw [HBb.out]; exact Nat.le_refl _)
  clear HC2 B3' g3 HG2 HGW2 HWe2
  have HC3 := bcard (tgOk b) b [⟨exB, vB, [exBp]⟩, ⟨exC, vC, [exCp]⟩] plNew exE (.slice none 0 0) [] w3 B3 (Nat.lt_irrefl _) (fun q hq => by show b < q; have := B3.lt; omega) (Or.inl ⟨rfl, rfl⟩) (by unfold Small; simp)
  rw [ex_caE] at HC3
  unfold cv exE at HC3
  clear B3
  go_wp2_with fail
  refine HC3.mono ?_
  rintro e w4 ⟨vE, rfl, B4', g4⟩
  have B4 : Book (tgOk b) w4 b [⟨exE, vE, []⟩, ⟨exB, vB, [exBp]⟩, ⟨exC, vC, [exCp]⟩] plNew := by rw [← ex_inE]; exact B4'
  have HG4 : Hid (w0.grownBy w4 none) := grown_own HG3.out g4 (fun x e => by cases e; rw [HBb.out]; exact Nat.le_refl _)
  clear HC3 B4' g4 HG3
  obtain ⟨W4, hW4⟩ : ∃ W4, W4 = w4.alloc (.cells #[.int .u8 exFp.wn, .int .u8 exFp.vb, .int .u8 exFp.wm, .int .i64 exFp.ct, .int .u8 exFp.su, .int .u8 exFp.tr, .int .u8 exFp.mr, .string exFp.nm] 47) := ⟨_, rfl⟩
  have HGW4 : Hid (w0.grownBy W4 none) := by rw [hW4]; exact grown_push HG4.out _
  have HC4 := bcard (tgOk b) b [⟨exE, vE, []⟩, ⟨exB, vB, [exBp]⟩, ⟨exC, vC, [exCp]⟩] plNew exF (.slice (some ⟨w4.heap.size, 0, none⟩) 1 1) [exFp] W4 (by rw [hW4]; exact B4.keep (World.grownBy_alloc _ _ none)) (Nat.lt_irrefl _) (fun q hq => by show b < q; have := B4.lt; rw [hW4, World.size_alloc] at hq; omega) (by rw [hW4]; exact ps_one (alloc_at _ _ _)) (by unfold Small; simp)
  rw [ex_caF] at HC4
  have HWe4 : Hid (W4 = _) := hW4
  unfold cv exF at HC4
  rw [hW4] at HC4
  unfold exFp at HC4
  clear B4 hW4
  go_wp2_with fail
  refine HC4.mono ?_
  rw [show w4.alloc (.cells #[.int .u8 5, .int .u8 10, .int .u8 6, .int .i64 0, .int .u8 0, .int .u8 0, .int .u8 0, .string ⟨#[]⟩] 47) = W4 from HWe4.out.symm]
  rintro e w5 ⟨vF, rfl, B5', g5⟩
  have B5 : Book (tgOk b) w5 b [⟨exE, vE, []⟩, ⟨exF, vF, [exFp]⟩, ⟨exB, vB, [exBp]⟩, ⟨exC, vC, [exCp]⟩] plNew := by rw [← ex_inF]; exact B5'
  have HG5 : Hid (w0.grownBy w5 none) := grown_own HGW4.out g5 (fun x e => by cases e; rw [HBb.out]; exact Nat.le_refl _)
  clear HC4 B5' g5 HG4 HGW4 HWe4
  have HS := bseal (tgOk b) b (exES vE vB vC vF) plNew w5 B5 (Nat.lt_irrefl _)
  rw [ex_seal, ex_shut] at HS
  clear B5
  go_wp2_with fail
  refine HS.mono ?_
  rintro e w6 ⟨rfl, B6, g6⟩
  obtain ⟨S, hS⟩ : ∃ S, S = w6.heap.size := ⟨_, rfl⟩
  have HB6 : Hid (Book (fun k => tgOk b k ∧ k < S) w6 b (exES vE vB vC vF) exP ∧ w0.grownBy w6 none ∧ S = w6.heap.size) := ⟨by rw [hS]; exact B6.oldL, grown_own HG5.out g6 (fun x e => by cases e; rw [HBb.out]; exact Nat.le_refl _), hS⟩
  clear HS B6 g6 HG5 hS
  obtain ⟨V, hV⟩ : ∃ V, V = (w6.alloc (.cells #[.slice none 0 0, .slice none 0 0] 29)).alloc (.cells #[.string exC.nm, .string exB.nm, .string exE.nm, .string exE.nm] 9) := ⟨_, rfl⟩
  have HV0 : Hid (ExS w V b S w6.heap.size (w6.heap.size + 1) t0 vE vB vC vF (.slice none 0 0) (.slice none 0 0) [] []) := by
    have g : w6.grownBy V none := by rw [hV]; exact grown_push (World.grownBy_alloc _ _ none) _
    refine ⟨HB6.out.1.keep g, ?_, ?_, RecT.Own.nil _ _ _ _, RecT.Own.nil _ _ _ _, ?_, grown_trans (grown_trans HT0.out.2.1 HB6.out.2.1) g, ?_⟩
    · rw [hV]; exact grown_keep (World.grownBy_alloc _ _ none) (alloc_at w6 _ _) (by simp)
    · rw [Ht0.out]; exact grown_keep g (grown_keep HB6.out.2.1 HT0.out.1 (by simp)) (by simp)
    · rw [hV]; exact alloc2_b _ _ _ _
    · have h1 := HB6.out.1.lt
      have h2 := HB6.out.2.2
      have h3 := HT0.out.2.2
      have h4 := HBb.out
      have h5 := Ht0.out
      exact ⟨by omega, by omega, by omega, by omega, by omega⟩
  unfold exC exB exE at hV
  go_upto_region 9 with fail
  rw [← hV]
  obtain ⟨nb, hnb⟩ : ∃ nb, nb = w6.heap.size := ⟨_, rfl⟩
  obtain ⟨ns, hns⟩ : ∃ ns, ns = nb + 1 := ⟨_, rfl⟩
  rw [← hnb, ← hns] at HV0 ⊢
  clear hV hnb hns HB6 HT0 HBb
  go_wp2_with fail
  go_loopw [5, 6, 7, 8, 9] (fun i _ _ _ _ wr => ∃ (j : Nat) (vt vf : Value), j ≤ 4 ∧ i = .int .i64 (j : Int) ∧ Hid (ExS w wr b S nb ns t0 vE vB vC vF vt vf (exT.take j) (exFs.take j))) (fun i _ _ _ _ _ => 4 - (intOf i).toNat)
  case atStart => exact ⟨0, _, _, by decide, rfl, HV0.out⟩
  case round =>
    clear HV0
    obtain ⟨j, vt, vf, hj, rfl, HS⟩ := hrel
    obtain ⟨U, hU⟩ : ∃ U, U = wr := ⟨_, rfl⟩
    subst hU
    by_cases h4 : j = 4
    · subst h4
      obtain ⟨pt, ct, rfl⟩ : ∃ p c, vt = .slice p 4 c := HS.out.th.form
      obtain ⟨pf, cf, rfl⟩ : ∃ p c, vf = .slice p 4 c := HS.out.fe.form
      obtain ⟨z0, z1⟩ := tab_box HS.out.tab
      obtain ⟨r0, r1⟩ := tab_box HS.out.res
      have f0 := block_free HS.out.res 0
      have f1 := block_free HS.out.res 1
      clear hj
      go_upto_region 16 with fail
      have HD := (show ExS w U b S nb ns t0 vE vB vC vF (.slice pt 4 ct) (.slice pf 4 cf) exT exFs from HS.out).done
      go_region
      obtain ⟨D, hD⟩ : ∃ D, D = ((U.setCell ⟨t0, 0, none⟩ (.slice pt 4 ct)).setCell ⟨t0, 1, none⟩ (.slice pf 4 cf)).drew := ⟨_, rfl⟩
      rw [← hD] at HD ⊢
      have HDd : Hid (ExR w D b S vE vB vC vF (.slice pt 4 ct) (.slice pf 4 cf)) := HD.1
      obtain ⟨q0, q1⟩ := tab_box HD.2
      clear HD hD z0 z1 r0 r1 f0 f1 HS
      go_wp2_with fail
      refine bodyPost_ret (v := .tuple #[.pointer (some ⟨b, 0, none⟩), .agg #[.slice pt 4 ct, .slice pf 4 cf]]) (by simp [results, Tryz.results17, go_sem, q0, q1]) rfl ?_
      exact ⟨vE, vB, vC, vF, _, _, S, rfl, HDd.out⟩
    · have hj' : j = 0 ∨ j = 1 ∨ j = 2 ∨ j = 3 := by omega
      clear hj h4
      rcases hj' with rfl | rfl | rfl | rfl
      · obtain ⟨pt, ct, rfl⟩ : ∃ p c, vt = .slice p 0 c := HS.out.th.form
        obtain ⟨pf, cf, rfl⟩ : ∃ p c, vf = .slice p 0 c := HS.out.fe.form
        have n0 : U.cell? ⟨ns, 0, none⟩ = some (.string exC.nm) := (block_cell HS.out.nm 0).trans rfl
        have C1 := find_yes b (exES vE vB vC vF) exP exC.nm U HS.out.bk.lies HS.out.bk.good.slc
        rw [(ex_fN vE vB vC vF).1.1, (ex_fE vE vB vC vF).1.1] at C1
        unfold exC at C1 n0
        go_wp2_with fail
        refine C1.mono ?_
        rintro e1 w7 ⟨rfl, g7⟩
        have H7 : Hid (ExS w w7 b S nb ns t0 vE vB vC vF (.slice pt 0 ct) (.slice pf 0 cf) (exT.take 0) (exFs.take 0)) := HS.out.grow g7
        have C2 := at_own _ b (exES vE vB vC vF) exP 4 w7 H7.out.bk
        unfold CaPost at C2
        rw [show atC exP (exES vE vB vC vF) 4 = (exC, [exCp]) from rfl, show atX exP (exES vE vB vC vF) 4 = 0 from rfl] at C2
        unfold cv exC at C2
        clear C1 g7 n0 HS
        go_wp2_with fail
        refine C2.mono ?_
        rintro e2 w8 ⟨u, rfl, ou, g8⟩
        obtain ⟨pu, cu, rfl⟩ : ∃ p c, u = .slice p 1 c := by obtain ⟨p, c, e, _⟩ := own_slice ou; exact ⟨p, c, e⟩
        obtain ⟨Y, hY⟩ : ∃ Y, Y = w8.alloc (.cells #[.string ⟨#[99, 114, 111, 119, 110]⟩, .int .u8 6, .int .u8 3, .int .i64 0, .int .i64 0, .int .i64 0, .int .u16 0, .bool false, .slice pu 1 cu] 88) := ⟨_, rfl⟩
        have HY : Hid (ExS w Y b S nb ns t0 vE vB vC vF (.slice pt 0 ct) (.slice pf 0 cf) (exT.take 0) (exFs.take 0)) := by rw [hY]; exact (H7.out.grow g8).grow (World.grownBy_alloc _ _ none)
        have HCd : Hid (Y.heap[w8.heap.size]? = some (.cells #[.string ⟨#[99, 114, 111, 119, 110]⟩, .int .u8 6, .int .u8 3, .int .i64 0, .int .i64 0, .int .i64 0, .int .u16 0, .bool false, .slice pu 1 cu] 88 (0, 0))) := by rw [hY]; exact alloc_at _ _ _
        clear C2 g8 ou H7
        go_upto_region 14 with fail
        rw [← hY]
        obtain ⟨nc, hnc⟩ : ∃ nc, nc = w8.heap.size := ⟨_, rfl⟩
        rw [← hnc] at HCd ⊢
        clear hY hnc
        obtain ⟨y0, y1⟩ := tab_box HY.out.tab
        have HOY : Hid (Y.ownsRow S 60 11 (.slice pt 0 ct) 0 (thR.cs (exT.take 0))) := HY.out.th
        have HA : Hid (Y.grownBy (Y.alloc (.cells (thc (⟨4, 0, 4, 1, 0, 0, 0, 0, 0, 0, false⟩ : Th)).toArray 60)) none) := World.grownBy_alloc _ _ none
        have HK := (HY.out.grow HA.out).cellT
        have HSz : Hid (S ≤ (Y.alloc (.cells (thc (⟨4, 0, 4, 1, 0, 0, 0, 0, 0, 0, false⟩ : Th)).toArray 60)).heap.size) := by have h1 := HY.out.lie; have h2 := block_lt HY.out.tab; have h3 := HA.out.size; show _ ≤ _; omega
        have HNe : Hid (some nc ≠ some nb) := fun q => by cases q; have h1 := HCd.out.symm.trans HY.out.tab; simp at h1
        have HLn : Hid (0 + 1 ≤ maxLen ∧ (0 + 1) * 88 ≤ 140737488355328) := len_smallT (by omega)
        go_upto_region 15 with (at_builtin; refine lwpl_app (by rfl) (.tmp 52) (.tmp 59) 26 rfl S 60 iT _ 11 88 Tryz.underlying26 hiT hT0 hT1 hT2 rfl (by decide) _ 0 (thR.cs (exT.take 0)) rfl (World.ownsRow.alloc HOY.out _) _ 1 (thc (⟨4, 0, 4, 1, 0, 0, 0, 0, 0, 0, false⟩ : Th)) rfl (th_src Y (⟨4, 0, 4, 1, 0, 0, 0, 0, 0, 0, false⟩ : Th)) (thc_ones _) HLn.out.1 HLn.out.2 HSz.out ?_; intro v9 w9 o9 g9 _; obtain ⟨k0, k1⟩ := HK _ g9; obtain ⟨pv, kv, rfl, -⟩ := own_slice o9; have HO9 : Hid _ := o9; have HG9 : Hid _ := g9; clear o9 g9)
        have H9 : Hid (ExS w (w9.setCell ⟨nb, 0, none⟩ (.slice pv 1 kv)) b S nb ns t0 vE vB vC vF (.slice pv 1 kv) (.slice pf 0 cf) (exT.take 1) (exFs.take 0)) := (HY.out.grow HA.out).things (show thR.Own 60 w9 S (.slice pv 1 kv) (exT.take 0 ++ [(⟨4, 0, 4, 1, 0, 0, 0, 0, 0, 0, false⟩ : Th)]) from RecT.more HO9.out rfl) HG9.out
        have HCz : Hid ((w9.setCell ⟨nb, 0, none⟩ (.slice pv 1 kv)).heap[nc]? = some (.cells #[.string ⟨#[99, 114, 111, 119, 110]⟩, .int .u8 6, .int .u8 3, .int .i64 0, .int .i64 0, .int .i64 0, .int .u16 0, .bool false, .slice pu 1 cu] 88 (0, 0))) := grown_keep (grown_set _ _ _ _) (grown_keep HG9.out (grown_keep HA.out HCd.out (by simp)) (own_tag (HY.out.grow HA.out).th (grown_keep HA.out HCd.out (by simp)) (by decide))) HNe.out
        obtain ⟨Z, hZ⟩ : ∃ Z, Z = w9.setCell ⟨nb, 0, none⟩ (.slice pv 1 kv) := ⟨_, rfl⟩
        rw [← hZ] at H9 HCz ⊢
        clear HO9 HG9 hZ k0 k1 HK HA HOY HY HCd HSz HLn y0 y1
        obtain ⟨z0, z1⟩ := tab_box H9.out.tab
        have d1 := (block_cell HCz.out 1).trans (show _ = some (.int .u8 6) from rfl)
        have d4 := (block_cell HCz.out 4).trans (show _ = some (.int .i64 0) from rfl)
        have d5 := (block_cell HCz.out 5).trans (show _ = some (.int .i64 0) from rfl)
        have HOZ : Hid (Z.ownsRow S 64 5 (.slice pf 0 cf) 0 (feR.cs (exFs.take 0))) := H9.out.fe
        have HA : Hid (Z.grownBy (Z.alloc (.cells (fec (⟨0, 6, 0, 0, 0⟩ : Fe)).toArray 64)) none) := World.grownBy_alloc _ _ none
        have HK := (H9.out.grow HA.out).cellF
        have HSz : Hid (S ≤ (Z.alloc (.cells (fec (⟨0, 6, 0, 0, 0⟩ : Fe)).toArray 64)).heap.size) := by have h1 := H9.out.lie; have h2 := block_lt H9.out.tab; have h3 := HA.out.size; show _ ≤ _; omega
        have HLn : Hid (0 + 1 ≤ maxLen ∧ (0 + 1) * 32 ≤ 140737488355328) := len_smallF (by omega)
        go_wp2_with (at_builtin; refine lwpl_app (by rfl) (.tmp 63) (.tmp 73) 27 rfl S 64 iF _ 5 32 Tryz.underlying27 hiF hF0 hF1 hF2 rfl (by decide) _ 0 (feR.cs (exFs.take 0)) rfl (World.ownsRow.alloc HOZ.out _) _ 1 (fec (⟨0, 6, 0, 0, 0⟩ : Fe)) rfl (fe_src Z (⟨0, 6, 0, 0, 0⟩ : Fe)) (fec_ones _) HLn.out.1 HLn.out.2 HSz.out ?_; intro v10 w10 o10 g10 _; obtain ⟨k0, k1⟩ := HK _ g10; obtain ⟨px, kx, rfl, -⟩ := own_slice o10; have HO10 : Hid _ := o10; have HG10 : Hid _ := g10; clear o10 g10)
        have HX : Hid (ExS w (w10.setCell ⟨nb, 1, none⟩ (.slice px 1 kx)) b S nb ns t0 vE vB vC vF (.slice pv 1 kv) (.slice px 1 kx) (exT.take 1) (exFs.take 1)) := (H9.out.grow HA.out).feats (show feR.Own 64 w10 S (.slice px 1 kx) (exFs.take 0 ++ [(⟨0, 6, 0, 0, 0⟩ : Fe)]) from RecT.more HO10.out rfl) HG10.out
        clear HO10 HG10 k0 k1 HK HA HOZ H9 HCz HSz HLn z0 z1 d1 d4 d5
        go_roundw
        case rel => exact ⟨1, _, _, by decide, rfl, HX.out⟩
        case measure => decide
      · obtain ⟨pt, ct, rfl⟩ : ∃ p c, vt = .slice p 1 c := HS.out.th.form
        obtain ⟨pf, cf, rfl⟩ : ∃ p c, vf = .slice p 1 c := HS.out.fe.form
        have n0 : U.cell? ⟨ns, 1, none⟩ = some (.string exB.nm) := (block_cell HS.out.nm 1).trans rfl
        have C1 := find_yes b (exES vE vB vC vF) exP exB.nm U HS.out.bk.lies HS.out.bk.good.slc
        rw [(ex_fN vE vB vC vF).1.2, (ex_fE vE vB vC vF).1.2] at C1
        unfold exB at C1 n0
        go_wp2_with fail
        refine C1.mono ?_
        rintro e1 w7 ⟨rfl, g7⟩
        have H7 : Hid (ExS w w7 b S nb ns t0 vE vB vC vF (.slice pt 1 ct) (.slice pf 1 cf) (exT.take 1) (exFs.take 1)) := HS.out.grow g7
        have C2 := at_own _ b (exES vE vB vC vF) exP 3 w7 H7.out.bk
        unfold CaPost at C2
        rw [show atC exP (exES vE vB vC vF) 3 = (exB, [exBp]) from rfl, show atX exP (exES vE vB vC vF) 3 = 0 from rfl] at C2
        unfold cv exB at C2
        clear C1 g7 n0 HS
        go_wp2_with fail
        refine C2.mono ?_
        rintro e2 w8 ⟨u, rfl, ou, g8⟩
        obtain ⟨pu, cu, rfl⟩ : ∃ p c, u = .slice p 1 c := by obtain ⟨p, c, e, _⟩ := own_slice ou; exact ⟨p, c, e⟩
        obtain ⟨Y, hY⟩ : ∃ Y, Y = w8.alloc (.cells #[.string ⟨#[98, 114, 117, 115, 104]⟩, .int .u8 6, .int .u8 3, .int .i64 0, .int .i64 0, .int .i64 0, .int .u16 0, .bool false, .slice pu 1 cu] 88) := ⟨_, rfl⟩
        have HY : Hid (ExS w Y b S nb ns t0 vE vB vC vF (.slice pt 1 ct) (.slice pf 1 cf) (exT.take 1) (exFs.take 1)) := by rw [hY]; exact (H7.out.grow g8).grow (World.grownBy_alloc _ _ none)
        have HCd : Hid (Y.heap[w8.heap.size]? = some (.cells #[.string ⟨#[98, 114, 117, 115, 104]⟩, .int .u8 6, .int .u8 3, .int .i64 0, .int .i64 0, .int .i64 0, .int .u16 0, .bool false, .slice pu 1 cu] 88 (0, 0))) := by rw [hY]; exact alloc_at _ _ _
        clear C2 g8 ou H7
        go_upto_region 14 with fail
        rw [← hY]
        obtain ⟨nc, hnc⟩ : ∃ nc, nc = w8.heap.size := ⟨_, rfl⟩
        rw [← hnc] at HCd ⊢
        clear hY hnc
        obtain ⟨y0, y1⟩ := tab_box HY.out.tab
        have HOY : Hid (Y.ownsRow S 60 11 (.slice pt 1 ct) 1 (thR.cs (exT.take 1))) := HY.out.th
        have HA : Hid (Y.grownBy (Y.alloc (.cells (thc (⟨3, 0, 4, 2, 0, 0, 0, 0, 0, 0, false⟩ : Th)).toArray 60)) none) := World.grownBy_alloc _ _ none
        have HK := (HY.out.grow HA.out).cellT
        have HSz : Hid (S ≤ (Y.alloc (.cells (thc (⟨3, 0, 4, 2, 0, 0, 0, 0, 0, 0, false⟩ : Th)).toArray 60)).heap.size) := by have h1 := HY.out.lie; have h2 := block_lt HY.out.tab; have h3 := HA.out.size; show _ ≤ _; omega
        have HNe : Hid (some nc ≠ some nb) := fun q => by cases q; have h1 := HCd.out.symm.trans HY.out.tab; simp at h1
        have HLn : Hid (1 + 1 ≤ maxLen ∧ (1 + 1) * 88 ≤ 140737488355328) := len_smallT (by omega)
        go_upto_region 15 with (at_builtin; refine lwpl_app (by rfl) (.tmp 52) (.tmp 59) 26 rfl S 60 iT _ 11 88 Tryz.underlying26 hiT hT0 hT1 hT2 rfl (by decide) _ 1 (thR.cs (exT.take 1)) rfl (World.ownsRow.alloc HOY.out _) _ 1 (thc (⟨3, 0, 4, 2, 0, 0, 0, 0, 0, 0, false⟩ : Th)) rfl (th_src Y (⟨3, 0, 4, 2, 0, 0, 0, 0, 0, 0, false⟩ : Th)) (thc_ones _) HLn.out.1 HLn.out.2 HSz.out ?_; intro v9 w9 o9 g9 _; obtain ⟨k0, k1⟩ := HK _ g9; obtain ⟨pv, kv, rfl, -⟩ := own_slice o9; have HO9 : Hid _ := o9; have HG9 : Hid _ := g9; clear o9 g9)
        have H9 : Hid (ExS w (w9.setCell ⟨nb, 0, none⟩ (.slice pv 2 kv)) b S nb ns t0 vE vB vC vF (.slice pv 2 kv) (.slice pf 1 cf) (exT.take 2) (exFs.take 1)) := (HY.out.grow HA.out).things (show thR.Own 60 w9 S (.slice pv 2 kv) (exT.take 1 ++ [(⟨3, 0, 4, 2, 0, 0, 0, 0, 0, 0, false⟩ : Th)]) from RecT.more HO9.out rfl) HG9.out
        have HCz : Hid ((w9.setCell ⟨nb, 0, none⟩ (.slice pv 2 kv)).heap[nc]? = some (.cells #[.string ⟨#[98, 114, 117, 115, 104]⟩, .int .u8 6, .int .u8 3, .int .i64 0, .int .i64 0, .int .i64 0, .int .u16 0, .bool false, .slice pu 1 cu] 88 (0, 0))) := grown_keep (grown_set _ _ _ _) (grown_keep HG9.out (grown_keep HA.out HCd.out (by simp)) (own_tag (HY.out.grow HA.out).th (grown_keep HA.out HCd.out (by simp)) (by decide))) HNe.out
        obtain ⟨Z, hZ⟩ : ∃ Z, Z = w9.setCell ⟨nb, 0, none⟩ (.slice pv 2 kv) := ⟨_, rfl⟩
        rw [← hZ] at H9 HCz ⊢
        clear HO9 HG9 hZ k0 k1 HK HA HOY HY HCd HSz HLn y0 y1
        obtain ⟨z0, z1⟩ := tab_box H9.out.tab
        have d1 := (block_cell HCz.out 1).trans (show _ = some (.int .u8 6) from rfl)
        have d4 := (block_cell HCz.out 4).trans (show _ = some (.int .i64 0) from rfl)
        have d5 := (block_cell HCz.out 5).trans (show _ = some (.int .i64 0) from rfl)
        have HOZ : Hid (Z.ownsRow S 64 5 (.slice pf 1 cf) 1 (feR.cs (exFs.take 1))) := H9.out.fe
        have HA : Hid (Z.grownBy (Z.alloc (.cells (fec (⟨0, 6, 0, 0, 0⟩ : Fe)).toArray 64)) none) := World.grownBy_alloc _ _ none
        have HK := (H9.out.grow HA.out).cellF
        have HSz : Hid (S ≤ (Z.alloc (.cells (fec (⟨0, 6, 0, 0, 0⟩ : Fe)).toArray 64)).heap.size) := by have h1 := H9.out.lie; have h2 := block_lt H9.out.tab; have h3 := HA.out.size; show _ ≤ _; omega
        have HLn : Hid (1 + 1 ≤ maxLen ∧ (1 + 1) * 32 ≤ 140737488355328) := len_smallF (by omega)
        go_wp2_with (at_builtin; refine lwpl_app (by rfl) (.tmp 63) (.tmp 73) 27 rfl S 64 iF _ 5 32 Tryz.underlying27 hiF hF0 hF1 hF2 rfl (by decide) _ 1 (feR.cs (exFs.take 1)) rfl (World.ownsRow.alloc HOZ.out _) _ 1 (fec (⟨0, 6, 0, 0, 0⟩ : Fe)) rfl (fe_src Z (⟨0, 6, 0, 0, 0⟩ : Fe)) (fec_ones _) HLn.out.1 HLn.out.2 HSz.out ?_; intro v10 w10 o10 g10 _; obtain ⟨k0, k1⟩ := HK _ g10; obtain ⟨px, kx, rfl, -⟩ := own_slice o10; have HO10 : Hid _ := o10; have HG10 : Hid _ := g10; clear o10 g10)
        have HX : Hid (ExS w (w10.setCell ⟨nb, 1, none⟩ (.slice px 2 kx)) b S nb ns t0 vE vB vC vF (.slice pv 2 kv) (.slice px 2 kx) (exT.take 2) (exFs.take 2)) := (H9.out.grow HA.out).feats (show feR.Own 64 w10 S (.slice px 2 kx) (exFs.take 1 ++ [(⟨0, 6, 0, 0, 0⟩ : Fe)]) from RecT.more HO10.out rfl) HG10.out
        clear HO10 HG10 k0 k1 HK HA HOZ H9 HCz HSz HLn z0 z1 d1 d4 d5
        go_roundw
        case rel => exact ⟨2, _, _, by decide, rfl, HX.out⟩
        case measure => decide
      · obtain ⟨pt, ct, rfl⟩ : ∃ p c, vt = .slice p 2 c := HS.out.th.form
        obtain ⟨pf, cf, rfl⟩ : ∃ p c, vf = .slice p 2 c := HS.out.fe.form
        have n0 : U.cell? ⟨ns, 2, none⟩ = some (.string exE.nm) := (block_cell HS.out.nm 2).trans rfl
        have C1 := find_yes b (exES vE vB vC vF) exP exE.nm U HS.out.bk.lies HS.out.bk.good.slc
        rw [(ex_fN vE vB vC vF).2.1, (ex_fE vE vB vC vF).2.1] at C1
        unfold exE at C1 n0
        go_wp2_with fail
        refine C1.mono ?_
        rintro e1 w7 ⟨rfl, g7⟩
        have H7 : Hid (ExS w w7 b S nb ns t0 vE vB vC vF (.slice pt 2 ct) (.slice pf 2 cf) (exT.take 2) (exFs.take 2)) := HS.out.grow g7
        have C2 := at_own _ b (exES vE vB vC vF) exP 1 w7 H7.out.bk
        unfold CaPost at C2
        rw [show atC exP (exES vE vB vC vF) 1 = (exE, []) from rfl, show atX exP (exES vE vB vC vF) 1 = 0 from rfl] at C2
        unfold cv exE at C2
        clear C1 g7 n0 HS
        go_wp2_with fail
        refine C2.mono ?_
        rintro e2 w8 ⟨u, rfl, ou, g8⟩
        obtain ⟨pu, cu, rfl⟩ : ∃ p c, u = .slice p 0 c := by obtain ⟨p, c, e, _⟩ := own_slice ou; exact ⟨p, c, e⟩
        obtain ⟨Y, hY⟩ : ∃ Y, Y = w8.alloc (.cells #[.string ⟨#[98, 101, 97, 114]⟩, .int .u8 2, .int .u8 1, .int .i64 0, .int .i64 2, .int .i64 2, .int .u16 0, .bool false, .slice pu 0 cu] 88) := ⟨_, rfl⟩
        have HY : Hid (ExS w Y b S nb ns t0 vE vB vC vF (.slice pt 2 ct) (.slice pf 2 cf) (exT.take 2) (exFs.take 2)) := by rw [hY]; exact (H7.out.grow g8).grow (World.grownBy_alloc _ _ none)
        have HCd : Hid (Y.heap[w8.heap.size]? = some (.cells #[.string ⟨#[98, 101, 97, 114]⟩, .int .u8 2, .int .u8 1, .int .i64 0, .int .i64 2, .int .i64 2, .int .u16 0, .bool false, .slice pu 0 cu] 88 (0, 0))) := by rw [hY]; exact alloc_at _ _ _
        clear C2 g8 ou H7
        go_upto_region 14 with fail
        rw [← hY]
        obtain ⟨nc, hnc⟩ : ∃ nc, nc = w8.heap.size := ⟨_, rfl⟩
        rw [← hnc] at HCd ⊢
        clear hY hnc
        obtain ⟨y0, y1⟩ := tab_box HY.out.tab
        have HOY : Hid (Y.ownsRow S 60 11 (.slice pt 2 ct) 2 (thR.cs (exT.take 2))) := HY.out.th
        have HA : Hid (Y.grownBy (Y.alloc (.cells (thc (⟨1, 0, 4, 3, 0, 0, 0, 0, 0, 0, false⟩ : Th)).toArray 60)) none) := World.grownBy_alloc _ _ none
        have HK := (HY.out.grow HA.out).cellT
        have HSz : Hid (S ≤ (Y.alloc (.cells (thc (⟨1, 0, 4, 3, 0, 0, 0, 0, 0, 0, false⟩ : Th)).toArray 60)).heap.size) := by have h1 := HY.out.lie; have h2 := block_lt HY.out.tab; have h3 := HA.out.size; show _ ≤ _; omega
        have HNe : Hid (some nc ≠ some nb) := fun q => by cases q; have h1 := HCd.out.symm.trans HY.out.tab; simp at h1
        have HLn : Hid (2 + 1 ≤ maxLen ∧ (2 + 1) * 88 ≤ 140737488355328) := len_smallT (by omega)
        go_upto_region 15 with (at_builtin; refine lwpl_app (by rfl) (.tmp 52) (.tmp 59) 26 rfl S 60 iT _ 11 88 Tryz.underlying26 hiT hT0 hT1 hT2 rfl (by decide) _ 2 (thR.cs (exT.take 2)) rfl (World.ownsRow.alloc HOY.out _) _ 1 (thc (⟨1, 0, 4, 3, 0, 0, 0, 0, 0, 0, false⟩ : Th)) rfl (th_src Y (⟨1, 0, 4, 3, 0, 0, 0, 0, 0, 0, false⟩ : Th)) (thc_ones _) HLn.out.1 HLn.out.2 HSz.out ?_; intro v9 w9 o9 g9 _; obtain ⟨k0, k1⟩ := HK _ g9; obtain ⟨pv, kv, rfl, -⟩ := own_slice o9; have HO9 : Hid _ := o9; have HG9 : Hid _ := g9; clear o9 g9)
        have H9 : Hid (ExS w (w9.setCell ⟨nb, 0, none⟩ (.slice pv 3 kv)) b S nb ns t0 vE vB vC vF (.slice pv 3 kv) (.slice pf 2 cf) (exT.take 3) (exFs.take 2)) := (HY.out.grow HA.out).things (show thR.Own 60 w9 S (.slice pv 3 kv) (exT.take 2 ++ [(⟨1, 0, 4, 3, 0, 0, 0, 0, 0, 0, false⟩ : Th)]) from RecT.more HO9.out rfl) HG9.out
        have HCz : Hid ((w9.setCell ⟨nb, 0, none⟩ (.slice pv 3 kv)).heap[nc]? = some (.cells #[.string ⟨#[98, 101, 97, 114]⟩, .int .u8 2, .int .u8 1, .int .i64 0, .int .i64 2, .int .i64 2, .int .u16 0, .bool false, .slice pu 0 cu] 88 (0, 0))) := grown_keep (grown_set _ _ _ _) (grown_keep HG9.out (grown_keep HA.out HCd.out (by simp)) (own_tag (HY.out.grow HA.out).th (grown_keep HA.out HCd.out (by simp)) (by decide))) HNe.out
        obtain ⟨Z, hZ⟩ : ∃ Z, Z = w9.setCell ⟨nb, 0, none⟩ (.slice pv 3 kv) := ⟨_, rfl⟩
        rw [← hZ] at H9 HCz ⊢
        clear HO9 HG9 hZ k0 k1 HK HA HOY HY HCd HSz HLn y0 y1
        obtain ⟨z0, z1⟩ := tab_box H9.out.tab
        have d1 := (block_cell HCz.out 1).trans (show _ = some (.int .u8 2) from rfl)
        have d4 := (block_cell HCz.out 4).trans (show _ = some (.int .i64 2) from rfl)
        have d5 := (block_cell HCz.out 5).trans (show _ = some (.int .i64 2) from rfl)
        have HOZ : Hid (Z.ownsRow S 64 5 (.slice pf 2 cf) 2 (feR.cs (exFs.take 2))) := H9.out.fe
        have HA : Hid (Z.grownBy (Z.alloc (.cells (fec (⟨0, 2, 0, 2, 2⟩ : Fe)).toArray 64)) none) := World.grownBy_alloc _ _ none
        have HK := (H9.out.grow HA.out).cellF
        have HSz : Hid (S ≤ (Z.alloc (.cells (fec (⟨0, 2, 0, 2, 2⟩ : Fe)).toArray 64)).heap.size) := by have h1 := H9.out.lie; have h2 := block_lt H9.out.tab; have h3 := HA.out.size; show _ ≤ _; omega
        have HLn : Hid (2 + 1 ≤ maxLen ∧ (2 + 1) * 32 ≤ 140737488355328) := len_smallF (by omega)
        go_wp2_with (at_builtin; refine lwpl_app (by rfl) (.tmp 63) (.tmp 73) 27 rfl S 64 iF _ 5 32 Tryz.underlying27 hiF hF0 hF1 hF2 rfl (by decide) _ 2 (feR.cs (exFs.take 2)) rfl (World.ownsRow.alloc HOZ.out _) _ 1 (fec (⟨0, 2, 0, 2, 2⟩ : Fe)) rfl (fe_src Z (⟨0, 2, 0, 2, 2⟩ : Fe)) (fec_ones _) HLn.out.1 HLn.out.2 HSz.out ?_; intro v10 w10 o10 g10 _; obtain ⟨k0, k1⟩ := HK _ g10; obtain ⟨px, kx, rfl, -⟩ := own_slice o10; have HO10 : Hid _ := o10; have HG10 : Hid _ := g10; clear o10 g10)
        have HX : Hid (ExS w (w10.setCell ⟨nb, 1, none⟩ (.slice px 3 kx)) b S nb ns t0 vE vB vC vF (.slice pv 3 kv) (.slice px 3 kx) (exT.take 3) (exFs.take 3)) := (H9.out.grow HA.out).feats (show feR.Own 64 w10 S (.slice px 3 kx) (exFs.take 2 ++ [(⟨0, 2, 0, 2, 2⟩ : Fe)]) from RecT.more HO10.out rfl) HG10.out
        clear HO10 HG10 k0 k1 HK HA HOZ H9 HCz HSz HLn z0 z1 d1 d4 d5
        go_roundw
        case rel => exact ⟨3, _, _, by decide, rfl, HX.out⟩
        case measure => decide
      · obtain ⟨pt, ct, rfl⟩ : ∃ p c, vt = .slice p 3 c := HS.out.th.form
        obtain ⟨pf, cf, rfl⟩ : ∃ p c, vf = .slice p 3 c := HS.out.fe.form
        have n0 : U.cell? ⟨ns, 3, none⟩ = some (.string exE.nm) := (block_cell HS.out.nm 3).trans rfl
        have C1 := find_yes b (exES vE vB vC vF) exP exE.nm U HS.out.bk.lies HS.out.bk.good.slc
        rw [(ex_fN vE vB vC vF).2.1, (ex_fE vE vB vC vF).2.1] at C1
        unfold exE at C1 n0
        go_wp2_with fail
        refine C1.mono ?_
        rintro e1 w7 ⟨rfl, g7⟩
        have H7 : Hid (ExS w w7 b S nb ns t0 vE vB vC vF (.slice pt 3 ct) (.slice pf 3 cf) (exT.take 3) (exFs.take 3)) := HS.out.grow g7
        have C2 := at_own _ b (exES vE vB vC vF) exP 1 w7 H7.out.bk
        unfold CaPost at C2
        rw [show atC exP (exES vE vB vC vF) 1 = (exE, []) from rfl, show atX exP (exES vE vB vC vF) 1 = 0 from rfl] at C2
        unfold cv exE at C2
        clear C1 g7 n0 HS
        go_wp2_with fail
        refine C2.mono ?_
        rintro e2 w8 ⟨u, rfl, ou, g8⟩
        obtain ⟨pu, cu, rfl⟩ : ∃ p c, u = .slice p 0 c := by obtain ⟨p, c, e, _⟩ := own_slice ou; exact ⟨p, c, e⟩
        obtain ⟨Y, hY⟩ : ∃ Y, Y = w8.alloc (.cells #[.string ⟨#[98, 101, 97, 114]⟩, .int .u8 2, .int .u8 1, .int .i64 0, .int .i64 2, .int .i64 2, .int .u16 0, .bool false, .slice pu 0 cu] 88) := ⟨_, rfl⟩
        have HY : Hid (ExS w Y b S nb ns t0 vE vB vC vF (.slice pt 3 ct) (.slice pf 3 cf) (exT.take 3) (exFs.take 3)) := by rw [hY]; exact (H7.out.grow g8).grow (World.grownBy_alloc _ _ none)
        have HCd : Hid (Y.heap[w8.heap.size]? = some (.cells #[.string ⟨#[98, 101, 97, 114]⟩, .int .u8 2, .int .u8 1, .int .i64 0, .int .i64 2, .int .i64 2, .int .u16 0, .bool false, .slice pu 0 cu] 88 (0, 0))) := by rw [hY]; exact alloc_at _ _ _
        clear C2 g8 ou H7
        go_upto_region 14 with fail
        rw [← hY]
        obtain ⟨nc, hnc⟩ : ∃ nc, nc = w8.heap.size := ⟨_, rfl⟩
        rw [← hnc] at HCd ⊢
        clear hY hnc
        obtain ⟨y0, y1⟩ := tab_box HY.out.tab
        have HOY : Hid (Y.ownsRow S 60 11 (.slice pt 3 ct) 3 (thR.cs (exT.take 3))) := HY.out.th
        have HA : Hid (Y.grownBy (Y.alloc (.cells (thc (⟨1, 1, 4, 4, 0, 0, 0, 0, 0, 0, false⟩ : Th)).toArray 60)) none) := World.grownBy_alloc _ _ none
        have HK := (HY.out.grow HA.out).cellT
        have HSz : Hid (S ≤ (Y.alloc (.cells (thc (⟨1, 1, 4, 4, 0, 0, 0, 0, 0, 0, false⟩ : Th)).toArray 60)).heap.size) := by have h1 := HY.out.lie; have h2 := block_lt HY.out.tab; have h3 := HA.out.size; show _ ≤ _; omega
        have HNe : Hid (some nc ≠ some nb) := fun q => by cases q; have h1 := HCd.out.symm.trans HY.out.tab; simp at h1
        have HLn : Hid (3 + 1 ≤ maxLen ∧ (3 + 1) * 88 ≤ 140737488355328) := len_smallT (by omega)
        go_upto_region 15 with (at_builtin; refine lwpl_app (by rfl) (.tmp 52) (.tmp 59) 26 rfl S 60 iT _ 11 88 Tryz.underlying26 hiT hT0 hT1 hT2 rfl (by decide) _ 3 (thR.cs (exT.take 3)) rfl (World.ownsRow.alloc HOY.out _) _ 1 (thc (⟨1, 1, 4, 4, 0, 0, 0, 0, 0, 0, false⟩ : Th)) rfl (th_src Y (⟨1, 1, 4, 4, 0, 0, 0, 0, 0, 0, false⟩ : Th)) (thc_ones _) HLn.out.1 HLn.out.2 HSz.out ?_; intro v9 w9 o9 g9 _; obtain ⟨k0, k1⟩ := HK _ g9; obtain ⟨pv, kv, rfl, -⟩ := own_slice o9; have HO9 : Hid _ := o9; have HG9 : Hid _ := g9; clear o9 g9)
        have H9 : Hid (ExS w (w9.setCell ⟨nb, 0, none⟩ (.slice pv 4 kv)) b S nb ns t0 vE vB vC vF (.slice pv 4 kv) (.slice pf 3 cf) (exT.take 4) (exFs.take 3)) := (HY.out.grow HA.out).things (show thR.Own 60 w9 S (.slice pv 4 kv) (exT.take 3 ++ [(⟨1, 1, 4, 4, 0, 0, 0, 0, 0, 0, false⟩ : Th)]) from RecT.more HO9.out rfl) HG9.out
        have HCz : Hid ((w9.setCell ⟨nb, 0, none⟩ (.slice pv 4 kv)).heap[nc]? = some (.cells #[.string ⟨#[98, 101, 97, 114]⟩, .int .u8 2, .int .u8 1, .int .i64 0, .int .i64 2, .int .i64 2, .int .u16 0, .bool false, .slice pu 0 cu] 88 (0, 0))) := grown_keep (grown_set _ _ _ _) (grown_keep HG9.out (grown_keep HA.out HCd.out (by simp)) (own_tag (HY.out.grow HA.out).th (grown_keep HA.out HCd.out (by simp)) (by decide))) HNe.out
        obtain ⟨Z, hZ⟩ : ∃ Z, Z = w9.setCell ⟨nb, 0, none⟩ (.slice pv 4 kv) := ⟨_, rfl⟩
        rw [← hZ] at H9 HCz ⊢
        clear HO9 HG9 hZ k0 k1 HK HA HOY HY HCd HSz HLn y0 y1
        obtain ⟨z0, z1⟩ := tab_box H9.out.tab
        have d1 := (block_cell HCz.out 1).trans (show _ = some (.int .u8 2) from rfl)
        have d4 := (block_cell HCz.out 4).trans (show _ = some (.int .i64 2) from rfl)
        have d5 := (block_cell HCz.out 5).trans (show _ = some (.int .i64 2) from rfl)
        have HOZ : Hid (Z.ownsRow S 64 5 (.slice pf 3 cf) 3 (feR.cs (exFs.take 3))) := H9.out.fe
        have HA : Hid (Z.grownBy (Z.alloc (.cells (fec (⟨1, 2, 0, 2, 2⟩ : Fe)).toArray 64)) none) := World.grownBy_alloc _ _ none
        have HK := (H9.out.grow HA.out).cellF
        have HSz : Hid (S ≤ (Z.alloc (.cells (fec (⟨1, 2, 0, 2, 2⟩ : Fe)).toArray 64)).heap.size) := by have h1 := H9.out.lie; have h2 := block_lt H9.out.tab; have h3 := HA.out.size; show _ ≤ _; omega
        have HLn : Hid (3 + 1 ≤ maxLen ∧ (3 + 1) * 32 ≤ 140737488355328) := len_smallF (by omega)
        go_wp2_with (at_builtin; refine lwpl_app (by rfl) (.tmp 63) (.tmp 73) 27 rfl S 64 iF _ 5 32 Tryz.underlying27 hiF hF0 hF1 hF2 rfl (by decide) _ 3 (feR.cs (exFs.take 3)) rfl (World.ownsRow.alloc HOZ.out _) _ 1 (fec (⟨1, 2, 0, 2, 2⟩ : Fe)) rfl (fe_src Z (⟨1, 2, 0, 2, 2⟩ : Fe)) (fec_ones _) HLn.out.1 HLn.out.2 HSz.out ?_; intro v10 w10 o10 g10 _; obtain ⟨k0, k1⟩ := HK _ g10; obtain ⟨px, kx, rfl, -⟩ := own_slice o10; have HO10 : Hid _ := o10; have HG10 : Hid _ := g10; clear o10 g10)
        have HX : Hid (ExS w (w10.setCell ⟨nb, 1, none⟩ (.slice px 4 kx)) b S nb ns t0 vE vB vC vF (.slice pv 4 kv) (.slice px 4 kx) (exT.take 4) (exFs.take 4)) := (H9.out.grow HA.out).feats (show feR.Own 64 w10 S (.slice px 4 kx) (exFs.take 3 ++ [(⟨1, 2, 0, 2, 2⟩ : Fe)]) from RecT.more HO10.out rfl) HG10.out
        clear HO10 HG10 k0 k1 HK HA HOZ H9 HCz HSz HLn z0 z1 d1 d4 d5
        go_roundw
        case rel => exact ⟨4, _, _, by decide, rfl, HX.out⟩
        case measure => decide
end Go.Proofs.YtmemeloehgemcaaGreat
