/-
  Layers: the features of all things, with those of the table among them.
-/
import Derived.Test.YtmemeloehgemcaaGreatLyH
namespace Go.Proofs.YtmemeloehgemcaaGreat
open Go.RowKit

theorem wrap_smallI {j : Nat} (h : j ≤ 4096) : IntKind.i64.wrap (j : Int) = (j : Int) := IntWalk.i64_in _ (by omega)
theorem wrap_small {j : Nat} (h : j ≤ 4096) : wrap64 (j : Int) = (j : Int) := by unfold wrap64; omega
theorem wrap_next {k : Nat} (h : k ≤ 4096) : wrap64 ((k : Int) + 1) = (k : Int) + 1 := by unfold wrap64; omega
theorem ne_of_lt_le {a b c : Nat} (h : a < b) (h' : b ≤ c) : some a ≠ some c := fun q => by have := Option.some.inj q; omega
theorem amgU_next (fs : List Fe) (R : List Rw) (F : List Fe) (k : Nat) : amgU fs R F (k + 1) = (amgU fs R F k).set ((R.getD k Rw.none).nu - 1).toNat (F.getD k Fe.none) := by
  unfold amgU
  rw [List.range_succ, List.foldl_append]
  rfl
theorem amgU_len (fs : List Fe) (R : List Rw) (F : List Fe) : ∀ k, (amgU fs R F k).length = fs.length
  | 0 => rfl
  | k + 1 => by rw [amgU_next, List.length_set, amgU_len fs R F k]
structure AmS (w wr : World) (n0 B : Nat) (vr vf v : Value) (L : List Fe) : Prop where
  tb : TbB wr n0 vr vf
  fo : FOwn wr B v L
  gr : w.grownBy wr none
theorem AmS.grow {w wr wr' : World} {n0 B : Nat} {vr vf v : Value} {L : List Fe} (h : AmS w wr n0 B vr vf v L) (g : wr.grownBy wr' none) : AmS w wr' n0 B vr vf v L := ⟨grown_keep g h.tb (by simp), h.fo.grow g, grown_trans h.gr g⟩
theorem AmS.set {w wr : World} {n0 B g n cap k : Nat} {vr vf : Value} {L : List Fe} (h : AmS w wr n0 B vr vf (.slice (some ⟨g, 0, none⟩) n cap) L) (hn : L.length = n) (hk : k < n) (hB : n0 < B ∧ w.heap.size ≤ B) (f : Fe) : AmS w (wr.setCells g (k * 5) (fec f)) n0 B vr vf (.slice (some ⟨g, 0, none⟩) n cap) (L.set k f) := by
  obtain ⟨o, q⟩ := RecT.Own.set h.fo hn hk f
  have hg : B ≤ g := (h.fo.lt g rfl).1
  exact ⟨grown_keep q h.tb (by simp; omega), o, grown_own h.gr q (fun y e => by cases e; omega)⟩
set_option maxRecDepth 100000 in
set_option maxHeartbeats 4000000 in
theorem lamong_any (vr vf v : Value) (X : List Rv) (F fs : List Fe) (w : World) (T : TbAt w vr vf X F) (A : feR.At w v fs) (hn : ∀ i, i < X.length → 1 ≤ ((rws X).getD i Rw.none).nu ∧ ((rws X).getD i Rw.none).nu ≤ (fs.length : Int)) (hl : fs.length ≤ 4096) : Calls Tryz.prog 55 #[tbv vr vf, v] w fun e' w' => ∃ v', e' = .returned v' ∧ FOwn w' w.heap.size v' (amgL fs (rws X) F) ∧ w.grownBy w' none := by
  obtain ⟨pr, cr, rfl⟩ := T.rows.form
  obtain ⟨pf, cf, rfl⟩ := T.fs.form
  obtain ⟨pl, cl, rfl⟩ := A.form
  obtain ⟨W1, hW1⟩ : ∃ W1, W1 = w.alloc (.cells #[.slice pr X.length cr, .slice pf F.length cf] 118) := ⟨_, rfl⟩
  have HG1 : Hid (w.grownBy W1 none) := by rw [hW1]; exact World.grownBy_alloc _ _ none
  have HB : Hid (TbB W1 w.heap.size (.slice pr X.length cr) (.slice pf F.length cf)) := by rw [hW1]; exact alloc_at w _ _
  have HT : Hid (TbAt w (.slice pr X.length cr) (.slice pf F.length cf) X F) := T
  have HCl := cloneF_any _ fs W1 (A.keep HG1.out) (by omega)
  have HNu : Hid (∀ i, i < X.length → 1 ≤ ((rws X).getD i Rw.none).nu ∧ ((rws X).getD i Rw.none).nu ≤ (fs.length : Int)) := hn
  have Hl : Hid (fs.length ≤ 4096) := hl
  have H16 : Hid (X.length ≤ 16) := T.few
  have HLF : Hid (F.length = X.length) := T.len
  unfold tbv
  clear T A hn hl
  go_enter Tryz.func55, Tryz.ntmps55
  go_upto_region 1 with fail
  rw [← hW1]
  clear hW1
  obtain ⟨n0, h0⟩ : ∃ n0, n0 = w.heap.size := ⟨_, rfl⟩
  simp only [← h0] at HB ⊢
  clear h0
  go_wp2_with fail
  refine HCl.mono ?_
  rintro e2 w2 ⟨v2, rfl, o2, g2⟩
  obtain ⟨p2, c2, rfl⟩ := o2.form
  have HBd : Hid (n0 < W1.heap.size ∧ w.heap.size ≤ W1.heap.size) := ⟨block_lt HB.out, HG1.out.size⟩
  have HA : Hid (AmS w w2 n0 W1.heap.size (.slice pr X.length cr) (.slice pf F.length cf) (.slice p2 fs.length c2) fs) := ⟨grown_keep g2 HB.out (by simp), o2, grown_trans HG1.out g2⟩
  have HG2 : Hid (W1.grownBy w2 none) := g2
  obtain ⟨a0, a1⟩ := tb_box HA.out.tb
  clear HCl o2 g2
  go_wp2_with fail
  clear a0 a1
  go_loopw [6, 7, 13] (fun _ _ i wr => ∃ k : Nat, k ≤ X.length ∧ i = .int .i64 (k : Int) ∧ AmS w wr n0 W1.heap.size (.slice pr X.length cr) (.slice pf F.length cf) (.slice p2 fs.length c2) (amgU fs (rws X) F k)) (fun _ _ i _ => X.length - (intOf i).toNat)
  case atStart => exact ⟨0, Nat.zero_le _, rfl, HA.out⟩
  case round =>
    clear HA
    obtain ⟨k, hk, rfl, A⟩ := hrel
    obtain ⟨U, hU⟩ : ∃ U, U = wr := ⟨_, rfl⟩
    subst hU
    by_cases hlt : k < X.length
    · have hnu := HNu.out k hlt
      obtain ⟨gl, cap, el, hgl, -, -, -, -⟩ := own_cell A.fo (show 0 < (amgU fs (rws X) F k).length by rw [amgU_len]; omega)
      rw [amgU_len] at el
      cases el
      have HTU := HT.out.keep A.gr
      obtain ⟨g, off, cap, e1, R⟩ := HTU.row hlt
      cases e1
      obtain ⟨gf, fof, fcap, e2, RF⟩ := HTU.fe hlt
      cases e2
      obtain ⟨gf', fof', fcap', e3, RF0⟩ := HT.out.fe hlt
      cases e3
      obtain ⟨x, hx⟩ : ∃ x, x = X[k] := ⟨_, rfl⟩
      rw [← hx] at R
      have en : ((rws X).getD k Rw.none).nu = x.r.nu := by rw [rws_get hlt, ← hx]
      rw [en] at hnu
      obtain ⟨j, hj⟩ : ∃ j : Nat, x.r.nu = (j : Int) + 1 := ⟨(x.r.nu - 1).toNat, by omega⟩
      have hjl : j < fs.length := by omega
      obtain ⟨f, hf⟩ : ∃ f, f = F.getD k Fe.none := ⟨_, rfl⟩
      rw [← hf] at RF
      have HY : Hid (amgU fs (rws X) F (k + 1) = (amgU fs (rws X) F k).set j f) := by show _ = _; rw [amgU_next, en, hj, ← hf, show ((j : Int) + 1 - 1).toNat = j by omega]
      have HA : Hid (AmS w U n0 W1.heap.size (.slice (some ⟨g, off, none⟩) X.length cr) (.slice (some ⟨gf, fof, none⟩) F.length cf) (.slice (some ⟨gl, 0, none⟩) fs.length c2) (amgU fs (rws X) F k)) := A
      have HLn : Hid ((amgU fs (rws X) F k).length = fs.length) := amgU_len _ _ _ _
      obtain ⟨c0, c1, c2', c3, c4, c5, c6, c7, c8, c9, c10⟩ := rv_cells R
      have c10' : U.cell? ⟨g, off + k * 11 + 10, none⟩ = some (.slice x.pa x.r.ps.length x.ca) := c10
      obtain ⟨V, hV⟩ : ∃ V, V = U.alloc (.cells #[.int .i64 x.r.nu, .int .i64 x.r.st, .string x.r.h.nm, .int .u8 x.r.h.su, .int .u8 x.r.h.kd, .int .i64 x.r.h.co, .int .i64 x.r.h.po, .int .i64 x.r.h.he, .int .u16 x.r.h.tr, .bool x.r.h.tk, .slice x.pa x.r.ps.length x.ca] 174) := ⟨_, rfl⟩
      have HGV : Hid (U.grownBy V none) := by rw [hV]; exact World.grownBy_alloc _ _ none
      have z0 : V.cell? ⟨U.heap.size, 0, none⟩ = some (.int .i64 ((j : Int) + 1)) := by rw [hV, ← hj]; exact (block_cell (alloc_at _ _ _) 0).trans rfl
      obtain ⟨f0, f1, f2, f3, f4⟩ := fe_cells (rangeAt_keep RF HGV.out)
      obtain ⟨a0, a1⟩ := tb_box (show TbB V n0 _ _ from grown_keep HGV.out A.tb (by simp))
      have hgl2 : gl < U.heap.size := (A.fo.lt gl rfl).2
      have hgf : gf < w.heap.size := World.block_lt_of_cell? _ _ (fe_cells RF0).1
      have d0 : some n0 ≠ some gl := ne_of_lt_le HBd.out.1 hgl
      have dr : some U.heap.size ≠ some gl := fun q => absurd (Option.some.inj q) (Nat.ne_of_gt hgl2)
      have df : some gf ≠ some gl := ne_of_lt_le (Nat.lt_of_lt_of_le hgf HBd.out.2) hgl
      have hw1 := wrap_smallI (j := j) (Nat.le_trans (Nat.le_of_lt hjl) Hl.out)
      have hw2 := wrap_small (j := j) (Nat.le_trans (Nat.le_of_lt hjl) Hl.out)
      have hjl' : (j : Int) < fs.length := Int.ofNat_lt.2 hjl
      have Hjl : Hid (j < fs.length) := hjl
      have hlt' : (k : Int) < X.length := Int.ofNat_lt.2 hlt
      have hkf : (k : Int) < F.length := by rw [HLF.out]; exact Int.ofNat_lt.2 hlt
      have hwk := wrap_next (k := k) (Nat.le_trans (Nat.le_of_lt hlt) (Nat.le_trans H16.out (by decide)))
      have Hlt : Hid (k < X.length) := hlt
      have HM : Hid (X.length - (intOf (.int .i64 ((k : Int) + 1))).toNat < X.length - (intOf (.int .i64 (k : Int))).toNat) := meas_k hlt
      clear A R RF RF0 hx en hj hf c10 hgl hgl2 hgf hnu HTU hlt hk hjl
      go_upto_region 5 with fail
      rw [← hV]
      clear hV c0 c1 c2' c3 c4 c5 c6 c7 c8 c9 c10'
      obtain ⟨nb, hnb⟩ : ∃ nb, nb = U.heap.size := ⟨_, rfl⟩
      rw [← hnb] at z0 dr ⊢
      clear hnb
      refine wp_region_held_drew (S := fun w' => V.grownBy w' (some gl)) (by kernel_rfl) (grown_drewR _ _) (fun hHeld => ?_)
      refine wpAnyH_take (i := 0) (v := ?_) rfl (by kernel_rfl) (by kernel_rfl) (by kernel_rfl) (fun _ _ _ h => h) (Or.inl ⟨by rfl, ?_⟩) (by assumption) ?_
      rotate_left 1
      · (intro w0 hSw; go_simp; try with_reducible rfl)
      simp only [List.getElem_toArray, List.getElem_cons_zero]
      go_frame
      refine wpAnyH_take (i := 1) (v := ?_) rfl (by kernel_rfl) (by kernel_rfl) (by kernel_rfl) (fun _ _ _ h => h) (Or.inl ⟨by rfl, ?_⟩) (by assumption) ?_
      rotate_left 1
      · (intro w0 hSw; go_simp; try with_reducible rfl)
      simp only [List.getElem_toArray, List.getElem_cons_zero, List.getElem_cons_succ]
      go_frame
      refine wpAnyH_take (i := 2) (v := ?_) rfl (by kernel_rfl) (by kernel_rfl) (by kernel_rfl) (fun _ _ _ h => h) (Or.inl ⟨by rfl, ?_⟩) (by assumption) ?_
      rotate_left 1
      · (intro w0 hSw; have z0 := hSw.cell z0 dr; go_simp; try with_reducible rfl)
      simp only [List.getElem_toArray, List.getElem_cons_zero, List.getElem_cons_succ]
      go_frame
      refine wpAnyH_take (i := 3) (v := ?_) rfl (by kernel_rfl) (by kernel_rfl) (by kernel_rfl) (fun _ _ _ h => h) (Or.inl ⟨by rfl, ?_⟩) (by assumption) ?_
      rotate_left 1
      · (intro w0 hSw; go_simp; try with_reducible rfl)
      simp only [List.getElem_toArray, List.getElem_cons_zero, List.getElem_cons_succ]
      go_frame
      refine wpAnyH_take (i := 4) (v := ?_) rfl (by kernel_rfl) (by kernel_rfl) (by kernel_rfl) (fun _ _ _ h => h) (Or.inl ⟨by rfl, ?_⟩) (by assumption) ?_
      rotate_left 1
      · (intro w0 hSw; go_simp; try with_reducible rfl)
      simp only [List.getElem_toArray, List.getElem_cons_zero, List.getElem_cons_succ]
      go_frame
      refine wpAnyH_take (i := 5) (v := ?_) rfl (by kernel_rfl) (by kernel_rfl) (by kernel_rfl) (fun _ _ _ h => h) (Or.inl ⟨by rfl, ?_⟩) (by assumption) ?_
      rotate_left 1
      · (intro w0 hSw; have a1 := hSw.cell a1 d0; go_simp; try with_reducible rfl)
      simp only [List.getElem_toArray, List.getElem_cons_zero, List.getElem_cons_succ]
      go_frame
      refine wpAnyH_take (i := 6) (v := ?_) rfl (by kernel_rfl) (by kernel_rfl) (by kernel_rfl) (fun _ _ _ h => h) (Or.inl ⟨by rfl, ?_⟩) (by assumption) ?_
      rotate_left 1
      · (intro w0 hSw; go_simp; try with_reducible rfl)
      simp only [List.getElem_toArray, List.getElem_cons_zero, List.getElem_cons_succ]
      go_frame
      refine wpAnyH_take (i := 7) (v := ?_) rfl (by kernel_rfl) (by kernel_rfl) (by kernel_rfl) (fun _ _ _ h => h) (Or.inl ⟨by rfl, ?_⟩) (by assumption) ?_
      rotate_left 1
      · (intro w0 hSw; go_simp; try with_reducible rfl)
      simp only [List.getElem_toArray, List.getElem_cons_zero, List.getElem_cons_succ]
      go_frame
      refine wpAnyH_take (i := 8) (v := ?_) rfl (by kernel_rfl) (by kernel_rfl) (by kernel_rfl) (fun _ _ _ h => h) (Or.inl ⟨by rfl, ?_⟩) (by assumption) ?_
      rotate_left 1
      · (intro w0 hSw; have f0 := hSw.cell f0 df; have f1 := hSw.cell f1 df; have f2 := hSw.cell f2 df; have f3 := hSw.cell f3 df; have f4 := hSw.cell f4 df; go_simp; try with_reducible rfl)
      simp only [List.getElem_toArray, List.getElem_cons_zero, List.getElem_cons_succ]
      go_frame
      refine wpAnyH_take (i := 9) (v := ?_) rfl (by kernel_rfl) (by kernel_rfl) (by kernel_rfl) (fun _ _ _ h => h) (Or.inl ⟨by rfl, ?_⟩) (by assumption) ?_
      rotate_left 1
      · (intro w0 hSw; go_simp; try with_reducible rfl)
      simp only [List.getElem_toArray, List.getElem_cons_zero, List.getElem_cons_succ]
      go_frame
      refine wpAnyH_ready (rs := [10]) (by kernel_rfl) (by simp) ?_
      refine AllReadyH.cons rfl (fun K9 hK => ?_) AllReadyH.nil
      simp only [List.getElem_toArray, List.getElem_cons_zero, List.getElem_cons_succ]
      have HA3 : Hid (AmS w V.drew n0 W1.heap.size (.slice (some ⟨g, off, none⟩) X.length cr) (.slice (some ⟨gf, fof, none⟩) F.length cf) (.slice (some ⟨gl, 0, none⟩) fs.length c2) (amgU fs (rws X) F k)) := HA.out.grow (grown_trans HGV.out (grown_drew _))
      refine wp_store_mid 64 (.tmp 27) (.tmp 26) rfl gl (j * 5) (fec f).toArray rfl rfl (RecT.Own.there HA3.out.fo HLn.out Hjl.out) (by kernel_rfl) (all_oneCell_toArray (fec_ones f)) ?_
      refine hK.out _ _ (grown_trans (grown_drewR _ _) (RecT.Own.set HA3.out.fo HLn.out Hjl.out f).2) (fun hHeld3 => ?_)
      clear hK K9
      (try go_frame)
      refine wpAnyH_done (by kernel_rfl) ?_ _
      have HA4 : Hid (AmS w (V.drew.setCells gl (j * 5) (fec f)) n0 W1.heap.size (.slice (some ⟨g, off, none⟩) X.length cr) (.slice (some ⟨gf, fof, none⟩) F.length cf) (.slice (some ⟨gl, 0, none⟩) fs.length c2) ((amgU fs (rws X) F k).set j f)) := HA3.out.set HLn.out Hjl.out HBd.out f
      obtain ⟨Z, hZ⟩ : ∃ Z, Z = V.drew.setCells gl (j * 5) (fec f) := ⟨_, rfl⟩
      rw [← hZ] at HA4
      clear hHeld hHeld3 a0 a1 f0 f1 f2 f3 f4 z0
      rw [show V.drew.setCells gl (j * 5) (fec f).toArray.toList = Z from hZ.symm]
      clear hZ
      go_wp2_with fail
      go_roundw
      case rel => exact ⟨k + 1, Hlt.out, by first | rfl | (rw [hwk]; rfl) | go_num, by rw [HY.out]; exact HA4.out⟩
      case measure => first | exact HM.out | (rw [hwk]; exact HM.out)
    · obtain rfl : k = X.length := by omega
      have HF : Hid (FOwn U w.heap.size (.slice p2 fs.length c2) (amgL fs (rws X) F) ∧ w.grownBy U none) := ⟨by unfold amgL; rw [rws_len]; exact own_big A.fo HBd.out.2, A.gr⟩
      clear A hk hlt
      go_wp2_with fail
      go_ret
      exact ⟨_, rfl, HF.out⟩
end Go.Proofs.YtmemeloehgemcaaGreat
