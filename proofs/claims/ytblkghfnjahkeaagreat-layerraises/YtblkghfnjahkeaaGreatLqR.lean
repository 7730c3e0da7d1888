/-
  LayerRaises: two Raises, neither of which depends on the other, in either order.
-/
import Derived.Test.YtblkghfnjahkeaaGreatR2
namespace Go.Proofs.YtblkghfnjahkeaaGreat
open Go.RowKit Go.Shelf

set_option maxRecDepth 100000 in
set_option maxHeartbeats 4000000 in
theorem layerRaises_any (vc vm vt vf : Value) (op : Bool) (cs : List Ent) (ms : List Mk) (ts : List Th) (fs : List Fe) (one two : Int) (w : World) (FI : FiA w vc vm cs ms) (TH : thR.At w vt ts) (FE : feR.At w vf fs) : Calls Tryz.prog 7 #[.agg #[vc, vm, .bool op], .agg #[vt, vf], .int .i64 one, .int .i64 two] w fun e w' => e = .returned (.bool true) ∧ w.grownBy w' none := by
  obtain ⟨pc, kc, pm, km, rfl, rfl⟩ := FI.forms
  obtain ⟨pt, ct, rfl⟩ := TH.form
  obtain ⟨pf, cf, rfl⟩ := FE.form
  obtain ⟨W, hW⟩ : ∃ W, W = (w.alloc (.cells #[.slice pc cs.length kc, .slice pm ms.length km, .bool op] 58)).alloc (.cells #[.slice pt ts.length ct, .slice pf fs.length cf] 25) := ⟨_, rfl⟩
  have HG : Hid (w.grownBy W none) := by rw [hW]; exact grown_push (World.grownBy_alloc _ _ none) _
  have H0 : Hid (Pre w W w.heap.size (w.heap.size + 1) (.slice pc cs.length kc) (.slice pm ms.length km) (.slice pt ts.length ct) (.slice pf fs.length cf) op cs ms ts fs) := ⟨FI.keep HG.out, TH.keep HG.out, FE.keep HG.out, by rw [hW]; exact alloc_two _ _ _ _ _, by rw [hW]; exact alloc2_b _ _ _ _, HG.out⟩
  clear FI TH FE
  go_enter Tryz.func7, Tryz.ntmps7
  go_upto_region 1 with fail
  rw [← hW]
  obtain ⟨b0, hb0⟩ : ∃ b0, b0 = w.heap.size := ⟨_, rfl⟩
  obtain ⟨b1, hb1⟩ : ∃ b1, b1 = b0 + 1 := ⟨_, rfl⟩
  rw [← hb0, ← hb1] at H0 ⊢
  clear hW hb0 hb1 HG
  have C1 := lawake_any W
  go_wp2_with fail
  refine C1.mono ?_
  rintro e1 w1 ⟨rfl, g1⟩
  have H1 : Hid (Pre w w1 b0 b1 (.slice pc cs.length kc) (.slice pm ms.length km) (.slice pt ts.length ct) (.slice pf fs.length cf) op cs ms ts fs) := H0.out.keep g1
  clear C1 g1 H0
  have C2 := heavy_any pc pm pt pf cs.length ms.length ts.length fs.length kc km ct cf op w1
  obtain ⟨f0, f1, f2⟩ := fil_box H1.out.fb
  obtain ⟨t0, t1⟩ := tab_box H1.out.tb
  go_wp2_with fail
  refine C2.mono ?_
  rintro e2 w2 ⟨rfl, g2⟩
  have H2 : Hid (Pre w w2 b0 b1 (.slice pc cs.length kc) (.slice pm ms.length km) (.slice pt ts.length ct) (.slice pf fs.length cf) op cs ms ts fs) := H1.out.keep g2
  clear C2 g2 H1 f0 f1 f2 t0 t1
  cases hh : heavyB cs.length ms.length ts.length fs.length with
  | true =>
    go_wp2_with fail
    go_ret
    exact ⟨rfl, H2.out.gr⟩
  | false =>
    have HH : Hid (cs.length ≤ 80 ∧ ms.length ≤ 20 ∧ ts.length ≤ 2100 ∧ fs.length ≤ 2100) := heavyB_no hh
    clear hh
    have C3 := books_any _ _ op cs ms w2 H2.out.fi
    unfold BoPost at C3
    obtain ⟨f0, f1, f2⟩ := fil_box H2.out.fb
    obtain ⟨nB, hnB⟩ : ∃ nB, nB = w2.heap.size + 1 := ⟨_, rfl⟩
    rw [← hnB] at C3
    clear hnB
    go_wp2_with fail
    refine C3.mono ?_
    rintro e3 w3 ⟨v3, es3, fs3, p3, rfl, P3, -, g3⟩
    have HS' : Hid (RaS w w3 b1 (.pointer (some ⟨nB, 0, none⟩)) (.slice pt ts.length ct) (.slice pf fs.length cf) (refE p3 ts.length) (es3.length : Int) (atC p3 es3) ts fs) := H2.out.ras g3 P3 (by have := HH.out.2.2.2; omega)
    obtain ⟨r, hr⟩ : ∃ r, r = refE p3 ts.length := ⟨_, rfl⟩
    obtain ⟨m, hm⟩ : ∃ m, m = (es3.length : Int) := ⟨_, rfl⟩
    obtain ⟨cd, hcd⟩ : ∃ cd, cd = atC p3 es3 := ⟨_, rfl⟩
    rw [← hr, ← hm, ← hcd] at HS'
    have HS : Hid (RaS w w3 b1 (.pointer (some ⟨nB, 0, none⟩)) (.slice pt ts.length ct) (.slice pf fs.length cf) r m cd ts fs) := HS'.out
    clear C3 P3 g3 H2 f0 f1 f2 HS' hr hm hcd
    clear p3 es3 fs3 v3
    obtain ⟨vt, hvt⟩ : ∃ vt, vt = Value.slice pt ts.length ct := ⟨_, rfl⟩
    clear hvt vt
    have C4 := lEffects_any _ _ _ r m cd ts fs 5 w3 HS.out.inn
    unfold EffectsPost at C4
    obtain ⟨t0, t1⟩ := tab_box HS.out.tab
    go_wp2_with fail
    refine C4.mono ?_
    rintro e4 w4 ⟨p4, m4, c4, rfl, g4, z4, h4⟩
    have HS4 : Hid (RaS w w4 b1 (.pointer (some ⟨nB, 0, none⟩)) (.slice pt ts.length ct) (.slice pf fs.length cf) r m cd ts fs) := HS.out.keep g4
    obtain ⟨q, hq⟩ : ∃ q, q = bgE r m cd ts fs 5 := ⟨_, rfl⟩
    rw [← hq]
    rw [← hq] at z4
    clear C4 t0 t1 HS
    by_cases hq0 : q = 0
    · obtain ⟨hr0, hk5, R, hR⟩ := bgE_of (hq.symm.trans hq0)
      have o4 := (h4 R hr0 hk5 hR).at
      obtain ⟨L, hL⟩ : ∃ L, L = effL R (pickF R fs) 5 := ⟨_, rfl⟩
      rw [← hL] at o4
      have HTab : Hid (Tab m cd ts fs R) := Tab.of hR
      have HL : Hid (L = effL R (pickF R fs) 5) := hL
      have HO : Hid (sdR.At w4 (.slice p4 m4 c4) (L.map Se.s)) := o4
      have hm4 : m4 = L.length := by obtain ⟨a, b, e⟩ := o4.form; cases e; simp
      subst hm4
      subst hr0
      clear hR hL o4 h4 z4 hk5 hq g4
      have hq1 : (q != 0) = false := by simpa using hq0
      clear hq0
      by_cases h2 : L.length < 2
      · have e2 : decide ((L.length : Int) < 2) = true := decide_eq_true (by omega)
        go_wp2_with fail
        go_ret
        exact ⟨rfl, HS4.out.gr⟩
      · have e2 : decide ((L.length : Int) < 2) = false := decide_eq_false (by omega)
        have hl64 : L.length ≤ 4294967296 := by
          have h3 := HTab.out.effs (HS4.out.inn.book rfl).1.few (pickF R fs) 5
          rw [← HL.out] at h3
          omega
        obtain ⟨gE, oE, cE, eE, hRE⟩ := es_slice HO.out (by omega)
        cases eE
        have HRE : Hid (∀ w', w4.grownBy w' none → ∀ i, i < L.length → w'.rangeAt gE (oE + i * 10) (sdc (L.getD i Se.none).s)) := hRE
        have H2 : Hid (2 ≤ L.length ∧ L.length ≤ 4294967296) := ⟨by omega, hl64⟩
        clear h2 hRE hl64
        have C5 := kpick_any one L.length w4 (by have := H2.out; omega) H2.out.2
        go_wp2_with fail
        refine C5.mono ?_
        rintro e5 w5 ⟨⟨i, hi, rfl⟩, hw5⟩
        rw [hw5]
        clear hw5 w5
        clear C5
        have Hi : Hid (i < L.length) := hi
        clear hi
        have C5 := kpick_any two L.length w4 (by have := H2.out; omega) H2.out.2
        go_wp2_with fail
        refine C5.mono ?_
        rintro e5 w5 ⟨⟨k, hk, rfl⟩, hw5⟩
        rw [hw5]
        clear hw5 w5
        clear C5
        have Hk : Hid (k < L.length) := hk
        clear hk e2
        by_cases hik : i = k
        · have e3 : ((i : Int) == (k : Int)) = true := by rw [nat_beq]; exact decide_eq_true hik
          go_wp2_with fail
          go_ret
          exact ⟨rfl, HS4.out.gr⟩
        · have e3 : ((i : Int) == (k : Int)) = false := by rw [nat_beq]; exact decide_eq_false hik
          have HP : Hid (Pair2 m cd ts fs R (L.getD i Se.none) (L.getD k Se.none)) := ⟨HTab.out, by rw [← HL.out, getD_in Hi.out]; exact List.getElem_mem _, by rw [← HL.out, getD_in Hk.out]; exact List.getElem_mem _, by have := eff_two (R := R) (F := pickF R fs) (k := 5) (i := i) (j := k) (by rw [← HL.out]; exact Hi.out) (by rw [← HL.out]; exact Hk.out) hik; rw [← HL.out] at this; exact this⟩
          obtain ⟨x, hx⟩ : ∃ x, x = L.getD i Se.none := ⟨_, rfl⟩
          obtain ⟨y, hy⟩ : ∃ y, y = L.getD k Se.none := ⟨_, rfl⟩
          rw [← hx, ← hy] at HP
          have HX : Hid (∀ w', w4.grownBy w' none → w'.rangeAt gE (oE + i * 10) (sdc x.s)) := fun w' g => by rw [hx]; exact HRE.out w' g i Hi.out
          have HY : Hid (∀ w', w4.grownBy w' none → w'.rangeAt gE (oE + k * 10) (sdc y.s)) := fun w' g => by rw [hy]; exact HRE.out w' g k Hk.out
          have i0 : (0 : Int) ≤ (i : Int) := by omega
          have i1 : (i : Int) < (L.length : Int) := by have := Hi.out; omega
          have k0 : (0 : Int) ≤ (k : Int) := by omega
          have k1 : (k : Int) < (L.length : Int) := by have := Hk.out; omega
          clear hx hy hik HRE
          obtain ⟨t0, t1⟩ := tab_box HS4.out.tab
          obtain ⟨x0, x1, x2, x3, x4, x5, x6, x7, x8, x9⟩ := sd_cells (HX.out w4 (grown_refl _ _))
          obtain ⟨y0, y1, y2, y3, y4, y5, y6, y7, y8, y9⟩ := sd_cells (HY.out w4 (grown_refl _ _))
          have C6 := lDepends_any _ _ _ 0 m cd ts fs x.s y.s w4.drew (HS4.out.keep (grown_drew _)).inn
          unfold sdv at C6
          go_upto_region 11 with fail
          refine wp_region_held_drew (S := fun w' => w4.grownBy w' none) (by kernel_rfl) (grown_drew _) (fun hHeld => ?_)
          refine wpAnyH_take (i := 0) (v := ?_) rfl (by kernel_rfl) (by kernel_rfl) (by kernel_rfl) (fun _ _ _ h => h) (Or.inl ⟨by rfl, ?_⟩) (by assumption) ?_
          rotate_left 1
          · (intro w0 hSw; go_simp; try with_reducible rfl)
          simp only [List.getElem_toArray, List.getElem_cons_zero]
          go_frame
          refine wpAnyH_take (i := 1) (v := ?_) rfl (by kernel_rfl) (by kernel_rfl) (by kernel_rfl) (fun _ _ _ h => h) (Or.inl ⟨by rfl, ?_⟩) (by assumption) ?_
          rotate_left 1
          · (intro w0 hSw; go_simp; try with_reducible rfl)
          simp only [List.getElem_toArray, List.getElem_cons_zero, List.getElem_cons_succ]
          go_frame
          refine wpAnyH_take (i := 2) (v := ?_) rfl (by kernel_rfl) (by kernel_rfl) (by kernel_rfl) (fun _ _ _ h => h) (Or.inl ⟨by rfl, ?_⟩) (by assumption) ?_
          rotate_left 1
          · (intro w0 hSw; have t0 := hSw.cell t0 (by simp); go_simp; try with_reducible rfl)
          simp only [List.getElem_toArray, List.getElem_cons_zero, List.getElem_cons_succ]
          go_frame
          refine wpAnyH_take (i := 3) (v := ?_) rfl (by kernel_rfl) (by kernel_rfl) (by kernel_rfl) (fun _ _ _ h => h) (Or.inl ⟨by rfl, ?_⟩) (by assumption) ?_
          rotate_left 1
          · (intro w0 hSw; go_simp; try with_reducible rfl)
          simp only [List.getElem_toArray, List.getElem_cons_zero, List.getElem_cons_succ]
          go_frame
          refine wpAnyH_take (i := 4) (v := ?_) rfl (by kernel_rfl) (by kernel_rfl) (by kernel_rfl) (fun _ _ _ h => h) (Or.inl ⟨by rfl, ?_⟩) (by assumption) ?_
          rotate_left 1
          · (intro w0 hSw; have t1 := hSw.cell t1 (by simp); go_simp; try with_reducible rfl)
          simp only [List.getElem_toArray, List.getElem_cons_zero, List.getElem_cons_succ]
          go_frame
          refine wpAnyH_take (i := 5) (v := ?_) rfl (by kernel_rfl) (by kernel_rfl) (by kernel_rfl) (fun _ _ _ h => h) (Or.inl ⟨by rfl, ?_⟩) (by assumption) ?_
          rotate_left 1
          · (intro w0 hSw; go_simp; try with_reducible rfl)
          simp only [List.getElem_toArray, List.getElem_cons_zero, List.getElem_cons_succ]
          go_frame
          refine wpAnyH_take (i := 6) (v := ?_) rfl (by kernel_rfl) (by kernel_rfl) (by kernel_rfl) (fun _ _ _ h => h) (Or.inl ⟨by rfl, ?_⟩) (by assumption) ?_
          rotate_left 1
          · (intro w0 hSw; go_simp; try with_reducible rfl)
          simp only [List.getElem_toArray, List.getElem_cons_zero, List.getElem_cons_succ]
          go_frame
          refine wpAnyH_take (i := 7) (v := ?_) rfl (by kernel_rfl) (by kernel_rfl) (by kernel_rfl) (fun _ _ _ h => h) (Or.inl ⟨by rfl, ?_⟩) (by assumption) ?_
          rotate_left 1
          · (intro w0 hSw; go_simp; try with_reducible rfl)
          simp only [List.getElem_toArray, List.getElem_cons_zero, List.getElem_cons_succ]
          go_frame
          refine wpAnyH_take (i := 8) (v := ?_) rfl (by kernel_rfl) (by kernel_rfl) (by kernel_rfl) (fun _ _ _ h => h) (Or.inl ⟨by rfl, ?_⟩) (by assumption) ?_
          rotate_left 1
          · (intro w0 hSw; have x0 := hSw.cell x0 (by simp); have x1 := hSw.cell x1 (by simp); have x2 := hSw.cell x2 (by simp); have x3 := hSw.cell x3 (by simp); have x4 := hSw.cell x4 (by simp); have x5 := hSw.cell x5 (by simp); have x6 := hSw.cell x6 (by simp); have x7 := hSw.cell x7 (by simp); have x8 := hSw.cell x8 (by simp); have x9 := hSw.cell x9 (by simp); go_simp; try with_reducible rfl)
          simp only [List.getElem_toArray, List.getElem_cons_zero, List.getElem_cons_succ]
          go_frame
          refine wpAnyH_take (i := 9) (v := ?_) rfl (by kernel_rfl) (by kernel_rfl) (by kernel_rfl) (fun _ _ _ h => h) (Or.inl ⟨by rfl, ?_⟩) (by assumption) ?_
          rotate_left 1
          · (intro w0 hSw; go_simp; try with_reducible rfl)
          simp only [List.getElem_toArray, List.getElem_cons_zero, List.getElem_cons_succ]
          go_frame
          refine wpAnyH_take (i := 10) (v := ?_) rfl (by kernel_rfl) (by kernel_rfl) (by kernel_rfl) (fun _ _ _ h => h) (Or.inl ⟨by rfl, ?_⟩) (by assumption) ?_
          rotate_left 1
          · (intro w0 hSw; go_simp; try with_reducible rfl)
          simp only [List.getElem_toArray, List.getElem_cons_zero, List.getElem_cons_succ]
          go_frame
          refine wpAnyH_take (i := 11) (v := ?_) rfl (by kernel_rfl) (by kernel_rfl) (by kernel_rfl) (fun _ _ _ h => h) (Or.inl ⟨by rfl, ?_⟩) (by assumption) ?_
          rotate_left 1
          · (intro w0 hSw; go_simp; try with_reducible rfl)
          simp only [List.getElem_toArray, List.getElem_cons_zero, List.getElem_cons_succ]
          go_frame
          refine wpAnyH_take (i := 12) (v := ?_) rfl (by kernel_rfl) (by kernel_rfl) (by kernel_rfl) (fun _ _ _ h => h) (Or.inl ⟨by rfl, ?_⟩) (by assumption) ?_
          rotate_left 1
          · (intro w0 hSw; have y0 := hSw.cell y0 (by simp); have y1 := hSw.cell y1 (by simp); have y2 := hSw.cell y2 (by simp); have y3 := hSw.cell y3 (by simp); have y4 := hSw.cell y4 (by simp); have y5 := hSw.cell y5 (by simp); have y6 := hSw.cell y6 (by simp); have y7 := hSw.cell y7 (by simp); have y8 := hSw.cell y8 (by simp); have y9 := hSw.cell y9 (by simp); go_simp; try with_reducible rfl)
          simp only [List.getElem_toArray, List.getElem_cons_zero, List.getElem_cons_succ]
          go_frame
          refine wpAnyH_ready (rs := [13]) (by kernel_rfl) (by simp) ?_
          refine AllReadyH.cons rfl (fun K hK => ?_) AllReadyH.nil
          simp only [List.getElem_toArray, List.getElem_cons_zero, List.getElem_cons_succ]
          go_simp
          go_at_call 26
          refine (C6).mono ?_
          rintro e6 w6 q6
          obtain ⟨rfl, g6⟩ := HP.out.dep q6
          have HG6 : Hid (w4.grownBy w6 none) := grown_trans (grown_drew _) g6
          clear C6 g6 q6
          refine hK.out _ _ (HG6.out) (fun hHeld2 => ?_)
          clear hK K
          (try go_frame)
          refine wpAnyH_take (i := 14) (v := ?_) rfl (by kernel_rfl) (by kernel_rfl) (by kernel_rfl) (fun _ _ _ h => h) (Or.inl ⟨by rfl, ?_⟩) (by assumption) ?_
          rotate_left 1
          · (intro w0 hSw; go_simp; try with_reducible rfl)
          simp only [List.getElem_toArray, List.getElem_cons_zero, List.getElem_cons_succ]
          go_frame
          refine wpAnyH_take (i := 15) (v := ?_) rfl (by kernel_rfl) (by kernel_rfl) (by kernel_rfl) (fun _ _ _ h => h) (Or.inl ⟨by rfl, ?_⟩) (by assumption) ?_
          rotate_left 1
          · (intro w0 hSw; go_simp; try with_reducible rfl)
          simp only [List.getElem_toArray, List.getElem_cons_zero, List.getElem_cons_succ]
          go_frame
          refine wpAnyH_take (i := 16) (v := ?_) rfl (by kernel_rfl) (by kernel_rfl) (by kernel_rfl) (fun _ _ _ h => h) (Or.inl ⟨by rfl, ?_⟩) (by assumption) ?_
          rotate_left 1
          · (intro w0 hSw; go_simp; try with_reducible rfl)
          simp only [List.getElem_toArray, List.getElem_cons_zero, List.getElem_cons_succ]
          go_frame
          refine wpAnyH_take (i := 17) (v := ?_) rfl (by kernel_rfl) (by kernel_rfl) (by kernel_rfl) (fun _ _ _ h => h) (Or.inl ⟨by rfl, ?_⟩) (by assumption) ?_
          rotate_left 1
          · (intro w0 hSw; go_simp; try with_reducible rfl)
          simp only [List.getElem_toArray, List.getElem_cons_zero, List.getElem_cons_succ]
          go_frame
          refine wpAnyH_take (i := 18) (v := ?_) rfl (by kernel_rfl) (by kernel_rfl) (by kernel_rfl) (fun _ _ _ h => h) (Or.inl ⟨by rfl, ?_⟩) (by assumption) ?_
          rotate_left 1
          · (intro w0 hSw; go_simp; try with_reducible rfl)
          simp only [List.getElem_toArray, List.getElem_cons_zero, List.getElem_cons_succ]
          go_frame
          refine wpAnyH_done (by kernel_rfl) ?_ _
          have HS6 : Hid (RaS w w6 b1 (.pointer (some ⟨nB, 0, none⟩)) (.slice pt ts.length ct) (.slice pf fs.length cf) 0 m cd ts fs) := HS4.out.keep HG6.out
          have HX6 : Hid (∀ w', w6.grownBy w' none → w'.rangeAt gE (oE + i * 10) (sdc x.s)) := fun w' g => HX.out w' (grown_trans HG6.out g)
          have HY6 : Hid (∀ w', w6.grownBy w' none → w'.rangeAt gE (oE + k * 10) (sdc y.s)) := fun w' g => HY.out w' (grown_trans HG6.out g)
          clear t0 t1 x0 x1 x2 x3 x4 x5 x6 x7 x8 x9 y0 y1 y2 y3 y4 y5 y6 y7 y8 y9 HS4 HG6 HX HY hHeld hHeld2 HO
          obtain ⟨t0, t1⟩ := tab_box HS6.out.tab
          obtain ⟨x0, x1, x2, x3, x4, x5, x6, x7, x8, x9⟩ := sd_cells (HX6.out w6 (grown_refl _ _))
          obtain ⟨y0, y1, y2, y3, y4, y5, y6, y7, y8, y9⟩ := sd_cells (HY6.out w6 (grown_refl _ _))
          have C7 := lDepends_any _ _ _ 0 m cd ts fs y.s x.s w6.drew (HS6.out.keep (grown_drew _)).inn
          unfold sdv at C7
          obtain ⟨d1, hd1⟩ : ∃ d1, d1 = depB R (pickF R fs) x y := ⟨_, rfl⟩
          have HD1 : Hid (d1 = depB R (pickF R fs) x y) := hd1
          rw [← hd1]
          clear hd1
          go_upto_region 12 with fail
          refine wp_region_held_drew (S := fun w' => w6.grownBy w' none) (by kernel_rfl) (grown_drew _) (fun hHeld => ?_)
          refine wpAnyH_take (i := 0) (v := ?_) rfl (by kernel_rfl) (by kernel_rfl) (by kernel_rfl) (fun _ _ _ h => h) (Or.inl ⟨by rfl, ?_⟩) (by assumption) ?_
          rotate_left 1
          · (intro w0 hSw; go_simp; try with_reducible rfl)
          simp only [List.getElem_toArray, List.getElem_cons_zero]
          go_frame
          refine wpAnyH_take (i := 1) (v := ?_) rfl (by kernel_rfl) (by kernel_rfl) (by kernel_rfl) (fun _ _ _ h => h) (Or.inl ⟨by rfl, ?_⟩) (by assumption) ?_
          rotate_left 1
          · (intro w0 hSw; go_simp; try with_reducible rfl)
          simp only [List.getElem_toArray, List.getElem_cons_zero, List.getElem_cons_succ]
          go_frame
          refine wpAnyH_take (i := 2) (v := ?_) rfl (by kernel_rfl) (by kernel_rfl) (by kernel_rfl) (fun _ _ _ h => h) (Or.inl ⟨by rfl, ?_⟩) (by assumption) ?_
          rotate_left 1
          · (intro w0 hSw; have t0 := hSw.cell t0 (by simp); go_simp; try with_reducible rfl)
          simp only [List.getElem_toArray, List.getElem_cons_zero, List.getElem_cons_succ]
          go_frame
          refine wpAnyH_take (i := 3) (v := ?_) rfl (by kernel_rfl) (by kernel_rfl) (by kernel_rfl) (fun _ _ _ h => h) (Or.inl ⟨by rfl, ?_⟩) (by assumption) ?_
          rotate_left 1
          · (intro w0 hSw; go_simp; try with_reducible rfl)
          simp only [List.getElem_toArray, List.getElem_cons_zero, List.getElem_cons_succ]
          go_frame
          refine wpAnyH_take (i := 4) (v := ?_) rfl (by kernel_rfl) (by kernel_rfl) (by kernel_rfl) (fun _ _ _ h => h) (Or.inl ⟨by rfl, ?_⟩) (by assumption) ?_
          rotate_left 1
          · (intro w0 hSw; have t1 := hSw.cell t1 (by simp); go_simp; try with_reducible rfl)
          simp only [List.getElem_toArray, List.getElem_cons_zero, List.getElem_cons_succ]
          go_frame
          refine wpAnyH_take (i := 5) (v := ?_) rfl (by kernel_rfl) (by kernel_rfl) (by kernel_rfl) (fun _ _ _ h => h) (Or.inl ⟨by rfl, ?_⟩) (by assumption) ?_
          rotate_left 1
          · (intro w0 hSw; go_simp; try with_reducible rfl)
          simp only [List.getElem_toArray, List.getElem_cons_zero, List.getElem_cons_succ]
          go_frame
          refine wpAnyH_take (i := 6) (v := ?_) rfl (by kernel_rfl) (by kernel_rfl) (by kernel_rfl) (fun _ _ _ h => h) (Or.inl ⟨by rfl, ?_⟩) (by assumption) ?_
          rotate_left 1
          · (intro w0 hSw; go_simp; try with_reducible rfl)
          simp only [List.getElem_toArray, List.getElem_cons_zero, List.getElem_cons_succ]
          go_frame
          refine wpAnyH_take (i := 7) (v := ?_) rfl (by kernel_rfl) (by kernel_rfl) (by kernel_rfl) (fun _ _ _ h => h) (Or.inl ⟨by rfl, ?_⟩) (by assumption) ?_
          rotate_left 1
          · (intro w0 hSw; go_simp; try with_reducible rfl)
          simp only [List.getElem_toArray, List.getElem_cons_zero, List.getElem_cons_succ]
          go_frame
          refine wpAnyH_take (i := 8) (v := ?_) rfl (by kernel_rfl) (by kernel_rfl) (by kernel_rfl) (fun _ _ _ h => h) (Or.inl ⟨by rfl, ?_⟩) (by assumption) ?_
          rotate_left 1
          · (intro w0 hSw; have y0 := hSw.cell y0 (by simp); have y1 := hSw.cell y1 (by simp); have y2 := hSw.cell y2 (by simp); have y3 := hSw.cell y3 (by simp); have y4 := hSw.cell y4 (by simp); have y5 := hSw.cell y5 (by simp); have y6 := hSw.cell y6 (by simp); have y7 := hSw.cell y7 (by simp); have y8 := hSw.cell y8 (by simp); have y9 := hSw.cell y9 (by simp); go_simp; try with_reducible rfl)
          simp only [List.getElem_toArray, List.getElem_cons_zero, List.getElem_cons_succ]
          go_frame
          refine wpAnyH_take (i := 9) (v := ?_) rfl (by kernel_rfl) (by kernel_rfl) (by kernel_rfl) (fun _ _ _ h => h) (Or.inl ⟨by rfl, ?_⟩) (by assumption) ?_
          rotate_left 1
          · (intro w0 hSw; go_simp; try with_reducible rfl)
          simp only [List.getElem_toArray, List.getElem_cons_zero, List.getElem_cons_succ]
          go_frame
          refine wpAnyH_take (i := 10) (v := ?_) rfl (by kernel_rfl) (by kernel_rfl) (by kernel_rfl) (fun _ _ _ h => h) (Or.inl ⟨by rfl, ?_⟩) (by assumption) ?_
          rotate_left 1
          · (intro w0 hSw; go_simp; try with_reducible rfl)
          simp only [List.getElem_toArray, List.getElem_cons_zero, List.getElem_cons_succ]
          go_frame
          refine wpAnyH_take (i := 11) (v := ?_) rfl (by kernel_rfl) (by kernel_rfl) (by kernel_rfl) (fun _ _ _ h => h) (Or.inl ⟨by rfl, ?_⟩) (by assumption) ?_
          rotate_left 1
          · (intro w0 hSw; go_simp; try with_reducible rfl)
          simp only [List.getElem_toArray, List.getElem_cons_zero, List.getElem_cons_succ]
          go_frame
          refine wpAnyH_take (i := 12) (v := ?_) rfl (by kernel_rfl) (by kernel_rfl) (by kernel_rfl) (fun _ _ _ h => h) (Or.inl ⟨by rfl, ?_⟩) (by assumption) ?_
          rotate_left 1
          · (intro w0 hSw; have x0 := hSw.cell x0 (by simp); have x1 := hSw.cell x1 (by simp); have x2 := hSw.cell x2 (by simp); have x3 := hSw.cell x3 (by simp); have x4 := hSw.cell x4 (by simp); have x5 := hSw.cell x5 (by simp); have x6 := hSw.cell x6 (by simp); have x7 := hSw.cell x7 (by simp); have x8 := hSw.cell x8 (by simp); have x9 := hSw.cell x9 (by simp); go_simp; try with_reducible rfl)
          simp only [List.getElem_toArray, List.getElem_cons_zero, List.getElem_cons_succ]
          go_frame
          refine wpAnyH_ready (rs := [13]) (by kernel_rfl) (by simp) ?_
          refine AllReadyH.cons rfl (fun K hK => ?_) AllReadyH.nil
          simp only [List.getElem_toArray, List.getElem_cons_zero, List.getElem_cons_succ]
          go_simp
          go_at_call 26
          refine (C7).mono ?_
          rintro e7 w7 q7
          obtain ⟨rfl, g7⟩ := HP.out.turn.dep q7
          have HG7 : Hid (w6.grownBy w7 none) := grown_trans (grown_drew _) g7
          clear C7 g7 q7
          refine hK.out _ _ (HG7.out) (fun hHeld2 => ?_)
          clear hK K
          (try go_frame)
          refine wpAnyH_take (i := 14) (v := ?_) rfl (by kernel_rfl) (by kernel_rfl) (by kernel_rfl) (fun _ _ _ h => h) (Or.inl ⟨by rfl, ?_⟩) (by assumption) ?_
          rotate_left 1
          · (intro w0 hSw; go_simp; try with_reducible rfl)
          simp only [List.getElem_toArray, List.getElem_cons_zero, List.getElem_cons_succ]
          go_frame
          refine wpAnyH_take (i := 15) (v := ?_) rfl (by kernel_rfl) (by kernel_rfl) (by kernel_rfl) (fun _ _ _ h => h) (Or.inl ⟨by rfl, ?_⟩) (by assumption) ?_
          rotate_left 1
          · (intro w0 hSw; go_simp; try with_reducible rfl)
          simp only [List.getElem_toArray, List.getElem_cons_zero, List.getElem_cons_succ]
          go_frame
          refine wpAnyH_take (i := 16) (v := ?_) rfl (by kernel_rfl) (by kernel_rfl) (by kernel_rfl) (fun _ _ _ h => h) (Or.inl ⟨by rfl, ?_⟩) (by assumption) ?_
          rotate_left 1
          · (intro w0 hSw; go_simp; try with_reducible rfl)
          simp only [List.getElem_toArray, List.getElem_cons_zero, List.getElem_cons_succ]
          go_frame
          refine wpAnyH_take (i := 17) (v := ?_) rfl (by kernel_rfl) (by kernel_rfl) (by kernel_rfl) (fun _ _ _ h => h) (Or.inl ⟨by rfl, ?_⟩) (by assumption) ?_
          rotate_left 1
          · (intro w0 hSw; go_simp; try with_reducible rfl)
          simp only [List.getElem_toArray, List.getElem_cons_zero, List.getElem_cons_succ]
          go_frame
          refine wpAnyH_take (i := 18) (v := ?_) rfl (by kernel_rfl) (by kernel_rfl) (by kernel_rfl) (fun _ _ _ h => h) (Or.inl ⟨by rfl, ?_⟩) (by assumption) ?_
          rotate_left 1
          · (intro w0 hSw; go_simp; try with_reducible rfl)
          simp only [List.getElem_toArray, List.getElem_cons_zero, List.getElem_cons_succ]
          go_frame
          refine wpAnyH_done (by kernel_rfl) ?_ _
          have HS7 : Hid (RaS w w7 b1 (.pointer (some ⟨nB, 0, none⟩)) (.slice pt ts.length ct) (.slice pf fs.length cf) 0 m cd ts fs) := HS6.out.keep HG7.out
          have HX7 : Hid (∀ w', w7.grownBy w' none → w'.rangeAt gE (oE + i * 10) (sdc x.s)) := fun w' g => HX6.out w' (grown_trans HG7.out g)
          have HY7 : Hid (∀ w', w7.grownBy w' none → w'.rangeAt gE (oE + k * 10) (sdc y.s)) := fun w' g => HY6.out w' (grown_trans HG7.out g)
          clear t0 t1 x0 x1 x2 x3 x4 x5 x6 x7 x8 x9 y0 y1 y2 y3 y4 y5 y6 y7 y8 y9 HS6 HG7 HX6 HY6 hHeld hHeld2
          obtain ⟨d2, hd2⟩ : ∃ d2, d2 = depB R (pickF R fs) y x := ⟨_, rfl⟩
          have HD2 : Hid (d2 = depB R (pickF R fs) y x) := hd2
          rw [← hd2]
          clear hd2
          cases d1 with
          | true =>
            go_wp2_with fail
            go_ret
            exact ⟨rfl, HS7.out.gr⟩
          | false =>
          cases d2 with
          | true =>
            go_wp2_with fail
            go_ret
            exact ⟨rfl, HS7.out.gr⟩
          | false =>
          obtain ⟨t0, t1⟩ := tab_box HS7.out.tab
          obtain ⟨x0, x1, x2, x3, x4, x5, x6, x7, x8, x9⟩ := sd_cells (HX7.out w7 (grown_refl _ _))
          have C8 := lApply_any _ _ _ 0 m cd ts fs x.s w7.drew (HS7.out.keep (grown_drew _)).inn
          unfold sdv at C8
          go_upto_region 17 with fail
          refine wp_region_held_drew (S := fun w' => w7.grownBy w' none) (by kernel_rfl) (grown_drew _) (fun hHeld => ?_)
          refine wpAnyH_take (i := 0) (v := ?_) rfl (by kernel_rfl) (by kernel_rfl) (by kernel_rfl) (fun _ _ _ h => h) (Or.inl ⟨by rfl, ?_⟩) (by assumption) ?_
          rotate_left 1
          · (intro w0 hSw; go_simp; try with_reducible rfl)
          simp only [List.getElem_toArray, List.getElem_cons_zero]
          go_frame
          refine wpAnyH_take (i := 1) (v := ?_) rfl (by kernel_rfl) (by kernel_rfl) (by kernel_rfl) (fun _ _ _ h => h) (Or.inl ⟨by rfl, ?_⟩) (by assumption) ?_
          rotate_left 1
          · (intro w0 hSw; go_simp; try with_reducible rfl)
          simp only [List.getElem_toArray, List.getElem_cons_zero, List.getElem_cons_succ]
          go_frame
          refine wpAnyH_take (i := 2) (v := ?_) rfl (by kernel_rfl) (by kernel_rfl) (by kernel_rfl) (fun _ _ _ h => h) (Or.inl ⟨by rfl, ?_⟩) (by assumption) ?_
          rotate_left 1
          · (intro w0 hSw; have t0 := hSw.cell t0 (by simp); go_simp; try with_reducible rfl)
          simp only [List.getElem_toArray, List.getElem_cons_zero, List.getElem_cons_succ]
          go_frame
          refine wpAnyH_take (i := 3) (v := ?_) rfl (by kernel_rfl) (by kernel_rfl) (by kernel_rfl) (fun _ _ _ h => h) (Or.inl ⟨by rfl, ?_⟩) (by assumption) ?_
          rotate_left 1
          · (intro w0 hSw; go_simp; try with_reducible rfl)
          simp only [List.getElem_toArray, List.getElem_cons_zero, List.getElem_cons_succ]
          go_frame
          refine wpAnyH_take (i := 4) (v := ?_) rfl (by kernel_rfl) (by kernel_rfl) (by kernel_rfl) (fun _ _ _ h => h) (Or.inl ⟨by rfl, ?_⟩) (by assumption) ?_
          rotate_left 1
          · (intro w0 hSw; have t1 := hSw.cell t1 (by simp); go_simp; try with_reducible rfl)
          simp only [List.getElem_toArray, List.getElem_cons_zero, List.getElem_cons_succ]
          go_frame
          refine wpAnyH_take (i := 5) (v := ?_) rfl (by kernel_rfl) (by kernel_rfl) (by kernel_rfl) (fun _ _ _ h => h) (Or.inl ⟨by rfl, ?_⟩) (by assumption) ?_
          rotate_left 1
          · (intro w0 hSw; go_simp; try with_reducible rfl)
          simp only [List.getElem_toArray, List.getElem_cons_zero, List.getElem_cons_succ]
          go_frame
          refine wpAnyH_take (i := 6) (v := ?_) rfl (by kernel_rfl) (by kernel_rfl) (by kernel_rfl) (fun _ _ _ h => h) (Or.inl ⟨by rfl, ?_⟩) (by assumption) ?_
          rotate_left 1
          · (intro w0 hSw; go_simp; try with_reducible rfl)
          simp only [List.getElem_toArray, List.getElem_cons_zero, List.getElem_cons_succ]
          go_frame
          refine wpAnyH_take (i := 7) (v := ?_) rfl (by kernel_rfl) (by kernel_rfl) (by kernel_rfl) (fun _ _ _ h => h) (Or.inl ⟨by rfl, ?_⟩) (by assumption) ?_
          rotate_left 1
          · (intro w0 hSw; go_simp; try with_reducible rfl)
          simp only [List.getElem_toArray, List.getElem_cons_zero, List.getElem_cons_succ]
          go_frame
          refine wpAnyH_take (i := 8) (v := ?_) rfl (by kernel_rfl) (by kernel_rfl) (by kernel_rfl) (fun _ _ _ h => h) (Or.inl ⟨by rfl, ?_⟩) (by assumption) ?_
          rotate_left 1
          · (intro w0 hSw; have x0 := hSw.cell x0 (by simp); have x1 := hSw.cell x1 (by simp); have x2 := hSw.cell x2 (by simp); have x3 := hSw.cell x3 (by simp); have x4 := hSw.cell x4 (by simp); have x5 := hSw.cell x5 (by simp); have x6 := hSw.cell x6 (by simp); have x7 := hSw.cell x7 (by simp); have x8 := hSw.cell x8 (by simp); have x9 := hSw.cell x9 (by simp); go_simp; try with_reducible rfl)
          simp only [List.getElem_toArray, List.getElem_cons_zero, List.getElem_cons_succ]
          go_frame
          refine wpAnyH_ready (rs := [9]) (by kernel_rfl) (by simp) ?_
          refine AllReadyH.cons rfl (fun K hK => ?_) AllReadyH.nil
          simp only [List.getElem_toArray, List.getElem_cons_zero, List.getElem_cons_succ]
          go_simp
          go_at_call 18
          refine (C8).mono ?_
          rintro e8 w8 q8
          obtain ⟨pA8, cA8, rfl, g8, oA8⟩ := HP.out.tab.app HP.out.ia q8
          have HG8 : Hid (w7.grownBy w8 none) := grown_trans (grown_drew _) g8
          have HOA8 : Hid (feR.At w8 (.slice pA8 _ cA8) _) := oA8.at
          clear C8 g8 q8 oA8
          refine hK.out _ _ (HG8.out) (fun hHeld2 => ?_)
          clear hK K
          (try go_frame)
          refine wpAnyH_take (i := 10) (v := ?_) rfl (by kernel_rfl) (by kernel_rfl) (by kernel_rfl) (fun _ _ _ h => h) (Or.inl ⟨by rfl, ?_⟩) (by assumption) ?_
          rotate_left 1
          · (intro w0 hSw; go_simp; try with_reducible rfl)
          simp only [List.getElem_toArray, List.getElem_cons_zero, List.getElem_cons_succ]
          go_frame
          refine wpAnyH_take (i := 11) (v := ?_) rfl (by kernel_rfl) (by kernel_rfl) (by kernel_rfl) (fun _ _ _ h => h) (Or.inl ⟨by rfl, ?_⟩) (by assumption) ?_
          rotate_left 1
          · (intro w0 hSw; go_simp; try with_reducible rfl)
          simp only [List.getElem_toArray, List.getElem_cons_zero, List.getElem_cons_succ]
          go_frame
          refine wpAnyH_take (i := 12) (v := ?_) rfl (by kernel_rfl) (by kernel_rfl) (by kernel_rfl) (fun _ _ _ h => h) (Or.inl ⟨by rfl, ?_⟩) (by assumption) ?_
          rotate_left 1
          · (intro w0 hSw; go_simp; try with_reducible rfl)
          simp only [List.getElem_toArray, List.getElem_cons_zero, List.getElem_cons_succ]
          go_frame
          refine wpAnyH_take (i := 13) (v := ?_) rfl (by kernel_rfl) (by kernel_rfl) (by kernel_rfl) (fun _ _ _ h => h) (Or.inl ⟨by rfl, ?_⟩) (by assumption) ?_
          rotate_left 1
          · (intro w0 hSw; go_simp; try with_reducible rfl)
          simp only [List.getElem_toArray, List.getElem_cons_zero, List.getElem_cons_succ]
          go_frame
          refine wpAnyH_take (i := 14) (v := ?_) rfl (by kernel_rfl) (by kernel_rfl) (by kernel_rfl) (fun _ _ _ h => h) (Or.inl ⟨by rfl, ?_⟩) (by assumption) ?_
          rotate_left 1
          · (intro w0 hSw; go_simp; try with_reducible rfl)
          simp only [List.getElem_toArray, List.getElem_cons_zero, List.getElem_cons_succ]
          go_frame
          refine wpAnyH_done (by kernel_rfl) ?_ _
          have HS8 : Hid (RaS w w8 b1 (.pointer (some ⟨nB, 0, none⟩)) (.slice pt ts.length ct) (.slice pf fs.length cf) 0 m cd ts fs) := HS7.out.keep HG8.out
          have HX8 : Hid (∀ w', w8.grownBy w' none → w'.rangeAt gE (oE + i * 10) (sdc x.s)) := fun w' g => HX7.out w' (grown_trans HG8.out g)
          have HY8 : Hid (∀ w', w8.grownBy w' none → w'.rangeAt gE (oE + k * 10) (sdc y.s)) := fun w' g => HY7.out w' (grown_trans HG8.out g)
          clear t0 t1 x0 x1 x2 x3 x4 x5 x6 x7 x8 x9 HS7 HX7 HY7 hHeld hHeld2
          clear HG8
          obtain ⟨t0, t1⟩ := tab_box HS8.out.tab
          obtain ⟨y0, y1, y2, y3, y4, y5, y6, y7, y8, y9⟩ := sd_cells (HY8.out w8 (grown_refl _ _))
          have C9 := lApply_any _ _ _ 0 m cd ts _ y.s w8.drew ((HS8.out.keep (grown_drew _)).inn.feat (HOA8.out.keep (grown_drew _)) (amgL_len _ _ _))
          unfold sdv at C9
          go_upto_region 18 with fail
          refine wp_region_held_drew (S := fun w' => w8.grownBy w' none) (by kernel_rfl) (grown_drew _) (fun hHeld => ?_)
          refine wpAnyH_take (i := 0) (v := ?_) rfl (by kernel_rfl) (by kernel_rfl) (by kernel_rfl) (fun _ _ _ h => h) (Or.inl ⟨by rfl, ?_⟩) (by assumption) ?_
          rotate_left 1
          · (intro w0 hSw; go_simp; try with_reducible rfl)
          simp only [List.getElem_toArray, List.getElem_cons_zero]
          go_frame
          refine wpAnyH_take (i := 1) (v := ?_) rfl (by kernel_rfl) (by kernel_rfl) (by kernel_rfl) (fun _ _ _ h => h) (Or.inl ⟨by rfl, ?_⟩) (by assumption) ?_
          rotate_left 1
          · (intro w0 hSw; go_simp; try with_reducible rfl)
          simp only [List.getElem_toArray, List.getElem_cons_zero, List.getElem_cons_succ]
          go_frame
          refine wpAnyH_take (i := 2) (v := ?_) rfl (by kernel_rfl) (by kernel_rfl) (by kernel_rfl) (fun _ _ _ h => h) (Or.inl ⟨by rfl, ?_⟩) (by assumption) ?_
          rotate_left 1
          · (intro w0 hSw; have t0 := hSw.cell t0 (by simp); go_simp; try with_reducible rfl)
          simp only [List.getElem_toArray, List.getElem_cons_zero, List.getElem_cons_succ]
          go_frame
          refine wpAnyH_take (i := 3) (v := ?_) rfl (by kernel_rfl) (by kernel_rfl) (by kernel_rfl) (fun _ _ _ h => h) (Or.inl ⟨by rfl, ?_⟩) (by assumption) ?_
          rotate_left 1
          · (intro w0 hSw; go_simp; try with_reducible rfl)
          simp only [List.getElem_toArray, List.getElem_cons_zero, List.getElem_cons_succ]
          go_frame
          refine wpAnyH_take (i := 4) (v := ?_) rfl (by kernel_rfl) (by kernel_rfl) (by kernel_rfl) (fun _ _ _ h => h) (Or.inl ⟨by rfl, ?_⟩) (by assumption) ?_
          rotate_left 1
          · (intro w0 hSw; go_simp; try with_reducible rfl)
          simp only [List.getElem_toArray, List.getElem_cons_zero, List.getElem_cons_succ]
          go_frame
          refine wpAnyH_take (i := 5) (v := ?_) rfl (by kernel_rfl) (by kernel_rfl) (by kernel_rfl) (fun _ _ _ h => h) (Or.inl ⟨by rfl, ?_⟩) (by assumption) ?_
          rotate_left 1
          · (intro w0 hSw; go_simp; try with_reducible rfl)
          simp only [List.getElem_toArray, List.getElem_cons_zero, List.getElem_cons_succ]
          go_frame
          refine wpAnyH_take (i := 6) (v := ?_) rfl (by kernel_rfl) (by kernel_rfl) (by kernel_rfl) (fun _ _ _ h => h) (Or.inl ⟨by rfl, ?_⟩) (by assumption) ?_
          rotate_left 1
          · (intro w0 hSw; go_simp; try with_reducible rfl)
          simp only [List.getElem_toArray, List.getElem_cons_zero, List.getElem_cons_succ]
          go_frame
          refine wpAnyH_take (i := 7) (v := ?_) rfl (by kernel_rfl) (by kernel_rfl) (by kernel_rfl) (fun _ _ _ h => h) (Or.inl ⟨by rfl, ?_⟩) (by assumption) ?_
          rotate_left 1
          · (intro w0 hSw; have y0 := hSw.cell y0 (by simp); have y1 := hSw.cell y1 (by simp); have y2 := hSw.cell y2 (by simp); have y3 := hSw.cell y3 (by simp); have y4 := hSw.cell y4 (by simp); have y5 := hSw.cell y5 (by simp); have y6 := hSw.cell y6 (by simp); have y7 := hSw.cell y7 (by simp); have y8 := hSw.cell y8 (by simp); have y9 := hSw.cell y9 (by simp); go_simp; try with_reducible rfl)
          simp only [List.getElem_toArray, List.getElem_cons_zero, List.getElem_cons_succ]
          go_frame
          refine wpAnyH_ready (rs := [8]) (by kernel_rfl) (by simp) ?_
          refine AllReadyH.cons rfl (fun K hK => ?_) AllReadyH.nil
          simp only [List.getElem_toArray, List.getElem_cons_zero, List.getElem_cons_succ]
          go_simp
          go_at_call 18
          refine (C9).mono ?_
          rintro e9 w9 q9
          obtain ⟨pA9, cA9, rfl, g9, oA9⟩ := HP.out.next.1.app HP.out.ib q9
          have HG9 : Hid (w8.grownBy w9 none) := grown_trans (grown_drew _) g9
          have HOA9 : Hid (feR.At w9 (.slice pA9 _ cA9) _) := oA9.at
          clear C9 g9 q9 oA9
          refine hK.out _ _ (HG9.out) (fun hHeld2 => ?_)
          clear hK K
          (try go_frame)
          refine wpAnyH_take (i := 9) (v := ?_) rfl (by kernel_rfl) (by kernel_rfl) (by kernel_rfl) (fun _ _ _ h => h) (Or.inl ⟨by rfl, ?_⟩) (by assumption) ?_
          rotate_left 1
          · (intro w0 hSw; go_simp; try with_reducible rfl)
          simp only [List.getElem_toArray, List.getElem_cons_zero, List.getElem_cons_succ]
          go_frame
          refine wpAnyH_take (i := 10) (v := ?_) rfl (by kernel_rfl) (by kernel_rfl) (by kernel_rfl) (fun _ _ _ h => h) (Or.inl ⟨by rfl, ?_⟩) (by assumption) ?_
          rotate_left 1
          · (intro w0 hSw; go_simp; try with_reducible rfl)
          simp only [List.getElem_toArray, List.getElem_cons_zero, List.getElem_cons_succ]
          go_frame
          refine wpAnyH_take (i := 11) (v := ?_) rfl (by kernel_rfl) (by kernel_rfl) (by kernel_rfl) (fun _ _ _ h => h) (Or.inl ⟨by rfl, ?_⟩) (by assumption) ?_
          rotate_left 1
          · (intro w0 hSw; go_simp; try with_reducible rfl)
          simp only [List.getElem_toArray, List.getElem_cons_zero, List.getElem_cons_succ]
          go_frame
          refine wpAnyH_take (i := 12) (v := ?_) rfl (by kernel_rfl) (by kernel_rfl) (by kernel_rfl) (fun _ _ _ h => h) (Or.inl ⟨by rfl, ?_⟩) (by assumption) ?_
          rotate_left 1
          · (intro w0 hSw; go_simp; try with_reducible rfl)
          simp only [List.getElem_toArray, List.getElem_cons_zero, List.getElem_cons_succ]
          go_frame
          refine wpAnyH_done (by kernel_rfl) ?_ _
          have HS9 : Hid (RaS w w9 b1 (.pointer (some ⟨nB, 0, none⟩)) (.slice pt ts.length ct) (.slice pf fs.length cf) 0 m cd ts fs) := HS8.out.keep HG9.out
          have HX9 : Hid (∀ w', w9.grownBy w' none → w'.rangeAt gE (oE + i * 10) (sdc x.s)) := fun w' g => HX8.out w' (grown_trans HG9.out g)
          have HY9 : Hid (∀ w', w9.grownBy w' none → w'.rangeAt gE (oE + k * 10) (sdc y.s)) := fun w' g => HY8.out w' (grown_trans HG9.out g)
          clear t0 t1 y0 y1 y2 y3 y4 y5 y6 y7 y8 y9 HS8 HX8 HY8 hHeld hHeld2
          clear HOA8 HG9
          obtain ⟨t0, t1⟩ := tab_box HS9.out.tab
          obtain ⟨y0, y1, y2, y3, y4, y5, y6, y7, y8, y9⟩ := sd_cells (HY9.out w9 (grown_refl _ _))
          have C10 := lApply_any _ _ _ 0 m cd ts fs y.s w9.drew (HS9.out.keep (grown_drew _)).inn
          unfold sdv at C10
          go_upto_region 19 with fail
          refine wp_region_held_drew (S := fun w' => w9.grownBy w' none) (by kernel_rfl) (grown_drew _) (fun hHeld => ?_)
          refine wpAnyH_take (i := 0) (v := ?_) rfl (by kernel_rfl) (by kernel_rfl) (by kernel_rfl) (fun _ _ _ h => h) (Or.inl ⟨by rfl, ?_⟩) (by assumption) ?_
          rotate_left 1
          · (intro w0 hSw; go_simp; try with_reducible rfl)
          simp only [List.getElem_toArray, List.getElem_cons_zero]
          go_frame
          refine wpAnyH_take (i := 1) (v := ?_) rfl (by kernel_rfl) (by kernel_rfl) (by kernel_rfl) (fun _ _ _ h => h) (Or.inl ⟨by rfl, ?_⟩) (by assumption) ?_
          rotate_left 1
          · (intro w0 hSw; go_simp; try with_reducible rfl)
          simp only [List.getElem_toArray, List.getElem_cons_zero, List.getElem_cons_succ]
          go_frame
          refine wpAnyH_take (i := 2) (v := ?_) rfl (by kernel_rfl) (by kernel_rfl) (by kernel_rfl) (fun _ _ _ h => h) (Or.inl ⟨by rfl, ?_⟩) (by assumption) ?_
          rotate_left 1
          · (intro w0 hSw; have t0 := hSw.cell t0 (by simp); go_simp; try with_reducible rfl)
          simp only [List.getElem_toArray, List.getElem_cons_zero, List.getElem_cons_succ]
          go_frame
          refine wpAnyH_take (i := 3) (v := ?_) rfl (by kernel_rfl) (by kernel_rfl) (by kernel_rfl) (fun _ _ _ h => h) (Or.inl ⟨by rfl, ?_⟩) (by assumption) ?_
          rotate_left 1
          · (intro w0 hSw; go_simp; try with_reducible rfl)
          simp only [List.getElem_toArray, List.getElem_cons_zero, List.getElem_cons_succ]
          go_frame
          refine wpAnyH_take (i := 4) (v := ?_) rfl (by kernel_rfl) (by kernel_rfl) (by kernel_rfl) (fun _ _ _ h => h) (Or.inl ⟨by rfl, ?_⟩) (by assumption) ?_
          rotate_left 1
          · (intro w0 hSw; have t1 := hSw.cell t1 (by simp); go_simp; try with_reducible rfl)
          simp only [List.getElem_toArray, List.getElem_cons_zero, List.getElem_cons_succ]
          go_frame
          refine wpAnyH_take (i := 5) (v := ?_) rfl (by kernel_rfl) (by kernel_rfl) (by kernel_rfl) (fun _ _ _ h => h) (Or.inl ⟨by rfl, ?_⟩) (by assumption) ?_
          rotate_left 1
          · (intro w0 hSw; go_simp; try with_reducible rfl)
          simp only [List.getElem_toArray, List.getElem_cons_zero, List.getElem_cons_succ]
          go_frame
          refine wpAnyH_take (i := 6) (v := ?_) rfl (by kernel_rfl) (by kernel_rfl) (by kernel_rfl) (fun _ _ _ h => h) (Or.inl ⟨by rfl, ?_⟩) (by assumption) ?_
          rotate_left 1
          · (intro w0 hSw; go_simp; try with_reducible rfl)
          simp only [List.getElem_toArray, List.getElem_cons_zero, List.getElem_cons_succ]
          go_frame
          refine wpAnyH_take (i := 7) (v := ?_) rfl (by kernel_rfl) (by kernel_rfl) (by kernel_rfl) (fun _ _ _ h => h) (Or.inl ⟨by rfl, ?_⟩) (by assumption) ?_
          rotate_left 1
          · (intro w0 hSw; go_simp; try with_reducible rfl)
          simp only [List.getElem_toArray, List.getElem_cons_zero, List.getElem_cons_succ]
          go_frame
          refine wpAnyH_take (i := 8) (v := ?_) rfl (by kernel_rfl) (by kernel_rfl) (by kernel_rfl) (fun _ _ _ h => h) (Or.inl ⟨by rfl, ?_⟩) (by assumption) ?_
          rotate_left 1
          · (intro w0 hSw; have y0 := hSw.cell y0 (by simp); have y1 := hSw.cell y1 (by simp); have y2 := hSw.cell y2 (by simp); have y3 := hSw.cell y3 (by simp); have y4 := hSw.cell y4 (by simp); have y5 := hSw.cell y5 (by simp); have y6 := hSw.cell y6 (by simp); have y7 := hSw.cell y7 (by simp); have y8 := hSw.cell y8 (by simp); have y9 := hSw.cell y9 (by simp); go_simp; try with_reducible rfl)
          simp only [List.getElem_toArray, List.getElem_cons_zero, List.getElem_cons_succ]
          go_frame
          refine wpAnyH_ready (rs := [9]) (by kernel_rfl) (by simp) ?_
          refine AllReadyH.cons rfl (fun K hK => ?_) AllReadyH.nil
          simp only [List.getElem_toArray, List.getElem_cons_zero, List.getElem_cons_succ]
          go_simp
          go_at_call 18
          refine (C10).mono ?_
          rintro e10 w10 q10
          obtain ⟨pA10, cA10, rfl, g10, oA10⟩ := HP.out.tab.app HP.out.ib q10
          have HG10 : Hid (w9.grownBy w10 none) := grown_trans (grown_drew _) g10
          have HOA10 : Hid (feR.At w10 (.slice pA10 _ cA10) _) := oA10.at
          clear C10 g10 q10 oA10
          refine hK.out _ _ (HG10.out) (fun hHeld2 => ?_)
          clear hK K
          (try go_frame)
          refine wpAnyH_take (i := 10) (v := ?_) rfl (by kernel_rfl) (by kernel_rfl) (by kernel_rfl) (fun _ _ _ h => h) (Or.inl ⟨by rfl, ?_⟩) (by assumption) ?_
          rotate_left 1
          · (intro w0 hSw; go_simp; try with_reducible rfl)
          simp only [List.getElem_toArray, List.getElem_cons_zero, List.getElem_cons_succ]
          go_frame
          refine wpAnyH_take (i := 11) (v := ?_) rfl (by kernel_rfl) (by kernel_rfl) (by kernel_rfl) (fun _ _ _ h => h) (Or.inl ⟨by rfl, ?_⟩) (by assumption) ?_
          rotate_left 1
          · (intro w0 hSw; go_simp; try with_reducible rfl)
          simp only [List.getElem_toArray, List.getElem_cons_zero, List.getElem_cons_succ]
          go_frame
          refine wpAnyH_take (i := 12) (v := ?_) rfl (by kernel_rfl) (by kernel_rfl) (by kernel_rfl) (fun _ _ _ h => h) (Or.inl ⟨by rfl, ?_⟩) (by assumption) ?_
          rotate_left 1
          · (intro w0 hSw; go_simp; try with_reducible rfl)
          simp only [List.getElem_toArray, List.getElem_cons_zero, List.getElem_cons_succ]
          go_frame
          refine wpAnyH_take (i := 13) (v := ?_) rfl (by kernel_rfl) (by kernel_rfl) (by kernel_rfl) (fun _ _ _ h => h) (Or.inl ⟨by rfl, ?_⟩) (by assumption) ?_
          rotate_left 1
          · (intro w0 hSw; go_simp; try with_reducible rfl)
          simp only [List.getElem_toArray, List.getElem_cons_zero, List.getElem_cons_succ]
          go_frame
          refine wpAnyH_take (i := 14) (v := ?_) rfl (by kernel_rfl) (by kernel_rfl) (by kernel_rfl) (fun _ _ _ h => h) (Or.inl ⟨by rfl, ?_⟩) (by assumption) ?_
          rotate_left 1
          · (intro w0 hSw; go_simp; try with_reducible rfl)
          simp only [List.getElem_toArray, List.getElem_cons_zero, List.getElem_cons_succ]
          go_frame
          refine wpAnyH_done (by kernel_rfl) ?_ _
          have HS10 : Hid (RaS w w10 b1 (.pointer (some ⟨nB, 0, none⟩)) (.slice pt ts.length ct) (.slice pf fs.length cf) 0 m cd ts fs) := HS9.out.keep HG10.out
          have HX10 : Hid (∀ w', w10.grownBy w' none → w'.rangeAt gE (oE + i * 10) (sdc x.s)) := fun w' g => HX9.out w' (grown_trans HG10.out g)
          have HY10 : Hid (∀ w', w10.grownBy w' none → w'.rangeAt gE (oE + k * 10) (sdc y.s)) := fun w' g => HY9.out w' (grown_trans HG10.out g)
          clear t0 t1 y0 y1 y2 y3 y4 y5 y6 y7 y8 y9 HS9 HX9 HY9 hHeld hHeld2
          have HB10 : Hid (feR.At w10 (.slice pA9 _ cA9) _) := HOA9.out.keep HG10.out
          clear HG10 HOA9
          obtain ⟨t0, t1⟩ := tab_box HS10.out.tab
          obtain ⟨x0, x1, x2, x3, x4, x5, x6, x7, x8, x9⟩ := sd_cells (HX10.out w10 (grown_refl _ _))
          have C11 := lApply_any _ _ _ 0 m cd ts _ x.s w10.drew ((HS10.out.keep (grown_drew _)).inn.feat (HOA10.out.keep (grown_drew _)) (amgL_len _ _ _))
          unfold sdv at C11
          go_upto_region 20 with fail
          refine wp_region_held_drew (S := fun w' => w10.grownBy w' none) (by kernel_rfl) (grown_drew _) (fun hHeld => ?_)
          refine wpAnyH_take (i := 0) (v := ?_) rfl (by kernel_rfl) (by kernel_rfl) (by kernel_rfl) (fun _ _ _ h => h) (Or.inl ⟨by rfl, ?_⟩) (by assumption) ?_
          rotate_left 1
          · (intro w0 hSw; go_simp; try with_reducible rfl)
          simp only [List.getElem_toArray, List.getElem_cons_zero]
          go_frame
          refine wpAnyH_take (i := 1) (v := ?_) rfl (by kernel_rfl) (by kernel_rfl) (by kernel_rfl) (fun _ _ _ h => h) (Or.inl ⟨by rfl, ?_⟩) (by assumption) ?_
          rotate_left 1
          · (intro w0 hSw; go_simp; try with_reducible rfl)
          simp only [List.getElem_toArray, List.getElem_cons_zero, List.getElem_cons_succ]
          go_frame
          refine wpAnyH_take (i := 2) (v := ?_) rfl (by kernel_rfl) (by kernel_rfl) (by kernel_rfl) (fun _ _ _ h => h) (Or.inl ⟨by rfl, ?_⟩) (by assumption) ?_
          rotate_left 1
          · (intro w0 hSw; have t0 := hSw.cell t0 (by simp); go_simp; try with_reducible rfl)
          simp only [List.getElem_toArray, List.getElem_cons_zero, List.getElem_cons_succ]
          go_frame
          refine wpAnyH_take (i := 3) (v := ?_) rfl (by kernel_rfl) (by kernel_rfl) (by kernel_rfl) (fun _ _ _ h => h) (Or.inl ⟨by rfl, ?_⟩) (by assumption) ?_
          rotate_left 1
          · (intro w0 hSw; go_simp; try with_reducible rfl)
          simp only [List.getElem_toArray, List.getElem_cons_zero, List.getElem_cons_succ]
          go_frame
          refine wpAnyH_take (i := 4) (v := ?_) rfl (by kernel_rfl) (by kernel_rfl) (by kernel_rfl) (fun _ _ _ h => h) (Or.inl ⟨by rfl, ?_⟩) (by assumption) ?_
          rotate_left 1
          · (intro w0 hSw; go_simp; try with_reducible rfl)
          simp only [List.getElem_toArray, List.getElem_cons_zero, List.getElem_cons_succ]
          go_frame
          refine wpAnyH_take (i := 5) (v := ?_) rfl (by kernel_rfl) (by kernel_rfl) (by kernel_rfl) (fun _ _ _ h => h) (Or.inl ⟨by rfl, ?_⟩) (by assumption) ?_
          rotate_left 1
          · (intro w0 hSw; go_simp; try with_reducible rfl)
          simp only [List.getElem_toArray, List.getElem_cons_zero, List.getElem_cons_succ]
          go_frame
          refine wpAnyH_take (i := 6) (v := ?_) rfl (by kernel_rfl) (by kernel_rfl) (by kernel_rfl) (fun _ _ _ h => h) (Or.inl ⟨by rfl, ?_⟩) (by assumption) ?_
          rotate_left 1
          · (intro w0 hSw; go_simp; try with_reducible rfl)
          simp only [List.getElem_toArray, List.getElem_cons_zero, List.getElem_cons_succ]
          go_frame
          refine wpAnyH_take (i := 7) (v := ?_) rfl (by kernel_rfl) (by kernel_rfl) (by kernel_rfl) (fun _ _ _ h => h) (Or.inl ⟨by rfl, ?_⟩) (by assumption) ?_
          rotate_left 1
          · (intro w0 hSw; have x0 := hSw.cell x0 (by simp); have x1 := hSw.cell x1 (by simp); have x2 := hSw.cell x2 (by simp); have x3 := hSw.cell x3 (by simp); have x4 := hSw.cell x4 (by simp); have x5 := hSw.cell x5 (by simp); have x6 := hSw.cell x6 (by simp); have x7 := hSw.cell x7 (by simp); have x8 := hSw.cell x8 (by simp); have x9 := hSw.cell x9 (by simp); go_simp; try with_reducible rfl)
          simp only [List.getElem_toArray, List.getElem_cons_zero, List.getElem_cons_succ]
          go_frame
          refine wpAnyH_ready (rs := [8]) (by kernel_rfl) (by simp) ?_
          refine AllReadyH.cons rfl (fun K hK => ?_) AllReadyH.nil
          simp only [List.getElem_toArray, List.getElem_cons_zero, List.getElem_cons_succ]
          go_simp
          go_at_call 18
          refine (C11).mono ?_
          rintro e11 w11 q11
          obtain ⟨pA11, cA11, rfl, g11, oA11⟩ := HP.out.turn.next.1.app HP.out.ia q11
          have HG11 : Hid (w10.grownBy w11 none) := grown_trans (grown_drew _) g11
          have HOA11 : Hid (feR.At w11 (.slice pA11 _ cA11) _) := oA11.at
          clear C11 g11 q11 oA11
          refine hK.out _ _ (HG11.out) (fun hHeld2 => ?_)
          clear hK K
          (try go_frame)
          refine wpAnyH_take (i := 9) (v := ?_) rfl (by kernel_rfl) (by kernel_rfl) (by kernel_rfl) (fun _ _ _ h => h) (Or.inl ⟨by rfl, ?_⟩) (by assumption) ?_
          rotate_left 1
          · (intro w0 hSw; go_simp; try with_reducible rfl)
          simp only [List.getElem_toArray, List.getElem_cons_zero, List.getElem_cons_succ]
          go_frame
          refine wpAnyH_take (i := 10) (v := ?_) rfl (by kernel_rfl) (by kernel_rfl) (by kernel_rfl) (fun _ _ _ h => h) (Or.inl ⟨by rfl, ?_⟩) (by assumption) ?_
          rotate_left 1
          · (intro w0 hSw; go_simp; try with_reducible rfl)
          simp only [List.getElem_toArray, List.getElem_cons_zero, List.getElem_cons_succ]
          go_frame
          refine wpAnyH_take (i := 11) (v := ?_) rfl (by kernel_rfl) (by kernel_rfl) (by kernel_rfl) (fun _ _ _ h => h) (Or.inl ⟨by rfl, ?_⟩) (by assumption) ?_
          rotate_left 1
          · (intro w0 hSw; go_simp; try with_reducible rfl)
          simp only [List.getElem_toArray, List.getElem_cons_zero, List.getElem_cons_succ]
          go_frame
          refine wpAnyH_take (i := 12) (v := ?_) rfl (by kernel_rfl) (by kernel_rfl) (by kernel_rfl) (fun _ _ _ h => h) (Or.inl ⟨by rfl, ?_⟩) (by assumption) ?_
          rotate_left 1
          · (intro w0 hSw; go_simp; try with_reducible rfl)
          simp only [List.getElem_toArray, List.getElem_cons_zero, List.getElem_cons_succ]
          go_frame
          refine wpAnyH_done (by kernel_rfl) ?_ _
          have HS11 : Hid (RaS w w11 b1 (.pointer (some ⟨nB, 0, none⟩)) (.slice pt ts.length ct) (.slice pf fs.length cf) 0 m cd ts fs) := HS10.out.keep HG11.out
          have HX11 : Hid (∀ w', w11.grownBy w' none → w'.rangeAt gE (oE + i * 10) (sdc x.s)) := fun w' g => HX10.out w' (grown_trans HG11.out g)
          have HY11 : Hid (∀ w', w11.grownBy w' none → w'.rangeAt gE (oE + k * 10) (sdc y.s)) := fun w' g => HY10.out w' (grown_trans HG11.out g)
          clear t0 t1 x0 x1 x2 x3 x4 x5 x6 x7 x8 x9 HS10 HX10 HY10 hHeld hHeld2
          have HB11 : Hid (feR.At w11 (.slice pA9 _ cA9) _) := HB10.out.keep HG11.out
          clear HG11 HOA10 HB10
          obtain ⟨A, hA⟩ : ∃ A, A = amgL (amgL fs R (applyL R (pickF R fs) x)) R (applyL R (pickF R (amgL fs R (applyL R (pickF R fs) x))) y) := ⟨_, rfl⟩
          have hA2 : amgL (amgL fs R (applyL R (pickF R fs) y)) R (applyL R (pickF R (amgL fs R (applyL R (pickF R fs) y))) x) = A := by rw [hA]; exact (HP.out.same HD1.out.symm HD2.out.symm).symm
          have hAl : A.length = fs.length := by rw [hA, amgL_len, amgL_len]
          rw [hA2] at HOA11 ⊢
          rw [← hA] at HB11 ⊢
          have C12 := sameFe_eq _ _ A w11 HB11.out HOA11.out (by have := HH.out.2.2.2; omega)
          have hl1 : ((A.length : Int) == (fs.length : Int)) = true := by rw [hAl]; simp
          obtain ⟨t0, t1⟩ := tab_box HS11.out.tab
          clear hA hA2 hAl
          go_wp2_with fail
          refine C12.mono ?_
          rintro e12 w12 ⟨rfl, g12⟩
          have HG12 : Hid (w.grownBy w12 none) := grown_trans HS11.out.gr g12
          clear C12 g12 t0 t1
          go_wp2_with fail
          go_ret
          exact ⟨rfl, HG12.out⟩
    · have hq1 : (q != 0) = true := by simpa using hq0
      clear hq0 hq h4 z4
      go_wp2_with fail
      go_ret
      exact ⟨rfl, HS4.out.gr⟩
end Go.Proofs.YtblkghfnjahkeaaGreat
