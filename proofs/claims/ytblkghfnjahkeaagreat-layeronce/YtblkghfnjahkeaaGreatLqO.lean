/-
  LayerOnce: each effect of a layer once, as it comes.
-/
import Derived.Test.YtblkghfnjahkeaaGreatLqG
namespace Go.Proofs.YtblkghfnjahkeaaGreat
open Go.RowKit Go.Shelf

theorem map_erase {α β : Type} (f : α → β) (l : List α) (p : Nat) : (l.eraseIdx p).map f = (l.map f).eraseIdx p := by rw [erase_td, erase_td, List.map_append, List.map_take, List.map_drop]
/-- What stands at a round. -/
structure OcS (w w5 wr : World) (b1 : Nat) (bv vt vf v16 v11 : Value) (m : Int) (cd : Int → Hd × List Pt) (ts : List Th) (fs : List Fe) (R : List Rw) (k : Int) (X : List Fe) (L acc : List Se) : Prop where
  ra : RaS w wr b1 bv vt vf 0 m cd ts fs
  xs : feR.At wr v16 X
  lf : sdR.Own 35 wr 0 v11 (L.map Se.s)
  gr : w5.grownBy wr none
  on : Onc m cd ts fs R k X L acc
theorem OcS.keep {w w5 wr wr' : World} {b1 : Nat} {bv vt vf v16 v11 : Value} {m : Int} {cd : Int → Hd × List Pt} {ts : List Th} {fs : List Fe} {R : List Rw} {k : Int} {X : List Fe} {L acc : List Se} (h : OcS w w5 wr b1 bv vt vf v16 v11 m cd ts fs R k X L acc) (g : wr.grownBy wr' none) : OcS w w5 wr' b1 bv vt vf v16 v11 m cd ts fs R k X L acc := ⟨h.ra.keep g, h.xs.keep g, own_grow h.lf g, grown_trans h.gr g, h.on⟩
theorem OcS.inn {w w5 wr : World} {b1 : Nat} {bv vt vf v16 v11 : Value} {m : Int} {cd : Int → Hd × List Pt} {ts : List Th} {fs : List Fe} {R : List Rw} {k : Int} {X : List Fe} {L acc : List Se} (h : OcS w w5 wr b1 bv vt vf v16 v11 m cd ts fs R k X L acc) : LIn wr bv vt v16 0 m cd ts X := h.ra.inn.feat h.xs h.on.len
theorem OcS.left {w w5 wr : World} {b1 : Nat} {bv vt vf v16 v11 : Value} {m : Int} {cd : Int → Hd × List Pt} {ts : List Th} {fs : List Fe} {R : List Rw} {k : Int} {X : List Fe} {L acc : List Se} (h : OcS w w5 wr b1 bv vt vf v16 v11 m cd ts fs R k X L acc) (h0 : 0 < L.length) : ∃ g c, v11 = .slice (some ⟨g, 0, none⟩) L.length c ∧ ∀ wr', wr.grownBy wr' none → ∀ i, i < L.length → wr'.rangeAt g (i * 10) (sdc (L.getD i Se.none).s) := by
  obtain ⟨g, c, e, _⟩ := own_cell h.lf (by rw [List.length_map]; exact h0)
  rw [List.length_map] at e
  refine ⟨g, c, e, fun wr' gr i hi => ?_⟩
  obtain ⟨g', o', c', e', q⟩ := es_there (RecT.Own.at (own_grow h.lf gr)) hi
  rw [e] at e'
  cases e'
  rw [Nat.zero_add] at q
  exact q
set_option maxRecDepth 100000 in
set_option maxHeartbeats 4000000 in
theorem layerOnce_any (vc vm vt vf : Value) (op : Bool) (cs : List Ent) (ms : List Mk) (ts : List Th) (fs : List Fe) (k : Int) (w : World) (FI : FiA w vc vm cs ms) (TH : thR.At w vt ts) (FE : feR.At w vf fs) : Calls Tryz.prog 4 #[.agg #[vc, vm, .bool op], .agg #[vt, vf], .int .i64 k] w fun e w' => e = .returned (.bool true) ∧ w.grownBy w' none := by
  obtain ⟨pc, kc, pm, km, rfl, rfl⟩ := FI.forms
  obtain ⟨pt, ct, rfl⟩ := TH.form
  obtain ⟨pf, cf, rfl⟩ := FE.form
  obtain ⟨W, hW⟩ : ∃ W, W = (w.alloc (.cells #[.slice pc cs.length kc, .slice pm ms.length km, .bool op] 58)).alloc (.cells #[.slice pt ts.length ct, .slice pf fs.length cf] 25) := ⟨_, rfl⟩
  have HG : Hid (w.grownBy W none) := by rw [hW]; exact grown_push (World.grownBy_alloc _ _ none) _
  have H0 : Hid (Pre w W w.heap.size (w.heap.size + 1) (.slice pc cs.length kc) (.slice pm ms.length km) (.slice pt ts.length ct) (.slice pf fs.length cf) op cs ms ts fs) := ⟨FI.keep HG.out, TH.keep HG.out, FE.keep HG.out, by rw [hW]; exact alloc_two _ _ _ _ _, by rw [hW]; exact alloc2_b _ _ _ _, HG.out⟩
  clear FI TH FE
  go_enter Tryz.func4, Tryz.ntmps4
  go_upto_region 1 with fail
  rw [← hW]
  obtain ⟨b0, hb0⟩ : ∃ b0, b0 = w.heap.size := ⟨_, rfl⟩
  obtain ⟨b1, hb1⟩ : ∃ b1, b1 = b0 + 1 := ⟨_, rfl⟩
  rw [← hb0, ← hb1] at H0 ⊢
  clear hW hb0 hb1 HG
  have C1 := lawake_any W
  go_wp2_with fail
  refine C1.mono ?_
  rintro e1 w1 ⟨rfl, g1⟩
  have H1 : Hid (Pre w w1 b0 b1 (.slice pc cs.length kc) (.slice pm ms.length km) (.slice pt ts.length ct) (.slice pf fs.length cf) op cs ms ts fs) := H0.out.keep g1
  clear C1 g1 H0
  have C2 := heavy_any pc pm pt pf cs.length ms.length ts.length fs.length kc km ct cf op w1
  obtain ⟨f0, f1, f2⟩ := fil_box H1.out.fb
  obtain ⟨t0, t1⟩ := tab_box H1.out.tb
  go_wp2_with fail
  refine C2.mono ?_
  rintro e2 w2 ⟨rfl, g2⟩
  have H2 : Hid (Pre w w2 b0 b1 (.slice pc cs.length kc) (.slice pm ms.length km) (.slice pt ts.length ct) (.slice pf fs.length cf) op cs ms ts fs) := H1.out.keep g2
  clear C2 g2 H1 f0 f1 f2 t0 t1
  cases hh : heavyB cs.length ms.length ts.length fs.length with
  | true =>
    go_wp2_with fail
    go_ret
    exact ⟨rfl, H2.out.gr⟩
  | false =>
    have HH : Hid (cs.length ≤ 80 ∧ ms.length ≤ 20 ∧ ts.length ≤ 2100 ∧ fs.length ≤ 2100) := heavyB_no hh
    clear hh
    have C3 := books_any _ _ op cs ms w2 H2.out.fi
    unfold BoPost at C3
    obtain ⟨f0, f1, f2⟩ := fil_box H2.out.fb
    obtain ⟨nB, hnB⟩ : ∃ nB, nB = w2.heap.size + 1 := ⟨_, rfl⟩
    rw [← hnB] at C3
    clear hnB
    go_wp2_with fail
    refine C3.mono ?_
    rintro e3 w3 ⟨v3, es3, fs3, p3, rfl, P3, -, g3⟩
    have HS' : Hid (RaS w w3 b1 (.pointer (some ⟨nB, 0, none⟩)) (.slice pt ts.length ct) (.slice pf fs.length cf) (refE p3 ts.length) (es3.length : Int) (atC p3 es3) ts fs) := H2.out.ras g3 P3 (by have := HH.out.2.2.2; omega)
    obtain ⟨r, hr⟩ : ∃ r, r = refE p3 ts.length := ⟨_, rfl⟩
    obtain ⟨m, hm⟩ : ∃ m, m = (es3.length : Int) := ⟨_, rfl⟩
    obtain ⟨cd, hcd⟩ : ∃ cd, cd = atC p3 es3 := ⟨_, rfl⟩
    rw [← hr, ← hm, ← hcd] at HS'
    have HS : Hid (RaS w w3 b1 (.pointer (some ⟨nB, 0, none⟩)) (.slice pt ts.length ct) (.slice pf fs.length cf) r m cd ts fs) := HS'.out
    clear C3 P3 g3 H2 f0 f1 f2 HS' hr hm hcd
    clear p3 es3 fs3 v3
    obtain ⟨vt, hvt⟩ : ∃ vt, vt = Value.slice pt ts.length ct := ⟨_, rfl⟩
    clear hvt vt
    have C4 := lEffects_any _ _ _ r m cd ts fs k w3 HS.out.inn
    unfold EffectsPost at C4
    obtain ⟨q, hq⟩ : ∃ q, q = bgE r m cd ts fs k := ⟨_, rfl⟩
    rw [← hq] at C4
    obtain ⟨t0, t1⟩ := tab_box HS.out.tab
    have Hq : Hid (q = bgE r m cd ts fs k) := hq
    clear hq
    go_wp2_with fail
    refine C4.mono ?_
    rintro e4 w4 ⟨p4, m4, c4, rfl, g4, z4, h4⟩
    have HS4 : Hid (RaS w w4 b1 (.pointer (some ⟨nB, 0, none⟩)) (.slice pt ts.length ct) (.slice pf fs.length cf) r m cd ts fs) := HS.out.keep g4
    have HZ4 : Hid (q ≠ 0 → m4 = 0 ∧ p4 = none) := z4
    have HO4 : Hid (∀ R, r = 0 → 1 ≤ k ∧ k ≤ 5 → tabR m cd ts fs = some R → DOwn w4 w3.heap.size (.slice p4 m4 c4) ((effL R (pickF R fs) k).map Se.s)) := h4
    clear C4 t0 t1 HS g4 z4 h4
    have C5 := lAll_any _ _ _ r m cd ts fs k w4 HS4.out.inn
    unfold AllPost at C5
    rw [← Hq.out] at C5
    obtain ⟨t0, t1⟩ := tab_box HS4.out.tab
    go_wp2_with fail
    refine C5.mono ?_
    rintro e5 w5 ⟨p5, m5, c5, p6, m6, c6, rfl, g5, z5, h5⟩
    have HS5 : Hid (RaS w w5 b1 (.pointer (some ⟨nB, 0, none⟩)) (.slice pt ts.length ct) (.slice pf fs.length cf) r m cd ts fs) := HS4.out.keep g5
    have HG45 : Hid (w4.grownBy w5 none) := g5
    clear C5 t0 t1 HS4 g5
    by_cases hq0 : q = 0
    · obtain ⟨hr0, hk5, R, hR⟩ := bgE_of (Hq.out.symm.trans hq0)
      obtain ⟨oA, oB⟩ := h5 R hr0 hk5 hR
      have oL := own_grow (HO4.out R hr0 hk5 hR) HG45.out
      have HTab : Hid (Tab m cd ts fs R) := Tab.of hR
      obtain ⟨N, hN⟩ : ∃ N, N = (effL R (pickF R fs) k).length := ⟨_, rfl⟩
      have hm4 : N = m4 := by obtain ⟨a, b, e⟩ := RecT.Own.form oL; cases e; rw [hN]; simp
      have hm6 : N = m6 := by obtain ⟨a, b, e⟩ := RecT.Own.form oB; cases e; rw [hN, List.length_map, allR_len]
      have hm5 : fs.length = m5 := by obtain ⟨a, b, e⟩ := RecT.Own.form oA; cases e; rw [amgL_len]
      subst hm4
      subst hm5
      subst hm6
      subst hr0
      have HA5 : Hid (feR.At w5 (.slice p5 fs.length c5) (amgL fs R (allR R fs k).1)) := oA.at
      have HB5 : Hid (sdR.At w5 (.slice p6 N c6) ((allR R fs k).2.map Se.s)) := oB.at
      have HL5 : Hid (sdR.Own 35 w5 0 (.slice p4 N c4) ((effL R (pickF R fs) k).map Se.s)) := own_big oL (Nat.zero_le _)
      have HNN : Hid (N = (effL R (pickF R fs) k).length ∧ N ≤ 64) := ⟨hN, by rw [hN]; exact HTab.out.effs (HS5.out.inn.book rfl).1.few _ _⟩
      have hq1 : (q != 0) = false := by simpa using hq0
      have hNN : ((N : Int) != (N : Int)) = false := bne_self_eq_false _
      have C6 := copyFe_any _ fs w5 HS5.out.inn.feats (by have := HH.out.2.2.2; omega)
      obtain ⟨t0, t1⟩ := tab_box HS5.out.tab
      clear oA oB oL hR hN hk5 HO4 HZ4 z5 h5 hq0 HG45
      go_wp2_with fail
      refine C6.mono ?_
      rintro e6 w6 ⟨v6, rfl, o6, g6⟩
      have H6 : Hid (OcS w w5 w6 b1 (.pointer (some ⟨nB, 0, none⟩)) (.slice pt ts.length ct) (.slice pf fs.length cf) v6 (.slice p4 N c4) m cd ts fs R k fs (effL R (pickF R fs) k) []) := ⟨HS5.out.keep g6, o6.at, own_grow HL5.out g6, g6, Onc.start HTab.out⟩
      clear C6 t0 t1 o6 g6 HL5 HS5 HTab
      obtain ⟨p6x, c6x, e6x⟩ := H6.out.xs.form
      subst e6x
      go_wp2_with fail
      go_loopw [11, 16, 17, 18, 19, 20, 21] (fun x11 x16 x17 _ _ _ _ wr => ∃ (i : Nat) (X : List Fe) (L acc : List Se), acc.length = i ∧ L.length + i = N ∧ x17 = .int .i64 (i : Int) ∧ Hid (OcS w w5 wr b1 (.pointer (some ⟨nB, 0, none⟩)) (.slice pt ts.length ct) (.slice pf fs.length cf) x16 x11 m cd ts fs R k X L acc)) (fun _ _ x17 _ _ _ _ _ => N - (intOf x17).toNat)
      case atStart => exact ⟨0, fs, effL R (pickF R fs) k, [], rfl, by rw [Nat.add_zero]; exact HNN.out.1.symm, rfl, H6⟩
      case round =>
        obtain ⟨i, X, L, acc, hacc, hLi, rfl, HO⟩ := hrel
        obtain ⟨U, hU⟩ : ∃ U, U = wr := ⟨_, rfl⟩
        subst hU
        clear H6
        have Hacc : Hid (acc.length = i ∧ L.length + i = N) := ⟨hacc, hLi⟩
        obtain ⟨px, cx, ex⟩ := HO.out.xs.form
        subst ex
        by_cases h0 : 0 < L.length
        · obtain ⟨gL, cL, eL, hRL⟩ := HO.out.left h0
          subst eL
          have hi1 : (i : Int) < (N : Int) := by omega
          have CN := lNext_any _ _ _ _ 0 m cd ts X (L.map Se.s) U HO.out.inn (RecT.Own.at HO.out.lf) (by rw [List.length_map]; have := HNN.out.2; omega)
          have HN0 : Hid (∀ e w', NextPost U 0 m cd ts X (L.map Se.s) e w' → e = .returned (.tuple #[.int .i64 ((nextN R (pickF R X) L : Nat) : Int), .int .i64 0]) ∧ U.grownBy w' none) := fun e w' z => HO.out.on.next h0 z
          obtain ⟨p, hp⟩ : ∃ p, p = nextN R (pickF R X) L := ⟨_, rfl⟩
          have HP : Hid (p = nextN R (pickF R X) L) := hp
          have hpl : p < L.length := by rw [hp]; exact HO.out.on.lt h0
          rw [← hp] at HN0
          obtain ⟨x, hx⟩ : ∃ x, x = L.getD p Se.none := ⟨_, rfl⟩
          have HXm : Hid (x ∈ L) := by show x ∈ L; rw [hx, getD_in hpl]; exact List.getElem_mem _
          have HX : Hid (∀ wr', U.grownBy wr' none → wr'.rangeAt gL (p * 10) (sdc x.s)) := fun wr' gr => by rw [hx]; exact hRL wr' gr p hpl
          have hZ : (allR R fs k).2.getD i Se.none = x := by rw [← hacc, HO.out.on.now h0, ← hp, hx]
          obtain ⟨gZ, oZ, cZ, eZ, hRZ⟩ := es_there (HB5.out.keep HO.out.gr) (i := i) (by rw [allR_len, ← HNN.out.1]; omega)
          rw [hZ] at hRZ
          have HZ : Hid (∀ wr', U.grownBy wr' none → wr'.rangeAt gZ (oZ + i * 10) (sdc x.s)) := fun wr' gr => rangeAt_keep hRZ gr
          have ep : p6 = some ⟨gZ, oZ, none⟩ := by injection eZ
          subst ep
          have HV : Hid (lay x.s.wh.vb = k) := HO.out.on.verb HXm.out
          have Hpl : Hid (p < L.length ∧ x = L.getD p Se.none ∧ 0 < L.length) := ⟨hpl, hx, h0⟩
          have hp0 : ¬ ((p : Int) < 0) := by omega
          have hp00 : (0 : Int) ≤ (p : Int) := by omega
          have hp1 : ¬ ((L.length : Int) ≤ (p : Int)) := by omega
          have hp1d : decide ((L.length : Int) ≤ (p : Int)) = false := decide_eq_false hp1
          have hp1n : ¬ (L.length ≤ p) := by omega
          have hp1e : decide (L.length ≤ p) = false := decide_eq_false hp1n
          have hp2 : (p : Int) < (L.length : Int) := by omega
          have hi0 : (0 : Int) ≤ (i : Int) := by omega
          obtain ⟨t0, t1⟩ := tab_box HO.out.ra.tab
          clear hacc hLi h0 hRL hp hpl hx hZ hRZ eZ
          go_wp2_with fail
          refine (CN.mono HN0.out).mono ?_
          rintro e7 w7 ⟨rfl, g7⟩
          have HO7 : Hid (OcS w w5 w7 b1 (.pointer (some ⟨nB, 0, none⟩)) (.slice pt ts.length ct) (.slice pf fs.length cf) (.slice px X.length cx) (.slice (some ⟨gL, 0, none⟩) L.length cL) m cd ts fs R k X L acc) := HO.out.keep g7
          have HX7 : Hid (∀ wr', w7.grownBy wr' none → wr'.rangeAt gL (p * 10) (sdc x.s)) := fun wr' gr => HX.out wr' (grown_trans g7 gr)
          have HZ7 : Hid (∀ wr', w7.grownBy wr' none → wr'.rangeAt gZ (oZ + i * 10) (sdc x.s)) := fun wr' gr => HZ.out wr' (grown_trans g7 gr)
          clear CN HN0 HO HX HZ t0 t1 g7
          obtain ⟨x0, x1, x2, x3, x4, x5, x6, x7, x8, x9⟩ := sd_cells (HX7.out w7 (grown_refl _ _))
          obtain ⟨y0, y1, y2, y3, y4, y5, y6, y7, y8, y9⟩ := sd_cells (HZ7.out w7 (grown_refl _ _))
          have CL : ∀ W : World, Calls Tryz.prog 17 #[.int .u8 x.s.wh.vb] W fun e w' => e = .returned (.int .i64 k) ∧ w' = W := fun W => by have := layer_any x.s.wh.vb W; rw [HV.out] at this; exact this
          have hkk : (k != k) = false := bne_self_eq_false k
          have CL7 := CL w7.drew
          obtain ⟨t0, t1⟩ := tab_box HO7.out.ra.tab
          go_upto_region 16 with fail
          refine wp_region_held_drew (S := fun w' => w7.grownBy w' none) (by kernel_rfl) (grown_drew _) (fun hHeld => ?_)
          refine wpAnyH_take (i := 0) (v := ?_) rfl (by kernel_rfl) (by kernel_rfl) (by kernel_rfl) (fun _ _ _ h => h) (Or.inl ⟨by rfl, ?_⟩) (by assumption) ?_
          rotate_left 1
          · (intro w0 hSw; go_simp; try with_reducible rfl)
          simp only [List.getElem_toArray, List.getElem_cons_zero]
          go_frame
          refine wpAnyH_take (i := 1) (v := ?_) rfl (by kernel_rfl) (by kernel_rfl) (by kernel_rfl) (fun _ _ _ h => h) (Or.inl ⟨by rfl, ?_⟩) (by assumption) ?_
          rotate_left 1
          · (intro w0 hSw; go_simp; try with_reducible rfl)
          simp only [List.getElem_toArray, List.getElem_cons_zero, List.getElem_cons_succ]
          go_frame
          refine wpAnyH_take (i := 2) (v := ?_) rfl (by kernel_rfl) (by kernel_rfl) (by kernel_rfl) (fun _ _ _ h => h) (Or.inl ⟨by rfl, ?_⟩) (by assumption) ?_
          rotate_left 1
          · (intro w0 hSw; go_simp; try with_reducible rfl)
          simp only [List.getElem_toArray, List.getElem_cons_zero, List.getElem_cons_succ]
          go_frame
          refine wpAnyH_take (i := 3) (v := ?_) rfl (by kernel_rfl) (by kernel_rfl) (by kernel_rfl) (fun _ _ _ h => h) (Or.inl ⟨by rfl, ?_⟩) (by assumption) ?_
          rotate_left 1
          · (intro w0 hSw; go_simp; try with_reducible rfl)
          simp only [List.getElem_toArray, List.getElem_cons_zero, List.getElem_cons_succ]
          go_frame
          refine wpAnyH_take (i := 4) (v := ?_) rfl (by kernel_rfl) (by kernel_rfl) (by kernel_rfl) (fun _ _ _ h => h) (Or.inl ⟨by rfl, ?_⟩) (by assumption) ?_
          rotate_left 1
          · (intro w0 hSw; go_simp; try with_reducible rfl)
          simp only [List.getElem_toArray, List.getElem_cons_zero, List.getElem_cons_succ]
          go_frame
          refine wpAnyH_take (i := 5) (v := ?_) rfl (by kernel_rfl) (by kernel_rfl) (by kernel_rfl) (fun _ _ _ h => h) (Or.inl ⟨by rfl, ?_⟩) (by assumption) ?_
          rotate_left 1
          · (intro w0 hSw; go_simp; try with_reducible rfl)
          simp only [List.getElem_toArray, List.getElem_cons_zero, List.getElem_cons_succ]
          go_frame
          refine wpAnyH_take (i := 6) (v := ?_) rfl (by kernel_rfl) (by kernel_rfl) (by kernel_rfl) (fun _ _ _ h => h) (Or.inl ⟨by rfl, ?_⟩) (by assumption) ?_
          rotate_left 1
          · (intro w0 hSw; go_simp; try with_reducible rfl)
          simp only [List.getElem_toArray, List.getElem_cons_zero, List.getElem_cons_succ]
          go_frame
          refine wpAnyH_take (i := 7) (v := ?_) rfl (by kernel_rfl) (by kernel_rfl) (by kernel_rfl) (fun _ _ _ h => h) (Or.inl ⟨by rfl, ?_⟩) (by assumption) ?_
          rotate_left 1
          · (intro w0 hSw; go_simp; try with_reducible rfl)
          simp only [List.getElem_toArray, List.getElem_cons_zero, List.getElem_cons_succ]
          go_frame
          refine wpAnyH_take (i := 8) (v := ?_) rfl (by kernel_rfl) (by kernel_rfl) (by kernel_rfl) (fun _ _ _ h => h) (Or.inl ⟨by rfl, ?_⟩) (by assumption) ?_
          rotate_left 1
          · (intro w0 hSw; go_simp; try with_reducible rfl)
          simp only [List.getElem_toArray, List.getElem_cons_zero, List.getElem_cons_succ]
          go_frame
          refine wpAnyH_take (i := 9) (v := ?_) rfl (by kernel_rfl) (by kernel_rfl) (by kernel_rfl) (fun _ _ _ h => h) (Or.inl ⟨by rfl, ?_⟩) (by assumption) ?_
          rotate_left 1
          · (intro w0 hSw; go_simp; try with_reducible rfl)
          simp only [List.getElem_toArray, List.getElem_cons_zero, List.getElem_cons_succ]
          go_frame
          refine wpAnyH_take (i := 10) (v := ?_) rfl (by kernel_rfl) (by kernel_rfl) (by kernel_rfl) (fun _ _ _ h => h) (Or.inl ⟨by rfl, ?_⟩) (by assumption) ?_
          rotate_left 1
          · (intro w0 hSw; go_simp; try with_reducible rfl)
          simp only [List.getElem_toArray, List.getElem_cons_zero, List.getElem_cons_succ]
          go_frame
          refine wpAnyH_take (i := 11) (v := ?_) rfl (by kernel_rfl) (by kernel_rfl) (by kernel_rfl) (fun _ _ _ h => h) (Or.inl ⟨by rfl, ?_⟩) (by assumption) ?_
          rotate_left 1
          · (intro w0 hSw; go_simp; try with_reducible rfl)
          simp only [List.getElem_toArray, List.getElem_cons_zero, List.getElem_cons_succ]
          go_frame
          refine wpAnyH_take (i := 12) (v := ?_) rfl (by kernel_rfl) (by kernel_rfl) (by kernel_rfl) (fun _ _ _ h => h) (Or.inl ⟨by rfl, ?_⟩) (by assumption) ?_
          rotate_left 1
          · (intro w0 hSw; go_simp; try with_reducible rfl)
          simp only [List.getElem_toArray, List.getElem_cons_zero, List.getElem_cons_succ]
          go_frame
          refine wpAnyH_take (i := 13) (v := ?_) rfl (by kernel_rfl) (by kernel_rfl) (by kernel_rfl) (fun _ _ _ h => h) (Or.inl ⟨by rfl, ?_⟩) (by assumption) ?_
          rotate_left 1
          · (intro w0 hSw; go_simp; try with_reducible rfl)
          simp only [List.getElem_toArray, List.getElem_cons_zero, List.getElem_cons_succ]
          go_frame
          refine wpAnyH_take (i := 14) (v := ?_) rfl (by kernel_rfl) (by kernel_rfl) (by kernel_rfl) (fun _ _ _ h => h) (Or.inl ⟨by rfl, ?_⟩) (by assumption) ?_
          rotate_left 1
          · (intro w0 hSw; go_simp; try with_reducible rfl)
          simp only [List.getElem_toArray, List.getElem_cons_zero, List.getElem_cons_succ]
          go_frame
          refine wpAnyH_take (i := 15) (v := ?_) rfl (by kernel_rfl) (by kernel_rfl) (by kernel_rfl) (fun _ _ _ h => h) (Or.inl ⟨by rfl, ?_⟩) (by assumption) ?_
          rotate_left 1
          · (intro w0 hSw; go_simp; try with_reducible rfl)
          simp only [List.getElem_toArray, List.getElem_cons_zero, List.getElem_cons_succ]
          go_frame
          refine wpAnyH_take (i := 16) (v := ?_) rfl (by kernel_rfl) (by kernel_rfl) (by kernel_rfl) (fun _ _ _ h => h) (Or.inl ⟨by rfl, ?_⟩) (by assumption) ?_
          rotate_left 1
          · (intro w0 hSw; go_simp; try with_reducible rfl)
          simp only [List.getElem_toArray, List.getElem_cons_zero, List.getElem_cons_succ]
          go_frame
          refine wpAnyH_take (i := 17) (v := ?_) rfl (by kernel_rfl) (by kernel_rfl) (by kernel_rfl) (fun _ _ _ h => h) (Or.inl ⟨by rfl, ?_⟩) (by assumption) ?_
          rotate_left 1
          · (intro w0 hSw; have x0 := hSw.cell x0 (by simp); go_simp; try with_reducible rfl)
          simp only [List.getElem_toArray, List.getElem_cons_zero, List.getElem_cons_succ]
          go_frame
          refine wpAnyH_take (i := 18) (v := ?_) rfl (by kernel_rfl) (by kernel_rfl) (by kernel_rfl) (fun _ _ _ h => h) (Or.inl ⟨by rfl, ?_⟩) (by assumption) ?_
          rotate_left 1
          · (intro w0 hSw; go_simp; try with_reducible rfl)
          simp only [List.getElem_toArray, List.getElem_cons_zero, List.getElem_cons_succ]
          go_frame
          refine wpAnyH_take (i := 19) (v := ?_) rfl (by kernel_rfl) (by kernel_rfl) (by kernel_rfl) (fun _ _ _ h => h) (Or.inl ⟨by rfl, ?_⟩) (by assumption) ?_
          rotate_left 1
          · (intro w0 hSw; go_simp; try with_reducible rfl)
          simp only [List.getElem_toArray, List.getElem_cons_zero, List.getElem_cons_succ]
          go_frame
          refine wpAnyH_take (i := 20) (v := ?_) rfl (by kernel_rfl) (by kernel_rfl) (by kernel_rfl) (fun _ _ _ h => h) (Or.inl ⟨by rfl, ?_⟩) (by assumption) ?_
          rotate_left 1
          · (intro w0 hSw; go_simp; try with_reducible rfl)
          simp only [List.getElem_toArray, List.getElem_cons_zero, List.getElem_cons_succ]
          go_frame
          refine wpAnyH_take (i := 21) (v := ?_) rfl (by kernel_rfl) (by kernel_rfl) (by kernel_rfl) (fun _ _ _ h => h) (Or.inl ⟨by rfl, ?_⟩) (by assumption) ?_
          rotate_left 1
          · (intro w0 hSw; go_simp; try with_reducible rfl)
          simp only [List.getElem_toArray, List.getElem_cons_zero, List.getElem_cons_succ]
          go_frame
          refine wpAnyH_take (i := 22) (v := ?_) rfl (by kernel_rfl) (by kernel_rfl) (by kernel_rfl) (fun _ _ _ h => h) (Or.inl ⟨by rfl, ?_⟩) (by assumption) ?_
          rotate_left 1
          · (intro w0 hSw; have y0 := hSw.cell y0 (by simp); go_simp; try with_reducible rfl)
          simp only [List.getElem_toArray, List.getElem_cons_zero, List.getElem_cons_succ]
          go_frame
          refine wpAnyH_take (i := 23) (v := ?_) rfl (by kernel_rfl) (by kernel_rfl) (by kernel_rfl) (fun _ _ _ h => h) (Or.inl ⟨by rfl, ?_⟩) (by assumption) ?_
          rotate_left 1
          · (intro w0 hSw; go_simp; try with_reducible rfl)
          simp only [List.getElem_toArray, List.getElem_cons_zero, List.getElem_cons_succ]
          go_frame
          refine wpAnyH_take (i := 24) (v := ?_) rfl (by kernel_rfl) (by kernel_rfl) (by kernel_rfl) (fun _ _ _ h => h) (Or.inl ⟨by rfl, ?_⟩) (by assumption) ?_
          rotate_left 1
          · (intro w0 hSw; go_simp; try with_reducible rfl)
          simp only [List.getElem_toArray, List.getElem_cons_zero, List.getElem_cons_succ]
          go_frame
          refine wpAnyH_take (i := 25) (v := ?_) rfl (by kernel_rfl) (by kernel_rfl) (by kernel_rfl) (fun _ _ _ h => h) (Or.inl ⟨by rfl, ?_⟩) (by assumption) ?_
          rotate_left 1
          · (intro w0 hSw; go_simp; try with_reducible rfl)
          simp only [List.getElem_toArray, List.getElem_cons_zero, List.getElem_cons_succ]
          go_frame
          refine wpAnyH_take (i := 26) (v := ?_) rfl (by kernel_rfl) (by kernel_rfl) (by kernel_rfl) (fun _ _ _ h => h) (Or.inl ⟨by rfl, ?_⟩) (by assumption) ?_
          rotate_left 1
          · (intro w0 hSw; go_simp; try with_reducible rfl)
          simp only [List.getElem_toArray, List.getElem_cons_zero, List.getElem_cons_succ]
          go_frame
          refine wpAnyH_take (i := 27) (v := ?_) rfl (by kernel_rfl) (by kernel_rfl) (by kernel_rfl) (fun _ _ _ h => h) (Or.inl ⟨by rfl, ?_⟩) (by assumption) ?_
          rotate_left 1
          · (intro w0 hSw; go_simp; try with_reducible rfl)
          simp only [List.getElem_toArray, List.getElem_cons_zero, List.getElem_cons_succ]
          go_frame
          refine wpAnyH_take (i := 28) (v := ?_) rfl (by kernel_rfl) (by kernel_rfl) (by kernel_rfl) (fun _ _ _ h => h) (Or.inl ⟨by rfl, ?_⟩) (by assumption) ?_
          rotate_left 1
          · (intro w0 hSw; go_simp; try with_reducible rfl)
          simp only [List.getElem_toArray, List.getElem_cons_zero, List.getElem_cons_succ]
          go_frame
          refine wpAnyH_take (i := 29) (v := ?_) rfl (by kernel_rfl) (by kernel_rfl) (by kernel_rfl) (fun _ _ _ h => h) (Or.inl ⟨by rfl, ?_⟩) (by assumption) ?_
          rotate_left 1
          · (intro w0 hSw; go_simp; try with_reducible rfl)
          simp only [List.getElem_toArray, List.getElem_cons_zero, List.getElem_cons_succ]
          go_frame
          refine wpAnyH_take (i := 30) (v := ?_) rfl (by kernel_rfl) (by kernel_rfl) (by kernel_rfl) (fun _ _ _ h => h) (Or.inl ⟨by rfl, ?_⟩) (by assumption) ?_
          rotate_left 1
          · (intro w0 hSw; have x1 := hSw.cell x1 (by simp); go_simp; try with_reducible rfl)
          simp only [List.getElem_toArray, List.getElem_cons_zero, List.getElem_cons_succ]
          go_frame
          refine wpAnyH_take (i := 31) (v := ?_) rfl (by kernel_rfl) (by kernel_rfl) (by kernel_rfl) (fun _ _ _ h => h) (Or.inl ⟨by rfl, ?_⟩) (by assumption) ?_
          rotate_left 1
          · (intro w0 hSw; go_simp; try with_reducible rfl)
          simp only [List.getElem_toArray, List.getElem_cons_zero, List.getElem_cons_succ]
          go_frame
          refine wpAnyH_take (i := 32) (v := ?_) rfl (by kernel_rfl) (by kernel_rfl) (by kernel_rfl) (fun _ _ _ h => h) (Or.inl ⟨by rfl, ?_⟩) (by assumption) ?_
          rotate_left 1
          · (intro w0 hSw; go_simp; try with_reducible rfl)
          simp only [List.getElem_toArray, List.getElem_cons_zero, List.getElem_cons_succ]
          go_frame
          refine wpAnyH_take (i := 33) (v := ?_) rfl (by kernel_rfl) (by kernel_rfl) (by kernel_rfl) (fun _ _ _ h => h) (Or.inl ⟨by rfl, ?_⟩) (by assumption) ?_
          rotate_left 1
          · (intro w0 hSw; go_simp; try with_reducible rfl)
          simp only [List.getElem_toArray, List.getElem_cons_zero, List.getElem_cons_succ]
          go_frame
          refine wpAnyH_take (i := 34) (v := ?_) rfl (by kernel_rfl) (by kernel_rfl) (by kernel_rfl) (fun _ _ _ h => h) (Or.inl ⟨by rfl, ?_⟩) (by assumption) ?_
          rotate_left 1
          · (intro w0 hSw; go_simp; try with_reducible rfl)
          simp only [List.getElem_toArray, List.getElem_cons_zero, List.getElem_cons_succ]
          go_frame
          refine wpAnyH_take (i := 35) (v := ?_) rfl (by kernel_rfl) (by kernel_rfl) (by kernel_rfl) (fun _ _ _ h => h) (Or.inl ⟨by rfl, ?_⟩) (by assumption) ?_
          rotate_left 1
          · (intro w0 hSw; have y1 := hSw.cell y1 (by simp); go_simp; try with_reducible rfl)
          simp only [List.getElem_toArray, List.getElem_cons_zero, List.getElem_cons_succ]
          go_frame
          refine wpAnyH_take (i := 36) (v := ?_) rfl (by kernel_rfl) (by kernel_rfl) (by kernel_rfl) (fun _ _ _ h => h) (Or.inl ⟨by rfl, ?_⟩) (by assumption) ?_
          rotate_left 1
          · (intro w0 hSw; go_simp; try with_reducible rfl)
          simp only [List.getElem_toArray, List.getElem_cons_zero, List.getElem_cons_succ]
          go_frame
          refine wpAnyH_take (i := 37) (v := ?_) rfl (by kernel_rfl) (by kernel_rfl) (by kernel_rfl) (fun _ _ _ h => h) (Or.inl ⟨by rfl, ?_⟩) (by assumption) ?_
          rotate_left 1
          · (intro w0 hSw; go_simp; try with_reducible rfl)
          simp only [List.getElem_toArray, List.getElem_cons_zero, List.getElem_cons_succ]
          go_frame
          refine wpAnyH_take (i := 38) (v := ?_) rfl (by kernel_rfl) (by kernel_rfl) (by kernel_rfl) (fun _ _ _ h => h) (Or.inl ⟨by rfl, ?_⟩) (by assumption) ?_
          rotate_left 1
          · (intro w0 hSw; go_simp; try with_reducible rfl)
          simp only [List.getElem_toArray, List.getElem_cons_zero, List.getElem_cons_succ]
          go_frame
          refine wpAnyH_take (i := 39) (v := ?_) rfl (by kernel_rfl) (by kernel_rfl) (by kernel_rfl) (fun _ _ _ h => h) (Or.inl ⟨by rfl, ?_⟩) (by assumption) ?_
          rotate_left 1
          · (intro w0 hSw; go_simp; try with_reducible rfl)
          simp only [List.getElem_toArray, List.getElem_cons_zero, List.getElem_cons_succ]
          go_frame
          refine wpAnyH_take (i := 40) (v := ?_) rfl (by kernel_rfl) (by kernel_rfl) (by kernel_rfl) (fun _ _ _ h => h) (Or.inl ⟨by rfl, ?_⟩) (by assumption) ?_
          rotate_left 1
          · (intro w0 hSw; go_simp; try with_reducible rfl)
          simp only [List.getElem_toArray, List.getElem_cons_zero, List.getElem_cons_succ]
          go_frame
          refine wpAnyH_take (i := 41) (v := ?_) rfl (by kernel_rfl) (by kernel_rfl) (by kernel_rfl) (fun _ _ _ h => h) (Or.inl ⟨by rfl, ?_⟩) (by assumption) ?_
          rotate_left 1
          · (intro w0 hSw; go_simp; try with_reducible rfl)
          simp only [List.getElem_toArray, List.getElem_cons_zero, List.getElem_cons_succ]
          go_frame
          refine wpAnyH_take (i := 42) (v := ?_) rfl (by kernel_rfl) (by kernel_rfl) (by kernel_rfl) (fun _ _ _ h => h) (Or.inl ⟨by rfl, ?_⟩) (by assumption) ?_
          rotate_left 1
          · (intro w0 hSw; go_simp; try with_reducible rfl)
          simp only [List.getElem_toArray, List.getElem_cons_zero, List.getElem_cons_succ]
          go_frame
          refine wpAnyH_take (i := 43) (v := ?_) rfl (by kernel_rfl) (by kernel_rfl) (by kernel_rfl) (fun _ _ _ h => h) (Or.inl ⟨by rfl, ?_⟩) (by assumption) ?_
          rotate_left 1
          · (intro w0 hSw; go_simp; try with_reducible rfl)
          simp only [List.getElem_toArray, List.getElem_cons_zero, List.getElem_cons_succ]
          go_frame
          refine wpAnyH_take (i := 44) (v := ?_) rfl (by kernel_rfl) (by kernel_rfl) (by kernel_rfl) (fun _ _ _ h => h) (Or.inl ⟨by rfl, ?_⟩) (by assumption) ?_
          rotate_left 1
          · (intro w0 hSw; have y3 := hSw.cell y3 (by simp); go_simp; try with_reducible rfl)
          simp only [List.getElem_toArray, List.getElem_cons_zero, List.getElem_cons_succ]
          go_frame
          refine wpAnyH_take (i := 46) (v := ?_) rfl (by kernel_rfl) (by kernel_rfl) (by kernel_rfl) (fun _ _ _ h => h) (Or.inl ⟨by rfl, ?_⟩) (by assumption) ?_
          rotate_left 1
          · (intro w0 hSw; go_simp; try with_reducible rfl)
          simp only [List.getElem_toArray, List.getElem_cons_zero, List.getElem_cons_succ]
          go_frame
          refine wpAnyH_ready (rs := [45]) (by kernel_rfl) (by simp) ?_
          refine AllReadyH.cons rfl (fun K hK => ?_) AllReadyH.nil
          simp only [List.getElem_toArray, List.getElem_cons_zero, List.getElem_cons_succ]
          rw [if_pos (by rfl)]
          go_simp
          go_at_call 17
          refine (CL7).mono ?_
          rintro e8 V q8
          obtain ⟨rfl, hV⟩ := q8
          have HGV : Hid (w7.grownBy V none) := by rw [hV]; exact grown_drew _
          clear CL7 hV
          refine hK.out _ _ (HGV.out) (fun hHeld2 => ?_)
          clear hK K
          (try go_frame)
          refine wpAnyH_take (i := 47) (v := ?_) rfl (by kernel_rfl) (by kernel_rfl) (by kernel_rfl) (fun _ _ _ h => h) (Or.inl ⟨by rfl, ?_⟩) (by assumption) ?_
          rotate_left 1
          · (intro w0 hSw; go_simp; try with_reducible rfl)
          simp only [List.getElem_toArray, List.getElem_cons_zero, List.getElem_cons_succ]
          go_frame
          refine wpAnyH_take (i := 48) (v := ?_) rfl (by kernel_rfl) (by kernel_rfl) (by kernel_rfl) (fun _ _ _ h => h) (Or.inl ⟨by rfl, ?_⟩) (by assumption) ?_
          rotate_left 1
          · (intro w0 hSw; go_simp; try with_reducible rfl)
          simp only [List.getElem_toArray, List.getElem_cons_zero, List.getElem_cons_succ]
          go_frame
          refine wpAnyH_done (by kernel_rfl) ?_ _
          go_upto_region 18 with fail
          have gV : w7.grownBy V none := HGV.out
          have HO8 : Hid (OcS w w5 V b1 (.pointer (some ⟨nB, 0, none⟩)) (.slice pt ts.length ct) (.slice pf fs.length cf) (.slice px X.length cx) (.slice (some ⟨gL, 0, none⟩) L.length cL) m cd ts fs R k X L acc) := HO7.out.keep gV
          have HX8 : Hid (∀ wr', V.grownBy wr' none → wr'.rangeAt gL (p * 10) (sdc x.s)) := fun wr' gr => HX7.out wr' (grown_trans gV gr)
          clear x0 x1 x2 x3 x4 x5 x6 x7 x8 x9 y0 y1 y2 y3 y4 y5 y6 y7 y8 y9 CL HO7 HX7 HZ7 gV HGV hHeld hHeld2 t0 t1
          obtain ⟨t0, t1⟩ := tab_box HO8.out.ra.tab
          obtain ⟨x0, x1, x2, x3, x4, x5, x6, x7, x8, x9⟩ := sd_cells (HX8.out V (grown_refl _ _))
          have CA := lApply_any _ _ _ 0 m cd ts X x.s V.drew (HO8.out.keep (grown_drew _)).inn
          unfold sdv at CA
          have HAp : Hid (∀ e w', ApplyPost V.drew 0 m cd ts X x.s e w' → ∃ pa ca, e = .returned (.tuple #[.slice pa (amgL X R (applyL R (pickF R X) x)).length ca, .int .i64 0]) ∧ V.drew.grownBy w' none ∧ FOwn w' V.drew.heap.size (.slice pa (amgL X R (applyL R (pickF R X) x)).length ca) (amgL X R (applyL R (pickF R X) x))) := fun e w' z => HO8.out.on.tab.app (HO8.out.on.mem x HXm.out) z
          refine wp_region_held_drew (S := fun w' => V.grownBy w' none) (by kernel_rfl) (grown_drew _) (fun hHeld => ?_)
          refine wpAnyH_take (i := 0) (v := ?_) rfl (by kernel_rfl) (by kernel_rfl) (by kernel_rfl) (fun _ _ _ h => h) (Or.inl ⟨by rfl, ?_⟩) (by assumption) ?_
          rotate_left 1
          · (intro w0 hSw; go_simp; try with_reducible rfl)
          simp only [List.getElem_toArray, List.getElem_cons_zero]
          go_frame
          refine wpAnyH_take (i := 1) (v := ?_) rfl (by kernel_rfl) (by kernel_rfl) (by kernel_rfl) (fun _ _ _ h => h) (Or.inl ⟨by rfl, ?_⟩) (by assumption) ?_
          rotate_left 1
          · (intro w0 hSw; go_simp; try with_reducible rfl)
          simp only [List.getElem_toArray, List.getElem_cons_zero, List.getElem_cons_succ]
          go_frame
          refine wpAnyH_take (i := 2) (v := ?_) rfl (by kernel_rfl) (by kernel_rfl) (by kernel_rfl) (fun _ _ _ h => h) (Or.inl ⟨by rfl, ?_⟩) (by assumption) ?_
          rotate_left 1
          · (intro w0 hSw; have t0 := hSw.cell t0 (by simp); go_simp; try with_reducible rfl)
          simp only [List.getElem_toArray, List.getElem_cons_zero, List.getElem_cons_succ]
          go_frame
          refine wpAnyH_take (i := 3) (v := ?_) rfl (by kernel_rfl) (by kernel_rfl) (by kernel_rfl) (fun _ _ _ h => h) (Or.inl ⟨by rfl, ?_⟩) (by assumption) ?_
          rotate_left 1
          · (intro w0 hSw; go_simp; try with_reducible rfl)
          simp only [List.getElem_toArray, List.getElem_cons_zero, List.getElem_cons_succ]
          go_frame
          refine wpAnyH_take (i := 4) (v := ?_) rfl (by kernel_rfl) (by kernel_rfl) (by kernel_rfl) (fun _ _ _ h => h) (Or.inl ⟨by rfl, ?_⟩) (by assumption) ?_
          rotate_left 1
          · (intro w0 hSw; go_simp; try with_reducible rfl)
          simp only [List.getElem_toArray, List.getElem_cons_zero, List.getElem_cons_succ]
          go_frame
          refine wpAnyH_take (i := 5) (v := ?_) rfl (by kernel_rfl) (by kernel_rfl) (by kernel_rfl) (fun _ _ _ h => h) (Or.inl ⟨by rfl, ?_⟩) (by assumption) ?_
          rotate_left 1
          · (intro w0 hSw; go_simp; try with_reducible rfl)
          simp only [List.getElem_toArray, List.getElem_cons_zero, List.getElem_cons_succ]
          go_frame
          refine wpAnyH_take (i := 6) (v := ?_) rfl (by kernel_rfl) (by kernel_rfl) (by kernel_rfl) (fun _ _ _ h => h) (Or.inl ⟨by rfl, ?_⟩) (by assumption) ?_
          rotate_left 1
          · (intro w0 hSw; go_simp; try with_reducible rfl)
          simp only [List.getElem_toArray, List.getElem_cons_zero, List.getElem_cons_succ]
          go_frame
          refine wpAnyH_take (i := 7) (v := ?_) rfl (by kernel_rfl) (by kernel_rfl) (by kernel_rfl) (fun _ _ _ h => h) (Or.inl ⟨by rfl, ?_⟩) (by assumption) ?_
          rotate_left 1
          · (intro w0 hSw; have x0 := hSw.cell x0 (by simp); have x1 := hSw.cell x1 (by simp); have x2 := hSw.cell x2 (by simp); have x3 := hSw.cell x3 (by simp); have x4 := hSw.cell x4 (by simp); have x5 := hSw.cell x5 (by simp); have x6 := hSw.cell x6 (by simp); have x7 := hSw.cell x7 (by simp); have x8 := hSw.cell x8 (by simp); have x9 := hSw.cell x9 (by simp); go_simp; try with_reducible rfl)
          simp only [List.getElem_toArray, List.getElem_cons_zero, List.getElem_cons_succ]
          go_frame
          refine wpAnyH_ready (rs := [8]) (by kernel_rfl) (by simp) ?_
          refine AllReadyH.cons rfl (fun K hK => ?_) AllReadyH.nil
          simp only [List.getElem_toArray, List.getElem_cons_zero, List.getElem_cons_succ]
          go_simp
          go_at_call 18
          refine (CA).mono ?_
          rintro e9 w9 q9
          obtain ⟨pa, ca, rfl, g9, o9⟩ := HAp.out _ _ q9
          have HG9 : Hid (V.grownBy w9 none) := grown_trans (grown_drew _) g9
          have HO9 : Hid (feR.At w9 (.slice pa (amgL X R (applyL R (pickF R X) x)).length ca) (amgL X R (applyL R (pickF R X) x))) := o9.at
          clear CA g9 q9 o9
          refine hK.out _ _ (HG9.out) (fun hHeld2 => ?_)
          clear hK K
          (try go_frame)
          refine wpAnyH_take (i := 9) (v := ?_) rfl (by kernel_rfl) (by kernel_rfl) (by kernel_rfl) (fun _ _ _ h => h) (Or.inl ⟨by rfl, ?_⟩) (by assumption) ?_
          rotate_left 1
          · (intro w0 hSw; go_simp; try with_reducible rfl)
          simp only [List.getElem_toArray, List.getElem_cons_zero, List.getElem_cons_succ]
          go_frame
          refine wpAnyH_take (i := 10) (v := ?_) rfl (by kernel_rfl) (by kernel_rfl) (by kernel_rfl) (fun _ _ _ h => h) (Or.inl ⟨by rfl, ?_⟩) (by assumption) ?_
          rotate_left 1
          · (intro w0 hSw; go_simp; try with_reducible rfl)
          simp only [List.getElem_toArray, List.getElem_cons_zero, List.getElem_cons_succ]
          go_frame
          refine wpAnyH_take (i := 11) (v := ?_) rfl (by kernel_rfl) (by kernel_rfl) (by kernel_rfl) (fun _ _ _ h => h) (Or.inl ⟨by rfl, ?_⟩) (by assumption) ?_
          rotate_left 1
          · (intro w0 hSw; go_simp; try with_reducible rfl)
          simp only [List.getElem_toArray, List.getElem_cons_zero, List.getElem_cons_succ]
          go_frame
          refine wpAnyH_take (i := 12) (v := ?_) rfl (by kernel_rfl) (by kernel_rfl) (by kernel_rfl) (fun _ _ _ h => h) (Or.inl ⟨by rfl, ?_⟩) (by assumption) ?_
          rotate_left 1
          · (intro w0 hSw; go_simp; try with_reducible rfl)
          simp only [List.getElem_toArray, List.getElem_cons_zero, List.getElem_cons_succ]
          go_frame
          refine wpAnyH_take (i := 13) (v := ?_) rfl (by kernel_rfl) (by kernel_rfl) (by kernel_rfl) (fun _ _ _ h => h) (Or.inl ⟨by rfl, ?_⟩) (by assumption) ?_
          rotate_left 1
          · (intro w0 hSw; go_simp; try with_reducible rfl)
          simp only [List.getElem_toArray, List.getElem_cons_zero, List.getElem_cons_succ]
          go_frame
          refine wpAnyH_done (by kernel_rfl) ?_ _
          have HT9 : Hid (OcS w w5 w9 b1 (.pointer (some ⟨nB, 0, none⟩)) (.slice pt ts.length ct) (.slice pf fs.length cf) (.slice px X.length cx) (.slice (some ⟨gL, 0, none⟩) L.length cL) m cd ts fs R k X L acc) := HO8.out.keep HG9.out
          clear t0 t1 x0 x1 x2 x3 x4 x5 x6 x7 x8 x9 HAp HO8 HX8 hHeld hHeld2 HG9
          have CG := gone_any 0 gL cL p L.length (L.map Se.s) w9 HT9.out.lf (List.length_map _) Hpl.out.1 (by have := HNN.out.2; have := Hacc.out.2; omega)
          go_wp2_with fail
          refine CG.mono ?_
          rintro e10 w10 ⟨v10, rfl, o10, g10⟩
          have HT10 : Hid (OcS w w5 w10 b1 (.pointer (some ⟨nB, 0, none⟩)) (.slice pt ts.length ct) (.slice pf fs.length cf) (.slice pa (amgL X R (applyL R (pickF R X) x)).length ca) v10 m cd ts fs R k (amgL X R (applyL R (pickF R X) x)) (L.eraseIdx p) (acc ++ [x])) := ⟨HT9.out.ra.keep g10, HO9.out.keep g10, by have h := own_big o10 (Nat.zero_le _); rw [← map_erase] at h; exact h, grown_trans HT9.out.gr g10, by have h := HT9.out.on.step Hpl.out.2.2; rw [← HP.out, ← Hpl.out.2.1] at h; exact h⟩
          clear CG HT9 HO9 o10 g10
          go_wp2_with fail
          go_roundw
          case rel =>
            refine ⟨i + 1, _, _, _, ?_, ?_, by rw [wrap_next (by have := Hacc.out.2; have := HNN.out.2; omega)]; rfl, HT10⟩
            · rw [List.length_append, List.length_singleton, Hacc.out.1]
            · rw [List.length_eraseIdx_of_lt Hpl.out.1]; have := Hacc.out.2; have := Hpl.out.2.2; omega
          case measure => rw [wrap_next (by have := Hacc.out.2; have := HNN.out.2; omega)]; simp [intOf]; have := Hacc.out.2; have := Hpl.out.2.2; omega
        · have hL : L = [] := List.length_eq_zero_iff.1 (by omega)
          subst hL
          have hi1 : ¬ ((i : Int) < (N : Int)) := by rw [List.length_nil] at hLi; omega
          clear hacc hLi h0
          have hfm := RecT.Own.form HO.out.lf
          simp only [List.map_nil, List.length_nil] at hfm
          obtain ⟨pL, cL, eL⟩ := hfm
          subst eL
          have CN := lNext_any _ _ _ _ 0 m cd ts X (([] : List Se).map Se.s) U HO.out.inn (RecT.Own.at HO.out.lf) (Nat.zero_le _)
          obtain ⟨t0, t1⟩ := tab_box HO.out.ra.tab
          go_wp2_with fail
          refine (CN.mono fun e w' z => HO.out.on.next0 z).mono ?_
          rintro e7 w7 ⟨rfl, g7⟩
          have eX := HO.out.on.end
          have CS := sameFe_eq _ _ X w7 (HO.out.xs.keep g7) (by have h := HA5.out.keep (grown_trans HO.out.gr g7); rw [eX] at h; exact h) (by rw [HO.out.on.len]; have := HH.out.2.2.2; omega)
          have HG7 : Hid (w.grownBy w7 none) := grown_trans HO.out.ra.gr g7
          clear CN t0 t1 g7 eX
          go_wp2_with fail
          refine CS.mono ?_
          rintro e8 w8 ⟨rfl, g8⟩
          have HG8 : Hid (w.grownBy w8 none) := grown_trans HG7.out g8
          clear CS g8
          go_wp2_with fail
          go_ret
          exact ⟨rfl, HG8.out⟩
    · have hq1 : (q != 0) = true := by simpa using hq0
      obtain ⟨hz1, hz2⟩ := HZ4.out hq0
      subst hz1
      subst hz2
      obtain ⟨rfl, rfl, rfl, rfl⟩ := z5 hq0
      have hqq : (q == q) = true := beq_self_eq_true q
      clear hq0 h5 z5 HZ4 HO4
      go_wp2_with fail
      go_ret
      exact ⟨rfl, HS5.out.gr⟩
end Go.Proofs.YtblkghfnjahkeaaGreat
