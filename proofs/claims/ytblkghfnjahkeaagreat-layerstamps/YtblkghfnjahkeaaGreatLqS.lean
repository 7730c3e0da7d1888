/-
  LayerStamps: other stamps in the same order, other Hurt, Done, Fresh and Marks.
-/
import Derived.Test.YtblkghfnjahkeaaGreatR2
import Derived.Test.YtblkghfnjahkeaaGreatLpD
import Derived.Test.YtblkghfnjahkeaaGreatLpC
namespace Go.Proofs.YtblkghfnjahkeaaGreat
open Go.RowKit Go.Shelf

/-- Things of which the first i have other stamps. -/
structure Mix (b : Int) (i : Nat) (ts Y : List Th) : Prop where
  len : Y.length = ts.length
  new : ∀ (j : Nat) t u, j < i → ts[j]? = some t → Y[j]? = some u → Sh b t u
  old : ∀ j : Nat, i ≤ j → Y[j]? = ts[j]?
theorem Mix.start (b : Int) (ts : List Th) : Mix b 0 ts ts := ⟨rfl, fun _ _ _ h => absurd h (Nat.not_lt_zero _), fun _ _ => rfl⟩
theorem Mix.step {b : Int} {i : Nat} {ts Y : List Th} {t u : Th} (h : Mix b i ts Y) (ht : ts[i]? = some t) (hu : Sh b t u) : Mix b (i + 1) ts (Y.set i u) := by
  have hi : i < ts.length := (List.getElem?_eq_some_iff.1 ht).1
  refine ⟨by rw [List.length_set]; exact h.len, fun j a c hj ha hc => ?_, fun j hj => ?_⟩
  · by_cases e : j = i
    · subst e
      rw [List.getElem?_set_self (by rw [h.len]; exact hi)] at hc
      cases hc
      rw [ht] at ha
      cases ha
      exact hu
    · rw [List.getElem?_set_ne (by omega)] at hc
      exact h.new j a c (by omega) ha hc
  · rw [List.getElem?_set_ne (by omega)]
    exact h.old j (by omega)
theorem Mix.all {b : Int} {ts Y : List Th} {i : Nat} (h : Mix b i ts Y) (hi : ts.length ≤ i) : Shs b ts Y := ⟨h.len, fun j t u ht hu => h.new j t u (by have := (List.getElem?_eq_some_iff.1 ht).1; omega) ht hu⟩
theorem set_set (Y : List Th) (i : Nat) (a b : Th) : (Y.set i a).set i b = Y.set i b := by simp
theorem th_at {w : World} {base g n c : Nat} {l : List Th} {i : Nat} {t : Th} (O : thR.Own 86 w base (.slice (some ⟨g, 0, none⟩) n c) l) (ht : l[i]? = some t) : w.rangeAt g (i * 11) (thc t) := by
  have hi := (List.getElem?_eq_some_iff.1 ht)
  obtain ⟨g', off, cap, e, q⟩ := th_there (RecT.Own.at O) hi.1
  cases e
  rw [Nat.zero_add, hi.2] at q
  exact q
theorem th_free {w : World} {base g n c : Nat} {l : List Th} (O : thR.Own 86 w base (.slice (some ⟨g, 0, none⟩) n c) l) (j : Nat) : w.frozen? ⟨g, j, none⟩ = false := by
  obtain ⟨p, q, e⟩ := RecT.Own.form O
  cases e
  exact World.ownsRow.frozenAt O j
theorem th_form {w : World} {base n : Nat} {p : Option Addr} {c : Nat} {l : List Th} (O : thR.Own 86 w base (.slice p n c) l) (h0 : 0 < l.length) : ∃ g, p = some ⟨g, 0, none⟩ ∧ base ≤ g := by
  obtain ⟨g, cap, e, hb, _⟩ := own_cell O h0
  cases e
  exact ⟨g, rfl, hb⟩
set_option maxRecDepth 100000 in
set_option maxHeartbeats 4000000 in
theorem layerStamps_any (vc vm vt vf : Value) (op : Bool) (cs : List Ent) (ms : List Mk) (ts : List Th) (fs : List Fe) (k bb : Int) (w : World) (FI : FiA w vc vm cs ms) (TH : thR.At w vt ts) (FE : feR.At w vf fs) : Calls Tryz.prog 6 #[.agg #[vc, vm, .bool op], .agg #[vt, vf], .int .i64 k, .int .i64 bb] w fun e w' => e = .returned (.bool true) ∧ w.grownBy w' none := by
  obtain ⟨pc, kc, pm, km, rfl, rfl⟩ := FI.forms
  obtain ⟨pt, ct, rfl⟩ := TH.form
  obtain ⟨pf, cf, rfl⟩ := FE.form
  obtain ⟨W, hW⟩ : ∃ W, W = (w.alloc (.cells #[.slice pc cs.length kc, .slice pm ms.length km, .bool op] 58)).alloc (.cells #[.slice pt ts.length ct, .slice pf fs.length cf] 25) := ⟨_, rfl⟩
  have HG : Hid (w.grownBy W none) := by rw [hW]; exact grown_push (World.grownBy_alloc _ _ none) _
  have H0 : Hid (Pre w W w.heap.size (w.heap.size + 1) (.slice pc cs.length kc) (.slice pm ms.length km) (.slice pt ts.length ct) (.slice pf fs.length cf) op cs ms ts fs) := ⟨FI.keep HG.out, TH.keep HG.out, FE.keep HG.out, by rw [hW]; exact alloc_two _ _ _ _ _, by rw [hW]; exact alloc2_b _ _ _ _, HG.out⟩
  clear FI TH FE
  go_enter Tryz.func6, Tryz.ntmps6
  go_upto_region 1 with fail
  rw [← hW]
  obtain ⟨b0, hb0⟩ : ∃ b0, b0 = w.heap.size := ⟨_, rfl⟩
  obtain ⟨b1, hb1⟩ : ∃ b1, b1 = b0 + 1 := ⟨_, rfl⟩
  rw [← hb0, ← hb1] at H0 ⊢
  clear hW hb0 hb1 HG
  have C1 := lawake_any W
  go_wp2_with fail
  refine C1.mono ?_
  rintro e1 w1 ⟨rfl, g1⟩
  have H1 : Hid (Pre w w1 b0 b1 (.slice pc cs.length kc) (.slice pm ms.length km) (.slice pt ts.length ct) (.slice pf fs.length cf) op cs ms ts fs) := H0.out.keep g1
  clear C1 g1 H0
  have C2 := heavy_any pc pm pt pf cs.length ms.length ts.length fs.length kc km ct cf op w1
  obtain ⟨f0, f1, f2⟩ := fil_box H1.out.fb
  obtain ⟨t0, t1⟩ := tab_box H1.out.tb
  go_wp2_with fail
  refine C2.mono ?_
  rintro e2 w2 ⟨rfl, g2⟩
  have H2 : Hid (Pre w w2 b0 b1 (.slice pc cs.length kc) (.slice pm ms.length km) (.slice pt ts.length ct) (.slice pf fs.length cf) op cs ms ts fs) := H1.out.keep g2
  clear C2 g2 H1 f0 f1 f2 t0 t1
  cases hh : heavyB cs.length ms.length ts.length fs.length with
  | true =>
    go_wp2_with fail
    go_ret
    exact ⟨rfl, H2.out.gr⟩
  | false =>
    have HH : Hid (cs.length ≤ 80 ∧ ms.length ≤ 20 ∧ ts.length ≤ 2100 ∧ fs.length ≤ 2100) := heavyB_no hh
    clear hh
    have C3 := books_any _ _ op cs ms w2 H2.out.fi
    unfold BoPost at C3
    obtain ⟨f0, f1, f2⟩ := fil_box H2.out.fb
    obtain ⟨nB, hnB⟩ : ∃ nB, nB = w2.heap.size + 1 := ⟨_, rfl⟩
    rw [← hnB] at C3
    clear hnB
    go_wp2_with fail
    refine C3.mono ?_
    rintro e3 w3 ⟨v3, es3, fs3, p3, rfl, P3, -, g3⟩
    have HS' : Hid (RaS w w3 b1 (.pointer (some ⟨nB, 0, none⟩)) (.slice pt ts.length ct) (.slice pf fs.length cf) (refE p3 ts.length) (es3.length : Int) (atC p3 es3) ts fs) := H2.out.ras g3 P3 (by have := HH.out.2.2.2; omega)
    obtain ⟨r, hr⟩ : ∃ r, r = refE p3 ts.length := ⟨_, rfl⟩
    obtain ⟨m, hm⟩ : ∃ m, m = (es3.length : Int) := ⟨_, rfl⟩
    obtain ⟨cd, hcd⟩ : ∃ cd, cd = atC p3 es3 := ⟨_, rfl⟩
    have HB' : Hid (∀ W', w3.grownBy W' none → ∀ vt' ts', thR.At W' vt' ts' → ts'.length = ts.length → feR.At W' (.slice pf fs.length cf) fs → LIn W' (.pointer (some ⟨nB, 0, none⟩)) vt' (.slice pf fs.length cf) (refE p3 ts.length) (es3.length : Int) (atC p3 es3) ts' fs) := fun W' g vt' ts' A hl F => by have h := LIn.of (P3.book.keep g) A F (by have := HH.out.2.2.2; omega); rw [hl] at h; exact h
    rw [← hr, ← hm, ← hcd] at HS' HB'
    have HB : Hid (∀ W', w3.grownBy W' none → ∀ vt' ts', thR.At W' vt' ts' → ts'.length = ts.length → feR.At W' (.slice pf fs.length cf) fs → LIn W' (.pointer (some ⟨nB, 0, none⟩)) vt' (.slice pf fs.length cf) r m cd ts' fs) := HB'.out
    have HS : Hid (RaS w w3 b1 (.pointer (some ⟨nB, 0, none⟩)) (.slice pt ts.length ct) (.slice pf fs.length cf) r m cd ts fs) := HS'.out
    clear C3 P3 g3 H2 f0 f1 f2 HS' HB' hr hm hcd
    clear p3 es3 fs3 v3
    obtain ⟨vt, hvt⟩ : ∃ vt, vt = Value.slice pt ts.length ct := ⟨_, rfl⟩
    clear hvt vt
    have C4 := kpick_any bb 1000000 w3 (by decide) (by decide)
    go_wp2_with fail
    refine C4.mono ?_
    rintro e4 w4 ⟨⟨b, hb, rfl⟩, hw4⟩
    rw [hw4]
    clear hw4 w4 C4
    have Hb : Hid (b < 1000000) := hb
    clear hb
    have C5 := copyTh_any _ ts w3 HS.out.inn.things (by have := HH.out.2.2.1; omega)
    obtain ⟨t0, t1⟩ := tab_box HS.out.tab
    go_wp2_with fail
    refine C5.mono ?_
    rintro e5 w5 ⟨v5, rfl, o5, g5⟩
    obtain ⟨p5, c5, ev5⟩ := RecT.Own.form o5
    subst ev5
    have HO5 : Hid (thR.Own 86 w5 w3.heap.size (.slice p5 ts.length c5) ts ∧ w3.grownBy w5 none) := ⟨o5, g5⟩
    clear C5 t0 t1 o5 g5
    go_wp2_with fail
    have hsm : Small ts.length := by have := HH.out.2.2.1; unfold Small; omega
    go_loopw [14] (fun x14 wr => ∃ (i : Nat) (Y : List Th), i ≤ ts.length ∧ x14 = .int .i64 (i : Int) ∧ Hid (Mix (b : Int) i ts Y ∧ thR.Own 86 wr w3.heap.size (.slice p5 ts.length c5) Y ∧ w3.grownBy wr none)) (fun x14 _ => ts.length - (intOf x14).toNat)
    case atStart => exact ⟨0, ts, Nat.zero_le _, rfl, Mix.start _ _, HO5.out.1, HO5.out.2⟩
    case round =>
      obtain ⟨i, Y, hi, rfl, HM⟩ := hrel
      obtain ⟨U, hU⟩ : ∃ U, U = wr := ⟨_, rfl⟩
      subst hU
      clear HO5
      rcases (show i < ts.length ∨ i = ts.length from by omega) with hil | hie
      · have i0 : (0 : Int) ≤ (i : Int) := by omega
        have i1 : (i : Int) < (ts.length : Int) := by omega
        obtain ⟨g, ep, hgb⟩ := th_form HM.out.2.1 (by rw [HM.out.1.len]; omega)
        subst ep
        obtain ⟨t, ht⟩ : ∃ t, ts[i]? = some t := ⟨_, List.getElem?_eq_getElem hil⟩
        have hY : Y[i]? = some t := by rw [HM.out.1.old i (Nat.le_refl _)]; exact ht
        have HT : Hid (ts[i]? = some t ∧ Y[i]? = some t ∧ w3.heap.size ≤ g ∧ i < Y.length) := ⟨ht, hY, hgb, by rw [HM.out.1.len]; exact hil⟩
        clear ht hY hgb hi
        obtain ⟨c0, c1, c2, c3, c4, c5', c6, c7, c8, c9, c10⟩ := th_cells (th_at HM.out.2.1 HT.out.2.1)
        have rf := th_free HM.out.2.1
        by_cases h1 : (1125899906842624 : Int) < t.stamp
        · have e1 : decide ((1125899906842624 : Int) < t.stamp) = true := decide_eq_true h1
          go_wp2_with fail
          go_ret
          exact ⟨rfl, grown_trans HS.out.gr HM.out.2.2⟩
        · have e1 : decide ((1125899906842624 : Int) < t.stamp) = false := decide_eq_false h1
          by_cases h2 : t.stamp < 1
          · have e2 : decide (t.stamp < 1) = true := decide_eq_true h2
            go_wp2_with fail
            go_ret
            exact ⟨rfl, grown_trans HS.out.gr HM.out.2.2⟩
          · have e2 : decide (t.stamp < 1) = false := decide_eq_false h2
            have hw1 : wrap64 (3 * t.stamp) = 3 * t.stamp := by unfold wrap64; omega
            have hw2 : wrap64 (3 * t.stamp + (b : Int)) = 3 * t.stamp + (b : Int) := by have := Hb.out; unfold wrap64; omega
            have HP : Hid (1 ≤ t.stamp) := by show 1 ≤ t.stamp; omega
            clear h1 h2
            go_upto_region 13 with fail
            obtain ⟨V1, hV1⟩ : ∃ V, V = U.setCell ⟨g, i * 11 + 3, none⟩ (.int .i64 (3 * t.stamp + (b : Int))) := ⟨_, rfl⟩
            have S1 := th_store (i := i) (d := 3) (t := t) (t' := { t with stamp := 3 * t.stamp + (b : Int) }) (v := .int .i64 (3 * t.stamp + (b : Int))) HM.out.2.1 (by rw [HM.out.1.len]) (HT.out.2.1) (by decide) rfl
            rw [← hV1] at S1
            have HOV1 : Hid (thR.Own 86 V1 w3.heap.size (.slice (some ⟨g, 0, none⟩) ts.length c5) (Y.set i ({ t with stamp := 3 * t.stamp + (b : Int) })) ∧ w3.grownBy V1 none) := ⟨S1.1, grown_own HM.out.2.2 S1.2 (fun y e => by cases e; exact HT.out.2.2.1)⟩
            rw [← hV1]
            clear S1 hV1 c0 c1 c2 c3 c4 c5' c6 c7 c8 c9 c10 rf
            obtain ⟨c0, c1, c2, c3, c4, c5', c6, c7, c8, c9, c10⟩ := th_cells (th_at HOV1.out.1 (List.getElem?_set_self HT.out.2.2.2))
            have rf := th_free HOV1.out.1
            go_upto_region 14 with fail
            obtain ⟨V2, hV2⟩ : ∃ V, V = V1.setCell ⟨g, i * 11 + 4, none⟩ (.int .i64 (bits .xor .i64 t.hurt (b : Int))) := ⟨_, rfl⟩
            have S2 := th_store (i := i) (d := 4) (t := { t with stamp := 3 * t.stamp + (b : Int) }) (t' := { t with stamp := 3 * t.stamp + (b : Int), hurt := bits .xor .i64 t.hurt (b : Int) }) (v := .int .i64 (bits .xor .i64 t.hurt (b : Int))) HOV1.out.1 (by rw [List.length_set, HM.out.1.len]) (List.getElem?_set_self HT.out.2.2.2) (by decide) rfl
            rw [← hV2, set_set] at S2
            have HOV2 : Hid (thR.Own 86 V2 w3.heap.size (.slice (some ⟨g, 0, none⟩) ts.length c5) (Y.set i ({ t with stamp := 3 * t.stamp + (b : Int), hurt := bits .xor .i64 t.hurt (b : Int) })) ∧ w3.grownBy V2 none) := ⟨S2.1, grown_own HOV1.out.2 S2.2 (fun y e => by cases e; exact HT.out.2.2.1)⟩
            rw [← hV2]
            clear S2 hV2 c0 c1 c2 c3 c4 c5' c6 c7 c8 c9 c10 rf
            obtain ⟨c0, c1, c2, c3, c4, c5', c6, c7, c8, c9, c10⟩ := th_cells (th_at HOV2.out.1 (List.getElem?_set_self HT.out.2.2.2))
            have rf := th_free HOV2.out.1
            go_upto_region 15 with fail
            obtain ⟨V3, hV3⟩ : ∃ V, V = V2.setCell ⟨g, i * 11 + 9, none⟩ (.int .i64 (b : Int)) := ⟨_, rfl⟩
            have S3 := th_store (i := i) (d := 9) (t := { t with stamp := 3 * t.stamp + (b : Int), hurt := bits .xor .i64 t.hurt (b : Int) }) (t' := { t with stamp := 3 * t.stamp + (b : Int), hurt := bits .xor .i64 t.hurt (b : Int), done := (b : Int) }) (v := .int .i64 (b : Int)) HOV2.out.1 (by rw [List.length_set, HM.out.1.len]) (List.getElem?_set_self HT.out.2.2.2) (by decide) rfl
            rw [← hV3, set_set] at S3
            have HOV3 : Hid (thR.Own 86 V3 w3.heap.size (.slice (some ⟨g, 0, none⟩) ts.length c5) (Y.set i ({ t with stamp := 3 * t.stamp + (b : Int), hurt := bits .xor .i64 t.hurt (b : Int), done := (b : Int) })) ∧ w3.grownBy V3 none) := ⟨S3.1, grown_own HOV2.out.2 S3.2 (fun y e => by cases e; exact HT.out.2.2.1)⟩
            rw [← hV3]
            clear S3 hV3 c0 c1 c2 c3 c4 c5' c6 c7 c8 c9 c10 rf
            obtain ⟨c0, c1, c2, c3, c4, c5', c6, c7, c8, c9, c10⟩ := th_cells (th_at HOV3.out.1 (List.getElem?_set_self HT.out.2.2.2))
            have rf := th_free HOV3.out.1
            go_upto_region 16 with fail
            obtain ⟨V4, hV4⟩ : ∃ V, V = V3.setCell ⟨g, i * 11 + 10, none⟩ (.bool (!t.fresh)) := ⟨_, rfl⟩
            have S4 := th_store (i := i) (d := 10) (t := { t with stamp := 3 * t.stamp + (b : Int), hurt := bits .xor .i64 t.hurt (b : Int), done := (b : Int) }) (t' := { t with stamp := 3 * t.stamp + (b : Int), hurt := bits .xor .i64 t.hurt (b : Int), done := (b : Int), fresh := !t.fresh }) (v := .bool (!t.fresh)) HOV3.out.1 (by rw [List.length_set, HM.out.1.len]) (List.getElem?_set_self HT.out.2.2.2) (by decide) rfl
            rw [← hV4, set_set] at S4
            have HOV4 : Hid (thR.Own 86 V4 w3.heap.size (.slice (some ⟨g, 0, none⟩) ts.length c5) (Y.set i ({ t with stamp := 3 * t.stamp + (b : Int), hurt := bits .xor .i64 t.hurt (b : Int), done := (b : Int), fresh := !t.fresh })) ∧ w3.grownBy V4 none) := ⟨S4.1, grown_own HOV3.out.2 S4.2 (fun y e => by cases e; exact HT.out.2.2.1)⟩
            rw [← hV4]
            clear S4 hV4 c0 c1 c2 c3 c4 c5' c6 c7 c8 c9 c10 rf
            obtain ⟨c0, c1, c2, c3, c4, c5', c6, c7, c8, c9, c10⟩ := th_cells (th_at HOV4.out.1 (List.getElem?_set_self HT.out.2.2.2))
            have rf := th_free HOV4.out.1
            rcases (show (b : Int).tmod 4 = 0 ∨ (b : Int).tmod 4 = 1 ∨ (b : Int).tmod 4 = 2 ∨ (b : Int).tmod 4 = 3 from by rw [Int.tmod_eq_emod_of_nonneg (Int.natCast_nonneg b)]; omega) with hs | hs | hs | hs
            · clear HB
              go_wp2_with fail
              have S5 := th_store (i := i) (d := 5) (t := { t with stamp := 3 * t.stamp + (b : Int), hurt := bits .xor .i64 t.hurt (b : Int), done := (b : Int), fresh := !t.fresh }) (t' := { t with stamp := 3 * t.stamp + (b : Int), hurt := bits .xor .i64 t.hurt (b : Int), done := (b : Int), fresh := !t.fresh, m0 := (b : Int) }) (v := .int .i64 (b : Int)) HOV4.out.1 (by rw [List.length_set, HM.out.1.len]) (List.getElem?_set_self HT.out.2.2.2) (by decide) rfl
              rw [set_set] at S5
              go_roundw
              case rel => exact ⟨i + 1, Y.set i ({ t with stamp := 3 * t.stamp + (b : Int), hurt := bits .xor .i64 t.hurt (b : Int), done := (b : Int), fresh := !t.fresh, m0 := (b : Int) }), hil, by first | rfl | (rw [hsm.wrap hil]; rfl), HM.out.1.step (u := { t with stamp := 3 * t.stamp + (b : Int), hurt := bits .xor .i64 t.hurt (b : Int), done := (b : Int), fresh := !t.fresh, m0 := (b : Int) }) HT.out.1 ⟨rfl, rfl, rfl, rfl, HP.out⟩, S5.1, grown_own HOV4.out.2 S5.2 (fun y e => by cases e; exact HT.out.2.2.1)⟩
              case measure => first | exact meas_next hil | (rw [hsm.wrap hil]; exact meas_next hil)
            · clear HB
              go_wp2_with fail
              have S5 := th_store (i := i) (d := 6) (t := { t with stamp := 3 * t.stamp + (b : Int), hurt := bits .xor .i64 t.hurt (b : Int), done := (b : Int), fresh := !t.fresh }) (t' := { t with stamp := 3 * t.stamp + (b : Int), hurt := bits .xor .i64 t.hurt (b : Int), done := (b : Int), fresh := !t.fresh, m1 := (b : Int) }) (v := .int .i64 (b : Int)) HOV4.out.1 (by rw [List.length_set, HM.out.1.len]) (List.getElem?_set_self HT.out.2.2.2) (by decide) rfl
              rw [set_set] at S5
              go_roundw
              case rel => exact ⟨i + 1, Y.set i ({ t with stamp := 3 * t.stamp + (b : Int), hurt := bits .xor .i64 t.hurt (b : Int), done := (b : Int), fresh := !t.fresh, m1 := (b : Int) }), hil, by first | rfl | (rw [hsm.wrap hil]; rfl), HM.out.1.step (u := { t with stamp := 3 * t.stamp + (b : Int), hurt := bits .xor .i64 t.hurt (b : Int), done := (b : Int), fresh := !t.fresh, m1 := (b : Int) }) HT.out.1 ⟨rfl, rfl, rfl, rfl, HP.out⟩, S5.1, grown_own HOV4.out.2 S5.2 (fun y e => by cases e; exact HT.out.2.2.1)⟩
              case measure => first | exact meas_next hil | (rw [hsm.wrap hil]; exact meas_next hil)
            · clear HB
              go_wp2_with fail
              have S5 := th_store (i := i) (d := 7) (t := { t with stamp := 3 * t.stamp + (b : Int), hurt := bits .xor .i64 t.hurt (b : Int), done := (b : Int), fresh := !t.fresh }) (t' := { t with stamp := 3 * t.stamp + (b : Int), hurt := bits .xor .i64 t.hurt (b : Int), done := (b : Int), fresh := !t.fresh, m2 := (b : Int) }) (v := .int .i64 (b : Int)) HOV4.out.1 (by rw [List.length_set, HM.out.1.len]) (List.getElem?_set_self HT.out.2.2.2) (by decide) rfl
              rw [set_set] at S5
              go_roundw
              case rel => exact ⟨i + 1, Y.set i ({ t with stamp := 3 * t.stamp + (b : Int), hurt := bits .xor .i64 t.hurt (b : Int), done := (b : Int), fresh := !t.fresh, m2 := (b : Int) }), hil, by first | rfl | (rw [hsm.wrap hil]; rfl), HM.out.1.step (u := { t with stamp := 3 * t.stamp + (b : Int), hurt := bits .xor .i64 t.hurt (b : Int), done := (b : Int), fresh := !t.fresh, m2 := (b : Int) }) HT.out.1 ⟨rfl, rfl, rfl, rfl, HP.out⟩, S5.1, grown_own HOV4.out.2 S5.2 (fun y e => by cases e; exact HT.out.2.2.1)⟩
              case measure => first | exact meas_next hil | (rw [hsm.wrap hil]; exact meas_next hil)
            · clear HB
              go_wp2_with fail
              have S5 := th_store (i := i) (d := 8) (t := { t with stamp := 3 * t.stamp + (b : Int), hurt := bits .xor .i64 t.hurt (b : Int), done := (b : Int), fresh := !t.fresh }) (t' := { t with stamp := 3 * t.stamp + (b : Int), hurt := bits .xor .i64 t.hurt (b : Int), done := (b : Int), fresh := !t.fresh, m3 := (b : Int) }) (v := .int .i64 (b : Int)) HOV4.out.1 (by rw [List.length_set, HM.out.1.len]) (List.getElem?_set_self HT.out.2.2.2) (by decide) rfl
              rw [set_set] at S5
              go_roundw
              case rel => exact ⟨i + 1, Y.set i ({ t with stamp := 3 * t.stamp + (b : Int), hurt := bits .xor .i64 t.hurt (b : Int), done := (b : Int), fresh := !t.fresh, m3 := (b : Int) }), hil, by first | rfl | (rw [hsm.wrap hil]; rfl), HM.out.1.step (u := { t with stamp := 3 * t.stamp + (b : Int), hurt := bits .xor .i64 t.hurt (b : Int), done := (b : Int), fresh := !t.fresh, m3 := (b : Int) }) HT.out.1 ⟨rfl, rfl, rfl, rfl, HP.out⟩, S5.1, grown_own HOV4.out.2 S5.2 (fun y e => by cases e; exact HT.out.2.2.1)⟩
              case measure => first | exact meas_next hil | (rw [hsm.wrap hil]; exact meas_next hil)
      · have i1 : ¬ (i : Int) < (ts.length : Int) := by omega
        have HSh : Hid (Shs (b : Int) ts Y) := HM.out.1.all (by omega)
        have HU : Hid (thR.At U (.slice p5 ts.length c5) Y ∧ w3.grownBy U none) := ⟨RecT.Own.at HM.out.2.1, HM.out.2.2⟩
        have HS5 : Hid (RaS w U b1 (.pointer (some ⟨nB, 0, none⟩)) (.slice pt ts.length ct) (.slice pf fs.length cf) r m cd ts fs) := HS.out.keep HM.out.2.2
        clear hie HM HS hi
        have C6 := lAll_any _ _ _ r m cd ts fs k U HS5.out.inn
        obtain ⟨t0, t1⟩ := tab_box HS5.out.tab
        go_wp2_with fail
        refine (C6.mono fun e w' z => z.lists).mono ?_
        rintro e6 w6 ⟨pa, ca, ps, cs', rfl, g6, A6, S6⟩
        have HS6 : Hid (RaS w w6 b1 (.pointer (some ⟨nB, 0, none⟩)) (.slice pt ts.length ct) (.slice pf fs.length cf) r m cd ts fs) := HS5.out.keep g6
        have C7 := lAll_any _ _ _ r m cd Y fs k w6 (HB.out w6 (grown_trans HU.out.2 g6) _ Y (HU.out.1.keep g6) HSh.out.len HS6.out.inn.feats)
        have HN : Hid (∀ e w', AllPost w6 r m cd Y fs k e w' → ∃ p c p' c', e = .returned (.tuple #[.slice p (allA r m cd ts fs k).length c, .slice p' (allS r m cd ts fs k).length c', .int .i64 (bgE r m cd ts fs k)]) ∧ w6.grownBy w' none ∧ feR.At w' (.slice p (allA r m cd ts fs k).length c) (allA r m cd ts fs k) ∧ sdR.At w' (.slice p' (allS r m cd ts fs k).length c') (allS r m cd ts fs k)) := fun e w' z => by have h := z.lists; rw [allA_up (by omega) HSh.out, allS_up (by omega) HSh.out, bg_up (by omega) HSh.out] at h; exact h
        have HL : Hid ((allA r m cd ts fs k).length ≤ 4096 ∧ (allS r m cd ts fs k).length ≤ 4096) := ⟨by
          unfold allA
          split
          · split
            · rw [amgL_len]; have := HH.out.2.2.2; omega
            · exact Nat.zero_le _
          · exact Nat.zero_le _, by
          unfold allS
          split
          · rename_i h0
            obtain ⟨hr0, _, _, _⟩ := bgE_of h0
            split
            · rename_i R hR
              rw [List.length_map]
              have h1 := Nat.le_of_eq (allR_len R fs k)
              have h2 := (Tab.of hR).effs (HS6.out.inn.book hr0).1.few (pickF R fs) k
              omega
            · exact Nat.zero_le _
          · exact Nat.zero_le _⟩
        obtain ⟨A, hA⟩ : ∃ A, A = allA r m cd ts fs k := ⟨_, rfl⟩
        obtain ⟨S, hS⟩ : ∃ S, S = allS r m cd ts fs k := ⟨_, rfl⟩
        obtain ⟨q, hq⟩ : ∃ q, q = bgE r m cd ts fs k := ⟨_, rfl⟩
        rw [← hA, ← hS, ← hq] at HN
        rw [← hA, ← hS] at HL
        rw [← hA] at A6
        rw [← hS] at S6
        rw [← hA, ← hS, ← hq]
        have HA6 : Hid (feR.At w6 (.slice pa A.length ca) A ∧ sdR.At w6 (.slice ps S.length cs') S) := ⟨A6, S6⟩
        clear C6 t0 t1 hA hS hq A6 S6 g6 HS5 HU
        obtain ⟨t0, t1⟩ := tab_box HS6.out.tab
        go_wp2_with fail
        refine (C7.mono HN.out).mono ?_
        rintro e7 w7 ⟨pa7, ca7, ps7, cs7, rfl, g7, A7, S7⟩
        have C8 := sameFe_eq _ _ A w7 (HA6.out.1.keep g7) A7 HL.out.1
        have H7 : Hid (sdR.At w7 (.slice ps S.length cs') S ∧ sdR.At w7 (.slice ps7 S.length cs7) S ∧ w.grownBy w7 none) := ⟨HA6.out.2.keep g7, S7, grown_trans HS6.out.gr g7⟩
        have hqq : (q == q) = true := beq_self_eq_true q
        clear C7 t0 t1 A7 S7 g7 HN HS6 HA6
        go_wp2_with fail
        refine C8.mono ?_
        rintro e8 w8 ⟨rfl, g8⟩
        have C9 := sameSd_eq _ _ S w8 (H7.out.1.keep g8) (H7.out.2.1.keep g8) HL.out.2
        have HG8 : Hid (w.grownBy w8 none) := grown_trans H7.out.2.2 g8
        clear C8 g8 H7
        go_wp2_with fail
        refine C9.mono ?_
        rintro e9 w9 ⟨rfl, g9⟩
        have HG9 : Hid (w.grownBy w9 none) := grown_trans HG8.out g9
        clear C9 g9
        go_wp2_with fail
        go_ret
        exact ⟨rfl, HG9.out⟩
end Go.Proofs.YtblkghfnjahkeaaGreat
