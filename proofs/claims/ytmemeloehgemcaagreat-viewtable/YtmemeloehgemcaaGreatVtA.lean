/-
  ViewTable, helpers: the things with stamps of another size, and without what counts for nothing.
-/
import Derived.Test.YtmemeloehgemcaaGreatT44
import Derived.BigQuiet
namespace Go.Proofs.YtmemeloehgemcaaGreat
open Go.RowKit Go.Shelf

def pkN (k : Int) (n : Nat) : Nat := if k.tmod n < 0 then (k.tmod n + n).toNat else (k.tmod n).toNat
theorem pkN_lt {k : Int} {n : Nat} (hn : 0 < n) : pkN k n < n := by
  have b1 : k.tmod n < n := Int.tmod_lt_of_pos k (by omega)
  have b2 : -(n : Int) < k.tmod n := by
    have h := Int.tmod_lt_of_pos (-k) (show (0 : Int) < n by omega)
    rw [Int.neg_tmod] at h
    omega
  unfold pkN
  split <;> omega
set_option maxHeartbeats 1000000 in
theorem kpickd_any (k : Int) (n : Nat) (w : World) (hn : 0 < n) (hm : n ≤ 4294967296) : Calls Tryz.prog 13 #[.int .i64 k, .int .i64 n] w fun e w' => e = .returned (.int .i64 ((pkN k n : Nat) : Int)) ∧ w' = w := by
  have h1 : ¬ ((n : Int) < 1) := by omega
  have h0 : ((n : Int) == 0) = false := by simpa using (show ¬ ((n : Int) = 0) by omega)
  have b1 : k.tmod n < n := Int.tmod_lt_of_pos k (by omega)
  have b2 : -(n : Int) < k.tmod n := by
    have h := Int.tmod_lt_of_pos (-k) (show (0 : Int) < n by omega)
    rw [Int.neg_tmod] at h
    omega
  by_cases hg : k.tmod n < 0
  · have HX : Hid (((pkN k n : Nat) : Int) = k.tmod n + n) := by show _ = _; unfold pkN; rw [if_pos hg]; omega
    have hw : wrap64 (k.tmod n + n) = k.tmod n + n := by unfold wrap64; omega
    go_enter Tryz.func13, Tryz.ntmps13
    go_wp2
    go_ret
    exact ⟨by rw [HX.out]; rfl, rfl⟩
  · have HX : Hid (((pkN k n : Nat) : Int) = k.tmod n) := by show _ = _; unfold pkN; rw [if_neg hg]; omega
    go_enter Tryz.func13, Tryz.ntmps13
    go_wp2
    go_ret
    exact ⟨by rw [HX.out]; rfl, rfl⟩
structure Mx (f : Th → Th) (i : Nat) (ts Y : List Th) : Prop where
  len : Y.length = ts.length
  new : ∀ j, j < i → Y[j]? = (ts[j]?).map f
  old : ∀ j, i ≤ j → Y[j]? = ts[j]?
theorem Mx.start (f : Th → Th) (ts : List Th) : Mx f 0 ts ts := ⟨rfl, fun _ h => absurd h (Nat.not_lt_zero _), fun _ _ => rfl⟩
theorem Mx.step {f : Th → Th} {i : Nat} {ts Y : List Th} {t u : Th} (h : Mx f i ts Y) (ht : ts[i]? = some t) (hu : u = f t) : Mx f (i + 1) ts (Y.set i u) := by
  have hi : i < Y.length := by rw [h.len]; exact (List.getElem?_eq_some_iff.1 ht).1
  refine ⟨by rw [List.length_set]; exact h.len, fun j hj => ?_, fun j hj => ?_⟩
  · by_cases q : i = j
    · subst q
      rw [List.getElem?_set_self hi, ht, hu]
      rfl
    · rw [List.getElem?_set_ne q]
      exact h.new j (by omega)
  · rw [List.getElem?_set_ne (by omega)]
    exact h.old j (by omega)
theorem Mx.done {f : Th → Th} {ts Y : List Th} (h : Mx f ts.length ts Y) : Y = ts.map f := by
  refine List.ext_getElem? fun j => ?_
  rw [List.getElem?_map]
  by_cases hj : j < ts.length
  · exact h.new j hj
  · rw [h.old j (by omega), List.getElem?_eq_none (by omega)]
    rfl
theorem rk_arith {n r : Nat} (hn : n ≤ 60) (hr : r < 1000) : wrap64 (1 + (r : Int)) = 1 + (r : Int) ∧ wrap64 ((n : Int) * (1 + (r : Int))) = (n : Int) * (1 + (r : Int)) ∧ wrap64 (1 + (n : Int) * (1 + (r : Int))) = 1 + (n : Int) * (1 + (r : Int)) := by
  obtain ⟨m, hm⟩ : ∃ m : Nat, m = n * (1 + r) := ⟨_, rfl⟩
  have h1 : m ≤ 60 * 1000 := by rw [hm]; exact Nat.mul_le_mul hn (by omega)
  have h2 : (n : Int) * (1 + (r : Int)) = (m : Int) := by rw [hm]; simp
  rw [h2]
  exact ⟨by unfold wrap64; omega, by unfold wrap64; omega, by unfold wrap64; omega⟩
theorem th_gone {w : World} {base g n c i : Nat} {l : List Th} {t : Th} (O : thR.Own 60 w base (.slice (some ⟨g, 0, none⟩) n c) l) (hn : l.length = n) (hi : i < n) : thR.Own 60 (w.setCells g (i * 11) (thc t)) base (.slice (some ⟨g, 0, none⟩) n c) (l.set i t) ∧ w.grownBy (w.setCells g (i * 11) (thc t)) (some g) := RecT.Own.set O hn hi t
theorem th_nextV {w : World} {g off n c : Nat} {X : List Th} (h : thR.At w (.slice (some ⟨g, off, none⟩) n c) X) {i : Nat} (hi : i < X.length) : w.rangeAt g (off + i * 11) (thc X[i]) := by
  obtain ⟨g', off', cap, e, r⟩ := th_there h hi
  injection e with e1 _ _
  injection e1 with e1
  injection e1 with ea eb
  rw [ea, eb]
  exact r
theorem th_cell10 {w : World} {g off n c i : Nat} {X : List Th} {t : Th} (h : thR.At w (.slice (some ⟨g, off, none⟩) n c) X) (ht : X[i]? = some t) : w.cell? ⟨g, off + i * 11 + 10, none⟩ = some (.bool t.fresh) := by
  obtain ⟨hi, e⟩ := List.getElem?_eq_some_iff.1 ht
  have r := th_nextV h hi
  rw [e] at r
  exact (th_cells r).2.2.2.2.2.2.2.2.2.2
set_option maxRecDepth 100000 in
set_option maxHeartbeats 4000000 in
theorem ranked_any (vt : Value) (ts : List Th) (b : Int) (w : World) (A : thR.At w vt ts) (h60 : ts.length ≤ 60) : Calls Tryz.prog 33 #[vt, .int .i64 b] w fun e w' => ∃ v, e = .returned v ∧ thR.Own 60 w' w.heap.size v (ts.map (rkT (pkN b 1000) ts)) ∧ w.grownBy w' none := by
  obtain ⟨pt, ct, rfl⟩ := A.form
  have HA : Hid (thR.At w (.slice pt ts.length ct) ts) := A
  have H60 : Hid (ts.length ≤ 60) := h60
  obtain ⟨r, hr⟩ : ∃ r, r = pkN b 1000 := ⟨_, rfl⟩
  have Hr : Hid (r = pkN b 1000 ∧ r < 1000) := ⟨hr, by rw [hr]; exact pkN_lt (by decide)⟩
  have CP : Hid (∀ X, Calls Tryz.prog 13 #[.int .i64 b, .int .i64 1000] X fun e w' => e = .returned (.int .i64 (r : Int)) ∧ w' = X) := fun X => by rw [hr]; exact kpickd_any b 1000 X (by decide) (by decide)
  rw [← hr]
  have C1 := copyTh_any (.slice pt ts.length ct) ts w A (by omega)
  clear A h60 hr
  go_enter Tryz.func33, Tryz.ntmps33
  go_wp2_with fail
  refine C1.mono ?_
  rintro e1 w1 ⟨v1, rfl, o1, g1⟩
  obtain ⟨p5, c5, ev5⟩ := RecT.Own.form o1
  subst ev5
  have HO : Hid (thR.Own 60 w1 w.heap.size (.slice p5 ts.length c5) ts ∧ w.grownBy w1 none) := ⟨o1, g1⟩
  clear C1 o1 g1
  go_wp2_with fail
  go_loopw [6, 7, 8] (fun x _ _ wr => ∃ (i : Nat) (Y : List Th), i ≤ ts.length ∧ x = .int .i64 (i : Int) ∧ Hid (Mx (rkT r ts) i ts Y ∧ thR.Own 60 wr w.heap.size (.slice p5 ts.length c5) Y ∧ w.grownBy wr none)) (fun x _ _ _ => ts.length - (intOf x).toNat)
  case atStart => exact ⟨0, ts, Nat.zero_le _, rfl, Mx.start _ _, HO.out.1, HO.out.2⟩
  case round =>
    obtain ⟨i, Y, hi', rfl, HM⟩ := hrel
    obtain ⟨U, hU⟩ : ∃ U, U = wr := ⟨_, rfl⟩
    subst hU
    clear HO
    by_cases hi : i < ts.length
    · obtain ⟨g, ep, hgb⟩ := th_form HM.out.2.1 (by rw [HM.out.1.len]; omega)
      subst ep
      obtain ⟨gT, oT, cT, eT, rT⟩ := th_there (HA.out.keep HM.out.2.2) hi
      cases eT
      have ht : ts[i]? = some ts[i] := List.getElem?_eq_getElem hi
      obtain ⟨t, htd⟩ : ∃ t, t = ts[i] := ⟨_, rfl⟩
      rw [← htd] at rT ht
      have hgT : gT < w.heap.size := by
        obtain ⟨gT', oT', cT', eT', rT'⟩ := th_there HA.out hi
        injection eT' with e1' _ _
        injection e1' with e1'
        injection e1' with ea _
        rw [ea]
        exact cell_in (th_cells rT').1
      have HT : Hid (ts[i]? = some t ∧ Y[i]? = some t ∧ w.heap.size ≤ g ∧ i < Y.length ∧ gT < g ∧ i < ts.length) := ⟨ht, by rw [HM.out.1.old i (Nat.le_refl _)]; exact ht, hgb, by rw [HM.out.1.len]; exact hi, by omega, hi⟩
      have HAU : Hid (thR.At U (.slice (some ⟨gT, oT, none⟩) ts.length ct) ts) := HA.out.keep HM.out.2.2
      have i1 : (i : Int) < (ts.length : Int) := Int.ofNat_lt.2 hi
      have hwk := wrap_next (k := i) (Nat.le_trans (Nat.le_of_lt hi) (Nat.le_trans H60.out (by decide)))
      have HMi : Hid (ts.length - (intOf (.int .i64 ((i : Int) + 1))).toNat < ts.length - (intOf (.int .i64 (i : Int))).toNat) := meas_k hi
      obtain ⟨c0, c1, c2, c3, c4, c5', c6, c7, c8, c9, c10⟩ := th_cells rT
      have hne : some gT ≠ some g := fun q => by cases q; omega
      clear hi' hi rT ht htd hgb hgT
      by_cases hp : t.place = 4
      · have hpb : (t.place != 4) = false := by rw [hp]; rfl
        have Hp : Hid (t.place = 4) := hp
        clear hp
        go_wp2_with fail
        clear c0 c1 c2 c3 c4 c5' c6 c7 c8 c9 c10
        go_loopw [7, 8] (fun x y wr => ∃ (k : Nat), k ≤ ts.length ∧ y = .int .i64 (k : Int) ∧ x = .int .i64 ((cntL ts t.stamp k : Nat) : Int) ∧ Hid (U.grownBy wr none)) (fun _ y _ => ts.length - (intOf y).toNat)
        case atStart => exact ⟨0, Nat.zero_le _, rfl, rfl, grown_refl _ _⟩
        case round =>
          obtain ⟨k, hk', rfl, rfl, HG⟩ := hrel
          obtain ⟨Q, hQ⟩ : ∃ Q, Q = wr := ⟨_, rfl⟩
          subst hQ
          by_cases hk : k < ts.length
          · have rk := th_nextV (HAU.out.keep HG.out) hk
            have ri := th_nextV (HAU.out.keep HG.out) HT.out.2.2.2.2.2
            obtain ⟨s, hs⟩ : ∃ s, s = ts[k] := ⟨_, rfl⟩
            have hsk : ts[k]? = some s := by rw [hs]; exact List.getElem?_eq_getElem hk
            rw [← hs] at rk
            have eti : ts[i]'HT.out.2.2.2.2.2 = t := (List.getElem?_eq_some_iff.1 HT.out.1).2
            rw [eti] at ri
            obtain ⟨-, -, k2, k3, -⟩ := th_cells rk
            obtain ⟨-, -, -, t3, -⟩ := th_cells ri
            have k1 : (k : Int) < (ts.length : Int) := Int.ofNat_lt.2 hk
            have hwk2 := wrap_next (k := k) (Nat.le_trans (Nat.le_of_lt hk) (Nat.le_trans H60.out (by decide)))
            have hcl := cnt_le ts t.stamp k
            have hwc := wrap_next (k := cntL ts t.stamp k) (by have := H60.out; omega)
            have Hk : Hid (k + 1 ≤ ts.length) := hk
            have HMk : Hid (ts.length - (intOf (.int .i64 ((k : Int) + 1))).toNat < ts.length - (intOf (.int .i64 (k : Int))).toNat) := meas_k hk
            have Hsk : Hid (ts[k]? = some s) := hsk
            obtain ⟨cn, hcn⟩ : ∃ cn, cn = cntL ts t.stamp k := ⟨_, rfl⟩
            have Hcn : Hid (cn = cntL ts t.stamp k) := hcn
            rw [← hcn] at hwc ⊢
            clear hk hk' rk ri hs hsk eti hcl hcn
            by_cases hsp : s.place = 4
            · have e1 : (s.place == 4) = true := by rw [hsp]; rfl
              by_cases hst : s.stamp < t.stamp
              · have e2 : decide (s.stamp < t.stamp) = true := decide_eq_true hst
                have HC : Hid (cntL ts t.stamp (k + 1) = cn + 1) := by show _ = _; rw [Hcn.out]; exact cnt_yes Hsk.out hsp hst
                rw [hsp] at k2
                clear hsp hst
                go_upto_region 11 with fail
                go_quiet (fail)
                clear k2 k3 t3
                go_wp2_with fail
                go_roundw
                case rel => exact ⟨k + 1, Hk.out, by first | rfl | (rw [hwk2]; rfl) | go_num, by rw [HC.out]; first | rfl | (rw [hwc]; rfl) | (simp [hwc]) , grown_trans HG.out (grown_drewN _ _ _)⟩
                case measure => first | exact HMk.out | (rw [hwk2]; exact HMk.out)
              · have e2 : decide (s.stamp < t.stamp) = false := decide_eq_false hst
                have HC : Hid (cntL ts t.stamp (k + 1) = cn) := by show _ = _; rw [Hcn.out]; exact cnt_no Hsk.out (fun q => hst q.2)
                rw [hsp] at k2
                clear hsp hst
                go_upto_region 11 with fail
                go_quiet (fail)
                clear k2 k3 t3
                go_wp2_with fail
                go_roundw
                case rel => exact ⟨k + 1, Hk.out, by first | rfl | (rw [hwk2]; rfl) | go_num, by rw [HC.out], grown_trans HG.out (grown_drewN _ _ _)⟩
                case measure => first | exact HMk.out | (rw [hwk2]; exact HMk.out)
            · have e1 : (s.place == 4) = false := by simpa using hsp
              have HC : Hid (cntL ts t.stamp (k + 1) = cn) := by show _ = _; rw [Hcn.out]; exact cnt_no Hsk.out (fun q => hsp q.1)
              clear hsp
              go_upto_region 11 with fail
              go_quiet (fail)
              clear k2 k3 t3
              go_wp2_with fail
              go_roundw
              case rel => exact ⟨k + 1, Hk.out, by first | rfl | (rw [hwk2]; rfl) | go_num, by rw [HC.out], grown_trans HG.out (grown_drewN _ _ _)⟩
              case measure => first | exact HMk.out | (rw [hwk2]; exact HMk.out)
          · obtain rfl : k = ts.length := Nat.le_antisymm hk' (Nat.le_of_not_lt hk)
            have k1 : ¬ (ts.length : Int) < (ts.length : Int) := Int.lt_irrefl _
            obtain ⟨cn, hcn⟩ : ∃ cn, cn = cntL ts t.stamp ts.length := ⟨_, rfl⟩
            have hc60 : cn ≤ 60 := by rw [hcn]; exact Nat.le_trans (cnt_le _ _ _) H60.out
            obtain ⟨a1, a2, a3⟩ := rk_arith hc60 Hr.out.2
            obtain ⟨st, hst⟩ : ∃ st, st = 1 + (cn : Int) * (1 + (r : Int)) := ⟨_, rfl⟩
            have Hst : Hid (st = rkS r ts t) := by show _ = _; rw [hst, hcn]; rfl
            rw [← hcn]
            have a4 : wrap64 (1 + (cn : Int) * (1 + (r : Int))) = st := by rw [a3, hst]
            have HMQ : Hid (Mx (rkT r ts) i ts Y ∧ thR.Own 60 Q w.heap.size (.slice (some ⟨g, 0, none⟩) ts.length c5) Y ∧ w.grownBy Q none) := ⟨HM.out.1, own_grow HM.out.2.1 HG.out, grown_trans HM.out.2.2 HG.out⟩
            have HAQ : Hid (thR.At Q (.slice (some ⟨gT, oT, none⟩) ts.length ct) ts) := HAU.out.keep HG.out
            clear hk hk' hcn hc60 HM HG a3 hst
            have C3 := CP.out Q
            obtain ⟨d0, d1, d2, d3, d4, d5, d6, d7, d8, d9, d10⟩ := th_cells (th_at HMQ.out.2.1 HT.out.2.1)
            have rf := th_free HMQ.out.2.1
            go_wp2_with fail
            refine C3.mono ?_
            rintro e3 w3 ⟨rfl, hw3⟩
            rw [hw3]
            clear hw3 w3 C3
            go_upto_region 14 with fail
            obtain ⟨V1, hV1⟩ : ∃ V, V = Q.setCell ⟨g, i * 11 + 3, none⟩ (.int .i64 st) := ⟨_, rfl⟩
            have S1 := th_store (i := i) (d := 3) (t := t) (t' := { t with stamp := st }) (v := .int .i64 st) HMQ.out.2.1 (by rw [HMQ.out.1.len]) (HT.out.2.1) (by decide) rfl
            rw [← hV1] at S1
            have HOV1 : Hid (thR.Own 60 V1 w.heap.size (.slice (some ⟨g, 0, none⟩) ts.length c5) (Y.set i ({ t with stamp := st })) ∧ w.grownBy V1 none ∧ Q.grownBy V1 (some g)) := ⟨S1.1, grown_own HMQ.out.2.2 S1.2 (fun y e => by cases e; exact HT.out.2.2.1), S1.2⟩
            rw [← hV1]
            clear S1 hV1 d0 d1 d2 d3 d4 d5 d6 d7 d8 d9 d10 rf
            obtain ⟨d0, d1, d2, d3, d4, d5, d6, d7, d8, d9, d10⟩ := th_cells (th_at HOV1.out.1 (List.getElem?_set_self HT.out.2.2.2.1))
            have rf := th_free HOV1.out.1
            go_upto_region 15 with fail
            obtain ⟨V2, hV2⟩ : ∃ V, V = V1.setCell ⟨g, i * 11 + 4, none⟩ (.int .i64 7) := ⟨_, rfl⟩
            have S2 := th_store (i := i) (d := 4) (t := { t with stamp := st }) (t' := { t with stamp := st, hurt := 7 }) (v := .int .i64 7) HOV1.out.1 (by rw [List.length_set, HMQ.out.1.len]) (List.getElem?_set_self HT.out.2.2.2.1) (by decide) rfl
            rw [← hV2, set_set] at S2
            have HOV2 : Hid (thR.Own 60 V2 w.heap.size (.slice (some ⟨g, 0, none⟩) ts.length c5) (Y.set i ({ t with stamp := st, hurt := 7 })) ∧ w.grownBy V2 none ∧ Q.grownBy V2 (some g)) := ⟨S2.1, grown_own HOV1.out.2.1 S2.2 (fun y e => by cases e; exact HT.out.2.2.1), grown_trans HOV1.out.2.2 S2.2⟩
            rw [← hV2]
            clear S2 hV2 d0 d1 d2 d3 d4 d5 d6 d7 d8 d9 d10 rf
            obtain ⟨d0, d1, d2, d3, d4, d5, d6, d7, d8, d9, d10⟩ := th_cells (th_at HOV2.out.1 (List.getElem?_set_self HT.out.2.2.2.1))
            have rf := th_free HOV2.out.1
            go_upto_region 16 with fail
            obtain ⟨V3, hV3⟩ : ∃ V, V = V2.setCell ⟨g, i * 11 + 9, none⟩ (.int .i64 0) := ⟨_, rfl⟩
            have S3 := th_store (i := i) (d := 9) (t := { t with stamp := st, hurt := 7 }) (t' := { t with stamp := st, hurt := 7, done := 0 }) (v := .int .i64 0) HOV2.out.1 (by rw [List.length_set, HMQ.out.1.len]) (List.getElem?_set_self HT.out.2.2.2.1) (by decide) rfl
            rw [← hV3, set_set] at S3
            have HOV3 : Hid (thR.Own 60 V3 w.heap.size (.slice (some ⟨g, 0, none⟩) ts.length c5) (Y.set i ({ t with stamp := st, hurt := 7, done := 0 })) ∧ w.grownBy V3 none ∧ Q.grownBy V3 (some g)) := ⟨S3.1, grown_own HOV2.out.2.1 S3.2 (fun y e => by cases e; exact HT.out.2.2.1), grown_trans HOV2.out.2.2 S3.2⟩
            rw [← hV3]
            clear S3 hV3 d0 d1 d2 d3 d4 d5 d6 d7 d8 d9 d10 rf
            obtain ⟨d0, d1, d2, d3, d4, d5, d6, d7, d8, d9, d10⟩ := th_cells (th_at HOV3.out.1 (List.getElem?_set_self HT.out.2.2.2.1))
            have rf := th_free HOV3.out.1
            have cF : V3.cell? ⟨gT, oT + i * 11 + 10, none⟩ = some (.bool t.fresh) := HOV3.out.2.2.cell (th_cell10 HAQ.out HT.out.1) hne
            go_wp2_with fail
            have S4 := th_store (i := i) (d := 10) (t := { t with stamp := st, hurt := 7, done := 0 }) (t' := { t with stamp := st, hurt := 7, done := 0, fresh := !t.fresh }) (v := .bool (!t.fresh)) HOV3.out.1 (by rw [List.length_set, HMQ.out.1.len]) (List.getElem?_set_self HT.out.2.2.2.1) (by decide) rfl
            rw [set_set] at S4
            go_roundw
            case rel => exact ⟨i + 1, Y.set i ({ t with stamp := st, hurt := 7, done := 0, fresh := !t.fresh }), HT.out.2.2.2.2.2, by first | rfl | (rw [hwk]; rfl) | go_num, HMQ.out.1.step HT.out.1 (by rw [rkT_on Hp.out, Hst.out]), S4.1, grown_own HOV3.out.2.1 S4.2 (fun y e => by cases e; exact HT.out.2.2.1)⟩
            case measure => first | exact HMi.out | (rw [hwk]; exact HMi.out)
      · have hpb : (t.place != 4) = true := by simpa using hp
        have Hp : Hid (¬ t.place = 4) := hp
        obtain ⟨d0, d1, d2, d3, d4, d5, d6, d7, d8, d9, d10⟩ := th_cells (th_at HM.out.2.1 HT.out.2.1)
        have rf := th_free HM.out.2.1
        clear hp
        go_upto_region 6 with fail
        clear c2 c3 c4 c5' c6 c7 c8 c9 c10
        refine wp_region_held_drew (S := fun w' => U.grownBy w' (some g)) (by kernel_rfl) (grown_drewR _ _) (fun hHeld => ?_)
        refine wpAnyH_take (i := 0) (v := ?_) rfl (by kernel_rfl) (by kernel_rfl) (by kernel_rfl) (fun _ _ _ h => h) (Or.inl ⟨by rfl, ?_⟩) (by assumption) ?_
        rotate_left 1
        · (intro w0 hSw; go_simp; try with_reducible rfl)
        simp only [List.getElem_toArray, List.getElem_cons_zero]
        go_frame
        refine wpAnyH_take (i := 1) (v := ?_) rfl (by kernel_rfl) (by kernel_rfl) (by kernel_rfl) (fun _ _ _ h => h) (Or.inl ⟨by rfl, ?_⟩) (by assumption) ?_
        rotate_left 1
        · (intro w0 hSw; go_simp; try with_reducible rfl)
        simp only [List.getElem_toArray, List.getElem_cons_zero, List.getElem_cons_succ]
        go_frame
        refine wpAnyH_take (i := 2) (v := ?_) rfl (by kernel_rfl) (by kernel_rfl) (by kernel_rfl) (fun _ _ _ h => h) (Or.inl ⟨by rfl, ?_⟩) (by assumption) ?_
        rotate_left 1
        · (intro w0 hSw; go_simp; try with_reducible rfl)
        simp only [List.getElem_toArray, List.getElem_cons_zero, List.getElem_cons_succ]
        go_frame
        refine wpAnyH_take (i := 3) (v := ?_) rfl (by kernel_rfl) (by kernel_rfl) (by kernel_rfl) (fun _ _ _ h => h) (Or.inl ⟨by rfl, ?_⟩) (by assumption) ?_
        rotate_left 1
        · (intro w0 hSw; go_simp; try with_reducible rfl)
        simp only [List.getElem_toArray, List.getElem_cons_zero, List.getElem_cons_succ]
        go_frame
        refine wpAnyH_take (i := 4) (v := ?_) rfl (by kernel_rfl) (by kernel_rfl) (by kernel_rfl) (fun _ _ _ h => h) (Or.inl ⟨by rfl, ?_⟩) (by assumption) ?_
        rotate_left 1
        · (intro w0 hSw; go_simp; try with_reducible rfl)
        simp only [List.getElem_toArray, List.getElem_cons_zero, List.getElem_cons_succ]
        go_frame
        refine wpAnyH_take (i := 5) (v := ?_) rfl (by kernel_rfl) (by kernel_rfl) (by kernel_rfl) (fun _ _ _ h => h) (Or.inl ⟨by rfl, ?_⟩) (by assumption) ?_
        rotate_left 1
        · (intro w0 hSw; go_simp; try with_reducible rfl)
        simp only [List.getElem_toArray, List.getElem_cons_zero, List.getElem_cons_succ]
        go_frame
        refine wpAnyH_take (i := 6) (v := ?_) rfl (by kernel_rfl) (by kernel_rfl) (by kernel_rfl) (fun _ _ _ h => h) (Or.inl ⟨by rfl, ?_⟩) (by assumption) ?_
        rotate_left 1
        · (intro w0 hSw; have c0 := hSw.cell c0 hne; go_simp; try with_reducible rfl)
        simp only [List.getElem_toArray, List.getElem_cons_zero, List.getElem_cons_succ]
        go_frame
        refine wpAnyH_take (i := 7) (v := ?_) rfl (by kernel_rfl) (by kernel_rfl) (by kernel_rfl) (fun _ _ _ h => h) (Or.inl ⟨by rfl, ?_⟩) (by assumption) ?_
        rotate_left 1
        · (intro w0 hSw; go_simp; try with_reducible rfl)
        simp only [List.getElem_toArray, List.getElem_cons_zero, List.getElem_cons_succ]
        go_frame
        refine wpAnyH_take (i := 8) (v := ?_) rfl (by kernel_rfl) (by kernel_rfl) (by kernel_rfl) (fun _ _ _ h => h) (Or.inl ⟨by rfl, ?_⟩) (by assumption) ?_
        rotate_left 1
        · (intro w0 hSw; go_simp; try with_reducible rfl)
        simp only [List.getElem_toArray, List.getElem_cons_zero, List.getElem_cons_succ]
        go_frame
        refine wpAnyH_take (i := 9) (v := ?_) rfl (by kernel_rfl) (by kernel_rfl) (by kernel_rfl) (fun _ _ _ h => h) (Or.inl ⟨by rfl, ?_⟩) (by assumption) ?_
        rotate_left 1
        · (intro w0 hSw; go_simp; try with_reducible rfl)
        simp only [List.getElem_toArray, List.getElem_cons_zero, List.getElem_cons_succ]
        go_frame
        refine wpAnyH_take (i := 10) (v := ?_) rfl (by kernel_rfl) (by kernel_rfl) (by kernel_rfl) (fun _ _ _ h => h) (Or.inl ⟨by rfl, ?_⟩) (by assumption) ?_
        rotate_left 1
        · (intro w0 hSw; go_simp; try with_reducible rfl)
        simp only [List.getElem_toArray, List.getElem_cons_zero, List.getElem_cons_succ]
        go_frame
        refine wpAnyH_take (i := 11) (v := ?_) rfl (by kernel_rfl) (by kernel_rfl) (by kernel_rfl) (fun _ _ _ h => h) (Or.inl ⟨by rfl, ?_⟩) (by assumption) ?_
        rotate_left 1
        · (intro w0 hSw; have c1 := hSw.cell c1 hne; go_simp; try with_reducible rfl)
        simp only [List.getElem_toArray, List.getElem_cons_zero, List.getElem_cons_succ]
        go_frame
        refine wpAnyH_take (i := 12) (v := ?_) rfl (by kernel_rfl) (by kernel_rfl) (by kernel_rfl) (fun _ _ _ h => h) (Or.inl ⟨by rfl, ?_⟩) (by assumption) ?_
        rotate_left 1
        · (intro w0 hSw; go_simp; try with_reducible rfl)
        simp only [List.getElem_toArray, List.getElem_cons_zero, List.getElem_cons_succ]
        go_frame
        refine wpAnyH_take (i := 13) (v := ?_) rfl (by kernel_rfl) (by kernel_rfl) (by kernel_rfl) (fun _ _ _ h => h) (Or.inl ⟨by rfl, ?_⟩) (by assumption) ?_
        rotate_left 1
        · (intro w0 hSw; go_simp; try with_reducible rfl)
        simp only [List.getElem_toArray, List.getElem_cons_zero, List.getElem_cons_succ]
        go_frame
        clear c0 c1
        have SG := th_gone (i := i) (t := ⟨t.card, t.owner, 5, 0, 0, 0, 0, 0, 0, 0, false⟩) HM.out.2.1 HM.out.1.len HT.out.2.2.2.2.2
        obtain ⟨Z, hZ⟩ : ∃ Z, Z = (U.setCells g (i * 11) (thc ⟨t.card, t.owner, 5, 0, 0, 0, 0, 0, 0, 0, false⟩)).drew := ⟨_, rfl⟩
        have HZ : Hid (thR.Own 60 Z w.heap.size (.slice (some ⟨g, 0, none⟩) ts.length c5) (Y.set i ⟨t.card, t.owner, 5, 0, 0, 0, 0, 0, 0, 0, false⟩) ∧ U.grownBy Z (some g)) := by rw [hZ]; exact ⟨own_grow SG.1 (grown_drew _), grown_trans SG.2 (grown_drewR _ _)⟩
        have HZS : Hid (U.grownBy Z (some g)) := HZ.out.2
        have hZ' : (((((((((((U.setCell ⟨g, i * 11, none⟩ (.int .i64 t.card)).setCell ⟨g, i * 11 + 1, none⟩ (.int .i64 t.owner)).setCell ⟨g, i * 11 + 2, none⟩ (.int .u8 5)).setCell ⟨g, i * 11 + 3, none⟩ (.int .i64 0)).setCell ⟨g, i * 11 + 4, none⟩ (.int .i64 0)).setCell ⟨g, i * 11 + 5, none⟩ (.int .i64 0)).setCell ⟨g, i * 11 + 6, none⟩ (.int .i64 0)).setCell ⟨g, i * 11 + 7, none⟩ (.int .i64 0)).setCell ⟨g, i * 11 + 8, none⟩ (.int .i64 0)).setCell ⟨g, i * 11 + 9, none⟩ (.int .i64 0)).setCell ⟨g, i * 11 + 10, none⟩ (.bool false)).drew = Z := by rw [hZ]; rfl
        clear SG hZ
        refine wpAnyH_ready (rs := [14]) (by kernel_rfl) (by simp) ?_
        refine AllReadyH.cons rfl (fun K9 hK => ?_) AllReadyH.nil
        simp only [List.getElem_toArray, List.getElem_cons_zero, List.getElem_cons_succ]
        go_simp
        clear hZ'
        refine hK.out _ _ (HZS.out) (fun hHeld3 => ?_)
        clear hK K9
        (try go_frame)
        refine wpAnyH_done (by kernel_rfl) ?_ _
        clear d0 d1 d2 d3 d4 d5 d6 d7 d8 d9 d10 rf
        go_wp2_with fail
        go_roundw
        case rel => exact ⟨i + 1, Y.set i ⟨t.card, t.owner, 5, 0, 0, 0, 0, 0, 0, 0, false⟩, HT.out.2.2.2.2.2, by first | rfl | (rw [hwk]; rfl) | go_num, HM.out.1.step HT.out.1 (rkT_off Hp.out).symm, HZ.out.1, grown_own HM.out.2.2 HZ.out.2 (fun y e => by cases e; exact HT.out.2.2.1)⟩
        case measure => first | exact HMi.out | (rw [hwk]; exact HMi.out)
    · obtain rfl : i = ts.length := Nat.le_antisymm hi' (Nat.le_of_not_lt hi)
      have i1 : ¬ (ts.length : Int) < (ts.length : Int) := Int.lt_irrefl _
      have HF : Hid (thR.Own 60 U w.heap.size (.slice p5 ts.length c5) (ts.map (rkT r ts)) ∧ w.grownBy U none) := ⟨by rw [← HM.out.1.done]; exact HM.out.2.1, HM.out.2.2⟩
      have hYl : Y.length = ts.length := HM.out.1.len
      clear hi hi' HM hYl
      go_wp2_with fail
      go_ret
      exact ⟨_, rfl, HF.out.1, HF.out.2⟩
end Go.Proofs.YtmemeloehgemcaaGreat
