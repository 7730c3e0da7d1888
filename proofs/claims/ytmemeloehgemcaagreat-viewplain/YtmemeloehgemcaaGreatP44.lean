/-
  View's laws, helpers: effects among others, in their order.
  ViewPlain, plainly: what no effect is about; what Raises alone are about.
-/
import Derived.Test.YtmemeloehgemcaaGreatP43
import Derived.Test.YtmemeloehgemcaaGreatP34
import Derived.Test.YtmemeloehgemcaaGreatP40
namespace Go.Proofs.YtmemeloehgemcaaGreat
open Go.RowKit Go.Shelf

theorem sub_yes {L all : List Sd} {k i : Nat} {a c : Sd} (h : (L.drop k).Sublist (all.drop i)) (hk : k < L.length) (hi : i < all.length) (ha : a = all[i]) (hc : c = L[k]) (e : a = c) : (L.drop (k + 1)).Sublist (all.drop (i + 1)) := by
  rw [List.drop_eq_getElem_cons hk, List.drop_eq_getElem_cons hi, ← ha, ← hc, e] at h
  exact List.Sublist.of_cons_cons h
theorem sub_no {L all : List Sd} {k i : Nat} {a c : Sd} (h : (L.drop k).Sublist (all.drop i)) (hk : k < L.length) (hi : i < all.length) (ha : a = all[i]) (hc : c = L[k]) (e : ¬ a = c) : (L.drop k).Sublist (all.drop (i + 1)) := by
  rw [List.drop_eq_getElem_cons hi, ← ha] at h
  rw [List.drop_eq_getElem_cons hk, ← hc] at h ⊢
  cases h with
  | cons _ h => exact h
  | cons_cons _ h => exact absurd rfl e
theorem eq_run (a c : Sd) (w : World) : (binOp .eql 49 (.agg #[.int .i64 a.th, .int .i64 a.pl, .int .u8 a.wh.wn, .int .u8 a.wh.vb, .int .u8 a.wh.wm, .int .i64 a.wh.ct, .int .u8 a.wh.su, .int .u8 a.wh.tr, .int .u8 a.wh.mr, .string a.wh.nm]) (.agg #[.int .i64 c.th, .int .i64 c.pl, .int .u8 c.wh.wn, .int .u8 c.wh.vb, .int .u8 c.wh.wm, .int .i64 c.wh.ct, .int .u8 c.wh.su, .int .u8 c.wh.tr, .int .u8 c.wh.mr, .string c.wh.nm])).run Tryz.prog w = .ok (.bool (sames a c)) w := eql_sd.1 a c w
theorem eq_grd (op : BinOp) (x y : Operand) (xs ys : Array Value) (w : World) : (eqGuard op 49 x y (.agg xs) (.agg ys)).run Tryz.prog w = .ok () w := run_eqGuard_agg w op 49 x y xs ys (by kernel_rfl)
set_option maxRecDepth 100000 in
set_option maxHeartbeats 4000000 in
theorem vamong_any (va vb : Value) (L all : List Sd) (w : World) (A : sdR.At w va L) (B : sdR.At w vb all) (hs : L.Sublist all) (hl : all.length ≤ 4000) : Calls Tryz.prog 36 #[va, vb] w fun e w' => e = .returned (.bool true) ∧ w.grownBy w' none := by
  obtain ⟨pa, ca, rfl⟩ := A.form
  obtain ⟨pb, cb, rfl⟩ := B.form
  have HA : Hid (sdR.At w (.slice pa L.length ca) L) := A
  have HB : Hid (sdR.At w (.slice pb all.length cb) all) := B
  have H0 : Hid ((L.drop 0).Sublist (all.drop 0)) := hs
  have Hl : Hid (all.length ≤ 4000 ∧ L.length ≤ 4000) := ⟨hl, Nat.le_trans hs.length_le hl⟩
  clear A B hs hl
  go_enter Tryz.func36, Tryz.ntmps36
  go_wp2_with fail
  go_loopw [5, 6] (fun x y wr => ∃ (i k : Nat), i ≤ all.length ∧ k ≤ L.length ∧ x = .int .i64 (k : Int) ∧ y = .int .i64 (i : Int) ∧ Hid ((L.drop k).Sublist (all.drop i)) ∧ Hid (w.grownBy wr none)) (fun _ y _ => all.length - (intOf y).toNat)
  case atStart => exact ⟨0, 0, Nat.zero_le _, Nat.zero_le _, rfl, rfl, H0, grown_refl _ _⟩
  case round =>
    obtain ⟨i, k, hi', hk', rfl, rfl, HS, HG⟩ := hrel
    obtain ⟨U, hU⟩ : ∃ U, U = wr := ⟨_, rfl⟩
    subst hU
    clear H0
    by_cases hi : i < all.length
    · have i1 : (i : Int) < (all.length : Int) := Int.ofNat_lt.2 hi
      have i1d : decide ((i : Int) < (all.length : Int)) = true := decide_eq_true i1
      have i2d : decide (i < all.length) = true := decide_eq_true hi
      by_cases hk : k < L.length
      · have k1 : (k : Int) < (L.length : Int) := Int.ofNat_lt.2 hk
        have k1d : decide ((k : Int) < (L.length : Int)) = true := decide_eq_true k1
        have k2d : decide (k < L.length) = true := decide_eq_true hk
        have hwi := wrap_next (k := i) (Nat.le_trans (Nat.le_of_lt hi) (Nat.le_trans Hl.out.1 (by decide)))
        have hwk := wrap_next (k := k) (Nat.le_trans (Nat.le_of_lt hk) (Nat.le_trans Hl.out.2 (by decide)))
        obtain ⟨gb, ob, cb', eb, rb⟩ := sd_there (HB.out.keep HG.out) hi
        cases eb
        obtain ⟨ga, oa, ca', ea, ra⟩ := sd_there (HA.out.keep HG.out) hk
        cases ea
        obtain ⟨a, ha⟩ : ∃ a, a = all[i] := ⟨_, rfl⟩
        obtain ⟨c, hc⟩ : ∃ c, c = L[k] := ⟨_, rfl⟩
        rw [← ha] at rb
        rw [← hc] at ra
        obtain ⟨y0, y1, y2, y3, y4, y5, y6, y7, y8, y9⟩ := sd_cells rb
        obtain ⟨x0, x1, x2, x3, x4, x5, x6, x7, x8, x9⟩ := sd_cells ra
        clear rb ra hi' hk'
        by_cases hac : a = c
        · have hq : sames a c = true := sames_iff.2 hac
          have HS2 : Hid ((L.drop (k + 1)).Sublist (all.drop (i + 1))) := sub_yes HS.out hk hi ha hc hac
          have qe := eq_run a c
          rw [hq] at qe
          have qg := eq_grd
          have Hik : Hid (i < all.length ∧ k < L.length) := ⟨hi, hk⟩
          have HM : Hid (all.length - (intOf (.int .i64 ((i : Int) + 1))).toNat < all.length - (intOf (.int .i64 (i : Int))).toNat) := meas_k hi
          clear hac hq HS ha hc hi hk
          go_upto_region 5 with fail
          refine wp_region_held_drew (S := fun w' => U.grownBy w' none) (by kernel_rfl) (grown_drew _) (fun hHeld => ?_)
          refine wpAnyH_take (i := 0) (v := ?_) rfl (by kernel_rfl) (by kernel_rfl) (by kernel_rfl) (fun _ _ _ h => h) (Or.inl ⟨by rfl, ?_⟩) (by assumption) ?_
          rotate_left 1
          · (intro w0 hSw; go_simp; try with_reducible rfl)
          simp only [List.getElem_toArray, List.getElem_cons_zero]
          go_frame
          refine wpAnyH_take (i := 1) (v := ?_) rfl (by kernel_rfl) (by kernel_rfl) (by kernel_rfl) (fun _ _ _ h => h) (Or.inl ⟨by rfl, ?_⟩) (by assumption) ?_
          rotate_left 1
          · (intro w0 hSw; go_simp; try with_reducible rfl)
          simp only [List.getElem_toArray, List.getElem_cons_zero, List.getElem_cons_succ]
          go_frame
          refine wpAnyH_take (i := 2) (v := ?_) rfl (by kernel_rfl) (by kernel_rfl) (by kernel_rfl) (fun _ _ _ h => h) (Or.inl ⟨by rfl, ?_⟩) (by assumption) ?_
          rotate_left 1
          · (intro w0 hSw; go_simp; try with_reducible rfl)
          simp only [List.getElem_toArray, List.getElem_cons_zero, List.getElem_cons_succ]
          go_frame
          refine wpAnyH_take (i := 3) (v := ?_) rfl (by kernel_rfl) (by kernel_rfl) (by kernel_rfl) (fun _ _ _ h => h) (Or.inl ⟨by rfl, ?_⟩) (by assumption) ?_
          rotate_left 1
          · (intro w0 hSw; have y0 := hSw.cell y0 (by simp); have y1 := hSw.cell y1 (by simp); have y2 := hSw.cell y2 (by simp); have y3 := hSw.cell y3 (by simp); have y4 := hSw.cell y4 (by simp); have y5 := hSw.cell y5 (by simp); have y6 := hSw.cell y6 (by simp); have y7 := hSw.cell y7 (by simp); have y8 := hSw.cell y8 (by simp); have y9 := hSw.cell y9 (by simp); go_simp; try with_reducible rfl)
          simp only [List.getElem_toArray, List.getElem_cons_zero, List.getElem_cons_succ]
          go_frame
          refine wpAnyH_take (i := 4) (v := ?_) rfl (by kernel_rfl) (by kernel_rfl) (by kernel_rfl) (fun _ _ _ h => h) (Or.inl ⟨by rfl, ?_⟩) (by assumption) ?_
          rotate_left 1
          · (intro w0 hSw; go_simp; try with_reducible rfl)
          simp only [List.getElem_toArray, List.getElem_cons_zero, List.getElem_cons_succ]
          go_frame
          refine wpAnyH_take (i := 5) (v := ?_) rfl (by kernel_rfl) (by kernel_rfl) (by kernel_rfl) (fun _ _ _ h => h) (Or.inl ⟨by rfl, ?_⟩) (by assumption) ?_
          rotate_left 1
          · (intro w0 hSw; go_simp; try with_reducible rfl)
          simp only [List.getElem_toArray, List.getElem_cons_zero, List.getElem_cons_succ]
          go_frame
          refine wpAnyH_take (i := 6) (v := ?_) rfl (by kernel_rfl) (by kernel_rfl) (by kernel_rfl) (fun _ _ _ h => h) (Or.inl ⟨by rfl, ?_⟩) (by assumption) ?_
          rotate_left 1
          · (intro w0 hSw; go_simp; try with_reducible rfl)
          simp only [List.getElem_toArray, List.getElem_cons_zero, List.getElem_cons_succ]
          go_frame
          refine wpAnyH_take (i := 7) (v := ?_) rfl (by kernel_rfl) (by kernel_rfl) (by kernel_rfl) (fun _ _ _ h => h) (Or.inl ⟨by rfl, ?_⟩) (by assumption) ?_
          rotate_left 1
          · (intro w0 hSw; have x0 := hSw.cell x0 (by simp); have x1 := hSw.cell x1 (by simp); have x2 := hSw.cell x2 (by simp); have x3 := hSw.cell x3 (by simp); have x4 := hSw.cell x4 (by simp); have x5 := hSw.cell x5 (by simp); have x6 := hSw.cell x6 (by simp); have x7 := hSw.cell x7 (by simp); have x8 := hSw.cell x8 (by simp); have x9 := hSw.cell x9 (by simp); go_simp; try with_reducible rfl)
          simp only [List.getElem_toArray, List.getElem_cons_zero, List.getElem_cons_succ]
          go_frame
          refine wpAnyH_take (i := 8) (v := ?_) rfl (by kernel_rfl) (by kernel_rfl) (by kernel_rfl) (fun _ _ _ h => h) (Or.inl ⟨by rfl, ?_⟩) (by assumption) ?_
          rotate_left 1
          · (intro w0 hSw; have qe := qe w0; go_simp; try with_reducible rfl)
          simp only [List.getElem_toArray, List.getElem_cons_zero, List.getElem_cons_succ]
          go_frame
          refine wpAnyH_done (by kernel_rfl) ?_ _
          clear hHeld qe qg x0 x1 x2 x3 x4 x5 x6 x7 x8 x9 y0 y1 y2 y3 y4 y5 y6 y7 y8 y9
          go_wp2_with fail
          go_roundw
          case rel => exact ⟨i + 1, k + 1, Hik.out.1, Hik.out.2, by first | rfl | (rw [hwk]; rfl) | go_num, by first | rfl | (rw [hwi]; rfl) | go_num, HS2, grown_trans HG.out (grown_drew _)⟩
          case measure => first | exact HM.out | (rw [hwi]; exact HM.out)
        · have hq : sames a c = false := Bool.eq_false_iff.2 fun q => hac (sames_iff.1 q)
          have HS2 : Hid ((L.drop k).Sublist (all.drop (i + 1))) := sub_no HS.out hk hi ha hc hac
          have qe := eq_run a c
          rw [hq] at qe
          have qg := eq_grd
          have Hik : Hid (i < all.length ∧ k < L.length) := ⟨hi, hk⟩
          have HM : Hid (all.length - (intOf (.int .i64 ((i : Int) + 1))).toNat < all.length - (intOf (.int .i64 (i : Int))).toNat) := meas_k hi
          clear hac hq HS ha hc hi hk
          go_upto_region 5 with fail
          refine wp_region_held_drew (S := fun w' => U.grownBy w' none) (by kernel_rfl) (grown_drew _) (fun hHeld => ?_)
          refine wpAnyH_take (i := 0) (v := ?_) rfl (by kernel_rfl) (by kernel_rfl) (by kernel_rfl) (fun _ _ _ h => h) (Or.inl ⟨by rfl, ?_⟩) (by assumption) ?_
          rotate_left 1
          · (intro w0 hSw; go_simp; try with_reducible rfl)
          simp only [List.getElem_toArray, List.getElem_cons_zero]
          go_frame
          refine wpAnyH_take (i := 1) (v := ?_) rfl (by kernel_rfl) (by kernel_rfl) (by kernel_rfl) (fun _ _ _ h => h) (Or.inl ⟨by rfl, ?_⟩) (by assumption) ?_
          rotate_left 1
          · (intro w0 hSw; go_simp; try with_reducible rfl)
          simp only [List.getElem_toArray, List.getElem_cons_zero, List.getElem_cons_succ]
          go_frame
          refine wpAnyH_take (i := 2) (v := ?_) rfl (by kernel_rfl) (by kernel_rfl) (by kernel_rfl) (fun _ _ _ h => h) (Or.inl ⟨by rfl, ?_⟩) (by assumption) ?_
          rotate_left 1
          · (intro w0 hSw; go_simp; try with_reducible rfl)
          simp only [List.getElem_toArray, List.getElem_cons_zero, List.getElem_cons_succ]
          go_frame
          refine wpAnyH_take (i := 3) (v := ?_) rfl (by kernel_rfl) (by kernel_rfl) (by kernel_rfl) (fun _ _ _ h => h) (Or.inl ⟨by rfl, ?_⟩) (by assumption) ?_
          rotate_left 1
          · (intro w0 hSw; have y0 := hSw.cell y0 (by simp); have y1 := hSw.cell y1 (by simp); have y2 := hSw.cell y2 (by simp); have y3 := hSw.cell y3 (by simp); have y4 := hSw.cell y4 (by simp); have y5 := hSw.cell y5 (by simp); have y6 := hSw.cell y6 (by simp); have y7 := hSw.cell y7 (by simp); have y8 := hSw.cell y8 (by simp); have y9 := hSw.cell y9 (by simp); go_simp; try with_reducible rfl)
          simp only [List.getElem_toArray, List.getElem_cons_zero, List.getElem_cons_succ]
          go_frame
          refine wpAnyH_take (i := 4) (v := ?_) rfl (by kernel_rfl) (by kernel_rfl) (by kernel_rfl) (fun _ _ _ h => h) (Or.inl ⟨by rfl, ?_⟩) (by assumption) ?_
          rotate_left 1
          · (intro w0 hSw; go_simp; try with_reducible rfl)
          simp only [List.getElem_toArray, List.getElem_cons_zero, List.getElem_cons_succ]
          go_frame
          refine wpAnyH_take (i := 5) (v := ?_) rfl (by kernel_rfl) (by kernel_rfl) (by kernel_rfl) (fun _ _ _ h => h) (Or.inl ⟨by rfl, ?_⟩) (by assumption) ?_
          rotate_left 1
          · (intro w0 hSw; go_simp; try with_reducible rfl)
          simp only [List.getElem_toArray, List.getElem_cons_zero, List.getElem_cons_succ]
          go_frame
          refine wpAnyH_take (i := 6) (v := ?_) rfl (by kernel_rfl) (by kernel_rfl) (by kernel_rfl) (fun _ _ _ h => h) (Or.inl ⟨by rfl, ?_⟩) (by assumption) ?_
          rotate_left 1
          · (intro w0 hSw; go_simp; try with_reducible rfl)
          simp only [List.getElem_toArray, List.getElem_cons_zero, List.getElem_cons_succ]
          go_frame
          refine wpAnyH_take (i := 7) (v := ?_) rfl (by kernel_rfl) (by kernel_rfl) (by kernel_rfl) (fun _ _ _ h => h) (Or.inl ⟨by rfl, ?_⟩) (by assumption) ?_
          rotate_left 1
          · (intro w0 hSw; have x0 := hSw.cell x0 (by simp); have x1 := hSw.cell x1 (by simp); have x2 := hSw.cell x2 (by simp); have x3 := hSw.cell x3 (by simp); have x4 := hSw.cell x4 (by simp); have x5 := hSw.cell x5 (by simp); have x6 := hSw.cell x6 (by simp); have x7 := hSw.cell x7 (by simp); have x8 := hSw.cell x8 (by simp); have x9 := hSw.cell x9 (by simp); go_simp; try with_reducible rfl)
          simp only [List.getElem_toArray, List.getElem_cons_zero, List.getElem_cons_succ]
          go_frame
          refine wpAnyH_take (i := 8) (v := ?_) rfl (by kernel_rfl) (by kernel_rfl) (by kernel_rfl) (fun _ _ _ h => h) (Or.inl ⟨by rfl, ?_⟩) (by assumption) ?_
          rotate_left 1
          · (intro w0 hSw; have qe := qe w0; go_simp; try with_reducible rfl)
          simp only [List.getElem_toArray, List.getElem_cons_zero, List.getElem_cons_succ]
          go_frame
          refine wpAnyH_done (by kernel_rfl) ?_ _
          clear hHeld qe qg x0 x1 x2 x3 x4 x5 x6 x7 x8 x9 y0 y1 y2 y3 y4 y5 y6 y7 y8 y9
          go_wp2_with fail
          go_roundw
          case rel => exact ⟨i + 1, k, Hik.out.1, Nat.le_of_lt Hik.out.2, by first | rfl | (rw [hwk]; rfl) | go_num, by first | rfl | (rw [hwi]; rfl) | go_num, HS2, grown_trans HG.out (grown_drew _)⟩
          case measure => first | exact HM.out | (rw [hwi]; exact HM.out)
      · have k1 : ¬ (k : Int) < (L.length : Int) := by omega
        have k1d : decide ((k : Int) < (L.length : Int)) = false := decide_eq_false k1
        have k2d : decide (k < L.length) = false := decide_eq_false hk
        obtain rfl : k = L.length := Nat.le_antisymm hk' (Nat.le_of_not_lt hk)
        clear hi' hk' hi hk
        go_wp2_with fail
        go_ret
        exact ⟨by simp, HG.out⟩
    · have i1 : ¬ (i : Int) < (all.length : Int) := by omega
      have i1d : decide ((i : Int) < (all.length : Int)) = false := decide_eq_false i1
      have i2d : decide (i < all.length) = false := decide_eq_false hi
      have hkk : k = L.length := by
        have h := HS.out
        rw [List.drop_eq_nil_of_le (Nat.le_of_not_lt hi)] at h
        have h2 := List.sublist_nil.1 h
        have h3 := List.drop_eq_nil_iff.1 h2
        omega
      subst hkk
      clear hi' hk' hi
      go_wp2_with fail
      go_ret
      exact ⟨by simp, HG.out⟩
end Go.Proofs.YtmemeloehgemcaaGreat
namespace Go.Proofs.YtmemeloehgemcaaGreat
open Go.RowKit Go.Shelf

def rzB (l : List Sd) : Bool := l.all fun s => decide (s.wh.vb = 15)
def cnS (l : List Sd) : Int := l.foldl (fun a s => wrap64 (a + s.wh.ct)) 0
theorem rz_next {l : List Sd} {k : Nat} {s : Sd} (h : l[k]? = some s) : rzB (l.take (k + 1)) = (rzB (l.take k) && decide (s.wh.vb = 15)) := by
  unfold rzB
  rw [List.take_add_one, h, List.all_append]
  simp
theorem cn_next {l : List Sd} {k : Nat} {s : Sd} (h : l[k]? = some s) : cnS (l.take (k + 1)) = wrap64 (cnS (l.take k) + s.wh.ct) := by
  unfold cnS
  rw [List.take_add_one, h, List.foldl_append]
  rfl
theorem cn_is : ∀ (L : List Se) (a : Int), cnts L a = (L.map Se.s).foldl (fun a s => wrap64 (a + s.wh.ct)) a
  | [], _ => rfl
  | _ :: L, _ => cn_is L _
theorem cnts_wrap {L : List Se} (h : L ≠ []) (b : Int) : cnts L b = wrap64 (b + cnts L 0) := by
  rw [cnts_shift, Int.add_zero]
  match L, h with
  | e :: L, _ =>
    show cnts L (wrap64 (b + e.s.wh.ct)) = cnts L (wrap64 (wrap64 b + e.s.wh.ct))
    rw [wrap_addL]
def moreF (f : Fe) (m : Int) : Fe := ⟨f.ho, f.su, f.tr, wrap64 (f.po + m), wrap64 (f.he + m)⟩
theorem rads_any {L : List Se} (h : L ≠ []) (f : Fe) : rads f L = moreF f (cnS (L.map Se.s)) := by
  rw [rads_eq, cnts_wrap h, cnts_wrap h f.he, cn_is]
  rfl
theorem mkd_at {mf : Fe → Th → Fe} {ts : List Th} {fs : List Fe} {j : Nat} {t : Th} {f : Fe} (ht : ts[j]? = some t) (hf : fs[j]? = some f) : (mkdL mf ts fs).getD j Fe.none = mkdT mf t f := by
  unfold mkdL
  rw [List.getD_eq_getElem?_getD, List.getElem?_zipWith, ht, hf]
  rfl
theorem plain_off {ts : List Th} {pf : Th → Fe} {mf : Fe → Th → Fe} {R : List Rw} {j : Nat} {t : Th} (ht : ts[j]? = some t) (hp : ¬ t.place = 4) : (bhL R mf ts (prtF pf ts) 6).getD j Fe.none = Fe.none := by
  have hj : j < ts.length := (List.getElem?_eq_some_iff.1 ht).1
  unfold bhL
  rw [if_pos rfl, mkd_at ht (List.getElem?_eq_getElem (show j < (clF R (prtF pf ts) 5).length by rw [clF_len, prtF_len]; exact hj))]
  exact if_neg hp
theorem plain_on {n : Int} {cd : Int → Hd × List Pt} {ts : List Th} {pf : Th → Fe} {mf : Fe → Th → Fe} {R : List Rw} (h : Tab n cd ts (prtF pf ts) R) {j : Nat} {t : Th} (ht : ts[j]? = some t) (hp : t.place = 4) (hw : rzB ((whU R ((j : Int) + 1) (prtF pf ts) 5).map Se.s) = true) : (bhL R mf ts (prtF pf ts) 6).getD j Fe.none = mf (rads (pf t) (whU R ((j : Int) + 1) (prtF pf ts) 5)) t := by
  obtain ⟨i, hi, e⟩ := h.has ht hp
  have hj : j < ts.length := (List.getElem?_eq_some_iff.1 ht).1
  have hv : ∀ e' ∈ whU R (R.getD i Rw.none).nu (prtF pf ts) 5, e'.s.wh.vb = 15 := fun e' he => by
    rw [e] at he
    unfold rzB at hw
    rw [List.all_eq_true] at hw
    simpa using hw e'.s (List.mem_map.2 ⟨e', he, rfl⟩)
  have h1 := cl_row h hi 5 hv
  rw [e] at h1
  have h2 : (clF R (prtF pf ts) 5)[j]? = some ((pickF R (clF R (prtF pf ts) 5)).getD i Fe.none) := by
    rw [h.cl_at hi e 5, (h.cl_pick 5).1]
  have h3 : (pickF R (prtF pf ts)).getD i Fe.none = pf t := by
    unfold pickF
    rw [getD_map _ _ _ Rw.none _ hi, e, toN, prt_getD pf ht, prt_on hp]
  unfold bhL
  rw [if_pos rfl, mkd_at ht h2, h1, h3]
  exact if_pos hp
end Go.Proofs.YtmemeloehgemcaaGreat
