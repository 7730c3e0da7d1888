/-
  Layers' laws, small helpers: Pick; lists copied; lists held against lists that are the same; heavy.
  SameFeatures, SameStandings of lists that are the same.
-/
import Derived.Test.YtblkghfnjahkeaaGreatL43
import Derived.Test.YtblkghfnjahkeaaGreatL3
import Derived.BigQuiet
namespace Go.Proofs.YtblkghfnjahkeaaGreat
open Go.RowKit Go.Shelf

set_option maxHeartbeats 1000000 in
theorem kpick_any (k : Int) (n : Nat) (w : World) (hn : 0 < n) (hm : n ≤ 4294967296) : Calls Tryz.prog 21 #[.int .i64 k, .int .i64 n] w fun e w' => (∃ r : Nat, r < n ∧ e = .returned (.int .i64 r)) ∧ w' = w := by
  have h1 : ¬ ((n : Int) < 1) := by omega
  have h0 : ((n : Int) == 0) = false := by simpa using (show ¬ ((n : Int) = 0) by omega)
  have b1 : k.tmod n < n := Int.tmod_lt_of_pos k (by omega)
  have b2 : -(n : Int) < k.tmod n := by
    have h := Int.tmod_lt_of_pos (-k) (show (0 : Int) < n by omega)
    rw [Int.neg_tmod] at h
    omega
  go_enter Tryz.func21, Tryz.ntmps21
  go_wp2
  · go_ret
    exact ⟨⟨(k.tmod n + n).toNat, by omega, ret_i64 (Int.toNat_of_nonneg (by omega)).symm⟩, rfl⟩
  · go_ret
    exact ⟨⟨(k.tmod n).toNat, by omega, ret_i64 (Int.toNat_of_nonneg (by omega)).symm⟩, rfl⟩
set_option maxRecDepth 100000 in
set_option maxHeartbeats 4000000 in
theorem copyFe_any (v : Value) (l : List Fe) (w : World) (h : feR.At w v l) (hb : l.length ≤ 4096) : Calls Tryz.prog 15 #[v] w fun e w' => ∃ v', e = .returned v' ∧ feR.Own 88 w' w.heap.size v' l ∧ w.grownBy w' none := by
  obtain ⟨i0, hi, hz0, hz1, hz2⟩ := info_parts Tryz.linfoF
  have HS : Hid (Src w v l.length 5 (feR.cs l)) := h.src
  obtain ⟨n, hn⟩ : ∃ n, n = l.length := ⟨_, rfl⟩
  have HN : Hid (n = l.length) := hn
  have HL : Hid (0 + n ≤ maxLen ∧ (0 + n) * 32 ≤ 140737488355328) := by show _ ∧ _; unfold maxLen; omega
  rw [← hn] at HS
  clear h hb hn
  go_enter Tryz.func15, Tryz.ntmps15
  go_wp2_with (at_builtin; refine lwpl_app (by rfl) (.tmp 4) (.tmp 5) 23 rfl w.heap.size 88 i0 _ 5 32 Tryz.underlying23 hi hz0 hz1 hz2 rfl (by decide) _ 0 [] rfl (RecT.Own.nil feR 88 w w.heap.size) _ n (feR.cs l) rfl HS.out (feR.ones l) HL.out.1 HL.out.2 (Nat.le_refl _) ?_; intro v3 w3 o3 g3 _; have HF : Hid (feR.Own 88 w3 w.heap.size v3 l ∧ w.grownBy w3 none) := ⟨by unfold RecT.Own; rw [← HN.out]; rw [Nat.zero_add, List.nil_append] at o3; exact o3, g3⟩; clear o3 g3)
  go_ret
  exact ⟨_, rfl, HF.out.1, HF.out.2⟩
set_option maxRecDepth 100000 in
set_option maxHeartbeats 4000000 in
theorem copySd_any (v : Value) (l : List Sd) (w : World) (h : sdR.At w v l) (hb : l.length ≤ 4096) : Calls Tryz.prog 50 #[v] w fun e w' => ∃ v', e = .returned v' ∧ sdR.Own 35 w' w.heap.size v' l ∧ w.grownBy w' none := by
  obtain ⟨i0, hi, hz0, hz1, hz2⟩ := info_parts Tryz.linfoD
  have HS : Hid (Src w v l.length 10 (sdR.cs l)) := h.src
  obtain ⟨n, hn⟩ : ∃ n, n = l.length := ⟨_, rfl⟩
  have HN : Hid (n = l.length) := hn
  have HL : Hid (0 + n ≤ maxLen ∧ (0 + n) * 56 ≤ 140737488355328) := by show _ ∧ _; unfold maxLen; omega
  rw [← hn] at HS
  clear h hb hn
  go_enter Tryz.func50, Tryz.ntmps50
  go_wp2_with (at_builtin; refine lwpl_app (by rfl) (.tmp 4) (.tmp 5) 63 rfl w.heap.size 35 i0 _ 10 56 Tryz.underlying63 hi hz0 hz1 hz2 rfl (by decide) _ 0 [] rfl (RecT.Own.nil sdR 35 w w.heap.size) _ n (sdR.cs l) rfl HS.out (sdR.ones l) HL.out.1 HL.out.2 (Nat.le_refl _) ?_; intro v3 w3 o3 g3 _; have HF : Hid (sdR.Own 35 w3 w.heap.size v3 l ∧ w.grownBy w3 none) := ⟨by unfold RecT.Own; rw [← HN.out]; rw [Nat.zero_add, List.nil_append] at o3; exact o3, g3⟩; clear o3 g3)
  go_ret
  exact ⟨_, rfl, HF.out.1, HF.out.2⟩
set_option maxRecDepth 100000 in
set_option maxHeartbeats 4000000 in
theorem copyTh_any (v : Value) (l : List Th) (w : World) (h : thR.At w v l) (hb : l.length ≤ 4096) : Calls Tryz.prog 24 #[v] w fun e w' => ∃ v', e = .returned v' ∧ thR.Own 86 w' w.heap.size v' l ∧ w.grownBy w' none := by
  obtain ⟨i0, hi, hz0, hz1, hz2⟩ := info_parts Tryz.linfoT
  have HS : Hid (Src w v l.length 11 (thR.cs l)) := h.src
  obtain ⟨n, hn⟩ : ∃ n, n = l.length := ⟨_, rfl⟩
  have HN : Hid (n = l.length) := hn
  have HL : Hid (0 + n ≤ maxLen ∧ (0 + n) * 88 ≤ 140737488355328) := by show _ ∧ _; unfold maxLen; omega
  rw [← hn] at HS
  clear h hb hn
  go_enter Tryz.func24, Tryz.ntmps24
  go_wp2_with (at_builtin; refine lwpl_app (by rfl) (.tmp 4) (.tmp 5) 22 rfl w.heap.size 86 i0 _ 11 88 Tryz.underlying22 hi hz0 hz1 hz2 rfl (by decide) _ 0 [] rfl (RecT.Own.nil thR 86 w w.heap.size) _ n (thR.cs l) rfl HS.out (thR.ones l) HL.out.1 HL.out.2 (Nat.le_refl _) ?_; intro v3 w3 o3 g3 _; have HF : Hid (thR.Own 86 w3 w.heap.size v3 l ∧ w.grownBy w3 none) := ⟨by unfold RecT.Own; rw [← HN.out]; rw [Nat.zero_add, List.nil_append] at o3; exact o3, g3⟩; clear o3 g3)
  go_ret
  exact ⟨_, rfl, HF.out.1, HF.out.2⟩
theorem alloc_two (w : World) (a b : Array Value) (s t : TypeId) : ((w.alloc (.cells a s)).alloc (.cells b t)).heap[w.heap.size]? = some (.cells a s (0, 0)) := grown_keep (World.grownBy_alloc _ _ none) (alloc_at w a s) (by simp)
def heavyB (c m t f : Nat) : Bool := decide (80 < c) || (decide (20 < m) || (decide (2100 < t) || decide (2100 < f)))
theorem heavyB_no {c m t f : Nat} (h : heavyB c m t f = false) : c ≤ 80 ∧ m ≤ 20 ∧ t ≤ 2100 ∧ f ≤ 2100 := by
  unfold heavyB at h
  simp at h
  omega
set_option maxRecDepth 100000 in
set_option maxHeartbeats 4000000 in
theorem heavy_any (pc pm pt pf : Option Addr) (c m t f kc km kt kf : Nat) (op : Bool) (w : World) : Calls Tryz.prog 11 #[.agg #[.slice pc c kc, .slice pm m km, .bool op], .agg #[.slice pt t kt, .slice pf f kf]] w fun e w' => e = .returned (.bool (heavyB c m t f)) ∧ w.grownBy w' none := by
  obtain ⟨W, hW⟩ : ∃ W, W = (w.alloc (.cells #[.slice pc c kc, .slice pm m km, .bool op] 58)).alloc (.cells #[.slice pt t kt, .slice pf f kf] 25) := ⟨_, rfl⟩
  have HG : Hid (w.grownBy W none) := by rw [hW]; exact grown_push (World.grownBy_alloc _ _ none) _
  have H0 : Hid (W.heap[w.heap.size]? = some (.cells #[.slice pc c kc, .slice pm m km, .bool op] 58 (0, 0)) ∧ TabB W (w.heap.size + 1) (.slice pt t kt) (.slice pf f kf)) := ⟨by rw [hW]; exact alloc_two _ _ _ _ _, by rw [hW]; exact alloc2_b _ _ _ _⟩
  go_enter Tryz.func11, Tryz.ntmps11
  go_upto_region 1 with fail
  rw [← hW]
  obtain ⟨b0, hb0⟩ : ∃ b0, b0 = w.heap.size := ⟨_, rfl⟩
  obtain ⟨b1, hb1⟩ : ∃ b1, b1 = b0 + 1 := ⟨_, rfl⟩
  rw [← hb0, ← hb1] at H0 ⊢
  clear hW hb0 hb1
  have t0 := (tab_box H0.out.2).1
  have t1 := (tab_box H0.out.2).2
  have f0 : W.cell? ⟨b0, 0, none⟩ = some (.slice pc c kc) := (block_cell H0.out.1 0).trans rfl
  have f1 : W.cell? ⟨b0, 1, none⟩ = some (.slice pm m km) := (block_cell H0.out.1 1).trans rfl
  by_cases h1 : 80 < c
  · have e1 : decide ((80 : Int) < (c : Int)) = true := decide_eq_true (by omega)
    have HE : Hid (heavyB c m t f = true) := by show _ = _; unfold heavyB; rw [decide_eq_true h1]; rfl
    go_wp2_with fail
    go_ret
    exact ⟨by rw [HE.out]; rfl, HG.out⟩
  · have e1 : decide ((80 : Int) < (c : Int)) = false := decide_eq_false (by omega)
    by_cases h2 : 20 < m
    · have e2 : decide ((20 : Int) < (m : Int)) = true := decide_eq_true (by omega)
      have HE : Hid (heavyB c m t f = true) := by show _ = _; unfold heavyB; rw [decide_eq_true h2, Bool.true_or, Bool.or_true]
      go_wp2_with fail
      go_ret
      exact ⟨by rw [HE.out]; rfl, HG.out⟩
    · have e2 : decide ((20 : Int) < (m : Int)) = false := decide_eq_false (by omega)
      by_cases h3 : 2100 < t
      · have e3 : decide ((2100 : Int) < (t : Int)) = true := decide_eq_true (by omega)
        have HE : Hid (heavyB c m t f = true) := by show _ = _; unfold heavyB; rw [decide_eq_true h3, Bool.true_or, Bool.or_true, Bool.or_true]
        go_wp2_with fail
        go_ret
        exact ⟨by rw [HE.out]; rfl, HG.out⟩
      · have e3 : decide ((2100 : Int) < (t : Int)) = false := decide_eq_false (by omega)
        by_cases h4 : 2100 < f
        · have e4 : decide ((2100 : Int) < (f : Int)) = true := decide_eq_true (by omega)
          have HE : Hid (heavyB c m t f = true) := by show _ = _; unfold heavyB; rw [decide_eq_true h4, Bool.or_true, Bool.or_true, Bool.or_true]
          go_wp2_with fail
          go_ret
          exact ⟨by rw [HE.out]; rfl, HG.out⟩
        · have e4 : decide ((2100 : Int) < (f : Int)) = false := decide_eq_false (by omega)
          have HE : Hid (heavyB c m t f = false) := by show _ = _; unfold heavyB; rw [decide_eq_false h1, decide_eq_false h2, decide_eq_false h3, decide_eq_false h4]; rfl
          go_wp2_with fail
          go_ret
          exact ⟨by rw [HE.out]; rfl, HG.out⟩
end Go.Proofs.YtblkghfnjahkeaaGreat
namespace Go.Proofs.YtblkghfnjahkeaaGreat
open Go.RowKit Go.Shelf

set_option maxHeartbeats 2000000 in
theorem equalIn_feL (a0 a1 a2 a3 a4 : Int) (w : World) : (Op.equalIn 10000 88 (.agg #[.int .i64 a0, .int .u8 a1, .int .u16 a2, .int .i64 a3, .int .i64 a4]) (.agg #[.int .i64 a0, .int .u8 a1, .int .u16 a2, .int .i64 a3, .int .i64 a4])).run Tryz.prog w = .ok true w := by
  have hS : Tryz.prog.underlying 88 = some (.struct (Tryz.prog.fieldsOf 88)) := by kernel_rfl
  have hp : Tryz.prog.stoodInHeld 88 = false := by kernel_rfl
  have u3 := Tryz.underlying3
  have i3 := Tryz.isAgg3
  have z3 := Tryz.sizeOf3
  have uS := Tryz.underlying29
  have iS := Tryz.isAgg29
  have zS := Tryz.sizeOf29
  have uT := Tryz.underlying40
  have iT := Tryz.isAgg40
  have zT := Tryz.sizeOf40
  rw [show (10000 : Nat) = 9999 + 1 from rfl, run_equalIn_agg w 9999 88 _ _ hS hp]
  simp only [Program.fieldsOf, Tryz.underlying88]
  go_simp
theorem neq_feL (a0 a1 a2 a3 a4 : Int) (w : World) : (binOp .neq 88 (.agg #[.int .i64 a0, .int .u8 a1, .int .u16 a2, .int .i64 a3, .int .i64 a4]) (.agg #[.int .i64 a0, .int .u8 a1, .int .u16 a2, .int .i64 a3, .int .i64 a4])).run Tryz.prog w = .ok (.bool false) w := by
  rw [run_neq_struct, equalIn_feL]; rfl
theorem eqg_feL (op : BinOp) (x y : Operand) (xs ys : Array Value) (w : World) : (eqGuard op 88 x y (.agg xs) (.agg ys)).run Tryz.prog w = .ok () w := run_eqGuard_agg w op 88 x y xs ys (by kernel_rfl)
theorem neq_sdL (s : Sd) (w : World) : (binOp .neq 35 (sdv s) (sdv s)).run Tryz.prog w = .ok (.bool false) w := by
  rw [show sdv s = .agg (sdc s).toArray from rfl, run_neq_struct, equalIn_sd, show sames s s = true from sames_iff.2 rfl]; rfl
theorem eqg_sdL (op : BinOp) (x y : Operand) (xs ys : Array Value) (w : World) : (eqGuard op 35 x y (.agg xs) (.agg ys)).run Tryz.prog w = .ok () w := run_eqGuard_agg w op 35 x y xs ys (by kernel_rfl)
set_option maxRecDepth 100000 in
set_option maxHeartbeats 4000000 in
theorem sameFe_eq (va vb : Value) (l : List Fe) (w : World) (A : feR.At w va l) (B : feR.At w vb l) (hs : l.length ≤ 4096) : Calls Tryz.prog 20 #[va, vb] w fun e w' => e = .returned (.bool true) ∧ w.grownBy w' none := by
  obtain ⟨pa, ca, rfl⟩ := A.form
  obtain ⟨pb, cb, rfl⟩ := B.form
  have HA : Hid (feR.At w (.slice pa l.length ca) l) := A
  have HB : Hid (feR.At w (.slice pb l.length cb) l) := B
  have hsm : Small l.length := by unfold Small; omega
  have hnq := neq_feL
  have hgq := eqg_feL
  clear A B hs
  go_enter Tryz.func20, Tryz.ntmps20
  go_wp2_with fail
  go_loopw [5] (fun x5 wr => ∃ k : Nat, k ≤ l.length ∧ x5 = .int .i64 (k : Int) ∧ w.grownBy wr none) (fun x5 _ => l.length - (intOf x5).toNat)
  case atStart => exact ⟨0, Nat.zero_le _, rfl, grown_refl _ _⟩
  case round =>
    obtain ⟨k, hk, rfl, G⟩ := hrel
    obtain ⟨U, hU⟩ : ∃ U, U = wr := ⟨_, rfl⟩
    subst hU
    have HG : Hid (w.grownBy U none) := G
    clear G
    rcases (show k < l.length ∨ k = l.length from by omega) with hkl | hke
    · have k0 : (0 : Int) ≤ (k : Int) := by omega
      have k1 : (k : Int) < (l.length : Int) := by omega
      obtain ⟨ga, oa, xa, ea, Ra⟩ := fe_there (HA.out.keep HG.out) hkl
      cases ea
      obtain ⟨gb, ob, xb, eb, Rb⟩ := fe_there (HB.out.keep HG.out) hkl
      cases eb
      obtain ⟨x, hx⟩ : ∃ x, x = l[k] := ⟨_, rfl⟩
      rw [← hx] at Ra Rb
      obtain ⟨a0, a1, a2, a3, a4⟩ := fe_cells Ra
      obtain ⟨b0, b1, b2, b3, b4⟩ := fe_cells Rb
      clear hx Ra Rb
      go_upto_region 6 with fail
      go_quiet (fail)
      go_wp2_with fail
      go_roundw
      case rel => exact ⟨k + 1, hkl, by first | rfl | (rw [hsm.wrap hkl]; rfl), grown_trans HG.out (grown_drewN _ _ _)⟩
      case measure => first | exact meas_next hkl | (rw [hsm.wrap hkl]; exact meas_next hkl)
    · have k1 : ¬ (k : Int) < (l.length : Int) := by omega
      clear hke
      go_wp2_with fail
      go_ret
      exact ⟨rfl, HG.out⟩
set_option maxRecDepth 100000 in
set_option maxHeartbeats 4000000 in
theorem sameSd_eq (va vb : Value) (l : List Sd) (w : World) (A : sdR.At w va l) (B : sdR.At w vb l) (hs : l.length ≤ 4096) : Calls Tryz.prog 25 #[va, vb] w fun e w' => e = .returned (.bool true) ∧ w.grownBy w' none := by
  obtain ⟨pa, ca, rfl⟩ := A.form
  obtain ⟨pb, cb, rfl⟩ := B.form
  have HA : Hid (sdR.At w (.slice pa l.length ca) l) := A
  have HB : Hid (sdR.At w (.slice pb l.length cb) l) := B
  have hsm : Small l.length := by unfold Small; omega
  have hnq := fun (s : Sd) (w : World) => (by have h := neq_sdL s w; unfold sdv at h; exact h : (binOp .neq 35 (.agg #[.int .i64 s.th, .int .i64 s.pl, .int .u8 s.wh.wn, .int .u8 s.wh.vb, .int .u8 s.wh.wm, .int .i64 s.wh.ct, .int .u8 s.wh.su, .int .u8 s.wh.tr, .int .u8 s.wh.mr, .string s.wh.nm]) (.agg #[.int .i64 s.th, .int .i64 s.pl, .int .u8 s.wh.wn, .int .u8 s.wh.vb, .int .u8 s.wh.wm, .int .i64 s.wh.ct, .int .u8 s.wh.su, .int .u8 s.wh.tr, .int .u8 s.wh.mr, .string s.wh.nm])).run Tryz.prog w = .ok (.bool false) w)
  have hgq := eqg_sdL
  clear A B hs
  go_enter Tryz.func25, Tryz.ntmps25
  go_wp2_with fail
  go_loopw [5] (fun x5 wr => ∃ k : Nat, k ≤ l.length ∧ x5 = .int .i64 (k : Int) ∧ w.grownBy wr none) (fun x5 _ => l.length - (intOf x5).toNat)
  case atStart => exact ⟨0, Nat.zero_le _, rfl, grown_refl _ _⟩
  case round =>
    obtain ⟨k, hk, rfl, G⟩ := hrel
    obtain ⟨U, hU⟩ : ∃ U, U = wr := ⟨_, rfl⟩
    subst hU
    have HG : Hid (w.grownBy U none) := G
    clear G
    rcases (show k < l.length ∨ k = l.length from by omega) with hkl | hke
    · have k0 : (0 : Int) ≤ (k : Int) := by omega
      have k1 : (k : Int) < (l.length : Int) := by omega
      obtain ⟨ga, oa, xa, ea, Ra⟩ := sd_there (HA.out.keep HG.out) hkl
      cases ea
      obtain ⟨gb, ob, xb, eb, Rb⟩ := sd_there (HB.out.keep HG.out) hkl
      cases eb
      obtain ⟨x, hx⟩ : ∃ x, x = l[k] := ⟨_, rfl⟩
      rw [← hx] at Ra Rb
      obtain ⟨a0, a1, a2, a3, a4, a5, a6, a7, a8, a9⟩ := sd_cells Ra
      obtain ⟨b0, b1, b2, b3, b4, b5, b6, b7, b8, b9⟩ := sd_cells Rb
      clear hx Ra Rb
      go_upto_region 6 with fail
      go_quiet (fail)
      go_wp2_with fail
      go_roundw
      case rel => exact ⟨k + 1, hkl, by first | rfl | (rw [hsm.wrap hkl]; rfl), grown_trans HG.out (grown_drewN _ _ _)⟩
      case measure => first | exact meas_next hkl | (rw [hsm.wrap hkl]; exact meas_next hkl)
    · have k1 : ¬ (k : Int) < (l.length : Int) := by omega
      clear hke
      go_wp2_with fail
      go_ret
      exact ⟨rfl, HG.out⟩
end Go.Proofs.YtblkghfnjahkeaaGreat
