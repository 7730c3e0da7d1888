/-
  What the document's own Parse takes any text for; EffectParses, walked.
-/
import Derived.Test.YtpceelbphpfciaaGreatDoorRRead
import Derived.Test.YtpceelbphpfciaaGreatDoorRPrt
import Derived.Test.YtpceelbphpfciaaGreatDoorLives
namespace Go.Proofs.YtpceelbphpfciaaGreatDoor
open Go.RowKit

theorem digs_bound : ∀ (k : Nat) (n : Int) (l : List UInt8), 0 ≤ n → 0 ≤ digs k n l ∧ digs k n l < (n + 1) * 10 ^ k
  | 0, n, l, h => by simp [digs]; omega
  | k + 1, n, [], h => by
    have h0 : (0 : Int) < 10 ^ (k + 1) := Int.pow_pos (by decide)
    have : (1 : Int) ≤ 10 ^ (k + 1) := by omega
    simp only [digs]
    refine ⟨h, ?_⟩
    have := Int.mul_le_mul_of_nonneg_left this (show 0 ≤ n + 1 by omega)
    omega
  | k + 1, n, c :: r, h => by
    simp only [digs]
    split
    · rename_i hc
      have ih := digs_bound k (10 * n + (c.toNat - 48 : Nat)) r (by omega)
      refine ⟨ih.1, Int.lt_of_lt_of_le ih.2 ?_⟩
      have : (10 * n + ((c.toNat - 48 : Nat) : Int) + 1) * 10 ^ k ≤ ((n + 1) * 10) * 10 ^ k := Int.mul_le_mul_of_nonneg_right (by omega) (Int.pow_nonneg (by decide))
      rw [Int.pow_succ, Int.mul_comm (10 ^ k) 10, ← Int.mul_assoc]
      exact this
    · have ih := digs_bound k n r h
      refine ⟨ih.1, Int.lt_of_lt_of_le ih.2 ?_⟩
      have : (n + 1) * 10 ^ k ≤ ((n + 1) * 10) * 10 ^ k := Int.mul_le_mul_of_nonneg_right (by omega) (Int.pow_nonneg (by decide))
      rw [Int.pow_succ, Int.mul_comm (10 ^ k) 10, ← Int.mul_assoc]
      exact this
theorem numb_bound (l : List UInt8) : -1000 < numb l ∧ numb l < 1000 := by
  have h := digs_bound 3 0 l (by decide)
  have e : ((0 : Int) + 1) * 10 ^ 3 = 1000 := by decide
  rw [e] at h
  unfold numb
  split <;> omega
theorem rr1_wf {p : Pt} (h : p.wf) (k : Nat) (x : List UInt8) : (rr1 k x p).wf := by
  have a : idx suitW x ≤ 6 := idx_le
  have b : idx traitW x ≤ 8 := idx_le
  have n := numb_bound x
  match k with
  | 0 => exact ⟨h.wn, h.vb, h.wm, by simp only [rr1]; omega, h.su, h.tr, h.mr⟩
  | 1 => exact ⟨h.wn, h.vb, h.wm, h.ct, by simp only [rr1]; omega, h.tr, h.mr⟩
  | 2 => exact ⟨h.wn, h.vb, h.wm, h.ct, h.su, by simp only [rr1]; omega, h.mr⟩
  | 3 => exact ⟨h.wn, h.vb, h.wm, h.ct, h.su, h.tr, by simp only [rr1]; omega⟩
  | k + 4 => exact ⟨h.wn, h.vb, h.wm, h.ct, h.su, h.tr, h.mr⟩
theorem rrF_wf : ∀ (ks : List Nat) (ws : List (List UInt8)) (p : Pt), p.wf → (rrF ks ws p).wf
  | [], _, p, h => by simpa [rrF] using h
  | _ :: _, [], p, h => by simpa [rrF] using h
  | k :: ks, x :: r, p, h => by
    simp only [rrF]
    exact rrF_wf ks r _ (rr1_wf h k x)
theorem none_wf : Pt.none.wf := ⟨by decide, by decide, by decide, by decide, by decide, by decide, by decide⟩
theorem rread_wf (ws : List (List UInt8)) : (rread ws).wf := by
  match ws with
  | [] => exact none_wf
  | [_] => exact none_wf
  | [_, _] => exact none_wf
  | a :: b :: c :: r =>
    simp only [rread]
    have ha : idx whenW a ≤ 6 := idx_le
    have hb : idx verbW b ≤ 19 := idx_le
    have hc : idx whomW c ≤ 10 := idx_le
    exact rrF_wf _ _ _ ⟨by simp only; omega, by simp only; omega, by simp only; omega, none_wf.ct, none_wf.su, none_wf.tr, none_wf.mr⟩
theorem three_of : ∀ {l : List (List UInt8)}, ¬ l.length < 3 → ∃ x y z r, l = x :: y :: z :: r
  | [], h => absurd (by decide) h
  | [_], h => absurd (by simp) h
  | [_, _], h => absurd (by simp) h
  | x :: y :: z :: r, _ => ⟨x, y, z, r, rfl⟩
set_option maxHeartbeats 2000000 in
set_option maxRecDepth 100000 in
theorem rread_short (p : Option Addr) (c n : Nat) (h : n < 3) (w : World) :
    Calls Tryz.prog 31 #[.slice p n c] w fun e w' => e = .returned (pv Pt.none) ∧ w.grownBy w' none := by
  have hlt : (n : Int) < 3 := by omega
  clear h
  go_enter Tryz.func31, Tryz.ntmps31
  go_wp2
  refine bodyPost_ret (v := .agg #[.int .u8 0, .int .u8 0, .int .u8 0, .int .i64 0, .int .u8 0, .int .u8 0, .int .u8 0, .string ⟨#[]⟩]) (by simp [results, Tryz.results31, go_sem]) rfl ⟨?_, ?_⟩
  · rfl
  · exact grown_push (World.grownBy_alloc _ _ _) _
theorem rread_own (l : List (List UInt8)) (hl : l.length ≤ 1000) (v : Value) (base : Nat) (w : World) (O : Own w base 9 v (pcs l)) : Calls Tryz.prog 31 #[v] w fun e w' => e = .returned (pv (rread l)) ∧ w.grownBy w' none := by
  have short : l.length < 3 → rread l = Pt.none := fun h => by
    match l, h with
    | [], _ => rfl
    | [_], _ => rfl
    | [_, _], _ => rfl
  rcases O.at with ⟨rfl, e⟩ | ⟨g, cap, rfl, _, hg, _, hc⟩
  · have : l = [] := by simpa [pcs] using e
    subst this
    exact rread_short _ _ _ (by decide) w
  · rw [length_pcs]
    by_cases h : l.length < 3
    · rw [short h]
      exact rread_short _ _ _ h w
    · obtain ⟨x, y, z, r, rfl⟩ := three_of h
      have X : W0At w g ((⟨x.toArray⟩ : ByteArray) :: ⟨y.toArray⟩ :: ⟨z.toArray⟩ :: r.map fun t => (⟨t.toArray⟩ : ByteArray)) := fun i t ht => by
        refine (hc i _ ?_).1
        have : (pcs (x :: y :: z :: r))[i]? = (((⟨x.toArray⟩ : ByteArray) :: ⟨y.toArray⟩ :: ⟨z.toArray⟩ :: r.map fun t => (⟨t.toArray⟩ : ByteArray)).map Value.string)[i]? := by simp [pcs, Function.comp_def]
        rw [this, List.getElem?_map, ht]
        rfl
      have k := rread_long g cap ⟨x.toArray⟩ ⟨y.toArray⟩ ⟨z.toArray⟩ (r.map fun t => (⟨t.toArray⟩ : ByteArray)) (by simp at hl ⊢; omega) w hg X
      rw [List.length_map] at k
      have e : (r.map fun t => (⟨t.toArray⟩ : ByteArray)).map (·.data.toList) = r := by simp [Function.comp_def]
      rw [e] at k
      exact k
set_option maxHeartbeats 4000000 in
set_option maxRecDepth 100000 in
theorem rparse_long (s : ByteArray) (h : 80 < s.size) (w : World) : Calls Tryz.prog 9 #[.string s] w fun e w' => e = .returned (pe (Pt.none, 3)) ∧ w.grownBy w' none := by
  have hb : (80 : Int) < (s.size : Int) := by omega
  clear h
  go_enter Tryz.func9, Tryz.ntmps9
  go_wp2
  refine bodyPost_ret (v := .tuple #[.agg #[.int .u8 0, .int .u8 0, .int .u8 0, .int .i64 0, .int .u8 0, .int .u8 0, .int .u8 0, .string ⟨#[]⟩], .int .i64 3]) (by simp [results, Tryz.results9, go_sem]) rfl ⟨?_, ?_⟩
  · rfl
  · exact World.grownBy_alloc _ _ _
set_option maxHeartbeats 4000000 in
set_option maxRecDepth 100000 in
theorem rparse_bad (s : ByteArray) (h : s.size ≤ 80) (p2 : Pt) (hr : rread (pieces s.data.toList) = p2) (hc : ¬ chk p2 = 0) (w : World) : Calls Tryz.prog 9 #[.string s] w fun e w' => e = .returned (pe (Pt.none, 150)) ∧ w.grownBy w' none := by
  have hb : ¬ (80 : Int) < (s.size : Int) := by omega
  have HS : Hid (s.size ≤ 80) := h
  have HR : Hid (rread (pieces s.data.toList) = p2) := hr
  have HW : Hid (p2.wf) := by unfold Hid; rw [← hr]; exact rread_wf _
  clear h hr
  go_enter Tryz.func9, Tryz.ntmps9
  go_wp2_with fail
  have Za := PAt.new w Pt.none
  have Ga := World.grownBy_alloc w (.cells #[.int .u8 0, .int .u8 0, .int .u8 0, .int .i64 0, .int .u8 0, .int .u8 0, .int .u8 0, .string ⟨#[]⟩] 29) none
  refine (rpieces_any s (by have := HS.out; omega) _).mono ?_
  rintro e W1 ⟨v, rfl, O1, g1⟩
  have Z1 := Za.keep g1
  have G1 := grown_trans Ga g1
  have HO : Hid (Own W1 _ 9 v (pcs (pieces s.data.toList))) := O1
  clear Za Ga g1 O1
  go_wp2_with fail
  refine (rread_own _ (by have := pieces_len s.data.toList; have := HS.out; rw [Lib.size_eq] at this; omega) v _ W1 HO.out).mono ?_
  rintro e W2 ⟨rfl, g2⟩
  rw [HR.out]
  simp only [pv]
  have Z3 := (Z1.keep g2).keep (World.grownBy_alloc _ (.cells #[.int .u8 p2.wn, .int .u8 p2.vb, .int .u8 p2.wm, .int .i64 p2.ct, .int .u8 p2.su, .int .u8 p2.tr, .int .u8 p2.mr, .string p2.nm] 29) none)
  have A3 := PAt.new W2 p2
  have G3 := grown_push (grown_trans G1 g2) (.cells #[.int .u8 p2.wn, .int .u8 p2.vb, .int .u8 p2.wm, .int .i64 p2.ct, .int .u8 p2.su, .int .u8 p2.tr, .int .u8 p2.mr, .string p2.nm] 29)
  have l2 : w.heap.size < W2.heap.size := block_lt (Z1.keep g2)
  go_wp2_with fail
  obtain ⟨W3, hW3⟩ : ∃ W3, W3 = W2.alloc (.cells #[.int .u8 p2.wn, .int .u8 p2.vb, .int .u8 p2.wm, .int .i64 p2.ct, .int .u8 p2.su, .int .u8 p2.tr, .int .u8 p2.mr, .string p2.nm] 29) := ⟨_, rfl⟩
  rw [← hW3] at Z3 A3 G3 ⊢
  obtain ⟨q, hq⟩ : ∃ q, q = W2.heap.size := ⟨_, rfl⟩
  rw [← hq] at A3 l2 ⊢
  clear Z1 G1 g2 hW3 hq
  refine (rprint_any p2 HW.out W3).mono ?_
  rintro e W4 ⟨rfl, g4⟩
  have Z4 := Z3.keep g4
  have A4 := A3.keep g4
  have G4 := grown_trans G3 g4
  clear Z3 A3 G3 g4
  obtain ⟨c0, c1, c2, c3, c4, c5, c6, c7⟩ := A4.cells
  obtain ⟨z0, z1, z2, z3, z4, z5, z6, z7⟩ := Z4.cells
  have zf : ∀ i, W4.frozen? ⟨w.heap.size, i, none⟩ = false := block_free Z4
  simp only [Pt.none] at z0 z1 z2 z3 z4 z5 z6 z7
  obtain ⟨c, hcc⟩ : ∃ c, c = chk p2 := ⟨_, rfl⟩
  rw [← hcc] at hc ⊢
  have hn : (c != 0) = true := by simpa using hc
  have hn' : (c == 0) = false := by simpa using hc
  obtain ⟨t, ht⟩ : ∃ t, t = prB p2 := ⟨_, rfl⟩
  rw [← ht]
  clear hcc hc ht
  clear A4 Z4
  go_wp2
  refine bodyPost_ret (v := .tuple #[.agg #[.int .u8 0, .int .u8 0, .int .u8 0, .int .i64 0, .int .u8 0, .int .u8 0, .int .u8 0, .string ⟨#[]⟩], .int .i64 150]) (by simp [results, Tryz.results9, go_sem, z0, z1, z2, z3, z4, z5, z6, z7]) rfl ⟨?_, ?_⟩
  · rfl
  · exact grown_st8 G4 (Nat.le_refl _) _ _ _ _ _ _ _ _
set_option maxHeartbeats 4000000 in
set_option maxRecDepth 100000 in
theorem rparse_else (s : ByteArray) (h : s.size ≤ 80) (p2 : Pt) (hr : rread (pieces s.data.toList) = p2) (hc : chk p2 = 0) (hx : ¬ prt p2 = s.data.toList) (w : World) : Calls Tryz.prog 9 #[.string s] w fun e w' => e = .returned (pe (Pt.none, 150)) ∧ w.grownBy w' none := by
  have hb : ¬ (80 : Int) < (s.size : Int) := by omega
  have HS : Hid (s.size ≤ 80) := h
  have HR : Hid (rread (pieces s.data.toList) = p2) := hr
  have HW : Hid (p2.wf) := by unfold Hid; rw [← hr]; exact rread_wf _
  clear h hr
  go_enter Tryz.func9, Tryz.ntmps9
  go_wp2_with fail
  have Za := PAt.new w Pt.none
  have Ga := World.grownBy_alloc w (.cells #[.int .u8 0, .int .u8 0, .int .u8 0, .int .i64 0, .int .u8 0, .int .u8 0, .int .u8 0, .string ⟨#[]⟩] 29) none
  refine (rpieces_any s (by have := HS.out; omega) _).mono ?_
  rintro e W1 ⟨v, rfl, O1, g1⟩
  have Z1 := Za.keep g1
  have G1 := grown_trans Ga g1
  have HO : Hid (Own W1 _ 9 v (pcs (pieces s.data.toList))) := O1
  clear Za Ga g1 O1
  go_wp2_with fail
  refine (rread_own _ (by have := pieces_len s.data.toList; have := HS.out; rw [Lib.size_eq] at this; omega) v _ W1 HO.out).mono ?_
  rintro e W2 ⟨rfl, g2⟩
  rw [HR.out]
  simp only [pv]
  have Z3 := (Z1.keep g2).keep (World.grownBy_alloc _ (.cells #[.int .u8 p2.wn, .int .u8 p2.vb, .int .u8 p2.wm, .int .i64 p2.ct, .int .u8 p2.su, .int .u8 p2.tr, .int .u8 p2.mr, .string p2.nm] 29) none)
  have A3 := PAt.new W2 p2
  have G3 := grown_push (grown_trans G1 g2) (.cells #[.int .u8 p2.wn, .int .u8 p2.vb, .int .u8 p2.wm, .int .i64 p2.ct, .int .u8 p2.su, .int .u8 p2.tr, .int .u8 p2.mr, .string p2.nm] 29)
  have l2 : w.heap.size < W2.heap.size := block_lt (Z1.keep g2)
  go_wp2_with fail
  obtain ⟨W3, hW3⟩ : ∃ W3, W3 = W2.alloc (.cells #[.int .u8 p2.wn, .int .u8 p2.vb, .int .u8 p2.wm, .int .i64 p2.ct, .int .u8 p2.su, .int .u8 p2.tr, .int .u8 p2.mr, .string p2.nm] 29) := ⟨_, rfl⟩
  rw [← hW3] at Z3 A3 G3 ⊢
  obtain ⟨q, hq⟩ : ∃ q, q = W2.heap.size := ⟨_, rfl⟩
  rw [← hq] at A3 l2 ⊢
  clear Z1 G1 g2 hW3 hq
  refine (rprint_any p2 HW.out W3).mono ?_
  rintro e W4 ⟨rfl, g4⟩
  have Z4 := Z3.keep g4
  have A4 := A3.keep g4
  have G4 := grown_trans G3 g4
  clear Z3 A3 G3 g4
  obtain ⟨c0, c1, c2, c3, c4, c5, c6, c7⟩ := A4.cells
  obtain ⟨z0, z1, z2, z3, z4, z5, z6, z7⟩ := Z4.cells
  have zf : ∀ i, W4.frozen? ⟨w.heap.size, i, none⟩ = false := block_free Z4
  simp only [Pt.none] at z0 z1 z2 z3 z4 z5 z6 z7
  rw [hc]
  obtain ⟨t, ht⟩ : ∃ t, t = prB p2 := ⟨_, rfl⟩
  have hts : t.toList = prt p2 := by
    rw [ht, Lib.toList_data]
    unfold prB
    rw [if_pos hc]
  rw [← ht]
  have hn : (t.toList == s.toList) = false := by
    rw [hts, Lib.toList_data]
    simpa using hx
  have hn' : (t.toList != s.toList) = true := by simp only [bne, hn]; rfl
  clear ht hts hx hc
  clear A4 Z4
  go_wp2
  refine bodyPost_ret (v := .tuple #[.agg #[.int .u8 0, .int .u8 0, .int .u8 0, .int .i64 0, .int .u8 0, .int .u8 0, .int .u8 0, .string ⟨#[]⟩], .int .i64 150]) (by simp [results, Tryz.results9, go_sem, z0, z1, z2, z3, z4, z5, z6, z7]) rfl ⟨?_, ?_⟩
  · rfl
  · exact grown_st8 G4 (Nat.le_refl _) _ _ _ _ _ _ _ _
set_option maxHeartbeats 4000000 in
set_option maxRecDepth 100000 in
theorem rparse_good (s : ByteArray) (h : s.size ≤ 80) (p2 : Pt) (hr : rread (pieces s.data.toList) = p2) (hc : chk p2 = 0) (hx : prt p2 = s.data.toList) (w : World) : Calls Tryz.prog 9 #[.string s] w fun e w' => e = .returned (pe (p2, 0)) ∧ w.grownBy w' none := by
  have hb : ¬ (80 : Int) < (s.size : Int) := by omega
  have HS : Hid (s.size ≤ 80) := h
  have HR : Hid (rread (pieces s.data.toList) = p2) := hr
  have HW : Hid (p2.wf) := by unfold Hid; rw [← hr]; exact rread_wf _
  clear h hr
  go_enter Tryz.func9, Tryz.ntmps9
  go_wp2_with fail
  have Za := PAt.new w Pt.none
  have Ga := World.grownBy_alloc w (.cells #[.int .u8 0, .int .u8 0, .int .u8 0, .int .i64 0, .int .u8 0, .int .u8 0, .int .u8 0, .string ⟨#[]⟩] 29) none
  refine (rpieces_any s (by have := HS.out; omega) _).mono ?_
  rintro e W1 ⟨v, rfl, O1, g1⟩
  have Z1 := Za.keep g1
  have G1 := grown_trans Ga g1
  have HO : Hid (Own W1 _ 9 v (pcs (pieces s.data.toList))) := O1
  clear Za Ga g1 O1
  go_wp2_with fail
  refine (rread_own _ (by have := pieces_len s.data.toList; have := HS.out; rw [Lib.size_eq] at this; omega) v _ W1 HO.out).mono ?_
  rintro e W2 ⟨rfl, g2⟩
  rw [HR.out]
  simp only [pv]
  have Z3 := (Z1.keep g2).keep (World.grownBy_alloc _ (.cells #[.int .u8 p2.wn, .int .u8 p2.vb, .int .u8 p2.wm, .int .i64 p2.ct, .int .u8 p2.su, .int .u8 p2.tr, .int .u8 p2.mr, .string p2.nm] 29) none)
  have A3 := PAt.new W2 p2
  have G3 := grown_push (grown_trans G1 g2) (.cells #[.int .u8 p2.wn, .int .u8 p2.vb, .int .u8 p2.wm, .int .i64 p2.ct, .int .u8 p2.su, .int .u8 p2.tr, .int .u8 p2.mr, .string p2.nm] 29)
  have l2 : w.heap.size < W2.heap.size := block_lt (Z1.keep g2)
  go_wp2_with fail
  obtain ⟨W3, hW3⟩ : ∃ W3, W3 = W2.alloc (.cells #[.int .u8 p2.wn, .int .u8 p2.vb, .int .u8 p2.wm, .int .i64 p2.ct, .int .u8 p2.su, .int .u8 p2.tr, .int .u8 p2.mr, .string p2.nm] 29) := ⟨_, rfl⟩
  rw [← hW3] at Z3 A3 G3 ⊢
  obtain ⟨q, hq⟩ : ∃ q, q = W2.heap.size := ⟨_, rfl⟩
  rw [← hq] at A3 l2 ⊢
  clear Z1 G1 g2 hW3 hq
  refine (rprint_any p2 HW.out W3).mono ?_
  rintro e W4 ⟨rfl, g4⟩
  have Z4 := Z3.keep g4
  have A4 := A3.keep g4
  have G4 := grown_trans G3 g4
  clear Z3 A3 G3 g4
  obtain ⟨c0, c1, c2, c3, c4, c5, c6, c7⟩ := A4.cells
  obtain ⟨z0, z1, z2, z3, z4, z5, z6, z7⟩ := Z4.cells
  have zf : ∀ i, W4.frozen? ⟨w.heap.size, i, none⟩ = false := block_free Z4
  simp only [Pt.none] at z0 z1 z2 z3 z4 z5 z6 z7
  rw [hc]
  obtain ⟨t, ht⟩ : ∃ t, t = prB p2 := ⟨_, rfl⟩
  have hts : t.toList = prt p2 := by
    rw [ht, Lib.toList_data]
    unfold prB
    rw [if_pos hc]
  rw [← ht]
  have hn : (t.toList == s.toList) = true := by
    rw [hts, Lib.toList_data]
    simpa using hx
  have hn' : (t.toList != s.toList) = false := by simp only [bne, hn]; rfl
  clear ht hts hx hc
  clear A4 Z4
  go_wp2
  refine bodyPost_ret (v := .tuple #[.agg #[.int .u8 p2.wn, .int .u8 p2.vb, .int .u8 p2.wm, .int .i64 p2.ct, .int .u8 p2.su, .int .u8 p2.tr, .int .u8 p2.mr, .string p2.nm], .int .i64 0]) (by simp [results, Tryz.results9, go_sem, z0, z1, z2, z3, z4, z5, z6, z7]) rfl ⟨?_, ?_⟩
  · rfl
  · exact grown_st8 G4 (Nat.le_refl _) _ _ _ _ _ _ _ _
/-- Of every text. -/
theorem rparse_any (s : ByteArray) (w : World) : Calls Tryz.prog 9 #[.string s] w fun e w' => e = .returned (pe (rparse s.data.toList)) ∧ w.grownBy w' none := by
  have hl := Lib.size_eq s
  unfold rparse
  by_cases h : 80 < s.size
  · rw [if_pos (by omega)]
    exact rparse_long s h w
  · rw [if_neg (by omega)]
    by_cases hc : chk (rread (pieces s.data.toList)) = 0
    · by_cases hx : prt (rread (pieces s.data.toList)) = s.data.toList
      · rw [if_pos ⟨hc, hx⟩]
        exact rparse_good s (by omega) _ rfl hc hx w
      · rw [if_neg (fun e => hx e.2)]
        exact rparse_else s (by omega) _ rfl hc hx w
    · rw [if_neg (fun e => hc e.1)]
      exact rparse_bad s (by omega) _ rfl hc w
end Go.Proofs.YtpceelbphpfciaaGreatDoor
