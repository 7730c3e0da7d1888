/-
  Zones: a thing comes to a place: the program's atHome, come.
-/
import Derived.Test.YtogpgldbbegniaaZmJ2
namespace Go.Proofs.Ytogpgldbbegniaa
open Go.RowKit

set_option maxRecDepth 100000 in
set_option maxHeartbeats 4000000 in
theorem atHome_any (t : Th) (pl : Int) (w : World) : Calls Try.prog 98 #[thv t, .int .u8 pl] w fun e w' => e = .returned (.agg #[.int .i64 t.card, .int .i64 t.owner, .int .u8 pl, .int .i64 0, .int .i64 0, .int .i64 0, .int .i64 0, .int .i64 0, .int .i64 0, .int .i64 0, .bool false]) ∧ w.grownBy w' none := by
  unfold thv
  go_enter Try.func98, Try.ntmps98
  go_wp2
  refine bodyPost_ret (v := .agg #[.int .i64 t.card, .int .i64 t.owner, .int .u8 pl, .int .i64 0, .int .i64 0, .int .i64 0, .int .i64 0, .int .i64 0, .int .i64 0, .int .i64 0, .bool false]) (by simp [results, Try.results98, go_sem]) rfl ⟨rfl, ?_⟩
  first | exact grown_push (World.grownBy_alloc _ _ none) _ | exact World.grownBy_alloc _ _ _
/-- Where a thing of theirs lies. -/
theorem zg_at {T : TypeId} {ex : List Value} {w : World} {b : Nat} {S : List Nat} {z : Zs} {vt d0 d1 h0 h1 : Value} (h : ZG T ex w b S z vt d0 d1 h0 h1) {k : Nat} (hk : k < z.ts.length) : ∃ g cap, vt = .slice (some ⟨g, 0, none⟩) z.ts.length cap ∧ w.rangeAt g (k * 11) (thc (thAt z.ts ((k : Int) + 1))) := by
  obtain ⟨g, cap, e, _⟩ := own_cell h.ts (by omega)
  have hn : there z.ts ((k : Int) + 1) := by unfold there; omega
  obtain ⟨g', off, cap', e2, R⟩ := ths_there h.ts.at hn
  rw [e] at e2
  cases e2
  rw [show ((k : Int) + 1 - 1).toNat = k from by omega, Nat.zero_add] at R
  exact ⟨g, cap, e, R⟩
theorem Src_one (V : World) (x : Int) : Src (V.drew.alloc (.cells #[.int .i64 x] 3)) (.slice (some ⟨V.heap.size, 0, none⟩) 1 1) 1 1 (ints [x]) := lit_Src (cs := #[.int .i64 x]) (alloc_at V.drew _ _) rfl 1
theorem zg_bg {T : TypeId} {ex : List Value} {w : World} {b g n cap : Nat} {S : List Nat} {z : Zs} {d0 d1 h0 h1 : Value} (h : ZG T ex w b S z (.slice (some ⟨g, 0, none⟩) n cap) d0 d1 h0 h1) (hT : tgs T) : some b ≠ some g := by
  intro q
  have q2 : b = g := by simpa using q
  rcases h.ts.2 with ⟨e1, _⟩ | ⟨g1, cap1, cur, e1, _, hh, _⟩
  · cases e1
  · simp at e1
    have hb := h.blk
    rw [q2, e1.1, hh] at hb
    simp at hb
    exact hT.2 hb.2.symm
theorem left_ts (z : Zs) (n : Int) : (z.left n).ts = z.ts := rfl
theorem left_nx (z : Zs) (n : Int) : (z.left n).nx = z.nx := rfl
theorem filter_len (l : List Int) (n : Int) : (l.filter (· != n)).length ≤ l.length := List.length_filter_le _ _
/-- A cell that a row written over does not reach. -/
theorem cell_setCells {w : World} {g o : Nat} {vs : List Value} {a : Addr} {u : Value} (h : w.cell? a = some u) (hg : a.block ≠ g) : (w.setCells g o vs).cell? a = some u := by
  rw [World.cell?_setCells_out g vs o w a (fun q => absurd q hg)]
  exact h
set_option maxRecDepth 100000 in
set_option maxHeartbeats 4000000 in
theorem come_dk0 (b : Nat) (Sb : List Nat) (z : Zs) (n : Int) (w : World) (Z : ZAt w b Sb z) (F : z.Fine n) (hS : Old w Sb) (hf : z.ts.length ≤ 2048) (hd : ∀ p, p = 0 ∨ p = 1 → (z.dk p).length ≤ 2048) (hh : ∀ p, p = 0 ∨ p = 1 → (z.hd p).length ≤ 2048) (ho : (thAt z.ts n).owner = 0) : Calls Try.prog 65 #[.pointer (some ⟨b, 0, none⟩), .int .i64 n, .int .u8 1] w (TnPost w b Sb (z.come n 1) (.tuple #[])) := by
  obtain ⟨i1, hi1, hza1, hzb1, hzc1⟩ := info_parts Try.info3i'
  have HC := leave_any b Sb z n w Z F hS hf hd hh
  have hn := F.at_
  have hown := F.own
  obtain ⟨k, hk⟩ : ∃ k : Nat, n = (k : Int) + 1 := ⟨(n - 1).toNat, by unfold there at hn; omega⟩
  subst hk
  have hlt : k < z.ts.length := by unfold there at hn; omega
  obtain ⟨t, ht⟩ : ∃ t, t = thAt z.ts ((k : Int) + 1) := ⟨_, rfl⟩
  have HTT : Hid (t = thAt z.ts ((k : Int) + 1)) := ht
  have hw1 : wrap64 (k : Int) = (k : Int) := by unfold wrap64; omega
  have hw9 : IntKind.i64.wrap (k : Int) = (k : Int) := IntWalk.i64_in _ (by omega)
  have hlt' : (k : Int) < z.ts.length := by omega
  have HF : Hid (z.Fine ((k : Int) + 1)) := F
  have HSo : Hid (Old w Sb) := hS
  have Hdl : Hid (∀ p, p = 0 ∨ p = 1 → (z.dk p).length ≤ 2048) := hd
  have Hhl : Hid (∀ p, p = 0 ∨ p = 1 → (z.hd p).length ≤ 2048) := hh
  have hto : t.owner = 0 := by rw [ht]; exact ho
  have HHo : Hid ((thAt z.ts ((k : Int) + 1)).owner = 0) := ho
  clear F hS hd hh hn hown ht ho
  go_enter Try.func65, Try.ntmps65
  go_wp2_with fail
  refine HC.mono ?_
  rintro e w1 ⟨rfl, S1, ⟨vt, d0, d1, h0, h1, Z1⟩, T1⟩
  obtain ⟨g, cap, rfl, R1⟩ := zg_at Z1 (k := k) (by rw [left_ts]; exact hlt)
  rw [left_ts, ← HTT.out] at R1
  obtain ⟨e1, e2, e3, e4, e5, e6, e7, e8, e9, e10, e11⟩ := range_cells R1
  obtain ⟨c0, c1, c2, c3, c4, c5⟩ := Z1.cell
  rw [left_ts] at c0
  rw [left_nx] at c5
  have AH := atHome_any t 1 w1
  unfold thv at AH
  have HZ1 : Hid (ZG 93 [] w1 b S1 (z.left ((k : Int) + 1)) (.slice (some ⟨g, 0, none⟩) z.ts.length cap) d0 d1 h0 h1) := Z1
  have HT1 : Hid (Turn w w1 Sb S1) := T1
  clear Z1 T1 R1 HC
  rw [hto] at e2 AH
  have eL : (z.left ((k : Int) + 1)).dk 0 = ((z.dk 0).filter (· != ((k : Int) + 1))) := by
    show (if (0 : Int) = (thAt z.ts ((k : Int) + 1)).owner then _ else _) = _
    rw [HHo.out, if_pos rfl]
  obtain ⟨l, hl⟩ : ∃ l, l = ((z.dk 0).filter (· != ((k : Int) + 1))) := ⟨_, rfl⟩
  have HLl : Hid (l = ((z.dk 0).filter (· != ((k : Int) + 1)))) := hl
  rw [← hl] at eL
  have O1 := HZ1.out.od0
  rw [eL] at O1
  have hln : l.length ≤ 2048 := by rw [hl]; exact Nat.le_trans (filter_len _ _) (Hdl.out 0 (by decide))
  obtain ⟨pd, cd, ev, _⟩ := own_slice O1
  have HEV : Hid (d0 = .slice pd l.length cd) := ev
  have HO1 : Hid (OwnI w1 0 (.slice pd l.length cd) l) := by rw [← ev]; exact O1
  have HEL : Hid ((z.left ((k : Int) + 1)).dk 0 = l) := eL
  rw [ev] at c1
  have HLs : Hid (l.length + 1 ≤ maxLen ∧ (l.length + 1) * 8 ≤ 140737488355328) := by show _ ∧ _; unfold maxLen; omega
  clear O1 ev eL hl hln
  go_wp2_with fail
  refine AH.mono ?_
  rintro e w2 ⟨rfl, g2⟩
  have HG2 : Hid (w1.grownBy w2 none) := g2
  obtain ⟨X, hX⟩ : ∃ X, X = w2.heap.size := ⟨_, rfl⟩
  obtain ⟨V, hV⟩ : ∃ V, V = w2.alloc (.cells #[.int .i64 t.card, .int .i64 0, .int .u8 1, .int .i64 0, .int .i64 0, .int .i64 0, .int .i64 0, .int .i64 0, .int .i64 0, .int .i64 0, .bool false] 38) := ⟨_, rfl⟩
  have HV : Hid (V = w2.alloc (.cells #[.int .i64 t.card, .int .i64 0, .int .u8 1, .int .i64 0, .int .i64 0, .int .i64 0, .int .i64 0, .int .i64 0, .int .i64 0, .int .i64 0, .bool false] 38)) := hV
  have HX : Hid (X = w2.heap.size) := hX
  have HGV : Hid (w1.grownBy V none) := by show w1.grownBy V none; rw [hV]; exact grown_push g2 _
  have HXb : Hid (V.heap[X]? = some (.cells #[.int .i64 t.card, .int .i64 0, .int .u8 1, .int .i64 0, .int .i64 0, .int .i64 0, .int .i64 0, .int .i64 0, .int .i64 0, .int .i64 0, .bool false] 38 (0, 0))) := by show V.heap[X]? = _; rw [hV, hX]; exact alloc_at _ _ _
  have x1 : V.cell? ⟨X, 1, none⟩ = some (.int .i64 0) := (block_cell HXb.out 1).trans rfl
  have s2 : V.cell? ⟨b, 1, none⟩ = some (.slice pd l.length cd) := HGV.out.cell c1 (by simp)
  have HbX : Hid (b < X ∧ g < X) := by
    show b < X ∧ g < X
    rw [hX]
    exact ⟨Nat.lt_of_lt_of_le (block_lt HZ1.out.blk) g2.size, Nat.lt_of_lt_of_le (own_lt HZ1.out.ts g rfl) g2.size⟩
  have HGV1c : Hid (w1.cell? ⟨b, 1, none⟩ = some (.slice pd l.length cd)) := c1
  clear g2 hX hV AH c0 c1 c2 c3 c4 c5 e1 e2 e3 e4 e5 e6 e7 e8 e9 e10 e11
  go_upto_region 4 with fail
  rw [← HX.out, ← HV.out]
  refine wp_region_held_drew (S := fun w' => w'.cell? ⟨X, 1, none⟩ = some (.int .i64 0)) (by kernel_rfl) (x1) (fun hHeld => ?_)
  refine wpAnyH_take (i := 0) (v := ?_) rfl (by kernel_rfl) (by kernel_rfl) (by kernel_rfl) (fun _ _ _ h => h) (Or.inl ⟨by rfl, ?_⟩) (by assumption) ?_
  rotate_left 1
  · (intro w0 hSw; go_simp; try with_reducible rfl)
  simp only [List.getElem_toArray, List.getElem_cons_zero]
  go_frame
  refine wpAnyH_take (i := 1) (v := ?_) rfl (by kernel_rfl) (by kernel_rfl) (by kernel_rfl) (fun _ _ _ h => h) (Or.inl ⟨by rfl, ?_⟩) (by assumption) ?_
  rotate_left 1
  · (intro w0 hSw; go_simp; try with_reducible rfl)
  simp only [List.getElem_toArray, List.getElem_cons_zero, List.getElem_cons_succ]
  go_frame
  refine wpAnyH_take (i := 2) (v := ?_) rfl (by kernel_rfl) (by kernel_rfl) (by kernel_rfl) (fun _ _ _ h => h) (Or.inl ⟨by rfl, ?_⟩) (by assumption) ?_
  rotate_left 1
  · (intro w0 hSw; go_simp; try with_reducible rfl)
  simp only [List.getElem_toArray, List.getElem_cons_zero, List.getElem_cons_succ]
  go_frame
  refine wpAnyH_take (i := 3) (v := ?_) rfl (by kernel_rfl) (by kernel_rfl) (by kernel_rfl) (fun _ _ _ h => h) (Or.inl ⟨by rfl, ?_⟩) (by assumption) ?_
  rotate_left 1
  · (intro w0 hSw; go_simp; try with_reducible rfl)
  simp only [List.getElem_toArray, List.getElem_cons_zero, List.getElem_cons_succ]
  go_frame
  refine wpAnyH_take (i := 4) (v := ?_) rfl (by kernel_rfl) (by kernel_rfl) (by kernel_rfl) (fun _ _ _ h => h) (Or.inl ⟨by rfl, ?_⟩) (by assumption) ?_
  rotate_left 1
  · (intro w0 hSw; go_simp; try with_reducible rfl)
  simp only [List.getElem_toArray, List.getElem_cons_zero, List.getElem_cons_succ]
  go_frame
  refine wpAnyH_take (i := 5) (v := ?_) rfl (by kernel_rfl) (by kernel_rfl) (by kernel_rfl) (fun _ _ _ h => h) (Or.inl ⟨by rfl, ?_⟩) (by assumption) ?_
  rotate_left 1
  · (intro w0 hSw; go_simp; try with_reducible rfl)
  simp only [List.getElem_toArray, List.getElem_cons_zero, List.getElem_cons_succ]
  go_frame
  refine wpAnyH_take (i := 6) (v := ?_) rfl (by kernel_rfl) (by kernel_rfl) (by kernel_rfl) (fun _ _ _ h => h) (Or.inl ⟨by rfl, ?_⟩) (by assumption) ?_
  rotate_left 1
  · (intro w0 hSw; go_simp; try with_reducible rfl)
  simp only [List.getElem_toArray, List.getElem_cons_zero, List.getElem_cons_succ]
  go_frame
  refine wpAnyH_take (i := 7) (v := ?_) rfl (by kernel_rfl) (by kernel_rfl) (by kernel_rfl) (fun _ _ _ h => h) (Or.inl ⟨by rfl, ?_⟩) (by assumption) ?_
  rotate_left 1
  · (intro w0 hSw; go_simp; try with_reducible rfl)
  simp only [List.getElem_toArray, List.getElem_cons_zero, List.getElem_cons_succ]
  go_frame
  refine wpAnyH_take (i := 8) (v := ?_) rfl (by kernel_rfl) (by kernel_rfl) (by kernel_rfl) (fun _ _ _ h => h) (Or.inl ⟨by rfl, ?_⟩) (by assumption) ?_
  rotate_left 1
  · (intro w0 hSw; go_simp; try with_reducible rfl)
  simp only [List.getElem_toArray, List.getElem_cons_zero, List.getElem_cons_succ]
  go_frame
  refine wpAnyH_take (i := 10) (v := ?_) rfl (by kernel_rfl) (by kernel_rfl) (by kernel_rfl) (fun _ _ _ h => h) (Or.inl ⟨by rfl, ?_⟩) (by assumption) ?_
  rotate_left 1
  · (intro w0 hSw; go_simp; try with_reducible rfl)
  simp only [List.getElem_toArray, List.getElem_cons_zero, List.getElem_cons_succ]
  go_frame
  refine wpAnyH_take (i := 13) (v := ?_) rfl (by kernel_rfl) (by kernel_rfl) (by kernel_rfl) (fun _ _ _ h => h) (Or.inl ⟨by rfl, ?_⟩) (by assumption) ?_
  rotate_left 1
  · (intro w0 hSw; go_simp; try with_reducible rfl)
  simp only [List.getElem_toArray, List.getElem_cons_zero, List.getElem_cons_succ]
  go_frame
  refine wpAnyH_take (i := 14) (v := ?_) rfl (by kernel_rfl) (by kernel_rfl) (by kernel_rfl) (fun _ _ _ h => h) (Or.inl ⟨by rfl, ?_⟩) (by assumption) ?_
  rotate_left 1
  · (intro w0 hSw; go_simp; try with_reducible rfl)
  simp only [List.getElem_toArray, List.getElem_cons_zero, List.getElem_cons_succ]
  go_frame
  obtain ⟨U, hU⟩ : ∃ U, U = V.drew.alloc (.cells #[.int .i64 ((k : Int) + 1)] 3) := ⟨_, rfl⟩
  have HU : Hid (U = V.drew.alloc (.cells #[.int .i64 ((k : Int) + 1)] 3)) := hU
  have HGU : Hid (w1.grownBy U none) := by show w1.grownBy U none; rw [hU]; exact grown_push (grown_trans HGV.out (grown_drew V)) _
  have HGV1 : Hid (w1.grownBy w2 none) := HG2.out
  have HXs : Hid (w2.heap.size ≤ X) := by show w2.heap.size ≤ X; rw [HX.out]; exact Nat.le_refl _
  have HXU : Hid (U.heap[X]? = some (.cells #[.int .i64 t.card, .int .i64 0, .int .u8 1, .int .i64 0, .int .i64 0, .int .i64 0, .int .i64 0, .int .i64 0, .int .i64 0, .int .i64 0, .bool false] 38 (0, 0))) := by show U.heap[X]? = _; rw [hU]; exact grown_keep (grown_push (grown_drew V) _) HXb.out (by simp)
  have u1 : U.cell? ⟨X, 1, none⟩ = some (.int .i64 0) := (block_cell HXU.out 1).trans rfl
  have u2 : U.cell? ⟨b, 1, none⟩ = some (.slice pd l.length cd) := HGU.out.cell (HGV1c.out) (by simp)
  have HSrc : Hid (Src U (.slice (some ⟨V.heap.size, 0, none⟩) 1 1) 1 1 (ints [(k : Int) + 1])) := by show Src U _ 1 1 _; rw [hU]; exact Src_one V _
  clear hU
  refine wpAnyH_ready (rs := [9, 11]) (by kernel_rfl) (by simp) ?_
  refine AllReadyH.cons rfl (fun K9 hK => ?_) (AllReadyH.cons rfl (fun K9 hK => ?_) AllReadyH.nil)
  · skip
    simp only [List.getElem_toArray, List.getElem_cons_zero, List.getElem_cons_succ]
    go_simp
    refine hK.out _ _ (x1) (fun hHeld3 => ?_)
    clear hK K9
    (try go_frame)
    refine wpAnyH_ready (rs := [11]) (by kernel_rfl) (by simp) ?_
    refine AllReadyH.cons rfl (fun K9 hK => ?_) AllReadyH.nil
    simp only [List.getElem_toArray, List.getElem_cons_zero, List.getElem_cons_succ]
    go_simp
    try rw [show (V.alloc (Obj.cells #[Value.int IntKind.i64 ((k : Int) + 1)] 3)).drew = U from HU.out.symm]
    refine hK.out _ _ (u1) (fun hHeld3 => ?_)
    clear hK K9
    (try go_frame)
    refine wpAnyH_ready (rs := [12]) (by kernel_rfl) (by simp) ?_
    refine AllReadyH.cons rfl (fun K9 hK => ?_) AllReadyH.nil
    simp only [List.getElem_toArray, List.getElem_cons_zero, List.getElem_cons_succ]
    rw [if_pos (by rfl)]
    refine wp_app (.tmp 32) (.tmp 34) 22 rfl 0 3 i1 _ 1 8 Try.underlying22 hi1 hza1 hzb1 hzc1 rfl (by decide) (.slice pd l.length cd) (l.length) (ints l) rfl (own_grow HO1.out HGU.out) (.slice (some ⟨V.heap.size, 0, none⟩) 1 1) (1) (ints [(k : Int) + 1]) rfl (HSrc.out) (ints_one _) (HLs.out.1) (HLs.out.2) (Nat.zero_le _) ?_
    intro v' w7 o7 g7 l7
    have HO7 : Hid (OwnI w7 0 v' (l ++ [(k : Int) + 1])) := own_more o7 rfl
    have HG7 : Hid (U.grownBy w7 (Value.slice pd l.length cd).ownBlock) := g7
    have HL7 : Hid (v'.ownBlock = (Value.slice pd l.length cd).ownBlock ∨ ∀ x, v'.ownBlock = some x → U.heap.size ≤ x) := by
      rcases l7 with q | q
      · exact Or.inl q
      · exact Or.inr fun x hx => by rw [q] at hx; cases hx; exact Nat.le_refl _
    have HX7 : Hid (w7.heap[X]? = some (.cells #[.int .i64 t.card, .int .i64 0, .int .u8 1, .int .i64 0, .int .i64 0, .int .i64 0, .int .i64 0, .int .i64 0, .int .i64 0, .int .i64 0, .bool false] 38 (0, 0))) := by
      refine grown_keep g7 HXU.out ?_
      intro q
      have := own_lt HO1.out X q.symm
      have := HGV1.out.size
      have := HXs.out
      omega
    have y1 : w7.cell? ⟨X, 1, none⟩ = some (.int .i64 0) := (block_cell HX7.out 1).trans rfl
    have HB7 : Hid (w7.heap[b]? = some (.cells (zc (.slice (some ⟨g, 0, none⟩) z.ts.length cap) (.slice pd l.length cd) d1 h0 h1 z.nx []) 93 (0, 0))) := by
      have := keep_blk (HZ1.out.grow HGU.out).blk (own_grow HO1.out HGU.out) (by decide) g7
      rw [HEV.out] at this
      exact this
    have t7 : w7.cell? ⟨b, 1, none⟩ = some (.slice pd l.length cd) := (block_cell HB7.out 1).trans rfl
    have f7 : w7.frozen? ⟨b, 1, none⟩ = false := block_free HB7.out 1
    obtain ⟨pv, cv, ev7, _⟩ := own_slice HO7.out
    obtain ⟨m7, hm7⟩ : ∃ m7, m7 = (l ++ [(k : Int) + 1]).length := ⟨_, rfl⟩
    rw [← hm7] at ev7
    subst ev7
    clear hm7
    clear o7 g7 l7
    refine hK.out _ _ (y1) (fun hHeld3 => ?_)
    clear hK K9
    (try go_frame)
    refine wpAnyH_take (i := 15) (v := ?_) rfl (by kernel_rfl) (by kernel_rfl) (by kernel_rfl) (fun _ _ _ h => h) (Or.inl ⟨by rfl, ?_⟩) (by assumption) ?_
    rotate_left 1
    · (intro w0 hSw; go_simp; try with_reducible rfl)
    simp only [List.getElem_toArray, List.getElem_cons_zero, List.getElem_cons_succ]
    go_frame
    refine wpAnyH_ready (rs := [16]) (by kernel_rfl) (by simp) ?_
    refine AllReadyH.cons rfl (fun K9 hK => ?_) AllReadyH.nil
    simp only [List.getElem_toArray, List.getElem_cons_zero, List.getElem_cons_succ]
    go_simp
    have y2 : (w7.setCell ⟨b, 1, none⟩ (.slice pv m7 cv)).cell? ⟨X, 1, none⟩ = some (.int .i64 0) := (grown_set w7 b 1 _).cell y1 (by intro q; have := HbX.out.1; simp at q; omega)
    refine hK.out _ _ (y2) (fun hHeld3 => ?_)
    clear hK K9
    (try go_frame)
    refine wpAnyH_done (by kernel_rfl) ?_ _
    have HZ5 : Hid (ZG 93 [] (w7.setCell ⟨b, 1, none⟩ (.slice pv m7 cv)) b ((Value.slice pv m7 cv).ownBlock.toList ++ S1) { z.left ((k : Int) + 1) with dk := fun q => if q = 0 then l ++ [(k : Int) + 1] else (z.left ((k : Int) + 1)).dk q } (.slice (some ⟨g, 0, none⟩) z.ts.length cap) (.slice pv m7 cv) d1 h0 h1) := by
      have hz := HZ1.out.grow HGU.out
      have hloc := HL7.out
      have hg7 := HG7.out
      rw [← HEV.out] at hloc hg7
      exact hz.app_d0 tgs_z hg7 HO7.out hloc
    have HX5 : Hid ((w7.setCell ⟨b, 1, none⟩ (.slice pv m7 cv)).heap[X]? = some (.cells #[.int .i64 t.card, .int .i64 0, .int .u8 1, .int .i64 0, .int .i64 0, .int .i64 0, .int .i64 0, .int .i64 0, .int .i64 0, .int .i64 0, .bool false] 38 (0, 0))) := grown_keep (grown_set w7 b 1 _) HX7.out (by intro q; have := HbX.out.1; simp at q; omega)
    have HK5 : Hid (Kpt S1 w1 (w7.setCell ⟨b, 1, none⟩ (.slice pv m7 cv))) := by
      have k1 : Kpt S1 w1 U := kpt_sub HGU.out (by simp)
      have k2 : Kpt S1 U w7 := kpt_sub HG7.out (by rw [← HEV.out]; intro x hx; exact HZ1.out.inS d0 (by simp) x hx)
      have k3 : Kpt S1 w7 (w7.setCell ⟨b, 1, none⟩ (.slice pv m7 cv)) := kpt_sub (grown_set w7 b 1 _) (by intro x hx; cases hx; exact HZ1.out.inb)
      exact kpt_then (kpt_then k1 k2) k3
    have HLc : Hid (∀ x, (Value.slice pv m7 cv).ownBlock = some x → (x ∈ S1 ∨ w1.heap.size ≤ x) ∧ x < w7.heap.size) := by
      intro x hx
      refine ⟨?_, own_lt HO7.out x hx⟩
      rcases HL7.out with q | q
      · rw [q, ← HEV.out] at hx
        exact Or.inl (HZ1.out.inS d0 (by simp) x hx)
      · exact Or.inr (Nat.le_trans HGU.out.size (q x hx))
    obtain ⟨W5, hW5⟩ : ∃ W5, W5 = w7.setCell ⟨b, 1, none⟩ (.slice pv m7 cv) := ⟨_, rfl⟩
    rw [← hW5] at HZ5 HX5 HK5
    have HW5 : Hid (W5 = w7.setCell ⟨b, 1, none⟩ (.slice pv m7 cv)) := hW5
    have s0 : W5.cell? ⟨b, 0, none⟩ = some (.slice (some ⟨g, 0, none⟩) z.ts.length cap) := HZ5.out.cell.1
    clear t7 f7 y1 y2 hW5 HB7 HO7 HG7 HL7 HX7 s2 x1
    go_upto_region 10 with fail
    rw [← HW5.out]
    refine wp_region_held_drew (S := fun w' => w'.cell? ⟨b, 0, none⟩ = some (.slice (some ⟨g, 0, none⟩) z.ts.length cap) ∧ w'.heap[X]? = some (.cells #[.int .i64 t.card, .int .i64 0, .int .u8 1, .int .i64 0, .int .i64 0, .int .i64 0, .int .i64 0, .int .i64 0, .int .i64 0, .int .i64 0, .bool false] 38 (0, 0))) (by kernel_rfl) (⟨s0, HX5.out⟩) (fun hHeld => ?_)
    refine wpAnyH_take (i := 0) (v := ?_) rfl (by kernel_rfl) (by kernel_rfl) (by kernel_rfl) (fun _ _ _ h => h) (Or.inl ⟨by rfl, ?_⟩) (by assumption) ?_
    rotate_left 1
    · (intro w0 hSw; go_simp; try with_reducible rfl)
    simp only [List.getElem_toArray, List.getElem_cons_zero]
    go_frame
    refine wpAnyH_take (i := 1) (v := ?_) rfl (by kernel_rfl) (by kernel_rfl) (by kernel_rfl) (fun _ _ _ h => h) (Or.inl ⟨by rfl, ?_⟩) (by assumption) ?_
    rotate_left 1
    · (intro w0 hSw; go_simp; try with_reducible rfl)
    simp only [List.getElem_toArray, List.getElem_cons_zero, List.getElem_cons_succ]
    go_frame
    refine wpAnyH_take (i := 2) (v := ?_) rfl (by kernel_rfl) (by kernel_rfl) (by kernel_rfl) (fun _ _ _ h => h) (Or.inl ⟨by rfl, ?_⟩) (by assumption) ?_
    rotate_left 1
    · (intro w0 hSw; go_simp; try with_reducible rfl)
    simp only [List.getElem_toArray, List.getElem_cons_zero, List.getElem_cons_succ]
    go_frame
    refine wpAnyH_take (i := 3) (v := ?_) rfl (by kernel_rfl) (by kernel_rfl) (by kernel_rfl) (fun _ _ _ h => h) (Or.inl ⟨by rfl, ?_⟩) (by assumption) ?_
    rotate_left 1
    · (intro w0 hSw; obtain ⟨q1, q2⟩ := hSw; go_simp; try with_reducible rfl)
    simp only [List.getElem_toArray, List.getElem_cons_zero, List.getElem_cons_succ]
    go_frame
    refine wpAnyH_take (i := 4) (v := ?_) rfl (by kernel_rfl) (by kernel_rfl) (by kernel_rfl) (fun _ _ _ h => h) (Or.inl ⟨by rfl, ?_⟩) (by assumption) ?_
    rotate_left 1
    · (intro w0 hSw; go_simp; try with_reducible rfl)
    simp only [List.getElem_toArray, List.getElem_cons_zero, List.getElem_cons_succ]
    go_frame
    refine wpAnyH_take (i := 5) (v := ?_) rfl (by kernel_rfl) (by kernel_rfl) (by kernel_rfl) (fun _ _ _ h => h) (Or.inl ⟨by rfl, ?_⟩) (by assumption) ?_
    rotate_left 1
    · (intro w0 hSw; go_simp; try with_reducible rfl)
    simp only [List.getElem_toArray, List.getElem_cons_zero, List.getElem_cons_succ]
    go_frame
    refine wpAnyH_take (i := 6) (v := ?_) rfl (by kernel_rfl) (by kernel_rfl) (by kernel_rfl) (fun _ _ _ h => h) (Or.inl ⟨by rfl, ?_⟩) (by assumption) ?_
    rotate_left 1
    · (intro w0 hSw; obtain ⟨q1, q2⟩ := hSw; have r0 := (block_cell q2 0).trans rfl; have r1 := (block_cell q2 1).trans rfl; have r2 := (block_cell q2 2).trans rfl; have r3 := (block_cell q2 3).trans rfl; have r4 := (block_cell q2 4).trans rfl; have r5 := (block_cell q2 5).trans rfl; have r6 := (block_cell q2 6).trans rfl; have r7 := (block_cell q2 7).trans rfl; have r8 := (block_cell q2 8).trans rfl; have r9 := (block_cell q2 9).trans rfl; have r10 := (block_cell q2 10).trans rfl; go_simp; try with_reducible rfl)
    simp only [List.getElem_toArray, List.getElem_cons_zero, List.getElem_cons_succ]
    go_frame
    refine wpAnyH_take (i := 7) (v := ?_) rfl (by kernel_rfl) (by kernel_rfl) (by kernel_rfl) (fun _ _ _ h => h) (Or.inl ⟨by rfl, ?_⟩) (by assumption) ?_
    rotate_left 1
    · (intro w0 hSw; go_simp; try with_reducible rfl)
    simp only [List.getElem_toArray, List.getElem_cons_zero, List.getElem_cons_succ]
    go_frame
    refine wpAnyH_ready (rs := [8]) (by kernel_rfl) (by simp) ?_
    refine AllReadyH.cons rfl (fun K9 hK => ?_) AllReadyH.nil
    simp only [List.getElem_toArray, List.getElem_cons_zero, List.getElem_cons_succ]
    rw [if_pos (by rfl)]
    refine wp_store_mid 38 (.tmp 79) (.tmp 78) rfl g (k * 11) (thc (⟨t.card, 0, 1, 0, 0, 0, 0, 0, 0, 0, false⟩ : Th)).toArray rfl rfl (own_thereT HZ5.out.ts rfl hlt) (by kernel_rfl) (thc_one _) ?_
    have Z6 := HZ5.out.set_th tgs_z rfl hlt (⟨t.card, 0, 1, 0, 0, 0, 0, 0, 0, 0, false⟩ : Th)
    have HZ6 : Hid (ZG 93 [] (W5.drew.setCells g (k * 11) (thc (⟨t.card, 0, 1, 0, 0, 0, 0, 0, 0, 0, false⟩ : Th))) b ((Value.slice pv m7 cv).ownBlock.toList ++ S1) _ (.slice (some ⟨g, 0, none⟩) z.ts.length cap) (.slice pv m7 cv) d1 h0 h1) := (ZG.set_th (HZ5.out.grow (grown_drew W5)) tgs_z rfl hlt (⟨t.card, 0, 1, 0, 0, 0, 0, 0, 0, 0, false⟩ : Th)).1
    have HG6 : Hid (W5.drew.grownBy (W5.drew.setCells g (k * 11) (thc (⟨t.card, 0, 1, 0, 0, 0, 0, 0, 0, 0, false⟩ : Th))) (some g)) := (ZG.set_th (HZ5.out.grow (grown_drew W5)) tgs_z rfl hlt (⟨t.card, 0, 1, 0, 0, 0, 0, 0, 0, 0, false⟩ : Th)).2
    clear Z6
    have hgX : some X ≠ some g := by have := HbX.out.2; intro q; cases q; omega
    have hbg : some b ≠ some g := zg_bg HZ5.out tgs_z
    refine hK.out _ _ (⟨HG6.out.cell s0 hbg, grown_keep HG6.out HX5.out hgX⟩) (fun hHeld3 => ?_)
    clear hK K9
    (try go_frame)
    refine wpAnyH_done (by kernel_rfl) ?_ _
    have HFin : Hid (TnPost w b Sb (z.come ((k : Int) + 1) 1) (.tuple #[]) (.returned (.tuple #[])) (W5.drew.setCells g (k * 11) (thc (⟨t.card, 0, 1, 0, 0, 0, 0, 0, 0, 0, false⟩ : Th)))) := by
      refine ⟨rfl, _, ⟨_, _, _, _, _, HZ6.out.congr ?_ ?_ ?_ ?_ ?_ ?_⟩, HT1.out.trans (turn_of (kpt_then HK5.out (kpt_then (kpt_sub (grown_drew W5) (by simp)) (kpt_sub HG6.out (fun x hx => by cases hx; exact HZ1.out.inS (.slice (some ⟨g, 0, none⟩) z.ts.length cap) (by simp) g rfl)))) HT1.out.old (fun x hx => (HLc.out x hx).1) (fun x hx => Nat.lt_of_lt_of_le (HLc.out x hx).2 ?_))⟩
      · show z.ts.set (((k : Int) + 1) - 1).toNat (if (1 : Int) = 4 then _ else (thAt z.ts ((k : Int) + 1)).home 1) = z.ts.set k _
        rw [show (((k : Int) + 1) - 1).toNat = k from by omega, if_neg (by decide), ← HTT.out]
        unfold Th.home
        rw [hto]
      · show (if (1 : Int) = 4 then z.nx + 1 else z.nx) = z.nx
        rw [if_neg (by decide)]
      · show (if (0 : Int) = (thAt z.ts ((k : Int) + 1)).owner then (z.dk 0).filter (· != ((k : Int) + 1)) ++ (if (1 : Int) = 1 then [(k : Int) + 1] else []) else z.dk 0) = (if (0 : Int) = 0 then l ++ [(k : Int) + 1] else (if (0 : Int) = (thAt z.ts ((k : Int) + 1)).owner then (z.dk 0).filter (· != ((k : Int) + 1)) else z.dk 0))
        rw [HHo.out, if_pos rfl, if_pos rfl, if_pos rfl, HLl.out]
      · show (if (1 : Int) = (thAt z.ts ((k : Int) + 1)).owner then (z.dk 1).filter (· != ((k : Int) + 1)) ++ (if (1 : Int) = 1 then [(k : Int) + 1] else []) else z.dk 1) = (if (1 : Int) = 0 then l ++ [(k : Int) + 1] else (if (1 : Int) = (thAt z.ts ((k : Int) + 1)).owner then (z.dk 1).filter (· != ((k : Int) + 1)) else z.dk 1))
        rw [HHo.out, if_neg (by decide), if_neg (by decide), if_neg (by decide)]
      · show (if (0 : Int) = (thAt z.ts ((k : Int) + 1)).owner then (z.hd 0).filter (· != ((k : Int) + 1)) ++ (if (1 : Int) = 2 then [(k : Int) + 1] else []) else z.hd 0) = (if (0 : Int) = (thAt z.ts ((k : Int) + 1)).owner then (z.hd 0).filter (· != ((k : Int) + 1)) else z.hd 0)
        rw [HHo.out, if_pos rfl, if_pos rfl, if_neg (by decide), List.append_nil]
      · show (if (1 : Int) = (thAt z.ts ((k : Int) + 1)).owner then (z.hd 1).filter (· != ((k : Int) + 1)) ++ (if (1 : Int) = 2 then [(k : Int) + 1] else []) else z.hd 1) = (if (1 : Int) = (thAt z.ts ((k : Int) + 1)).owner then (z.hd 1).filter (· != ((k : Int) + 1)) else z.hd 1)
        rw [HHo.out, if_neg (by decide), if_neg (by decide)]
      · have h8 : w7.heap.size ≤ W5.heap.size := by rw [HW5.out]; exact (grown_set w7 b 1 _).size
        have h9 := HG6.out.size
        exact Nat.le_trans h8 h9
    clear HZ6 HG6 HZ5 HX5 HK5 HLc
    (try go_wp2)
    go_end0
    exact HFin.out
  · skip
    simp only [List.getElem_toArray, List.getElem_cons_zero, List.getElem_cons_succ]
    go_simp
    try rw [show (V.alloc (Obj.cells #[Value.int IntKind.i64 ((k : Int) + 1)] 3)).drew = U from HU.out.symm]
    refine hK.out _ _ (u1) (fun hHeld3 => ?_)
    clear hK K9
    (try go_frame)
    refine wpAnyH_ready (rs := [9]) (by kernel_rfl) (by simp) ?_
    refine AllReadyH.cons rfl (fun K9 hK => ?_) AllReadyH.nil
    simp only [List.getElem_toArray, List.getElem_cons_zero, List.getElem_cons_succ]
    go_simp
    refine hK.out _ _ (u1) (fun hHeld3 => ?_)
    clear hK K9
    (try go_frame)
    refine wpAnyH_ready (rs := [12]) (by kernel_rfl) (by simp) ?_
    refine AllReadyH.cons rfl (fun K9 hK => ?_) AllReadyH.nil
    simp only [List.getElem_toArray, List.getElem_cons_zero, List.getElem_cons_succ]
    rw [if_pos (by rfl)]
    refine wp_app (.tmp 32) (.tmp 34) 22 rfl 0 3 i1 _ 1 8 Try.underlying22 hi1 hza1 hzb1 hzc1 rfl (by decide) (.slice pd l.length cd) (l.length) (ints l) rfl (own_grow HO1.out HGU.out) (.slice (some ⟨V.heap.size, 0, none⟩) 1 1) (1) (ints [(k : Int) + 1]) rfl (HSrc.out) (ints_one _) (HLs.out.1) (HLs.out.2) (Nat.zero_le _) ?_
    intro v' w7 o7 g7 l7
    have HO7 : Hid (OwnI w7 0 v' (l ++ [(k : Int) + 1])) := own_more o7 rfl
    have HG7 : Hid (U.grownBy w7 (Value.slice pd l.length cd).ownBlock) := g7
    have HL7 : Hid (v'.ownBlock = (Value.slice pd l.length cd).ownBlock ∨ ∀ x, v'.ownBlock = some x → U.heap.size ≤ x) := by
      rcases l7 with q | q
      · exact Or.inl q
      · exact Or.inr fun x hx => by rw [q] at hx; cases hx; exact Nat.le_refl _
    have HX7 : Hid (w7.heap[X]? = some (.cells #[.int .i64 t.card, .int .i64 0, .int .u8 1, .int .i64 0, .int .i64 0, .int .i64 0, .int .i64 0, .int .i64 0, .int .i64 0, .int .i64 0, .bool false] 38 (0, 0))) := by
      refine grown_keep g7 HXU.out ?_
      intro q
      have := own_lt HO1.out X q.symm
      have := HGV1.out.size
      have := HXs.out
      omega
    have y1 : w7.cell? ⟨X, 1, none⟩ = some (.int .i64 0) := (block_cell HX7.out 1).trans rfl
    have HB7 : Hid (w7.heap[b]? = some (.cells (zc (.slice (some ⟨g, 0, none⟩) z.ts.length cap) (.slice pd l.length cd) d1 h0 h1 z.nx []) 93 (0, 0))) := by
      have := keep_blk (HZ1.out.grow HGU.out).blk (own_grow HO1.out HGU.out) (by decide) g7
      rw [HEV.out] at this
      exact this
    have t7 : w7.cell? ⟨b, 1, none⟩ = some (.slice pd l.length cd) := (block_cell HB7.out 1).trans rfl
    have f7 : w7.frozen? ⟨b, 1, none⟩ = false := block_free HB7.out 1
    obtain ⟨pv, cv, ev7, _⟩ := own_slice HO7.out
    obtain ⟨m7, hm7⟩ : ∃ m7, m7 = (l ++ [(k : Int) + 1]).length := ⟨_, rfl⟩
    rw [← hm7] at ev7
    subst ev7
    clear hm7
    clear o7 g7 l7
    refine hK.out _ _ (y1) (fun hHeld3 => ?_)
    clear hK K9
    (try go_frame)
    refine wpAnyH_take (i := 15) (v := ?_) rfl (by kernel_rfl) (by kernel_rfl) (by kernel_rfl) (fun _ _ _ h => h) (Or.inl ⟨by rfl, ?_⟩) (by assumption) ?_
    rotate_left 1
    · (intro w0 hSw; go_simp; try with_reducible rfl)
    simp only [List.getElem_toArray, List.getElem_cons_zero, List.getElem_cons_succ]
    go_frame
    refine wpAnyH_ready (rs := [16]) (by kernel_rfl) (by simp) ?_
    refine AllReadyH.cons rfl (fun K9 hK => ?_) AllReadyH.nil
    simp only [List.getElem_toArray, List.getElem_cons_zero, List.getElem_cons_succ]
    go_simp
    have y2 : (w7.setCell ⟨b, 1, none⟩ (.slice pv m7 cv)).cell? ⟨X, 1, none⟩ = some (.int .i64 0) := (grown_set w7 b 1 _).cell y1 (by intro q; have := HbX.out.1; simp at q; omega)
    refine hK.out _ _ (y2) (fun hHeld3 => ?_)
    clear hK K9
    (try go_frame)
    refine wpAnyH_done (by kernel_rfl) ?_ _
    have HZ5 : Hid (ZG 93 [] (w7.setCell ⟨b, 1, none⟩ (.slice pv m7 cv)) b ((Value.slice pv m7 cv).ownBlock.toList ++ S1) { z.left ((k : Int) + 1) with dk := fun q => if q = 0 then l ++ [(k : Int) + 1] else (z.left ((k : Int) + 1)).dk q } (.slice (some ⟨g, 0, none⟩) z.ts.length cap) (.slice pv m7 cv) d1 h0 h1) := by
      have hz := HZ1.out.grow HGU.out
      have hloc := HL7.out
      have hg7 := HG7.out
      rw [← HEV.out] at hloc hg7
      exact hz.app_d0 tgs_z hg7 HO7.out hloc
    have HX5 : Hid ((w7.setCell ⟨b, 1, none⟩ (.slice pv m7 cv)).heap[X]? = some (.cells #[.int .i64 t.card, .int .i64 0, .int .u8 1, .int .i64 0, .int .i64 0, .int .i64 0, .int .i64 0, .int .i64 0, .int .i64 0, .int .i64 0, .bool false] 38 (0, 0))) := grown_keep (grown_set w7 b 1 _) HX7.out (by intro q; have := HbX.out.1; simp at q; omega)
    have HK5 : Hid (Kpt S1 w1 (w7.setCell ⟨b, 1, none⟩ (.slice pv m7 cv))) := by
      have k1 : Kpt S1 w1 U := kpt_sub HGU.out (by simp)
      have k2 : Kpt S1 U w7 := kpt_sub HG7.out (by rw [← HEV.out]; intro x hx; exact HZ1.out.inS d0 (by simp) x hx)
      have k3 : Kpt S1 w7 (w7.setCell ⟨b, 1, none⟩ (.slice pv m7 cv)) := kpt_sub (grown_set w7 b 1 _) (by intro x hx; cases hx; exact HZ1.out.inb)
      exact kpt_then (kpt_then k1 k2) k3
    have HLc : Hid (∀ x, (Value.slice pv m7 cv).ownBlock = some x → (x ∈ S1 ∨ w1.heap.size ≤ x) ∧ x < w7.heap.size) := by
      intro x hx
      refine ⟨?_, own_lt HO7.out x hx⟩
      rcases HL7.out with q | q
      · rw [q, ← HEV.out] at hx
        exact Or.inl (HZ1.out.inS d0 (by simp) x hx)
      · exact Or.inr (Nat.le_trans HGU.out.size (q x hx))
    obtain ⟨W5, hW5⟩ : ∃ W5, W5 = w7.setCell ⟨b, 1, none⟩ (.slice pv m7 cv) := ⟨_, rfl⟩
    rw [← hW5] at HZ5 HX5 HK5
    have HW5 : Hid (W5 = w7.setCell ⟨b, 1, none⟩ (.slice pv m7 cv)) := hW5
    have s0 : W5.cell? ⟨b, 0, none⟩ = some (.slice (some ⟨g, 0, none⟩) z.ts.length cap) := HZ5.out.cell.1
    clear t7 f7 y1 y2 hW5 HB7 HO7 HG7 HL7 HX7 s2 x1
    go_upto_region 10 with fail
    rw [← HW5.out]
    refine wp_region_held_drew (S := fun w' => w'.cell? ⟨b, 0, none⟩ = some (.slice (some ⟨g, 0, none⟩) z.ts.length cap) ∧ w'.heap[X]? = some (.cells #[.int .i64 t.card, .int .i64 0, .int .u8 1, .int .i64 0, .int .i64 0, .int .i64 0, .int .i64 0, .int .i64 0, .int .i64 0, .int .i64 0, .bool false] 38 (0, 0))) (by kernel_rfl) (⟨s0, HX5.out⟩) (fun hHeld => ?_)
    refine wpAnyH_take (i := 0) (v := ?_) rfl (by kernel_rfl) (by kernel_rfl) (by kernel_rfl) (fun _ _ _ h => h) (Or.inl ⟨by rfl, ?_⟩) (by assumption) ?_
    rotate_left 1
    · (intro w0 hSw; go_simp; try with_reducible rfl)
    simp only [List.getElem_toArray, List.getElem_cons_zero]
    go_frame
    refine wpAnyH_take (i := 1) (v := ?_) rfl (by kernel_rfl) (by kernel_rfl) (by kernel_rfl) (fun _ _ _ h => h) (Or.inl ⟨by rfl, ?_⟩) (by assumption) ?_
    rotate_left 1
    · (intro w0 hSw; go_simp; try with_reducible rfl)
    simp only [List.getElem_toArray, List.getElem_cons_zero, List.getElem_cons_succ]
    go_frame
    refine wpAnyH_take (i := 2) (v := ?_) rfl (by kernel_rfl) (by kernel_rfl) (by kernel_rfl) (fun _ _ _ h => h) (Or.inl ⟨by rfl, ?_⟩) (by assumption) ?_
    rotate_left 1
    · (intro w0 hSw; go_simp; try with_reducible rfl)
    simp only [List.getElem_toArray, List.getElem_cons_zero, List.getElem_cons_succ]
    go_frame
    refine wpAnyH_take (i := 3) (v := ?_) rfl (by kernel_rfl) (by kernel_rfl) (by kernel_rfl) (fun _ _ _ h => h) (Or.inl ⟨by rfl, ?_⟩) (by assumption) ?_
    rotate_left 1
    · (intro w0 hSw; obtain ⟨q1, q2⟩ := hSw; go_simp; try with_reducible rfl)
    simp only [List.getElem_toArray, List.getElem_cons_zero, List.getElem_cons_succ]
    go_frame
    refine wpAnyH_take (i := 4) (v := ?_) rfl (by kernel_rfl) (by kernel_rfl) (by kernel_rfl) (fun _ _ _ h => h) (Or.inl ⟨by rfl, ?_⟩) (by assumption) ?_
    rotate_left 1
    · (intro w0 hSw; go_simp; try with_reducible rfl)
    simp only [List.getElem_toArray, List.getElem_cons_zero, List.getElem_cons_succ]
    go_frame
    refine wpAnyH_take (i := 5) (v := ?_) rfl (by kernel_rfl) (by kernel_rfl) (by kernel_rfl) (fun _ _ _ h => h) (Or.inl ⟨by rfl, ?_⟩) (by assumption) ?_
    rotate_left 1
    · (intro w0 hSw; go_simp; try with_reducible rfl)
    simp only [List.getElem_toArray, List.getElem_cons_zero, List.getElem_cons_succ]
    go_frame
    refine wpAnyH_take (i := 6) (v := ?_) rfl (by kernel_rfl) (by kernel_rfl) (by kernel_rfl) (fun _ _ _ h => h) (Or.inl ⟨by rfl, ?_⟩) (by assumption) ?_
    rotate_left 1
    · (intro w0 hSw; obtain ⟨q1, q2⟩ := hSw; have r0 := (block_cell q2 0).trans rfl; have r1 := (block_cell q2 1).trans rfl; have r2 := (block_cell q2 2).trans rfl; have r3 := (block_cell q2 3).trans rfl; have r4 := (block_cell q2 4).trans rfl; have r5 := (block_cell q2 5).trans rfl; have r6 := (block_cell q2 6).trans rfl; have r7 := (block_cell q2 7).trans rfl; have r8 := (block_cell q2 8).trans rfl; have r9 := (block_cell q2 9).trans rfl; have r10 := (block_cell q2 10).trans rfl; go_simp; try with_reducible rfl)
    simp only [List.getElem_toArray, List.getElem_cons_zero, List.getElem_cons_succ]
    go_frame
    refine wpAnyH_take (i := 7) (v := ?_) rfl (by kernel_rfl) (by kernel_rfl) (by kernel_rfl) (fun _ _ _ h => h) (Or.inl ⟨by rfl, ?_⟩) (by assumption) ?_
    rotate_left 1
    · (intro w0 hSw; go_simp; try with_reducible rfl)
    simp only [List.getElem_toArray, List.getElem_cons_zero, List.getElem_cons_succ]
    go_frame
    refine wpAnyH_ready (rs := [8]) (by kernel_rfl) (by simp) ?_
    refine AllReadyH.cons rfl (fun K9 hK => ?_) AllReadyH.nil
    simp only [List.getElem_toArray, List.getElem_cons_zero, List.getElem_cons_succ]
    rw [if_pos (by rfl)]
    refine wp_store_mid 38 (.tmp 79) (.tmp 78) rfl g (k * 11) (thc (⟨t.card, 0, 1, 0, 0, 0, 0, 0, 0, 0, false⟩ : Th)).toArray rfl rfl (own_thereT HZ5.out.ts rfl hlt) (by kernel_rfl) (thc_one _) ?_
    have Z6 := HZ5.out.set_th tgs_z rfl hlt (⟨t.card, 0, 1, 0, 0, 0, 0, 0, 0, 0, false⟩ : Th)
    have HZ6 : Hid (ZG 93 [] (W5.drew.setCells g (k * 11) (thc (⟨t.card, 0, 1, 0, 0, 0, 0, 0, 0, 0, false⟩ : Th))) b ((Value.slice pv m7 cv).ownBlock.toList ++ S1) _ (.slice (some ⟨g, 0, none⟩) z.ts.length cap) (.slice pv m7 cv) d1 h0 h1) := (ZG.set_th (HZ5.out.grow (grown_drew W5)) tgs_z rfl hlt (⟨t.card, 0, 1, 0, 0, 0, 0, 0, 0, 0, false⟩ : Th)).1
    have HG6 : Hid (W5.drew.grownBy (W5.drew.setCells g (k * 11) (thc (⟨t.card, 0, 1, 0, 0, 0, 0, 0, 0, 0, false⟩ : Th))) (some g)) := (ZG.set_th (HZ5.out.grow (grown_drew W5)) tgs_z rfl hlt (⟨t.card, 0, 1, 0, 0, 0, 0, 0, 0, 0, false⟩ : Th)).2
    clear Z6
    have hgX : some X ≠ some g := by have := HbX.out.2; intro q; cases q; omega
    have hbg : some b ≠ some g := zg_bg HZ5.out tgs_z
    refine hK.out _ _ (⟨HG6.out.cell s0 hbg, grown_keep HG6.out HX5.out hgX⟩) (fun hHeld3 => ?_)
    clear hK K9
    (try go_frame)
    refine wpAnyH_done (by kernel_rfl) ?_ _
    have HFin : Hid (TnPost w b Sb (z.come ((k : Int) + 1) 1) (.tuple #[]) (.returned (.tuple #[])) (W5.drew.setCells g (k * 11) (thc (⟨t.card, 0, 1, 0, 0, 0, 0, 0, 0, 0, false⟩ : Th)))) := by
      refine ⟨rfl, _, ⟨_, _, _, _, _, HZ6.out.congr ?_ ?_ ?_ ?_ ?_ ?_⟩, HT1.out.trans (turn_of (kpt_then HK5.out (kpt_then (kpt_sub (grown_drew W5) (by simp)) (kpt_sub HG6.out (fun x hx => by cases hx; exact HZ1.out.inS (.slice (some ⟨g, 0, none⟩) z.ts.length cap) (by simp) g rfl)))) HT1.out.old (fun x hx => (HLc.out x hx).1) (fun x hx => Nat.lt_of_lt_of_le (HLc.out x hx).2 ?_))⟩
      · show z.ts.set (((k : Int) + 1) - 1).toNat (if (1 : Int) = 4 then _ else (thAt z.ts ((k : Int) + 1)).home 1) = z.ts.set k _
        rw [show (((k : Int) + 1) - 1).toNat = k from by omega, if_neg (by decide), ← HTT.out]
        unfold Th.home
        rw [hto]
      · show (if (1 : Int) = 4 then z.nx + 1 else z.nx) = z.nx
        rw [if_neg (by decide)]
      · show (if (0 : Int) = (thAt z.ts ((k : Int) + 1)).owner then (z.dk 0).filter (· != ((k : Int) + 1)) ++ (if (1 : Int) = 1 then [(k : Int) + 1] else []) else z.dk 0) = (if (0 : Int) = 0 then l ++ [(k : Int) + 1] else (if (0 : Int) = (thAt z.ts ((k : Int) + 1)).owner then (z.dk 0).filter (· != ((k : Int) + 1)) else z.dk 0))
        rw [HHo.out, if_pos rfl, if_pos rfl, if_pos rfl, HLl.out]
      · show (if (1 : Int) = (thAt z.ts ((k : Int) + 1)).owner then (z.dk 1).filter (· != ((k : Int) + 1)) ++ (if (1 : Int) = 1 then [(k : Int) + 1] else []) else z.dk 1) = (if (1 : Int) = 0 then l ++ [(k : Int) + 1] else (if (1 : Int) = (thAt z.ts ((k : Int) + 1)).owner then (z.dk 1).filter (· != ((k : Int) + 1)) else z.dk 1))
        rw [HHo.out, if_neg (by decide), if_neg (by decide), if_neg (by decide)]
      · show (if (0 : Int) = (thAt z.ts ((k : Int) + 1)).owner then (z.hd 0).filter (· != ((k : Int) + 1)) ++ (if (1 : Int) = 2 then [(k : Int) + 1] else []) else z.hd 0) = (if (0 : Int) = (thAt z.ts ((k : Int) + 1)).owner then (z.hd 0).filter (· != ((k : Int) + 1)) else z.hd 0)
        rw [HHo.out, if_pos rfl, if_pos rfl, if_neg (by decide), List.append_nil]
      · show (if (1 : Int) = (thAt z.ts ((k : Int) + 1)).owner then (z.hd 1).filter (· != ((k : Int) + 1)) ++ (if (1 : Int) = 2 then [(k : Int) + 1] else []) else z.hd 1) = (if (1 : Int) = (thAt z.ts ((k : Int) + 1)).owner then (z.hd 1).filter (· != ((k : Int) + 1)) else z.hd 1)
        rw [HHo.out, if_neg (by decide), if_neg (by decide)]
      · have h8 : w7.heap.size ≤ W5.heap.size := by rw [HW5.out]; exact (grown_set w7 b 1 _).size
        have h9 := HG6.out.size
        exact Nat.le_trans h8 h9
    clear HZ6 HG6 HZ5 HX5 HK5 HLc
    (try go_wp2)
    go_end0
    exact HFin.out
set_option maxRecDepth 100000 in
set_option maxHeartbeats 4000000 in
theorem come_dk1 (b : Nat) (Sb : List Nat) (z : Zs) (n : Int) (w : World) (Z : ZAt w b Sb z) (F : z.Fine n) (hS : Old w Sb) (hf : z.ts.length ≤ 2048) (hd : ∀ p, p = 0 ∨ p = 1 → (z.dk p).length ≤ 2048) (hh : ∀ p, p = 0 ∨ p = 1 → (z.hd p).length ≤ 2048) (ho : (thAt z.ts n).owner = 1) : Calls Try.prog 65 #[.pointer (some ⟨b, 0, none⟩), .int .i64 n, .int .u8 1] w (TnPost w b Sb (z.come n 1) (.tuple #[])) := by
  obtain ⟨i1, hi1, hza1, hzb1, hzc1⟩ := info_parts Try.info3i'
  have HC := leave_any b Sb z n w Z F hS hf hd hh
  have hn := F.at_
  have hown := F.own
  obtain ⟨k, hk⟩ : ∃ k : Nat, n = (k : Int) + 1 := ⟨(n - 1).toNat, by unfold there at hn; omega⟩
  subst hk
  have hlt : k < z.ts.length := by unfold there at hn; omega
  obtain ⟨t, ht⟩ : ∃ t, t = thAt z.ts ((k : Int) + 1) := ⟨_, rfl⟩
  have HTT : Hid (t = thAt z.ts ((k : Int) + 1)) := ht
  have hw1 : wrap64 (k : Int) = (k : Int) := by unfold wrap64; omega
  have hw9 : IntKind.i64.wrap (k : Int) = (k : Int) := IntWalk.i64_in _ (by omega)
  have hlt' : (k : Int) < z.ts.length := by omega
  have HF : Hid (z.Fine ((k : Int) + 1)) := F
  have HSo : Hid (Old w Sb) := hS
  have Hdl : Hid (∀ p, p = 0 ∨ p = 1 → (z.dk p).length ≤ 2048) := hd
  have Hhl : Hid (∀ p, p = 0 ∨ p = 1 → (z.hd p).length ≤ 2048) := hh
  have hto : t.owner = 1 := by rw [ht]; exact ho
  have HHo : Hid ((thAt z.ts ((k : Int) + 1)).owner = 1) := ho
  clear F hS hd hh hn hown ht ho
  go_enter Try.func65, Try.ntmps65
  go_wp2_with fail
  refine HC.mono ?_
  rintro e w1 ⟨rfl, S1, ⟨vt, d0, d1, h0, h1, Z1⟩, T1⟩
  obtain ⟨g, cap, rfl, R1⟩ := zg_at Z1 (k := k) (by rw [left_ts]; exact hlt)
  rw [left_ts, ← HTT.out] at R1
  obtain ⟨e1, e2, e3, e4, e5, e6, e7, e8, e9, e10, e11⟩ := range_cells R1
  obtain ⟨c0, c1, c2, c3, c4, c5⟩ := Z1.cell
  rw [left_ts] at c0
  rw [left_nx] at c5
  have AH := atHome_any t 1 w1
  unfold thv at AH
  have HZ1 : Hid (ZG 93 [] w1 b S1 (z.left ((k : Int) + 1)) (.slice (some ⟨g, 0, none⟩) z.ts.length cap) d0 d1 h0 h1) := Z1
  have HT1 : Hid (Turn w w1 Sb S1) := T1
  clear Z1 T1 R1 HC
  rw [hto] at e2 AH
  have eL : (z.left ((k : Int) + 1)).dk 1 = ((z.dk 1).filter (· != ((k : Int) + 1))) := by
    show (if (1 : Int) = (thAt z.ts ((k : Int) + 1)).owner then _ else _) = _
    rw [HHo.out, if_pos rfl]
  obtain ⟨l, hl⟩ : ∃ l, l = ((z.dk 1).filter (· != ((k : Int) + 1))) := ⟨_, rfl⟩
  have HLl : Hid (l = ((z.dk 1).filter (· != ((k : Int) + 1)))) := hl
  rw [← hl] at eL
  have O1 := HZ1.out.od1
  rw [eL] at O1
  have hln : l.length ≤ 2048 := by rw [hl]; exact Nat.le_trans (filter_len _ _) (Hdl.out 1 (by decide))
  obtain ⟨pd, cd, ev, _⟩ := own_slice O1
  have HEV : Hid (d1 = .slice pd l.length cd) := ev
  have HO1 : Hid (OwnI w1 0 (.slice pd l.length cd) l) := by rw [← ev]; exact O1
  have HEL : Hid ((z.left ((k : Int) + 1)).dk 1 = l) := eL
  rw [ev] at c2
  have HLs : Hid (l.length + 1 ≤ maxLen ∧ (l.length + 1) * 8 ≤ 140737488355328) := by show _ ∧ _; unfold maxLen; omega
  clear O1 ev eL hl hln
  go_wp2_with fail
  refine AH.mono ?_
  rintro e w2 ⟨rfl, g2⟩
  have HG2 : Hid (w1.grownBy w2 none) := g2
  obtain ⟨X, hX⟩ : ∃ X, X = w2.heap.size := ⟨_, rfl⟩
  obtain ⟨V, hV⟩ : ∃ V, V = w2.alloc (.cells #[.int .i64 t.card, .int .i64 1, .int .u8 1, .int .i64 0, .int .i64 0, .int .i64 0, .int .i64 0, .int .i64 0, .int .i64 0, .int .i64 0, .bool false] 38) := ⟨_, rfl⟩
  have HV : Hid (V = w2.alloc (.cells #[.int .i64 t.card, .int .i64 1, .int .u8 1, .int .i64 0, .int .i64 0, .int .i64 0, .int .i64 0, .int .i64 0, .int .i64 0, .int .i64 0, .bool false] 38)) := hV
  have HX : Hid (X = w2.heap.size) := hX
  have HGV : Hid (w1.grownBy V none) := by show w1.grownBy V none; rw [hV]; exact grown_push g2 _
  have HXb : Hid (V.heap[X]? = some (.cells #[.int .i64 t.card, .int .i64 1, .int .u8 1, .int .i64 0, .int .i64 0, .int .i64 0, .int .i64 0, .int .i64 0, .int .i64 0, .int .i64 0, .bool false] 38 (0, 0))) := by show V.heap[X]? = _; rw [hV, hX]; exact alloc_at _ _ _
  have x1 : V.cell? ⟨X, 1, none⟩ = some (.int .i64 1) := (block_cell HXb.out 1).trans rfl
  have s2 : V.cell? ⟨b, 2, none⟩ = some (.slice pd l.length cd) := HGV.out.cell c2 (by simp)
  have HbX : Hid (b < X ∧ g < X) := by
    show b < X ∧ g < X
    rw [hX]
    exact ⟨Nat.lt_of_lt_of_le (block_lt HZ1.out.blk) g2.size, Nat.lt_of_lt_of_le (own_lt HZ1.out.ts g rfl) g2.size⟩
  have HGV1c : Hid (w1.cell? ⟨b, 2, none⟩ = some (.slice pd l.length cd)) := c2
  clear g2 hX hV AH c0 c1 c2 c3 c4 c5 e1 e2 e3 e4 e5 e6 e7 e8 e9 e10 e11
  go_upto_region 4 with fail
  rw [← HX.out, ← HV.out]
  refine wp_region_held_drew (S := fun w' => w'.cell? ⟨X, 1, none⟩ = some (.int .i64 1)) (by kernel_rfl) (x1) (fun hHeld => ?_)
  refine wpAnyH_take (i := 0) (v := ?_) rfl (by kernel_rfl) (by kernel_rfl) (by kernel_rfl) (fun _ _ _ h => h) (Or.inl ⟨by rfl, ?_⟩) (by assumption) ?_
  rotate_left 1
  · (intro w0 hSw; go_simp; try with_reducible rfl)
  simp only [List.getElem_toArray, List.getElem_cons_zero]
  go_frame
  refine wpAnyH_take (i := 1) (v := ?_) rfl (by kernel_rfl) (by kernel_rfl) (by kernel_rfl) (fun _ _ _ h => h) (Or.inl ⟨by rfl, ?_⟩) (by assumption) ?_
  rotate_left 1
  · (intro w0 hSw; go_simp; try with_reducible rfl)
  simp only [List.getElem_toArray, List.getElem_cons_zero, List.getElem_cons_succ]
  go_frame
  refine wpAnyH_take (i := 2) (v := ?_) rfl (by kernel_rfl) (by kernel_rfl) (by kernel_rfl) (fun _ _ _ h => h) (Or.inl ⟨by rfl, ?_⟩) (by assumption) ?_
  rotate_left 1
  · (intro w0 hSw; go_simp; try with_reducible rfl)
  simp only [List.getElem_toArray, List.getElem_cons_zero, List.getElem_cons_succ]
  go_frame
  refine wpAnyH_take (i := 3) (v := ?_) rfl (by kernel_rfl) (by kernel_rfl) (by kernel_rfl) (fun _ _ _ h => h) (Or.inl ⟨by rfl, ?_⟩) (by assumption) ?_
  rotate_left 1
  · (intro w0 hSw; go_simp; try with_reducible rfl)
  simp only [List.getElem_toArray, List.getElem_cons_zero, List.getElem_cons_succ]
  go_frame
  refine wpAnyH_take (i := 4) (v := ?_) rfl (by kernel_rfl) (by kernel_rfl) (by kernel_rfl) (fun _ _ _ h => h) (Or.inl ⟨by rfl, ?_⟩) (by assumption) ?_
  rotate_left 1
  · (intro w0 hSw; go_simp; try with_reducible rfl)
  simp only [List.getElem_toArray, List.getElem_cons_zero, List.getElem_cons_succ]
  go_frame
  refine wpAnyH_take (i := 5) (v := ?_) rfl (by kernel_rfl) (by kernel_rfl) (by kernel_rfl) (fun _ _ _ h => h) (Or.inl ⟨by rfl, ?_⟩) (by assumption) ?_
  rotate_left 1
  · (intro w0 hSw; go_simp; try with_reducible rfl)
  simp only [List.getElem_toArray, List.getElem_cons_zero, List.getElem_cons_succ]
  go_frame
  refine wpAnyH_take (i := 6) (v := ?_) rfl (by kernel_rfl) (by kernel_rfl) (by kernel_rfl) (fun _ _ _ h => h) (Or.inl ⟨by rfl, ?_⟩) (by assumption) ?_
  rotate_left 1
  · (intro w0 hSw; go_simp; try with_reducible rfl)
  simp only [List.getElem_toArray, List.getElem_cons_zero, List.getElem_cons_succ]
  go_frame
  refine wpAnyH_take (i := 7) (v := ?_) rfl (by kernel_rfl) (by kernel_rfl) (by kernel_rfl) (fun _ _ _ h => h) (Or.inl ⟨by rfl, ?_⟩) (by assumption) ?_
  rotate_left 1
  · (intro w0 hSw; go_simp; try with_reducible rfl)
  simp only [List.getElem_toArray, List.getElem_cons_zero, List.getElem_cons_succ]
  go_frame
  refine wpAnyH_take (i := 8) (v := ?_) rfl (by kernel_rfl) (by kernel_rfl) (by kernel_rfl) (fun _ _ _ h => h) (Or.inl ⟨by rfl, ?_⟩) (by assumption) ?_
  rotate_left 1
  · (intro w0 hSw; go_simp; try with_reducible rfl)
  simp only [List.getElem_toArray, List.getElem_cons_zero, List.getElem_cons_succ]
  go_frame
  refine wpAnyH_take (i := 10) (v := ?_) rfl (by kernel_rfl) (by kernel_rfl) (by kernel_rfl) (fun _ _ _ h => h) (Or.inl ⟨by rfl, ?_⟩) (by assumption) ?_
  rotate_left 1
  · (intro w0 hSw; go_simp; try with_reducible rfl)
  simp only [List.getElem_toArray, List.getElem_cons_zero, List.getElem_cons_succ]
  go_frame
  refine wpAnyH_take (i := 13) (v := ?_) rfl (by kernel_rfl) (by kernel_rfl) (by kernel_rfl) (fun _ _ _ h => h) (Or.inl ⟨by rfl, ?_⟩) (by assumption) ?_
  rotate_left 1
  · (intro w0 hSw; go_simp; try with_reducible rfl)
  simp only [List.getElem_toArray, List.getElem_cons_zero, List.getElem_cons_succ]
  go_frame
  refine wpAnyH_take (i := 14) (v := ?_) rfl (by kernel_rfl) (by kernel_rfl) (by kernel_rfl) (fun _ _ _ h => h) (Or.inl ⟨by rfl, ?_⟩) (by assumption) ?_
  rotate_left 1
  · (intro w0 hSw; go_simp; try with_reducible rfl)
  simp only [List.getElem_toArray, List.getElem_cons_zero, List.getElem_cons_succ]
  go_frame
  obtain ⟨U, hU⟩ : ∃ U, U = V.drew.alloc (.cells #[.int .i64 ((k : Int) + 1)] 3) := ⟨_, rfl⟩
  have HU : Hid (U = V.drew.alloc (.cells #[.int .i64 ((k : Int) + 1)] 3)) := hU
  have HGU : Hid (w1.grownBy U none) := by show w1.grownBy U none; rw [hU]; exact grown_push (grown_trans HGV.out (grown_drew V)) _
  have HGV1 : Hid (w1.grownBy w2 none) := HG2.out
  have HXs : Hid (w2.heap.size ≤ X) := by show w2.heap.size ≤ X; rw [HX.out]; exact Nat.le_refl _
  have HXU : Hid (U.heap[X]? = some (.cells #[.int .i64 t.card, .int .i64 1, .int .u8 1, .int .i64 0, .int .i64 0, .int .i64 0, .int .i64 0, .int .i64 0, .int .i64 0, .int .i64 0, .bool false] 38 (0, 0))) := by show U.heap[X]? = _; rw [hU]; exact grown_keep (grown_push (grown_drew V) _) HXb.out (by simp)
  have u1 : U.cell? ⟨X, 1, none⟩ = some (.int .i64 1) := (block_cell HXU.out 1).trans rfl
  have u2 : U.cell? ⟨b, 2, none⟩ = some (.slice pd l.length cd) := HGU.out.cell (HGV1c.out) (by simp)
  have HSrc : Hid (Src U (.slice (some ⟨V.heap.size, 0, none⟩) 1 1) 1 1 (ints [(k : Int) + 1])) := by show Src U _ 1 1 _; rw [hU]; exact Src_one V _
  clear hU
  refine wpAnyH_ready (rs := [9, 11]) (by kernel_rfl) (by simp) ?_
  refine AllReadyH.cons rfl (fun K9 hK => ?_) (AllReadyH.cons rfl (fun K9 hK => ?_) AllReadyH.nil)
  · skip
    simp only [List.getElem_toArray, List.getElem_cons_zero, List.getElem_cons_succ]
    go_simp
    refine hK.out _ _ (x1) (fun hHeld3 => ?_)
    clear hK K9
    (try go_frame)
    refine wpAnyH_ready (rs := [11]) (by kernel_rfl) (by simp) ?_
    refine AllReadyH.cons rfl (fun K9 hK => ?_) AllReadyH.nil
    simp only [List.getElem_toArray, List.getElem_cons_zero, List.getElem_cons_succ]
    go_simp
    try rw [show (V.alloc (Obj.cells #[Value.int IntKind.i64 ((k : Int) + 1)] 3)).drew = U from HU.out.symm]
    refine hK.out _ _ (u1) (fun hHeld3 => ?_)
    clear hK K9
    (try go_frame)
    refine wpAnyH_ready (rs := [12]) (by kernel_rfl) (by simp) ?_
    refine AllReadyH.cons rfl (fun K9 hK => ?_) AllReadyH.nil
    simp only [List.getElem_toArray, List.getElem_cons_zero, List.getElem_cons_succ]
    rw [if_pos (by rfl)]
    refine wp_app (.tmp 32) (.tmp 34) 22 rfl 0 3 i1 _ 1 8 Try.underlying22 hi1 hza1 hzb1 hzc1 rfl (by decide) (.slice pd l.length cd) (l.length) (ints l) rfl (own_grow HO1.out HGU.out) (.slice (some ⟨V.heap.size, 0, none⟩) 1 1) (1) (ints [(k : Int) + 1]) rfl (HSrc.out) (ints_one _) (HLs.out.1) (HLs.out.2) (Nat.zero_le _) ?_
    intro v' w7 o7 g7 l7
    have HO7 : Hid (OwnI w7 0 v' (l ++ [(k : Int) + 1])) := own_more o7 rfl
    have HG7 : Hid (U.grownBy w7 (Value.slice pd l.length cd).ownBlock) := g7
    have HL7 : Hid (v'.ownBlock = (Value.slice pd l.length cd).ownBlock ∨ ∀ x, v'.ownBlock = some x → U.heap.size ≤ x) := by
      rcases l7 with q | q
      · exact Or.inl q
      · exact Or.inr fun x hx => by rw [q] at hx; cases hx; exact Nat.le_refl _
    have HX7 : Hid (w7.heap[X]? = some (.cells #[.int .i64 t.card, .int .i64 1, .int .u8 1, .int .i64 0, .int .i64 0, .int .i64 0, .int .i64 0, .int .i64 0, .int .i64 0, .int .i64 0, .bool false] 38 (0, 0))) := by
      refine grown_keep g7 HXU.out ?_
      intro q
      have := own_lt HO1.out X q.symm
      have := HGV1.out.size
      have := HXs.out
      omega
    have y1 : w7.cell? ⟨X, 1, none⟩ = some (.int .i64 1) := (block_cell HX7.out 1).trans rfl
    have HB7 : Hid (w7.heap[b]? = some (.cells (zc (.slice (some ⟨g, 0, none⟩) z.ts.length cap) d0 (.slice pd l.length cd) h0 h1 z.nx []) 93 (0, 0))) := by
      have := keep_blk (HZ1.out.grow HGU.out).blk (own_grow HO1.out HGU.out) (by decide) g7
      rw [HEV.out] at this
      exact this
    have t7 : w7.cell? ⟨b, 2, none⟩ = some (.slice pd l.length cd) := (block_cell HB7.out 2).trans rfl
    have f7 : w7.frozen? ⟨b, 2, none⟩ = false := block_free HB7.out 2
    obtain ⟨pv, cv, ev7, _⟩ := own_slice HO7.out
    obtain ⟨m7, hm7⟩ : ∃ m7, m7 = (l ++ [(k : Int) + 1]).length := ⟨_, rfl⟩
    rw [← hm7] at ev7
    subst ev7
    clear hm7
    clear o7 g7 l7
    refine hK.out _ _ (y1) (fun hHeld3 => ?_)
    clear hK K9
    (try go_frame)
    refine wpAnyH_take (i := 15) (v := ?_) rfl (by kernel_rfl) (by kernel_rfl) (by kernel_rfl) (fun _ _ _ h => h) (Or.inl ⟨by rfl, ?_⟩) (by assumption) ?_
    rotate_left 1
    · (intro w0 hSw; go_simp; try with_reducible rfl)
    simp only [List.getElem_toArray, List.getElem_cons_zero, List.getElem_cons_succ]
    go_frame
    refine wpAnyH_ready (rs := [16]) (by kernel_rfl) (by simp) ?_
    refine AllReadyH.cons rfl (fun K9 hK => ?_) AllReadyH.nil
    simp only [List.getElem_toArray, List.getElem_cons_zero, List.getElem_cons_succ]
    go_simp
    have y2 : (w7.setCell ⟨b, 2, none⟩ (.slice pv m7 cv)).cell? ⟨X, 1, none⟩ = some (.int .i64 1) := (grown_set w7 b 2 _).cell y1 (by intro q; have := HbX.out.1; simp at q; omega)
    refine hK.out _ _ (y2) (fun hHeld3 => ?_)
    clear hK K9
    (try go_frame)
    refine wpAnyH_done (by kernel_rfl) ?_ _
    have HZ5 : Hid (ZG 93 [] (w7.setCell ⟨b, 2, none⟩ (.slice pv m7 cv)) b ((Value.slice pv m7 cv).ownBlock.toList ++ S1) { z.left ((k : Int) + 1) with dk := fun q => if q = 1 then l ++ [(k : Int) + 1] else (z.left ((k : Int) + 1)).dk q } (.slice (some ⟨g, 0, none⟩) z.ts.length cap) d0 (.slice pv m7 cv) h0 h1) := by
      have hz := HZ1.out.grow HGU.out
      have hloc := HL7.out
      have hg7 := HG7.out
      rw [← HEV.out] at hloc hg7
      exact hz.app_d1 tgs_z hg7 HO7.out hloc
    have HX5 : Hid ((w7.setCell ⟨b, 2, none⟩ (.slice pv m7 cv)).heap[X]? = some (.cells #[.int .i64 t.card, .int .i64 1, .int .u8 1, .int .i64 0, .int .i64 0, .int .i64 0, .int .i64 0, .int .i64 0, .int .i64 0, .int .i64 0, .bool false] 38 (0, 0))) := grown_keep (grown_set w7 b 2 _) HX7.out (by intro q; have := HbX.out.1; simp at q; omega)
    have HK5 : Hid (Kpt S1 w1 (w7.setCell ⟨b, 2, none⟩ (.slice pv m7 cv))) := by
      have k1 : Kpt S1 w1 U := kpt_sub HGU.out (by simp)
      have k2 : Kpt S1 U w7 := kpt_sub HG7.out (by rw [← HEV.out]; intro x hx; exact HZ1.out.inS d1 (by simp) x hx)
      have k3 : Kpt S1 w7 (w7.setCell ⟨b, 2, none⟩ (.slice pv m7 cv)) := kpt_sub (grown_set w7 b 2 _) (by intro x hx; cases hx; exact HZ1.out.inb)
      exact kpt_then (kpt_then k1 k2) k3
    have HLc : Hid (∀ x, (Value.slice pv m7 cv).ownBlock = some x → (x ∈ S1 ∨ w1.heap.size ≤ x) ∧ x < w7.heap.size) := by
      intro x hx
      refine ⟨?_, own_lt HO7.out x hx⟩
      rcases HL7.out with q | q
      · rw [q, ← HEV.out] at hx
        exact Or.inl (HZ1.out.inS d1 (by simp) x hx)
      · exact Or.inr (Nat.le_trans HGU.out.size (q x hx))
    obtain ⟨W5, hW5⟩ : ∃ W5, W5 = w7.setCell ⟨b, 2, none⟩ (.slice pv m7 cv) := ⟨_, rfl⟩
    rw [← hW5] at HZ5 HX5 HK5
    have HW5 : Hid (W5 = w7.setCell ⟨b, 2, none⟩ (.slice pv m7 cv)) := hW5
    have s0 : W5.cell? ⟨b, 0, none⟩ = some (.slice (some ⟨g, 0, none⟩) z.ts.length cap) := HZ5.out.cell.1
    clear t7 f7 y1 y2 hW5 HB7 HO7 HG7 HL7 HX7 s2 x1
    go_upto_region 10 with fail
    rw [← HW5.out]
    refine wp_region_held_drew (S := fun w' => w'.cell? ⟨b, 0, none⟩ = some (.slice (some ⟨g, 0, none⟩) z.ts.length cap) ∧ w'.heap[X]? = some (.cells #[.int .i64 t.card, .int .i64 1, .int .u8 1, .int .i64 0, .int .i64 0, .int .i64 0, .int .i64 0, .int .i64 0, .int .i64 0, .int .i64 0, .bool false] 38 (0, 0))) (by kernel_rfl) (⟨s0, HX5.out⟩) (fun hHeld => ?_)
    refine wpAnyH_take (i := 0) (v := ?_) rfl (by kernel_rfl) (by kernel_rfl) (by kernel_rfl) (fun _ _ _ h => h) (Or.inl ⟨by rfl, ?_⟩) (by assumption) ?_
    rotate_left 1
    · (intro w0 hSw; go_simp; try with_reducible rfl)
    simp only [List.getElem_toArray, List.getElem_cons_zero]
    go_frame
    refine wpAnyH_take (i := 1) (v := ?_) rfl (by kernel_rfl) (by kernel_rfl) (by kernel_rfl) (fun _ _ _ h => h) (Or.inl ⟨by rfl, ?_⟩) (by assumption) ?_
    rotate_left 1
    · (intro w0 hSw; go_simp; try with_reducible rfl)
    simp only [List.getElem_toArray, List.getElem_cons_zero, List.getElem_cons_succ]
    go_frame
    refine wpAnyH_take (i := 2) (v := ?_) rfl (by kernel_rfl) (by kernel_rfl) (by kernel_rfl) (fun _ _ _ h => h) (Or.inl ⟨by rfl, ?_⟩) (by assumption) ?_
    rotate_left 1
    · (intro w0 hSw; go_simp; try with_reducible rfl)
    simp only [List.getElem_toArray, List.getElem_cons_zero, List.getElem_cons_succ]
    go_frame
    refine wpAnyH_take (i := 3) (v := ?_) rfl (by kernel_rfl) (by kernel_rfl) (by kernel_rfl) (fun _ _ _ h => h) (Or.inl ⟨by rfl, ?_⟩) (by assumption) ?_
    rotate_left 1
    · (intro w0 hSw; obtain ⟨q1, q2⟩ := hSw; go_simp; try with_reducible rfl)
    simp only [List.getElem_toArray, List.getElem_cons_zero, List.getElem_cons_succ]
    go_frame
    refine wpAnyH_take (i := 4) (v := ?_) rfl (by kernel_rfl) (by kernel_rfl) (by kernel_rfl) (fun _ _ _ h => h) (Or.inl ⟨by rfl, ?_⟩) (by assumption) ?_
    rotate_left 1
    · (intro w0 hSw; go_simp; try with_reducible rfl)
    simp only [List.getElem_toArray, List.getElem_cons_zero, List.getElem_cons_succ]
    go_frame
    refine wpAnyH_take (i := 5) (v := ?_) rfl (by kernel_rfl) (by kernel_rfl) (by kernel_rfl) (fun _ _ _ h => h) (Or.inl ⟨by rfl, ?_⟩) (by assumption) ?_
    rotate_left 1
    · (intro w0 hSw; go_simp; try with_reducible rfl)
    simp only [List.getElem_toArray, List.getElem_cons_zero, List.getElem_cons_succ]
    go_frame
    refine wpAnyH_take (i := 6) (v := ?_) rfl (by kernel_rfl) (by kernel_rfl) (by kernel_rfl) (fun _ _ _ h => h) (Or.inl ⟨by rfl, ?_⟩) (by assumption) ?_
    rotate_left 1
    · (intro w0 hSw; obtain ⟨q1, q2⟩ := hSw; have r0 := (block_cell q2 0).trans rfl; have r1 := (block_cell q2 1).trans rfl; have r2 := (block_cell q2 2).trans rfl; have r3 := (block_cell q2 3).trans rfl; have r4 := (block_cell q2 4).trans rfl; have r5 := (block_cell q2 5).trans rfl; have r6 := (block_cell q2 6).trans rfl; have r7 := (block_cell q2 7).trans rfl; have r8 := (block_cell q2 8).trans rfl; have r9 := (block_cell q2 9).trans rfl; have r10 := (block_cell q2 10).trans rfl; go_simp; try with_reducible rfl)
    simp only [List.getElem_toArray, List.getElem_cons_zero, List.getElem_cons_succ]
    go_frame
    refine wpAnyH_take (i := 7) (v := ?_) rfl (by kernel_rfl) (by kernel_rfl) (by kernel_rfl) (fun _ _ _ h => h) (Or.inl ⟨by rfl, ?_⟩) (by assumption) ?_
    rotate_left 1
    · (intro w0 hSw; go_simp; try with_reducible rfl)
    simp only [List.getElem_toArray, List.getElem_cons_zero, List.getElem_cons_succ]
    go_frame
    refine wpAnyH_ready (rs := [8]) (by kernel_rfl) (by simp) ?_
    refine AllReadyH.cons rfl (fun K9 hK => ?_) AllReadyH.nil
    simp only [List.getElem_toArray, List.getElem_cons_zero, List.getElem_cons_succ]
    rw [if_pos (by rfl)]
    refine wp_store_mid 38 (.tmp 79) (.tmp 78) rfl g (k * 11) (thc (⟨t.card, 1, 1, 0, 0, 0, 0, 0, 0, 0, false⟩ : Th)).toArray rfl rfl (own_thereT HZ5.out.ts rfl hlt) (by kernel_rfl) (thc_one _) ?_
    have Z6 := HZ5.out.set_th tgs_z rfl hlt (⟨t.card, 1, 1, 0, 0, 0, 0, 0, 0, 0, false⟩ : Th)
    have HZ6 : Hid (ZG 93 [] (W5.drew.setCells g (k * 11) (thc (⟨t.card, 1, 1, 0, 0, 0, 0, 0, 0, 0, false⟩ : Th))) b ((Value.slice pv m7 cv).ownBlock.toList ++ S1) _ (.slice (some ⟨g, 0, none⟩) z.ts.length cap) d0 (.slice pv m7 cv) h0 h1) := (ZG.set_th (HZ5.out.grow (grown_drew W5)) tgs_z rfl hlt (⟨t.card, 1, 1, 0, 0, 0, 0, 0, 0, 0, false⟩ : Th)).1
    have HG6 : Hid (W5.drew.grownBy (W5.drew.setCells g (k * 11) (thc (⟨t.card, 1, 1, 0, 0, 0, 0, 0, 0, 0, false⟩ : Th))) (some g)) := (ZG.set_th (HZ5.out.grow (grown_drew W5)) tgs_z rfl hlt (⟨t.card, 1, 1, 0, 0, 0, 0, 0, 0, 0, false⟩ : Th)).2
    clear Z6
    have hgX : some X ≠ some g := by have := HbX.out.2; intro q; cases q; omega
    have hbg : some b ≠ some g := zg_bg HZ5.out tgs_z
    refine hK.out _ _ (⟨HG6.out.cell s0 hbg, grown_keep HG6.out HX5.out hgX⟩) (fun hHeld3 => ?_)
    clear hK K9
    (try go_frame)
    refine wpAnyH_done (by kernel_rfl) ?_ _
    have HFin : Hid (TnPost w b Sb (z.come ((k : Int) + 1) 1) (.tuple #[]) (.returned (.tuple #[])) (W5.drew.setCells g (k * 11) (thc (⟨t.card, 1, 1, 0, 0, 0, 0, 0, 0, 0, false⟩ : Th)))) := by
      refine ⟨rfl, _, ⟨_, _, _, _, _, HZ6.out.congr ?_ ?_ ?_ ?_ ?_ ?_⟩, HT1.out.trans (turn_of (kpt_then HK5.out (kpt_then (kpt_sub (grown_drew W5) (by simp)) (kpt_sub HG6.out (fun x hx => by cases hx; exact HZ1.out.inS (.slice (some ⟨g, 0, none⟩) z.ts.length cap) (by simp) g rfl)))) HT1.out.old (fun x hx => (HLc.out x hx).1) (fun x hx => Nat.lt_of_lt_of_le (HLc.out x hx).2 ?_))⟩
      · show z.ts.set (((k : Int) + 1) - 1).toNat (if (1 : Int) = 4 then _ else (thAt z.ts ((k : Int) + 1)).home 1) = z.ts.set k _
        rw [show (((k : Int) + 1) - 1).toNat = k from by omega, if_neg (by decide), ← HTT.out]
        unfold Th.home
        rw [hto]
      · show (if (1 : Int) = 4 then z.nx + 1 else z.nx) = z.nx
        rw [if_neg (by decide)]
      · show (if (0 : Int) = (thAt z.ts ((k : Int) + 1)).owner then (z.dk 0).filter (· != ((k : Int) + 1)) ++ (if (1 : Int) = 1 then [(k : Int) + 1] else []) else z.dk 0) = (if (0 : Int) = 1 then l ++ [(k : Int) + 1] else (if (0 : Int) = (thAt z.ts ((k : Int) + 1)).owner then (z.dk 0).filter (· != ((k : Int) + 1)) else z.dk 0))
        rw [HHo.out, if_neg (by decide), if_neg (by decide), if_neg (by decide)]
      · show (if (1 : Int) = (thAt z.ts ((k : Int) + 1)).owner then (z.dk 1).filter (· != ((k : Int) + 1)) ++ (if (1 : Int) = 1 then [(k : Int) + 1] else []) else z.dk 1) = (if (1 : Int) = 1 then l ++ [(k : Int) + 1] else (if (1 : Int) = (thAt z.ts ((k : Int) + 1)).owner then (z.dk 1).filter (· != ((k : Int) + 1)) else z.dk 1))
        rw [HHo.out, if_pos rfl, if_pos rfl, if_pos rfl, HLl.out]
      · show (if (0 : Int) = (thAt z.ts ((k : Int) + 1)).owner then (z.hd 0).filter (· != ((k : Int) + 1)) ++ (if (1 : Int) = 2 then [(k : Int) + 1] else []) else z.hd 0) = (if (0 : Int) = (thAt z.ts ((k : Int) + 1)).owner then (z.hd 0).filter (· != ((k : Int) + 1)) else z.hd 0)
        rw [HHo.out, if_neg (by decide), if_neg (by decide)]
      · show (if (1 : Int) = (thAt z.ts ((k : Int) + 1)).owner then (z.hd 1).filter (· != ((k : Int) + 1)) ++ (if (1 : Int) = 2 then [(k : Int) + 1] else []) else z.hd 1) = (if (1 : Int) = (thAt z.ts ((k : Int) + 1)).owner then (z.hd 1).filter (· != ((k : Int) + 1)) else z.hd 1)
        rw [HHo.out, if_pos rfl, if_pos rfl, if_neg (by decide), List.append_nil]
      · have h8 : w7.heap.size ≤ W5.heap.size := by rw [HW5.out]; exact (grown_set w7 b 2 _).size
        have h9 := HG6.out.size
        exact Nat.le_trans h8 h9
    clear HZ6 HG6 HZ5 HX5 HK5 HLc
    (try go_wp2)
    go_end0
    exact HFin.out
  · skip
    simp only [List.getElem_toArray, List.getElem_cons_zero, List.getElem_cons_succ]
    go_simp
    try rw [show (V.alloc (Obj.cells #[Value.int IntKind.i64 ((k : Int) + 1)] 3)).drew = U from HU.out.symm]
    refine hK.out _ _ (u1) (fun hHeld3 => ?_)
    clear hK K9
    (try go_frame)
    refine wpAnyH_ready (rs := [9]) (by kernel_rfl) (by simp) ?_
    refine AllReadyH.cons rfl (fun K9 hK => ?_) AllReadyH.nil
    simp only [List.getElem_toArray, List.getElem_cons_zero, List.getElem_cons_succ]
    go_simp
    refine hK.out _ _ (u1) (fun hHeld3 => ?_)
    clear hK K9
    (try go_frame)
    refine wpAnyH_ready (rs := [12]) (by kernel_rfl) (by simp) ?_
    refine AllReadyH.cons rfl (fun K9 hK => ?_) AllReadyH.nil
    simp only [List.getElem_toArray, List.getElem_cons_zero, List.getElem_cons_succ]
    rw [if_pos (by rfl)]
    refine wp_app (.tmp 32) (.tmp 34) 22 rfl 0 3 i1 _ 1 8 Try.underlying22 hi1 hza1 hzb1 hzc1 rfl (by decide) (.slice pd l.length cd) (l.length) (ints l) rfl (own_grow HO1.out HGU.out) (.slice (some ⟨V.heap.size, 0, none⟩) 1 1) (1) (ints [(k : Int) + 1]) rfl (HSrc.out) (ints_one _) (HLs.out.1) (HLs.out.2) (Nat.zero_le _) ?_
    intro v' w7 o7 g7 l7
    have HO7 : Hid (OwnI w7 0 v' (l ++ [(k : Int) + 1])) := own_more o7 rfl
    have HG7 : Hid (U.grownBy w7 (Value.slice pd l.length cd).ownBlock) := g7
    have HL7 : Hid (v'.ownBlock = (Value.slice pd l.length cd).ownBlock ∨ ∀ x, v'.ownBlock = some x → U.heap.size ≤ x) := by
      rcases l7 with q | q
      · exact Or.inl q
      · exact Or.inr fun x hx => by rw [q] at hx; cases hx; exact Nat.le_refl _
    have HX7 : Hid (w7.heap[X]? = some (.cells #[.int .i64 t.card, .int .i64 1, .int .u8 1, .int .i64 0, .int .i64 0, .int .i64 0, .int .i64 0, .int .i64 0, .int .i64 0, .int .i64 0, .bool false] 38 (0, 0))) := by
      refine grown_keep g7 HXU.out ?_
      intro q
      have := own_lt HO1.out X q.symm
      have := HGV1.out.size
      have := HXs.out
      omega
    have y1 : w7.cell? ⟨X, 1, none⟩ = some (.int .i64 1) := (block_cell HX7.out 1).trans rfl
    have HB7 : Hid (w7.heap[b]? = some (.cells (zc (.slice (some ⟨g, 0, none⟩) z.ts.length cap) d0 (.slice pd l.length cd) h0 h1 z.nx []) 93 (0, 0))) := by
      have := keep_blk (HZ1.out.grow HGU.out).blk (own_grow HO1.out HGU.out) (by decide) g7
      rw [HEV.out] at this
      exact this
    have t7 : w7.cell? ⟨b, 2, none⟩ = some (.slice pd l.length cd) := (block_cell HB7.out 2).trans rfl
    have f7 : w7.frozen? ⟨b, 2, none⟩ = false := block_free HB7.out 2
    obtain ⟨pv, cv, ev7, _⟩ := own_slice HO7.out
    obtain ⟨m7, hm7⟩ : ∃ m7, m7 = (l ++ [(k : Int) + 1]).length := ⟨_, rfl⟩
    rw [← hm7] at ev7
    subst ev7
    clear hm7
    clear o7 g7 l7
    refine hK.out _ _ (y1) (fun hHeld3 => ?_)
    clear hK K9
    (try go_frame)
    refine wpAnyH_take (i := 15) (v := ?_) rfl (by kernel_rfl) (by kernel_rfl) (by kernel_rfl) (fun _ _ _ h => h) (Or.inl ⟨by rfl, ?_⟩) (by assumption) ?_
    rotate_left 1
    · (intro w0 hSw; go_simp; try with_reducible rfl)
    simp only [List.getElem_toArray, List.getElem_cons_zero, List.getElem_cons_succ]
    go_frame
    refine wpAnyH_ready (rs := [16]) (by kernel_rfl) (by simp) ?_
    refine AllReadyH.cons rfl (fun K9 hK => ?_) AllReadyH.nil
    simp only [List.getElem_toArray, List.getElem_cons_zero, List.getElem_cons_succ]
    go_simp
    have y2 : (w7.setCell ⟨b, 2, none⟩ (.slice pv m7 cv)).cell? ⟨X, 1, none⟩ = some (.int .i64 1) := (grown_set w7 b 2 _).cell y1 (by intro q; have := HbX.out.1; simp at q; omega)
    refine hK.out _ _ (y2) (fun hHeld3 => ?_)
    clear hK K9
    (try go_frame)
    refine wpAnyH_done (by kernel_rfl) ?_ _
    have HZ5 : Hid (ZG 93 [] (w7.setCell ⟨b, 2, none⟩ (.slice pv m7 cv)) b ((Value.slice pv m7 cv).ownBlock.toList ++ S1) { z.left ((k : Int) + 1) with dk := fun q => if q = 1 then l ++ [(k : Int) + 1] else (z.left ((k : Int) + 1)).dk q } (.slice (some ⟨g, 0, none⟩) z.ts.length cap) d0 (.slice pv m7 cv) h0 h1) := by
      have hz := HZ1.out.grow HGU.out
      have hloc := HL7.out
      have hg7 := HG7.out
      rw [← HEV.out] at hloc hg7
      exact hz.app_d1 tgs_z hg7 HO7.out hloc
    have HX5 : Hid ((w7.setCell ⟨b, 2, none⟩ (.slice pv m7 cv)).heap[X]? = some (.cells #[.int .i64 t.card, .int .i64 1, .int .u8 1, .int .i64 0, .int .i64 0, .int .i64 0, .int .i64 0, .int .i64 0, .int .i64 0, .int .i64 0, .bool false] 38 (0, 0))) := grown_keep (grown_set w7 b 2 _) HX7.out (by intro q; have := HbX.out.1; simp at q; omega)
    have HK5 : Hid (Kpt S1 w1 (w7.setCell ⟨b, 2, none⟩ (.slice pv m7 cv))) := by
      have k1 : Kpt S1 w1 U := kpt_sub HGU.out (by simp)
      have k2 : Kpt S1 U w7 := kpt_sub HG7.out (by rw [← HEV.out]; intro x hx; exact HZ1.out.inS d1 (by simp) x hx)
      have k3 : Kpt S1 w7 (w7.setCell ⟨b, 2, none⟩ (.slice pv m7 cv)) := kpt_sub (grown_set w7 b 2 _) (by intro x hx; cases hx; exact HZ1.out.inb)
      exact kpt_then (kpt_then k1 k2) k3
    have HLc : Hid (∀ x, (Value.slice pv m7 cv).ownBlock = some x → (x ∈ S1 ∨ w1.heap.size ≤ x) ∧ x < w7.heap.size) := by
      intro x hx
      refine ⟨?_, own_lt HO7.out x hx⟩
      rcases HL7.out with q | q
      · rw [q, ← HEV.out] at hx
        exact Or.inl (HZ1.out.inS d1 (by simp) x hx)
      · exact Or.inr (Nat.le_trans HGU.out.size (q x hx))
    obtain ⟨W5, hW5⟩ : ∃ W5, W5 = w7.setCell ⟨b, 2, none⟩ (.slice pv m7 cv) := ⟨_, rfl⟩
    rw [← hW5] at HZ5 HX5 HK5
    have HW5 : Hid (W5 = w7.setCell ⟨b, 2, none⟩ (.slice pv m7 cv)) := hW5
    have s0 : W5.cell? ⟨b, 0, none⟩ = some (.slice (some ⟨g, 0, none⟩) z.ts.length cap) := HZ5.out.cell.1
    clear t7 f7 y1 y2 hW5 HB7 HO7 HG7 HL7 HX7 s2 x1
    go_upto_region 10 with fail
    rw [← HW5.out]
    refine wp_region_held_drew (S := fun w' => w'.cell? ⟨b, 0, none⟩ = some (.slice (some ⟨g, 0, none⟩) z.ts.length cap) ∧ w'.heap[X]? = some (.cells #[.int .i64 t.card, .int .i64 1, .int .u8 1, .int .i64 0, .int .i64 0, .int .i64 0, .int .i64 0, .int .i64 0, .int .i64 0, .int .i64 0, .bool false] 38 (0, 0))) (by kernel_rfl) (⟨s0, HX5.out⟩) (fun hHeld => ?_)
    refine wpAnyH_take (i := 0) (v := ?_) rfl (by kernel_rfl) (by kernel_rfl) (by kernel_rfl) (fun _ _ _ h => h) (Or.inl ⟨by rfl, ?_⟩) (by assumption) ?_
    rotate_left 1
    · (intro w0 hSw; go_simp; try with_reducible rfl)
    simp only [List.getElem_toArray, List.getElem_cons_zero]
    go_frame
    refine wpAnyH_take (i := 1) (v := ?_) rfl (by kernel_rfl) (by kernel_rfl) (by kernel_rfl) (fun _ _ _ h => h) (Or.inl ⟨by rfl, ?_⟩) (by assumption) ?_
    rotate_left 1
    · (intro w0 hSw; go_simp; try with_reducible rfl)
    simp only [List.getElem_toArray, List.getElem_cons_zero, List.getElem_cons_succ]
    go_frame
    refine wpAnyH_take (i := 2) (v := ?_) rfl (by kernel_rfl) (by kernel_rfl) (by kernel_rfl) (fun _ _ _ h => h) (Or.inl ⟨by rfl, ?_⟩) (by assumption) ?_
    rotate_left 1
    · (intro w0 hSw; go_simp; try with_reducible rfl)
    simp only [List.getElem_toArray, List.getElem_cons_zero, List.getElem_cons_succ]
    go_frame
    refine wpAnyH_take (i := 3) (v := ?_) rfl (by kernel_rfl) (by kernel_rfl) (by kernel_rfl) (fun _ _ _ h => h) (Or.inl ⟨by rfl, ?_⟩) (by assumption) ?_
    rotate_left 1
    · (intro w0 hSw; obtain ⟨q1, q2⟩ := hSw; go_simp; try with_reducible rfl)
    simp only [List.getElem_toArray, List.getElem_cons_zero, List.getElem_cons_succ]
    go_frame
    refine wpAnyH_take (i := 4) (v := ?_) rfl (by kernel_rfl) (by kernel_rfl) (by kernel_rfl) (fun _ _ _ h => h) (Or.inl ⟨by rfl, ?_⟩) (by assumption) ?_
    rotate_left 1
    · (intro w0 hSw; go_simp; try with_reducible rfl)
    simp only [List.getElem_toArray, List.getElem_cons_zero, List.getElem_cons_succ]
    go_frame
    refine wpAnyH_take (i := 5) (v := ?_) rfl (by kernel_rfl) (by kernel_rfl) (by kernel_rfl) (fun _ _ _ h => h) (Or.inl ⟨by rfl, ?_⟩) (by assumption) ?_
    rotate_left 1
    · (intro w0 hSw; go_simp; try with_reducible rfl)
    simp only [List.getElem_toArray, List.getElem_cons_zero, List.getElem_cons_succ]
    go_frame
    refine wpAnyH_take (i := 6) (v := ?_) rfl (by kernel_rfl) (by kernel_rfl) (by kernel_rfl) (fun _ _ _ h => h) (Or.inl ⟨by rfl, ?_⟩) (by assumption) ?_
    rotate_left 1
    · (intro w0 hSw; obtain ⟨q1, q2⟩ := hSw; have r0 := (block_cell q2 0).trans rfl; have r1 := (block_cell q2 1).trans rfl; have r2 := (block_cell q2 2).trans rfl; have r3 := (block_cell q2 3).trans rfl; have r4 := (block_cell q2 4).trans rfl; have r5 := (block_cell q2 5).trans rfl; have r6 := (block_cell q2 6).trans rfl; have r7 := (block_cell q2 7).trans rfl; have r8 := (block_cell q2 8).trans rfl; have r9 := (block_cell q2 9).trans rfl; have r10 := (block_cell q2 10).trans rfl; go_simp; try with_reducible rfl)
    simp only [List.getElem_toArray, List.getElem_cons_zero, List.getElem_cons_succ]
    go_frame
    refine wpAnyH_take (i := 7) (v := ?_) rfl (by kernel_rfl) (by kernel_rfl) (by kernel_rfl) (fun _ _ _ h => h) (Or.inl ⟨by rfl, ?_⟩) (by assumption) ?_
    rotate_left 1
    · (intro w0 hSw; go_simp; try with_reducible rfl)
    simp only [List.getElem_toArray, List.getElem_cons_zero, List.getElem_cons_succ]
    go_frame
    refine wpAnyH_ready (rs := [8]) (by kernel_rfl) (by simp) ?_
    refine AllReadyH.cons rfl (fun K9 hK => ?_) AllReadyH.nil
    simp only [List.getElem_toArray, List.getElem_cons_zero, List.getElem_cons_succ]
    rw [if_pos (by rfl)]
    refine wp_store_mid 38 (.tmp 79) (.tmp 78) rfl g (k * 11) (thc (⟨t.card, 1, 1, 0, 0, 0, 0, 0, 0, 0, false⟩ : Th)).toArray rfl rfl (own_thereT HZ5.out.ts rfl hlt) (by kernel_rfl) (thc_one _) ?_
    have Z6 := HZ5.out.set_th tgs_z rfl hlt (⟨t.card, 1, 1, 0, 0, 0, 0, 0, 0, 0, false⟩ : Th)
    have HZ6 : Hid (ZG 93 [] (W5.drew.setCells g (k * 11) (thc (⟨t.card, 1, 1, 0, 0, 0, 0, 0, 0, 0, false⟩ : Th))) b ((Value.slice pv m7 cv).ownBlock.toList ++ S1) _ (.slice (some ⟨g, 0, none⟩) z.ts.length cap) d0 (.slice pv m7 cv) h0 h1) := (ZG.set_th (HZ5.out.grow (grown_drew W5)) tgs_z rfl hlt (⟨t.card, 1, 1, 0, 0, 0, 0, 0, 0, 0, false⟩ : Th)).1
    have HG6 : Hid (W5.drew.grownBy (W5.drew.setCells g (k * 11) (thc (⟨t.card, 1, 1, 0, 0, 0, 0, 0, 0, 0, false⟩ : Th))) (some g)) := (ZG.set_th (HZ5.out.grow (grown_drew W5)) tgs_z rfl hlt (⟨t.card, 1, 1, 0, 0, 0, 0, 0, 0, 0, false⟩ : Th)).2
    clear Z6
    have hgX : some X ≠ some g := by have := HbX.out.2; intro q; cases q; omega
    have hbg : some b ≠ some g := zg_bg HZ5.out tgs_z
    refine hK.out _ _ (⟨HG6.out.cell s0 hbg, grown_keep HG6.out HX5.out hgX⟩) (fun hHeld3 => ?_)
    clear hK K9
    (try go_frame)
    refine wpAnyH_done (by kernel_rfl) ?_ _
    have HFin : Hid (TnPost w b Sb (z.come ((k : Int) + 1) 1) (.tuple #[]) (.returned (.tuple #[])) (W5.drew.setCells g (k * 11) (thc (⟨t.card, 1, 1, 0, 0, 0, 0, 0, 0, 0, false⟩ : Th)))) := by
      refine ⟨rfl, _, ⟨_, _, _, _, _, HZ6.out.congr ?_ ?_ ?_ ?_ ?_ ?_⟩, HT1.out.trans (turn_of (kpt_then HK5.out (kpt_then (kpt_sub (grown_drew W5) (by simp)) (kpt_sub HG6.out (fun x hx => by cases hx; exact HZ1.out.inS (.slice (some ⟨g, 0, none⟩) z.ts.length cap) (by simp) g rfl)))) HT1.out.old (fun x hx => (HLc.out x hx).1) (fun x hx => Nat.lt_of_lt_of_le (HLc.out x hx).2 ?_))⟩
      · show z.ts.set (((k : Int) + 1) - 1).toNat (if (1 : Int) = 4 then _ else (thAt z.ts ((k : Int) + 1)).home 1) = z.ts.set k _
        rw [show (((k : Int) + 1) - 1).toNat = k from by omega, if_neg (by decide), ← HTT.out]
        unfold Th.home
        rw [hto]
      · show (if (1 : Int) = 4 then z.nx + 1 else z.nx) = z.nx
        rw [if_neg (by decide)]
      · show (if (0 : Int) = (thAt z.ts ((k : Int) + 1)).owner then (z.dk 0).filter (· != ((k : Int) + 1)) ++ (if (1 : Int) = 1 then [(k : Int) + 1] else []) else z.dk 0) = (if (0 : Int) = 1 then l ++ [(k : Int) + 1] else (if (0 : Int) = (thAt z.ts ((k : Int) + 1)).owner then (z.dk 0).filter (· != ((k : Int) + 1)) else z.dk 0))
        rw [HHo.out, if_neg (by decide), if_neg (by decide), if_neg (by decide)]
      · show (if (1 : Int) = (thAt z.ts ((k : Int) + 1)).owner then (z.dk 1).filter (· != ((k : Int) + 1)) ++ (if (1 : Int) = 1 then [(k : Int) + 1] else []) else z.dk 1) = (if (1 : Int) = 1 then l ++ [(k : Int) + 1] else (if (1 : Int) = (thAt z.ts ((k : Int) + 1)).owner then (z.dk 1).filter (· != ((k : Int) + 1)) else z.dk 1))
        rw [HHo.out, if_pos rfl, if_pos rfl, if_pos rfl, HLl.out]
      · show (if (0 : Int) = (thAt z.ts ((k : Int) + 1)).owner then (z.hd 0).filter (· != ((k : Int) + 1)) ++ (if (1 : Int) = 2 then [(k : Int) + 1] else []) else z.hd 0) = (if (0 : Int) = (thAt z.ts ((k : Int) + 1)).owner then (z.hd 0).filter (· != ((k : Int) + 1)) else z.hd 0)
        rw [HHo.out, if_neg (by decide), if_neg (by decide)]
      · show (if (1 : Int) = (thAt z.ts ((k : Int) + 1)).owner then (z.hd 1).filter (· != ((k : Int) + 1)) ++ (if (1 : Int) = 2 then [(k : Int) + 1] else []) else z.hd 1) = (if (1 : Int) = (thAt z.ts ((k : Int) + 1)).owner then (z.hd 1).filter (· != ((k : Int) + 1)) else z.hd 1)
        rw [HHo.out, if_pos rfl, if_pos rfl, if_neg (by decide), List.append_nil]
      · have h8 : w7.heap.size ≤ W5.heap.size := by rw [HW5.out]; exact (grown_set w7 b 2 _).size
        have h9 := HG6.out.size
        exact Nat.le_trans h8 h9
    clear HZ6 HG6 HZ5 HX5 HK5 HLc
    (try go_wp2)
    go_end0
    exact HFin.out
set_option maxRecDepth 100000 in
set_option maxHeartbeats 4000000 in
theorem come_hd0 (b : Nat) (Sb : List Nat) (z : Zs) (n : Int) (w : World) (Z : ZAt w b Sb z) (F : z.Fine n) (hS : Old w Sb) (hf : z.ts.length ≤ 2048) (hd : ∀ p, p = 0 ∨ p = 1 → (z.dk p).length ≤ 2048) (hh : ∀ p, p = 0 ∨ p = 1 → (z.hd p).length ≤ 2048) (ho : (thAt z.ts n).owner = 0) : Calls Try.prog 65 #[.pointer (some ⟨b, 0, none⟩), .int .i64 n, .int .u8 2] w (TnPost w b Sb (z.come n 2) (.tuple #[])) := by
  obtain ⟨i1, hi1, hza1, hzb1, hzc1⟩ := info_parts Try.info3i'
  have HC := leave_any b Sb z n w Z F hS hf hd hh
  have hn := F.at_
  have hown := F.own
  obtain ⟨k, hk⟩ : ∃ k : Nat, n = (k : Int) + 1 := ⟨(n - 1).toNat, by unfold there at hn; omega⟩
  subst hk
  have hlt : k < z.ts.length := by unfold there at hn; omega
  obtain ⟨t, ht⟩ : ∃ t, t = thAt z.ts ((k : Int) + 1) := ⟨_, rfl⟩
  have HTT : Hid (t = thAt z.ts ((k : Int) + 1)) := ht
  have hw1 : wrap64 (k : Int) = (k : Int) := by unfold wrap64; omega
  have hw9 : IntKind.i64.wrap (k : Int) = (k : Int) := IntWalk.i64_in _ (by omega)
  have hlt' : (k : Int) < z.ts.length := by omega
  have HF : Hid (z.Fine ((k : Int) + 1)) := F
  have HSo : Hid (Old w Sb) := hS
  have Hdl : Hid (∀ p, p = 0 ∨ p = 1 → (z.dk p).length ≤ 2048) := hd
  have Hhl : Hid (∀ p, p = 0 ∨ p = 1 → (z.hd p).length ≤ 2048) := hh
  have hto : t.owner = 0 := by rw [ht]; exact ho
  have HHo : Hid ((thAt z.ts ((k : Int) + 1)).owner = 0) := ho
  clear F hS hd hh hn hown ht ho
  go_enter Try.func65, Try.ntmps65
  go_wp2_with fail
  refine HC.mono ?_
  rintro e w1 ⟨rfl, S1, ⟨vt, d0, d1, h0, h1, Z1⟩, T1⟩
  obtain ⟨g, cap, rfl, R1⟩ := zg_at Z1 (k := k) (by rw [left_ts]; exact hlt)
  rw [left_ts, ← HTT.out] at R1
  obtain ⟨e1, e2, e3, e4, e5, e6, e7, e8, e9, e10, e11⟩ := range_cells R1
  obtain ⟨c0, c1, c2, c3, c4, c5⟩ := Z1.cell
  rw [left_ts] at c0
  rw [left_nx] at c5
  have AH := atHome_any t 2 w1
  unfold thv at AH
  have HZ1 : Hid (ZG 93 [] w1 b S1 (z.left ((k : Int) + 1)) (.slice (some ⟨g, 0, none⟩) z.ts.length cap) d0 d1 h0 h1) := Z1
  have HT1 : Hid (Turn w w1 Sb S1) := T1
  clear Z1 T1 R1 HC
  rw [hto] at e2 AH
  have eL : (z.left ((k : Int) + 1)).hd 0 = ((z.hd 0).filter (· != ((k : Int) + 1))) := by
    show (if (0 : Int) = (thAt z.ts ((k : Int) + 1)).owner then _ else _) = _
    rw [HHo.out, if_pos rfl]
  obtain ⟨l, hl⟩ : ∃ l, l = ((z.hd 0).filter (· != ((k : Int) + 1))) := ⟨_, rfl⟩
  have HLl : Hid (l = ((z.hd 0).filter (· != ((k : Int) + 1)))) := hl
  rw [← hl] at eL
  have O1 := HZ1.out.oh0
  rw [eL] at O1
  have hln : l.length ≤ 2048 := by rw [hl]; exact Nat.le_trans (filter_len _ _) (Hhl.out 0 (by decide))
  obtain ⟨pd, cd, ev, _⟩ := own_slice O1
  have HEV : Hid (h0 = .slice pd l.length cd) := ev
  have HO1 : Hid (OwnI w1 0 (.slice pd l.length cd) l) := by rw [← ev]; exact O1
  have HEL : Hid ((z.left ((k : Int) + 1)).hd 0 = l) := eL
  rw [ev] at c3
  have HLs : Hid (l.length + 1 ≤ maxLen ∧ (l.length + 1) * 8 ≤ 140737488355328) := by show _ ∧ _; unfold maxLen; omega
  clear O1 ev eL hl hln
  go_wp2_with fail
  refine AH.mono ?_
  rintro e w2 ⟨rfl, g2⟩
  have HG2 : Hid (w1.grownBy w2 none) := g2
  obtain ⟨X, hX⟩ : ∃ X, X = w2.heap.size := ⟨_, rfl⟩
  obtain ⟨V, hV⟩ : ∃ V, V = w2.alloc (.cells #[.int .i64 t.card, .int .i64 0, .int .u8 2, .int .i64 0, .int .i64 0, .int .i64 0, .int .i64 0, .int .i64 0, .int .i64 0, .int .i64 0, .bool false] 38) := ⟨_, rfl⟩
  have HV : Hid (V = w2.alloc (.cells #[.int .i64 t.card, .int .i64 0, .int .u8 2, .int .i64 0, .int .i64 0, .int .i64 0, .int .i64 0, .int .i64 0, .int .i64 0, .int .i64 0, .bool false] 38)) := hV
  have HX : Hid (X = w2.heap.size) := hX
  have HGV : Hid (w1.grownBy V none) := by show w1.grownBy V none; rw [hV]; exact grown_push g2 _
  have HXb : Hid (V.heap[X]? = some (.cells #[.int .i64 t.card, .int .i64 0, .int .u8 2, .int .i64 0, .int .i64 0, .int .i64 0, .int .i64 0, .int .i64 0, .int .i64 0, .int .i64 0, .bool false] 38 (0, 0))) := by show V.heap[X]? = _; rw [hV, hX]; exact alloc_at _ _ _
  have x1 : V.cell? ⟨X, 1, none⟩ = some (.int .i64 0) := (block_cell HXb.out 1).trans rfl
  have s2 : V.cell? ⟨b, 3, none⟩ = some (.slice pd l.length cd) := HGV.out.cell c3 (by simp)
  have HbX : Hid (b < X ∧ g < X) := by
    show b < X ∧ g < X
    rw [hX]
    exact ⟨Nat.lt_of_lt_of_le (block_lt HZ1.out.blk) g2.size, Nat.lt_of_lt_of_le (own_lt HZ1.out.ts g rfl) g2.size⟩
  have HGV1c : Hid (w1.cell? ⟨b, 3, none⟩ = some (.slice pd l.length cd)) := c3
  clear g2 hX hV AH c0 c1 c2 c3 c4 c5 e1 e2 e3 e4 e5 e6 e7 e8 e9 e10 e11
  go_upto_region 6 with fail
  rw [← HX.out, ← HV.out]
  refine wp_region_held_drew (S := fun w' => w'.cell? ⟨X, 1, none⟩ = some (.int .i64 0)) (by kernel_rfl) (x1) (fun hHeld => ?_)
  refine wpAnyH_take (i := 0) (v := ?_) rfl (by kernel_rfl) (by kernel_rfl) (by kernel_rfl) (fun _ _ _ h => h) (Or.inl ⟨by rfl, ?_⟩) (by assumption) ?_
  rotate_left 1
  · (intro w0 hSw; go_simp; try with_reducible rfl)
  simp only [List.getElem_toArray, List.getElem_cons_zero]
  go_frame
  refine wpAnyH_take (i := 1) (v := ?_) rfl (by kernel_rfl) (by kernel_rfl) (by kernel_rfl) (fun _ _ _ h => h) (Or.inl ⟨by rfl, ?_⟩) (by assumption) ?_
  rotate_left 1
  · (intro w0 hSw; go_simp; try with_reducible rfl)
  simp only [List.getElem_toArray, List.getElem_cons_zero, List.getElem_cons_succ]
  go_frame
  refine wpAnyH_take (i := 2) (v := ?_) rfl (by kernel_rfl) (by kernel_rfl) (by kernel_rfl) (fun _ _ _ h => h) (Or.inl ⟨by rfl, ?_⟩) (by assumption) ?_
  rotate_left 1
  · (intro w0 hSw; go_simp; try with_reducible rfl)
  simp only [List.getElem_toArray, List.getElem_cons_zero, List.getElem_cons_succ]
  go_frame
  refine wpAnyH_take (i := 3) (v := ?_) rfl (by kernel_rfl) (by kernel_rfl) (by kernel_rfl) (fun _ _ _ h => h) (Or.inl ⟨by rfl, ?_⟩) (by assumption) ?_
  rotate_left 1
  · (intro w0 hSw; go_simp; try with_reducible rfl)
  simp only [List.getElem_toArray, List.getElem_cons_zero, List.getElem_cons_succ]
  go_frame
  refine wpAnyH_take (i := 4) (v := ?_) rfl (by kernel_rfl) (by kernel_rfl) (by kernel_rfl) (fun _ _ _ h => h) (Or.inl ⟨by rfl, ?_⟩) (by assumption) ?_
  rotate_left 1
  · (intro w0 hSw; go_simp; try with_reducible rfl)
  simp only [List.getElem_toArray, List.getElem_cons_zero, List.getElem_cons_succ]
  go_frame
  refine wpAnyH_take (i := 5) (v := ?_) rfl (by kernel_rfl) (by kernel_rfl) (by kernel_rfl) (fun _ _ _ h => h) (Or.inl ⟨by rfl, ?_⟩) (by assumption) ?_
  rotate_left 1
  · (intro w0 hSw; go_simp; try with_reducible rfl)
  simp only [List.getElem_toArray, List.getElem_cons_zero, List.getElem_cons_succ]
  go_frame
  refine wpAnyH_take (i := 6) (v := ?_) rfl (by kernel_rfl) (by kernel_rfl) (by kernel_rfl) (fun _ _ _ h => h) (Or.inl ⟨by rfl, ?_⟩) (by assumption) ?_
  rotate_left 1
  · (intro w0 hSw; go_simp; try with_reducible rfl)
  simp only [List.getElem_toArray, List.getElem_cons_zero, List.getElem_cons_succ]
  go_frame
  refine wpAnyH_take (i := 7) (v := ?_) rfl (by kernel_rfl) (by kernel_rfl) (by kernel_rfl) (fun _ _ _ h => h) (Or.inl ⟨by rfl, ?_⟩) (by assumption) ?_
  rotate_left 1
  · (intro w0 hSw; go_simp; try with_reducible rfl)
  simp only [List.getElem_toArray, List.getElem_cons_zero, List.getElem_cons_succ]
  go_frame
  refine wpAnyH_take (i := 8) (v := ?_) rfl (by kernel_rfl) (by kernel_rfl) (by kernel_rfl) (fun _ _ _ h => h) (Or.inl ⟨by rfl, ?_⟩) (by assumption) ?_
  rotate_left 1
  · (intro w0 hSw; go_simp; try with_reducible rfl)
  simp only [List.getElem_toArray, List.getElem_cons_zero, List.getElem_cons_succ]
  go_frame
  refine wpAnyH_take (i := 10) (v := ?_) rfl (by kernel_rfl) (by kernel_rfl) (by kernel_rfl) (fun _ _ _ h => h) (Or.inl ⟨by rfl, ?_⟩) (by assumption) ?_
  rotate_left 1
  · (intro w0 hSw; go_simp; try with_reducible rfl)
  simp only [List.getElem_toArray, List.getElem_cons_zero, List.getElem_cons_succ]
  go_frame
  refine wpAnyH_take (i := 13) (v := ?_) rfl (by kernel_rfl) (by kernel_rfl) (by kernel_rfl) (fun _ _ _ h => h) (Or.inl ⟨by rfl, ?_⟩) (by assumption) ?_
  rotate_left 1
  · (intro w0 hSw; go_simp; try with_reducible rfl)
  simp only [List.getElem_toArray, List.getElem_cons_zero, List.getElem_cons_succ]
  go_frame
  refine wpAnyH_take (i := 14) (v := ?_) rfl (by kernel_rfl) (by kernel_rfl) (by kernel_rfl) (fun _ _ _ h => h) (Or.inl ⟨by rfl, ?_⟩) (by assumption) ?_
  rotate_left 1
  · (intro w0 hSw; go_simp; try with_reducible rfl)
  simp only [List.getElem_toArray, List.getElem_cons_zero, List.getElem_cons_succ]
  go_frame
  obtain ⟨U, hU⟩ : ∃ U, U = V.drew.alloc (.cells #[.int .i64 ((k : Int) + 1)] 3) := ⟨_, rfl⟩
  have HU : Hid (U = V.drew.alloc (.cells #[.int .i64 ((k : Int) + 1)] 3)) := hU
  have HGU : Hid (w1.grownBy U none) := by show w1.grownBy U none; rw [hU]; exact grown_push (grown_trans HGV.out (grown_drew V)) _
  have HGV1 : Hid (w1.grownBy w2 none) := HG2.out
  have HXs : Hid (w2.heap.size ≤ X) := by show w2.heap.size ≤ X; rw [HX.out]; exact Nat.le_refl _
  have HXU : Hid (U.heap[X]? = some (.cells #[.int .i64 t.card, .int .i64 0, .int .u8 2, .int .i64 0, .int .i64 0, .int .i64 0, .int .i64 0, .int .i64 0, .int .i64 0, .int .i64 0, .bool false] 38 (0, 0))) := by show U.heap[X]? = _; rw [hU]; exact grown_keep (grown_push (grown_drew V) _) HXb.out (by simp)
  have u1 : U.cell? ⟨X, 1, none⟩ = some (.int .i64 0) := (block_cell HXU.out 1).trans rfl
  have u2 : U.cell? ⟨b, 3, none⟩ = some (.slice pd l.length cd) := HGU.out.cell (HGV1c.out) (by simp)
  have HSrc : Hid (Src U (.slice (some ⟨V.heap.size, 0, none⟩) 1 1) 1 1 (ints [(k : Int) + 1])) := by show Src U _ 1 1 _; rw [hU]; exact Src_one V _
  clear hU
  refine wpAnyH_ready (rs := [9, 11]) (by kernel_rfl) (by simp) ?_
  refine AllReadyH.cons rfl (fun K9 hK => ?_) (AllReadyH.cons rfl (fun K9 hK => ?_) AllReadyH.nil)
  · skip
    simp only [List.getElem_toArray, List.getElem_cons_zero, List.getElem_cons_succ]
    go_simp
    refine hK.out _ _ (x1) (fun hHeld3 => ?_)
    clear hK K9
    (try go_frame)
    refine wpAnyH_ready (rs := [11]) (by kernel_rfl) (by simp) ?_
    refine AllReadyH.cons rfl (fun K9 hK => ?_) AllReadyH.nil
    simp only [List.getElem_toArray, List.getElem_cons_zero, List.getElem_cons_succ]
    go_simp
    try rw [show (V.alloc (Obj.cells #[Value.int IntKind.i64 ((k : Int) + 1)] 3)).drew = U from HU.out.symm]
    refine hK.out _ _ (u1) (fun hHeld3 => ?_)
    clear hK K9
    (try go_frame)
    refine wpAnyH_ready (rs := [12]) (by kernel_rfl) (by simp) ?_
    refine AllReadyH.cons rfl (fun K9 hK => ?_) AllReadyH.nil
    simp only [List.getElem_toArray, List.getElem_cons_zero, List.getElem_cons_succ]
    rw [if_pos (by rfl)]
    refine wp_app (.tmp 50) (.tmp 52) 22 rfl 0 3 i1 _ 1 8 Try.underlying22 hi1 hza1 hzb1 hzc1 rfl (by decide) (.slice pd l.length cd) (l.length) (ints l) rfl (own_grow HO1.out HGU.out) (.slice (some ⟨V.heap.size, 0, none⟩) 1 1) (1) (ints [(k : Int) + 1]) rfl (HSrc.out) (ints_one _) (HLs.out.1) (HLs.out.2) (Nat.zero_le _) ?_
    intro v' w7 o7 g7 l7
    have HO7 : Hid (OwnI w7 0 v' (l ++ [(k : Int) + 1])) := own_more o7 rfl
    have HG7 : Hid (U.grownBy w7 (Value.slice pd l.length cd).ownBlock) := g7
    have HL7 : Hid (v'.ownBlock = (Value.slice pd l.length cd).ownBlock ∨ ∀ x, v'.ownBlock = some x → U.heap.size ≤ x) := by
      rcases l7 with q | q
      · exact Or.inl q
      · exact Or.inr fun x hx => by rw [q] at hx; cases hx; exact Nat.le_refl _
    have HX7 : Hid (w7.heap[X]? = some (.cells #[.int .i64 t.card, .int .i64 0, .int .u8 2, .int .i64 0, .int .i64 0, .int .i64 0, .int .i64 0, .int .i64 0, .int .i64 0, .int .i64 0, .bool false] 38 (0, 0))) := by
      refine grown_keep g7 HXU.out ?_
      intro q
      have := own_lt HO1.out X q.symm
      have := HGV1.out.size
      have := HXs.out
      omega
    have y1 : w7.cell? ⟨X, 1, none⟩ = some (.int .i64 0) := (block_cell HX7.out 1).trans rfl
    have HB7 : Hid (w7.heap[b]? = some (.cells (zc (.slice (some ⟨g, 0, none⟩) z.ts.length cap) d0 d1 (.slice pd l.length cd) h1 z.nx []) 93 (0, 0))) := by
      have := keep_blk (HZ1.out.grow HGU.out).blk (own_grow HO1.out HGU.out) (by decide) g7
      rw [HEV.out] at this
      exact this
    have t7 : w7.cell? ⟨b, 3, none⟩ = some (.slice pd l.length cd) := (block_cell HB7.out 3).trans rfl
    have f7 : w7.frozen? ⟨b, 3, none⟩ = false := block_free HB7.out 3
    obtain ⟨pv, cv, ev7, _⟩ := own_slice HO7.out
    obtain ⟨m7, hm7⟩ : ∃ m7, m7 = (l ++ [(k : Int) + 1]).length := ⟨_, rfl⟩
    rw [← hm7] at ev7
    subst ev7
    clear hm7
    clear o7 g7 l7
    refine hK.out _ _ (y1) (fun hHeld3 => ?_)
    clear hK K9
    (try go_frame)
    refine wpAnyH_take (i := 15) (v := ?_) rfl (by kernel_rfl) (by kernel_rfl) (by kernel_rfl) (fun _ _ _ h => h) (Or.inl ⟨by rfl, ?_⟩) (by assumption) ?_
    rotate_left 1
    · (intro w0 hSw; go_simp; try with_reducible rfl)
    simp only [List.getElem_toArray, List.getElem_cons_zero, List.getElem_cons_succ]
    go_frame
    refine wpAnyH_ready (rs := [16]) (by kernel_rfl) (by simp) ?_
    refine AllReadyH.cons rfl (fun K9 hK => ?_) AllReadyH.nil
    simp only [List.getElem_toArray, List.getElem_cons_zero, List.getElem_cons_succ]
    go_simp
    have y2 : (w7.setCell ⟨b, 3, none⟩ (.slice pv m7 cv)).cell? ⟨X, 1, none⟩ = some (.int .i64 0) := (grown_set w7 b 3 _).cell y1 (by intro q; have := HbX.out.1; simp at q; omega)
    refine hK.out _ _ (y2) (fun hHeld3 => ?_)
    clear hK K9
    (try go_frame)
    refine wpAnyH_done (by kernel_rfl) ?_ _
    have HZ5 : Hid (ZG 93 [] (w7.setCell ⟨b, 3, none⟩ (.slice pv m7 cv)) b ((Value.slice pv m7 cv).ownBlock.toList ++ S1) { z.left ((k : Int) + 1) with hd := fun q => if q = 0 then l ++ [(k : Int) + 1] else (z.left ((k : Int) + 1)).hd q } (.slice (some ⟨g, 0, none⟩) z.ts.length cap) d0 d1 (.slice pv m7 cv) h1) := by
      have hz := HZ1.out.grow HGU.out
      have hloc := HL7.out
      have hg7 := HG7.out
      rw [← HEV.out] at hloc hg7
      exact hz.app_h0 tgs_z hg7 HO7.out hloc
    have HX5 : Hid ((w7.setCell ⟨b, 3, none⟩ (.slice pv m7 cv)).heap[X]? = some (.cells #[.int .i64 t.card, .int .i64 0, .int .u8 2, .int .i64 0, .int .i64 0, .int .i64 0, .int .i64 0, .int .i64 0, .int .i64 0, .int .i64 0, .bool false] 38 (0, 0))) := grown_keep (grown_set w7 b 3 _) HX7.out (by intro q; have := HbX.out.1; simp at q; omega)
    have HK5 : Hid (Kpt S1 w1 (w7.setCell ⟨b, 3, none⟩ (.slice pv m7 cv))) := by
      have k1 : Kpt S1 w1 U := kpt_sub HGU.out (by simp)
      have k2 : Kpt S1 U w7 := kpt_sub HG7.out (by rw [← HEV.out]; intro x hx; exact HZ1.out.inS h0 (by simp) x hx)
      have k3 : Kpt S1 w7 (w7.setCell ⟨b, 3, none⟩ (.slice pv m7 cv)) := kpt_sub (grown_set w7 b 3 _) (by intro x hx; cases hx; exact HZ1.out.inb)
      exact kpt_then (kpt_then k1 k2) k3
    have HLc : Hid (∀ x, (Value.slice pv m7 cv).ownBlock = some x → (x ∈ S1 ∨ w1.heap.size ≤ x) ∧ x < w7.heap.size) := by
      intro x hx
      refine ⟨?_, own_lt HO7.out x hx⟩
      rcases HL7.out with q | q
      · rw [q, ← HEV.out] at hx
        exact Or.inl (HZ1.out.inS h0 (by simp) x hx)
      · exact Or.inr (Nat.le_trans HGU.out.size (q x hx))
    obtain ⟨W5, hW5⟩ : ∃ W5, W5 = w7.setCell ⟨b, 3, none⟩ (.slice pv m7 cv) := ⟨_, rfl⟩
    rw [← hW5] at HZ5 HX5 HK5
    have HW5 : Hid (W5 = w7.setCell ⟨b, 3, none⟩ (.slice pv m7 cv)) := hW5
    have s0 : W5.cell? ⟨b, 0, none⟩ = some (.slice (some ⟨g, 0, none⟩) z.ts.length cap) := HZ5.out.cell.1
    clear t7 f7 y1 y2 hW5 HB7 HO7 HG7 HL7 HX7 s2 x1
    go_upto_region 10 with fail
    rw [← HW5.out]
    refine wp_region_held_drew (S := fun w' => w'.cell? ⟨b, 0, none⟩ = some (.slice (some ⟨g, 0, none⟩) z.ts.length cap) ∧ w'.heap[X]? = some (.cells #[.int .i64 t.card, .int .i64 0, .int .u8 2, .int .i64 0, .int .i64 0, .int .i64 0, .int .i64 0, .int .i64 0, .int .i64 0, .int .i64 0, .bool false] 38 (0, 0))) (by kernel_rfl) (⟨s0, HX5.out⟩) (fun hHeld => ?_)
    refine wpAnyH_take (i := 0) (v := ?_) rfl (by kernel_rfl) (by kernel_rfl) (by kernel_rfl) (fun _ _ _ h => h) (Or.inl ⟨by rfl, ?_⟩) (by assumption) ?_
    rotate_left 1
    · (intro w0 hSw; go_simp; try with_reducible rfl)
    simp only [List.getElem_toArray, List.getElem_cons_zero]
    go_frame
    refine wpAnyH_take (i := 1) (v := ?_) rfl (by kernel_rfl) (by kernel_rfl) (by kernel_rfl) (fun _ _ _ h => h) (Or.inl ⟨by rfl, ?_⟩) (by assumption) ?_
    rotate_left 1
    · (intro w0 hSw; go_simp; try with_reducible rfl)
    simp only [List.getElem_toArray, List.getElem_cons_zero, List.getElem_cons_succ]
    go_frame
    refine wpAnyH_take (i := 2) (v := ?_) rfl (by kernel_rfl) (by kernel_rfl) (by kernel_rfl) (fun _ _ _ h => h) (Or.inl ⟨by rfl, ?_⟩) (by assumption) ?_
    rotate_left 1
    · (intro w0 hSw; go_simp; try with_reducible rfl)
    simp only [List.getElem_toArray, List.getElem_cons_zero, List.getElem_cons_succ]
    go_frame
    refine wpAnyH_take (i := 3) (v := ?_) rfl (by kernel_rfl) (by kernel_rfl) (by kernel_rfl) (fun _ _ _ h => h) (Or.inl ⟨by rfl, ?_⟩) (by assumption) ?_
    rotate_left 1
    · (intro w0 hSw; obtain ⟨q1, q2⟩ := hSw; go_simp; try with_reducible rfl)
    simp only [List.getElem_toArray, List.getElem_cons_zero, List.getElem_cons_succ]
    go_frame
    refine wpAnyH_take (i := 4) (v := ?_) rfl (by kernel_rfl) (by kernel_rfl) (by kernel_rfl) (fun _ _ _ h => h) (Or.inl ⟨by rfl, ?_⟩) (by assumption) ?_
    rotate_left 1
    · (intro w0 hSw; go_simp; try with_reducible rfl)
    simp only [List.getElem_toArray, List.getElem_cons_zero, List.getElem_cons_succ]
    go_frame
    refine wpAnyH_take (i := 5) (v := ?_) rfl (by kernel_rfl) (by kernel_rfl) (by kernel_rfl) (fun _ _ _ h => h) (Or.inl ⟨by rfl, ?_⟩) (by assumption) ?_
    rotate_left 1
    · (intro w0 hSw; go_simp; try with_reducible rfl)
    simp only [List.getElem_toArray, List.getElem_cons_zero, List.getElem_cons_succ]
    go_frame
    refine wpAnyH_take (i := 6) (v := ?_) rfl (by kernel_rfl) (by kernel_rfl) (by kernel_rfl) (fun _ _ _ h => h) (Or.inl ⟨by rfl, ?_⟩) (by assumption) ?_
    rotate_left 1
    · (intro w0 hSw; obtain ⟨q1, q2⟩ := hSw; have r0 := (block_cell q2 0).trans rfl; have r1 := (block_cell q2 1).trans rfl; have r2 := (block_cell q2 2).trans rfl; have r3 := (block_cell q2 3).trans rfl; have r4 := (block_cell q2 4).trans rfl; have r5 := (block_cell q2 5).trans rfl; have r6 := (block_cell q2 6).trans rfl; have r7 := (block_cell q2 7).trans rfl; have r8 := (block_cell q2 8).trans rfl; have r9 := (block_cell q2 9).trans rfl; have r10 := (block_cell q2 10).trans rfl; go_simp; try with_reducible rfl)
    simp only [List.getElem_toArray, List.getElem_cons_zero, List.getElem_cons_succ]
    go_frame
    refine wpAnyH_take (i := 7) (v := ?_) rfl (by kernel_rfl) (by kernel_rfl) (by kernel_rfl) (fun _ _ _ h => h) (Or.inl ⟨by rfl, ?_⟩) (by assumption) ?_
    rotate_left 1
    · (intro w0 hSw; go_simp; try with_reducible rfl)
    simp only [List.getElem_toArray, List.getElem_cons_zero, List.getElem_cons_succ]
    go_frame
    refine wpAnyH_ready (rs := [8]) (by kernel_rfl) (by simp) ?_
    refine AllReadyH.cons rfl (fun K9 hK => ?_) AllReadyH.nil
    simp only [List.getElem_toArray, List.getElem_cons_zero, List.getElem_cons_succ]
    rw [if_pos (by rfl)]
    refine wp_store_mid 38 (.tmp 79) (.tmp 78) rfl g (k * 11) (thc (⟨t.card, 0, 2, 0, 0, 0, 0, 0, 0, 0, false⟩ : Th)).toArray rfl rfl (own_thereT HZ5.out.ts rfl hlt) (by kernel_rfl) (thc_one _) ?_
    have Z6 := HZ5.out.set_th tgs_z rfl hlt (⟨t.card, 0, 2, 0, 0, 0, 0, 0, 0, 0, false⟩ : Th)
    have HZ6 : Hid (ZG 93 [] (W5.drew.setCells g (k * 11) (thc (⟨t.card, 0, 2, 0, 0, 0, 0, 0, 0, 0, false⟩ : Th))) b ((Value.slice pv m7 cv).ownBlock.toList ++ S1) _ (.slice (some ⟨g, 0, none⟩) z.ts.length cap) d0 d1 (.slice pv m7 cv) h1) := (ZG.set_th (HZ5.out.grow (grown_drew W5)) tgs_z rfl hlt (⟨t.card, 0, 2, 0, 0, 0, 0, 0, 0, 0, false⟩ : Th)).1
    have HG6 : Hid (W5.drew.grownBy (W5.drew.setCells g (k * 11) (thc (⟨t.card, 0, 2, 0, 0, 0, 0, 0, 0, 0, false⟩ : Th))) (some g)) := (ZG.set_th (HZ5.out.grow (grown_drew W5)) tgs_z rfl hlt (⟨t.card, 0, 2, 0, 0, 0, 0, 0, 0, 0, false⟩ : Th)).2
    clear Z6
    have hgX : some X ≠ some g := by have := HbX.out.2; intro q; cases q; omega
    have hbg : some b ≠ some g := zg_bg HZ5.out tgs_z
    refine hK.out _ _ (⟨HG6.out.cell s0 hbg, grown_keep HG6.out HX5.out hgX⟩) (fun hHeld3 => ?_)
    clear hK K9
    (try go_frame)
    refine wpAnyH_done (by kernel_rfl) ?_ _
    have HFin : Hid (TnPost w b Sb (z.come ((k : Int) + 1) 2) (.tuple #[]) (.returned (.tuple #[])) (W5.drew.setCells g (k * 11) (thc (⟨t.card, 0, 2, 0, 0, 0, 0, 0, 0, 0, false⟩ : Th)))) := by
      refine ⟨rfl, _, ⟨_, _, _, _, _, HZ6.out.congr ?_ ?_ ?_ ?_ ?_ ?_⟩, HT1.out.trans (turn_of (kpt_then HK5.out (kpt_then (kpt_sub (grown_drew W5) (by simp)) (kpt_sub HG6.out (fun x hx => by cases hx; exact HZ1.out.inS (.slice (some ⟨g, 0, none⟩) z.ts.length cap) (by simp) g rfl)))) HT1.out.old (fun x hx => (HLc.out x hx).1) (fun x hx => Nat.lt_of_lt_of_le (HLc.out x hx).2 ?_))⟩
      · show z.ts.set (((k : Int) + 1) - 1).toNat (if (2 : Int) = 4 then _ else (thAt z.ts ((k : Int) + 1)).home 2) = z.ts.set k _
        rw [show (((k : Int) + 1) - 1).toNat = k from by omega, if_neg (by decide), ← HTT.out]
        unfold Th.home
        rw [hto]
      · show (if (2 : Int) = 4 then z.nx + 1 else z.nx) = z.nx
        rw [if_neg (by decide)]
      · show (if (0 : Int) = (thAt z.ts ((k : Int) + 1)).owner then (z.dk 0).filter (· != ((k : Int) + 1)) ++ (if (2 : Int) = 1 then [(k : Int) + 1] else []) else z.dk 0) = (if (0 : Int) = (thAt z.ts ((k : Int) + 1)).owner then (z.dk 0).filter (· != ((k : Int) + 1)) else z.dk 0)
        rw [HHo.out, if_pos rfl, if_pos rfl, if_neg (by decide), List.append_nil]
      · show (if (1 : Int) = (thAt z.ts ((k : Int) + 1)).owner then (z.dk 1).filter (· != ((k : Int) + 1)) ++ (if (2 : Int) = 1 then [(k : Int) + 1] else []) else z.dk 1) = (if (1 : Int) = (thAt z.ts ((k : Int) + 1)).owner then (z.dk 1).filter (· != ((k : Int) + 1)) else z.dk 1)
        rw [HHo.out, if_neg (by decide), if_neg (by decide)]
      · show (if (0 : Int) = (thAt z.ts ((k : Int) + 1)).owner then (z.hd 0).filter (· != ((k : Int) + 1)) ++ (if (2 : Int) = 2 then [(k : Int) + 1] else []) else z.hd 0) = (if (0 : Int) = 0 then l ++ [(k : Int) + 1] else (if (0 : Int) = (thAt z.ts ((k : Int) + 1)).owner then (z.hd 0).filter (· != ((k : Int) + 1)) else z.hd 0))
        rw [HHo.out, if_pos rfl, if_pos rfl, if_pos rfl, HLl.out]
      · show (if (1 : Int) = (thAt z.ts ((k : Int) + 1)).owner then (z.hd 1).filter (· != ((k : Int) + 1)) ++ (if (2 : Int) = 2 then [(k : Int) + 1] else []) else z.hd 1) = (if (1 : Int) = 0 then l ++ [(k : Int) + 1] else (if (1 : Int) = (thAt z.ts ((k : Int) + 1)).owner then (z.hd 1).filter (· != ((k : Int) + 1)) else z.hd 1))
        rw [HHo.out, if_neg (by decide), if_neg (by decide), if_neg (by decide)]
      · have h8 : w7.heap.size ≤ W5.heap.size := by rw [HW5.out]; exact (grown_set w7 b 3 _).size
        have h9 := HG6.out.size
        exact Nat.le_trans h8 h9
    clear HZ6 HG6 HZ5 HX5 HK5 HLc
    (try go_wp2)
    go_end0
    exact HFin.out
  · skip
    simp only [List.getElem_toArray, List.getElem_cons_zero, List.getElem_cons_succ]
    go_simp
    try rw [show (V.alloc (Obj.cells #[Value.int IntKind.i64 ((k : Int) + 1)] 3)).drew = U from HU.out.symm]
    refine hK.out _ _ (u1) (fun hHeld3 => ?_)
    clear hK K9
    (try go_frame)
    refine wpAnyH_ready (rs := [9]) (by kernel_rfl) (by simp) ?_
    refine AllReadyH.cons rfl (fun K9 hK => ?_) AllReadyH.nil
    simp only [List.getElem_toArray, List.getElem_cons_zero, List.getElem_cons_succ]
    go_simp
    refine hK.out _ _ (u1) (fun hHeld3 => ?_)
    clear hK K9
    (try go_frame)
    refine wpAnyH_ready (rs := [12]) (by kernel_rfl) (by simp) ?_
    refine AllReadyH.cons rfl (fun K9 hK => ?_) AllReadyH.nil
    simp only [List.getElem_toArray, List.getElem_cons_zero, List.getElem_cons_succ]
    rw [if_pos (by rfl)]
    refine wp_app (.tmp 50) (.tmp 52) 22 rfl 0 3 i1 _ 1 8 Try.underlying22 hi1 hza1 hzb1 hzc1 rfl (by decide) (.slice pd l.length cd) (l.length) (ints l) rfl (own_grow HO1.out HGU.out) (.slice (some ⟨V.heap.size, 0, none⟩) 1 1) (1) (ints [(k : Int) + 1]) rfl (HSrc.out) (ints_one _) (HLs.out.1) (HLs.out.2) (Nat.zero_le _) ?_
    intro v' w7 o7 g7 l7
    have HO7 : Hid (OwnI w7 0 v' (l ++ [(k : Int) + 1])) := own_more o7 rfl
    have HG7 : Hid (U.grownBy w7 (Value.slice pd l.length cd).ownBlock) := g7
    have HL7 : Hid (v'.ownBlock = (Value.slice pd l.length cd).ownBlock ∨ ∀ x, v'.ownBlock = some x → U.heap.size ≤ x) := by
      rcases l7 with q | q
      · exact Or.inl q
      · exact Or.inr fun x hx => by rw [q] at hx; cases hx; exact Nat.le_refl _
    have HX7 : Hid (w7.heap[X]? = some (.cells #[.int .i64 t.card, .int .i64 0, .int .u8 2, .int .i64 0, .int .i64 0, .int .i64 0, .int .i64 0, .int .i64 0, .int .i64 0, .int .i64 0, .bool false] 38 (0, 0))) := by
      refine grown_keep g7 HXU.out ?_
      intro q
      have := own_lt HO1.out X q.symm
      have := HGV1.out.size
      have := HXs.out
      omega
    have y1 : w7.cell? ⟨X, 1, none⟩ = some (.int .i64 0) := (block_cell HX7.out 1).trans rfl
    have HB7 : Hid (w7.heap[b]? = some (.cells (zc (.slice (some ⟨g, 0, none⟩) z.ts.length cap) d0 d1 (.slice pd l.length cd) h1 z.nx []) 93 (0, 0))) := by
      have := keep_blk (HZ1.out.grow HGU.out).blk (own_grow HO1.out HGU.out) (by decide) g7
      rw [HEV.out] at this
      exact this
    have t7 : w7.cell? ⟨b, 3, none⟩ = some (.slice pd l.length cd) := (block_cell HB7.out 3).trans rfl
    have f7 : w7.frozen? ⟨b, 3, none⟩ = false := block_free HB7.out 3
    obtain ⟨pv, cv, ev7, _⟩ := own_slice HO7.out
    obtain ⟨m7, hm7⟩ : ∃ m7, m7 = (l ++ [(k : Int) + 1]).length := ⟨_, rfl⟩
    rw [← hm7] at ev7
    subst ev7
    clear hm7
    clear o7 g7 l7
    refine hK.out _ _ (y1) (fun hHeld3 => ?_)
    clear hK K9
    (try go_frame)
    refine wpAnyH_take (i := 15) (v := ?_) rfl (by kernel_rfl) (by kernel_rfl) (by kernel_rfl) (fun _ _ _ h => h) (Or.inl ⟨by rfl, ?_⟩) (by assumption) ?_
    rotate_left 1
    · (intro w0 hSw; go_simp; try with_reducible rfl)
    simp only [List.getElem_toArray, List.getElem_cons_zero, List.getElem_cons_succ]
    go_frame
    refine wpAnyH_ready (rs := [16]) (by kernel_rfl) (by simp) ?_
    refine AllReadyH.cons rfl (fun K9 hK => ?_) AllReadyH.nil
    simp only [List.getElem_toArray, List.getElem_cons_zero, List.getElem_cons_succ]
    go_simp
    have y2 : (w7.setCell ⟨b, 3, none⟩ (.slice pv m7 cv)).cell? ⟨X, 1, none⟩ = some (.int .i64 0) := (grown_set w7 b 3 _).cell y1 (by intro q; have := HbX.out.1; simp at q; omega)
    refine hK.out _ _ (y2) (fun hHeld3 => ?_)
    clear hK K9
    (try go_frame)
    refine wpAnyH_done (by kernel_rfl) ?_ _
    have HZ5 : Hid (ZG 93 [] (w7.setCell ⟨b, 3, none⟩ (.slice pv m7 cv)) b ((Value.slice pv m7 cv).ownBlock.toList ++ S1) { z.left ((k : Int) + 1) with hd := fun q => if q = 0 then l ++ [(k : Int) + 1] else (z.left ((k : Int) + 1)).hd q } (.slice (some ⟨g, 0, none⟩) z.ts.length cap) d0 d1 (.slice pv m7 cv) h1) := by
      have hz := HZ1.out.grow HGU.out
      have hloc := HL7.out
      have hg7 := HG7.out
      rw [← HEV.out] at hloc hg7
      exact hz.app_h0 tgs_z hg7 HO7.out hloc
    have HX5 : Hid ((w7.setCell ⟨b, 3, none⟩ (.slice pv m7 cv)).heap[X]? = some (.cells #[.int .i64 t.card, .int .i64 0, .int .u8 2, .int .i64 0, .int .i64 0, .int .i64 0, .int .i64 0, .int .i64 0, .int .i64 0, .int .i64 0, .bool false] 38 (0, 0))) := grown_keep (grown_set w7 b 3 _) HX7.out (by intro q; have := HbX.out.1; simp at q; omega)
    have HK5 : Hid (Kpt S1 w1 (w7.setCell ⟨b, 3, none⟩ (.slice pv m7 cv))) := by
      have k1 : Kpt S1 w1 U := kpt_sub HGU.out (by simp)
      have k2 : Kpt S1 U w7 := kpt_sub HG7.out (by rw [← HEV.out]; intro x hx; exact HZ1.out.inS h0 (by simp) x hx)
      have k3 : Kpt S1 w7 (w7.setCell ⟨b, 3, none⟩ (.slice pv m7 cv)) := kpt_sub (grown_set w7 b 3 _) (by intro x hx; cases hx; exact HZ1.out.inb)
      exact kpt_then (kpt_then k1 k2) k3
    have HLc : Hid (∀ x, (Value.slice pv m7 cv).ownBlock = some x → (x ∈ S1 ∨ w1.heap.size ≤ x) ∧ x < w7.heap.size) := by
      intro x hx
      refine ⟨?_, own_lt HO7.out x hx⟩
      rcases HL7.out with q | q
      · rw [q, ← HEV.out] at hx
        exact Or.inl (HZ1.out.inS h0 (by simp) x hx)
      · exact Or.inr (Nat.le_trans HGU.out.size (q x hx))
    obtain ⟨W5, hW5⟩ : ∃ W5, W5 = w7.setCell ⟨b, 3, none⟩ (.slice pv m7 cv) := ⟨_, rfl⟩
    rw [← hW5] at HZ5 HX5 HK5
    have HW5 : Hid (W5 = w7.setCell ⟨b, 3, none⟩ (.slice pv m7 cv)) := hW5
    have s0 : W5.cell? ⟨b, 0, none⟩ = some (.slice (some ⟨g, 0, none⟩) z.ts.length cap) := HZ5.out.cell.1
    clear t7 f7 y1 y2 hW5 HB7 HO7 HG7 HL7 HX7 s2 x1
    go_upto_region 10 with fail
    rw [← HW5.out]
    refine wp_region_held_drew (S := fun w' => w'.cell? ⟨b, 0, none⟩ = some (.slice (some ⟨g, 0, none⟩) z.ts.length cap) ∧ w'.heap[X]? = some (.cells #[.int .i64 t.card, .int .i64 0, .int .u8 2, .int .i64 0, .int .i64 0, .int .i64 0, .int .i64 0, .int .i64 0, .int .i64 0, .int .i64 0, .bool false] 38 (0, 0))) (by kernel_rfl) (⟨s0, HX5.out⟩) (fun hHeld => ?_)
    refine wpAnyH_take (i := 0) (v := ?_) rfl (by kernel_rfl) (by kernel_rfl) (by kernel_rfl) (fun _ _ _ h => h) (Or.inl ⟨by rfl, ?_⟩) (by assumption) ?_
    rotate_left 1
    · (intro w0 hSw; go_simp; try with_reducible rfl)
    simp only [List.getElem_toArray, List.getElem_cons_zero]
    go_frame
    refine wpAnyH_take (i := 1) (v := ?_) rfl (by kernel_rfl) (by kernel_rfl) (by kernel_rfl) (fun _ _ _ h => h) (Or.inl ⟨by rfl, ?_⟩) (by assumption) ?_
    rotate_left 1
    · (intro w0 hSw; go_simp; try with_reducible rfl)
    simp only [List.getElem_toArray, List.getElem_cons_zero, List.getElem_cons_succ]
    go_frame
    refine wpAnyH_take (i := 2) (v := ?_) rfl (by kernel_rfl) (by kernel_rfl) (by kernel_rfl) (fun _ _ _ h => h) (Or.inl ⟨by rfl, ?_⟩) (by assumption) ?_
    rotate_left 1
    · (intro w0 hSw; go_simp; try with_reducible rfl)
    simp only [List.getElem_toArray, List.getElem_cons_zero, List.getElem_cons_succ]
    go_frame
    refine wpAnyH_take (i := 3) (v := ?_) rfl (by kernel_rfl) (by kernel_rfl) (by kernel_rfl) (fun _ _ _ h => h) (Or.inl ⟨by rfl, ?_⟩) (by assumption) ?_
    rotate_left 1
    · (intro w0 hSw; obtain ⟨q1, q2⟩ := hSw; go_simp; try with_reducible rfl)
    simp only [List.getElem_toArray, List.getElem_cons_zero, List.getElem_cons_succ]
    go_frame
    refine wpAnyH_take (i := 4) (v := ?_) rfl (by kernel_rfl) (by kernel_rfl) (by kernel_rfl) (fun _ _ _ h => h) (Or.inl ⟨by rfl, ?_⟩) (by assumption) ?_
    rotate_left 1
    · (intro w0 hSw; go_simp; try with_reducible rfl)
    simp only [List.getElem_toArray, List.getElem_cons_zero, List.getElem_cons_succ]
    go_frame
    refine wpAnyH_take (i := 5) (v := ?_) rfl (by kernel_rfl) (by kernel_rfl) (by kernel_rfl) (fun _ _ _ h => h) (Or.inl ⟨by rfl, ?_⟩) (by assumption) ?_
    rotate_left 1
    · (intro w0 hSw; go_simp; try with_reducible rfl)
    simp only [List.getElem_toArray, List.getElem_cons_zero, List.getElem_cons_succ]
    go_frame
    refine wpAnyH_take (i := 6) (v := ?_) rfl (by kernel_rfl) (by kernel_rfl) (by kernel_rfl) (fun _ _ _ h => h) (Or.inl ⟨by rfl, ?_⟩) (by assumption) ?_
    rotate_left 1
    · (intro w0 hSw; obtain ⟨q1, q2⟩ := hSw; have r0 := (block_cell q2 0).trans rfl; have r1 := (block_cell q2 1).trans rfl; have r2 := (block_cell q2 2).trans rfl; have r3 := (block_cell q2 3).trans rfl; have r4 := (block_cell q2 4).trans rfl; have r5 := (block_cell q2 5).trans rfl; have r6 := (block_cell q2 6).trans rfl; have r7 := (block_cell q2 7).trans rfl; have r8 := (block_cell q2 8).trans rfl; have r9 := (block_cell q2 9).trans rfl; have r10 := (block_cell q2 10).trans rfl; go_simp; try with_reducible rfl)
    simp only [List.getElem_toArray, List.getElem_cons_zero, List.getElem_cons_succ]
    go_frame
    refine wpAnyH_take (i := 7) (v := ?_) rfl (by kernel_rfl) (by kernel_rfl) (by kernel_rfl) (fun _ _ _ h => h) (Or.inl ⟨by rfl, ?_⟩) (by assumption) ?_
    rotate_left 1
    · (intro w0 hSw; go_simp; try with_reducible rfl)
    simp only [List.getElem_toArray, List.getElem_cons_zero, List.getElem_cons_succ]
    go_frame
    refine wpAnyH_ready (rs := [8]) (by kernel_rfl) (by simp) ?_
    refine AllReadyH.cons rfl (fun K9 hK => ?_) AllReadyH.nil
    simp only [List.getElem_toArray, List.getElem_cons_zero, List.getElem_cons_succ]
    rw [if_pos (by rfl)]
    refine wp_store_mid 38 (.tmp 79) (.tmp 78) rfl g (k * 11) (thc (⟨t.card, 0, 2, 0, 0, 0, 0, 0, 0, 0, false⟩ : Th)).toArray rfl rfl (own_thereT HZ5.out.ts rfl hlt) (by kernel_rfl) (thc_one _) ?_
    have Z6 := HZ5.out.set_th tgs_z rfl hlt (⟨t.card, 0, 2, 0, 0, 0, 0, 0, 0, 0, false⟩ : Th)
    have HZ6 : Hid (ZG 93 [] (W5.drew.setCells g (k * 11) (thc (⟨t.card, 0, 2, 0, 0, 0, 0, 0, 0, 0, false⟩ : Th))) b ((Value.slice pv m7 cv).ownBlock.toList ++ S1) _ (.slice (some ⟨g, 0, none⟩) z.ts.length cap) d0 d1 (.slice pv m7 cv) h1) := (ZG.set_th (HZ5.out.grow (grown_drew W5)) tgs_z rfl hlt (⟨t.card, 0, 2, 0, 0, 0, 0, 0, 0, 0, false⟩ : Th)).1
    have HG6 : Hid (W5.drew.grownBy (W5.drew.setCells g (k * 11) (thc (⟨t.card, 0, 2, 0, 0, 0, 0, 0, 0, 0, false⟩ : Th))) (some g)) := (ZG.set_th (HZ5.out.grow (grown_drew W5)) tgs_z rfl hlt (⟨t.card, 0, 2, 0, 0, 0, 0, 0, 0, 0, false⟩ : Th)).2
    clear Z6
    have hgX : some X ≠ some g := by have := HbX.out.2; intro q; cases q; omega
    have hbg : some b ≠ some g := zg_bg HZ5.out tgs_z
    refine hK.out _ _ (⟨HG6.out.cell s0 hbg, grown_keep HG6.out HX5.out hgX⟩) (fun hHeld3 => ?_)
    clear hK K9
    (try go_frame)
    refine wpAnyH_done (by kernel_rfl) ?_ _
    have HFin : Hid (TnPost w b Sb (z.come ((k : Int) + 1) 2) (.tuple #[]) (.returned (.tuple #[])) (W5.drew.setCells g (k * 11) (thc (⟨t.card, 0, 2, 0, 0, 0, 0, 0, 0, 0, false⟩ : Th)))) := by
      refine ⟨rfl, _, ⟨_, _, _, _, _, HZ6.out.congr ?_ ?_ ?_ ?_ ?_ ?_⟩, HT1.out.trans (turn_of (kpt_then HK5.out (kpt_then (kpt_sub (grown_drew W5) (by simp)) (kpt_sub HG6.out (fun x hx => by cases hx; exact HZ1.out.inS (.slice (some ⟨g, 0, none⟩) z.ts.length cap) (by simp) g rfl)))) HT1.out.old (fun x hx => (HLc.out x hx).1) (fun x hx => Nat.lt_of_lt_of_le (HLc.out x hx).2 ?_))⟩
      · show z.ts.set (((k : Int) + 1) - 1).toNat (if (2 : Int) = 4 then _ else (thAt z.ts ((k : Int) + 1)).home 2) = z.ts.set k _
        rw [show (((k : Int) + 1) - 1).toNat = k from by omega, if_neg (by decide), ← HTT.out]
        unfold Th.home
        rw [hto]
      · show (if (2 : Int) = 4 then z.nx + 1 else z.nx) = z.nx
        rw [if_neg (by decide)]
      · show (if (0 : Int) = (thAt z.ts ((k : Int) + 1)).owner then (z.dk 0).filter (· != ((k : Int) + 1)) ++ (if (2 : Int) = 1 then [(k : Int) + 1] else []) else z.dk 0) = (if (0 : Int) = (thAt z.ts ((k : Int) + 1)).owner then (z.dk 0).filter (· != ((k : Int) + 1)) else z.dk 0)
        rw [HHo.out, if_pos rfl, if_pos rfl, if_neg (by decide), List.append_nil]
      · show (if (1 : Int) = (thAt z.ts ((k : Int) + 1)).owner then (z.dk 1).filter (· != ((k : Int) + 1)) ++ (if (2 : Int) = 1 then [(k : Int) + 1] else []) else z.dk 1) = (if (1 : Int) = (thAt z.ts ((k : Int) + 1)).owner then (z.dk 1).filter (· != ((k : Int) + 1)) else z.dk 1)
        rw [HHo.out, if_neg (by decide), if_neg (by decide)]
      · show (if (0 : Int) = (thAt z.ts ((k : Int) + 1)).owner then (z.hd 0).filter (· != ((k : Int) + 1)) ++ (if (2 : Int) = 2 then [(k : Int) + 1] else []) else z.hd 0) = (if (0 : Int) = 0 then l ++ [(k : Int) + 1] else (if (0 : Int) = (thAt z.ts ((k : Int) + 1)).owner then (z.hd 0).filter (· != ((k : Int) + 1)) else z.hd 0))
        rw [HHo.out, if_pos rfl, if_pos rfl, if_pos rfl, HLl.out]
      · show (if (1 : Int) = (thAt z.ts ((k : Int) + 1)).owner then (z.hd 1).filter (· != ((k : Int) + 1)) ++ (if (2 : Int) = 2 then [(k : Int) + 1] else []) else z.hd 1) = (if (1 : Int) = 0 then l ++ [(k : Int) + 1] else (if (1 : Int) = (thAt z.ts ((k : Int) + 1)).owner then (z.hd 1).filter (· != ((k : Int) + 1)) else z.hd 1))
        rw [HHo.out, if_neg (by decide), if_neg (by decide), if_neg (by decide)]
      · have h8 : w7.heap.size ≤ W5.heap.size := by rw [HW5.out]; exact (grown_set w7 b 3 _).size
        have h9 := HG6.out.size
        exact Nat.le_trans h8 h9
    clear HZ6 HG6 HZ5 HX5 HK5 HLc
    (try go_wp2)
    go_end0
    exact HFin.out
set_option maxRecDepth 100000 in
set_option maxHeartbeats 4000000 in
theorem come_hd1 (b : Nat) (Sb : List Nat) (z : Zs) (n : Int) (w : World) (Z : ZAt w b Sb z) (F : z.Fine n) (hS : Old w Sb) (hf : z.ts.length ≤ 2048) (hd : ∀ p, p = 0 ∨ p = 1 → (z.dk p).length ≤ 2048) (hh : ∀ p, p = 0 ∨ p = 1 → (z.hd p).length ≤ 2048) (ho : (thAt z.ts n).owner = 1) : Calls Try.prog 65 #[.pointer (some ⟨b, 0, none⟩), .int .i64 n, .int .u8 2] w (TnPost w b Sb (z.come n 2) (.tuple #[])) := by
  obtain ⟨i1, hi1, hza1, hzb1, hzc1⟩ := info_parts Try.info3i'
  have HC := leave_any b Sb z n w Z F hS hf hd hh
  have hn := F.at_
  have hown := F.own
  obtain ⟨k, hk⟩ : ∃ k : Nat, n = (k : Int) + 1 := ⟨(n - 1).toNat, by unfold there at hn; omega⟩
  subst hk
  have hlt : k < z.ts.length := by unfold there at hn; omega
  obtain ⟨t, ht⟩ : ∃ t, t = thAt z.ts ((k : Int) + 1) := ⟨_, rfl⟩
  have HTT : Hid (t = thAt z.ts ((k : Int) + 1)) := ht
  have hw1 : wrap64 (k : Int) = (k : Int) := by unfold wrap64; omega
  have hw9 : IntKind.i64.wrap (k : Int) = (k : Int) := IntWalk.i64_in _ (by omega)
  have hlt' : (k : Int) < z.ts.length := by omega
  have HF : Hid (z.Fine ((k : Int) + 1)) := F
  have HSo : Hid (Old w Sb) := hS
  have Hdl : Hid (∀ p, p = 0 ∨ p = 1 → (z.dk p).length ≤ 2048) := hd
  have Hhl : Hid (∀ p, p = 0 ∨ p = 1 → (z.hd p).length ≤ 2048) := hh
  have hto : t.owner = 1 := by rw [ht]; exact ho
  have HHo : Hid ((thAt z.ts ((k : Int) + 1)).owner = 1) := ho
  clear F hS hd hh hn hown ht ho
  go_enter Try.func65, Try.ntmps65
  go_wp2_with fail
  refine HC.mono ?_
  rintro e w1 ⟨rfl, S1, ⟨vt, d0, d1, h0, h1, Z1⟩, T1⟩
  obtain ⟨g, cap, rfl, R1⟩ := zg_at Z1 (k := k) (by rw [left_ts]; exact hlt)
  rw [left_ts, ← HTT.out] at R1
  obtain ⟨e1, e2, e3, e4, e5, e6, e7, e8, e9, e10, e11⟩ := range_cells R1
  obtain ⟨c0, c1, c2, c3, c4, c5⟩ := Z1.cell
  rw [left_ts] at c0
  rw [left_nx] at c5
  have AH := atHome_any t 2 w1
  unfold thv at AH
  have HZ1 : Hid (ZG 93 [] w1 b S1 (z.left ((k : Int) + 1)) (.slice (some ⟨g, 0, none⟩) z.ts.length cap) d0 d1 h0 h1) := Z1
  have HT1 : Hid (Turn w w1 Sb S1) := T1
  clear Z1 T1 R1 HC
  rw [hto] at e2 AH
  have eL : (z.left ((k : Int) + 1)).hd 1 = ((z.hd 1).filter (· != ((k : Int) + 1))) := by
    show (if (1 : Int) = (thAt z.ts ((k : Int) + 1)).owner then _ else _) = _
    rw [HHo.out, if_pos rfl]
  obtain ⟨l, hl⟩ : ∃ l, l = ((z.hd 1).filter (· != ((k : Int) + 1))) := ⟨_, rfl⟩
  have HLl : Hid (l = ((z.hd 1).filter (· != ((k : Int) + 1)))) := hl
  rw [← hl] at eL
  have O1 := HZ1.out.oh1
  rw [eL] at O1
  have hln : l.length ≤ 2048 := by rw [hl]; exact Nat.le_trans (filter_len _ _) (Hhl.out 1 (by decide))
  obtain ⟨pd, cd, ev, _⟩ := own_slice O1
  have HEV : Hid (h1 = .slice pd l.length cd) := ev
  have HO1 : Hid (OwnI w1 0 (.slice pd l.length cd) l) := by rw [← ev]; exact O1
  have HEL : Hid ((z.left ((k : Int) + 1)).hd 1 = l) := eL
  rw [ev] at c4
  have HLs : Hid (l.length + 1 ≤ maxLen ∧ (l.length + 1) * 8 ≤ 140737488355328) := by show _ ∧ _; unfold maxLen; omega
  clear O1 ev eL hl hln
  go_wp2_with fail
  refine AH.mono ?_
  rintro e w2 ⟨rfl, g2⟩
  have HG2 : Hid (w1.grownBy w2 none) := g2
  obtain ⟨X, hX⟩ : ∃ X, X = w2.heap.size := ⟨_, rfl⟩
  obtain ⟨V, hV⟩ : ∃ V, V = w2.alloc (.cells #[.int .i64 t.card, .int .i64 1, .int .u8 2, .int .i64 0, .int .i64 0, .int .i64 0, .int .i64 0, .int .i64 0, .int .i64 0, .int .i64 0, .bool false] 38) := ⟨_, rfl⟩
  have HV : Hid (V = w2.alloc (.cells #[.int .i64 t.card, .int .i64 1, .int .u8 2, .int .i64 0, .int .i64 0, .int .i64 0, .int .i64 0, .int .i64 0, .int .i64 0, .int .i64 0, .bool false] 38)) := hV
  have HX : Hid (X = w2.heap.size) := hX
  have HGV : Hid (w1.grownBy V none) := by show w1.grownBy V none; rw [hV]; exact grown_push g2 _
  have HXb : Hid (V.heap[X]? = some (.cells #[.int .i64 t.card, .int .i64 1, .int .u8 2, .int .i64 0, .int .i64 0, .int .i64 0, .int .i64 0, .int .i64 0, .int .i64 0, .int .i64 0, .bool false] 38 (0, 0))) := by show V.heap[X]? = _; rw [hV, hX]; exact alloc_at _ _ _
  have x1 : V.cell? ⟨X, 1, none⟩ = some (.int .i64 1) := (block_cell HXb.out 1).trans rfl
  have s2 : V.cell? ⟨b, 4, none⟩ = some (.slice pd l.length cd) := HGV.out.cell c4 (by simp)
  have HbX : Hid (b < X ∧ g < X) := by
    show b < X ∧ g < X
    rw [hX]
    exact ⟨Nat.lt_of_lt_of_le (block_lt HZ1.out.blk) g2.size, Nat.lt_of_lt_of_le (own_lt HZ1.out.ts g rfl) g2.size⟩
  have HGV1c : Hid (w1.cell? ⟨b, 4, none⟩ = some (.slice pd l.length cd)) := c4
  clear g2 hX hV AH c0 c1 c2 c3 c4 c5 e1 e2 e3 e4 e5 e6 e7 e8 e9 e10 e11
  go_upto_region 6 with fail
  rw [← HX.out, ← HV.out]
  refine wp_region_held_drew (S := fun w' => w'.cell? ⟨X, 1, none⟩ = some (.int .i64 1)) (by kernel_rfl) (x1) (fun hHeld => ?_)
  refine wpAnyH_take (i := 0) (v := ?_) rfl (by kernel_rfl) (by kernel_rfl) (by kernel_rfl) (fun _ _ _ h => h) (Or.inl ⟨by rfl, ?_⟩) (by assumption) ?_
  rotate_left 1
  · (intro w0 hSw; go_simp; try with_reducible rfl)
  simp only [List.getElem_toArray, List.getElem_cons_zero]
  go_frame
  refine wpAnyH_take (i := 1) (v := ?_) rfl (by kernel_rfl) (by kernel_rfl) (by kernel_rfl) (fun _ _ _ h => h) (Or.inl ⟨by rfl, ?_⟩) (by assumption) ?_
  rotate_left 1
  · (intro w0 hSw; go_simp; try with_reducible rfl)
  simp only [List.getElem_toArray, List.getElem_cons_zero, List.getElem_cons_succ]
  go_frame
  refine wpAnyH_take (i := 2) (v := ?_) rfl (by kernel_rfl) (by kernel_rfl) (by kernel_rfl) (fun _ _ _ h => h) (Or.inl ⟨by rfl, ?_⟩) (by assumption) ?_
  rotate_left 1
  · (intro w0 hSw; go_simp; try with_reducible rfl)
  simp only [List.getElem_toArray, List.getElem_cons_zero, List.getElem_cons_succ]
  go_frame
  refine wpAnyH_take (i := 3) (v := ?_) rfl (by kernel_rfl) (by kernel_rfl) (by kernel_rfl) (fun _ _ _ h => h) (Or.inl ⟨by rfl, ?_⟩) (by assumption) ?_
  rotate_left 1
  · (intro w0 hSw; go_simp; try with_reducible rfl)
  simp only [List.getElem_toArray, List.getElem_cons_zero, List.getElem_cons_succ]
  go_frame
  refine wpAnyH_take (i := 4) (v := ?_) rfl (by kernel_rfl) (by kernel_rfl) (by kernel_rfl) (fun _ _ _ h => h) (Or.inl ⟨by rfl, ?_⟩) (by assumption) ?_
  rotate_left 1
  · (intro w0 hSw; go_simp; try with_reducible rfl)
  simp only [List.getElem_toArray, List.getElem_cons_zero, List.getElem_cons_succ]
  go_frame
  refine wpAnyH_take (i := 5) (v := ?_) rfl (by kernel_rfl) (by kernel_rfl) (by kernel_rfl) (fun _ _ _ h => h) (Or.inl ⟨by rfl, ?_⟩) (by assumption) ?_
  rotate_left 1
  · (intro w0 hSw; go_simp; try with_reducible rfl)
  simp only [List.getElem_toArray, List.getElem_cons_zero, List.getElem_cons_succ]
  go_frame
  refine wpAnyH_take (i := 6) (v := ?_) rfl (by kernel_rfl) (by kernel_rfl) (by kernel_rfl) (fun _ _ _ h => h) (Or.inl ⟨by rfl, ?_⟩) (by assumption) ?_
  rotate_left 1
  · (intro w0 hSw; go_simp; try with_reducible rfl)
  simp only [List.getElem_toArray, List.getElem_cons_zero, List.getElem_cons_succ]
  go_frame
  refine wpAnyH_take (i := 7) (v := ?_) rfl (by kernel_rfl) (by kernel_rfl) (by kernel_rfl) (fun _ _ _ h => h) (Or.inl ⟨by rfl, ?_⟩) (by assumption) ?_
  rotate_left 1
  · (intro w0 hSw; go_simp; try with_reducible rfl)
  simp only [List.getElem_toArray, List.getElem_cons_zero, List.getElem_cons_succ]
  go_frame
  refine wpAnyH_take (i := 8) (v := ?_) rfl (by kernel_rfl) (by kernel_rfl) (by kernel_rfl) (fun _ _ _ h => h) (Or.inl ⟨by rfl, ?_⟩) (by assumption) ?_
  rotate_left 1
  · (intro w0 hSw; go_simp; try with_reducible rfl)
  simp only [List.getElem_toArray, List.getElem_cons_zero, List.getElem_cons_succ]
  go_frame
  refine wpAnyH_take (i := 10) (v := ?_) rfl (by kernel_rfl) (by kernel_rfl) (by kernel_rfl) (fun _ _ _ h => h) (Or.inl ⟨by rfl, ?_⟩) (by assumption) ?_
  rotate_left 1
  · (intro w0 hSw; go_simp; try with_reducible rfl)
  simp only [List.getElem_toArray, List.getElem_cons_zero, List.getElem_cons_succ]
  go_frame
  refine wpAnyH_take (i := 13) (v := ?_) rfl (by kernel_rfl) (by kernel_rfl) (by kernel_rfl) (fun _ _ _ h => h) (Or.inl ⟨by rfl, ?_⟩) (by assumption) ?_
  rotate_left 1
  · (intro w0 hSw; go_simp; try with_reducible rfl)
  simp only [List.getElem_toArray, List.getElem_cons_zero, List.getElem_cons_succ]
  go_frame
  refine wpAnyH_take (i := 14) (v := ?_) rfl (by kernel_rfl) (by kernel_rfl) (by kernel_rfl) (fun _ _ _ h => h) (Or.inl ⟨by rfl, ?_⟩) (by assumption) ?_
  rotate_left 1
  · (intro w0 hSw; go_simp; try with_reducible rfl)
  simp only [List.getElem_toArray, List.getElem_cons_zero, List.getElem_cons_succ]
  go_frame
  obtain ⟨U, hU⟩ : ∃ U, U = V.drew.alloc (.cells #[.int .i64 ((k : Int) + 1)] 3) := ⟨_, rfl⟩
  have HU : Hid (U = V.drew.alloc (.cells #[.int .i64 ((k : Int) + 1)] 3)) := hU
  have HGU : Hid (w1.grownBy U none) := by show w1.grownBy U none; rw [hU]; exact grown_push (grown_trans HGV.out (grown_drew V)) _
  have HGV1 : Hid (w1.grownBy w2 none) := HG2.out
  have HXs : Hid (w2.heap.size ≤ X) := by show w2.heap.size ≤ X; rw [HX.out]; exact Nat.le_refl _
  have HXU : Hid (U.heap[X]? = some (.cells #[.int .i64 t.card, .int .i64 1, .int .u8 2, .int .i64 0, .int .i64 0, .int .i64 0, .int .i64 0, .int .i64 0, .int .i64 0, .int .i64 0, .bool false] 38 (0, 0))) := by show U.heap[X]? = _; rw [hU]; exact grown_keep (grown_push (grown_drew V) _) HXb.out (by simp)
  have u1 : U.cell? ⟨X, 1, none⟩ = some (.int .i64 1) := (block_cell HXU.out 1).trans rfl
  have u2 : U.cell? ⟨b, 4, none⟩ = some (.slice pd l.length cd) := HGU.out.cell (HGV1c.out) (by simp)
  have HSrc : Hid (Src U (.slice (some ⟨V.heap.size, 0, none⟩) 1 1) 1 1 (ints [(k : Int) + 1])) := by show Src U _ 1 1 _; rw [hU]; exact Src_one V _
  clear hU
  refine wpAnyH_ready (rs := [9, 11]) (by kernel_rfl) (by simp) ?_
  refine AllReadyH.cons rfl (fun K9 hK => ?_) (AllReadyH.cons rfl (fun K9 hK => ?_) AllReadyH.nil)
  · skip
    simp only [List.getElem_toArray, List.getElem_cons_zero, List.getElem_cons_succ]
    go_simp
    refine hK.out _ _ (x1) (fun hHeld3 => ?_)
    clear hK K9
    (try go_frame)
    refine wpAnyH_ready (rs := [11]) (by kernel_rfl) (by simp) ?_
    refine AllReadyH.cons rfl (fun K9 hK => ?_) AllReadyH.nil
    simp only [List.getElem_toArray, List.getElem_cons_zero, List.getElem_cons_succ]
    go_simp
    try rw [show (V.alloc (Obj.cells #[Value.int IntKind.i64 ((k : Int) + 1)] 3)).drew = U from HU.out.symm]
    refine hK.out _ _ (u1) (fun hHeld3 => ?_)
    clear hK K9
    (try go_frame)
    refine wpAnyH_ready (rs := [12]) (by kernel_rfl) (by simp) ?_
    refine AllReadyH.cons rfl (fun K9 hK => ?_) AllReadyH.nil
    simp only [List.getElem_toArray, List.getElem_cons_zero, List.getElem_cons_succ]
    rw [if_pos (by rfl)]
    refine wp_app (.tmp 50) (.tmp 52) 22 rfl 0 3 i1 _ 1 8 Try.underlying22 hi1 hza1 hzb1 hzc1 rfl (by decide) (.slice pd l.length cd) (l.length) (ints l) rfl (own_grow HO1.out HGU.out) (.slice (some ⟨V.heap.size, 0, none⟩) 1 1) (1) (ints [(k : Int) + 1]) rfl (HSrc.out) (ints_one _) (HLs.out.1) (HLs.out.2) (Nat.zero_le _) ?_
    intro v' w7 o7 g7 l7
    have HO7 : Hid (OwnI w7 0 v' (l ++ [(k : Int) + 1])) := own_more o7 rfl
    have HG7 : Hid (U.grownBy w7 (Value.slice pd l.length cd).ownBlock) := g7
    have HL7 : Hid (v'.ownBlock = (Value.slice pd l.length cd).ownBlock ∨ ∀ x, v'.ownBlock = some x → U.heap.size ≤ x) := by
      rcases l7 with q | q
      · exact Or.inl q
      · exact Or.inr fun x hx => by rw [q] at hx; cases hx; exact Nat.le_refl _
    have HX7 : Hid (w7.heap[X]? = some (.cells #[.int .i64 t.card, .int .i64 1, .int .u8 2, .int .i64 0, .int .i64 0, .int .i64 0, .int .i64 0, .int .i64 0, .int .i64 0, .int .i64 0, .bool false] 38 (0, 0))) := by
      refine grown_keep g7 HXU.out ?_
      intro q
      have := own_lt HO1.out X q.symm
      have := HGV1.out.size
      have := HXs.out
      omega
    have y1 : w7.cell? ⟨X, 1, none⟩ = some (.int .i64 1) := (block_cell HX7.out 1).trans rfl
    have HB7 : Hid (w7.heap[b]? = some (.cells (zc (.slice (some ⟨g, 0, none⟩) z.ts.length cap) d0 d1 h0 (.slice pd l.length cd) z.nx []) 93 (0, 0))) := by
      have := keep_blk (HZ1.out.grow HGU.out).blk (own_grow HO1.out HGU.out) (by decide) g7
      rw [HEV.out] at this
      exact this
    have t7 : w7.cell? ⟨b, 4, none⟩ = some (.slice pd l.length cd) := (block_cell HB7.out 4).trans rfl
    have f7 : w7.frozen? ⟨b, 4, none⟩ = false := block_free HB7.out 4
    obtain ⟨pv, cv, ev7, _⟩ := own_slice HO7.out
    obtain ⟨m7, hm7⟩ : ∃ m7, m7 = (l ++ [(k : Int) + 1]).length := ⟨_, rfl⟩
    rw [← hm7] at ev7
    subst ev7
    clear hm7
    clear o7 g7 l7
    refine hK.out _ _ (y1) (fun hHeld3 => ?_)
    clear hK K9
    (try go_frame)
    refine wpAnyH_take (i := 15) (v := ?_) rfl (by kernel_rfl) (by kernel_rfl) (by kernel_rfl) (fun _ _ _ h => h) (Or.inl ⟨by rfl, ?_⟩) (by assumption) ?_
    rotate_left 1
    · (intro w0 hSw; go_simp; try with_reducible rfl)
    simp only [List.getElem_toArray, List.getElem_cons_zero, List.getElem_cons_succ]
    go_frame
    refine wpAnyH_ready (rs := [16]) (by kernel_rfl) (by simp) ?_
    refine AllReadyH.cons rfl (fun K9 hK => ?_) AllReadyH.nil
    simp only [List.getElem_toArray, List.getElem_cons_zero, List.getElem_cons_succ]
    go_simp
    have y2 : (w7.setCell ⟨b, 4, none⟩ (.slice pv m7 cv)).cell? ⟨X, 1, none⟩ = some (.int .i64 1) := (grown_set w7 b 4 _).cell y1 (by intro q; have := HbX.out.1; simp at q; omega)
    refine hK.out _ _ (y2) (fun hHeld3 => ?_)
    clear hK K9
    (try go_frame)
    refine wpAnyH_done (by kernel_rfl) ?_ _
    have HZ5 : Hid (ZG 93 [] (w7.setCell ⟨b, 4, none⟩ (.slice pv m7 cv)) b ((Value.slice pv m7 cv).ownBlock.toList ++ S1) { z.left ((k : Int) + 1) with hd := fun q => if q = 1 then l ++ [(k : Int) + 1] else (z.left ((k : Int) + 1)).hd q } (.slice (some ⟨g, 0, none⟩) z.ts.length cap) d0 d1 h0 (.slice pv m7 cv)) := by
      have hz := HZ1.out.grow HGU.out
      have hloc := HL7.out
      have hg7 := HG7.out
      rw [← HEV.out] at hloc hg7
      exact hz.app_h1 tgs_z hg7 HO7.out hloc
    have HX5 : Hid ((w7.setCell ⟨b, 4, none⟩ (.slice pv m7 cv)).heap[X]? = some (.cells #[.int .i64 t.card, .int .i64 1, .int .u8 2, .int .i64 0, .int .i64 0, .int .i64 0, .int .i64 0, .int .i64 0, .int .i64 0, .int .i64 0, .bool false] 38 (0, 0))) := grown_keep (grown_set w7 b 4 _) HX7.out (by intro q; have := HbX.out.1; simp at q; omega)
    have HK5 : Hid (Kpt S1 w1 (w7.setCell ⟨b, 4, none⟩ (.slice pv m7 cv))) := by
      have k1 : Kpt S1 w1 U := kpt_sub HGU.out (by simp)
      have k2 : Kpt S1 U w7 := kpt_sub HG7.out (by rw [← HEV.out]; intro x hx; exact HZ1.out.inS h1 (by simp) x hx)
      have k3 : Kpt S1 w7 (w7.setCell ⟨b, 4, none⟩ (.slice pv m7 cv)) := kpt_sub (grown_set w7 b 4 _) (by intro x hx; cases hx; exact HZ1.out.inb)
      exact kpt_then (kpt_then k1 k2) k3
    have HLc : Hid (∀ x, (Value.slice pv m7 cv).ownBlock = some x → (x ∈ S1 ∨ w1.heap.size ≤ x) ∧ x < w7.heap.size) := by
      intro x hx
      refine ⟨?_, own_lt HO7.out x hx⟩
      rcases HL7.out with q | q
      · rw [q, ← HEV.out] at hx
        exact Or.inl (HZ1.out.inS h1 (by simp) x hx)
      · exact Or.inr (Nat.le_trans HGU.out.size (q x hx))
    obtain ⟨W5, hW5⟩ : ∃ W5, W5 = w7.setCell ⟨b, 4, none⟩ (.slice pv m7 cv) := ⟨_, rfl⟩
    rw [← hW5] at HZ5 HX5 HK5
    have HW5 : Hid (W5 = w7.setCell ⟨b, 4, none⟩ (.slice pv m7 cv)) := hW5
    have s0 : W5.cell? ⟨b, 0, none⟩ = some (.slice (some ⟨g, 0, none⟩) z.ts.length cap) := HZ5.out.cell.1
    clear t7 f7 y1 y2 hW5 HB7 HO7 HG7 HL7 HX7 s2 x1
    go_upto_region 10 with fail
    rw [← HW5.out]
    refine wp_region_held_drew (S := fun w' => w'.cell? ⟨b, 0, none⟩ = some (.slice (some ⟨g, 0, none⟩) z.ts.length cap) ∧ w'.heap[X]? = some (.cells #[.int .i64 t.card, .int .i64 1, .int .u8 2, .int .i64 0, .int .i64 0, .int .i64 0, .int .i64 0, .int .i64 0, .int .i64 0, .int .i64 0, .bool false] 38 (0, 0))) (by kernel_rfl) (⟨s0, HX5.out⟩) (fun hHeld => ?_)
    refine wpAnyH_take (i := 0) (v := ?_) rfl (by kernel_rfl) (by kernel_rfl) (by kernel_rfl) (fun _ _ _ h => h) (Or.inl ⟨by rfl, ?_⟩) (by assumption) ?_
    rotate_left 1
    · (intro w0 hSw; go_simp; try with_reducible rfl)
    simp only [List.getElem_toArray, List.getElem_cons_zero]
    go_frame
    refine wpAnyH_take (i := 1) (v := ?_) rfl (by kernel_rfl) (by kernel_rfl) (by kernel_rfl) (fun _ _ _ h => h) (Or.inl ⟨by rfl, ?_⟩) (by assumption) ?_
    rotate_left 1
    · (intro w0 hSw; go_simp; try with_reducible rfl)
    simp only [List.getElem_toArray, List.getElem_cons_zero, List.getElem_cons_succ]
    go_frame
    refine wpAnyH_take (i := 2) (v := ?_) rfl (by kernel_rfl) (by kernel_rfl) (by kernel_rfl) (fun _ _ _ h => h) (Or.inl ⟨by rfl, ?_⟩) (by assumption) ?_
    rotate_left 1
    · (intro w0 hSw; go_simp; try with_reducible rfl)
    simp only [List.getElem_toArray, List.getElem_cons_zero, List.getElem_cons_succ]
    go_frame
    refine wpAnyH_take (i := 3) (v := ?_) rfl (by kernel_rfl) (by kernel_rfl) (by kernel_rfl) (fun _ _ _ h => h) (Or.inl ⟨by rfl, ?_⟩) (by assumption) ?_
    rotate_left 1
    · (intro w0 hSw; obtain ⟨q1, q2⟩ := hSw; go_simp; try with_reducible rfl)
    simp only [List.getElem_toArray, List.getElem_cons_zero, List.getElem_cons_succ]
    go_frame
    refine wpAnyH_take (i := 4) (v := ?_) rfl (by kernel_rfl) (by kernel_rfl) (by kernel_rfl) (fun _ _ _ h => h) (Or.inl ⟨by rfl, ?_⟩) (by assumption) ?_
    rotate_left 1
    · (intro w0 hSw; go_simp; try with_reducible rfl)
    simp only [List.getElem_toArray, List.getElem_cons_zero, List.getElem_cons_succ]
    go_frame
    refine wpAnyH_take (i := 5) (v := ?_) rfl (by kernel_rfl) (by kernel_rfl) (by kernel_rfl) (fun _ _ _ h => h) (Or.inl ⟨by rfl, ?_⟩) (by assumption) ?_
    rotate_left 1
    · (intro w0 hSw; go_simp; try with_reducible rfl)
    simp only [List.getElem_toArray, List.getElem_cons_zero, List.getElem_cons_succ]
    go_frame
    refine wpAnyH_take (i := 6) (v := ?_) rfl (by kernel_rfl) (by kernel_rfl) (by kernel_rfl) (fun _ _ _ h => h) (Or.inl ⟨by rfl, ?_⟩) (by assumption) ?_
    rotate_left 1
    · (intro w0 hSw; obtain ⟨q1, q2⟩ := hSw; have r0 := (block_cell q2 0).trans rfl; have r1 := (block_cell q2 1).trans rfl; have r2 := (block_cell q2 2).trans rfl; have r3 := (block_cell q2 3).trans rfl; have r4 := (block_cell q2 4).trans rfl; have r5 := (block_cell q2 5).trans rfl; have r6 := (block_cell q2 6).trans rfl; have r7 := (block_cell q2 7).trans rfl; have r8 := (block_cell q2 8).trans rfl; have r9 := (block_cell q2 9).trans rfl; have r10 := (block_cell q2 10).trans rfl; go_simp; try with_reducible rfl)
    simp only [List.getElem_toArray, List.getElem_cons_zero, List.getElem_cons_succ]
    go_frame
    refine wpAnyH_take (i := 7) (v := ?_) rfl (by kernel_rfl) (by kernel_rfl) (by kernel_rfl) (fun _ _ _ h => h) (Or.inl ⟨by rfl, ?_⟩) (by assumption) ?_
    rotate_left 1
    · (intro w0 hSw; go_simp; try with_reducible rfl)
    simp only [List.getElem_toArray, List.getElem_cons_zero, List.getElem_cons_succ]
    go_frame
    refine wpAnyH_ready (rs := [8]) (by kernel_rfl) (by simp) ?_
    refine AllReadyH.cons rfl (fun K9 hK => ?_) AllReadyH.nil
    simp only [List.getElem_toArray, List.getElem_cons_zero, List.getElem_cons_succ]
    rw [if_pos (by rfl)]
    refine wp_store_mid 38 (.tmp 79) (.tmp 78) rfl g (k * 11) (thc (⟨t.card, 1, 2, 0, 0, 0, 0, 0, 0, 0, false⟩ : Th)).toArray rfl rfl (own_thereT HZ5.out.ts rfl hlt) (by kernel_rfl) (thc_one _) ?_
    have Z6 := HZ5.out.set_th tgs_z rfl hlt (⟨t.card, 1, 2, 0, 0, 0, 0, 0, 0, 0, false⟩ : Th)
    have HZ6 : Hid (ZG 93 [] (W5.drew.setCells g (k * 11) (thc (⟨t.card, 1, 2, 0, 0, 0, 0, 0, 0, 0, false⟩ : Th))) b ((Value.slice pv m7 cv).ownBlock.toList ++ S1) _ (.slice (some ⟨g, 0, none⟩) z.ts.length cap) d0 d1 h0 (.slice pv m7 cv)) := (ZG.set_th (HZ5.out.grow (grown_drew W5)) tgs_z rfl hlt (⟨t.card, 1, 2, 0, 0, 0, 0, 0, 0, 0, false⟩ : Th)).1
    have HG6 : Hid (W5.drew.grownBy (W5.drew.setCells g (k * 11) (thc (⟨t.card, 1, 2, 0, 0, 0, 0, 0, 0, 0, false⟩ : Th))) (some g)) := (ZG.set_th (HZ5.out.grow (grown_drew W5)) tgs_z rfl hlt (⟨t.card, 1, 2, 0, 0, 0, 0, 0, 0, 0, false⟩ : Th)).2
    clear Z6
    have hgX : some X ≠ some g := by have := HbX.out.2; intro q; cases q; omega
    have hbg : some b ≠ some g := zg_bg HZ5.out tgs_z
    refine hK.out _ _ (⟨HG6.out.cell s0 hbg, grown_keep HG6.out HX5.out hgX⟩) (fun hHeld3 => ?_)
    clear hK K9
    (try go_frame)
    refine wpAnyH_done (by kernel_rfl) ?_ _
    have HFin : Hid (TnPost w b Sb (z.come ((k : Int) + 1) 2) (.tuple #[]) (.returned (.tuple #[])) (W5.drew.setCells g (k * 11) (thc (⟨t.card, 1, 2, 0, 0, 0, 0, 0, 0, 0, false⟩ : Th)))) := by
      refine ⟨rfl, _, ⟨_, _, _, _, _, HZ6.out.congr ?_ ?_ ?_ ?_ ?_ ?_⟩, HT1.out.trans (turn_of (kpt_then HK5.out (kpt_then (kpt_sub (grown_drew W5) (by simp)) (kpt_sub HG6.out (fun x hx => by cases hx; exact HZ1.out.inS (.slice (some ⟨g, 0, none⟩) z.ts.length cap) (by simp) g rfl)))) HT1.out.old (fun x hx => (HLc.out x hx).1) (fun x hx => Nat.lt_of_lt_of_le (HLc.out x hx).2 ?_))⟩
      · show z.ts.set (((k : Int) + 1) - 1).toNat (if (2 : Int) = 4 then _ else (thAt z.ts ((k : Int) + 1)).home 2) = z.ts.set k _
        rw [show (((k : Int) + 1) - 1).toNat = k from by omega, if_neg (by decide), ← HTT.out]
        unfold Th.home
        rw [hto]
      · show (if (2 : Int) = 4 then z.nx + 1 else z.nx) = z.nx
        rw [if_neg (by decide)]
      · show (if (0 : Int) = (thAt z.ts ((k : Int) + 1)).owner then (z.dk 0).filter (· != ((k : Int) + 1)) ++ (if (2 : Int) = 1 then [(k : Int) + 1] else []) else z.dk 0) = (if (0 : Int) = (thAt z.ts ((k : Int) + 1)).owner then (z.dk 0).filter (· != ((k : Int) + 1)) else z.dk 0)
        rw [HHo.out, if_neg (by decide), if_neg (by decide)]
      · show (if (1 : Int) = (thAt z.ts ((k : Int) + 1)).owner then (z.dk 1).filter (· != ((k : Int) + 1)) ++ (if (2 : Int) = 1 then [(k : Int) + 1] else []) else z.dk 1) = (if (1 : Int) = (thAt z.ts ((k : Int) + 1)).owner then (z.dk 1).filter (· != ((k : Int) + 1)) else z.dk 1)
        rw [HHo.out, if_pos rfl, if_pos rfl, if_neg (by decide), List.append_nil]
      · show (if (0 : Int) = (thAt z.ts ((k : Int) + 1)).owner then (z.hd 0).filter (· != ((k : Int) + 1)) ++ (if (2 : Int) = 2 then [(k : Int) + 1] else []) else z.hd 0) = (if (0 : Int) = 1 then l ++ [(k : Int) + 1] else (if (0 : Int) = (thAt z.ts ((k : Int) + 1)).owner then (z.hd 0).filter (· != ((k : Int) + 1)) else z.hd 0))
        rw [HHo.out, if_neg (by decide), if_neg (by decide), if_neg (by decide)]
      · show (if (1 : Int) = (thAt z.ts ((k : Int) + 1)).owner then (z.hd 1).filter (· != ((k : Int) + 1)) ++ (if (2 : Int) = 2 then [(k : Int) + 1] else []) else z.hd 1) = (if (1 : Int) = 1 then l ++ [(k : Int) + 1] else (if (1 : Int) = (thAt z.ts ((k : Int) + 1)).owner then (z.hd 1).filter (· != ((k : Int) + 1)) else z.hd 1))
        rw [HHo.out, if_pos rfl, if_pos rfl, if_pos rfl, HLl.out]
      · have h8 : w7.heap.size ≤ W5.heap.size := by rw [HW5.out]; exact (grown_set w7 b 4 _).size
        have h9 := HG6.out.size
        exact Nat.le_trans h8 h9
    clear HZ6 HG6 HZ5 HX5 HK5 HLc
    (try go_wp2)
    go_end0
    exact HFin.out
  · skip
    simp only [List.getElem_toArray, List.getElem_cons_zero, List.getElem_cons_succ]
    go_simp
    try rw [show (V.alloc (Obj.cells #[Value.int IntKind.i64 ((k : Int) + 1)] 3)).drew = U from HU.out.symm]
    refine hK.out _ _ (u1) (fun hHeld3 => ?_)
    clear hK K9
    (try go_frame)
    refine wpAnyH_ready (rs := [9]) (by kernel_rfl) (by simp) ?_
    refine AllReadyH.cons rfl (fun K9 hK => ?_) AllReadyH.nil
    simp only [List.getElem_toArray, List.getElem_cons_zero, List.getElem_cons_succ]
    go_simp
    refine hK.out _ _ (u1) (fun hHeld3 => ?_)
    clear hK K9
    (try go_frame)
    refine wpAnyH_ready (rs := [12]) (by kernel_rfl) (by simp) ?_
    refine AllReadyH.cons rfl (fun K9 hK => ?_) AllReadyH.nil
    simp only [List.getElem_toArray, List.getElem_cons_zero, List.getElem_cons_succ]
    rw [if_pos (by rfl)]
    refine wp_app (.tmp 50) (.tmp 52) 22 rfl 0 3 i1 _ 1 8 Try.underlying22 hi1 hza1 hzb1 hzc1 rfl (by decide) (.slice pd l.length cd) (l.length) (ints l) rfl (own_grow HO1.out HGU.out) (.slice (some ⟨V.heap.size, 0, none⟩) 1 1) (1) (ints [(k : Int) + 1]) rfl (HSrc.out) (ints_one _) (HLs.out.1) (HLs.out.2) (Nat.zero_le _) ?_
    intro v' w7 o7 g7 l7
    have HO7 : Hid (OwnI w7 0 v' (l ++ [(k : Int) + 1])) := own_more o7 rfl
    have HG7 : Hid (U.grownBy w7 (Value.slice pd l.length cd).ownBlock) := g7
    have HL7 : Hid (v'.ownBlock = (Value.slice pd l.length cd).ownBlock ∨ ∀ x, v'.ownBlock = some x → U.heap.size ≤ x) := by
      rcases l7 with q | q
      · exact Or.inl q
      · exact Or.inr fun x hx => by rw [q] at hx; cases hx; exact Nat.le_refl _
    have HX7 : Hid (w7.heap[X]? = some (.cells #[.int .i64 t.card, .int .i64 1, .int .u8 2, .int .i64 0, .int .i64 0, .int .i64 0, .int .i64 0, .int .i64 0, .int .i64 0, .int .i64 0, .bool false] 38 (0, 0))) := by
      refine grown_keep g7 HXU.out ?_
      intro q
      have := own_lt HO1.out X q.symm
      have := HGV1.out.size
      have := HXs.out
      omega
    have y1 : w7.cell? ⟨X, 1, none⟩ = some (.int .i64 1) := (block_cell HX7.out 1).trans rfl
    have HB7 : Hid (w7.heap[b]? = some (.cells (zc (.slice (some ⟨g, 0, none⟩) z.ts.length cap) d0 d1 h0 (.slice pd l.length cd) z.nx []) 93 (0, 0))) := by
      have := keep_blk (HZ1.out.grow HGU.out).blk (own_grow HO1.out HGU.out) (by decide) g7
      rw [HEV.out] at this
      exact this
    have t7 : w7.cell? ⟨b, 4, none⟩ = some (.slice pd l.length cd) := (block_cell HB7.out 4).trans rfl
    have f7 : w7.frozen? ⟨b, 4, none⟩ = false := block_free HB7.out 4
    obtain ⟨pv, cv, ev7, _⟩ := own_slice HO7.out
    obtain ⟨m7, hm7⟩ : ∃ m7, m7 = (l ++ [(k : Int) + 1]).length := ⟨_, rfl⟩
    rw [← hm7] at ev7
    subst ev7
    clear hm7
    clear o7 g7 l7
    refine hK.out _ _ (y1) (fun hHeld3 => ?_)
    clear hK K9
    (try go_frame)
    refine wpAnyH_take (i := 15) (v := ?_) rfl (by kernel_rfl) (by kernel_rfl) (by kernel_rfl) (fun _ _ _ h => h) (Or.inl ⟨by rfl, ?_⟩) (by assumption) ?_
    rotate_left 1
    · (intro w0 hSw; go_simp; try with_reducible rfl)
    simp only [List.getElem_toArray, List.getElem_cons_zero, List.getElem_cons_succ]
    go_frame
    refine wpAnyH_ready (rs := [16]) (by kernel_rfl) (by simp) ?_
    refine AllReadyH.cons rfl (fun K9 hK => ?_) AllReadyH.nil
    simp only [List.getElem_toArray, List.getElem_cons_zero, List.getElem_cons_succ]
    go_simp
    have y2 : (w7.setCell ⟨b, 4, none⟩ (.slice pv m7 cv)).cell? ⟨X, 1, none⟩ = some (.int .i64 1) := (grown_set w7 b 4 _).cell y1 (by intro q; have := HbX.out.1; simp at q; omega)
    refine hK.out _ _ (y2) (fun hHeld3 => ?_)
    clear hK K9
    (try go_frame)
    refine wpAnyH_done (by kernel_rfl) ?_ _
    have HZ5 : Hid (ZG 93 [] (w7.setCell ⟨b, 4, none⟩ (.slice pv m7 cv)) b ((Value.slice pv m7 cv).ownBlock.toList ++ S1) { z.left ((k : Int) + 1) with hd := fun q => if q = 1 then l ++ [(k : Int) + 1] else (z.left ((k : Int) + 1)).hd q } (.slice (some ⟨g, 0, none⟩) z.ts.length cap) d0 d1 h0 (.slice pv m7 cv)) := by
      have hz := HZ1.out.grow HGU.out
      have hloc := HL7.out
      have hg7 := HG7.out
      rw [← HEV.out] at hloc hg7
      exact hz.app_h1 tgs_z hg7 HO7.out hloc
    have HX5 : Hid ((w7.setCell ⟨b, 4, none⟩ (.slice pv m7 cv)).heap[X]? = some (.cells #[.int .i64 t.card, .int .i64 1, .int .u8 2, .int .i64 0, .int .i64 0, .int .i64 0, .int .i64 0, .int .i64 0, .int .i64 0, .int .i64 0, .bool false] 38 (0, 0))) := grown_keep (grown_set w7 b 4 _) HX7.out (by intro q; have := HbX.out.1; simp at q; omega)
    have HK5 : Hid (Kpt S1 w1 (w7.setCell ⟨b, 4, none⟩ (.slice pv m7 cv))) := by
      have k1 : Kpt S1 w1 U := kpt_sub HGU.out (by simp)
      have k2 : Kpt S1 U w7 := kpt_sub HG7.out (by rw [← HEV.out]; intro x hx; exact HZ1.out.inS h1 (by simp) x hx)
      have k3 : Kpt S1 w7 (w7.setCell ⟨b, 4, none⟩ (.slice pv m7 cv)) := kpt_sub (grown_set w7 b 4 _) (by intro x hx; cases hx; exact HZ1.out.inb)
      exact kpt_then (kpt_then k1 k2) k3
    have HLc : Hid (∀ x, (Value.slice pv m7 cv).ownBlock = some x → (x ∈ S1 ∨ w1.heap.size ≤ x) ∧ x < w7.heap.size) := by
      intro x hx
      refine ⟨?_, own_lt HO7.out x hx⟩
      rcases HL7.out with q | q
      · rw [q, ← HEV.out] at hx
        exact Or.inl (HZ1.out.inS h1 (by simp) x hx)
      · exact Or.inr (Nat.le_trans HGU.out.size (q x hx))
    obtain ⟨W5, hW5⟩ : ∃ W5, W5 = w7.setCell ⟨b, 4, none⟩ (.slice pv m7 cv) := ⟨_, rfl⟩
    rw [← hW5] at HZ5 HX5 HK5
    have HW5 : Hid (W5 = w7.setCell ⟨b, 4, none⟩ (.slice pv m7 cv)) := hW5
    have s0 : W5.cell? ⟨b, 0, none⟩ = some (.slice (some ⟨g, 0, none⟩) z.ts.length cap) := HZ5.out.cell.1
    clear t7 f7 y1 y2 hW5 HB7 HO7 HG7 HL7 HX7 s2 x1
    go_upto_region 10 with fail
    rw [← HW5.out]
    refine wp_region_held_drew (S := fun w' => w'.cell? ⟨b, 0, none⟩ = some (.slice (some ⟨g, 0, none⟩) z.ts.length cap) ∧ w'.heap[X]? = some (.cells #[.int .i64 t.card, .int .i64 1, .int .u8 2, .int .i64 0, .int .i64 0, .int .i64 0, .int .i64 0, .int .i64 0, .int .i64 0, .int .i64 0, .bool false] 38 (0, 0))) (by kernel_rfl) (⟨s0, HX5.out⟩) (fun hHeld => ?_)
    refine wpAnyH_take (i := 0) (v := ?_) rfl (by kernel_rfl) (by kernel_rfl) (by kernel_rfl) (fun _ _ _ h => h) (Or.inl ⟨by rfl, ?_⟩) (by assumption) ?_
    rotate_left 1
    · (intro w0 hSw; go_simp; try with_reducible rfl)
    simp only [List.getElem_toArray, List.getElem_cons_zero]
    go_frame
    refine wpAnyH_take (i := 1) (v := ?_) rfl (by kernel_rfl) (by kernel_rfl) (by kernel_rfl) (fun _ _ _ h => h) (Or.inl ⟨by rfl, ?_⟩) (by assumption) ?_
    rotate_left 1
    · (intro w0 hSw; go_simp; try with_reducible rfl)
    simp only [List.getElem_toArray, List.getElem_cons_zero, List.getElem_cons_succ]
    go_frame
    refine wpAnyH_take (i := 2) (v := ?_) rfl (by kernel_rfl) (by kernel_rfl) (by kernel_rfl) (fun _ _ _ h => h) (Or.inl ⟨by rfl, ?_⟩) (by assumption) ?_
    rotate_left 1
    · (intro w0 hSw; go_simp; try with_reducible rfl)
    simp only [List.getElem_toArray, List.getElem_cons_zero, List.getElem_cons_succ]
    go_frame
    refine wpAnyH_take (i := 3) (v := ?_) rfl (by kernel_rfl) (by kernel_rfl) (by kernel_rfl) (fun _ _ _ h => h) (Or.inl ⟨by rfl, ?_⟩) (by assumption) ?_
    rotate_left 1
    · (intro w0 hSw; obtain ⟨q1, q2⟩ := hSw; go_simp; try with_reducible rfl)
    simp only [List.getElem_toArray, List.getElem_cons_zero, List.getElem_cons_succ]
    go_frame
    refine wpAnyH_take (i := 4) (v := ?_) rfl (by kernel_rfl) (by kernel_rfl) (by kernel_rfl) (fun _ _ _ h => h) (Or.inl ⟨by rfl, ?_⟩) (by assumption) ?_
    rotate_left 1
    · (intro w0 hSw; go_simp; try with_reducible rfl)
    simp only [List.getElem_toArray, List.getElem_cons_zero, List.getElem_cons_succ]
    go_frame
    refine wpAnyH_take (i := 5) (v := ?_) rfl (by kernel_rfl) (by kernel_rfl) (by kernel_rfl) (fun _ _ _ h => h) (Or.inl ⟨by rfl, ?_⟩) (by assumption) ?_
    rotate_left 1
    · (intro w0 hSw; go_simp; try with_reducible rfl)
    simp only [List.getElem_toArray, List.getElem_cons_zero, List.getElem_cons_succ]
    go_frame
    refine wpAnyH_take (i := 6) (v := ?_) rfl (by kernel_rfl) (by kernel_rfl) (by kernel_rfl) (fun _ _ _ h => h) (Or.inl ⟨by rfl, ?_⟩) (by assumption) ?_
    rotate_left 1
    · (intro w0 hSw; obtain ⟨q1, q2⟩ := hSw; have r0 := (block_cell q2 0).trans rfl; have r1 := (block_cell q2 1).trans rfl; have r2 := (block_cell q2 2).trans rfl; have r3 := (block_cell q2 3).trans rfl; have r4 := (block_cell q2 4).trans rfl; have r5 := (block_cell q2 5).trans rfl; have r6 := (block_cell q2 6).trans rfl; have r7 := (block_cell q2 7).trans rfl; have r8 := (block_cell q2 8).trans rfl; have r9 := (block_cell q2 9).trans rfl; have r10 := (block_cell q2 10).trans rfl; go_simp; try with_reducible rfl)
    simp only [List.getElem_toArray, List.getElem_cons_zero, List.getElem_cons_succ]
    go_frame
    refine wpAnyH_take (i := 7) (v := ?_) rfl (by kernel_rfl) (by kernel_rfl) (by kernel_rfl) (fun _ _ _ h => h) (Or.inl ⟨by rfl, ?_⟩) (by assumption) ?_
    rotate_left 1
    · (intro w0 hSw; go_simp; try with_reducible rfl)
    simp only [List.getElem_toArray, List.getElem_cons_zero, List.getElem_cons_succ]
    go_frame
    refine wpAnyH_ready (rs := [8]) (by kernel_rfl) (by simp) ?_
    refine AllReadyH.cons rfl (fun K9 hK => ?_) AllReadyH.nil
    simp only [List.getElem_toArray, List.getElem_cons_zero, List.getElem_cons_succ]
    rw [if_pos (by rfl)]
    refine wp_store_mid 38 (.tmp 79) (.tmp 78) rfl g (k * 11) (thc (⟨t.card, 1, 2, 0, 0, 0, 0, 0, 0, 0, false⟩ : Th)).toArray rfl rfl (own_thereT HZ5.out.ts rfl hlt) (by kernel_rfl) (thc_one _) ?_
    have Z6 := HZ5.out.set_th tgs_z rfl hlt (⟨t.card, 1, 2, 0, 0, 0, 0, 0, 0, 0, false⟩ : Th)
    have HZ6 : Hid (ZG 93 [] (W5.drew.setCells g (k * 11) (thc (⟨t.card, 1, 2, 0, 0, 0, 0, 0, 0, 0, false⟩ : Th))) b ((Value.slice pv m7 cv).ownBlock.toList ++ S1) _ (.slice (some ⟨g, 0, none⟩) z.ts.length cap) d0 d1 h0 (.slice pv m7 cv)) := (ZG.set_th (HZ5.out.grow (grown_drew W5)) tgs_z rfl hlt (⟨t.card, 1, 2, 0, 0, 0, 0, 0, 0, 0, false⟩ : Th)).1
    have HG6 : Hid (W5.drew.grownBy (W5.drew.setCells g (k * 11) (thc (⟨t.card, 1, 2, 0, 0, 0, 0, 0, 0, 0, false⟩ : Th))) (some g)) := (ZG.set_th (HZ5.out.grow (grown_drew W5)) tgs_z rfl hlt (⟨t.card, 1, 2, 0, 0, 0, 0, 0, 0, 0, false⟩ : Th)).2
    clear Z6
    have hgX : some X ≠ some g := by have := HbX.out.2; intro q; cases q; omega
    have hbg : some b ≠ some g := zg_bg HZ5.out tgs_z
    refine hK.out _ _ (⟨HG6.out.cell s0 hbg, grown_keep HG6.out HX5.out hgX⟩) (fun hHeld3 => ?_)
    clear hK K9
    (try go_frame)
    refine wpAnyH_done (by kernel_rfl) ?_ _
    have HFin : Hid (TnPost w b Sb (z.come ((k : Int) + 1) 2) (.tuple #[]) (.returned (.tuple #[])) (W5.drew.setCells g (k * 11) (thc (⟨t.card, 1, 2, 0, 0, 0, 0, 0, 0, 0, false⟩ : Th)))) := by
      refine ⟨rfl, _, ⟨_, _, _, _, _, HZ6.out.congr ?_ ?_ ?_ ?_ ?_ ?_⟩, HT1.out.trans (turn_of (kpt_then HK5.out (kpt_then (kpt_sub (grown_drew W5) (by simp)) (kpt_sub HG6.out (fun x hx => by cases hx; exact HZ1.out.inS (.slice (some ⟨g, 0, none⟩) z.ts.length cap) (by simp) g rfl)))) HT1.out.old (fun x hx => (HLc.out x hx).1) (fun x hx => Nat.lt_of_lt_of_le (HLc.out x hx).2 ?_))⟩
      · show z.ts.set (((k : Int) + 1) - 1).toNat (if (2 : Int) = 4 then _ else (thAt z.ts ((k : Int) + 1)).home 2) = z.ts.set k _
        rw [show (((k : Int) + 1) - 1).toNat = k from by omega, if_neg (by decide), ← HTT.out]
        unfold Th.home
        rw [hto]
      · show (if (2 : Int) = 4 then z.nx + 1 else z.nx) = z.nx
        rw [if_neg (by decide)]
      · show (if (0 : Int) = (thAt z.ts ((k : Int) + 1)).owner then (z.dk 0).filter (· != ((k : Int) + 1)) ++ (if (2 : Int) = 1 then [(k : Int) + 1] else []) else z.dk 0) = (if (0 : Int) = (thAt z.ts ((k : Int) + 1)).owner then (z.dk 0).filter (· != ((k : Int) + 1)) else z.dk 0)
        rw [HHo.out, if_neg (by decide), if_neg (by decide)]
      · show (if (1 : Int) = (thAt z.ts ((k : Int) + 1)).owner then (z.dk 1).filter (· != ((k : Int) + 1)) ++ (if (2 : Int) = 1 then [(k : Int) + 1] else []) else z.dk 1) = (if (1 : Int) = (thAt z.ts ((k : Int) + 1)).owner then (z.dk 1).filter (· != ((k : Int) + 1)) else z.dk 1)
        rw [HHo.out, if_pos rfl, if_pos rfl, if_neg (by decide), List.append_nil]
      · show (if (0 : Int) = (thAt z.ts ((k : Int) + 1)).owner then (z.hd 0).filter (· != ((k : Int) + 1)) ++ (if (2 : Int) = 2 then [(k : Int) + 1] else []) else z.hd 0) = (if (0 : Int) = 1 then l ++ [(k : Int) + 1] else (if (0 : Int) = (thAt z.ts ((k : Int) + 1)).owner then (z.hd 0).filter (· != ((k : Int) + 1)) else z.hd 0))
        rw [HHo.out, if_neg (by decide), if_neg (by decide), if_neg (by decide)]
      · show (if (1 : Int) = (thAt z.ts ((k : Int) + 1)).owner then (z.hd 1).filter (· != ((k : Int) + 1)) ++ (if (2 : Int) = 2 then [(k : Int) + 1] else []) else z.hd 1) = (if (1 : Int) = 1 then l ++ [(k : Int) + 1] else (if (1 : Int) = (thAt z.ts ((k : Int) + 1)).owner then (z.hd 1).filter (· != ((k : Int) + 1)) else z.hd 1))
        rw [HHo.out, if_pos rfl, if_pos rfl, if_pos rfl, HLl.out]
      · have h8 : w7.heap.size ≤ W5.heap.size := by rw [HW5.out]; exact (grown_set w7 b 4 _).size
        have h9 := HG6.out.size
        exact Nat.le_trans h8 h9
    clear HZ6 HG6 HZ5 HX5 HK5 HLc
    (try go_wp2)
    go_end0
    exact HFin.out
end Go.Proofs.Ytogpgldbbegniaa
