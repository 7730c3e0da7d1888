/-
  Zones: a thing comes to the table, or elsewhere: the program's come.
-/
import Derived.Test.YtogpgldbbegniaaZmM
namespace Go.Proofs.Ytogpgldbbegniaa
open Go.RowKit

set_option maxRecDepth 100000 in
set_option maxHeartbeats 4000000 in
theorem come_table (b : Nat) (Sb : List Nat) (z : Zs) (n : Int) (w : World) (Z : ZAt w b Sb z) (F : z.Fine n) (hS : Old w Sb) (hf : z.ts.length ≤ 2048) (hd : ∀ p, p = 0 ∨ p = 1 → (z.dk p).length ≤ 2048) (hh : ∀ p, p = 0 ∨ p = 1 → (z.hd p).length ≤ 2048) (hx1 : 1 ≤ z.nx) (hx2 : z.nx < 1099511627776) : Calls Try.prog 65 #[.pointer (some ⟨b, 0, none⟩), .int .i64 n, .int .u8 4] w (TnPost w b Sb (z.come n 4) (.tuple #[])) := by
  have HC := leave_any b Sb z n w Z F hS hf hd hh
  have hn := F.at_
  have hown := F.own
  obtain ⟨k, hk⟩ : ∃ k : Nat, n = (k : Int) + 1 := ⟨(n - 1).toNat, by unfold there at hn; omega⟩
  subst hk
  have hlt : k < z.ts.length := by unfold there at hn; omega
  obtain ⟨t, ht⟩ : ∃ t, t = thAt z.ts ((k : Int) + 1) := ⟨_, rfl⟩
  have HTT : Hid (t = thAt z.ts ((k : Int) + 1)) := ht
  have hw1 : wrap64 (k : Int) = (k : Int) := by unfold wrap64; omega
  have hw9 : IntKind.i64.wrap (k : Int) = (k : Int) := IntWalk.i64_in _ (by omega)
  have hlt' : (k : Int) < z.ts.length := by omega
  have HF : Hid (z.Fine ((k : Int) + 1)) := F
  have HSo : Hid (Old w Sb) := hS
  have Hdl : Hid (∀ p, p = 0 ∨ p = 1 → (z.dk p).length ≤ 2048) := hd
  have Hhl : Hid (∀ p, p = 0 ∨ p = 1 → (z.hd p).length ≤ 2048) := hh
  clear F hS hd hh hn hown ht
  go_enter Try.func65, Try.ntmps65
  go_wp2_with fail
  refine HC.mono ?_
  rintro e w1 ⟨rfl, S1, ⟨vt, d0, d1, h0, h1, Z1⟩, T1⟩
  obtain ⟨g, cap, rfl, R1⟩ := zg_at Z1 (k := k) (by rw [left_ts]; exact hlt)
  rw [left_ts, ← HTT.out] at R1
  obtain ⟨e1, e2, e3, e4, e5, e6, e7, e8, e9, e10, e11⟩ := range_cells R1
  obtain ⟨c0, c1, c2, c3, c4, c5⟩ := Z1.cell
  rw [left_ts] at c0
  rw [left_nx] at c5
  have AH := atHome_any t 4 w1
  unfold thv at AH
  have HZ1 : Hid (ZG 93 [] w1 b S1 (z.left ((k : Int) + 1)) (.slice (some ⟨g, 0, none⟩) z.ts.length cap) d0 d1 h0 h1) := Z1
  have HT1 : Hid (Turn w w1 Sb S1) := T1
  clear Z1 T1 R1 HC
  have hwn : wrap64 (z.nx + 1) = z.nx + 1 := by unfold wrap64; omega
  go_wp2_with fail
  refine AH.mono ?_
  rintro e w2 ⟨rfl, g2⟩
  have HG2 : Hid (w1.grownBy w2 none) := g2
  obtain ⟨X, hX⟩ : ∃ X, X = w2.heap.size := ⟨_, rfl⟩
  have HX : Hid (X = w2.heap.size) := hX
  obtain ⟨V, hV⟩ : ∃ V, V = w2.alloc (.cells #[.int .i64 t.card, .int .i64 t.owner, .int .u8 4, .int .i64 z.nx, .int .i64 0, .int .i64 0, .int .i64 0, .int .i64 0, .int .i64 0, .int .i64 0, .bool true] 38) := ⟨_, rfl⟩
  have HV : Hid (V = w2.alloc (.cells #[.int .i64 t.card, .int .i64 t.owner, .int .u8 4, .int .i64 z.nx, .int .i64 0, .int .i64 0, .int .i64 0, .int .i64 0, .int .i64 0, .int .i64 0, .bool true] 38)) := hV
  have HGV : Hid (w1.grownBy V none) := by show w1.grownBy V none; rw [hV]; exact grown_push g2 _
  have k5 : ∀ cs, (w2.alloc (.cells cs 38)).cell? ⟨b, 5, none⟩ = some (.int .i64 z.nx) := fun cs => (grown_push g2 _).cell c5 (by simp)
  have f5 : ∀ cs, (w2.alloc (.cells cs 38)).frozen? ⟨b, 5, none⟩ = false := fun cs => (HZ1.out.grow (grown_push g2 _)).free 5
  have HXb : Hid (V.heap[X]? = some (.cells #[.int .i64 t.card, .int .i64 t.owner, .int .u8 4, .int .i64 z.nx, .int .i64 0, .int .i64 0, .int .i64 0, .int .i64 0, .int .i64 0, .int .i64 0, .bool true] 38 (0, 0))) := by show V.heap[X]? = _; rw [hV, hX]; exact alloc_at _ _ _
  have HbX : Hid (b < X ∧ g < X) := by
    show b < X ∧ g < X
    rw [hX]
    exact ⟨Nat.lt_of_lt_of_le (block_lt HZ1.out.blk) g2.size, Nat.lt_of_lt_of_le (own_lt HZ1.out.ts g rfl) g2.size⟩
  clear hX hV AH c0 c1 c2 c3 c4 c5 e1 e2 e3 e4 e5 e6 e7 e8 e9 e10 e11
  go_upto_region 10 with fail
  obtain ⟨W5, hW5⟩ : ∃ W5, W5 = V.setCell ⟨b, 5, none⟩ (.int .i64 (z.nx + 1)) := ⟨_, rfl⟩
  have HZ5 : Hid (ZG 93 [] W5 b S1 { z.left ((k : Int) + 1) with nx := z.nx + 1 } (.slice (some ⟨g, 0, none⟩) z.ts.length cap) d0 d1 h0 h1) := by
    show ZG _ _ _ _ _ _ _ _ _ _ _
    rw [hW5]
    exact (HZ1.out.grow HGV.out).set_nx tgs_z (z.nx + 1)
  have HX5 : Hid (W5.heap[X]? = some (.cells #[.int .i64 t.card, .int .i64 t.owner, .int .u8 4, .int .i64 z.nx, .int .i64 0, .int .i64 0, .int .i64 0, .int .i64 0, .int .i64 0, .int .i64 0, .bool true] 38 (0, 0))) := by
    show W5.heap[X]? = _
    rw [hW5]
    exact grown_keep (grown_set V b 5 _) HXb.out (by intro q; have := HbX.out.1; simp at q; omega)
  have HK5 : Hid (Kpt S1 w1 W5) := by
    show Kpt S1 w1 W5
    rw [hW5]
    exact kpt_then (kpt_sub HGV.out (by simp)) (kpt_sub (grown_set V b 5 _) (by intro x hx; cases hx; exact HZ1.out.inb))
  rw [← HX.out, ← HV.out, ← hW5]
  clear k5 f5 g2 hW5 HXb
  have s0 : W5.cell? ⟨b, 0, none⟩ = some (.slice (some ⟨g, 0, none⟩) z.ts.length cap) := HZ5.out.cell.1
  refine wp_region_held_drew (S := fun w' => w'.cell? ⟨b, 0, none⟩ = some (.slice (some ⟨g, 0, none⟩) z.ts.length cap) ∧ w'.heap[X]? = some (.cells #[.int .i64 t.card, .int .i64 t.owner, .int .u8 4, .int .i64 z.nx, .int .i64 0, .int .i64 0, .int .i64 0, .int .i64 0, .int .i64 0, .int .i64 0, .bool true] 38 (0, 0))) (by kernel_rfl) (⟨s0, HX5.out⟩) (fun hHeld => ?_)
  refine wpAnyH_take (i := 0) (v := ?_) rfl (by kernel_rfl) (by kernel_rfl) (by kernel_rfl) (fun _ _ _ h => h) (Or.inl ⟨by rfl, ?_⟩) (by assumption) ?_
  rotate_left 1
  · (intro w0 hSw; go_simp; try with_reducible rfl)
  simp only [List.getElem_toArray, List.getElem_cons_zero]
  go_frame
  refine wpAnyH_take (i := 1) (v := ?_) rfl (by kernel_rfl) (by kernel_rfl) (by kernel_rfl) (fun _ _ _ h => h) (Or.inl ⟨by rfl, ?_⟩) (by assumption) ?_
  rotate_left 1
  · (intro w0 hSw; go_simp; try with_reducible rfl)
  simp only [List.getElem_toArray, List.getElem_cons_zero, List.getElem_cons_succ]
  go_frame
  refine wpAnyH_take (i := 2) (v := ?_) rfl (by kernel_rfl) (by kernel_rfl) (by kernel_rfl) (fun _ _ _ h => h) (Or.inl ⟨by rfl, ?_⟩) (by assumption) ?_
  rotate_left 1
  · (intro w0 hSw; go_simp; try with_reducible rfl)
  simp only [List.getElem_toArray, List.getElem_cons_zero, List.getElem_cons_succ]
  go_frame
  refine wpAnyH_take (i := 3) (v := ?_) rfl (by kernel_rfl) (by kernel_rfl) (by kernel_rfl) (fun _ _ _ h => h) (Or.inl ⟨by rfl, ?_⟩) (by assumption) ?_
  rotate_left 1
  · (intro w0 hSw; obtain ⟨q1, q2⟩ := hSw; go_simp; try with_reducible rfl)
  simp only [List.getElem_toArray, List.getElem_cons_zero, List.getElem_cons_succ]
  go_frame
  refine wpAnyH_take (i := 4) (v := ?_) rfl (by kernel_rfl) (by kernel_rfl) (by kernel_rfl) (fun _ _ _ h => h) (Or.inl ⟨by rfl, ?_⟩) (by assumption) ?_
  rotate_left 1
  · (intro w0 hSw; go_simp; try with_reducible rfl)
  simp only [List.getElem_toArray, List.getElem_cons_zero, List.getElem_cons_succ]
  go_frame
  refine wpAnyH_take (i := 5) (v := ?_) rfl (by kernel_rfl) (by kernel_rfl) (by kernel_rfl) (fun _ _ _ h => h) (Or.inl ⟨by rfl, ?_⟩) (by assumption) ?_
  rotate_left 1
  · (intro w0 hSw; go_simp; try with_reducible rfl)
  simp only [List.getElem_toArray, List.getElem_cons_zero, List.getElem_cons_succ]
  go_frame
  refine wpAnyH_take (i := 6) (v := ?_) rfl (by kernel_rfl) (by kernel_rfl) (by kernel_rfl) (fun _ _ _ h => h) (Or.inl ⟨by rfl, ?_⟩) (by assumption) ?_
  rotate_left 1
  · (intro w0 hSw; obtain ⟨q1, q2⟩ := hSw; have r0 := (block_cell q2 0).trans rfl; have r1 := (block_cell q2 1).trans rfl; have r2 := (block_cell q2 2).trans rfl; have r3 := (block_cell q2 3).trans rfl; have r4 := (block_cell q2 4).trans rfl; have r5 := (block_cell q2 5).trans rfl; have r6 := (block_cell q2 6).trans rfl; have r7 := (block_cell q2 7).trans rfl; have r8 := (block_cell q2 8).trans rfl; have r9 := (block_cell q2 9).trans rfl; have r10 := (block_cell q2 10).trans rfl; go_simp; try with_reducible rfl)
  simp only [List.getElem_toArray, List.getElem_cons_zero, List.getElem_cons_succ]
  go_frame
  refine wpAnyH_take (i := 7) (v := ?_) rfl (by kernel_rfl) (by kernel_rfl) (by kernel_rfl) (fun _ _ _ h => h) (Or.inl ⟨by rfl, ?_⟩) (by assumption) ?_
  rotate_left 1
  · (intro w0 hSw; go_simp; try with_reducible rfl)
  simp only [List.getElem_toArray, List.getElem_cons_zero, List.getElem_cons_succ]
  go_frame
  refine wpAnyH_ready (rs := [8]) (by kernel_rfl) (by simp) ?_
  refine AllReadyH.cons rfl (fun K9 hK => ?_) AllReadyH.nil
  simp only [List.getElem_toArray, List.getElem_cons_zero, List.getElem_cons_succ]
  rw [if_pos (by rfl)]
  refine wp_store_mid 38 (.tmp 79) (.tmp 78) rfl g (k * 11) (thc (⟨t.card, t.owner, 4, z.nx, 0, 0, 0, 0, 0, 0, true⟩ : Th)).toArray rfl rfl (own_thereT HZ5.out.ts rfl hlt) (by kernel_rfl) (thc_one _) ?_
  have HZ6 : Hid (ZG 93 [] (W5.drew.setCells g (k * 11) (thc (⟨t.card, t.owner, 4, z.nx, 0, 0, 0, 0, 0, 0, true⟩ : Th))) b S1 _ (.slice (some ⟨g, 0, none⟩) z.ts.length cap) d0 d1 h0 h1) := (ZG.set_th (HZ5.out.grow (grown_drew W5)) tgs_z rfl hlt (⟨t.card, t.owner, 4, z.nx, 0, 0, 0, 0, 0, 0, true⟩ : Th)).1
  have HG6 : Hid (W5.drew.grownBy (W5.drew.setCells g (k * 11) (thc (⟨t.card, t.owner, 4, z.nx, 0, 0, 0, 0, 0, 0, true⟩ : Th))) (some g)) := (ZG.set_th (HZ5.out.grow (grown_drew W5)) tgs_z rfl hlt (⟨t.card, t.owner, 4, z.nx, 0, 0, 0, 0, 0, 0, true⟩ : Th)).2
  have hgX : some X ≠ some g := by have := HbX.out.2; intro q; cases q; omega
  have hbg : some b ≠ some g := zg_bg HZ5.out tgs_z
  refine hK.out _ _ (⟨HG6.out.cell s0 hbg, grown_keep HG6.out HX5.out hgX⟩) (fun hHeld3 => ?_)
  clear hK K9
  (try go_frame)
  refine wpAnyH_done (by kernel_rfl) ?_ _
  have HFin : Hid (TnPost w b Sb (z.come ((k : Int) + 1) 4) (.tuple #[]) (.returned (.tuple #[])) (W5.drew.setCells g (k * 11) (thc (⟨t.card, t.owner, 4, z.nx, 0, 0, 0, 0, 0, 0, true⟩ : Th)))) := by
    refine ⟨rfl, _, ⟨_, _, _, _, _, HZ6.out.congr ?_ ?_ ?_ ?_ ?_ ?_⟩, HT1.out.trans (turn_in (kpt_then HK5.out (kpt_then (kpt_sub (grown_drew W5) (by simp)) (kpt_sub HG6.out (fun x hx => by cases hx; exact HZ1.out.inS (.slice (some ⟨g, 0, none⟩) z.ts.length cap) (by simp) g rfl)))) HT1.out.old)⟩
    · show z.ts.set (((k : Int) + 1) - 1).toNat (if (4 : Int) = 4 then (thAt z.ts ((k : Int) + 1)).tabled z.nx else _) = z.ts.set k _
      rw [show (((k : Int) + 1) - 1).toNat = k from by omega, if_pos rfl, ← HTT.out]
      rfl
    · show (if (4 : Int) = 4 then z.nx + 1 else z.nx) = z.nx + 1
      rw [if_pos rfl]
    · show (if (0 : Int) = (thAt z.ts ((k : Int) + 1)).owner then (z.dk 0).filter (· != ((k : Int) + 1)) ++ (if (4 : Int) = 1 then [(k : Int) + 1] else []) else z.dk 0) = (if (0 : Int) = (thAt z.ts ((k : Int) + 1)).owner then (z.dk 0).filter (· != ((k : Int) + 1)) else z.dk 0)
      rw [if_neg (c := (4 : Int) = 1) (by decide), List.append_nil]
    · show (if (1 : Int) = (thAt z.ts ((k : Int) + 1)).owner then (z.dk 1).filter (· != ((k : Int) + 1)) ++ (if (4 : Int) = 1 then [(k : Int) + 1] else []) else z.dk 1) = (if (1 : Int) = (thAt z.ts ((k : Int) + 1)).owner then (z.dk 1).filter (· != ((k : Int) + 1)) else z.dk 1)
      rw [if_neg (c := (4 : Int) = 1) (by decide), List.append_nil]
    · show (if (0 : Int) = (thAt z.ts ((k : Int) + 1)).owner then (z.hd 0).filter (· != ((k : Int) + 1)) ++ (if (4 : Int) = 2 then [(k : Int) + 1] else []) else z.hd 0) = (if (0 : Int) = (thAt z.ts ((k : Int) + 1)).owner then (z.hd 0).filter (· != ((k : Int) + 1)) else z.hd 0)
      rw [if_neg (c := (4 : Int) = 2) (by decide), List.append_nil]
    · show (if (1 : Int) = (thAt z.ts ((k : Int) + 1)).owner then (z.hd 1).filter (· != ((k : Int) + 1)) ++ (if (4 : Int) = 2 then [(k : Int) + 1] else []) else z.hd 1) = (if (1 : Int) = (thAt z.ts ((k : Int) + 1)).owner then (z.hd 1).filter (· != ((k : Int) + 1)) else z.hd 1)
      rw [if_neg (c := (4 : Int) = 2) (by decide), List.append_nil]
  clear HZ6 HG6 HZ5 HX5 HK5
  (try go_wp2)
  go_end0
  exact HFin.out
set_option maxRecDepth 100000 in
set_option maxHeartbeats 4000000 in
theorem come_else (b : Nat) (Sb : List Nat) (z : Zs) (n tp : Int) (w : World) (Z : ZAt w b Sb z) (F : z.Fine n) (hS : Old w Sb) (hf : z.ts.length ≤ 2048) (hd : ∀ p, p = 0 ∨ p = 1 → (z.dk p).length ≤ 2048) (hh : ∀ p, p = 0 ∨ p = 1 → (z.hd p).length ≤ 2048) (h1 : tp ≠ 1) (h2 : tp ≠ 2) (h4 : tp ≠ 4) : Calls Try.prog 65 #[.pointer (some ⟨b, 0, none⟩), .int .i64 n, .int .u8 tp] w (TnPost w b Sb (z.come n tp) (.tuple #[])) := by
  have HC := leave_any b Sb z n w Z F hS hf hd hh
  have hn := F.at_
  have hown := F.own
  obtain ⟨k, hk⟩ : ∃ k : Nat, n = (k : Int) + 1 := ⟨(n - 1).toNat, by unfold there at hn; omega⟩
  subst hk
  have hlt : k < z.ts.length := by unfold there at hn; omega
  obtain ⟨t, ht⟩ : ∃ t, t = thAt z.ts ((k : Int) + 1) := ⟨_, rfl⟩
  have HTT : Hid (t = thAt z.ts ((k : Int) + 1)) := ht
  have hw1 : wrap64 (k : Int) = (k : Int) := by unfold wrap64; omega
  have hw9 : IntKind.i64.wrap (k : Int) = (k : Int) := IntWalk.i64_in _ (by omega)
  have hlt' : (k : Int) < z.ts.length := by omega
  have HF : Hid (z.Fine ((k : Int) + 1)) := F
  have HSo : Hid (Old w Sb) := hS
  have Hdl : Hid (∀ p, p = 0 ∨ p = 1 → (z.dk p).length ≤ 2048) := hd
  have Hhl : Hid (∀ p, p = 0 ∨ p = 1 → (z.hd p).length ≤ 2048) := hh
  have HQ : Hid (tp ≠ 1 ∧ tp ≠ 2 ∧ tp ≠ 4) := ⟨h1, h2, h4⟩
  have q1 : (tp == 1) = false := by simpa using h1
  have q2 : (tp == 2) = false := by simpa using h2
  have q4 : (tp == 4) = false := by simpa using h4
  clear F hS hd hh hn hown ht h1 h2 h4
  go_enter Try.func65, Try.ntmps65
  go_wp2_with fail
  refine HC.mono ?_
  rintro e w1 ⟨rfl, S1, ⟨vt, d0, d1, h0, h1, Z1⟩, T1⟩
  obtain ⟨g, cap, rfl, R1⟩ := zg_at Z1 (k := k) (by rw [left_ts]; exact hlt)
  rw [left_ts, ← HTT.out] at R1
  obtain ⟨e1, e2, e3, e4, e5, e6, e7, e8, e9, e10, e11⟩ := range_cells R1
  obtain ⟨c0, c1, c2, c3, c4, c5⟩ := Z1.cell
  rw [left_ts] at c0
  rw [left_nx] at c5
  have AH := atHome_any t tp w1
  unfold thv at AH
  have HZ1 : Hid (ZG 93 [] w1 b S1 (z.left ((k : Int) + 1)) (.slice (some ⟨g, 0, none⟩) z.ts.length cap) d0 d1 h0 h1) := Z1
  have HT1 : Hid (Turn w w1 Sb S1) := T1
  clear Z1 T1 R1 HC
  go_wp2_with fail
  refine AH.mono ?_
  rintro e w2 ⟨rfl, g2⟩
  have HG2 : Hid (w1.grownBy w2 none) := g2
  obtain ⟨X, hX⟩ : ∃ X, X = w2.heap.size := ⟨_, rfl⟩
  have HX : Hid (X = w2.heap.size) := hX
  obtain ⟨W5, hV⟩ : ∃ W5, W5 = w2.alloc (.cells #[.int .i64 t.card, .int .i64 t.owner, .int .u8 tp, .int .i64 0, .int .i64 0, .int .i64 0, .int .i64 0, .int .i64 0, .int .i64 0, .int .i64 0, .bool false] 38) := ⟨_, rfl⟩
  have HV : Hid (W5 = w2.alloc (.cells #[.int .i64 t.card, .int .i64 t.owner, .int .u8 tp, .int .i64 0, .int .i64 0, .int .i64 0, .int .i64 0, .int .i64 0, .int .i64 0, .int .i64 0, .bool false] 38)) := hV
  have HGV : Hid (w1.grownBy W5 none) := by show w1.grownBy W5 none; rw [hV]; exact grown_push g2 _
  have HX5 : Hid (W5.heap[X]? = some (.cells #[.int .i64 t.card, .int .i64 t.owner, .int .u8 tp, .int .i64 0, .int .i64 0, .int .i64 0, .int .i64 0, .int .i64 0, .int .i64 0, .int .i64 0, .bool false] 38 (0, 0))) := by show W5.heap[X]? = _; rw [hV, hX]; exact alloc_at _ _ _
  have HbX : Hid (b < X ∧ g < X) := by
    show b < X ∧ g < X
    rw [hX]
    exact ⟨Nat.lt_of_lt_of_le (block_lt HZ1.out.blk) g2.size, Nat.lt_of_lt_of_le (own_lt HZ1.out.ts g rfl) g2.size⟩
  have HZ5 : Hid (ZG 93 [] W5 b S1 (z.left ((k : Int) + 1)) (.slice (some ⟨g, 0, none⟩) z.ts.length cap) d0 d1 h0 h1) := HZ1.out.grow HGV.out
  have HK5 : Hid (Kpt S1 w1 W5) := kpt_sub HGV.out (by simp)
  clear hX hV AH c0 c1 c2 c3 c4 c5 e1 e2 e3 e4 e5 e6 e7 e8 e9 e10 e11 g2
  go_upto_region 10 with fail
  rw [← HX.out, ← HV.out]
  have s0 : W5.cell? ⟨b, 0, none⟩ = some (.slice (some ⟨g, 0, none⟩) z.ts.length cap) := HZ5.out.cell.1
  refine wp_region_held_drew (S := fun w' => w'.cell? ⟨b, 0, none⟩ = some (.slice (some ⟨g, 0, none⟩) z.ts.length cap) ∧ w'.heap[X]? = some (.cells #[.int .i64 t.card, .int .i64 t.owner, .int .u8 tp, .int .i64 0, .int .i64 0, .int .i64 0, .int .i64 0, .int .i64 0, .int .i64 0, .int .i64 0, .bool false] 38 (0, 0))) (by kernel_rfl) (⟨s0, HX5.out⟩) (fun hHeld => ?_)
  refine wpAnyH_take (i := 0) (v := ?_) rfl (by kernel_rfl) (by kernel_rfl) (by kernel_rfl) (fun _ _ _ h => h) (Or.inl ⟨by rfl, ?_⟩) (by assumption) ?_
  rotate_left 1
  · (intro w0 hSw; go_simp; try with_reducible rfl)
  simp only [List.getElem_toArray, List.getElem_cons_zero]
  go_frame
  refine wpAnyH_take (i := 1) (v := ?_) rfl (by kernel_rfl) (by kernel_rfl) (by kernel_rfl) (fun _ _ _ h => h) (Or.inl ⟨by rfl, ?_⟩) (by assumption) ?_
  rotate_left 1
  · (intro w0 hSw; go_simp; try with_reducible rfl)
  simp only [List.getElem_toArray, List.getElem_cons_zero, List.getElem_cons_succ]
  go_frame
  refine wpAnyH_take (i := 2) (v := ?_) rfl (by kernel_rfl) (by kernel_rfl) (by kernel_rfl) (fun _ _ _ h => h) (Or.inl ⟨by rfl, ?_⟩) (by assumption) ?_
  rotate_left 1
  · (intro w0 hSw; go_simp; try with_reducible rfl)
  simp only [List.getElem_toArray, List.getElem_cons_zero, List.getElem_cons_succ]
  go_frame
  refine wpAnyH_take (i := 3) (v := ?_) rfl (by kernel_rfl) (by kernel_rfl) (by kernel_rfl) (fun _ _ _ h => h) (Or.inl ⟨by rfl, ?_⟩) (by assumption) ?_
  rotate_left 1
  · (intro w0 hSw; obtain ⟨q1, q2⟩ := hSw; go_simp; try with_reducible rfl)
  simp only [List.getElem_toArray, List.getElem_cons_zero, List.getElem_cons_succ]
  go_frame
  refine wpAnyH_take (i := 4) (v := ?_) rfl (by kernel_rfl) (by kernel_rfl) (by kernel_rfl) (fun _ _ _ h => h) (Or.inl ⟨by rfl, ?_⟩) (by assumption) ?_
  rotate_left 1
  · (intro w0 hSw; go_simp; try with_reducible rfl)
  simp only [List.getElem_toArray, List.getElem_cons_zero, List.getElem_cons_succ]
  go_frame
  refine wpAnyH_take (i := 5) (v := ?_) rfl (by kernel_rfl) (by kernel_rfl) (by kernel_rfl) (fun _ _ _ h => h) (Or.inl ⟨by rfl, ?_⟩) (by assumption) ?_
  rotate_left 1
  · (intro w0 hSw; go_simp; try with_reducible rfl)
  simp only [List.getElem_toArray, List.getElem_cons_zero, List.getElem_cons_succ]
  go_frame
  refine wpAnyH_take (i := 6) (v := ?_) rfl (by kernel_rfl) (by kernel_rfl) (by kernel_rfl) (fun _ _ _ h => h) (Or.inl ⟨by rfl, ?_⟩) (by assumption) ?_
  rotate_left 1
  · (intro w0 hSw; obtain ⟨q1, q2⟩ := hSw; have r0 := (block_cell q2 0).trans rfl; have r1 := (block_cell q2 1).trans rfl; have r2 := (block_cell q2 2).trans rfl; have r3 := (block_cell q2 3).trans rfl; have r4 := (block_cell q2 4).trans rfl; have r5 := (block_cell q2 5).trans rfl; have r6 := (block_cell q2 6).trans rfl; have r7 := (block_cell q2 7).trans rfl; have r8 := (block_cell q2 8).trans rfl; have r9 := (block_cell q2 9).trans rfl; have r10 := (block_cell q2 10).trans rfl; go_simp; try with_reducible rfl)
  simp only [List.getElem_toArray, List.getElem_cons_zero, List.getElem_cons_succ]
  go_frame
  refine wpAnyH_take (i := 7) (v := ?_) rfl (by kernel_rfl) (by kernel_rfl) (by kernel_rfl) (fun _ _ _ h => h) (Or.inl ⟨by rfl, ?_⟩) (by assumption) ?_
  rotate_left 1
  · (intro w0 hSw; go_simp; try with_reducible rfl)
  simp only [List.getElem_toArray, List.getElem_cons_zero, List.getElem_cons_succ]
  go_frame
  refine wpAnyH_ready (rs := [8]) (by kernel_rfl) (by simp) ?_
  refine AllReadyH.cons rfl (fun K9 hK => ?_) AllReadyH.nil
  simp only [List.getElem_toArray, List.getElem_cons_zero, List.getElem_cons_succ]
  rw [if_pos (by rfl)]
  refine wp_store_mid 38 (.tmp 79) (.tmp 78) rfl g (k * 11) (thc (⟨t.card, t.owner, tp, 0, 0, 0, 0, 0, 0, 0, false⟩ : Th)).toArray rfl rfl (own_thereT HZ5.out.ts rfl hlt) (by kernel_rfl) (thc_one _) ?_
  have HZ6 : Hid (ZG 93 [] (W5.drew.setCells g (k * 11) (thc (⟨t.card, t.owner, tp, 0, 0, 0, 0, 0, 0, 0, false⟩ : Th))) b S1 _ (.slice (some ⟨g, 0, none⟩) z.ts.length cap) d0 d1 h0 h1) := (ZG.set_th (HZ5.out.grow (grown_drew W5)) tgs_z rfl hlt (⟨t.card, t.owner, tp, 0, 0, 0, 0, 0, 0, 0, false⟩ : Th)).1
  have HG6 : Hid (W5.drew.grownBy (W5.drew.setCells g (k * 11) (thc (⟨t.card, t.owner, tp, 0, 0, 0, 0, 0, 0, 0, false⟩ : Th))) (some g)) := (ZG.set_th (HZ5.out.grow (grown_drew W5)) tgs_z rfl hlt (⟨t.card, t.owner, tp, 0, 0, 0, 0, 0, 0, 0, false⟩ : Th)).2
  have hgX : some X ≠ some g := by have := HbX.out.2; intro q; cases q; omega
  have hbg : some b ≠ some g := zg_bg HZ5.out tgs_z
  refine hK.out _ _ (⟨HG6.out.cell s0 hbg, grown_keep HG6.out HX5.out hgX⟩) (fun hHeld3 => ?_)
  clear hK K9
  (try go_frame)
  refine wpAnyH_done (by kernel_rfl) ?_ _
  have HFin : Hid (TnPost w b Sb (z.come ((k : Int) + 1) tp) (.tuple #[]) (.returned (.tuple #[])) (W5.drew.setCells g (k * 11) (thc (⟨t.card, t.owner, tp, 0, 0, 0, 0, 0, 0, 0, false⟩ : Th)))) := by
    refine ⟨rfl, _, ⟨_, _, _, _, _, HZ6.out.congr ?_ ?_ ?_ ?_ ?_ ?_⟩, HT1.out.trans (turn_in (kpt_then HK5.out (kpt_then (kpt_sub (grown_drew W5) (by simp)) (kpt_sub HG6.out (fun x hx => by cases hx; exact HZ1.out.inS (.slice (some ⟨g, 0, none⟩) z.ts.length cap) (by simp) g rfl)))) HT1.out.old)⟩
    · show z.ts.set (((k : Int) + 1) - 1).toNat (if tp = 4 then _ else (thAt z.ts ((k : Int) + 1)).home tp) = z.ts.set k _
      rw [show (((k : Int) + 1) - 1).toNat = k from by omega, if_neg HQ.out.2.2, ← HTT.out]
      rfl
    · show (if tp = 4 then z.nx + 1 else z.nx) = z.nx
      rw [if_neg HQ.out.2.2]
    · show (if (0 : Int) = (thAt z.ts ((k : Int) + 1)).owner then (z.dk 0).filter (· != ((k : Int) + 1)) ++ (if tp = 1 then [(k : Int) + 1] else []) else z.dk 0) = (if (0 : Int) = (thAt z.ts ((k : Int) + 1)).owner then (z.dk 0).filter (· != ((k : Int) + 1)) else z.dk 0)
      rw [if_neg (c := tp = 1) HQ.out.1, List.append_nil]
    · show (if (1 : Int) = (thAt z.ts ((k : Int) + 1)).owner then (z.dk 1).filter (· != ((k : Int) + 1)) ++ (if tp = 1 then [(k : Int) + 1] else []) else z.dk 1) = (if (1 : Int) = (thAt z.ts ((k : Int) + 1)).owner then (z.dk 1).filter (· != ((k : Int) + 1)) else z.dk 1)
      rw [if_neg (c := tp = 1) HQ.out.1, List.append_nil]
    · show (if (0 : Int) = (thAt z.ts ((k : Int) + 1)).owner then (z.hd 0).filter (· != ((k : Int) + 1)) ++ (if tp = 2 then [(k : Int) + 1] else []) else z.hd 0) = (if (0 : Int) = (thAt z.ts ((k : Int) + 1)).owner then (z.hd 0).filter (· != ((k : Int) + 1)) else z.hd 0)
      rw [if_neg (c := tp = 2) HQ.out.2.1, List.append_nil]
    · show (if (1 : Int) = (thAt z.ts ((k : Int) + 1)).owner then (z.hd 1).filter (· != ((k : Int) + 1)) ++ (if tp = 2 then [(k : Int) + 1] else []) else z.hd 1) = (if (1 : Int) = (thAt z.ts ((k : Int) + 1)).owner then (z.hd 1).filter (· != ((k : Int) + 1)) else z.hd 1)
      rw [if_neg (c := tp = 2) HQ.out.2.1, List.append_nil]
  clear HZ6 HG6 HZ5 HX5 HK5
  (try go_wp2)
  go_end0
  exact HFin.out
theorem come_any (b : Nat) (Sb : List Nat) (z : Zs) (n tp : Int) (w : World) (Z : ZAt w b Sb z) (F : z.Fine n) (hS : Old w Sb) (hf : z.ts.length ≤ 2048) (hd : ∀ p, p = 0 ∨ p = 1 → (z.dk p).length ≤ 2048) (hh : ∀ p, p = 0 ∨ p = 1 → (z.hd p).length ≤ 2048) (hx1 : 1 ≤ z.nx) (hx2 : tp = 4 → z.nx < 1099511627776) : Calls Try.prog 65 #[.pointer (some ⟨b, 0, none⟩), .int .i64 n, .int .u8 tp] w (TnPost w b Sb (z.come n tp) (.tuple #[])) := by
  by_cases h1 : tp = 1
  · subst h1
    rcases F.own with h | h
    · exact come_dk0 b Sb z n w Z F hS hf hd hh h
    · exact come_dk1 b Sb z n w Z F hS hf hd hh h
  · by_cases h2 : tp = 2
    · subst h2
      rcases F.own with h | h
      · exact come_hd0 b Sb z n w Z F hS hf hd hh h
      · exact come_hd1 b Sb z n w Z F hS hf hd hh h
    · by_cases h4 : tp = 4
      · subst h4
        exact come_table b Sb z n w Z F hS hf hd hh hx1 (hx2 rfl)
      · exact come_else b Sb z n tp w Z F hS hf hd hh h1 h2 h4
end Go.Proofs.Ytogpgldbbegniaa
