/-
  The law's sameWorld, of two worlds that are the same.
-/
import Derived.Test.YtogpgldbbegniaaZpW
namespace Go.Proofs.Ytogpgldbbegniaa
open Go.RowKit

theorem WoAt.grow {w w' : World} {base : Nat} {z : Zs} {vt d0 d1 h0 h1 : Value} (h : WoAt w base z vt d0 d1 h0 h1) (g : w.grownBy w' none) : WoAt w' base z vt d0 d1 h0 h1 := ⟨own_grow h.ts g, own_grow h.od0 g, own_grow h.od1 g, own_grow h.oh0 g, own_grow h.oh1 g⟩
theorem wo_cells {w : World} {X : Nat} {vt d0 d1 h0 h1 : Value} {nx : Int} (h : w.heap[X]? = some (.cells #[vt, d0, d1, h0, h1, .int .i64 nx] 32 (0, 0))) : w.cell? ⟨X, 0, none⟩ = some vt ∧ w.cell? ⟨X, 1, none⟩ = some d0 ∧ w.cell? ⟨X, 2, none⟩ = some d1 ∧ w.cell? ⟨X, 3, none⟩ = some h0 ∧ w.cell? ⟨X, 4, none⟩ = some h1 ∧ w.cell? ⟨X, 5, none⟩ = some (.int .i64 nx) := ⟨(block_cell h 0).trans rfl, (block_cell h 1).trans rfl, (block_cell h 2).trans rfl, (block_cell h 3).trans rfl, (block_cell h 4).trans rfl, (block_cell h 5).trans rfl⟩
set_option maxRecDepth 100000 in
set_option maxHeartbeats 4000000 in
theorem sameWorld_eq (z : Zs) (vt d0 d1 h0 h1 vt2 e0 e1 k0 k1 : Value) (b1 b2 : Nat) (w : World) (P : WoAt w b1 z vt d0 d1 h0 h1) (Q : WoAt w b2 z vt2 e0 e1 k0 k1) : Calls Try.prog 11 #[wov z vt d0 d1 h0 h1, wov z vt2 e0 e1 k0 k1] w fun e w' => e = .returned (.bool true) ∧ w.grownBy w' none := by
  unfold wov
  obtain ⟨V, hV⟩ : ∃ V, V = (w.alloc (.cells #[vt, d0, d1, h0, h1, .int .i64 z.nx] 32)).alloc (.cells #[vt2, e0, e1, k0, k1, .int .i64 z.nx] 32) := ⟨_, rfl⟩
  have HV : Hid (V = (w.alloc (.cells #[vt, d0, d1, h0, h1, .int .i64 z.nx] 32)).alloc (.cells #[vt2, e0, e1, k0, k1, .int .i64 z.nx] 32)) := hV
  obtain ⟨X, hX⟩ : ∃ X, X = w.heap.size := ⟨_, rfl⟩
  have HX : Hid (X = w.heap.size) := hX
  have HGV : Hid (w.grownBy V none) := by show w.grownBy V none; rw [hV]; exact grown_push (World.grownBy_alloc _ _ none) _
  have HBx : Hid (V.heap[X]? = some (.cells #[vt, d0, d1, h0, h1, .int .i64 z.nx] 32 (0, 0))) := by
    show V.heap[X]? = _
    rw [hV, hX]
    exact grown_keep (World.grownBy_alloc _ _ none) (alloc_at _ _ _) (by simp)
  have HBy : Hid (V.heap[X + 1]? = some (.cells #[vt2, e0, e1, k0, k1, .int .i64 z.nx] 32 (0, 0))) := by
    show V.heap[X + 1]? = _
    rw [hV, hX]
    have := alloc_at (w.alloc (.cells #[vt, d0, d1, h0, h1, .int .i64 z.nx] 32)) #[vt2, e0, e1, k0, k1, .int .i64 z.nx] 32
    rw [World.size_alloc] at this
    exact this
  have HP : Hid (WoAt w b1 z vt d0 d1 h0 h1) := P
  have HQ : Hid (WoAt w b2 z vt2 e0 e1 k0 k1) := Q
  have C1 := sameT_any vt vt2 z.ts z.ts V (P.grow HGV.out).ts.at (Q.grow HGV.out).ts.at
  obtain ⟨x0, x1, x2, x3, x4, x5⟩ := wo_cells HBx.out
  obtain ⟨y0, y1, y2, y3, y4, y5⟩ := wo_cells HBy.out
  rw [hX] at x0 x1 x2 x3 x4 x5 y0 y1 y2 y3 y4 y5
  rw [hV] at x0 x1 x2 x3 x4 x5 y0 y1 y2 y3 y4 y5 C1
  clear hX hV P Q
  go_enter Try.func11, Try.ntmps11
  go_wp2_with fail
  refine C1.mono ?_
  rintro e w1 ⟨r, rfl, hr, n1, h1'⟩
  obtain rfl : r = true := hr.2 rfl
  have HG1 : Hid (V.grownBy w1 none) := by show V.grownBy w1 none; rw [h1', ← HV.out]; exact grown_drewN _ _ _
  clear C1 hr h1' x0 x1 x2 x3 x4 x5 y0 y1 y2 y3 y4 y5
  obtain ⟨x0, x1, x2, x3, x4, x5⟩ := wo_cells (grown_keep HG1.out HBx.out (by simp))
  obtain ⟨y0, y1, y2, y3, y4, y5⟩ := wo_cells (grown_keep HG1.out HBy.out (by simp))
  rw [HX.out] at x0 x1 x2 x3 x4 x5 y0 y1 y2 y3 y4 y5
  go_wp2
  clear x0 x1 x2 x3 x4 x5 y0 y1 y2 y3 y4 y5
  rw [← HX.out]
  go_loopw [5] (fun i wr => ∃ p : Nat, p ≤ 2 ∧ i = .int .i64 (p : Int) ∧ V.grownBy wr none) (fun i _ => 2 - (intOf i).toNat)
  case atStart => exact ⟨0, Nat.zero_le _, rfl, HG1.out⟩
  case round =>
    obtain ⟨p, hp, rfl, g⟩ := hrel
    have HG : Hid (V.grownBy wr none) := g
    clear g HG1
    rcases (show p = 0 ∨ p = 1 ∨ p = 2 from by omega) with rfl | rfl | rfl
    · clear hp
      go_upto_region 6 with fail
      have C3 := L.same_ints d0 e0 (z.dk 0) (z.dk 0) wr.drew ((HP.out.grow (grown_trans HGV.out (grown_trans HG.out (grown_drew wr)))).od0.l.ints) ((HQ.out.grow (grown_trans HGV.out (grown_trans HG.out (grown_drew wr)))).od0.l.ints)
      rw [decide_eq_true rfl] at C3
      refine wp_region_held_drew (S := fun w' => w'.heap[X]? = some (.cells #[vt, d0, d1, h0, h1, .int .i64 z.nx] 32 (0, 0)) ∧ w'.heap[X + 1]? = some (.cells #[vt2, e0, e1, k0, k1, .int .i64 z.nx] 32 (0, 0))) (by kernel_rfl) (⟨grown_keep (grown_trans HG.out (grown_drew wr)) HBx.out (by simp), grown_keep (grown_trans HG.out (grown_drew wr)) HBy.out (by simp)⟩) (fun hHeld => ?_)
      refine wpAnyH_take (i := 0) (v := ?_) rfl (by kernel_rfl) (by kernel_rfl) (by kernel_rfl) (fun _ _ _ h => h) (Or.inl ⟨by rfl, ?_⟩) (by assumption) ?_
      rotate_left 1
      · (intro w0 hSw; go_simp; try with_reducible rfl)
      simp only [List.getElem_toArray, List.getElem_cons_zero]
      go_frame
      refine wpAnyH_take (i := 1) (v := ?_) rfl (by kernel_rfl) (by kernel_rfl) (by kernel_rfl) (fun _ _ _ h => h) (Or.inl ⟨by rfl, ?_⟩) (by assumption) ?_
      rotate_left 1
      · (intro w0 hSw; go_simp; try with_reducible rfl)
      simp only [List.getElem_toArray, List.getElem_cons_zero, List.getElem_cons_succ]
      go_frame
      refine wpAnyH_take (i := 2) (v := ?_) rfl (by kernel_rfl) (by kernel_rfl) (by kernel_rfl) (fun _ _ _ h => h) (Or.inl ⟨by rfl, ?_⟩) (by assumption) ?_
      rotate_left 1
      · (intro w0 hSw; go_simp; try with_reducible rfl)
      simp only [List.getElem_toArray, List.getElem_cons_zero, List.getElem_cons_succ]
      go_frame
      refine wpAnyH_take (i := 3) (v := ?_) rfl (by kernel_rfl) (by kernel_rfl) (by kernel_rfl) (fun _ _ _ h => h) (Or.inl ⟨by rfl, ?_⟩) (by assumption) ?_
      rotate_left 1
      · (intro w0 hSw; obtain ⟨r0, r1, r2, r3, r4, r5⟩ := wo_cells hSw.1; go_simp; try with_reducible rfl)
      simp only [List.getElem_toArray, List.getElem_cons_zero, List.getElem_cons_succ]
      go_frame
      refine wpAnyH_take (i := 4) (v := ?_) rfl (by kernel_rfl) (by kernel_rfl) (by kernel_rfl) (fun _ _ _ h => h) (Or.inl ⟨by rfl, ?_⟩) (by assumption) ?_
      rotate_left 1
      · (intro w0 hSw; go_simp; try with_reducible rfl)
      simp only [List.getElem_toArray, List.getElem_cons_zero, List.getElem_cons_succ]
      go_frame
      refine wpAnyH_take (i := 5) (v := ?_) rfl (by kernel_rfl) (by kernel_rfl) (by kernel_rfl) (fun _ _ _ h => h) (Or.inl ⟨by rfl, ?_⟩) (by assumption) ?_
      rotate_left 1
      · (intro w0 hSw; go_simp; try with_reducible rfl)
      simp only [List.getElem_toArray, List.getElem_cons_zero, List.getElem_cons_succ]
      go_frame
      refine wpAnyH_take (i := 6) (v := ?_) rfl (by kernel_rfl) (by kernel_rfl) (by kernel_rfl) (fun _ _ _ h => h) (Or.inl ⟨by rfl, ?_⟩) (by assumption) ?_
      rotate_left 1
      · (intro w0 hSw; go_simp; try with_reducible rfl)
      simp only [List.getElem_toArray, List.getElem_cons_zero, List.getElem_cons_succ]
      go_frame
      refine wpAnyH_take (i := 7) (v := ?_) rfl (by kernel_rfl) (by kernel_rfl) (by kernel_rfl) (fun _ _ _ h => h) (Or.inl ⟨by rfl, ?_⟩) (by assumption) ?_
      rotate_left 1
      · (intro w0 hSw; obtain ⟨r0, r1, r2, r3, r4, r5⟩ := wo_cells hSw.2; go_simp; try with_reducible rfl)
      simp only [List.getElem_toArray, List.getElem_cons_zero, List.getElem_cons_succ]
      go_frame
      refine wpAnyH_ready (rs := [8]) (by kernel_rfl) (by simp) ?_
      refine AllReadyH.cons rfl (fun K hK => ?_) AllReadyH.nil
      simp only [List.getElem_toArray, List.getElem_cons_zero, List.getElem_cons_succ]
      go_simp
      go_at_call 24
      refine (C3).mono ?_
      rintro e w3 ⟨rfl, n3, h3⟩
      have HG3 : Hid (V.grownBy w3 none) := by show V.grownBy w3 none; rw [h3]; exact grown_trans HG.out (grown_trans (grown_drew wr) (grown_drewN _ _ _))
      have C4 := L.same_ints h0 k0 (z.hd 0) (z.hd 0) w3 ((HP.out.grow (grown_trans HGV.out HG3.out)).oh0.l.ints) ((HQ.out.grow (grown_trans HGV.out HG3.out)).oh0.l.ints)
      rw [decide_eq_true rfl] at C4
      clear h3 C3
      refine hK.out _ _ (⟨grown_keep (HG3.out) HBx.out (by simp), grown_keep (HG3.out) HBy.out (by simp)⟩) (fun hHeld2 => ?_)
      clear hK K
      (try go_frame)
      refine wpAnyH_take (i := 9) (v := ?_) rfl (by kernel_rfl) (by kernel_rfl) (by kernel_rfl) (fun _ _ _ h => h) (Or.inl ⟨by rfl, ?_⟩) (by assumption) ?_
      rotate_left 1
      · (intro w0 hSw; go_simp; try with_reducible rfl)
      simp only [List.getElem_toArray, List.getElem_cons_zero, List.getElem_cons_succ]
      go_frame
      refine wpAnyH_take (i := 10) (v := ?_) rfl (by kernel_rfl) (by kernel_rfl) (by kernel_rfl) (fun _ _ _ h => h) (Or.inl ⟨by rfl, ?_⟩) (by assumption) ?_
      rotate_left 1
      · (intro w0 hSw; go_simp; try with_reducible rfl)
      simp only [List.getElem_toArray, List.getElem_cons_zero, List.getElem_cons_succ]
      go_frame
      refine wpAnyH_take (i := 11) (v := ?_) rfl (by kernel_rfl) (by kernel_rfl) (by kernel_rfl) (fun _ _ _ h => h) (Or.inl ⟨by rfl, ?_⟩) (by assumption) ?_
      rotate_left 1
      · (intro w0 hSw; go_simp; try with_reducible rfl)
      simp only [List.getElem_toArray, List.getElem_cons_zero, List.getElem_cons_succ]
      go_frame
      refine wpAnyH_take (i := 12) (v := ?_) rfl (by kernel_rfl) (by kernel_rfl) (by kernel_rfl) (fun _ _ _ h => h) (Or.inl ⟨by rfl, ?_⟩) (by assumption) ?_
      rotate_left 1
      · (intro w0 hSw; go_simp; try with_reducible rfl)
      simp only [List.getElem_toArray, List.getElem_cons_zero, List.getElem_cons_succ]
      go_frame
      refine wpAnyH_take (i := 13) (v := ?_) rfl (by kernel_rfl) (by kernel_rfl) (by kernel_rfl) (fun _ _ _ h => h) (Or.inl ⟨by rfl, ?_⟩) (by assumption) ?_
      rotate_left 1
      · (intro w0 hSw; go_simp; try with_reducible rfl)
      simp only [List.getElem_toArray, List.getElem_cons_zero, List.getElem_cons_succ]
      go_frame
      refine wpAnyH_take (i := 14) (v := ?_) rfl (by kernel_rfl) (by kernel_rfl) (by kernel_rfl) (fun _ _ _ h => h) (Or.inl ⟨by rfl, ?_⟩) (by assumption) ?_
      rotate_left 1
      · (intro w0 hSw; obtain ⟨r0, r1, r2, r3, r4, r5⟩ := wo_cells hSw.1; go_simp; try with_reducible rfl)
      simp only [List.getElem_toArray, List.getElem_cons_zero, List.getElem_cons_succ]
      go_frame
      refine wpAnyH_take (i := 15) (v := ?_) rfl (by kernel_rfl) (by kernel_rfl) (by kernel_rfl) (fun _ _ _ h => h) (Or.inl ⟨by rfl, ?_⟩) (by assumption) ?_
      rotate_left 1
      · (intro w0 hSw; go_simp; try with_reducible rfl)
      simp only [List.getElem_toArray, List.getElem_cons_zero, List.getElem_cons_succ]
      go_frame
      refine wpAnyH_take (i := 16) (v := ?_) rfl (by kernel_rfl) (by kernel_rfl) (by kernel_rfl) (fun _ _ _ h => h) (Or.inl ⟨by rfl, ?_⟩) (by assumption) ?_
      rotate_left 1
      · (intro w0 hSw; go_simp; try with_reducible rfl)
      simp only [List.getElem_toArray, List.getElem_cons_zero, List.getElem_cons_succ]
      go_frame
      refine wpAnyH_take (i := 17) (v := ?_) rfl (by kernel_rfl) (by kernel_rfl) (by kernel_rfl) (fun _ _ _ h => h) (Or.inl ⟨by rfl, ?_⟩) (by assumption) ?_
      rotate_left 1
      · (intro w0 hSw; go_simp; try with_reducible rfl)
      simp only [List.getElem_toArray, List.getElem_cons_zero, List.getElem_cons_succ]
      go_frame
      refine wpAnyH_take (i := 18) (v := ?_) rfl (by kernel_rfl) (by kernel_rfl) (by kernel_rfl) (fun _ _ _ h => h) (Or.inl ⟨by rfl, ?_⟩) (by assumption) ?_
      rotate_left 1
      · (intro w0 hSw; obtain ⟨r0, r1, r2, r3, r4, r5⟩ := wo_cells hSw.2; go_simp; try with_reducible rfl)
      simp only [List.getElem_toArray, List.getElem_cons_zero, List.getElem_cons_succ]
      go_frame
      refine wpAnyH_ready (rs := [19]) (by kernel_rfl) (by simp) ?_
      refine AllReadyH.cons rfl (fun K hK => ?_) AllReadyH.nil
      simp only [List.getElem_toArray, List.getElem_cons_zero, List.getElem_cons_succ]
      rw [if_pos (by rfl)]
      go_simp
      go_at_call 24
      refine (C4).mono ?_
      rintro e w4 ⟨rfl, n4, h4⟩
      have HG4 : Hid (V.grownBy w4 none) := by show V.grownBy w4 none; rw [h4]; exact grown_trans HG3.out (grown_drewN _ _ _)
      clear h4 C4
      refine hK.out _ _ (⟨grown_keep (HG4.out) HBx.out (by simp), grown_keep (HG4.out) HBy.out (by simp)⟩) (fun hHeld2 => ?_)
      clear hK K
      (try go_frame)
      refine wpAnyH_take (i := 20) (v := ?_) rfl (by kernel_rfl) (by kernel_rfl) (by kernel_rfl) (fun _ _ _ h => h) (Or.inl ⟨by rfl, ?_⟩) (by assumption) ?_
      rotate_left 1
      · (intro w0 hSw; go_simp; try with_reducible rfl)
      simp only [List.getElem_toArray, List.getElem_cons_zero, List.getElem_cons_succ]
      go_frame
      refine wpAnyH_take (i := 21) (v := ?_) rfl (by kernel_rfl) (by kernel_rfl) (by kernel_rfl) (fun _ _ _ h => h) (Or.inl ⟨by rfl, ?_⟩) (by assumption) ?_
      rotate_left 1
      · (intro w0 hSw; go_simp; try with_reducible rfl)
      simp only [List.getElem_toArray, List.getElem_cons_zero, List.getElem_cons_succ]
      go_frame
      refine wpAnyH_done (by kernel_rfl) ?_ _
      clear hHeld HG3 HG
      go_wp2
      exact ⟨⟨1, by decide, rfl, HG4.out⟩, by decide⟩
    · clear hp
      go_upto_region 6 with fail
      have C3 := L.same_ints d1 e1 (z.dk 1) (z.dk 1) wr.drew ((HP.out.grow (grown_trans HGV.out (grown_trans HG.out (grown_drew wr)))).od1.l.ints) ((HQ.out.grow (grown_trans HGV.out (grown_trans HG.out (grown_drew wr)))).od1.l.ints)
      rw [decide_eq_true rfl] at C3
      refine wp_region_held_drew (S := fun w' => w'.heap[X]? = some (.cells #[vt, d0, d1, h0, h1, .int .i64 z.nx] 32 (0, 0)) ∧ w'.heap[X + 1]? = some (.cells #[vt2, e0, e1, k0, k1, .int .i64 z.nx] 32 (0, 0))) (by kernel_rfl) (⟨grown_keep (grown_trans HG.out (grown_drew wr)) HBx.out (by simp), grown_keep (grown_trans HG.out (grown_drew wr)) HBy.out (by simp)⟩) (fun hHeld => ?_)
      refine wpAnyH_take (i := 0) (v := ?_) rfl (by kernel_rfl) (by kernel_rfl) (by kernel_rfl) (fun _ _ _ h => h) (Or.inl ⟨by rfl, ?_⟩) (by assumption) ?_
      rotate_left 1
      · (intro w0 hSw; go_simp; try with_reducible rfl)
      simp only [List.getElem_toArray, List.getElem_cons_zero]
      go_frame
      refine wpAnyH_take (i := 1) (v := ?_) rfl (by kernel_rfl) (by kernel_rfl) (by kernel_rfl) (fun _ _ _ h => h) (Or.inl ⟨by rfl, ?_⟩) (by assumption) ?_
      rotate_left 1
      · (intro w0 hSw; go_simp; try with_reducible rfl)
      simp only [List.getElem_toArray, List.getElem_cons_zero, List.getElem_cons_succ]
      go_frame
      refine wpAnyH_take (i := 2) (v := ?_) rfl (by kernel_rfl) (by kernel_rfl) (by kernel_rfl) (fun _ _ _ h => h) (Or.inl ⟨by rfl, ?_⟩) (by assumption) ?_
      rotate_left 1
      · (intro w0 hSw; go_simp; try with_reducible rfl)
      simp only [List.getElem_toArray, List.getElem_cons_zero, List.getElem_cons_succ]
      go_frame
      refine wpAnyH_take (i := 3) (v := ?_) rfl (by kernel_rfl) (by kernel_rfl) (by kernel_rfl) (fun _ _ _ h => h) (Or.inl ⟨by rfl, ?_⟩) (by assumption) ?_
      rotate_left 1
      · (intro w0 hSw; obtain ⟨r0, r1, r2, r3, r4, r5⟩ := wo_cells hSw.1; go_simp; try with_reducible rfl)
      simp only [List.getElem_toArray, List.getElem_cons_zero, List.getElem_cons_succ]
      go_frame
      refine wpAnyH_take (i := 4) (v := ?_) rfl (by kernel_rfl) (by kernel_rfl) (by kernel_rfl) (fun _ _ _ h => h) (Or.inl ⟨by rfl, ?_⟩) (by assumption) ?_
      rotate_left 1
      · (intro w0 hSw; go_simp; try with_reducible rfl)
      simp only [List.getElem_toArray, List.getElem_cons_zero, List.getElem_cons_succ]
      go_frame
      refine wpAnyH_take (i := 5) (v := ?_) rfl (by kernel_rfl) (by kernel_rfl) (by kernel_rfl) (fun _ _ _ h => h) (Or.inl ⟨by rfl, ?_⟩) (by assumption) ?_
      rotate_left 1
      · (intro w0 hSw; go_simp; try with_reducible rfl)
      simp only [List.getElem_toArray, List.getElem_cons_zero, List.getElem_cons_succ]
      go_frame
      refine wpAnyH_take (i := 6) (v := ?_) rfl (by kernel_rfl) (by kernel_rfl) (by kernel_rfl) (fun _ _ _ h => h) (Or.inl ⟨by rfl, ?_⟩) (by assumption) ?_
      rotate_left 1
      · (intro w0 hSw; go_simp; try with_reducible rfl)
      simp only [List.getElem_toArray, List.getElem_cons_zero, List.getElem_cons_succ]
      go_frame
      refine wpAnyH_take (i := 7) (v := ?_) rfl (by kernel_rfl) (by kernel_rfl) (by kernel_rfl) (fun _ _ _ h => h) (Or.inl ⟨by rfl, ?_⟩) (by assumption) ?_
      rotate_left 1
      · (intro w0 hSw; obtain ⟨r0, r1, r2, r3, r4, r5⟩ := wo_cells hSw.2; go_simp; try with_reducible rfl)
      simp only [List.getElem_toArray, List.getElem_cons_zero, List.getElem_cons_succ]
      go_frame
      refine wpAnyH_ready (rs := [8]) (by kernel_rfl) (by simp) ?_
      refine AllReadyH.cons rfl (fun K hK => ?_) AllReadyH.nil
      simp only [List.getElem_toArray, List.getElem_cons_zero, List.getElem_cons_succ]
      go_simp
      go_at_call 24
      refine (C3).mono ?_
      rintro e w3 ⟨rfl, n3, h3⟩
      have HG3 : Hid (V.grownBy w3 none) := by show V.grownBy w3 none; rw [h3]; exact grown_trans HG.out (grown_trans (grown_drew wr) (grown_drewN _ _ _))
      have C4 := L.same_ints h1 k1 (z.hd 1) (z.hd 1) w3 ((HP.out.grow (grown_trans HGV.out HG3.out)).oh1.l.ints) ((HQ.out.grow (grown_trans HGV.out HG3.out)).oh1.l.ints)
      rw [decide_eq_true rfl] at C4
      clear h3 C3
      refine hK.out _ _ (⟨grown_keep (HG3.out) HBx.out (by simp), grown_keep (HG3.out) HBy.out (by simp)⟩) (fun hHeld2 => ?_)
      clear hK K
      (try go_frame)
      refine wpAnyH_take (i := 9) (v := ?_) rfl (by kernel_rfl) (by kernel_rfl) (by kernel_rfl) (fun _ _ _ h => h) (Or.inl ⟨by rfl, ?_⟩) (by assumption) ?_
      rotate_left 1
      · (intro w0 hSw; go_simp; try with_reducible rfl)
      simp only [List.getElem_toArray, List.getElem_cons_zero, List.getElem_cons_succ]
      go_frame
      refine wpAnyH_take (i := 10) (v := ?_) rfl (by kernel_rfl) (by kernel_rfl) (by kernel_rfl) (fun _ _ _ h => h) (Or.inl ⟨by rfl, ?_⟩) (by assumption) ?_
      rotate_left 1
      · (intro w0 hSw; go_simp; try with_reducible rfl)
      simp only [List.getElem_toArray, List.getElem_cons_zero, List.getElem_cons_succ]
      go_frame
      refine wpAnyH_take (i := 11) (v := ?_) rfl (by kernel_rfl) (by kernel_rfl) (by kernel_rfl) (fun _ _ _ h => h) (Or.inl ⟨by rfl, ?_⟩) (by assumption) ?_
      rotate_left 1
      · (intro w0 hSw; go_simp; try with_reducible rfl)
      simp only [List.getElem_toArray, List.getElem_cons_zero, List.getElem_cons_succ]
      go_frame
      refine wpAnyH_take (i := 12) (v := ?_) rfl (by kernel_rfl) (by kernel_rfl) (by kernel_rfl) (fun _ _ _ h => h) (Or.inl ⟨by rfl, ?_⟩) (by assumption) ?_
      rotate_left 1
      · (intro w0 hSw; go_simp; try with_reducible rfl)
      simp only [List.getElem_toArray, List.getElem_cons_zero, List.getElem_cons_succ]
      go_frame
      refine wpAnyH_take (i := 13) (v := ?_) rfl (by kernel_rfl) (by kernel_rfl) (by kernel_rfl) (fun _ _ _ h => h) (Or.inl ⟨by rfl, ?_⟩) (by assumption) ?_
      rotate_left 1
      · (intro w0 hSw; go_simp; try with_reducible rfl)
      simp only [List.getElem_toArray, List.getElem_cons_zero, List.getElem_cons_succ]
      go_frame
      refine wpAnyH_take (i := 14) (v := ?_) rfl (by kernel_rfl) (by kernel_rfl) (by kernel_rfl) (fun _ _ _ h => h) (Or.inl ⟨by rfl, ?_⟩) (by assumption) ?_
      rotate_left 1
      · (intro w0 hSw; obtain ⟨r0, r1, r2, r3, r4, r5⟩ := wo_cells hSw.1; go_simp; try with_reducible rfl)
      simp only [List.getElem_toArray, List.getElem_cons_zero, List.getElem_cons_succ]
      go_frame
      refine wpAnyH_take (i := 15) (v := ?_) rfl (by kernel_rfl) (by kernel_rfl) (by kernel_rfl) (fun _ _ _ h => h) (Or.inl ⟨by rfl, ?_⟩) (by assumption) ?_
      rotate_left 1
      · (intro w0 hSw; go_simp; try with_reducible rfl)
      simp only [List.getElem_toArray, List.getElem_cons_zero, List.getElem_cons_succ]
      go_frame
      refine wpAnyH_take (i := 16) (v := ?_) rfl (by kernel_rfl) (by kernel_rfl) (by kernel_rfl) (fun _ _ _ h => h) (Or.inl ⟨by rfl, ?_⟩) (by assumption) ?_
      rotate_left 1
      · (intro w0 hSw; go_simp; try with_reducible rfl)
      simp only [List.getElem_toArray, List.getElem_cons_zero, List.getElem_cons_succ]
      go_frame
      refine wpAnyH_take (i := 17) (v := ?_) rfl (by kernel_rfl) (by kernel_rfl) (by kernel_rfl) (fun _ _ _ h => h) (Or.inl ⟨by rfl, ?_⟩) (by assumption) ?_
      rotate_left 1
      · (intro w0 hSw; go_simp; try with_reducible rfl)
      simp only [List.getElem_toArray, List.getElem_cons_zero, List.getElem_cons_succ]
      go_frame
      refine wpAnyH_take (i := 18) (v := ?_) rfl (by kernel_rfl) (by kernel_rfl) (by kernel_rfl) (fun _ _ _ h => h) (Or.inl ⟨by rfl, ?_⟩) (by assumption) ?_
      rotate_left 1
      · (intro w0 hSw; obtain ⟨r0, r1, r2, r3, r4, r5⟩ := wo_cells hSw.2; go_simp; try with_reducible rfl)
      simp only [List.getElem_toArray, List.getElem_cons_zero, List.getElem_cons_succ]
      go_frame
      refine wpAnyH_ready (rs := [19]) (by kernel_rfl) (by simp) ?_
      refine AllReadyH.cons rfl (fun K hK => ?_) AllReadyH.nil
      simp only [List.getElem_toArray, List.getElem_cons_zero, List.getElem_cons_succ]
      rw [if_pos (by rfl)]
      go_simp
      go_at_call 24
      refine (C4).mono ?_
      rintro e w4 ⟨rfl, n4, h4⟩
      have HG4 : Hid (V.grownBy w4 none) := by show V.grownBy w4 none; rw [h4]; exact grown_trans HG3.out (grown_drewN _ _ _)
      clear h4 C4
      refine hK.out _ _ (⟨grown_keep (HG4.out) HBx.out (by simp), grown_keep (HG4.out) HBy.out (by simp)⟩) (fun hHeld2 => ?_)
      clear hK K
      (try go_frame)
      refine wpAnyH_take (i := 20) (v := ?_) rfl (by kernel_rfl) (by kernel_rfl) (by kernel_rfl) (fun _ _ _ h => h) (Or.inl ⟨by rfl, ?_⟩) (by assumption) ?_
      rotate_left 1
      · (intro w0 hSw; go_simp; try with_reducible rfl)
      simp only [List.getElem_toArray, List.getElem_cons_zero, List.getElem_cons_succ]
      go_frame
      refine wpAnyH_take (i := 21) (v := ?_) rfl (by kernel_rfl) (by kernel_rfl) (by kernel_rfl) (fun _ _ _ h => h) (Or.inl ⟨by rfl, ?_⟩) (by assumption) ?_
      rotate_left 1
      · (intro w0 hSw; go_simp; try with_reducible rfl)
      simp only [List.getElem_toArray, List.getElem_cons_zero, List.getElem_cons_succ]
      go_frame
      refine wpAnyH_done (by kernel_rfl) ?_ _
      clear hHeld HG3 HG
      go_wp2
      exact ⟨⟨2, by decide, rfl, HG4.out⟩, by decide⟩
    · have HF : Hid (w.grownBy wr none) := grown_trans HGV.out HG.out
      clear hp
      go_wp2
      go_ret
      exact ⟨rfl, HF.out⟩
end Go.Proofs.Ytogpgldbbegniaa
