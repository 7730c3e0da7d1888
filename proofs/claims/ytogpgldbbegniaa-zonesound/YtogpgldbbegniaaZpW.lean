/-
  The law's whole: all that zones are.
-/
import Derived.Test.YtogpgldbbegniaaZpD
namespace Go.Proofs.Ytogpgldbbegniaa
open Go.RowKit

theorem inOf_dk0 (z : Zs) : z.inOf 0 1 = z.dk 0 := by unfold Zs.inOf; rw [if_pos (by decide), if_pos rfl]
theorem inOf_dk1 (z : Zs) : z.inOf 1 1 = z.dk 1 := by unfold Zs.inOf; rw [if_pos (by decide), if_pos rfl]
theorem inOf_hd0 (z : Zs) : z.inOf 0 2 = z.hd 0 := by unfold Zs.inOf; rw [if_pos (by decide), if_neg (by decide), if_pos rfl]
theorem inOf_hd1 (z : Zs) : z.inOf 1 2 = z.hd 1 := by unfold Zs.inOf; rw [if_pos (by decide), if_neg (by decide), if_pos rfl]
/-- A world of lists of the call's own. -/
structure WoAt (w : World) (base : Nat) (z : Zs) (vt d0 d1 h0 h1 : Value) : Prop where
  ts : OwnT w base vt z.ts
  od0 : OwnI w base d0 (z.dk 0)
  od1 : OwnI w base d1 (z.dk 1)
  oh0 : OwnI w base h0 (z.hd 0)
  oh1 : OwnI w base h1 (z.hd 1)
def wov (z : Zs) (vt d0 d1 h0 h1 : Value) : Value := .agg #[vt, d0, d1, h0, h1, .int .i64 z.nx]
def WhPost (w : World) (z : Zs) (e : Ending) (w' : World) : Prop := ∃ vt d0 d1 h0 h1, e = .returned (wov z vt d0 d1 h0 h1) ∧ WoAt w' w.heap.size z vt d0 d1 h0 h1 ∧ w.grownBy w' none
/-- While the world is written. -/
structure WhS (w wr : World) (X : Nat) (z : Zs) (vt d0 d1 h0 h1 : Value) : Prop where
  g : w.grownBy wr none
  y : wr.heap[w.heap.size]? = some (.cells #[.slice none 0 0, .slice none 0 0, .slice none 0 0, .slice none 0 0, .slice none 0 0, .int .i64 0] 32 (0, 0))
  x : wr.heap[X]? = some (.cells #[vt, d0, d1, h0, h1, .int .i64 z.nx] 32 (0, 0))
  X : w.heap.size < X
  ts : OwnT wr w.heap.size vt z.ts
theorem WhS.grow {w wr w2 : World} {X : Nat} {z : Zs} {vt d0 d1 h0 h1 : Value} (h : WhS w wr X z vt d0 d1 h0 h1) (g : wr.grownBy w2 none) : WhS w w2 X z vt d0 d1 h0 h1 := ⟨grown_trans h.g g, grown_keep g h.y (by simp), grown_keep g h.x (by simp), h.X, own_grow h.ts g⟩
theorem WhS.step0 {w wr : World} {X : Nat} {z : Zs} {vt d0 d1 h0 h1 v u : Value} (h : WhS w wr X z vt d0 d1 h0 h1) : WhS w ((wr.setCell ⟨X, 1, none⟩ v).setCell ⟨X, 3, none⟩ u) X z vt v d1 u h1 := by
  have g : wr.grownBy ((wr.setCell ⟨X, 1, none⟩ v).setCell ⟨X, 3, none⟩ u) (some X) := grown_trans (grown_set _ _ _ _) (grown_set _ _ _ _)
  exact ⟨grown_own h.g g (fun x e => by cases e; exact Nat.le_of_lt h.X), grown_keep g h.y (by intro q; cases q; exact absurd h.X (Nat.lt_irrefl _)), zc_set (zc_set h.x rfl) rfl, h.X, own_setc (own_setc h.ts h.x (by decide)) (zc_set h.x rfl) (by decide)⟩
theorem set_own0 {wr : World} {X : Nat} {z : Zs} {vt d0 d1 h0 h1 v u q : Value} {base : Nat} {l : List Int} (x : wr.heap[X]? = some (.cells #[vt, d0, d1, h0, h1, .int .i64 z.nx] 32 (0, 0))) (o : OwnI wr base q l) : OwnI ((wr.setCell ⟨X, 1, none⟩ v).setCell ⟨X, 3, none⟩ u) base q l := own_setc (own_setc o x (by decide)) (zc_set x rfl) (by decide)
theorem WhS.step1 {w wr : World} {X : Nat} {z : Zs} {vt d0 d1 h0 h1 v u : Value} (h : WhS w wr X z vt d0 d1 h0 h1) : WhS w ((wr.setCell ⟨X, 2, none⟩ v).setCell ⟨X, 4, none⟩ u) X z vt d0 v h0 u := by
  have g : wr.grownBy ((wr.setCell ⟨X, 2, none⟩ v).setCell ⟨X, 4, none⟩ u) (some X) := grown_trans (grown_set _ _ _ _) (grown_set _ _ _ _)
  exact ⟨grown_own h.g g (fun x e => by cases e; exact Nat.le_of_lt h.X), grown_keep g h.y (by intro q; cases q; exact absurd h.X (Nat.lt_irrefl _)), zc_set (zc_set h.x rfl) rfl, h.X, own_setc (own_setc h.ts h.x (by decide)) (zc_set h.x rfl) (by decide)⟩
theorem set_own1 {wr : World} {X : Nat} {z : Zs} {vt d0 d1 h0 h1 v u q : Value} {base : Nat} {l : List Int} (x : wr.heap[X]? = some (.cells #[vt, d0, d1, h0, h1, .int .i64 z.nx] 32 (0, 0))) (o : OwnI wr base q l) : OwnI ((wr.setCell ⟨X, 2, none⟩ v).setCell ⟨X, 4, none⟩ u) base q l := own_setc (own_setc o x (by decide)) (zc_set x rfl) (by decide)
set_option maxRecDepth 100000 in
set_option maxHeartbeats 4000000 in
theorem whole_any (b : Nat) (Sb : List Nat) (z : Zs) (w : World) (Z : ZAt w b Sb z) (S : z.Sound) (_hS : Old w Sb) : Calls Try.prog 8 #[.pointer (some ⟨b, 0, none⟩)] w (WhPost w z) := by
  have HZ : Hid (ZAt w b Sb z) := Z
  have HSd : Hid z.Sound := S
  have C1 := things_any b Sb z (w.alloc (.cells #[.slice none 0 0, .slice none 0 0, .slice none 0 0, .slice none 0 0, .slice none 0 0, .int .i64 0] 32)) (Z.grow (World.grownBy_alloc _ _ _)) S
  have HG0 : Hid (w.grownBy (w.alloc (.cells #[.slice none 0 0, .slice none 0 0, .slice none 0 0, .slice none 0 0, .slice none 0 0, .int .i64 0] 32)) none) := World.grownBy_alloc _ _ _
  have HY0 : Hid ((w.alloc (.cells #[.slice none 0 0, .slice none 0 0, .slice none 0 0, .slice none 0 0, .slice none 0 0, .int .i64 0] 32)).heap[w.heap.size]? = some (.cells #[.slice none 0 0, .slice none 0 0, .slice none 0 0, .slice none 0 0, .slice none 0 0, .int .i64 0] 32 (0, 0))) := alloc_at _ _ _
  clear Z S _hS
  go_enter Try.func8, Try.ntmps8
  go_wp2_with fail
  refine C1.mono ?_
  rintro e w1 ⟨rfl, o1, g1⟩
  have HG1 : Hid (w.grownBy w1 none) := grown_trans HG0.out g1
  have HY1 : Hid (w1.heap[w.heap.size]? = some (.cells #[.slice none 0 0, .slice none 0 0, .slice none 0 0, .slice none 0 0, .slice none 0 0, .int .i64 0] 32 (0, 0))) := grown_keep g1 HY0.out (by simp)
  have HO1 : Hid (OwnT w1 w.heap.size (.slice (some ⟨(w.alloc (.cells #[.slice none 0 0, .slice none 0 0, .slice none 0 0, .slice none 0 0, .slice none 0 0, .int .i64 0] 32)).heap.size, 0, none⟩) z.ts.length z.ts.length) z.ts) := own_lowK o1 HG0.out.size
  have C2 : Calls Try.prog 28 #[.pointer (some ⟨b, 0, none⟩)] w1 fun e w' => e = .returned (.int .i64 z.nx) ∧ w' = w1 := by
    obtain ⟨vt, d0, d1, h0, h1, Z⟩ := HZ.out.grow HG1.out
    exact stamp_any b z.nx w1 Z.cell.2.2.2.2.2 (nx_ne HSd.out)
  rw [World.size_alloc] at HO1
  clear o1 g1 C1 HG0 HY0
  go_wp2_with fail
  refine C2.mono ?_
  rintro e w9 ⟨rfl, h9⟩
  obtain rfl : w1 = w9 := h9.symm
  obtain ⟨vt, hvt⟩ : ∃ vt, vt = Value.slice (some ⟨w.heap.size + 1, 0, none⟩) z.ts.length z.ts.length := ⟨_, rfl⟩
  have Hvt : Hid (vt = Value.slice (some ⟨w.heap.size + 1, 0, none⟩) z.ts.length z.ts.length) := hvt
  rw [← hvt] at HO1
  clear C2 h9 hvt
  go_wp2
  rw [← Hvt.out]
  have HW : Hid (WhS w (w1.alloc (.cells #[vt, .slice none 0 0, .slice none 0 0, .slice none 0 0, .slice none 0 0, .int .i64 z.nx] 32)) w1.heap.size z vt (.slice none 0 0) (.slice none 0 0) (.slice none 0 0) (.slice none 0 0)) := ⟨grown_push HG1.out _, grown_keep (World.grownBy_alloc _ _ none) HY1.out (by simp), alloc_at _ _ _, block_lt HY1.out, own_grow HO1.out (World.grownBy_alloc _ _ _)⟩
  obtain ⟨X, hX⟩ : ∃ X, X = w1.heap.size := ⟨_, rfl⟩
  rw [← hX] at HW ⊢
  clear HG1 HY1 HO1 Hvt hX
  go_loopw [4] (fun i wr => ∃ (p : Nat) (d0 d1 h0 h1 : Value), p ≤ 2 ∧ i = .int .i64 (p : Int) ∧ WhS w wr X z vt d0 d1 h0 h1 ∧ (1 ≤ p → OwnI wr w.heap.size d0 (z.dk 0) ∧ OwnI wr w.heap.size h0 (z.hd 0)) ∧ (2 ≤ p → OwnI wr w.heap.size d1 (z.dk 1) ∧ OwnI wr w.heap.size h1 (z.hd 1))) (fun i _ => 2 - (intOf i).toNat)
  case atStart => exact ⟨0, _, _, _, _, Nat.zero_le _, rfl, HW.out, fun q => absurd q (by decide), fun q => absurd q (by decide)⟩
  case round =>
    obtain ⟨p, d0, d1, h0, h1, hp, rfl, W, k1, k2⟩ := hrel
    have HWr : Hid (WhS w wr X z vt d0 d1 h0 h1) := W
    have HK1 : Hid (1 ≤ p → OwnI wr w.heap.size d0 (z.dk 0) ∧ OwnI wr w.heap.size h0 (z.hd 0)) := k1
    have HK2 : Hid (2 ≤ p → OwnI wr w.heap.size d1 (z.dk 1) ∧ OwnI wr w.heap.size h1 (z.hd 1)) := k2
    clear W k1 k2 HW
    rcases (show p = 0 ∨ p = 1 ∨ p = 2 from by omega) with rfl | rfl | rfl
    · clear hp
      go_upto_region 5 with fail
      have C3 := pDeck_any b Sb z 0 wr.drew (HZ.out.grow (grown_trans HWr.out.g (grown_drew wr))) HSd.out
      rw [inOf_dk0] at C3
      refine wp_region_held_drew (S := fun _ => True) (by kernel_rfl) (trivial) (fun hHeld => ?_)
      refine wpAnyH_take (i := 0) (v := ?_) rfl (by kernel_rfl) (by kernel_rfl) (by kernel_rfl) (fun _ _ _ h => h) (Or.inl ⟨by rfl, ?_⟩) (by assumption) ?_
      rotate_left 1
      · (intro w0 hSw; go_simp; try with_reducible rfl)
      simp only [List.getElem_toArray, List.getElem_cons_zero]
      go_frame
      refine wpAnyH_take (i := 1) (v := ?_) rfl (by kernel_rfl) (by kernel_rfl) (by kernel_rfl) (fun _ _ _ h => h) (Or.inl ⟨by rfl, ?_⟩) (by assumption) ?_
      rotate_left 1
      · (intro w0 hSw; go_simp; try with_reducible rfl)
      simp only [List.getElem_toArray, List.getElem_cons_zero, List.getElem_cons_succ]
      go_frame
      refine wpAnyH_take (i := 2) (v := ?_) rfl (by kernel_rfl) (by kernel_rfl) (by kernel_rfl) (fun _ _ _ h => h) (Or.inl ⟨by rfl, ?_⟩) (by assumption) ?_
      rotate_left 1
      · (intro w0 hSw; go_simp; try with_reducible rfl)
      simp only [List.getElem_toArray, List.getElem_cons_zero, List.getElem_cons_succ]
      go_frame
      refine wpAnyH_take (i := 3) (v := ?_) rfl (by kernel_rfl) (by kernel_rfl) (by kernel_rfl) (fun _ _ _ h => h) (Or.inl ⟨by rfl, ?_⟩) (by assumption) ?_
      rotate_left 1
      · (intro w0 hSw; go_simp; try with_reducible rfl)
      simp only [List.getElem_toArray, List.getElem_cons_zero, List.getElem_cons_succ]
      go_frame
      refine wpAnyH_take (i := 5) (v := ?_) rfl (by kernel_rfl) (by kernel_rfl) (by kernel_rfl) (fun _ _ _ h => h) (Or.inl ⟨by rfl, ?_⟩) (by assumption) ?_
      rotate_left 1
      · (intro w0 hSw; go_simp; try with_reducible rfl)
      simp only [List.getElem_toArray, List.getElem_cons_zero, List.getElem_cons_succ]
      go_frame
      refine wpAnyH_take (i := 6) (v := ?_) rfl (by kernel_rfl) (by kernel_rfl) (by kernel_rfl) (fun _ _ _ h => h) (Or.inl ⟨by rfl, ?_⟩) (by assumption) ?_
      rotate_left 1
      · (intro w0 hSw; go_simp; try with_reducible rfl)
      simp only [List.getElem_toArray, List.getElem_cons_zero, List.getElem_cons_succ]
      go_frame
      refine wpAnyH_take (i := 8) (v := ?_) rfl (by kernel_rfl) (by kernel_rfl) (by kernel_rfl) (fun _ _ _ h => h) (Or.inl ⟨by rfl, ?_⟩) (by assumption) ?_
      rotate_left 1
      · (intro w0 hSw; go_simp; try with_reducible rfl)
      simp only [List.getElem_toArray, List.getElem_cons_zero, List.getElem_cons_succ]
      go_frame
      refine wpAnyH_take (i := 11) (v := ?_) rfl (by kernel_rfl) (by kernel_rfl) (by kernel_rfl) (fun _ _ _ h => h) (Or.inl ⟨by rfl, ?_⟩) (by assumption) ?_
      rotate_left 1
      · (intro w0 hSw; go_simp; try with_reducible rfl)
      simp only [List.getElem_toArray, List.getElem_cons_zero, List.getElem_cons_succ]
      go_frame
      refine wpAnyH_ready (rs := [4]) (by kernel_rfl) (by simp) ?_
      refine AllReadyH.cons rfl (fun K hK => ?_) AllReadyH.nil
      simp only [List.getElem_toArray, List.getElem_cons_zero, List.getElem_cons_succ]
      go_simp
      go_at_call 25
      refine (C3).mono ?_
      rintro e w3 ⟨vv, rfl, o3, g3⟩
      have HW3 : Hid (WhS w w3 X z vt d0 d1 h0 h1) := HWr.out.grow (grown_trans (grown_drew wr) g3)
      have HG3 : Hid (wr.grownBy w3 none) := grown_trans (grown_drew wr) g3
      have HO3 : Hid (OwnI w3 w.heap.size vv (z.dk 0)) := own_lowK o3 HWr.out.g.size
      obtain ⟨pv, cv, rfl⟩ := HO3.out.form
      have C4 := pHand_any b Sb z 0 w3 (HZ.out.grow HW3.out.g) HSd.out
      rw [inOf_hd0] at C4
      clear o3 g3 C3
      refine hK.out _ _ (trivial) (fun hHeld2 => ?_)
      clear hK K
      (try go_frame)
      refine wpAnyH_take (i := 9) (v := ?_) rfl (by kernel_rfl) (by kernel_rfl) (by kernel_rfl) (fun _ _ _ h => h) (Or.inl ⟨by rfl, ?_⟩) (by assumption) ?_
      rotate_left 1
      · (intro w0 hSw; go_simp; try with_reducible rfl)
      simp only [List.getElem_toArray, List.getElem_cons_zero, List.getElem_cons_succ]
      go_frame
      refine wpAnyH_ready (rs := [7]) (by kernel_rfl) (by simp) ?_
      refine AllReadyH.cons rfl (fun K hK => ?_) AllReadyH.nil
      simp only [List.getElem_toArray, List.getElem_cons_zero, List.getElem_cons_succ]
      go_simp
      go_at_call 31
      refine (C4).mono ?_
      rintro e w4 ⟨uu, rfl, o4, g4⟩
      have HW4 : Hid (WhS w w4 X z vt d0 d1 h0 h1) := HW3.out.grow g4
      have HG4 : Hid (wr.grownBy w4 none) := grown_trans HG3.out g4
      have HO4 : Hid (OwnI w4 w.heap.size uu (z.hd 0)) := own_lowK o4 HW3.out.g.size
      have HO3' : Hid (OwnI w4 w.heap.size (Value.slice pv (z.dk 0).length cv) (z.dk 0)) := own_grow HO3.out g4
      obtain ⟨pu, cu, rfl⟩ := HO4.out.form
      clear o4 g4 C4 HO3 HG3 HW3
      refine hK.out _ _ (trivial) (fun hHeld2 => ?_)
      clear hK K
      (try go_frame)
      have ka := (block_cell HW4.out.x 1).trans (show _ = some d0 from rfl)
      have fa := block_free HW4.out.x 1
      refine wpAnyH_ready (rs := [10]) (by kernel_rfl) (by simp) ?_
      refine AllReadyH.cons rfl (fun K9 hK => ?_) AllReadyH.nil
      simp only [List.getElem_toArray, List.getElem_cons_zero, List.getElem_cons_succ]
      go_simp
      have kb := (block_cell (zc_set (i := 1) (u := (Value.slice pv (z.dk 0).length cv)) HW4.out.x rfl) 3).trans (show _ = some h0 from rfl)
      have fb := block_free (zc_set (i := 1) (u := (Value.slice pv (z.dk 0).length cv)) HW4.out.x rfl) 3
      refine hK.out _ _ (trivial) (fun hHeld3 => ?_)
      clear hK K9
      (try go_frame)
      refine wpAnyH_take (i := 12) (v := ?_) rfl (by kernel_rfl) (by kernel_rfl) (by kernel_rfl) (fun _ _ _ h => h) (Or.inl ⟨by rfl, ?_⟩) (by assumption) ?_
      rotate_left 1
      · (intro w0 hSw; go_simp; try with_reducible rfl)
      simp only [List.getElem_toArray, List.getElem_cons_zero, List.getElem_cons_succ]
      go_frame
      refine wpAnyH_ready (rs := [13]) (by kernel_rfl) (by simp) ?_
      refine AllReadyH.cons rfl (fun K9 hK => ?_) AllReadyH.nil
      simp only [List.getElem_toArray, List.getElem_cons_zero, List.getElem_cons_succ]
      go_simp
      refine hK.out _ _ (trivial) (fun hHeld3 => ?_)
      clear hK K9
      (try go_frame)
      refine wpAnyH_done (by kernel_rfl) ?_ _
      have HW5 : Hid (WhS w ((w4.setCell ⟨X, 1, none⟩ (Value.slice pv (z.dk 0).length cv)).setCell ⟨X, 3, none⟩ (Value.slice pu (z.hd 0).length cu)) X z vt (Value.slice pv (z.dk 0).length cv) d1 (Value.slice pu (z.hd 0).length cu) h1) := HW4.out.step0
      have HD5 : Hid (OwnI ((w4.setCell ⟨X, 1, none⟩ (Value.slice pv (z.dk 0).length cv)).setCell ⟨X, 3, none⟩ (Value.slice pu (z.hd 0).length cu)) w.heap.size (Value.slice pv (z.dk 0).length cv) (z.dk 0) ∧ OwnI ((w4.setCell ⟨X, 1, none⟩ (Value.slice pv (z.dk 0).length cv)).setCell ⟨X, 3, none⟩ (Value.slice pu (z.hd 0).length cu)) w.heap.size (Value.slice pu (z.hd 0).length cu) (z.hd 0)) := ⟨set_own0 HW4.out.x HO3'.out, set_own0 HW4.out.x HO4.out⟩
      clear hHeld HWr HK1 HK2 HG4 HW4 HO3' HO4 ka fa kb fb
      go_wp2
      exact ⟨⟨1, (Value.slice pv (z.dk 0).length cv), d1, (Value.slice pu (z.hd 0).length cu), h1, by decide, rfl, HW5.out, fun _ => HD5.out, fun q => absurd q (by decide)⟩, by decide⟩
    · clear hp
      go_upto_region 5 with fail
      have C3 := pDeck_any b Sb z 1 wr.drew (HZ.out.grow (grown_trans HWr.out.g (grown_drew wr))) HSd.out
      rw [inOf_dk1] at C3
      refine wp_region_held_drew (S := fun _ => True) (by kernel_rfl) (trivial) (fun hHeld => ?_)
      refine wpAnyH_take (i := 0) (v := ?_) rfl (by kernel_rfl) (by kernel_rfl) (by kernel_rfl) (fun _ _ _ h => h) (Or.inl ⟨by rfl, ?_⟩) (by assumption) ?_
      rotate_left 1
      · (intro w0 hSw; go_simp; try with_reducible rfl)
      simp only [List.getElem_toArray, List.getElem_cons_zero]
      go_frame
      refine wpAnyH_take (i := 1) (v := ?_) rfl (by kernel_rfl) (by kernel_rfl) (by kernel_rfl) (fun _ _ _ h => h) (Or.inl ⟨by rfl, ?_⟩) (by assumption) ?_
      rotate_left 1
      · (intro w0 hSw; go_simp; try with_reducible rfl)
      simp only [List.getElem_toArray, List.getElem_cons_zero, List.getElem_cons_succ]
      go_frame
      refine wpAnyH_take (i := 2) (v := ?_) rfl (by kernel_rfl) (by kernel_rfl) (by kernel_rfl) (fun _ _ _ h => h) (Or.inl ⟨by rfl, ?_⟩) (by assumption) ?_
      rotate_left 1
      · (intro w0 hSw; go_simp; try with_reducible rfl)
      simp only [List.getElem_toArray, List.getElem_cons_zero, List.getElem_cons_succ]
      go_frame
      refine wpAnyH_take (i := 3) (v := ?_) rfl (by kernel_rfl) (by kernel_rfl) (by kernel_rfl) (fun _ _ _ h => h) (Or.inl ⟨by rfl, ?_⟩) (by assumption) ?_
      rotate_left 1
      · (intro w0 hSw; go_simp; try with_reducible rfl)
      simp only [List.getElem_toArray, List.getElem_cons_zero, List.getElem_cons_succ]
      go_frame
      refine wpAnyH_take (i := 5) (v := ?_) rfl (by kernel_rfl) (by kernel_rfl) (by kernel_rfl) (fun _ _ _ h => h) (Or.inl ⟨by rfl, ?_⟩) (by assumption) ?_
      rotate_left 1
      · (intro w0 hSw; go_simp; try with_reducible rfl)
      simp only [List.getElem_toArray, List.getElem_cons_zero, List.getElem_cons_succ]
      go_frame
      refine wpAnyH_take (i := 6) (v := ?_) rfl (by kernel_rfl) (by kernel_rfl) (by kernel_rfl) (fun _ _ _ h => h) (Or.inl ⟨by rfl, ?_⟩) (by assumption) ?_
      rotate_left 1
      · (intro w0 hSw; go_simp; try with_reducible rfl)
      simp only [List.getElem_toArray, List.getElem_cons_zero, List.getElem_cons_succ]
      go_frame
      refine wpAnyH_take (i := 8) (v := ?_) rfl (by kernel_rfl) (by kernel_rfl) (by kernel_rfl) (fun _ _ _ h => h) (Or.inl ⟨by rfl, ?_⟩) (by assumption) ?_
      rotate_left 1
      · (intro w0 hSw; go_simp; try with_reducible rfl)
      simp only [List.getElem_toArray, List.getElem_cons_zero, List.getElem_cons_succ]
      go_frame
      refine wpAnyH_take (i := 11) (v := ?_) rfl (by kernel_rfl) (by kernel_rfl) (by kernel_rfl) (fun _ _ _ h => h) (Or.inl ⟨by rfl, ?_⟩) (by assumption) ?_
      rotate_left 1
      · (intro w0 hSw; go_simp; try with_reducible rfl)
      simp only [List.getElem_toArray, List.getElem_cons_zero, List.getElem_cons_succ]
      go_frame
      refine wpAnyH_ready (rs := [4]) (by kernel_rfl) (by simp) ?_
      refine AllReadyH.cons rfl (fun K hK => ?_) AllReadyH.nil
      simp only [List.getElem_toArray, List.getElem_cons_zero, List.getElem_cons_succ]
      go_simp
      go_at_call 25
      refine (C3).mono ?_
      rintro e w3 ⟨vv, rfl, o3, g3⟩
      have HW3 : Hid (WhS w w3 X z vt d0 d1 h0 h1) := HWr.out.grow (grown_trans (grown_drew wr) g3)
      have HG3 : Hid (wr.grownBy w3 none) := grown_trans (grown_drew wr) g3
      have HO3 : Hid (OwnI w3 w.heap.size vv (z.dk 1)) := own_lowK o3 HWr.out.g.size
      obtain ⟨pv, cv, rfl⟩ := HO3.out.form
      have C4 := pHand_any b Sb z 1 w3 (HZ.out.grow HW3.out.g) HSd.out
      rw [inOf_hd1] at C4
      clear o3 g3 C3
      refine hK.out _ _ (trivial) (fun hHeld2 => ?_)
      clear hK K
      (try go_frame)
      refine wpAnyH_take (i := 9) (v := ?_) rfl (by kernel_rfl) (by kernel_rfl) (by kernel_rfl) (fun _ _ _ h => h) (Or.inl ⟨by rfl, ?_⟩) (by assumption) ?_
      rotate_left 1
      · (intro w0 hSw; go_simp; try with_reducible rfl)
      simp only [List.getElem_toArray, List.getElem_cons_zero, List.getElem_cons_succ]
      go_frame
      refine wpAnyH_ready (rs := [7]) (by kernel_rfl) (by simp) ?_
      refine AllReadyH.cons rfl (fun K hK => ?_) AllReadyH.nil
      simp only [List.getElem_toArray, List.getElem_cons_zero, List.getElem_cons_succ]
      go_simp
      go_at_call 31
      refine (C4).mono ?_
      rintro e w4 ⟨uu, rfl, o4, g4⟩
      have HW4 : Hid (WhS w w4 X z vt d0 d1 h0 h1) := HW3.out.grow g4
      have HG4 : Hid (wr.grownBy w4 none) := grown_trans HG3.out g4
      have HO4 : Hid (OwnI w4 w.heap.size uu (z.hd 1)) := own_lowK o4 HW3.out.g.size
      have HO3' : Hid (OwnI w4 w.heap.size (Value.slice pv (z.dk 1).length cv) (z.dk 1)) := own_grow HO3.out g4
      obtain ⟨pu, cu, rfl⟩ := HO4.out.form
      clear o4 g4 C4 HO3 HG3 HW3
      refine hK.out _ _ (trivial) (fun hHeld2 => ?_)
      clear hK K
      (try go_frame)
      have ka := (block_cell HW4.out.x 2).trans (show _ = some d1 from rfl)
      have fa := block_free HW4.out.x 2
      refine wpAnyH_ready (rs := [10]) (by kernel_rfl) (by simp) ?_
      refine AllReadyH.cons rfl (fun K9 hK => ?_) AllReadyH.nil
      simp only [List.getElem_toArray, List.getElem_cons_zero, List.getElem_cons_succ]
      go_simp
      have kb := (block_cell (zc_set (i := 2) (u := (Value.slice pv (z.dk 1).length cv)) HW4.out.x rfl) 4).trans (show _ = some h1 from rfl)
      have fb := block_free (zc_set (i := 2) (u := (Value.slice pv (z.dk 1).length cv)) HW4.out.x rfl) 4
      refine hK.out _ _ (trivial) (fun hHeld3 => ?_)
      clear hK K9
      (try go_frame)
      refine wpAnyH_take (i := 12) (v := ?_) rfl (by kernel_rfl) (by kernel_rfl) (by kernel_rfl) (fun _ _ _ h => h) (Or.inl ⟨by rfl, ?_⟩) (by assumption) ?_
      rotate_left 1
      · (intro w0 hSw; go_simp; try with_reducible rfl)
      simp only [List.getElem_toArray, List.getElem_cons_zero, List.getElem_cons_succ]
      go_frame
      refine wpAnyH_ready (rs := [13]) (by kernel_rfl) (by simp) ?_
      refine AllReadyH.cons rfl (fun K9 hK => ?_) AllReadyH.nil
      simp only [List.getElem_toArray, List.getElem_cons_zero, List.getElem_cons_succ]
      go_simp
      refine hK.out _ _ (trivial) (fun hHeld3 => ?_)
      clear hK K9
      (try go_frame)
      refine wpAnyH_done (by kernel_rfl) ?_ _
      have HW5 : Hid (WhS w ((w4.setCell ⟨X, 2, none⟩ (Value.slice pv (z.dk 1).length cv)).setCell ⟨X, 4, none⟩ (Value.slice pu (z.hd 1).length cu)) X z vt d0 (Value.slice pv (z.dk 1).length cv) h0 (Value.slice pu (z.hd 1).length cu)) := HW4.out.step1
      have HD5 : Hid (OwnI ((w4.setCell ⟨X, 2, none⟩ (Value.slice pv (z.dk 1).length cv)).setCell ⟨X, 4, none⟩ (Value.slice pu (z.hd 1).length cu)) w.heap.size (Value.slice pv (z.dk 1).length cv) (z.dk 1) ∧ OwnI ((w4.setCell ⟨X, 2, none⟩ (Value.slice pv (z.dk 1).length cv)).setCell ⟨X, 4, none⟩ (Value.slice pu (z.hd 1).length cu)) w.heap.size (Value.slice pu (z.hd 1).length cu) (z.hd 1)) := ⟨set_own1 HW4.out.x HO3'.out, set_own1 HW4.out.x HO4.out⟩
      have HE5 : Hid (OwnI ((w4.setCell ⟨X, 2, none⟩ (Value.slice pv (z.dk 1).length cv)).setCell ⟨X, 4, none⟩ (Value.slice pu (z.hd 1).length cu)) w.heap.size d0 (z.dk 0) ∧ OwnI ((w4.setCell ⟨X, 2, none⟩ (Value.slice pv (z.dk 1).length cv)).setCell ⟨X, 4, none⟩ (Value.slice pu (z.hd 1).length cu)) w.heap.size h0 (z.hd 0)) := by
        obtain ⟨q1, q2⟩ := HK1.out (Nat.le_refl _)
        exact ⟨set_own1 HW4.out.x (own_grow q1 HG4.out), set_own1 HW4.out.x (own_grow q2 HG4.out)⟩
      clear hHeld HWr HK1 HK2 HG4 HW4 HO3' HO4 ka fa kb fb
      go_wp2
      exact ⟨⟨2, d0, (Value.slice pv (z.dk 1).length cv), h0, (Value.slice pu (z.hd 1).length cu), by decide, rfl, HW5.out, fun _ => HE5.out, fun _ => HD5.out⟩, by decide⟩
    · have HF : Hid (WoAt wr w.heap.size z vt d0 d1 h0 h1) := ⟨HWr.out.ts, (HK1.out (by decide)).1, (HK2.out (by decide)).1, (HK1.out (by decide)).2, (HK2.out (by decide)).2⟩
      have fo := HF.out
      obtain ⟨pt, ct, et, -⟩ := own_slice fo.ts
      obtain ⟨pa, ca, ea⟩ := fo.od0.form
      obtain ⟨pb, cb, eb⟩ := fo.od1.form
      obtain ⟨pc, cc, ec⟩ := fo.oh0.form
      obtain ⟨pd, cd, ed⟩ := fo.oh1.form
      subst et ea eb ec ed
      have z0 := (block_cell HWr.out.x 0).trans (show _ = some (Value.slice pt z.ts.length ct) from rfl)
      have z1 := (block_cell HWr.out.x 1).trans (show _ = some (Value.slice pa (z.dk 0).length ca) from rfl)
      have z2 := (block_cell HWr.out.x 2).trans (show _ = some (Value.slice pb (z.dk 1).length cb) from rfl)
      have z3 := (block_cell HWr.out.x 3).trans (show _ = some (Value.slice pc (z.hd 0).length cc) from rfl)
      have z4 := (block_cell HWr.out.x 4).trans (show _ = some (Value.slice pd (z.hd 1).length cd) from rfl)
      have z5 := (block_cell HWr.out.x 5).trans (show _ = some (Value.int .i64 z.nx) from rfl)
      have y0 := (block_cell HWr.out.y 0).trans (show _ = some (Value.slice none 0 0) from rfl)
      have y1 := (block_cell HWr.out.y 1).trans (show _ = some (Value.slice none 0 0) from rfl)
      have y2 := (block_cell HWr.out.y 2).trans (show _ = some (Value.slice none 0 0) from rfl)
      have y3 := (block_cell HWr.out.y 3).trans (show _ = some (Value.slice none 0 0) from rfl)
      have y4 := (block_cell HWr.out.y 4).trans (show _ = some (Value.slice none 0 0) from rfl)
      have y5 := (block_cell HWr.out.y 5).trans (show _ = some (Value.int .i64 0) from rfl)
      have f0 := block_free HWr.out.y 0
      have f1 := block_free HWr.out.y 1
      have f2 := block_free HWr.out.y 2
      have f3 := block_free HWr.out.y 3
      have f4 := block_free HWr.out.y 4
      have f5 := block_free HWr.out.y 5
      obtain ⟨U, hU⟩ : ∃ U, U = (((((wr.setCell ⟨w.heap.size, 0, none⟩ (Value.slice pt z.ts.length ct)).setCell ⟨w.heap.size, 1, none⟩ (Value.slice pa (z.dk 0).length ca)).setCell ⟨w.heap.size, 2, none⟩ (Value.slice pb (z.dk 1).length cb)).setCell ⟨w.heap.size, 3, none⟩ (Value.slice pc (z.hd 0).length cc)).setCell ⟨w.heap.size, 4, none⟩ (Value.slice pd (z.hd 1).length cd)).setCell ⟨w.heap.size, 5, none⟩ (.int .i64 z.nx) := ⟨_, rfl⟩
      have HU : Hid (U = (((((wr.setCell ⟨w.heap.size, 0, none⟩ (Value.slice pt z.ts.length ct)).setCell ⟨w.heap.size, 1, none⟩ (Value.slice pa (z.dk 0).length ca)).setCell ⟨w.heap.size, 2, none⟩ (Value.slice pb (z.dk 1).length cb)).setCell ⟨w.heap.size, 3, none⟩ (Value.slice pc (z.hd 0).length cc)).setCell ⟨w.heap.size, 4, none⟩ (Value.slice pd (z.hd 1).length cd)).setCell ⟨w.heap.size, 5, none⟩ (.int .i64 z.nx)) := hU
      have HUb : Hid (U.heap[w.heap.size]? = some (.cells #[(Value.slice pt z.ts.length ct), (Value.slice pa (z.dk 0).length ca), (Value.slice pb (z.dk 1).length cb), (Value.slice pc (z.hd 0).length cc), (Value.slice pd (z.hd 1).length cd), .int .i64 z.nx] 32 (0, 0))) := by show U.heap[_]? = _; rw [hU]; exact zc_set (zc_set (zc_set (zc_set (zc_set (zc_set HWr.out.y rfl) rfl) rfl) rfl) rfl) rfl
      have HGU : Hid (wr.grownBy U (some w.heap.size)) := by show wr.grownBy U _; rw [hU]; exact grown_trans (grown_set _ _ _ _) (grown_trans (grown_set _ _ _ _) (grown_trans (grown_set _ _ _ _) (grown_trans (grown_set _ _ _ _) (grown_trans (grown_set _ _ _ _) (grown_set _ _ _ _)))))
      have HO : Hid (∀ {q : Value} {l : List Int} {base : Nat}, OwnI wr base q l → OwnI U base q l) := fun {q l base} o => by show OwnI U base q l; rw [hU]; exact own_setc (own_setc (own_setc (own_setc (own_setc (own_setc o HWr.out.y (by decide)) (zc_set HWr.out.y rfl) (by decide)) (zc_set (zc_set HWr.out.y rfl) rfl) (by decide)) (zc_set (zc_set (zc_set HWr.out.y rfl) rfl) rfl) (by decide)) (zc_set (zc_set (zc_set (zc_set HWr.out.y rfl) rfl) rfl) rfl) (by decide)) (zc_set (zc_set (zc_set (zc_set (zc_set HWr.out.y rfl) rfl) rfl) rfl) rfl) (by decide)
      have HOT : Hid (OwnT U w.heap.size (Value.slice pt z.ts.length ct) z.ts) := by show OwnT U _ (Value.slice pt z.ts.length ct) _; rw [hU]; exact own_setc (own_setc (own_setc (own_setc (own_setc (own_setc HF.out.ts HWr.out.y (by decide)) (zc_set HWr.out.y rfl) (by decide)) (zc_set (zc_set HWr.out.y rfl) rfl) (by decide)) (zc_set (zc_set (zc_set HWr.out.y rfl) rfl) rfl) (by decide)) (zc_set (zc_set (zc_set (zc_set HWr.out.y rfl) rfl) rfl) rfl) (by decide)) (zc_set (zc_set (zc_set (zc_set (zc_set HWr.out.y rfl) rfl) rfl) rfl) rfl) (by decide)
      have HE : Hid (WhPost w z (.returned (wov z (Value.slice pt z.ts.length ct) (Value.slice pa (z.dk 0).length ca) (Value.slice pb (z.dk 1).length cb) (Value.slice pc (z.hd 0).length cc) (Value.slice pd (z.hd 1).length cd))) U) := ⟨_, _, _, _, _, rfl, ⟨HOT.out, HO.out fo.od0, HO.out fo.od1, HO.out fo.oh0, HO.out fo.oh1⟩, grown_own HWr.out.g HGU.out (fun x e => by cases e; exact Nat.le_refl _)⟩
      have q := fun i => block_cell HUb.out i
      clear hp HK1 HK2 HF fo hU HUb HGU HO HOT HWr HZ HSd
      go_wp2
      rw [← HU.out]
      refine bodyPost_ret (v := wov z (Value.slice pt z.ts.length ct) (Value.slice pa (z.dk 0).length ca) (Value.slice pb (z.dk 1).length cb) (Value.slice pc (z.hd 0).length cc) (Value.slice pd (z.hd 1).length cd)) (by simp [results, Try.results8, go_sem, wov, q]) rfl HE.out
end Go.Proofs.Ytogpgldbbegniaa
