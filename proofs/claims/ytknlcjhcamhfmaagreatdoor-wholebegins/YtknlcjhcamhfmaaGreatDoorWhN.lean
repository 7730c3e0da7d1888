/-
  Numbers.
-/
import Derived.Test.YtknlcjhcamhfmaaGreatDoorJ39
import Derived.Test.YtknlcjhcamhfmaaGreatDoorJ40
import Derived.Maps.OwnSet
namespace Go.Proofs.YtknlcjhcamhfmaaGreatDoor
open Go.RowKit

open Go.Maps

def kS (k : Nat) : Lit := .string (sNm k).data.toList
def nD : Nat → DataW Unit
  | 0 => .map []
  | k + 1 => (nD k).put (kS k) (.lit (.int .i64 (sNo k)))
theorem keyK : Keyed Tryz.prog 9 := Go.Maps.string_keyed Tryz.underlying9
theorem key_of (k : Nat) : keyOf Tryz.prog 9 (.string (sNm k)) = some (kS k) := by
  rcases k with _ | _ | _ | _ | _ | _ <;> kernel_rfl
theorem val_of (k : Nat) : plainElem (H := Unit) Tryz.prog 3 (.int .i64 (sNo k)) = some (.lit (.int .i64 (sNo k)), []) := plainElem_int Tryz.underlying3 (by rcases k with _ | _ | _ | _ | _ | _ <;> rfl)
theorem number_any (k : Nat) (hk : k < 6) (w : World) : Calls Tryz.prog (fU k) #[] w fun e w' => e = .returned (.int .i64 (sNo k)) ∧ w.grownBy w' none := by
  rcases (show k = 0 ∨ k = 1 ∨ k = 2 ∨ k = 3 ∨ k = 4 ∨ k = 5 by omega) with rfl | rfl | rfl | rfl | rfl | rfl
  · exact number_ai w
  · exact number_ea w
  · exact number_fr w
  · exact number_wa w
  · exact number_vo w
  · exact number_gd w
theorem sixA_at {k : Nat} (hk : k < 6) : ∀ i u, (srcC k)[i]? = some u → sixA[k * 5 + i]? = some u := by
  rcases (show k = 0 ∨ k = 1 ∨ k = 2 ∨ k = 3 ∨ k = 4 ∨ k = 5 by omega) with rfl | rfl | rfl | rfl | rfl | rfl <;> intro i u h <;> (have hi : i < 5 := (List.getElem?_eq_some_iff.1 h).1) <;> (rcases (show i = 0 ∨ i = 1 ∨ i = 2 ∨ i = 3 ∨ i = 4 by omega) with rfl | rfl | rfl | rfl | rfl) <;> exact h
/-- The map of the numbers. -/
def NumAt (w : World) (m : Nat) : Prop := w.ownsMap Tryz.prog 9 (plainElem Tryz.prog 3) m 6 (nD 6)
set_option maxRecDepth 100000 in
set_option maxHeartbeats 8000000 in
theorem mk_map (w : World) : (Instr.makeMap 22 (some (.int .i64 6))).run Tryz.prog w = .ok (.map (some w.heap.size)) (w.alloc (.map #[] 0)) := by
  simp [Instr.makeMap, go_sem]
theorem idx_six (j : Nat) (hj : j < 6) (w : World) : (Instr.index 84 (.agg sixA) (.int .i64 (j : Int))).run Tryz.prog w = .ok (.agg (srcC j).toArray) w := by
  rcases (show j = 0 ∨ j = 1 ∨ j = 2 ∨ j = 3 ∨ j = 4 ∨ j = 5 by omega) with rfl | rfl | rfl | rfl | rfl | rfl <;> kernel_rfl
set_option maxRecDepth 100000 in
set_option maxHeartbeats 8000000 in
theorem numbers_any (w : World) : Calls Tryz.prog 8 #[] w fun e w' => ∃ m, e = .returned (.map (some m)) ∧ NumAt w' m ∧ w.heap.size ≤ m ∧ w.grownBy w' none := by
  have hmm := mk_map
  have sm6 : Small 6 := by unfold Small; decide
  go_enter Tryz.func8, Tryz.ntmps8
  go_wp2_with fail
  refine (six_any _).mono ?_
  rintro e W1 ⟨rfl, g1⟩
  have HM0 : Hid (W1.ownsMap Tryz.prog 9 (plainElem Tryz.prog 3) w.heap.size 0 (nD 0)) := World.ownsMap.kept (World.ownsMap_made w _ _ _) g1 (by simp)
  have HG0 : Hid (w.grownBy W1 none) := grown_trans (World.grownBy_alloc _ _ none) g1
  obtain ⟨sx, hsx⟩ : ∃ s, s = sixA := ⟨_, rfl⟩
  rw [← hsx]
  have HS : Hid (sx = sixA) := hsx
  clear hsx g1 hmm
  go_wp2_with fail
  go_loopw [6] (fun x wr => ∃ j : Nat, j ≤ 6 ∧ x = .int .i64 (j : Int) ∧ wr.ownsMap Tryz.prog 9 (plainElem Tryz.prog 3) w.heap.size j (nD j) ∧ w.grownBy wr none) (fun x _ => 6 - (intOf x).toNat)
  case atStart => exact ⟨0, Nat.zero_le _, rfl, HM0.out, HG0.out⟩
  case round =>
    clear HM0 HG0
    obtain ⟨j, hj, rfl, M, Gr⟩ := hrel
    obtain ⟨U, hU⟩ : ∃ U, U = wr := ⟨_, rfl⟩
    subst hU
    have HM : Hid (U.ownsMap Tryz.prog 9 (plainElem Tryz.prog 3) w.heap.size j (nD j)) := M
    have HG : Hid (w.grownBy U none) := Gr
    clear M Gr
    rcases (show j = 0 ∨ j = 1 ∨ j = 2 ∨ j = 3 ∨ j = 4 ∨ j = 5 ∨ j = 6 from by omega) with rfl | rfl | rfl | rfl | rfl | rfl | rfl
    · obtain ⟨X, hX⟩ : ∃ X, X = U.heap.size := ⟨_, rfl⟩
      obtain ⟨U1, hU1⟩ : ∃ U1, U1 = U.alloc (.cells #[.string ⟨#[97, 105, 114]⟩, .func (.func 79) #[] #[], .func (.func 80) #[] #[], .func (.func 81) #[] #[], .func (.func 82) #[] #[]] 83) := ⟨_, rfl⟩
      have G1 : U.grownBy U1 none := by rw [hU1]; exact World.grownBy_alloc _ _ none
      have Z : U1.heap[X]? = some (.cells #[.string ⟨#[97, 105, 114]⟩, .func (.func 79) #[] #[], .func (.func 80) #[] #[], .func (.func 81) #[] #[], .func (.func 82) #[] #[]] 83 (0, 0)) := by rw [hU1, hX]; exact alloc_at _ _ _
      have x0 : U1.cell? ⟨X, 0, none⟩ = some (.string ⟨#[97, 105, 114]⟩) := block_cell Z 0
      have x4 : U1.cell? ⟨X, 4, none⟩ = some (.func (.func 82) #[] #[]) := block_cell Z 4
      have hXm : ¬ X = w.heap.size := by have h9 := HM.out.lt; omega
      have hix : ∀ W, (Instr.index 84 (.agg sx) (.int .i64 0)).run Tryz.prog W = .ok (.agg #[.string ⟨#[97, 105, 114]⟩, .func (.func 79) #[] #[], .func (.func 80) #[] #[], .func (.func 81) #[] #[], .func (.func 82) #[] #[]]) W := fun W => by rw [HS.out]; exact idx_six 0 (by decide) W
      have HMd : Hid (U1.drew.ownsMap Tryz.prog 9 (plainElem Tryz.prog 3) w.heap.size 0 (nD 0)) := HM.out.kept (grown_trans G1 (grown_drew _)) (by simp)
      have HGd : Hid (w.grownBy U1.drew none) := grown_trans HG.out (grown_trans G1 (grown_drew _))
      have H0 : U1.grownBy U1.drew (some w.heap.size) := grown_drew' _ _
      rw [show ((0 : Nat) : Int) = (0 : Int) from rfl]
      have HX : Hid (X = U.heap.size) := hX
      have HU1 : Hid (U1 = U.alloc (.cells #[.string ⟨#[97, 105, 114]⟩, .func (.func 79) #[] #[], .func (.func 80) #[] #[], .func (.func 81) #[] #[], .func (.func 82) #[] #[]] 83)) := hU1
      clear Z G1 HM HG hX hU1
      go_upto_region 5 with fail
      rw [← HX.out, ← HU1.out]
      clear hix HX HU1
      refine wp_region_held_drew (S := fun w' => U1.grownBy w' (some w.heap.size)) (by kernel_rfl) H0 (fun hHeld => ?_)
      refine wpAnyH_take (i := 0) (v := ?_) rfl (by kernel_rfl) (by kernel_rfl) (by kernel_rfl) (fun _ _ _ h => h) (Or.inl ⟨by rfl, ?_⟩) (by assumption) ?_
      rotate_left 1
      · (intro w0 hSw; go_simp; try with_reducible rfl)
      simp only [List.getElem_toArray, List.getElem_cons_zero]
      go_frame
      refine wpAnyH_take (i := 1) (v := ?_) rfl (by kernel_rfl) (by kernel_rfl) (by kernel_rfl) (fun _ _ _ h => h) (Or.inl ⟨by rfl, ?_⟩) (by assumption) ?_
      rotate_left 1
      · (intro w0 hSw; go_simp; try with_reducible rfl)
      simp only [List.getElem_toArray, List.getElem_cons_zero, List.getElem_cons_succ]
      go_frame
      refine wpAnyH_take (i := 2) (v := ?_) rfl (by kernel_rfl) (by kernel_rfl) (by kernel_rfl) (fun _ _ _ h => h) (Or.inl ⟨by rfl, ?_⟩) (by assumption) ?_
      rotate_left 1
      · (intro w0 hSw; have a9 := World.grownBy.cell hSw x0 (by simpa using hXm); go_simp; try with_reducible rfl)
      simp only [List.getElem_toArray, List.getElem_cons_zero, List.getElem_cons_succ]
      go_frame
      refine wpAnyH_take (i := 3) (v := ?_) rfl (by kernel_rfl) (by kernel_rfl) (by kernel_rfl) (fun _ _ _ h => h) (Or.inl ⟨by rfl, ?_⟩) (by assumption) ?_
      rotate_left 1
      · (intro w0 hSw; go_simp; try with_reducible rfl)
      simp only [List.getElem_toArray, List.getElem_cons_zero, List.getElem_cons_succ]
      go_frame
      refine wpAnyH_take (i := 4) (v := ?_) rfl (by kernel_rfl) (by kernel_rfl) (by kernel_rfl) (fun _ _ _ h => h) (Or.inl ⟨by rfl, ?_⟩) (by assumption) ?_
      rotate_left 1
      · (intro w0 hSw; have a9 := World.grownBy.cell hSw x4 (by simpa using hXm); go_simp; try with_reducible rfl)
      simp only [List.getElem_toArray, List.getElem_cons_zero, List.getElem_cons_succ]
      go_frame
      refine wpAnyH_ready (rs := [5]) (by kernel_rfl) (by simp) ?_
      refine AllReadyH.cons rfl (fun K hK => ?_) AllReadyH.nil
      simp only [List.getElem_toArray, List.getElem_cons_zero, List.getElem_cons_succ]
      go_simp
      go_at_call 82
      refine (number_ai U1.drew).mono ?_
      rintro e U3 ⟨rfl, g3⟩
      refine hK.out _ _ (grown_own' (grown_trans (grown_drew _) g3) (grown_refl _ _)) (fun hHeld2 => ?_)
      clear hK K
      (try go_frame)
      obtain ⟨U4, hrun, M4, g4⟩ := World.ownsMap.update (HMd.out.kept g3 (by simp)) keyK Tryz.underlying22 (by unfold maxLen; decide) (key_of 0) (val_of 0)
      have HM4 : Hid (U4.ownsMap Tryz.prog 9 (plainElem Tryz.prog 3) w.heap.size (0 + 1) (nD (0 + 1))) := M4
      have HG4 : Hid (w.grownBy U4 none) := grown_own (grown_trans HGd.out g3) g4 (fun x e => by cases e; exact Nat.le_refl _)
      have hr : (Instr.mapUpdate 22 (.map (some w.heap.size)) (.string ⟨#[97, 105, 114]⟩) (.int .i64 27)).run Tryz.prog U3 = .ok () U4 := hrun
      have H4 : U1.grownBy U4 (some w.heap.size) := grown_own' (grown_trans (grown_drew _) g3) g4
      clear hrun M4 g4 g3
      refine wpAnyH_ready (rs := [6]) (by kernel_rfl) (by simp) ?_
      refine AllReadyH.cons rfl (fun K hK => ?_) AllReadyH.nil
      simp only [List.getElem_toArray, List.getElem_cons_zero, List.getElem_cons_succ]
      go_simp
      refine hK.out _ _ H4 (fun hHeld3 => ?_)
      clear hK K
      (try go_frame)
      refine wpAnyH_done (by kernel_rfl) ?_ _
      clear hHeld hHeld2 hHeld3 H0 H4 hr x0 x4
      go_wp2_with fail
      go_roundw
      case rel => exact ⟨0 + 1, by decide, rfl, HM4.out, HG4.out⟩
      case measure => decide
    · obtain ⟨X, hX⟩ : ∃ X, X = U.heap.size := ⟨_, rfl⟩
      obtain ⟨U1, hU1⟩ : ∃ U1, U1 = U.alloc (.cells #[.string ⟨#[101, 97, 114, 116, 104]⟩, .func (.func 83) #[] #[], .func (.func 84) #[] #[], .func (.func 85) #[] #[], .func (.func 86) #[] #[]] 83) := ⟨_, rfl⟩
      have G1 : U.grownBy U1 none := by rw [hU1]; exact World.grownBy_alloc _ _ none
      have Z : U1.heap[X]? = some (.cells #[.string ⟨#[101, 97, 114, 116, 104]⟩, .func (.func 83) #[] #[], .func (.func 84) #[] #[], .func (.func 85) #[] #[], .func (.func 86) #[] #[]] 83 (0, 0)) := by rw [hU1, hX]; exact alloc_at _ _ _
      have x0 : U1.cell? ⟨X, 0, none⟩ = some (.string ⟨#[101, 97, 114, 116, 104]⟩) := block_cell Z 0
      have x4 : U1.cell? ⟨X, 4, none⟩ = some (.func (.func 86) #[] #[]) := block_cell Z 4
      have hXm : ¬ X = w.heap.size := by have h9 := HM.out.lt; omega
      have hix : ∀ W, (Instr.index 84 (.agg sx) (.int .i64 1)).run Tryz.prog W = .ok (.agg #[.string ⟨#[101, 97, 114, 116, 104]⟩, .func (.func 83) #[] #[], .func (.func 84) #[] #[], .func (.func 85) #[] #[], .func (.func 86) #[] #[]]) W := fun W => by rw [HS.out]; exact idx_six 1 (by decide) W
      have HMd : Hid (U1.drew.ownsMap Tryz.prog 9 (plainElem Tryz.prog 3) w.heap.size 1 (nD 1)) := HM.out.kept (grown_trans G1 (grown_drew _)) (by simp)
      have HGd : Hid (w.grownBy U1.drew none) := grown_trans HG.out (grown_trans G1 (grown_drew _))
      have H0 : U1.grownBy U1.drew (some w.heap.size) := grown_drew' _ _
      rw [show ((1 : Nat) : Int) = (1 : Int) from rfl]
      have HX : Hid (X = U.heap.size) := hX
      have HU1 : Hid (U1 = U.alloc (.cells #[.string ⟨#[101, 97, 114, 116, 104]⟩, .func (.func 83) #[] #[], .func (.func 84) #[] #[], .func (.func 85) #[] #[], .func (.func 86) #[] #[]] 83)) := hU1
      clear Z G1 HM HG hX hU1
      go_upto_region 5 with fail
      rw [← HX.out, ← HU1.out]
      clear hix HX HU1
      refine wp_region_held_drew (S := fun w' => U1.grownBy w' (some w.heap.size)) (by kernel_rfl) H0 (fun hHeld => ?_)
      refine wpAnyH_take (i := 0) (v := ?_) rfl (by kernel_rfl) (by kernel_rfl) (by kernel_rfl) (fun _ _ _ h => h) (Or.inl ⟨by rfl, ?_⟩) (by assumption) ?_
      rotate_left 1
      · (intro w0 hSw; go_simp; try with_reducible rfl)
      simp only [List.getElem_toArray, List.getElem_cons_zero]
      go_frame
      refine wpAnyH_take (i := 1) (v := ?_) rfl (by kernel_rfl) (by kernel_rfl) (by kernel_rfl) (fun _ _ _ h => h) (Or.inl ⟨by rfl, ?_⟩) (by assumption) ?_
      rotate_left 1
      · (intro w0 hSw; go_simp; try with_reducible rfl)
      simp only [List.getElem_toArray, List.getElem_cons_zero, List.getElem_cons_succ]
      go_frame
      refine wpAnyH_take (i := 2) (v := ?_) rfl (by kernel_rfl) (by kernel_rfl) (by kernel_rfl) (fun _ _ _ h => h) (Or.inl ⟨by rfl, ?_⟩) (by assumption) ?_
      rotate_left 1
      · (intro w0 hSw; have a9 := World.grownBy.cell hSw x0 (by simpa using hXm); go_simp; try with_reducible rfl)
      simp only [List.getElem_toArray, List.getElem_cons_zero, List.getElem_cons_succ]
      go_frame
      refine wpAnyH_take (i := 3) (v := ?_) rfl (by kernel_rfl) (by kernel_rfl) (by kernel_rfl) (fun _ _ _ h => h) (Or.inl ⟨by rfl, ?_⟩) (by assumption) ?_
      rotate_left 1
      · (intro w0 hSw; go_simp; try with_reducible rfl)
      simp only [List.getElem_toArray, List.getElem_cons_zero, List.getElem_cons_succ]
      go_frame
      refine wpAnyH_take (i := 4) (v := ?_) rfl (by kernel_rfl) (by kernel_rfl) (by kernel_rfl) (fun _ _ _ h => h) (Or.inl ⟨by rfl, ?_⟩) (by assumption) ?_
      rotate_left 1
      · (intro w0 hSw; have a9 := World.grownBy.cell hSw x4 (by simpa using hXm); go_simp; try with_reducible rfl)
      simp only [List.getElem_toArray, List.getElem_cons_zero, List.getElem_cons_succ]
      go_frame
      refine wpAnyH_ready (rs := [5]) (by kernel_rfl) (by simp) ?_
      refine AllReadyH.cons rfl (fun K hK => ?_) AllReadyH.nil
      simp only [List.getElem_toArray, List.getElem_cons_zero, List.getElem_cons_succ]
      go_simp
      go_at_call 86
      refine (number_ea U1.drew).mono ?_
      rintro e U3 ⟨rfl, g3⟩
      refine hK.out _ _ (grown_own' (grown_trans (grown_drew _) g3) (grown_refl _ _)) (fun hHeld2 => ?_)
      clear hK K
      (try go_frame)
      obtain ⟨U4, hrun, M4, g4⟩ := World.ownsMap.update (HMd.out.kept g3 (by simp)) keyK Tryz.underlying22 (by unfold maxLen; decide) (key_of 1) (val_of 1)
      have HM4 : Hid (U4.ownsMap Tryz.prog 9 (plainElem Tryz.prog 3) w.heap.size (1 + 1) (nD (1 + 1))) := M4
      have HG4 : Hid (w.grownBy U4 none) := grown_own (grown_trans HGd.out g3) g4 (fun x e => by cases e; exact Nat.le_refl _)
      have hr : (Instr.mapUpdate 22 (.map (some w.heap.size)) (.string ⟨#[101, 97, 114, 116, 104]⟩) (.int .i64 31)).run Tryz.prog U3 = .ok () U4 := hrun
      have H4 : U1.grownBy U4 (some w.heap.size) := grown_own' (grown_trans (grown_drew _) g3) g4
      clear hrun M4 g4 g3
      refine wpAnyH_ready (rs := [6]) (by kernel_rfl) (by simp) ?_
      refine AllReadyH.cons rfl (fun K hK => ?_) AllReadyH.nil
      simp only [List.getElem_toArray, List.getElem_cons_zero, List.getElem_cons_succ]
      go_simp
      refine hK.out _ _ H4 (fun hHeld3 => ?_)
      clear hK K
      (try go_frame)
      refine wpAnyH_done (by kernel_rfl) ?_ _
      clear hHeld hHeld2 hHeld3 H0 H4 hr x0 x4
      go_wp2_with fail
      go_roundw
      case rel => exact ⟨1 + 1, by decide, rfl, HM4.out, HG4.out⟩
      case measure => decide
    · obtain ⟨X, hX⟩ : ∃ X, X = U.heap.size := ⟨_, rfl⟩
      obtain ⟨U1, hU1⟩ : ∃ U1, U1 = U.alloc (.cells #[.string ⟨#[102, 105, 114, 101]⟩, .func (.func 87) #[] #[], .func (.func 88) #[] #[], .func (.func 89) #[] #[], .func (.func 90) #[] #[]] 83) := ⟨_, rfl⟩
      have G1 : U.grownBy U1 none := by rw [hU1]; exact World.grownBy_alloc _ _ none
      have Z : U1.heap[X]? = some (.cells #[.string ⟨#[102, 105, 114, 101]⟩, .func (.func 87) #[] #[], .func (.func 88) #[] #[], .func (.func 89) #[] #[], .func (.func 90) #[] #[]] 83 (0, 0)) := by rw [hU1, hX]; exact alloc_at _ _ _
      have x0 : U1.cell? ⟨X, 0, none⟩ = some (.string ⟨#[102, 105, 114, 101]⟩) := block_cell Z 0
      have x4 : U1.cell? ⟨X, 4, none⟩ = some (.func (.func 90) #[] #[]) := block_cell Z 4
      have hXm : ¬ X = w.heap.size := by have h9 := HM.out.lt; omega
      have hix : ∀ W, (Instr.index 84 (.agg sx) (.int .i64 2)).run Tryz.prog W = .ok (.agg #[.string ⟨#[102, 105, 114, 101]⟩, .func (.func 87) #[] #[], .func (.func 88) #[] #[], .func (.func 89) #[] #[], .func (.func 90) #[] #[]]) W := fun W => by rw [HS.out]; exact idx_six 2 (by decide) W
      have HMd : Hid (U1.drew.ownsMap Tryz.prog 9 (plainElem Tryz.prog 3) w.heap.size 2 (nD 2)) := HM.out.kept (grown_trans G1 (grown_drew _)) (by simp)
      have HGd : Hid (w.grownBy U1.drew none) := grown_trans HG.out (grown_trans G1 (grown_drew _))
      have H0 : U1.grownBy U1.drew (some w.heap.size) := grown_drew' _ _
      rw [show ((2 : Nat) : Int) = (2 : Int) from rfl]
      have HX : Hid (X = U.heap.size) := hX
      have HU1 : Hid (U1 = U.alloc (.cells #[.string ⟨#[102, 105, 114, 101]⟩, .func (.func 87) #[] #[], .func (.func 88) #[] #[], .func (.func 89) #[] #[], .func (.func 90) #[] #[]] 83)) := hU1
      clear Z G1 HM HG hX hU1
      go_upto_region 5 with fail
      rw [← HX.out, ← HU1.out]
      clear hix HX HU1
      refine wp_region_held_drew (S := fun w' => U1.grownBy w' (some w.heap.size)) (by kernel_rfl) H0 (fun hHeld => ?_)
      refine wpAnyH_take (i := 0) (v := ?_) rfl (by kernel_rfl) (by kernel_rfl) (by kernel_rfl) (fun _ _ _ h => h) (Or.inl ⟨by rfl, ?_⟩) (by assumption) ?_
      rotate_left 1
      · (intro w0 hSw; go_simp; try with_reducible rfl)
      simp only [List.getElem_toArray, List.getElem_cons_zero]
      go_frame
      refine wpAnyH_take (i := 1) (v := ?_) rfl (by kernel_rfl) (by kernel_rfl) (by kernel_rfl) (fun _ _ _ h => h) (Or.inl ⟨by rfl, ?_⟩) (by assumption) ?_
      rotate_left 1
      · (intro w0 hSw; go_simp; try with_reducible rfl)
      simp only [List.getElem_toArray, List.getElem_cons_zero, List.getElem_cons_succ]
      go_frame
      refine wpAnyH_take (i := 2) (v := ?_) rfl (by kernel_rfl) (by kernel_rfl) (by kernel_rfl) (fun _ _ _ h => h) (Or.inl ⟨by rfl, ?_⟩) (by assumption) ?_
      rotate_left 1
      · (intro w0 hSw; have a9 := World.grownBy.cell hSw x0 (by simpa using hXm); go_simp; try with_reducible rfl)
      simp only [List.getElem_toArray, List.getElem_cons_zero, List.getElem_cons_succ]
      go_frame
      refine wpAnyH_take (i := 3) (v := ?_) rfl (by kernel_rfl) (by kernel_rfl) (by kernel_rfl) (fun _ _ _ h => h) (Or.inl ⟨by rfl, ?_⟩) (by assumption) ?_
      rotate_left 1
      · (intro w0 hSw; go_simp; try with_reducible rfl)
      simp only [List.getElem_toArray, List.getElem_cons_zero, List.getElem_cons_succ]
      go_frame
      refine wpAnyH_take (i := 4) (v := ?_) rfl (by kernel_rfl) (by kernel_rfl) (by kernel_rfl) (fun _ _ _ h => h) (Or.inl ⟨by rfl, ?_⟩) (by assumption) ?_
      rotate_left 1
      · (intro w0 hSw; have a9 := World.grownBy.cell hSw x4 (by simpa using hXm); go_simp; try with_reducible rfl)
      simp only [List.getElem_toArray, List.getElem_cons_zero, List.getElem_cons_succ]
      go_frame
      refine wpAnyH_ready (rs := [5]) (by kernel_rfl) (by simp) ?_
      refine AllReadyH.cons rfl (fun K hK => ?_) AllReadyH.nil
      simp only [List.getElem_toArray, List.getElem_cons_zero, List.getElem_cons_succ]
      go_simp
      go_at_call 90
      refine (number_fr U1.drew).mono ?_
      rintro e U3 ⟨rfl, g3⟩
      refine hK.out _ _ (grown_own' (grown_trans (grown_drew _) g3) (grown_refl _ _)) (fun hHeld2 => ?_)
      clear hK K
      (try go_frame)
      obtain ⟨U4, hrun, M4, g4⟩ := World.ownsMap.update (HMd.out.kept g3 (by simp)) keyK Tryz.underlying22 (by unfold maxLen; decide) (key_of 2) (val_of 2)
      have HM4 : Hid (U4.ownsMap Tryz.prog 9 (plainElem Tryz.prog 3) w.heap.size (2 + 1) (nD (2 + 1))) := M4
      have HG4 : Hid (w.grownBy U4 none) := grown_own (grown_trans HGd.out g3) g4 (fun x e => by cases e; exact Nat.le_refl _)
      have hr : (Instr.mapUpdate 22 (.map (some w.heap.size)) (.string ⟨#[102, 105, 114, 101]⟩) (.int .i64 68)).run Tryz.prog U3 = .ok () U4 := hrun
      have H4 : U1.grownBy U4 (some w.heap.size) := grown_own' (grown_trans (grown_drew _) g3) g4
      clear hrun M4 g4 g3
      refine wpAnyH_ready (rs := [6]) (by kernel_rfl) (by simp) ?_
      refine AllReadyH.cons rfl (fun K hK => ?_) AllReadyH.nil
      simp only [List.getElem_toArray, List.getElem_cons_zero, List.getElem_cons_succ]
      go_simp
      refine hK.out _ _ H4 (fun hHeld3 => ?_)
      clear hK K
      (try go_frame)
      refine wpAnyH_done (by kernel_rfl) ?_ _
      clear hHeld hHeld2 hHeld3 H0 H4 hr x0 x4
      go_wp2_with fail
      go_roundw
      case rel => exact ⟨2 + 1, by decide, rfl, HM4.out, HG4.out⟩
      case measure => decide
    · obtain ⟨X, hX⟩ : ∃ X, X = U.heap.size := ⟨_, rfl⟩
      obtain ⟨U1, hU1⟩ : ∃ U1, U1 = U.alloc (.cells #[.string ⟨#[119, 97, 116, 101, 114]⟩, .func (.func 91) #[] #[], .func (.func 92) #[] #[], .func (.func 93) #[] #[], .func (.func 94) #[] #[]] 83) := ⟨_, rfl⟩
      have G1 : U.grownBy U1 none := by rw [hU1]; exact World.grownBy_alloc _ _ none
      have Z : U1.heap[X]? = some (.cells #[.string ⟨#[119, 97, 116, 101, 114]⟩, .func (.func 91) #[] #[], .func (.func 92) #[] #[], .func (.func 93) #[] #[], .func (.func 94) #[] #[]] 83 (0, 0)) := by rw [hU1, hX]; exact alloc_at _ _ _
      have x0 : U1.cell? ⟨X, 0, none⟩ = some (.string ⟨#[119, 97, 116, 101, 114]⟩) := block_cell Z 0
      have x4 : U1.cell? ⟨X, 4, none⟩ = some (.func (.func 94) #[] #[]) := block_cell Z 4
      have hXm : ¬ X = w.heap.size := by have h9 := HM.out.lt; omega
      have hix : ∀ W, (Instr.index 84 (.agg sx) (.int .i64 3)).run Tryz.prog W = .ok (.agg #[.string ⟨#[119, 97, 116, 101, 114]⟩, .func (.func 91) #[] #[], .func (.func 92) #[] #[], .func (.func 93) #[] #[], .func (.func 94) #[] #[]]) W := fun W => by rw [HS.out]; exact idx_six 3 (by decide) W
      have HMd : Hid (U1.drew.ownsMap Tryz.prog 9 (plainElem Tryz.prog 3) w.heap.size 3 (nD 3)) := HM.out.kept (grown_trans G1 (grown_drew _)) (by simp)
      have HGd : Hid (w.grownBy U1.drew none) := grown_trans HG.out (grown_trans G1 (grown_drew _))
      have H0 : U1.grownBy U1.drew (some w.heap.size) := grown_drew' _ _
      rw [show ((3 : Nat) : Int) = (3 : Int) from rfl]
      have HX : Hid (X = U.heap.size) := hX
      have HU1 : Hid (U1 = U.alloc (.cells #[.string ⟨#[119, 97, 116, 101, 114]⟩, .func (.func 91) #[] #[], .func (.func 92) #[] #[], .func (.func 93) #[] #[], .func (.func 94) #[] #[]] 83)) := hU1
      clear Z G1 HM HG hX hU1
      go_upto_region 5 with fail
      rw [← HX.out, ← HU1.out]
      clear hix HX HU1
      refine wp_region_held_drew (S := fun w' => U1.grownBy w' (some w.heap.size)) (by kernel_rfl) H0 (fun hHeld => ?_)
      refine wpAnyH_take (i := 0) (v := ?_) rfl (by kernel_rfl) (by kernel_rfl) (by kernel_rfl) (fun _ _ _ h => h) (Or.inl ⟨by rfl, ?_⟩) (by assumption) ?_
      rotate_left 1
      · (intro w0 hSw; go_simp; try with_reducible rfl)
      simp only [List.getElem_toArray, List.getElem_cons_zero]
      go_frame
      refine wpAnyH_take (i := 1) (v := ?_) rfl (by kernel_rfl) (by kernel_rfl) (by kernel_rfl) (fun _ _ _ h => h) (Or.inl ⟨by rfl, ?_⟩) (by assumption) ?_
      rotate_left 1
      · (intro w0 hSw; go_simp; try with_reducible rfl)
      simp only [List.getElem_toArray, List.getElem_cons_zero, List.getElem_cons_succ]
      go_frame
      refine wpAnyH_take (i := 2) (v := ?_) rfl (by kernel_rfl) (by kernel_rfl) (by kernel_rfl) (fun _ _ _ h => h) (Or.inl ⟨by rfl, ?_⟩) (by assumption) ?_
      rotate_left 1
      · (intro w0 hSw; have a9 := World.grownBy.cell hSw x0 (by simpa using hXm); go_simp; try with_reducible rfl)
      simp only [List.getElem_toArray, List.getElem_cons_zero, List.getElem_cons_succ]
      go_frame
      refine wpAnyH_take (i := 3) (v := ?_) rfl (by kernel_rfl) (by kernel_rfl) (by kernel_rfl) (fun _ _ _ h => h) (Or.inl ⟨by rfl, ?_⟩) (by assumption) ?_
      rotate_left 1
      · (intro w0 hSw; go_simp; try with_reducible rfl)
      simp only [List.getElem_toArray, List.getElem_cons_zero, List.getElem_cons_succ]
      go_frame
      refine wpAnyH_take (i := 4) (v := ?_) rfl (by kernel_rfl) (by kernel_rfl) (by kernel_rfl) (fun _ _ _ h => h) (Or.inl ⟨by rfl, ?_⟩) (by assumption) ?_
      rotate_left 1
      · (intro w0 hSw; have a9 := World.grownBy.cell hSw x4 (by simpa using hXm); go_simp; try with_reducible rfl)
      simp only [List.getElem_toArray, List.getElem_cons_zero, List.getElem_cons_succ]
      go_frame
      refine wpAnyH_ready (rs := [5]) (by kernel_rfl) (by simp) ?_
      refine AllReadyH.cons rfl (fun K hK => ?_) AllReadyH.nil
      simp only [List.getElem_toArray, List.getElem_cons_zero, List.getElem_cons_succ]
      go_simp
      go_at_call 94
      refine (number_wa U1.drew).mono ?_
      rintro e U3 ⟨rfl, g3⟩
      refine hK.out _ _ (grown_own' (grown_trans (grown_drew _) g3) (grown_refl _ _)) (fun hHeld2 => ?_)
      clear hK K
      (try go_frame)
      obtain ⟨U4, hrun, M4, g4⟩ := World.ownsMap.update (HMd.out.kept g3 (by simp)) keyK Tryz.underlying22 (by unfold maxLen; decide) (key_of 3) (val_of 3)
      have HM4 : Hid (U4.ownsMap Tryz.prog 9 (plainElem Tryz.prog 3) w.heap.size (3 + 1) (nD (3 + 1))) := M4
      have HG4 : Hid (w.grownBy U4 none) := grown_own (grown_trans HGd.out g3) g4 (fun x e => by cases e; exact Nat.le_refl _)
      have hr : (Instr.mapUpdate 22 (.map (some w.heap.size)) (.string ⟨#[119, 97, 116, 101, 114]⟩) (.int .i64 51)).run Tryz.prog U3 = .ok () U4 := hrun
      have H4 : U1.grownBy U4 (some w.heap.size) := grown_own' (grown_trans (grown_drew _) g3) g4
      clear hrun M4 g4 g3
      refine wpAnyH_ready (rs := [6]) (by kernel_rfl) (by simp) ?_
      refine AllReadyH.cons rfl (fun K hK => ?_) AllReadyH.nil
      simp only [List.getElem_toArray, List.getElem_cons_zero, List.getElem_cons_succ]
      go_simp
      refine hK.out _ _ H4 (fun hHeld3 => ?_)
      clear hK K
      (try go_frame)
      refine wpAnyH_done (by kernel_rfl) ?_ _
      clear hHeld hHeld2 hHeld3 H0 H4 hr x0 x4
      go_wp2_with fail
      go_roundw
      case rel => exact ⟨3 + 1, by decide, rfl, HM4.out, HG4.out⟩
      case measure => decide
    · obtain ⟨X, hX⟩ : ∃ X, X = U.heap.size := ⟨_, rfl⟩
      obtain ⟨U1, hU1⟩ : ∃ U1, U1 = U.alloc (.cells #[.string ⟨#[118, 111, 105, 100]⟩, .func (.func 95) #[] #[], .func (.func 96) #[] #[], .func (.func 97) #[] #[], .func (.func 98) #[] #[]] 83) := ⟨_, rfl⟩
      have G1 : U.grownBy U1 none := by rw [hU1]; exact World.grownBy_alloc _ _ none
      have Z : U1.heap[X]? = some (.cells #[.string ⟨#[118, 111, 105, 100]⟩, .func (.func 95) #[] #[], .func (.func 96) #[] #[], .func (.func 97) #[] #[], .func (.func 98) #[] #[]] 83 (0, 0)) := by rw [hU1, hX]; exact alloc_at _ _ _
      have x0 : U1.cell? ⟨X, 0, none⟩ = some (.string ⟨#[118, 111, 105, 100]⟩) := block_cell Z 0
      have x4 : U1.cell? ⟨X, 4, none⟩ = some (.func (.func 98) #[] #[]) := block_cell Z 4
      have hXm : ¬ X = w.heap.size := by have h9 := HM.out.lt; omega
      have hix : ∀ W, (Instr.index 84 (.agg sx) (.int .i64 4)).run Tryz.prog W = .ok (.agg #[.string ⟨#[118, 111, 105, 100]⟩, .func (.func 95) #[] #[], .func (.func 96) #[] #[], .func (.func 97) #[] #[], .func (.func 98) #[] #[]]) W := fun W => by rw [HS.out]; exact idx_six 4 (by decide) W
      have HMd : Hid (U1.drew.ownsMap Tryz.prog 9 (plainElem Tryz.prog 3) w.heap.size 4 (nD 4)) := HM.out.kept (grown_trans G1 (grown_drew _)) (by simp)
      have HGd : Hid (w.grownBy U1.drew none) := grown_trans HG.out (grown_trans G1 (grown_drew _))
      have H0 : U1.grownBy U1.drew (some w.heap.size) := grown_drew' _ _
      rw [show ((4 : Nat) : Int) = (4 : Int) from rfl]
      have HX : Hid (X = U.heap.size) := hX
      have HU1 : Hid (U1 = U.alloc (.cells #[.string ⟨#[118, 111, 105, 100]⟩, .func (.func 95) #[] #[], .func (.func 96) #[] #[], .func (.func 97) #[] #[], .func (.func 98) #[] #[]] 83)) := hU1
      clear Z G1 HM HG hX hU1
      go_upto_region 5 with fail
      rw [← HX.out, ← HU1.out]
      clear hix HX HU1
      refine wp_region_held_drew (S := fun w' => U1.grownBy w' (some w.heap.size)) (by kernel_rfl) H0 (fun hHeld => ?_)
      refine wpAnyH_take (i := 0) (v := ?_) rfl (by kernel_rfl) (by kernel_rfl) (by kernel_rfl) (fun _ _ _ h => h) (Or.inl ⟨by rfl, ?_⟩) (by assumption) ?_
      rotate_left 1
      · (intro w0 hSw; go_simp; try with_reducible rfl)
      simp only [List.getElem_toArray, List.getElem_cons_zero]
      go_frame
      refine wpAnyH_take (i := 1) (v := ?_) rfl (by kernel_rfl) (by kernel_rfl) (by kernel_rfl) (fun _ _ _ h => h) (Or.inl ⟨by rfl, ?_⟩) (by assumption) ?_
      rotate_left 1
      · (intro w0 hSw; go_simp; try with_reducible rfl)
      simp only [List.getElem_toArray, List.getElem_cons_zero, List.getElem_cons_succ]
      go_frame
      refine wpAnyH_take (i := 2) (v := ?_) rfl (by kernel_rfl) (by kernel_rfl) (by kernel_rfl) (fun _ _ _ h => h) (Or.inl ⟨by rfl, ?_⟩) (by assumption) ?_
      rotate_left 1
      · (intro w0 hSw; have a9 := World.grownBy.cell hSw x0 (by simpa using hXm); go_simp; try with_reducible rfl)
      simp only [List.getElem_toArray, List.getElem_cons_zero, List.getElem_cons_succ]
      go_frame
      refine wpAnyH_take (i := 3) (v := ?_) rfl (by kernel_rfl) (by kernel_rfl) (by kernel_rfl) (fun _ _ _ h => h) (Or.inl ⟨by rfl, ?_⟩) (by assumption) ?_
      rotate_left 1
      · (intro w0 hSw; go_simp; try with_reducible rfl)
      simp only [List.getElem_toArray, List.getElem_cons_zero, List.getElem_cons_succ]
      go_frame
      refine wpAnyH_take (i := 4) (v := ?_) rfl (by kernel_rfl) (by kernel_rfl) (by kernel_rfl) (fun _ _ _ h => h) (Or.inl ⟨by rfl, ?_⟩) (by assumption) ?_
      rotate_left 1
      · (intro w0 hSw; have a9 := World.grownBy.cell hSw x4 (by simpa using hXm); go_simp; try with_reducible rfl)
      simp only [List.getElem_toArray, List.getElem_cons_zero, List.getElem_cons_succ]
      go_frame
      refine wpAnyH_ready (rs := [5]) (by kernel_rfl) (by simp) ?_
      refine AllReadyH.cons rfl (fun K hK => ?_) AllReadyH.nil
      simp only [List.getElem_toArray, List.getElem_cons_zero, List.getElem_cons_succ]
      go_simp
      go_at_call 98
      refine (number_vo U1.drew).mono ?_
      rintro e U3 ⟨rfl, g3⟩
      refine hK.out _ _ (grown_own' (grown_trans (grown_drew _) g3) (grown_refl _ _)) (fun hHeld2 => ?_)
      clear hK K
      (try go_frame)
      obtain ⟨U4, hrun, M4, g4⟩ := World.ownsMap.update (HMd.out.kept g3 (by simp)) keyK Tryz.underlying22 (by unfold maxLen; decide) (key_of 4) (val_of 4)
      have HM4 : Hid (U4.ownsMap Tryz.prog 9 (plainElem Tryz.prog 3) w.heap.size (4 + 1) (nD (4 + 1))) := M4
      have HG4 : Hid (w.grownBy U4 none) := grown_own (grown_trans HGd.out g3) g4 (fun x e => by cases e; exact Nat.le_refl _)
      have hr : (Instr.mapUpdate 22 (.map (some w.heap.size)) (.string ⟨#[118, 111, 105, 100]⟩) (.int .i64 147)).run Tryz.prog U3 = .ok () U4 := hrun
      have H4 : U1.grownBy U4 (some w.heap.size) := grown_own' (grown_trans (grown_drew _) g3) g4
      clear hrun M4 g4 g3
      refine wpAnyH_ready (rs := [6]) (by kernel_rfl) (by simp) ?_
      refine AllReadyH.cons rfl (fun K hK => ?_) AllReadyH.nil
      simp only [List.getElem_toArray, List.getElem_cons_zero, List.getElem_cons_succ]
      go_simp
      refine hK.out _ _ H4 (fun hHeld3 => ?_)
      clear hK K
      (try go_frame)
      refine wpAnyH_done (by kernel_rfl) ?_ _
      clear hHeld hHeld2 hHeld3 H0 H4 hr x0 x4
      go_wp2_with fail
      go_roundw
      case rel => exact ⟨4 + 1, by decide, rfl, HM4.out, HG4.out⟩
      case measure => decide
    · obtain ⟨X, hX⟩ : ∃ X, X = U.heap.size := ⟨_, rfl⟩
      obtain ⟨U1, hU1⟩ : ∃ U1, U1 = U.alloc (.cells #[.string ⟨#[103, 111, 108, 100]⟩, .func (.func 99) #[] #[], .func (.func 100) #[] #[], .func (.func 101) #[] #[], .func (.func 102) #[] #[]] 83) := ⟨_, rfl⟩
      have G1 : U.grownBy U1 none := by rw [hU1]; exact World.grownBy_alloc _ _ none
      have Z : U1.heap[X]? = some (.cells #[.string ⟨#[103, 111, 108, 100]⟩, .func (.func 99) #[] #[], .func (.func 100) #[] #[], .func (.func 101) #[] #[], .func (.func 102) #[] #[]] 83 (0, 0)) := by rw [hU1, hX]; exact alloc_at _ _ _
      have x0 : U1.cell? ⟨X, 0, none⟩ = some (.string ⟨#[103, 111, 108, 100]⟩) := block_cell Z 0
      have x4 : U1.cell? ⟨X, 4, none⟩ = some (.func (.func 102) #[] #[]) := block_cell Z 4
      have hXm : ¬ X = w.heap.size := by have h9 := HM.out.lt; omega
      have hix : ∀ W, (Instr.index 84 (.agg sx) (.int .i64 5)).run Tryz.prog W = .ok (.agg #[.string ⟨#[103, 111, 108, 100]⟩, .func (.func 99) #[] #[], .func (.func 100) #[] #[], .func (.func 101) #[] #[], .func (.func 102) #[] #[]]) W := fun W => by rw [HS.out]; exact idx_six 5 (by decide) W
      have HMd : Hid (U1.drew.ownsMap Tryz.prog 9 (plainElem Tryz.prog 3) w.heap.size 5 (nD 5)) := HM.out.kept (grown_trans G1 (grown_drew _)) (by simp)
      have HGd : Hid (w.grownBy U1.drew none) := grown_trans HG.out (grown_trans G1 (grown_drew _))
      have H0 : U1.grownBy U1.drew (some w.heap.size) := grown_drew' _ _
      rw [show ((5 : Nat) : Int) = (5 : Int) from rfl]
      have HX : Hid (X = U.heap.size) := hX
      have HU1 : Hid (U1 = U.alloc (.cells #[.string ⟨#[103, 111, 108, 100]⟩, .func (.func 99) #[] #[], .func (.func 100) #[] #[], .func (.func 101) #[] #[], .func (.func 102) #[] #[]] 83)) := hU1
      clear Z G1 HM HG hX hU1
      go_upto_region 5 with fail
      rw [← HX.out, ← HU1.out]
      clear hix HX HU1
      refine wp_region_held_drew (S := fun w' => U1.grownBy w' (some w.heap.size)) (by kernel_rfl) H0 (fun hHeld => ?_)
      refine wpAnyH_take (i := 0) (v := ?_) rfl (by kernel_rfl) (by kernel_rfl) (by kernel_rfl) (fun _ _ _ h => h) (Or.inl ⟨by rfl, ?_⟩) (by assumption) ?_
      rotate_left 1
      · (intro w0 hSw; go_simp; try with_reducible rfl)
      simp only [List.getElem_toArray, List.getElem_cons_zero]
      go_frame
      refine wpAnyH_take (i := 1) (v := ?_) rfl (by kernel_rfl) (by kernel_rfl) (by kernel_rfl) (fun _ _ _ h => h) (Or.inl ⟨by rfl, ?_⟩) (by assumption) ?_
      rotate_left 1
      · (intro w0 hSw; go_simp; try with_reducible rfl)
      simp only [List.getElem_toArray, List.getElem_cons_zero, List.getElem_cons_succ]
      go_frame
      refine wpAnyH_take (i := 2) (v := ?_) rfl (by kernel_rfl) (by kernel_rfl) (by kernel_rfl) (fun _ _ _ h => h) (Or.inl ⟨by rfl, ?_⟩) (by assumption) ?_
      rotate_left 1
      · (intro w0 hSw; have a9 := World.grownBy.cell hSw x0 (by simpa using hXm); go_simp; try with_reducible rfl)
      simp only [List.getElem_toArray, List.getElem_cons_zero, List.getElem_cons_succ]
      go_frame
      refine wpAnyH_take (i := 3) (v := ?_) rfl (by kernel_rfl) (by kernel_rfl) (by kernel_rfl) (fun _ _ _ h => h) (Or.inl ⟨by rfl, ?_⟩) (by assumption) ?_
      rotate_left 1
      · (intro w0 hSw; go_simp; try with_reducible rfl)
      simp only [List.getElem_toArray, List.getElem_cons_zero, List.getElem_cons_succ]
      go_frame
      refine wpAnyH_take (i := 4) (v := ?_) rfl (by kernel_rfl) (by kernel_rfl) (by kernel_rfl) (fun _ _ _ h => h) (Or.inl ⟨by rfl, ?_⟩) (by assumption) ?_
      rotate_left 1
      · (intro w0 hSw; have a9 := World.grownBy.cell hSw x4 (by simpa using hXm); go_simp; try with_reducible rfl)
      simp only [List.getElem_toArray, List.getElem_cons_zero, List.getElem_cons_succ]
      go_frame
      refine wpAnyH_ready (rs := [5]) (by kernel_rfl) (by simp) ?_
      refine AllReadyH.cons rfl (fun K hK => ?_) AllReadyH.nil
      simp only [List.getElem_toArray, List.getElem_cons_zero, List.getElem_cons_succ]
      go_simp
      go_at_call 102
      refine (number_gd U1.drew).mono ?_
      rintro e U3 ⟨rfl, g3⟩
      refine hK.out _ _ (grown_own' (grown_trans (grown_drew _) g3) (grown_refl _ _)) (fun hHeld2 => ?_)
      clear hK K
      (try go_frame)
      obtain ⟨U4, hrun, M4, g4⟩ := World.ownsMap.update (HMd.out.kept g3 (by simp)) keyK Tryz.underlying22 (by unfold maxLen; decide) (key_of 5) (val_of 5)
      have HM4 : Hid (U4.ownsMap Tryz.prog 9 (plainElem Tryz.prog 3) w.heap.size (5 + 1) (nD (5 + 1))) := M4
      have HG4 : Hid (w.grownBy U4 none) := grown_own (grown_trans HGd.out g3) g4 (fun x e => by cases e; exact Nat.le_refl _)
      have hr : (Instr.mapUpdate 22 (.map (some w.heap.size)) (.string ⟨#[103, 111, 108, 100]⟩) (.int .i64 215)).run Tryz.prog U3 = .ok () U4 := hrun
      have H4 : U1.grownBy U4 (some w.heap.size) := grown_own' (grown_trans (grown_drew _) g3) g4
      clear hrun M4 g4 g3
      refine wpAnyH_ready (rs := [6]) (by kernel_rfl) (by simp) ?_
      refine AllReadyH.cons rfl (fun K hK => ?_) AllReadyH.nil
      simp only [List.getElem_toArray, List.getElem_cons_zero, List.getElem_cons_succ]
      go_simp
      refine hK.out _ _ H4 (fun hHeld3 => ?_)
      clear hK K
      (try go_frame)
      refine wpAnyH_done (by kernel_rfl) ?_ _
      clear hHeld hHeld2 hHeld3 H0 H4 hr x0 x4
      go_wp2_with fail
      go_roundw
      case rel => exact ⟨5 + 1, by decide, rfl, HM4.out, HG4.out⟩
      case measure => decide
    · rw [show ((6 : Nat) : Int) = (6 : Int) from rfl]
      go_wp2
      go_ret
      exact ⟨_, rfl, HM.out, Nat.le_refl _, HG.out⟩
end Go.Proofs.YtknlcjhcamhfmaaGreatDoor
