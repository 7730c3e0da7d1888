/-
  SuitRound, walked: Of of Name is the suit; Beaten and Beats undo each other; so many steps of Beats come back to the suit just if the steps are a multiple of six.
-/
import Derived.Test.YtmnkibnbnhjncaaDoorNames
namespace Go.Proofs.YtmnkibnbnhjncaaDoor
open Go.RowKit

theorem tl_of (x : Fin 6) : (sName (suitV x)).toList = nmL x := by
  rcases fin_six x with rfl | rfl | rfl | rfl | rfl | rfl
  · kernel_rfl
  · kernel_rfl
  · kernel_rfl
  · kernel_rfl
  · kernel_rfl
  · kernel_rfl
/-- So many steps of Beats. -/
def stepsB : Nat → Int → Int
  | 0, k => k
  | n + 1, k => sBeats (stepsB n k)
theorem six_beats {k : Int} (h : Six k) : Six (sBeats k) := by rcases h with rfl | rfl | rfl | rfl | rfl | rfl <;> simp [sBeats, Six]
theorem six_steps (n : Nat) {k : Int} (h : Six k) : Six (stepsB n k) := by
  induction n with
  | zero => exact h
  | succ n ih => exact six_beats ih
theorem stepsB_add (m n : Nat) (k : Int) : stepsB (m + n) k = stepsB m (stepsB n k) := by
  induction m with
  | zero => simp [stepsB]
  | succ m ih => rw [Nat.succ_add]; simp [stepsB, ih]
theorem stepsB_six {k : Int} (h : Six k) : stepsB 6 k = k := by rcases h with rfl | rfl | rfl | rfl | rfl | rfl <;> rfl
theorem stepsB_mul (m : Nat) {k : Int} (h : Six k) : stepsB (6 * m) k = k := by
  induction m with
  | zero => rfl
  | succ m ih => rw [Nat.mul_succ, stepsB_add, stepsB_six h]; exact ih
theorem stepsB_mod (n : Nat) {k : Int} (h : Six k) : stepsB n k = stepsB (n % 6) k := by
  have e := stepsB_add (n % 6) (6 * (n / 6)) k
  rw [stepsB_mul _ h, Nat.mod_add_div] at e
  exact e
theorem stepsB_back (n : Nat) {k : Int} (h : Six k) : (stepsB n k = k) ↔ n % 6 = 0 := by
  rw [stepsB_mod n h]
  have hm : n % 6 = 0 ∨ n % 6 = 1 ∨ n % 6 = 2 ∨ n % 6 = 3 ∨ n % 6 = 4 ∨ n % 6 = 5 := by omega
  rcases h with rfl | rfl | rfl | rfl | rfl | rfl <;> rcases hm with e | e | e | e | e | e <;> rw [e] <;> decide
theorem beaten_beats {k : Int} (h : Six k) : sBeaten (sBeats k) = k := by rcases h with rfl | rfl | rfl | rfl | rfl | rfl <;> rfl
theorem beats_beaten {k : Int} (h : Six k) : sBeats (sBeaten k) = k := by rcases h with rfl | rfl | rfl | rfl | rfl | rfl <;> rfl
theorem of_name {k : Int} (h : Six k) : oI (sName k).toList = k ∧ oB (sName k).toList = true := by
  rcases h with rfl | rfl | rfl | rfl | rfl | rfl
  · have := of_hit 0; rw [← tl_of, v0] at this; exact this
  · have := of_hit 1; rw [← tl_of, v1] at this; exact this
  · have := of_hit 2; rw [← tl_of, v2] at this; exact this
  · have := of_hit 3; rw [← tl_of, v3] at this; exact this
  · have := of_hit 4; rw [← tl_of, v4] at this; exact this
  · have := of_hit 5; rw [← tl_of, v5] at this; exact this
theorem u8_wf {a : Int} (h : (Lit.int .u8 a).wf = true) : 0 ≤ a ∧ a ≤ 255 := by
  simp only [Lit.wf, decide_eq_true_eq, Bool.and_eq_true] at h
  exact ⟨h.1, h.2⟩
set_option maxRecDepth 100000 in
set_option maxHeartbeats 2000000 in
theorem round_any (k st : Int) (hk : 0 ≤ k ∧ k ≤ 255) (hs : 0 ≤ st ∧ st ≤ 255) (w : World) (L : LaidAt w) : Calls Tryd.prog 6 #[.int .u8 k, .int .u8 st] w fun e w' => e = .returned (.bool true) ∧ w.grownBy w' none := by
  obtain ⟨n, rfl⟩ : ∃ n : Nat, st = n := ⟨st.toNat, by omega⟩
  have hm : k.tmod 6 = k % 6 := Int.tmod_eq_emod_of_nonneg hk.1
  have hS : Six (k % 6 + 1) := by unfold Six; omega
  have hn : n ≤ 255 := by omega
  go_enter Tryd.func6, Tryd.ntmps6
  go_wp2_with fail
  generalize k % 6 + 1 = q at *
  have HS : Hid (Six q) := hS
  have hq : 1 ≤ q ∧ q ≤ 6 := by unfold Six at hS; omega
  clear hS hm hk
  refine (name_any _ _ L.1).mono ?_
  rintro e w1 ⟨rfl, rfl⟩
  go_wp2_with fail
  refine (sof_any _ _ L.1).mono ?_
  rintro e w1 ⟨rfl, g1⟩
  have L1 := L.keep g1
  clear L
  rw [(of_name HS.out).1, (of_name HS.out).2]
  go_wp2_with fail
  have HL : Hid (LaidAt w1) := L1
  clear L1
  go_loop [8, 9] (fun a i => ∃ j : Nat, j ≤ n ∧ a = .int .u8 (stepsB j q) ∧ i = .int .i64 j) (fun _ i => n - (intOf i).toNat)
  case atStart => exact ⟨0, Nat.zero_le _, rfl, rfl⟩
  case round =>
    obtain ⟨j, hj, rfl, rfl⟩ := hrel
    by_cases hlt : j < n
    · have hlt' : (j : Int) < n := by omega
      have hb : 1 ≤ sBeats (stepsB j q) ∧ sBeats (stepsB j q) ≤ 6 := by have := six_beats (six_steps j HS.out); unfold Six at this; omega
      have hb1 : ¬ sBeats (stepsB j q) < 1 := by omega
      have hb2 : ¬ 6 < sBeats (stepsB j q) := by omega
      go_wp2_with fail
      refine (beats_any _ _ HL.out.2).mono ?_
      rintro e w2 ⟨rfl, rfl⟩
      go_wp2
      go_round
      case rel => exact ⟨j + 1, by omega, rfl, by go_num⟩
      case measure => simp [intOf]; omega
    · have ej : j = n := by omega
      subst ej
      have hlt' : ¬ ((j : Int) < j) := by omega
      go_wp2_with fail
      refine (beats_any _ _ HL.out.2).mono ?_
      rintro e w2 ⟨rfl, rfl⟩
      go_wp2_with fail
      refine (beaten_any _ _ HL.out.2).mono ?_
      rintro e w3 ⟨rfl, g3⟩
      rw [beaten_beats HS.out]
      have L3 := HL.out.keep g3
      have G3 := grown_trans g1 g3
      clear g1 g3 HL
      go_wp2_with fail
      refine (beaten_any _ _ L3.2).mono ?_
      rintro e w4 ⟨rfl, g4⟩
      have L4 := L3.keep g4
      have G4 := grown_trans G3 g4
      clear L3 G3 g4
      go_wp2_with fail
      refine (beats_any _ _ L4.2).mono ?_
      rintro e w5 ⟨rfl, rfl⟩
      rw [beats_beaten HS.out]
      have HB : Hid ((stepsB j q = q) ↔ j % 6 = 0) := stepsB_back j HS.out
      generalize stepsB j q = z at *
      have et : (j : Int).tmod 6 = (j : Int) % 6 := Int.tmod_eq_emod_of_nonneg (by omega)
      by_cases hz : z = q
      · subst hz
        have h6 := HB.out.1 rfl
        have h7 : (j : Int) % 6 = 0 := by omega
        rw [h7] at et
        clear h6 h7 HB
        go_wp2_with fail
        refine (awake_any _ L4).mono ?_
        rintro e w6 ⟨rfl, g6⟩
        go_wp2
        go_ret
        exact ⟨rfl, grown_trans G4 g6⟩
      · have hzq : (z == q) = false := by simpa using hz
        have h6 : ¬ j % 6 = 0 := fun h => hz (HB.out.2 h)
        have h7 : ((j : Int) % 6 == 0) = false := by simpa using (show ¬ (j : Int) % 6 = 0 by omega)
        generalize (j : Int) % 6 = r at *
        clear h6 HB
        go_wp2_with fail
        refine (awake_any _ L4).mono ?_
        rintro e w6 ⟨rfl, g6⟩
        go_wp2
        go_ret
        exact ⟨rfl, grown_trans G4 g6⟩
end Go.Proofs.YtmnkibnbnhjncaaDoor
