/-
  SuitAll, walked: All goes over the six, may be stopped, and gone over again.
-/
import Derived.Test.YtmnkibnbnhjncaaDoorWalk
namespace Go.Proofs.YtmnkibnbnhjncaaDoor
open Go.RowKit

theorem u8_wf8 {a : Int} (h : (Lit.int .u8 a).wf = true) : 0 ≤ a ∧ a ≤ 255 := by
  simp only [Lit.wf, decide_eq_true_eq, Bool.and_eq_true] at h
  exact ⟨h.1, h.2⟩
set_option maxRecDepth 100000 in
set_option maxHeartbeats 2000000 in
theorem all_law (st : Int) (hs : 0 ≤ st ∧ st ≤ 255) (w : World) (L : LaidAt w) : Calls Tryd.prog 5 #[.int .u8 st] w fun e w' => e = .returned (.bool true) ∧ w.grownBy w' none := by
  obtain ⟨m, hm⟩ : ∃ m : Nat, st % 8 = m := ⟨(st % 8).toNat, by omega⟩
  have hm7 : m ≤ 7 := by omega
  have ht : st.tmod 8 = (m : Int) := by rw [Int.tmod_eq_emod_of_nonneg hs.1]; exact hm
  clear hm
  go_enter Tryd.func5, Tryd.ntmps5
  go_wp2_with fail
  refine (all_any _).mono ?_
  rintro e w1 ⟨rfl, rfl⟩
  go_wp2_with fail
  refine (walk_any m hm7 _).mono ?_
  rintro e w1 ⟨v, rfl, S1, g1⟩
  have L1 := L.keep g1
  clear L
  go_wp2_with fail
  refine (walk_any 7 (by omega) _).mono ?_
  rintro e w2 ⟨v2, rfl, S2, g2⟩
  have L2 := L1.keep g2
  have G2 := grown_trans g1 g2
  have S3 := S1.keep g2
  clear L1 g1 g2 S1
  obtain ⟨k, hk⟩ : ∃ k, k = min m 6 := ⟨_, rfl⟩
  rw [← hk] at S3
  have hk6 : k ≤ 6 := by omega
  obtain ⟨p, cp, rfl, hc⟩ := S3
  obtain ⟨p2, cp2, rfl, hc2⟩ := S2
  obtain ⟨g, rfl, hd⟩ := hc2 (by decide)
  simp only [show min 7 6 = 6 from rfl] at hd ⊢
  have HC : Hid (0 < k → ∃ g, p = some ⟨g, 0, none⟩ ∧ ∀ j, j < k → w2.cell? ⟨g, j, none⟩ = some (.int .u8 ((j : Int) + 1))) := hc
  have HD : Hid (∀ j, j < 6 → w2.cell? ⟨g, j, none⟩ = some (.int .u8 ((j : Int) + 1))) := hd
  have HK : Hid (k = min m 6) := hk
  have HL : Hid (LaidAt w2) := L2
  clear hc hc2 hd hk L2
  go_wp2_with fail
  go_loop [6] (fun i => ∃ j : Nat, j ≤ k ∧ i = .int .i64 j) (fun i => k - (intOf i).toNat)
  case atStart => exact ⟨0, Nat.zero_le _, rfl⟩
  case round =>
    obtain ⟨j, hj, rfl⟩ := hrel
    by_cases hlt : j < k
    · obtain ⟨g', rfl, hcell⟩ := HC.out (by omega)
      have cj := hcell j hlt
      clear hcell
      have hlt' : (j : Int) < k := by omega
      go_wp2
      go_round
      case rel => exact ⟨j + 1, by omega, by go_num⟩
      case measure => simp [intOf]; omega
    · have ej : j = k := by omega
      subst ej
      have hlt' : ¬ ((j : Int) < j) := by omega
      go_wp2_with fail
      go_loop [7] (fun i => ∃ j : Nat, j ≤ 6 ∧ i = .int .i64 j) (fun i => 6 - (intOf i).toNat)
      case atStart => exact ⟨0, Nat.zero_le _, rfl⟩
      case round =>
        obtain ⟨z, hz, rfl⟩ := hrel
        by_cases hz6 : z < 6
        · have cz := HD.out z hz6
          have hz' : (z : Int) < 6 := by omega
          go_wp2
          go_round
          case rel => exact ⟨z + 1, by omega, by go_num⟩
          case measure => simp [intOf]; omega
        · obtain rfl : z = 6 := by omega
          simp only [Int.cast_ofNat_Int]
          have hjm := HK.out
          clear HC HD HK
          by_cases h5 : m < 6
          · obtain rfl : j = m := by omega
            have h5' : (j : Int) < 6 := by omega
            clear hjm
            go_wp2_with fail
            refine (awake_any _ HL.out).mono ?_
            rintro e w6 ⟨rfl, g6⟩
            go_wp2
            go_ret
            exact ⟨rfl, grown_trans G2 g6⟩
          · by_cases h6 : m = 6
            · subst h6
              obtain rfl : j = 6 := by omega
              clear hjm
              simp only [Int.cast_ofNat_Int] at ht ⊢
              go_wp2_with fail
              refine (awake_any _ HL.out).mono ?_
              rintro e w6 ⟨rfl, g6⟩
              go_wp2
              go_ret
              exact ⟨rfl, grown_trans G2 g6⟩
            · obtain rfl : m = 7 := by omega
              obtain rfl : j = 6 := by omega
              clear hjm
              simp only [Int.cast_ofNat_Int] at ht ⊢
              go_wp2_with fail
              refine (awake_any _ HL.out).mono ?_
              rintro e w6 ⟨rfl, g6⟩
              go_wp2
              go_ret
              exact ⟨rfl, grown_trans G2 g6⟩
end Go.Proofs.YtmnkibnbnhjncaaDoor
