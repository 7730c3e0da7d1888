/-
  What the document's own number tells: a word's digits, three at most.
-/
import Derived.Test.YtpceelbphpfciaaGreatDoorRPlace
import Derived.Test.YtpceelbphpfciaaGreatDoorRPure
namespace Go.Proofs.YtpceelbphpfciaaGreatDoor
open Go.RowKit

set_option maxRecDepth 100000 in
set_option maxHeartbeats 4000000 in
theorem num6_any (s : ByteArray) (w : World) : Calls Tryz.prog 98 #[.string s] w fun e w' => e = .returned (.int .i64 (num6 3 0 s.data.toList)) ∧ w' = w := by
  go_enter Tryz.func98, Tryz.ntmps98
  go_wp2_with fail
  go_loopw [3, 4] (fun n t wr => wr = w ∧ ∃ (i : Nat) (k : Int), i ≤ 3 ∧ i ≤ s.size ∧ t = .int .i64 i ∧ n = .int .i64 k ∧ (0 ≤ k ∧ k ≤ most i) ∧ num6 3 0 s.data.toList = num6 (3 - i) k (s.data.toList.drop i)) (fun _ t _ => 3 - (intOf t).toNat)
  case atStart => exact ⟨rfl, 0, 0, by omega, by omega, rfl, rfl, ⟨by omega, by decide⟩, rfl⟩
  case round =>
    obtain ⟨rfl, i, k, hi3, his, rfl, rfl, ⟨hk0, hk1⟩, hI⟩ := hrel
    have HI : Hid (num6 3 0 s.data.toList = num6 (3 - i) k (s.data.toList.drop i)) := hI
    clear hI
    rcases (show i = 0 ∨ i = 1 ∨ i = 2 ∨ i = 3 from by omega) with rfl | rfl | rfl | rfl
    all_goals simp only [most] at hk1
    · by_cases hl : 0 < s.size
      · have hl' : (0 : Int) < (s.size : Int) := by omega
        have HB : Hid (s.data.toList.drop 0 = s[0] :: s.data.toList.drop 1) := drop_byte s 0 hl
        by_cases a : 48 ≤ (s[0].toNat : Int)
        · by_cases b : (s[0].toNat : Int) ≤ 57
          · have HS : Hid (num6 3 0 s.data.toList = num6 2 (10 * k + (s[0].toNat - 48 : Nat)) (s.data.toList.drop 1)) := by
              have h := HI.out
              rw [HB.out] at h
              have e : (48 ≤ s[0].toNat ∧ s[0].toNat ≤ 57) := by omega
              rw [Hid, h]
              simp only [num6, e, and_self, if_true]
              rfl
            have hk : 0 ≤ 10 * k + ((s[0].toNat - 48 : Nat) : Int) ∧ 10 * k + ((s[0].toNat - 48 : Nat) : Int) ≤ 9 := by omega
            go_wp2
            go_roundw
            case rel => exact ⟨trivial, 1, 10 * k + (s[0].toNat - 48 : Nat), by omega, by omega, by go_num, by go_num, ⟨by omega, hk.2⟩, HS.out⟩
            case measure => simp [intOf]
          · have HD : Hid (num6 3 0 s.data.toList = 0) := by
              have h := HI.out
              rw [HB.out] at h
              have e : ¬ (48 ≤ s[0].toNat ∧ s[0].toNat ≤ 57) := by omega
              rw [Hid, h]
              simp only [num6, e, if_false]
            go_wp2
            all_goals
              go_ret
              exact ⟨ret_i64 (by rw [HD.out]), rfl⟩
        · have HD : Hid (num6 3 0 s.data.toList = 0) := by
            have h := HI.out
            rw [HB.out] at h
            have e : ¬ (48 ≤ s[0].toNat ∧ s[0].toNat ≤ 57) := by omega
            rw [Hid, h]
            simp only [num6, e, if_false]
          go_wp2
          all_goals
            go_ret
            exact ⟨ret_i64 (by rw [HD.out]), rfl⟩
      · have hl' : ¬ (0 : Int) < (s.size : Int) := by omega
        have HD : Hid (num6 3 0 s.data.toList = k) := by
          rw [Hid, HI.out, List.drop_eq_nil_of_le (by have := Lib.size_eq s; omega)]
          rfl
        go_wp2
        all_goals
          go_ret
          exact ⟨ret_i64 (by rw [HD.out]), rfl⟩
    · by_cases hl : 1 < s.size
      · have hl' : (1 : Int) < (s.size : Int) := by omega
        have HB : Hid (s.data.toList.drop 1 = s[1] :: s.data.toList.drop 2) := drop_byte s 1 hl
        by_cases a : 48 ≤ (s[1].toNat : Int)
        · by_cases b : (s[1].toNat : Int) ≤ 57
          · have HS : Hid (num6 3 0 s.data.toList = num6 1 (10 * k + (s[1].toNat - 48 : Nat)) (s.data.toList.drop 2)) := by
              have h := HI.out
              rw [HB.out] at h
              have e : (48 ≤ s[1].toNat ∧ s[1].toNat ≤ 57) := by omega
              rw [Hid, h]
              simp only [num6, e, and_self, if_true]
              rfl
            have hk : 0 ≤ 10 * k + ((s[1].toNat - 48 : Nat) : Int) ∧ 10 * k + ((s[1].toNat - 48 : Nat) : Int) ≤ 99 := by omega
            go_wp2
            go_roundw
            case rel => exact ⟨trivial, 2, 10 * k + (s[1].toNat - 48 : Nat), by omega, by omega, by go_num, by go_num, ⟨by omega, hk.2⟩, HS.out⟩
            case measure => simp [intOf]
          · have HD : Hid (num6 3 0 s.data.toList = 0) := by
              have h := HI.out
              rw [HB.out] at h
              have e : ¬ (48 ≤ s[1].toNat ∧ s[1].toNat ≤ 57) := by omega
              rw [Hid, h]
              simp only [num6, e, if_false]
            go_wp2
            all_goals
              go_ret
              exact ⟨ret_i64 (by rw [HD.out]), rfl⟩
        · have HD : Hid (num6 3 0 s.data.toList = 0) := by
            have h := HI.out
            rw [HB.out] at h
            have e : ¬ (48 ≤ s[1].toNat ∧ s[1].toNat ≤ 57) := by omega
            rw [Hid, h]
            simp only [num6, e, if_false]
          go_wp2
          all_goals
            go_ret
            exact ⟨ret_i64 (by rw [HD.out]), rfl⟩
      · have hl' : ¬ (1 : Int) < (s.size : Int) := by omega
        have HD : Hid (num6 3 0 s.data.toList = k) := by
          rw [Hid, HI.out, List.drop_eq_nil_of_le (by have := Lib.size_eq s; omega)]
          rfl
        go_wp2
        all_goals
          go_ret
          exact ⟨ret_i64 (by rw [HD.out]), rfl⟩
    · by_cases hl : 2 < s.size
      · have hl' : (2 : Int) < (s.size : Int) := by omega
        have HB : Hid (s.data.toList.drop 2 = s[2] :: s.data.toList.drop 3) := drop_byte s 2 hl
        by_cases a : 48 ≤ (s[2].toNat : Int)
        · by_cases b : (s[2].toNat : Int) ≤ 57
          · have HS : Hid (num6 3 0 s.data.toList = num6 0 (10 * k + (s[2].toNat - 48 : Nat)) (s.data.toList.drop 3)) := by
              have h := HI.out
              rw [HB.out] at h
              have e : (48 ≤ s[2].toNat ∧ s[2].toNat ≤ 57) := by omega
              rw [Hid, h]
              simp only [num6, e, and_self, if_true]
              rfl
            have hk : 0 ≤ 10 * k + ((s[2].toNat - 48 : Nat) : Int) ∧ 10 * k + ((s[2].toNat - 48 : Nat) : Int) ≤ 999 := by omega
            go_wp2
            go_roundw
            case rel => exact ⟨trivial, 3, 10 * k + (s[2].toNat - 48 : Nat), by omega, by omega, by go_num, by go_num, ⟨by omega, hk.2⟩, HS.out⟩
            case measure => simp [intOf]
          · have HD : Hid (num6 3 0 s.data.toList = 0) := by
              have h := HI.out
              rw [HB.out] at h
              have e : ¬ (48 ≤ s[2].toNat ∧ s[2].toNat ≤ 57) := by omega
              rw [Hid, h]
              simp only [num6, e, if_false]
            go_wp2
            all_goals
              go_ret
              exact ⟨ret_i64 (by rw [HD.out]), rfl⟩
        · have HD : Hid (num6 3 0 s.data.toList = 0) := by
            have h := HI.out
            rw [HB.out] at h
            have e : ¬ (48 ≤ s[2].toNat ∧ s[2].toNat ≤ 57) := by omega
            rw [Hid, h]
            simp only [num6, e, if_false]
          go_wp2
          all_goals
            go_ret
            exact ⟨ret_i64 (by rw [HD.out]), rfl⟩
      · have hl' : ¬ (2 : Int) < (s.size : Int) := by omega
        have HD : Hid (num6 3 0 s.data.toList = k) := by
          rw [Hid, HI.out, List.drop_eq_nil_of_le (by have := Lib.size_eq s; omega)]
          rfl
        go_wp2
        all_goals
          go_ret
          exact ⟨ret_i64 (by rw [HD.out]), rfl⟩
    · have HD : Hid (num6 3 0 s.data.toList = k) := HI.out
      go_wp2
      all_goals
        go_ret
        exact ⟨ret_i64 (by rw [HD.out]), rfl⟩
end Go.Proofs.YtpceelbphpfciaaGreatDoor
