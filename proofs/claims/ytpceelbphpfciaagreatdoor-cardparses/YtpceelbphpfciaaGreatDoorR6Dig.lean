/-
  What the document's own answers tell of a number's digits, and of a set of traits: Has, With, List.
-/
import Derived.Test.YtpceelbphpfciaaGreatDoorRC1
import Derived.Test.YtpceelbphpfciaaGreatDoorTset
import Derived.Deep.QuietTactic
namespace Go.Proofs.YtpceelbphpfciaaGreatDoor
open Go.RowKit

theorem dig6_one {n : Int} (h : 0 ≤ n ∧ n ≤ 9) (w : World) : Calls Tryz.prog 48 #[.int .i64 n] w fun e w' => e = .returned (.string ⟨(Lib.itoa n).toArray⟩) ∧ w' = w := by
  rcases (show n = 0 ∨ n = 1 ∨ n = 2 ∨ n = 3 ∨ n = 4 ∨ n = 5 ∨ n = 6 ∨ n = 7 ∨ n = 8 ∨ n = 9 from by omega) with rfl | rfl | rfl | rfl | rfl | rfl | rfl | rfl | rfl | rfl
  all_goals
    go_enter Tryz.func48, Tryz.ntmps48
    go_wp2
    go_ret
    exact ⟨ret_str (by decide +kernel), rfl⟩
set_option maxHeartbeats 2000000 in
theorem dig6_two {n : Int} (h : 10 ≤ n ∧ n ≤ 99) (w : World) : Calls Tryz.prog 48 #[.int .i64 n] w fun e w' => e = .returned (.string ⟨(Lib.itoa n).toArray⟩) ∧ ∃ m, w' = w.drewN m := by
  have h1 : ¬ n < 10 := by omega
  have D1 : Int.tdiv n 10 = n / 10 := Int.tdiv_eq_ediv_of_nonneg (by omega)
  have D2 : Int.tmod n 10 = n % 10 := Int.tmod_eq_emod_of_nonneg (by omega)
  have q1 : 0 ≤ Int.tdiv n 10 ∧ Int.tdiv n 10 ≤ 9 := by rw [D1]; omega
  have E : Hid (Lib.itoa n = Lib.itoa (Int.tdiv n 10) ++ Lib.itoa (n % 10)) := by
    have := itoa_two ⟨(n - 10).toNat, by omega⟩
    rw [show ((n - 10).toNat : Int) + 10 = n by omega, D2] at this
    exact this
  have L1 := (itoa_facts (n := Int.tdiv n 10) (by omega)).2.2.1
  have L : ¬ 9223372036854775807 < (Lib.itoa (Int.tdiv n 10)).length + 1 := by omega
  have C1 := fun w => dig6_one q1 w
  have W1 : wrap64 (Int.tdiv n 10) = Int.tdiv n 10 := by
    have a := q1.1
    have b := q1.2
    unfold wrap64
    omega
  have hn0 : 0 ≤ n := by omega
  have hj : n % 10 = 0 ∨ n % 10 = 1 ∨ n % 10 = 2 ∨ n % 10 = 3 ∨ n % 10 = 4 ∨ n % 10 = 5 ∨ n % 10 = 6 ∨ n % 10 = 7 ∨ n % 10 = 8 ∨ n % 10 = 9 := by omega
  clear D1 q1 L1 h
  rcases hj with hj | hj | hj | hj | hj | hj | hj | hj | hj | hj
  · rw [hj] at D2 E
    have HJ : Hid (Lib.itoa 0 = [48]) := by unfold Hid; decide +kernel
    go_enter Tryz.func48, Tryz.ntmps48
    go_wp2_with fail
    go_quiet ((go_at_call 48; exact Calls.quiet_of_same (C1 _)))
    go_wp2
    go_ret
    exact ⟨ret_str (by rw [E.out, HJ.out]; exact ByteArray.ext (by simp)), _, rfl⟩
  · rw [hj] at D2 E
    have HJ : Hid (Lib.itoa 1 = [49]) := by unfold Hid; decide +kernel
    go_enter Tryz.func48, Tryz.ntmps48
    go_wp2_with fail
    go_quiet ((go_at_call 48; exact Calls.quiet_of_same (C1 _)))
    go_wp2
    go_ret
    exact ⟨ret_str (by rw [E.out, HJ.out]; exact ByteArray.ext (by simp)), _, rfl⟩
  · rw [hj] at D2 E
    have HJ : Hid (Lib.itoa 2 = [50]) := by unfold Hid; decide +kernel
    go_enter Tryz.func48, Tryz.ntmps48
    go_wp2_with fail
    go_quiet ((go_at_call 48; exact Calls.quiet_of_same (C1 _)))
    go_wp2
    go_ret
    exact ⟨ret_str (by rw [E.out, HJ.out]; exact ByteArray.ext (by simp)), _, rfl⟩
  · rw [hj] at D2 E
    have HJ : Hid (Lib.itoa 3 = [51]) := by unfold Hid; decide +kernel
    go_enter Tryz.func48, Tryz.ntmps48
    go_wp2_with fail
    go_quiet ((go_at_call 48; exact Calls.quiet_of_same (C1 _)))
    go_wp2
    go_ret
    exact ⟨ret_str (by rw [E.out, HJ.out]; exact ByteArray.ext (by simp)), _, rfl⟩
  · rw [hj] at D2 E
    have HJ : Hid (Lib.itoa 4 = [52]) := by unfold Hid; decide +kernel
    go_enter Tryz.func48, Tryz.ntmps48
    go_wp2_with fail
    go_quiet ((go_at_call 48; exact Calls.quiet_of_same (C1 _)))
    go_wp2
    go_ret
    exact ⟨ret_str (by rw [E.out, HJ.out]; exact ByteArray.ext (by simp)), _, rfl⟩
  · rw [hj] at D2 E
    have HJ : Hid (Lib.itoa 5 = [53]) := by unfold Hid; decide +kernel
    go_enter Tryz.func48, Tryz.ntmps48
    go_wp2_with fail
    go_quiet ((go_at_call 48; exact Calls.quiet_of_same (C1 _)))
    go_wp2
    go_ret
    exact ⟨ret_str (by rw [E.out, HJ.out]; exact ByteArray.ext (by simp)), _, rfl⟩
  · rw [hj] at D2 E
    have HJ : Hid (Lib.itoa 6 = [54]) := by unfold Hid; decide +kernel
    go_enter Tryz.func48, Tryz.ntmps48
    go_wp2_with fail
    go_quiet ((go_at_call 48; exact Calls.quiet_of_same (C1 _)))
    go_wp2
    go_ret
    exact ⟨ret_str (by rw [E.out, HJ.out]; exact ByteArray.ext (by simp)), _, rfl⟩
  · rw [hj] at D2 E
    have HJ : Hid (Lib.itoa 7 = [55]) := by unfold Hid; decide +kernel
    go_enter Tryz.func48, Tryz.ntmps48
    go_wp2_with fail
    go_quiet ((go_at_call 48; exact Calls.quiet_of_same (C1 _)))
    go_wp2
    go_ret
    exact ⟨ret_str (by rw [E.out, HJ.out]; exact ByteArray.ext (by simp)), _, rfl⟩
  · rw [hj] at D2 E
    have HJ : Hid (Lib.itoa 8 = [56]) := by unfold Hid; decide +kernel
    go_enter Tryz.func48, Tryz.ntmps48
    go_wp2_with fail
    go_quiet ((go_at_call 48; exact Calls.quiet_of_same (C1 _)))
    go_wp2
    go_ret
    exact ⟨ret_str (by rw [E.out, HJ.out]; exact ByteArray.ext (by simp)), _, rfl⟩
  · rw [hj] at D2 E
    have HJ : Hid (Lib.itoa 9 = [57]) := by unfold Hid; decide +kernel
    go_enter Tryz.func48, Tryz.ntmps48
    go_wp2_with fail
    go_quiet ((go_at_call 48; exact Calls.quiet_of_same (C1 _)))
    go_wp2
    go_ret
    exact ⟨ret_str (by rw [E.out, HJ.out]; exact ByteArray.ext (by simp)), _, rfl⟩
theorem dig6_any {n : Int} (h : 0 ≤ n ∧ n ≤ 99) (w : World) : Calls Tryz.prog 48 #[.int .i64 n] w fun e w' => e = .returned (.string ⟨(Lib.itoa n).toArray⟩) ∧ ∃ m, w' = w.drewN m := by
  by_cases h9 : n ≤ 9
  · refine (dig6_one ⟨h.1, h9⟩ w).mono ?_
    rintro e w' ⟨rfl, rfl⟩
    exact ⟨rfl, 0, rfl⟩
  · exact dig6_two ⟨by omega, h.2⟩ w
theorem bit6_any {k : Int} (h : 1 ≤ k ∧ k ≤ 8) (w : World) : Calls Tryz.prog 136 #[.int .u8 k] w fun e w' => e = .returned (.int .u16 (tBit k)) ∧ w' = w := by
  rcases eight_cases h with rfl | rfl | rfl | rfl | rfl | rfl | rfl | rfl
  all_goals
    go_enter Tryz.func136, Tryz.ntmps136
    go_wp2
    go_ret
    exact ⟨rfl, rfl⟩
set_option maxHeartbeats 1000000 in
theorem has6_any (s : Int) {k : Int} (h : 1 ≤ k ∧ k ≤ 8) (w : World) : Calls Tryz.prog 88 #[.int .u16 s, .int .u8 k] w fun e w' => e = .returned (.bool (tHas s k)) ∧ w' = w := by
  go_enter Tryz.func88, Tryz.ntmps88
  go_wp2_with fail
  refine (bit6_any h _).mono ?_
  rintro e w1 ⟨rfl, rfl⟩
  go_wp2
  go_ret
  exact ⟨rfl, rfl⟩
set_option maxHeartbeats 1000000 in
theorem with6_any (s : Int) {k : Int} (h : 1 ≤ k ∧ k ≤ 8) (w : World) : Calls Tryz.prog 99 #[.int .u16 s, .int .u8 k] w fun e w' => e = .returned (.int .u16 (tWith s k)) ∧ w' = w := by
  go_enter Tryz.func99, Tryz.ntmps99
  go_wp2_with fail
  refine (bit6_any h _).mono ?_
  rintro e w1 ⟨rfl, rfl⟩
  go_wp2
  go_ret
  exact ⟨rfl, rfl⟩
set_option maxRecDepth 100000 in
set_option maxHeartbeats 2000000 in
theorem list6_any (s : Int) (w : World) : Calls Tryz.prog 49 #[.int .u16 s] w fun e w' => ∃ v, e = .returned v ∧ Own w' w.heap.size 26 v (u8s (tList s)) ∧ w.grownBy w' none := by
  obtain ⟨i0, hi, hz0, hz1, hz2⟩ := info_parts Tryz.info26
  go_enter Tryz.func49, Tryz.ntmps49
  go_wp2_with fail
  go_loopw [3, 4] (fun v t wr => ∃ (k : Nat), k ≤ 8 ∧ t = .int .u8 ((k : Int) + 1) ∧ Own wr w.heap.size 26 v (u8s (tUpto s k)) ∧ w.grownBy wr none)
    (fun _ t _ => 9 - (intOf t).toNat)
  case atStart => exact ⟨0, Nat.zero_le _, rfl, Own.nil _ _ _, grown_refl _ _⟩
  case round =>
    obtain ⟨k, hk, rfl, O, G⟩ := hrel
    by_cases h8 : k = 8
    · subst h8
      go_wp2
      go_ret
      exact ⟨_, rfl, O, G⟩
    · have h1 : (k : Int) + 1 ≤ 8 := by omega
      have hw : IntKind.u8.wrap ((k : Int) + 1 + 1) = (k : Int) + 1 + 1 := by rw [IntKind.wrap_u8]; omega
      go_wp2_with fail
      refine (has6_any _ (by omega) _).mono ?_
      rintro e w1 ⟨rfl, rfl⟩
      cases hh : tHas s ((k : Int) + 1) with
      | false =>
        rw [← upto_out s k hh] at O
        go_wp2
        go_roundw
        case rel => exact ⟨k + 1, by omega, by go_num, O, G⟩
        case measure => simp [intOf]; omega
      | true =>
        obtain ⟨q, cp, ev⟩ := O.form
        rw [length_u8s] at ev
        subst ev
        have hl := upto_len s k
        have hsz := G.size
        have O1 : World.ownsRow w1 w.heap.size 26 1 (.slice q (tUpto s k).length cp) (tUpto s k).length (u8s (tUpto s k)) := own_u8 O
        have HO : Hid (Own w1 w.heap.size 26 (.slice q (tUpto s k).length cp) (u8s (tUpto s k))) := O
        clear O
        go_wp2_with (at_builtin; refine wpList_append_own_at _ rfl (.tmp 12) (.tmp 14) 78 rfl w.heap.size 26 i0 (.int .u8 0) 1 1 Tryz.underlying78 hi hz0 hz1 hz2 rfl (by decide) _ _ _ rfl (World.ownsRow.alloc O1 _) ⟨w1.heap.size, 0, none⟩ 1 1 [.int .u8 ((k : Int) + 1)] rfl rfl (cell_one_new _ _ _) (fun x hx => by simp at hx; subst hx; rfl) (by unfold maxLen; omega) (by omega) (by simp; omega) ?_; intro v' w3 hown' hgrow3 hnil3 hlie3)
        go_roundw
        case rel => exact ⟨k + 1, by omega, by go_num, by rw [upto_in s k hh, u8s_snoc]; exact own_snoc hown' (length_u8s _).symm, grown_own (grown_push G _) hgrow3 (fun x hx => HO.out.block x hx)⟩
        case measure => simp [intOf]; omega
end Go.Proofs.YtpceelbphpfciaaGreatDoor
