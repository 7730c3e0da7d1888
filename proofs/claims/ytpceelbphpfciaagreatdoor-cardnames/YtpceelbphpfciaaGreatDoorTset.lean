/-
  Sets of traits: the bit of a number, Has, With, and the list of a set, in memory of its own.
-/
import Derived.Test.YtpceelbphpfciaaGreatDoorCCheck
import Derived.Test.YtpceelbphpfciaaGreatDoorFld
import Derived.Test.YtpceelbphpfciaaGreatDoorOwn
namespace Go.Proofs.YtpceelbphpfciaaGreatDoor
open Go.RowKit

theorem tBit_no {k : Int} (h : k < 1 ∨ 8 < k) : tBit k = 0 := by
  have a1 : ¬ k = 1 := by omega
  have a2 : ¬ k = 2 := by omega
  have a3 : ¬ k = 3 := by omega
  have a4 : ¬ k = 4 := by omega
  have a5 : ¬ k = 5 := by omega
  have a6 : ¬ k = 6 := by omega
  have a7 : ¬ k = 7 := by omega
  have a8 : ¬ k = 8 := by omega
  simp [tBit, a1, a2, a3, a4, a5, a6, a7, a8]
set_option maxHeartbeats 1000000 in
theorem bit_any (k : Int) (w : World) : Calls Tryz.prog 159 #[.int .u8 k] w fun e w' => e = .returned (.int .u16 (tBit k)) ∧ w' = w := by
  rcases eight_or k with h | h
  · rcases h with rfl | rfl | rfl | rfl | rfl | rfl | rfl | rfl
    all_goals
      go_enter Tryz.func159, Tryz.ntmps159
      go_wp2_with fail
      refine (isTrait_yes _ (by omega) (by omega) _).mono ?_
      rintro e w1 ⟨rfl, rfl⟩
      go_wp2
      go_ret
      exact ⟨rfl, rfl⟩
  · rw [tBit_no h]
    go_enter Tryz.func159, Tryz.ntmps159
    go_wp2_with fail
    refine (isTrait_no _ h _).mono ?_
    rintro e w1 ⟨rfl, rfl⟩
    go_wp2
    go_ret
    exact ⟨rfl, rfl⟩
set_option maxHeartbeats 1000000 in
theorem has_any (s k : Int) (w : World) : Calls Tryz.prog 132 #[.int .u16 s, .int .u8 k] w fun e w' => e = .returned (.bool (tHas s k)) ∧ w' = w := by
  go_enter Tryz.func132, Tryz.ntmps132
  go_wp2_with fail
  refine (bit_any _ _).mono ?_
  rintro e w1 ⟨rfl, rfl⟩
  go_wp2
  go_ret
  exact ⟨rfl, rfl⟩
set_option maxHeartbeats 1000000 in
theorem with_any (s k : Int) (w : World) : Calls Tryz.prog 181 #[.int .u16 s, .int .u8 k] w fun e w' => e = .returned (.int .u16 (tWith s k)) ∧ w' = w := by
  go_enter Tryz.func181, Tryz.ntmps181
  go_wp2_with fail
  refine (bit_any _ _).mono ?_
  rintro e w1 ⟨rfl, rfl⟩
  go_wp2
  go_ret
  exact ⟨rfl, rfl⟩
def u8s (l : List Int) : List Value := l.map fun z => Value.int .u8 z
theorem length_u8s (l : List Int) : (u8s l).length = l.length := by simp [u8s]
theorem own_u8 {w : World} {base : Nat} {v : Value} {l : List Int} (h : Own w base 26 v (u8s l)) : w.ownsRow base 26 1 v l.length (u8s l) := by
  have := h
  unfold Own at this
  rwa [length_u8s] at this
theorem u8s_snoc (l : List Int) (n : Int) : u8s (l ++ [n]) = u8s l ++ [Value.int .u8 n] := by simp [u8s]
theorem upto_in (s : Int) (k : Nat) (h : tHas s ((k : Int) + 1) = true) : tUpto s (k + 1) = tUpto s k ++ [(k : Int) + 1] := by simp [tUpto, h]
theorem upto_out (s : Int) (k : Nat) (h : tHas s ((k : Int) + 1) = false) : tUpto s (k + 1) = tUpto s k := by simp [tUpto, h]
theorem Tryz.info26 : (Tryz.prog.info? 26).map (fun i => (i.zero, i.size, i.bytes)) = some (some (.int .u8 0), 1, 1) := by kernel_rfl

set_option maxRecDepth 100000 in
set_option maxHeartbeats 2000000 in
theorem list_any (s : Int) (w : World) : Calls Tryz.prog 82 #[.int .u16 s] w fun e w' => ∃ v, e = .returned v ∧ Own w' w.heap.size 26 v (u8s (tList s)) ∧ w.grownBy w' none := by
  obtain ⟨i0, hi, hz0, hz1, hz2⟩ := info_parts Tryz.info26
  go_enter Tryz.func82, Tryz.ntmps82
  go_wp2_with fail
  go_loopw [3, 4] (fun v t wr => ∃ (k : Nat), k ≤ 8 ∧ t = .int .u8 ((k : Int) + 1) ∧ Own wr w.heap.size 26 v (u8s (tUpto s k)) ∧ w.grownBy wr none)
    (fun _ t _ => 9 - (intOf t).toNat)
  case atStart => exact ⟨0, Nat.zero_le _, rfl, Own.nil _ _ _, grown_refl _ _⟩
  case round =>
    obtain ⟨k, hk, rfl, O, G⟩ := hrel
    by_cases h8 : k = 8
    · subst h8
      go_wp2
      go_ret
      exact ⟨_, rfl, O, G⟩
    · have h1 : (k : Int) + 1 ≤ 8 := by omega
      have hw : IntKind.u8.wrap ((k : Int) + 1 + 1) = (k : Int) + 1 + 1 := by rw [IntKind.wrap_u8]; omega
      go_wp2_with fail
      refine (has_any _ _ _).mono ?_
      rintro e w1 ⟨rfl, rfl⟩
      cases hh : tHas s ((k : Int) + 1) with
      | false =>
        rw [← upto_out s k hh] at O
        go_wp2
        go_roundw
        case rel => exact ⟨k + 1, by omega, by go_num, O, G⟩
        case measure => simp [intOf]; omega
      | true =>
        obtain ⟨q, cp, ev⟩ := O.form
        rw [length_u8s] at ev
        subst ev
        have hl := upto_len s k
        have hsz := G.size
        have O1 : World.ownsRow w1 w.heap.size 26 1 (.slice q (tUpto s k).length cp) (tUpto s k).length (u8s (tUpto s k)) := own_u8 O
        have HO : Hid (Own w1 w.heap.size 26 (.slice q (tUpto s k).length cp) (u8s (tUpto s k))) := O
        clear O
        go_wp2_with (at_builtin; refine wpList_append_own_at _ rfl (.tmp 12) (.tmp 14) 78 rfl w.heap.size 26 i0 (.int .u8 0) 1 1 Tryz.underlying78 hi hz0 hz1 hz2 rfl (by decide) _ _ _ rfl (World.ownsRow.alloc O1 _) ⟨w1.heap.size, 0, none⟩ 1 1 [.int .u8 ((k : Int) + 1)] rfl rfl (cell_one_new _ _ _) (fun x hx => by simp at hx; subst hx; rfl) (by unfold maxLen; omega) (by omega) (by simp; omega) ?_; intro v' w3 hown' hgrow3 hnil3 hlie3)
        go_roundw
        case rel => exact ⟨k + 1, by omega, by go_num, by rw [upto_in s k hh, u8s_snoc]; exact own_snoc hown' (length_u8s _).symm, grown_own (grown_push G _) hgrow3 (fun x hx => HO.out.block x hx)⟩
        case measure => simp [intOf]; omega
end Go.Proofs.YtpceelbphpfciaaGreatDoor
