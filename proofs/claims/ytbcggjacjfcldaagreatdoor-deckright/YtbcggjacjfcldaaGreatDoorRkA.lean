/-
  The document's own Decimal, of 0 to 40.
-/
import Derived.Test.YtbcggjacjfcldaaGreatDoorDkG
import Derived.Laws.IdiomStrings
import Derived.Deep.RegionWith
namespace Go.Proofs.YtbcggjacjfcldaaGreatDoor
open Go.RowKit

theorem convB (x : UInt8) {w : World} {b : Nat} (h : w.heap[b]? = some (.cells #[.int .u8 (x.toNat : Int)] 5 (0, 0))) : (convert 111 9 (.slice (some ⟨b, 0, none⟩) 1 1)).run Tryz.prog w = .ok (.string ⟨#[x]⟩) w :=
  run_convert_bytes_back w 111 9 5 ⟨b, 0, none⟩ 1 [x] Tryz.underlying111 Tryz.underlying5 Tryz.underlying9 (fun j hj => by
    have hj0 : j = 0 := by simpa using hj
    subst hj0
    rw [add_plain]
    exact block_cell h 0)
set_option maxHeartbeats 1000000 in
set_option maxRecDepth 100000 in
theorem decl_0 (w : World) : Calls Tryz.prog 42 #[.int .i64 0] w fun e w' => e = .returned (.string ⟨#[48]⟩) ∧ w.grownBy w' none := by
  have hc : (convert 111 9 (.slice (some ⟨w.heap.size, 0, none⟩) 1 1)).run Tryz.prog (w.alloc (.cells #[.int .u8 48] 5)) = .ok (.string ⟨#[48]⟩) (w.alloc (.cells #[.int .u8 48] 5)) := convB 48 (alloc_at w _ _)
  go_enter Tryz.func42, Tryz.ntmps42
  go_wp2
  go_ret
  exact ⟨rfl, World.grownBy_alloc _ _ none⟩
set_option maxHeartbeats 1000000 in
set_option maxRecDepth 100000 in
theorem decl_1 (w : World) : Calls Tryz.prog 42 #[.int .i64 1] w fun e w' => e = .returned (.string ⟨#[49]⟩) ∧ w.grownBy w' none := by
  have hc : (convert 111 9 (.slice (some ⟨w.heap.size, 0, none⟩) 1 1)).run Tryz.prog (w.alloc (.cells #[.int .u8 49] 5)) = .ok (.string ⟨#[49]⟩) (w.alloc (.cells #[.int .u8 49] 5)) := convB 49 (alloc_at w _ _)
  go_enter Tryz.func42, Tryz.ntmps42
  go_wp2
  go_ret
  exact ⟨rfl, World.grownBy_alloc _ _ none⟩
set_option maxHeartbeats 1000000 in
set_option maxRecDepth 100000 in
theorem decl_2 (w : World) : Calls Tryz.prog 42 #[.int .i64 2] w fun e w' => e = .returned (.string ⟨#[50]⟩) ∧ w.grownBy w' none := by
  have hc : (convert 111 9 (.slice (some ⟨w.heap.size, 0, none⟩) 1 1)).run Tryz.prog (w.alloc (.cells #[.int .u8 50] 5)) = .ok (.string ⟨#[50]⟩) (w.alloc (.cells #[.int .u8 50] 5)) := convB 50 (alloc_at w _ _)
  go_enter Tryz.func42, Tryz.ntmps42
  go_wp2
  go_ret
  exact ⟨rfl, World.grownBy_alloc _ _ none⟩
set_option maxHeartbeats 1000000 in
set_option maxRecDepth 100000 in
theorem decl_3 (w : World) : Calls Tryz.prog 42 #[.int .i64 3] w fun e w' => e = .returned (.string ⟨#[51]⟩) ∧ w.grownBy w' none := by
  have hc : (convert 111 9 (.slice (some ⟨w.heap.size, 0, none⟩) 1 1)).run Tryz.prog (w.alloc (.cells #[.int .u8 51] 5)) = .ok (.string ⟨#[51]⟩) (w.alloc (.cells #[.int .u8 51] 5)) := convB 51 (alloc_at w _ _)
  go_enter Tryz.func42, Tryz.ntmps42
  go_wp2
  go_ret
  exact ⟨rfl, World.grownBy_alloc _ _ none⟩
set_option maxHeartbeats 1000000 in
set_option maxRecDepth 100000 in
theorem decl_4 (w : World) : Calls Tryz.prog 42 #[.int .i64 4] w fun e w' => e = .returned (.string ⟨#[52]⟩) ∧ w.grownBy w' none := by
  have hc : (convert 111 9 (.slice (some ⟨w.heap.size, 0, none⟩) 1 1)).run Tryz.prog (w.alloc (.cells #[.int .u8 52] 5)) = .ok (.string ⟨#[52]⟩) (w.alloc (.cells #[.int .u8 52] 5)) := convB 52 (alloc_at w _ _)
  go_enter Tryz.func42, Tryz.ntmps42
  go_wp2
  go_ret
  exact ⟨rfl, World.grownBy_alloc _ _ none⟩
set_option maxHeartbeats 1000000 in
set_option maxRecDepth 100000 in
theorem decl_5 (w : World) : Calls Tryz.prog 42 #[.int .i64 5] w fun e w' => e = .returned (.string ⟨#[53]⟩) ∧ w.grownBy w' none := by
  have hc : (convert 111 9 (.slice (some ⟨w.heap.size, 0, none⟩) 1 1)).run Tryz.prog (w.alloc (.cells #[.int .u8 53] 5)) = .ok (.string ⟨#[53]⟩) (w.alloc (.cells #[.int .u8 53] 5)) := convB 53 (alloc_at w _ _)
  go_enter Tryz.func42, Tryz.ntmps42
  go_wp2
  go_ret
  exact ⟨rfl, World.grownBy_alloc _ _ none⟩
set_option maxHeartbeats 1000000 in
set_option maxRecDepth 100000 in
theorem decl_6 (w : World) : Calls Tryz.prog 42 #[.int .i64 6] w fun e w' => e = .returned (.string ⟨#[54]⟩) ∧ w.grownBy w' none := by
  have hc : (convert 111 9 (.slice (some ⟨w.heap.size, 0, none⟩) 1 1)).run Tryz.prog (w.alloc (.cells #[.int .u8 54] 5)) = .ok (.string ⟨#[54]⟩) (w.alloc (.cells #[.int .u8 54] 5)) := convB 54 (alloc_at w _ _)
  go_enter Tryz.func42, Tryz.ntmps42
  go_wp2
  go_ret
  exact ⟨rfl, World.grownBy_alloc _ _ none⟩
set_option maxHeartbeats 1000000 in
set_option maxRecDepth 100000 in
theorem decl_7 (w : World) : Calls Tryz.prog 42 #[.int .i64 7] w fun e w' => e = .returned (.string ⟨#[55]⟩) ∧ w.grownBy w' none := by
  have hc : (convert 111 9 (.slice (some ⟨w.heap.size, 0, none⟩) 1 1)).run Tryz.prog (w.alloc (.cells #[.int .u8 55] 5)) = .ok (.string ⟨#[55]⟩) (w.alloc (.cells #[.int .u8 55] 5)) := convB 55 (alloc_at w _ _)
  go_enter Tryz.func42, Tryz.ntmps42
  go_wp2
  go_ret
  exact ⟨rfl, World.grownBy_alloc _ _ none⟩
set_option maxHeartbeats 1000000 in
set_option maxRecDepth 100000 in
theorem decl_8 (w : World) : Calls Tryz.prog 42 #[.int .i64 8] w fun e w' => e = .returned (.string ⟨#[56]⟩) ∧ w.grownBy w' none := by
  have hc : (convert 111 9 (.slice (some ⟨w.heap.size, 0, none⟩) 1 1)).run Tryz.prog (w.alloc (.cells #[.int .u8 56] 5)) = .ok (.string ⟨#[56]⟩) (w.alloc (.cells #[.int .u8 56] 5)) := convB 56 (alloc_at w _ _)
  go_enter Tryz.func42, Tryz.ntmps42
  go_wp2
  go_ret
  exact ⟨rfl, World.grownBy_alloc _ _ none⟩
set_option maxHeartbeats 1000000 in
set_option maxRecDepth 100000 in
theorem decl_9 (w : World) : Calls Tryz.prog 42 #[.int .i64 9] w fun e w' => e = .returned (.string ⟨#[57]⟩) ∧ w.grownBy w' none := by
  have hc : (convert 111 9 (.slice (some ⟨w.heap.size, 0, none⟩) 1 1)).run Tryz.prog (w.alloc (.cells #[.int .u8 57] 5)) = .ok (.string ⟨#[57]⟩) (w.alloc (.cells #[.int .u8 57] 5)) := convB 57 (alloc_at w _ _)
  go_enter Tryz.func42, Tryz.ntmps42
  go_wp2
  go_ret
  exact ⟨rfl, World.grownBy_alloc _ _ none⟩
theorem decl_one (k : Nat) (h : k < 10) (w : World) : Calls Tryz.prog 42 #[.int .i64 (k : Int)] w fun e w' => e = .returned (.string ⟨#[UInt8.ofNat (48 + k)]⟩) ∧ w.grownBy w' none := by
  match k, h with
  | 0, _ => exact decl_0 w
  | 1, _ => exact decl_1 w
  | 2, _ => exact decl_2 w
  | 3, _ => exact decl_3 w
  | 4, _ => exact decl_4 w
  | 5, _ => exact decl_5 w
  | 6, _ => exact decl_6 w
  | 7, _ => exact decl_7 w
  | 8, _ => exact decl_8 w
  | 9, _ => exact decl_9 w
  | k + 10, h => omega
theorem u8_toNat {r : Nat} (h : r < 10) : (((UInt8.ofNat (48 + r)).toNat : Nat) : Int) = 48 + (r : Int) := by rw [UInt8.toNat_ofNat']; omega
set_option maxHeartbeats 1000000 in
set_option maxRecDepth 100000 in
theorem decl_two (k q r : Nat) (hq : q < 10) (hr : r < 10) (hk : ¬ (k : Int) < 10) (d1 : (k : Int).tdiv 10 = (q : Int)) (d2 : (k : Int).tmod 10 = (r : Int)) (d3 : (k : Int) / 10 = (q : Int)) (w : World) : Calls Tryz.prog 42 #[.int .i64 (k : Int)] w fun e w' => e = .returned (.string (⟨#[UInt8.ofNat (48 + q)]⟩ ++ ⟨#[UInt8.ofNat (48 + r)]⟩)) ∧ w.grownBy w' none := by
  obtain ⟨z, hz⟩ : ∃ z : Int, z = 48 + (r : Int) := ⟨_, rfl⟩
  have hz2 : 48 + (r : Int) = z := hz.symm
  obtain ⟨u, hu⟩ : ∃ u : UInt8, u = UInt8.ofNat (48 + r) := ⟨_, rfl⟩
  have huz : ((u.toNat : Nat) : Int) = z := by rw [hu, hz]; exact u8_toNat hr
  have CB : ∀ {W : World} {b : Nat}, W.heap[b]? = some (.cells #[.int .u8 z] 5 (0, 0)) → (convert 111 9 (.slice (some ⟨b, 0, none⟩) 1 1)).run Tryz.prog W = .ok (.string ⟨#[u]⟩) W := fun h => convB u (by rw [huz]; exact h)
  have HCB : Hid (∀ {W : World} {b : Nat}, W.heap[b]? = some (.cells #[.int .u8 z] 5 (0, 0)) → (convert 111 9 (.slice (some ⟨b, 0, none⟩) 1 1)).run Tryz.prog W = .ok (.string ⟨#[u]⟩) W) := CB
  have hc : (convert 111 9 (.slice (some ⟨w.heap.size, 0, none⟩) 1 1)).run Tryz.prog (w.alloc (.cells #[.int .u8 z] 5)).drew = .ok (.string ⟨#[u]⟩) (w.alloc (.cells #[.int .u8 z] 5)).drew := CB (alloc_at w _ _)
  have hB : Hid ((w.alloc (.cells #[.int .u8 z] 5)).drew.heap[w.heap.size]? = some (.cells #[.int .u8 z] 5 (0, 0))) := alloc_at w _ _
  have hG : Hid (w.grownBy w.drew none ∧ w.grownBy (w.alloc (.cells #[.int .u8 z] 5)).drew none) := ⟨grown_drewN w 1 none, grown_trans (World.grownBy_alloc _ _ none) (grown_drewN _ 1 none)⟩
  have x1 : IntKind.i64.wrap (q : Int) = (q : Int) := by rw [IntKind.wrap_i64]; omega
  have x2 : IntKind.i64.wrap (r : Int) = (r : Int) := by rw [IntKind.wrap_i64]; omega
  have x3 : IntKind.i64.wrap z = z := by rw [IntKind.wrap_i64, hz]; omega
  have x4 : IntKind.u8.wrap z = z := by rw [IntKind.wrap_u8, hz]; omega
  have HDq := decl_one q hq
  obtain ⟨v, hv⟩ : ∃ v : ByteArray, v = ⟨#[UInt8.ofNat (48 + q)]⟩ := ⟨_, rfl⟩
  have bs : ¬ 9223372036854775807 < v.size + 1 := by rw [hv]; show ¬ 9223372036854775807 < 1 + 1; decide
  rw [← hu, ← hv]
  rw [← hv] at HDq
  clear CB hq hr hz hu huz hv
  go_enter Tryz.func42, Tryz.ntmps42
  go_upto_region 3 with fail
  go_region_with (go_at_call 42; refine (HDq _).mono ?_; rintro e w1 ⟨rfl, g1⟩; have hc1 : (convert 111 9 (.slice (some ⟨w1.heap.size, 0, none⟩) 1 1)).run Tryz.prog (w1.alloc (.cells #[.int .u8 z] 5)) = .ok (.string ⟨#[u]⟩) (w1.alloc (.cells #[.int .u8 z] 5)) := HCB.out (alloc_at w1 _ _); (first | (have hc2 := HCB.out (grown_keep g1 hB.out (by simp)); have HG : Hid (w.grownBy w1 none ∧ w.grownBy w1 none) := ⟨grown_trans hG.out.2 g1, grown_trans hG.out.2 g1⟩) | (have HG : Hid (w.grownBy w1 none ∧ w.grownBy (w1.alloc (.cells #[.int .u8 z] 5)) none) := ⟨grown_trans hG.out.1 g1, grown_push (grown_trans hG.out.1 g1) _⟩)); clear g1)
  all_goals (go_wp2; go_ret; first | exact ⟨rfl, HG.out.1⟩ | exact ⟨rfl, HG.out.2⟩)
theorem dec_parts : ∀ k : Nat, k ≤ 40 → 10 ≤ k → dec k = [UInt8.ofNat (48 + k / 10), UInt8.ofNat (48 + k % 10)] := by decide +kernel
theorem decl_any (k : Nat) (h : k ≤ 40) (w : World) : Calls Tryz.prog 42 #[.int .i64 (k : Int)] w fun e w' => e = .returned (.string ⟨(dec k).toArray⟩) ∧ w.grownBy w' none := by
  by_cases h1 : k < 10
  · have e : dec k = [UInt8.ofNat (48 + k)] := by unfold dec; rw [if_pos h1]
    rw [e]
    exact decl_one k h1 w
  · have h0 : (0 : Int) ≤ (k : Int) := by omega
    refine (decl_two k (k / 10) (k % 10) (by omega) (by omega) (by omega) (by rw [Int.tdiv_eq_ediv_of_nonneg h0]; omega) (by rw [Int.tmod_eq_emod_of_nonneg h0]; omega) (by omega) w).mono fun e w' hh => ⟨?_, hh.2⟩
    rw [hh.1, dec_parts k h (by omega)]
    rfl
end Go.Proofs.YtbcggjacjfcldaaGreatDoor
