/-
  What the document's own readings of a suit's and a trait's name tell.
-/
import Derived.Test.YtpceelbphpfciaaGreatDoorRPlace
namespace Go.Proofs.YtpceelbphpfciaaGreatDoor
open Go.RowKit

theorem ret_of {a b : Int} {c d : Bool} (h : a = b) (k : c = d) : Ending.returned (.tuple #[.int .u8 a, .bool c]) = .returned (.tuple #[.int .u8 b, .bool d]) := by rw [h, k]
theorem not_next {ws : List (List UInt8)} {l x : List UInt8} {i : Nat} (h : ∀ j, j < i → ¬ ws[j]? = some l) (hx : ws[i]? = some x) (he : ¬ x = l) : ∀ j, j < i + 1 → ¬ ws[j]? = some l := by
  intro j hj
  rcases (show j < i ∨ j = i from by omega) with h' | rfl
  · exact h j h'
  · rw [hx]
    exact fun e => he (Option.some.inj e)
set_option maxHeartbeats 4000000 in
theorem rsof_any (s : ByteArray) (w : World) : Calls Tryz.prog 75 #[.string s] w fun e w' => e = .returned (.tuple #[.int .u8 (idx suitW s.toList : Nat), .bool (decide (idx suitW s.toList ≠ 0))]) ∧ w' = w := by
  go_enter Tryz.func75, Tryz.ntmps75
  go_wp2_with fail
  go_loopw [4] (fun t wr => wr = w ∧ ∃ k : Nat, k ≤ 6 ∧ t = .int .u8 ((k : Int) + 1) ∧ ∀ j, j < k → ¬ suitW[j]? = some s.toList) (fun t _ => 7 - (intOf t).toNat)
  case atStart => exact ⟨rfl, 0, by omega, rfl, fun j hj => absurd hj (by omega)⟩
  case round =>
    obtain ⟨rfl, k, hk, rfl, ha⟩ := hrel
    have HA : Hid (∀ j, j < k → ¬ suitW[j]? = some s.toList) := ha
    clear ha
    rcases (show k = 0 ∨ k = 1 ∨ k = 2 ∨ k = 3 ∨ k = 4 ∨ k = 5 ∨ k = 6 from by omega) with rfl | rfl | rfl | rfl | rfl | rfl | rfl
    · have C : ∀ w : World, Calls Tryz.prog 47 #[.int .u8 1] w fun e w' => e = .returned (.string ⟨([97, 105, 114] : List UInt8).toArray⟩) ∧ w' = w := fun w => rsname_any (k := 1) (by omega) w
      have HX : Hid (suitW[0]? = some [97, 105, 114]) := rfl
      by_cases he : ([97, 105, 114] : List UInt8) = s.toList
      · have hd : (([97, 105, 114] : List UInt8) == s.toList) = true := by simpa using he
        have HE : Hid (idx suitW s.toList = 1) := idx_hit (by rw [HX.out, he]) HA.out
        clear he
        go_wp2_with (go_at_call 47; refine (C _).mono ?_; rintro e w9 ⟨rfl, rfl⟩)
        go_ret2
        exact ⟨ret_of (by rw [HE.out]; rfl) (by rw [HE.out]; rfl), rfl⟩
      · have hd : (([97, 105, 114] : List UInt8) == s.toList) = false := by simpa using he
        have HE : Hid (∀ j, j < 0 + 1 → ¬ suitW[j]? = some s.toList) := not_next HA.out HX.out he
        clear he
        go_wp2_with (go_at_call 47; refine (C _).mono ?_; rintro e w9 ⟨rfl, rfl⟩)
        go_roundw
        case rel => exact ⟨trivial, 1, by omega, by go_num, HE.out⟩
        case measure => simp [intOf]
    · have C : ∀ w : World, Calls Tryz.prog 47 #[.int .u8 2] w fun e w' => e = .returned (.string ⟨([101, 97, 114, 116, 104] : List UInt8).toArray⟩) ∧ w' = w := fun w => rsname_any (k := 2) (by omega) w
      have HX : Hid (suitW[1]? = some [101, 97, 114, 116, 104]) := rfl
      by_cases he : ([101, 97, 114, 116, 104] : List UInt8) = s.toList
      · have hd : (([101, 97, 114, 116, 104] : List UInt8) == s.toList) = true := by simpa using he
        have HE : Hid (idx suitW s.toList = 2) := idx_hit (by rw [HX.out, he]) HA.out
        clear he
        go_wp2_with (go_at_call 47; refine (C _).mono ?_; rintro e w9 ⟨rfl, rfl⟩)
        go_ret2
        exact ⟨ret_of (by rw [HE.out]; rfl) (by rw [HE.out]; rfl), rfl⟩
      · have hd : (([101, 97, 114, 116, 104] : List UInt8) == s.toList) = false := by simpa using he
        have HE : Hid (∀ j, j < 1 + 1 → ¬ suitW[j]? = some s.toList) := not_next HA.out HX.out he
        clear he
        go_wp2_with (go_at_call 47; refine (C _).mono ?_; rintro e w9 ⟨rfl, rfl⟩)
        go_roundw
        case rel => exact ⟨trivial, 2, by omega, by go_num, HE.out⟩
        case measure => simp [intOf]
    · have C : ∀ w : World, Calls Tryz.prog 47 #[.int .u8 3] w fun e w' => e = .returned (.string ⟨([102, 105, 114, 101] : List UInt8).toArray⟩) ∧ w' = w := fun w => rsname_any (k := 3) (by omega) w
      have HX : Hid (suitW[2]? = some [102, 105, 114, 101]) := rfl
      by_cases he : ([102, 105, 114, 101] : List UInt8) = s.toList
      · have hd : (([102, 105, 114, 101] : List UInt8) == s.toList) = true := by simpa using he
        have HE : Hid (idx suitW s.toList = 3) := idx_hit (by rw [HX.out, he]) HA.out
        clear he
        go_wp2_with (go_at_call 47; refine (C _).mono ?_; rintro e w9 ⟨rfl, rfl⟩)
        go_ret2
        exact ⟨ret_of (by rw [HE.out]; rfl) (by rw [HE.out]; rfl), rfl⟩
      · have hd : (([102, 105, 114, 101] : List UInt8) == s.toList) = false := by simpa using he
        have HE : Hid (∀ j, j < 2 + 1 → ¬ suitW[j]? = some s.toList) := not_next HA.out HX.out he
        clear he
        go_wp2_with (go_at_call 47; refine (C _).mono ?_; rintro e w9 ⟨rfl, rfl⟩)
        go_roundw
        case rel => exact ⟨trivial, 3, by omega, by go_num, HE.out⟩
        case measure => simp [intOf]
    · have C : ∀ w : World, Calls Tryz.prog 47 #[.int .u8 4] w fun e w' => e = .returned (.string ⟨([119, 97, 116, 101, 114] : List UInt8).toArray⟩) ∧ w' = w := fun w => rsname_any (k := 4) (by omega) w
      have HX : Hid (suitW[3]? = some [119, 97, 116, 101, 114]) := rfl
      by_cases he : ([119, 97, 116, 101, 114] : List UInt8) = s.toList
      · have hd : (([119, 97, 116, 101, 114] : List UInt8) == s.toList) = true := by simpa using he
        have HE : Hid (idx suitW s.toList = 4) := idx_hit (by rw [HX.out, he]) HA.out
        clear he
        go_wp2_with (go_at_call 47; refine (C _).mono ?_; rintro e w9 ⟨rfl, rfl⟩)
        go_ret2
        exact ⟨ret_of (by rw [HE.out]; rfl) (by rw [HE.out]; rfl), rfl⟩
      · have hd : (([119, 97, 116, 101, 114] : List UInt8) == s.toList) = false := by simpa using he
        have HE : Hid (∀ j, j < 3 + 1 → ¬ suitW[j]? = some s.toList) := not_next HA.out HX.out he
        clear he
        go_wp2_with (go_at_call 47; refine (C _).mono ?_; rintro e w9 ⟨rfl, rfl⟩)
        go_roundw
        case rel => exact ⟨trivial, 4, by omega, by go_num, HE.out⟩
        case measure => simp [intOf]
    · have C : ∀ w : World, Calls Tryz.prog 47 #[.int .u8 5] w fun e w' => e = .returned (.string ⟨([118, 111, 105, 100] : List UInt8).toArray⟩) ∧ w' = w := fun w => rsname_any (k := 5) (by omega) w
      have HX : Hid (suitW[4]? = some [118, 111, 105, 100]) := rfl
      by_cases he : ([118, 111, 105, 100] : List UInt8) = s.toList
      · have hd : (([118, 111, 105, 100] : List UInt8) == s.toList) = true := by simpa using he
        have HE : Hid (idx suitW s.toList = 5) := idx_hit (by rw [HX.out, he]) HA.out
        clear he
        go_wp2_with (go_at_call 47; refine (C _).mono ?_; rintro e w9 ⟨rfl, rfl⟩)
        go_ret2
        exact ⟨ret_of (by rw [HE.out]; rfl) (by rw [HE.out]; rfl), rfl⟩
      · have hd : (([118, 111, 105, 100] : List UInt8) == s.toList) = false := by simpa using he
        have HE : Hid (∀ j, j < 4 + 1 → ¬ suitW[j]? = some s.toList) := not_next HA.out HX.out he
        clear he
        go_wp2_with (go_at_call 47; refine (C _).mono ?_; rintro e w9 ⟨rfl, rfl⟩)
        go_roundw
        case rel => exact ⟨trivial, 5, by omega, by go_num, HE.out⟩
        case measure => simp [intOf]
    · have C : ∀ w : World, Calls Tryz.prog 47 #[.int .u8 6] w fun e w' => e = .returned (.string ⟨([103, 111, 108, 100] : List UInt8).toArray⟩) ∧ w' = w := fun w => rsname_any (k := 6) (by omega) w
      have HX : Hid (suitW[5]? = some [103, 111, 108, 100]) := rfl
      by_cases he : ([103, 111, 108, 100] : List UInt8) = s.toList
      · have hd : (([103, 111, 108, 100] : List UInt8) == s.toList) = true := by simpa using he
        have HE : Hid (idx suitW s.toList = 6) := idx_hit (by rw [HX.out, he]) HA.out
        clear he
        go_wp2_with (go_at_call 47; refine (C _).mono ?_; rintro e w9 ⟨rfl, rfl⟩)
        go_ret2
        exact ⟨ret_of (by rw [HE.out]; rfl) (by rw [HE.out]; rfl), rfl⟩
      · have hd : (([103, 111, 108, 100] : List UInt8) == s.toList) = false := by simpa using he
        have HE : Hid (∀ j, j < 5 + 1 → ¬ suitW[j]? = some s.toList) := not_next HA.out HX.out he
        clear he
        go_wp2_with (go_at_call 47; refine (C _).mono ?_; rintro e w9 ⟨rfl, rfl⟩)
        go_roundw
        case rel => exact ⟨trivial, 6, by omega, by go_num, HE.out⟩
        case measure => simp [intOf]
    · have HE : Hid (idx suitW s.toList = 0) := idx_miss HA.out
      go_wp2
      go_ret2
      exact ⟨ret_of (by rw [HE.out]; rfl) (by rw [HE.out]; rfl), rfl⟩
set_option maxRecDepth 100000 in
set_option maxHeartbeats 4000000 in
theorem rtof_any (s : ByteArray) (w : World) : Calls Tryz.prog 76 #[.string s] w fun e w' => e = .returned (.tuple #[.int .u8 (idx traitW s.toList : Nat), .bool (decide (idx traitW s.toList ≠ 0))]) ∧ w.grownBy w' none := by
  go_enter Tryz.func76, Tryz.ntmps76
  go_wp2_with fail
  refine (rows_any _).mono ?_
  rintro e w1 ⟨rfl, R, g1⟩
  go_wp2_with fail
  go_loopw [5] (fun t wr => wr = w1 ∧ ∃ k : Nat, k ≤ 8 ∧ t = .int .i64 k ∧ ∀ j, j < k → ¬ traitW[j]? = some s.toList) (fun t _ => 8 - (intOf t).toNat)
  case atStart => exact ⟨rfl, 0, Nat.zero_le _, rfl, fun j hj => absurd hj (by omega)⟩
  case round =>
    obtain ⟨rfl, k, hk, rfl, ha⟩ := hrel
    have HA : Hid (∀ j, j < k → ¬ traitW[j]? = some s.toList) := ha
    clear ha
    rcases (show k = 0 ∨ k = 1 ∨ k = 2 ∨ k = 3 ∨ k = 4 ∨ k = 5 ∨ k = 6 ∨ k = 7 ∨ k = 8 from by omega) with rfl | rfl | rfl | rfl | rfl | rfl | rfl | rfl | rfl
    · have c0 : wr.cell? ⟨w.heap.size, 0, none⟩ = some (.int .u8 1) := block_cell R 0
      have c1 : wr.cell? ⟨w.heap.size, 1, none⟩ = some (.string ⟨#[102, 97, 115, 116]⟩) := block_cell R 1
      have HX : Hid (traitW[0]? = some [102, 97, 115, 116]) := rfl
      by_cases he : ([102, 97, 115, 116] : List UInt8) = s.toList
      · have hd : (([102, 97, 115, 116] : List UInt8) == s.toList) = true := by simpa using he
        have HE : Hid (idx traitW s.toList = 1) := idx_hit (by rw [HX.out, he]) HA.out
        clear he
        go_wp2
        go_ret2
        exact ⟨ret_of (by rw [HE.out]; rfl) (by rw [HE.out]; rfl), g1⟩
      · have hd : (([102, 97, 115, 116] : List UInt8) == s.toList) = false := by simpa using he
        have HE : Hid (∀ j, j < 0 + 1 → ¬ traitW[j]? = some s.toList) := not_next HA.out HX.out he
        clear he
        go_wp2
        go_roundw
        case rel => exact ⟨trivial, 1, by omega, by go_num, HE.out⟩
        case measure => simp [intOf]
    · have c0 : wr.cell? ⟨w.heap.size, 4, none⟩ = some (.int .u8 2) := block_cell R 4
      have c1 : wr.cell? ⟨w.heap.size, 5, none⟩ = some (.string ⟨#[103, 117, 97, 114, 100]⟩) := block_cell R 5
      have HX : Hid (traitW[1]? = some [103, 117, 97, 114, 100]) := rfl
      by_cases he : ([103, 117, 97, 114, 100] : List UInt8) = s.toList
      · have hd : (([103, 117, 97, 114, 100] : List UInt8) == s.toList) = true := by simpa using he
        have HE : Hid (idx traitW s.toList = 2) := idx_hit (by rw [HX.out, he]) HA.out
        clear he
        go_wp2
        go_ret2
        exact ⟨ret_of (by rw [HE.out]; rfl) (by rw [HE.out]; rfl), g1⟩
      · have hd : (([103, 117, 97, 114, 100] : List UInt8) == s.toList) = false := by simpa using he
        have HE : Hid (∀ j, j < 1 + 1 → ¬ traitW[j]? = some s.toList) := not_next HA.out HX.out he
        clear he
        go_wp2
        go_roundw
        case rel => exact ⟨trivial, 2, by omega, by go_num, HE.out⟩
        case measure => simp [intOf]
    · have c0 : wr.cell? ⟨w.heap.size, 8, none⟩ = some (.int .u8 3) := block_cell R 8
      have c1 : wr.cell? ⟨w.heap.size, 9, none⟩ = some (.string ⟨#[118, 101, 110, 111, 109]⟩) := block_cell R 9
      have HX : Hid (traitW[2]? = some [118, 101, 110, 111, 109]) := rfl
      by_cases he : ([118, 101, 110, 111, 109] : List UInt8) = s.toList
      · have hd : (([118, 101, 110, 111, 109] : List UInt8) == s.toList) = true := by simpa using he
        have HE : Hid (idx traitW s.toList = 3) := idx_hit (by rw [HX.out, he]) HA.out
        clear he
        go_wp2
        go_ret2
        exact ⟨ret_of (by rw [HE.out]; rfl) (by rw [HE.out]; rfl), g1⟩
      · have hd : (([118, 101, 110, 111, 109] : List UInt8) == s.toList) = false := by simpa using he
        have HE : Hid (∀ j, j < 2 + 1 → ¬ traitW[j]? = some s.toList) := not_next HA.out HX.out he
        clear he
        go_wp2
        go_roundw
        case rel => exact ⟨trivial, 3, by omega, by go_num, HE.out⟩
        case measure => simp [intOf]
    · have c0 : wr.cell? ⟨w.heap.size, 12, none⟩ = some (.int .u8 4) := block_cell R 12
      have c1 : wr.cell? ⟨w.heap.size, 13, none⟩ = some (.string ⟨#[108, 111, 110, 101]⟩) := block_cell R 13
      have HX : Hid (traitW[3]? = some [108, 111, 110, 101]) := rfl
      by_cases he : ([108, 111, 110, 101] : List UInt8) = s.toList
      · have hd : (([108, 111, 110, 101] : List UInt8) == s.toList) = true := by simpa using he
        have HE : Hid (idx traitW s.toList = 4) := idx_hit (by rw [HX.out, he]) HA.out
        clear he
        go_wp2
        go_ret2
        exact ⟨ret_of (by rw [HE.out]; rfl) (by rw [HE.out]; rfl), g1⟩
      · have hd : (([108, 111, 110, 101] : List UInt8) == s.toList) = false := by simpa using he
        have HE : Hid (∀ j, j < 3 + 1 → ¬ traitW[j]? = some s.toList) := not_next HA.out HX.out he
        clear he
        go_wp2
        go_roundw
        case rel => exact ⟨trivial, 4, by omega, by go_num, HE.out⟩
        case measure => simp [intOf]
    · have c0 : wr.cell? ⟨w.heap.size, 16, none⟩ = some (.int .u8 5) := block_cell R 16
      have c1 : wr.cell? ⟨w.heap.size, 17, none⟩ = some (.string ⟨#[100, 114, 97, 105, 110]⟩) := block_cell R 17
      have HX : Hid (traitW[4]? = some [100, 114, 97, 105, 110]) := rfl
      by_cases he : ([100, 114, 97, 105, 110] : List UInt8) = s.toList
      · have hd : (([100, 114, 97, 105, 110] : List UInt8) == s.toList) = true := by simpa using he
        have HE : Hid (idx traitW s.toList = 5) := idx_hit (by rw [HX.out, he]) HA.out
        clear he
        go_wp2
        go_ret2
        exact ⟨ret_of (by rw [HE.out]; rfl) (by rw [HE.out]; rfl), g1⟩
      · have hd : (([100, 114, 97, 105, 110] : List UInt8) == s.toList) = false := by simpa using he
        have HE : Hid (∀ j, j < 4 + 1 → ¬ traitW[j]? = some s.toList) := not_next HA.out HX.out he
        clear he
        go_wp2
        go_roundw
        case rel => exact ⟨trivial, 5, by omega, by go_num, HE.out⟩
        case measure => simp [intOf]
    · have c0 : wr.cell? ⟨w.heap.size, 20, none⟩ = some (.int .u8 6) := block_cell R 20
      have c1 : wr.cell? ⟨w.heap.size, 21, none⟩ = some (.string ⟨#[109, 117, 116, 101]⟩) := block_cell R 21
      have HX : Hid (traitW[5]? = some [109, 117, 116, 101]) := rfl
      by_cases he : ([109, 117, 116, 101] : List UInt8) = s.toList
      · have hd : (([109, 117, 116, 101] : List UInt8) == s.toList) = true := by simpa using he
        have HE : Hid (idx traitW s.toList = 6) := idx_hit (by rw [HX.out, he]) HA.out
        clear he
        go_wp2
        go_ret2
        exact ⟨ret_of (by rw [HE.out]; rfl) (by rw [HE.out]; rfl), g1⟩
      · have hd : (([109, 117, 116, 101] : List UInt8) == s.toList) = false := by simpa using he
        have HE : Hid (∀ j, j < 5 + 1 → ¬ traitW[j]? = some s.toList) := not_next HA.out HX.out he
        clear he
        go_wp2
        go_roundw
        case rel => exact ⟨trivial, 6, by omega, by go_num, HE.out⟩
        case measure => simp [intOf]
    · have c0 : wr.cell? ⟨w.heap.size, 24, none⟩ = some (.int .u8 7) := block_cell R 24
      have c1 : wr.cell? ⟨w.heap.size, 25, none⟩ = some (.string ⟨#[102, 105, 120, 101, 100]⟩) := block_cell R 25
      have HX : Hid (traitW[6]? = some [102, 105, 120, 101, 100]) := rfl
      by_cases he : ([102, 105, 120, 101, 100] : List UInt8) = s.toList
      · have hd : (([102, 105, 120, 101, 100] : List UInt8) == s.toList) = true := by simpa using he
        have HE : Hid (idx traitW s.toList = 7) := idx_hit (by rw [HX.out, he]) HA.out
        clear he
        go_wp2
        go_ret2
        exact ⟨ret_of (by rw [HE.out]; rfl) (by rw [HE.out]; rfl), g1⟩
      · have hd : (([102, 105, 120, 101, 100] : List UInt8) == s.toList) = false := by simpa using he
        have HE : Hid (∀ j, j < 6 + 1 → ¬ traitW[j]? = some s.toList) := not_next HA.out HX.out he
        clear he
        go_wp2
        go_roundw
        case rel => exact ⟨trivial, 7, by omega, by go_num, HE.out⟩
        case measure => simp [intOf]
    · have c0 : wr.cell? ⟨w.heap.size, 28, none⟩ = some (.int .u8 8) := block_cell R 28
      have c1 : wr.cell? ⟨w.heap.size, 29, none⟩ = some (.string ⟨#[115, 119, 105, 102, 116]⟩) := block_cell R 29
      have HX : Hid (traitW[7]? = some [115, 119, 105, 102, 116]) := rfl
      by_cases he : ([115, 119, 105, 102, 116] : List UInt8) = s.toList
      · have hd : (([115, 119, 105, 102, 116] : List UInt8) == s.toList) = true := by simpa using he
        have HE : Hid (idx traitW s.toList = 8) := idx_hit (by rw [HX.out, he]) HA.out
        clear he
        go_wp2
        go_ret2
        exact ⟨ret_of (by rw [HE.out]; rfl) (by rw [HE.out]; rfl), g1⟩
      · have hd : (([115, 119, 105, 102, 116] : List UInt8) == s.toList) = false := by simpa using he
        have HE : Hid (∀ j, j < 7 + 1 → ¬ traitW[j]? = some s.toList) := not_next HA.out HX.out he
        clear he
        go_wp2
        go_roundw
        case rel => exact ⟨trivial, 8, by omega, by go_num, HE.out⟩
        case measure => simp [intOf]
    · have HE : Hid (idx traitW s.toList = 0) := idx_miss HA.out
      go_wp2
      go_ret2
      exact ⟨ret_of (by rw [HE.out]; rfl) (by rw [HE.out]; rfl), g1⟩
end Go.Proofs.YtpceelbphpfciaaGreatDoor
