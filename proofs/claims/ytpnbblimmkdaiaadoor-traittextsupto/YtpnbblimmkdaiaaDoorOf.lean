/-
  What trait.Of tells of every text: the trait of that name, or none.
-/
import Derived.Test.YtpnbblimmkdaiaaDoorList
namespace Go.Proofs.YtpnbblimmkdaiaaDoor
open Go.RowKit

/-- The names' bytes, by the traits' places. -/
def nmL : Nat → List UInt8
  | 0 => [102, 97, 115, 116]
  | 1 => [103, 117, 97, 114, 100]
  | 2 => [118, 101, 110, 111, 109]
  | 3 => [108, 111, 110, 101]
  | 4 => [100, 114, 97, 105, 110]
  | 5 => [109, 117, 116, 101]
  | 6 => [102, 105, 120, 101, 100]
  | _ => [115, 119, 105, 102, 116]
def oI (s : List UInt8) : Int := if nmL 0 = s then 1 else if nmL 1 = s then 2 else if nmL 2 = s then 3 else if nmL 3 = s then 4 else if nmL 4 = s then 5 else if nmL 5 = s then 6 else if nmL 6 = s then 7 else if nmL 7 = s then 8 else 0
def oB (s : List UInt8) : Bool := if nmL 0 = s then true else if nmL 1 = s then true else if nmL 2 = s then true else if nmL 3 = s then true else if nmL 4 = s then true else if nmL 5 = s then true else if nmL 6 = s then true else if nmL 7 = s then true else false
theorem of_hit (k : Nat) (h : k < 8) : oI (nmL k) = (k : Int) + 1 ∧ oB (nmL k) = true := by
  rcases (show k = 0 ∨ k = 1 ∨ k = 2 ∨ k = 3 ∨ k = 4 ∨ k = 5 ∨ k = 6 ∨ k = 7 from by omega) with rfl | rfl | rfl | rfl | rfl | rfl | rfl | rfl <;> decide
theorem of_miss (s : List UInt8) (h : ∀ k, k < 8 → nmL k ≠ s) : oI s = 0 ∧ oB s = false := by
  have h0 := h 0 (by decide)
  have h1 := h 1 (by decide)
  have h2 := h 2 (by decide)
  have h3 := h 3 (by decide)
  have h4 := h 4 (by decide)
  have h5 := h 5 (by decide)
  have h6 := h 6 (by decide)
  have h7 := h 7 (by decide)
  simp [oI, oB, h0, h1, h2, h3, h4, h5, h6, h7]
theorem not_more {s : List UInt8} {k : Nat} (h : ∀ j, j < k → nmL j ≠ s) (hk : ¬ nmL k = s) : ∀ j, j < k + 1 → nmL j ≠ s := fun j hj => by
  rcases (show j < k ∨ j = k from by omega) with h' | rfl
  · exact h j h'
  · exact hk
set_option maxRecDepth 100000 in
set_option maxHeartbeats 2000000 in
theorem of_any (s : ByteArray) (w : World) (N : NamesAt w) : Calls Tryd.prog 28 #[.string s] w fun e w' => e = .returned (.tuple #[.int .u8 (oI s.toList), .bool (oB s.toList)]) ∧ w' = w := by
  obtain ⟨c1, c2, c3, c4, c5, c6, c7, c8⟩ := N
  go_enter Tryd.func28, Tryd.ntmps28
  go_wp2_with fail
  go_loopw [4] (fun t wr => wr = w ∧ ∃ (k : Nat), k ≤ 8 ∧ t = .int .u8 ((k : Int) + 1) ∧ ∀ j, j < k → nmL j ≠ s.toList)
    (fun t _ => 9 - (intOf t).toNat)
  case atStart => exact ⟨rfl, 0, Nat.zero_le _, rfl, fun j hj => absurd hj (by omega)⟩
  case round =>
    obtain ⟨rfl, k, hk, rfl, hm⟩ := hrel
    have HM : Hid (∀ j, j < k → nmL j ≠ s.toList) := hm
    clear hm
    rcases (show k = 0 ∨ k = 1 ∨ k = 2 ∨ k = 3 ∨ k = 4 ∨ k = 5 ∨ k = 6 ∨ k = 7 ∨ k = 8 from by omega) with rfl | rfl | rfl | rfl | rfl | rfl | rfl | rfl | rfl
    · by_cases he : ([102, 97, 115, 116] : List UInt8) = s.toList
      · have hd : (([102, 97, 115, 116] : List UInt8) == s.toList) = true := by simpa using he
        have HE : Hid (([102, 97, 115, 116] : List UInt8) = s.toList) := he
        clear he
        go_wp2
        go_ret2
        have hh := of_hit 0 (by decide)
        rw [show nmL 0 = s.toList from HE.out] at hh
        exact ⟨by rw [hh.1, hh.2]; rfl, rfl⟩
      · have hd : (([102, 97, 115, 116] : List UInt8) == s.toList) = false := by simpa using he
        have HE : Hid (¬ ([102, 97, 115, 116] : List UInt8) = s.toList) := he
        clear he
        go_wp2
        go_roundw
        case rel => exact ⟨trivial, 1, by omega, by go_num, not_more HM.out HE.out⟩
        case measure => simp [intOf]
    · by_cases he : ([103, 117, 97, 114, 100] : List UInt8) = s.toList
      · have hd : (([103, 117, 97, 114, 100] : List UInt8) == s.toList) = true := by simpa using he
        have HE : Hid (([103, 117, 97, 114, 100] : List UInt8) = s.toList) := he
        clear he
        go_wp2
        go_ret2
        have hh := of_hit 1 (by decide)
        rw [show nmL 1 = s.toList from HE.out] at hh
        exact ⟨by rw [hh.1, hh.2]; rfl, rfl⟩
      · have hd : (([103, 117, 97, 114, 100] : List UInt8) == s.toList) = false := by simpa using he
        have HE : Hid (¬ ([103, 117, 97, 114, 100] : List UInt8) = s.toList) := he
        clear he
        go_wp2
        go_roundw
        case rel => exact ⟨trivial, 2, by omega, by go_num, not_more HM.out HE.out⟩
        case measure => simp [intOf]
    · by_cases he : ([118, 101, 110, 111, 109] : List UInt8) = s.toList
      · have hd : (([118, 101, 110, 111, 109] : List UInt8) == s.toList) = true := by simpa using he
        have HE : Hid (([118, 101, 110, 111, 109] : List UInt8) = s.toList) := he
        clear he
        go_wp2
        go_ret2
        have hh := of_hit 2 (by decide)
        rw [show nmL 2 = s.toList from HE.out] at hh
        exact ⟨by rw [hh.1, hh.2]; rfl, rfl⟩
      · have hd : (([118, 101, 110, 111, 109] : List UInt8) == s.toList) = false := by simpa using he
        have HE : Hid (¬ ([118, 101, 110, 111, 109] : List UInt8) = s.toList) := he
        clear he
        go_wp2
        go_roundw
        case rel => exact ⟨trivial, 3, by omega, by go_num, not_more HM.out HE.out⟩
        case measure => simp [intOf]
    · by_cases he : ([108, 111, 110, 101] : List UInt8) = s.toList
      · have hd : (([108, 111, 110, 101] : List UInt8) == s.toList) = true := by simpa using he
        have HE : Hid (([108, 111, 110, 101] : List UInt8) = s.toList) := he
        clear he
        go_wp2
        go_ret2
        have hh := of_hit 3 (by decide)
        rw [show nmL 3 = s.toList from HE.out] at hh
        exact ⟨by rw [hh.1, hh.2]; rfl, rfl⟩
      · have hd : (([108, 111, 110, 101] : List UInt8) == s.toList) = false := by simpa using he
        have HE : Hid (¬ ([108, 111, 110, 101] : List UInt8) = s.toList) := he
        clear he
        go_wp2
        go_roundw
        case rel => exact ⟨trivial, 4, by omega, by go_num, not_more HM.out HE.out⟩
        case measure => simp [intOf]
    · by_cases he : ([100, 114, 97, 105, 110] : List UInt8) = s.toList
      · have hd : (([100, 114, 97, 105, 110] : List UInt8) == s.toList) = true := by simpa using he
        have HE : Hid (([100, 114, 97, 105, 110] : List UInt8) = s.toList) := he
        clear he
        go_wp2
        go_ret2
        have hh := of_hit 4 (by decide)
        rw [show nmL 4 = s.toList from HE.out] at hh
        exact ⟨by rw [hh.1, hh.2]; rfl, rfl⟩
      · have hd : (([100, 114, 97, 105, 110] : List UInt8) == s.toList) = false := by simpa using he
        have HE : Hid (¬ ([100, 114, 97, 105, 110] : List UInt8) = s.toList) := he
        clear he
        go_wp2
        go_roundw
        case rel => exact ⟨trivial, 5, by omega, by go_num, not_more HM.out HE.out⟩
        case measure => simp [intOf]
    · by_cases he : ([109, 117, 116, 101] : List UInt8) = s.toList
      · have hd : (([109, 117, 116, 101] : List UInt8) == s.toList) = true := by simpa using he
        have HE : Hid (([109, 117, 116, 101] : List UInt8) = s.toList) := he
        clear he
        go_wp2
        go_ret2
        have hh := of_hit 5 (by decide)
        rw [show nmL 5 = s.toList from HE.out] at hh
        exact ⟨by rw [hh.1, hh.2]; rfl, rfl⟩
      · have hd : (([109, 117, 116, 101] : List UInt8) == s.toList) = false := by simpa using he
        have HE : Hid (¬ ([109, 117, 116, 101] : List UInt8) = s.toList) := he
        clear he
        go_wp2
        go_roundw
        case rel => exact ⟨trivial, 6, by omega, by go_num, not_more HM.out HE.out⟩
        case measure => simp [intOf]
    · by_cases he : ([102, 105, 120, 101, 100] : List UInt8) = s.toList
      · have hd : (([102, 105, 120, 101, 100] : List UInt8) == s.toList) = true := by simpa using he
        have HE : Hid (([102, 105, 120, 101, 100] : List UInt8) = s.toList) := he
        clear he
        go_wp2
        go_ret2
        have hh := of_hit 6 (by decide)
        rw [show nmL 6 = s.toList from HE.out] at hh
        exact ⟨by rw [hh.1, hh.2]; rfl, rfl⟩
      · have hd : (([102, 105, 120, 101, 100] : List UInt8) == s.toList) = false := by simpa using he
        have HE : Hid (¬ ([102, 105, 120, 101, 100] : List UInt8) = s.toList) := he
        clear he
        go_wp2
        go_roundw
        case rel => exact ⟨trivial, 7, by omega, by go_num, not_more HM.out HE.out⟩
        case measure => simp [intOf]
    · by_cases he : ([115, 119, 105, 102, 116] : List UInt8) = s.toList
      · have hd : (([115, 119, 105, 102, 116] : List UInt8) == s.toList) = true := by simpa using he
        have HE : Hid (([115, 119, 105, 102, 116] : List UInt8) = s.toList) := he
        clear he
        go_wp2
        go_ret2
        have hh := of_hit 7 (by decide)
        rw [show nmL 7 = s.toList from HE.out] at hh
        exact ⟨by rw [hh.1, hh.2]; rfl, rfl⟩
      · have hd : (([115, 119, 105, 102, 116] : List UInt8) == s.toList) = false := by simpa using he
        have HE : Hid (¬ ([115, 119, 105, 102, 116] : List UInt8) = s.toList) := he
        clear he
        go_wp2
        go_roundw
        case rel => exact ⟨trivial, 8, by omega, by go_num, not_more HM.out HE.out⟩
        case measure => simp [intOf]
    · go_wp2
      go_ret2
      have hh := of_miss _ HM.out
      exact ⟨by rw [hh.1, hh.2]; rfl, rfl⟩
end Go.Proofs.YtpnbblimmkdaiaaDoor
