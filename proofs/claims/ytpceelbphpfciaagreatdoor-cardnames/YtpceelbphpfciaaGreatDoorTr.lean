/-
  What trait tells of every number and every text: Name, Of. The package's table of names is as the program lays it, and each call touches nothing.
-/
import Derived.Test.YtpceelbphpfciaaGreatDoorFn
namespace Go.Proofs.YtpceelbphpfciaaGreatDoor
open Go.RowKit

/-- The names, in the package's table. -/
def TraitsAt (w : World) : Prop := w.cell? ⟨1, 1, none⟩ = some (.string ⟨#[102, 97, 115, 116]⟩) ∧ w.cell? ⟨1, 2, none⟩ = some (.string ⟨#[103, 117, 97, 114, 100]⟩) ∧ w.cell? ⟨1, 3, none⟩ = some (.string ⟨#[118, 101, 110, 111, 109]⟩) ∧ w.cell? ⟨1, 4, none⟩ = some (.string ⟨#[108, 111, 110, 101]⟩) ∧ w.cell? ⟨1, 5, none⟩ = some (.string ⟨#[100, 114, 97, 105, 110]⟩) ∧ w.cell? ⟨1, 6, none⟩ = some (.string ⟨#[109, 117, 116, 101]⟩) ∧ w.cell? ⟨1, 7, none⟩ = some (.string ⟨#[102, 105, 120, 101, 100]⟩) ∧ w.cell? ⟨1, 8, none⟩ = some (.string ⟨#[115, 119, 105, 102, 116]⟩)
theorem TraitsAt.keep {w w' : World} (h : TraitsAt w) (g : w.grownBy w' none) : TraitsAt w' := ⟨g.cell h.1 (by simp), g.cell h.2.1 (by simp), g.cell h.2.2.1 (by simp), g.cell h.2.2.2.1 (by simp), g.cell h.2.2.2.2.1 (by simp), g.cell h.2.2.2.2.2.1 (by simp), g.cell h.2.2.2.2.2.2.1 (by simp), g.cell h.2.2.2.2.2.2.2 (by simp)⟩
def tName (k : Int) : ByteArray := if k = 1 then ⟨#[102, 97, 115, 116]⟩ else if k = 2 then ⟨#[103, 117, 97, 114, 100]⟩ else if k = 3 then ⟨#[118, 101, 110, 111, 109]⟩ else if k = 4 then ⟨#[108, 111, 110, 101]⟩ else if k = 5 then ⟨#[100, 114, 97, 105, 110]⟩ else if k = 6 then ⟨#[109, 117, 116, 101]⟩ else if k = 7 then ⟨#[102, 105, 120, 101, 100]⟩ else if k = 8 then ⟨#[115, 119, 105, 102, 116]⟩ else ⟨#[]⟩
/-- One of the eight. -/
def Eight (k : Int) : Prop := k = 1 ∨ k = 2 ∨ k = 3 ∨ k = 4 ∨ k = 5 ∨ k = 6 ∨ k = 7 ∨ k = 8
theorem eight_or (k : Int) : Eight k ∨ (k < 1 ∨ 8 < k) := by unfold Eight; omega
theorem eight_no (k : Int) (h : k < 1 ∨ 8 < k) : tName k = ⟨#[]⟩ := by
  have h1 : ¬ k = 1 := by omega
  have h2 : ¬ k = 2 := by omega
  have h3 : ¬ k = 3 := by omega
  have h4 : ¬ k = 4 := by omega
  have h5 : ¬ k = 5 := by omega
  have h6 : ¬ k = 6 := by omega
  have h7 : ¬ k = 7 := by omega
  have h8 : ¬ k = 8 := by omega
  simp [tName, h1, h2, h3, h4, h5, h6, h7, h8]
set_option maxHeartbeats 1000000 in
theorem isTrait_yes (k : Int) (h : 1 ≤ k) (h' : k ≤ 8) (w : World) : Calls Tryz.prog 133 #[.int .u8 k] w fun e w' => e = .returned (.bool true) ∧ w' = w := by
  go_enter Tryz.func133, Tryz.ntmps133
  go_wp2
  go_ret
  exact ⟨rfl, rfl⟩
set_option maxHeartbeats 1000000 in
theorem isTrait_no (k : Int) (h : k < 1 ∨ 8 < k) (w : World) : Calls Tryz.prog 133 #[.int .u8 k] w fun e w' => e = .returned (.bool false) ∧ w' = w := by
  rcases h with h | h
  · have h0 : ¬ 1 ≤ k := by omega
    go_enter Tryz.func133, Tryz.ntmps133
    go_wp2
    go_ret
    exact ⟨rfl, rfl⟩
  · have h0 : 1 ≤ k := by omega
    have h1 : ¬ k ≤ 8 := by omega
    go_enter Tryz.func133, Tryz.ntmps133
    go_wp2
    go_ret
    exact ⟨rfl, rfl⟩
set_option maxHeartbeats 1000000 in
theorem tname_any (k : Int) (w : World) (N : TraitsAt w) : Calls Tryz.prog 83 #[.int .u8 k] w fun e w' => e = .returned (.string (tName k)) ∧ w' = w := by
  obtain ⟨c1, c2, c3, c4, c5, c6, c7, c8⟩ := N
  rcases eight_or k with h | h
  · rcases h with rfl | rfl | rfl | rfl | rfl | rfl | rfl | rfl
    all_goals
      go_enter Tryz.func83, Tryz.ntmps83
      go_wp2_with fail
      refine (isTrait_yes _ (by omega) (by omega) _).mono ?_
      rintro e w1 ⟨rfl, rfl⟩
      go_wp2
      go_ret
      exact ⟨rfl, rfl⟩
  · rw [eight_no k h]
    go_enter Tryz.func83, Tryz.ntmps83
    go_wp2_with fail
    refine (isTrait_no _ h _).mono ?_
    rintro e w1 ⟨rfl, rfl⟩
    go_wp2
    go_ret
    exact ⟨rfl, rfl⟩
/-- The names' bytes, by the traits' places. -/
def trL : Nat → List UInt8
  | 0 => [102, 97, 115, 116]
  | 1 => [103, 117, 97, 114, 100]
  | 2 => [118, 101, 110, 111, 109]
  | 3 => [108, 111, 110, 101]
  | 4 => [100, 114, 97, 105, 110]
  | 5 => [109, 117, 116, 101]
  | 6 => [102, 105, 120, 101, 100]
  | _ => [115, 119, 105, 102, 116]
def trI (s : List UInt8) : Int := if trL 0 = s then 1 else if trL 1 = s then 2 else if trL 2 = s then 3 else if trL 3 = s then 4 else if trL 4 = s then 5 else if trL 5 = s then 6 else if trL 6 = s then 7 else if trL 7 = s then 8 else 0
def trB (s : List UInt8) : Bool := if trL 0 = s then true else if trL 1 = s then true else if trL 2 = s then true else if trL 3 = s then true else if trL 4 = s then true else if trL 5 = s then true else if trL 6 = s then true else if trL 7 = s then true else false
theorem tr_hit (k : Nat) (h : k < 8) : trI (trL k) = (k : Int) + 1 ∧ trB (trL k) = true := by
  rcases (show k = 0 ∨ k = 1 ∨ k = 2 ∨ k = 3 ∨ k = 4 ∨ k = 5 ∨ k = 6 ∨ k = 7 from by omega) with rfl | rfl | rfl | rfl | rfl | rfl | rfl | rfl <;> decide
theorem tr_miss (s : List UInt8) (h : ∀ k, k < 8 → trL k ≠ s) : trI s = 0 ∧ trB s = false := by
  have h0 := h 0 (by decide)
  have h1 := h 1 (by decide)
  have h2 := h 2 (by decide)
  have h3 := h 3 (by decide)
  have h4 := h 4 (by decide)
  have h5 := h 5 (by decide)
  have h6 := h 6 (by decide)
  have h7 := h 7 (by decide)
  simp [trI, trB, h0, h1, h2, h3, h4, h5, h6, h7]
theorem tr_more {s : List UInt8} {k : Nat} (h : ∀ j, j < k → trL j ≠ s) (hk : ¬ trL k = s) : ∀ j, j < k + 1 → trL j ≠ s := fun j hj => by
  rcases (show j < k ∨ j = k from by omega) with h' | rfl
  · exact h j h'
  · exact hk
set_option maxRecDepth 100000 in
set_option maxHeartbeats 2000000 in
theorem tof_any (s : ByteArray) (w : World) (N : TraitsAt w) : Calls Tryz.prog 155 #[.string s] w fun e w' => e = .returned (.tuple #[.int .u8 (trI s.toList), .bool (trB s.toList)]) ∧ w' = w := by
  obtain ⟨c1, c2, c3, c4, c5, c6, c7, c8⟩ := N
  go_enter Tryz.func155, Tryz.ntmps155
  go_wp2_with fail
  go_loopw [4] (fun t wr => wr = w ∧ ∃ (k : Nat), k ≤ 8 ∧ t = .int .u8 ((k : Int) + 1) ∧ ∀ j, j < k → trL j ≠ s.toList)
    (fun t _ => 9 - (intOf t).toNat)
  case atStart => exact ⟨rfl, 0, Nat.zero_le _, rfl, fun j hj => absurd hj (by omega)⟩
  case round =>
    obtain ⟨rfl, k, hk, rfl, hm⟩ := hrel
    have HM : Hid (∀ j, j < k → trL j ≠ s.toList) := hm
    clear hm
    rcases (show k = 0 ∨ k = 1 ∨ k = 2 ∨ k = 3 ∨ k = 4 ∨ k = 5 ∨ k = 6 ∨ k = 7 ∨ k = 8 from by omega) with rfl | rfl | rfl | rfl | rfl | rfl | rfl | rfl | rfl
    · by_cases he : ([102, 97, 115, 116] : List UInt8) = s.toList
      · have hd : (([102, 97, 115, 116] : List UInt8) == s.toList) = true := by simpa using he
        have HE : Hid (([102, 97, 115, 116] : List UInt8) = s.toList) := he
        clear he
        go_wp2
        go_ret2
        have hh := tr_hit 0 (by decide)
        rw [show trL 0 = s.toList from HE.out] at hh
        exact ⟨by rw [hh.1, hh.2]; rfl, rfl⟩
      · have hd : (([102, 97, 115, 116] : List UInt8) == s.toList) = false := by simpa using he
        have HE : Hid (¬ ([102, 97, 115, 116] : List UInt8) = s.toList) := he
        clear he
        go_wp2
        go_roundw
        case rel => exact ⟨trivial, 1, by omega, by go_num, tr_more HM.out HE.out⟩
        case measure => simp [intOf]
    · by_cases he : ([103, 117, 97, 114, 100] : List UInt8) = s.toList
      · have hd : (([103, 117, 97, 114, 100] : List UInt8) == s.toList) = true := by simpa using he
        have HE : Hid (([103, 117, 97, 114, 100] : List UInt8) = s.toList) := he
        clear he
        go_wp2
        go_ret2
        have hh := tr_hit 1 (by decide)
        rw [show trL 1 = s.toList from HE.out] at hh
        exact ⟨by rw [hh.1, hh.2]; rfl, rfl⟩
      · have hd : (([103, 117, 97, 114, 100] : List UInt8) == s.toList) = false := by simpa using he
        have HE : Hid (¬ ([103, 117, 97, 114, 100] : List UInt8) = s.toList) := he
        clear he
        go_wp2
        go_roundw
        case rel => exact ⟨trivial, 2, by omega, by go_num, tr_more HM.out HE.out⟩
        case measure => simp [intOf]
    · by_cases he : ([118, 101, 110, 111, 109] : List UInt8) = s.toList
      · have hd : (([118, 101, 110, 111, 109] : List UInt8) == s.toList) = true := by simpa using he
        have HE : Hid (([118, 101, 110, 111, 109] : List UInt8) = s.toList) := he
        clear he
        go_wp2
        go_ret2
        have hh := tr_hit 2 (by decide)
        rw [show trL 2 = s.toList from HE.out] at hh
        exact ⟨by rw [hh.1, hh.2]; rfl, rfl⟩
      · have hd : (([118, 101, 110, 111, 109] : List UInt8) == s.toList) = false := by simpa using he
        have HE : Hid (¬ ([118, 101, 110, 111, 109] : List UInt8) = s.toList) := he
        clear he
        go_wp2
        go_roundw
        case rel => exact ⟨trivial, 3, by omega, by go_num, tr_more HM.out HE.out⟩
        case measure => simp [intOf]
    · by_cases he : ([108, 111, 110, 101] : List UInt8) = s.toList
      · have hd : (([108, 111, 110, 101] : List UInt8) == s.toList) = true := by simpa using he
        have HE : Hid (([108, 111, 110, 101] : List UInt8) = s.toList) := he
        clear he
        go_wp2
        go_ret2
        have hh := tr_hit 3 (by decide)
        rw [show trL 3 = s.toList from HE.out] at hh
        exact ⟨by rw [hh.1, hh.2]; rfl, rfl⟩
      · have hd : (([108, 111, 110, 101] : List UInt8) == s.toList) = false := by simpa using he
        have HE : Hid (¬ ([108, 111, 110, 101] : List UInt8) = s.toList) := he
        clear he
        go_wp2
        go_roundw
        case rel => exact ⟨trivial, 4, by omega, by go_num, tr_more HM.out HE.out⟩
        case measure => simp [intOf]
    · by_cases he : ([100, 114, 97, 105, 110] : List UInt8) = s.toList
      · have hd : (([100, 114, 97, 105, 110] : List UInt8) == s.toList) = true := by simpa using he
        have HE : Hid (([100, 114, 97, 105, 110] : List UInt8) = s.toList) := he
        clear he
        go_wp2
        go_ret2
        have hh := tr_hit 4 (by decide)
        rw [show trL 4 = s.toList from HE.out] at hh
        exact ⟨by rw [hh.1, hh.2]; rfl, rfl⟩
      · have hd : (([100, 114, 97, 105, 110] : List UInt8) == s.toList) = false := by simpa using he
        have HE : Hid (¬ ([100, 114, 97, 105, 110] : List UInt8) = s.toList) := he
        clear he
        go_wp2
        go_roundw
        case rel => exact ⟨trivial, 5, by omega, by go_num, tr_more HM.out HE.out⟩
        case measure => simp [intOf]
    · by_cases he : ([109, 117, 116, 101] : List UInt8) = s.toList
      · have hd : (([109, 117, 116, 101] : List UInt8) == s.toList) = true := by simpa using he
        have HE : Hid (([109, 117, 116, 101] : List UInt8) = s.toList) := he
        clear he
        go_wp2
        go_ret2
        have hh := tr_hit 5 (by decide)
        rw [show trL 5 = s.toList from HE.out] at hh
        exact ⟨by rw [hh.1, hh.2]; rfl, rfl⟩
      · have hd : (([109, 117, 116, 101] : List UInt8) == s.toList) = false := by simpa using he
        have HE : Hid (¬ ([109, 117, 116, 101] : List UInt8) = s.toList) := he
        clear he
        go_wp2
        go_roundw
        case rel => exact ⟨trivial, 6, by omega, by go_num, tr_more HM.out HE.out⟩
        case measure => simp [intOf]
    · by_cases he : ([102, 105, 120, 101, 100] : List UInt8) = s.toList
      · have hd : (([102, 105, 120, 101, 100] : List UInt8) == s.toList) = true := by simpa using he
        have HE : Hid (([102, 105, 120, 101, 100] : List UInt8) = s.toList) := he
        clear he
        go_wp2
        go_ret2
        have hh := tr_hit 6 (by decide)
        rw [show trL 6 = s.toList from HE.out] at hh
        exact ⟨by rw [hh.1, hh.2]; rfl, rfl⟩
      · have hd : (([102, 105, 120, 101, 100] : List UInt8) == s.toList) = false := by simpa using he
        have HE : Hid (¬ ([102, 105, 120, 101, 100] : List UInt8) = s.toList) := he
        clear he
        go_wp2
        go_roundw
        case rel => exact ⟨trivial, 7, by omega, by go_num, tr_more HM.out HE.out⟩
        case measure => simp [intOf]
    · by_cases he : ([115, 119, 105, 102, 116] : List UInt8) = s.toList
      · have hd : (([115, 119, 105, 102, 116] : List UInt8) == s.toList) = true := by simpa using he
        have HE : Hid (([115, 119, 105, 102, 116] : List UInt8) = s.toList) := he
        clear he
        go_wp2
        go_ret2
        have hh := tr_hit 7 (by decide)
        rw [show trL 7 = s.toList from HE.out] at hh
        exact ⟨by rw [hh.1, hh.2]; rfl, rfl⟩
      · have hd : (([115, 119, 105, 102, 116] : List UInt8) == s.toList) = false := by simpa using he
        have HE : Hid (¬ ([115, 119, 105, 102, 116] : List UInt8) = s.toList) := he
        clear he
        go_wp2
        go_roundw
        case rel => exact ⟨trivial, 8, by omega, by go_num, tr_more HM.out HE.out⟩
        case measure => simp [intOf]
    · go_wp2
      go_ret2
      have hh := tr_miss _ HM.out
      exact ⟨by rw [hh.1, hh.2]; rfl, rfl⟩

end Go.Proofs.YtpceelbphpfciaaGreatDoor
