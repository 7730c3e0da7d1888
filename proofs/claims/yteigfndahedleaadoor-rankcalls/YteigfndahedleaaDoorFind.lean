/-
  What rank.Find, rank.Names and the document's own tell of any text.
-/
import Derived.Test.YteigfndahedleaaDoorRank2
namespace Go.Proofs.YteigfndahedleaaDoor
open Go.RowKit

/-- The names, in the package's table. -/
def NamesAt (w : World) : Prop := w.cell? ⟨0, 0, none⟩ = some (.string ⟨#[108, 111, 119]⟩) ∧ w.cell? ⟨0, 1, none⟩ = some (.string ⟨#[115, 116, 101, 112]⟩) ∧ w.cell? ⟨0, 2, none⟩ = some (.string ⟨#[109, 105, 100]⟩) ∧ w.cell? ⟨0, 3, none⟩ = some (.string ⟨#[104, 105, 103, 104]⟩) ∧ w.cell? ⟨0, 4, none⟩ = some (.string ⟨#[116, 111, 112]⟩)
theorem NamesAt.keep {w w' : World} (h : NamesAt w) (g : w.grownBy w' none) : NamesAt w' := ⟨g.cell h.1 (by simp), g.cell h.2.1 (by simp), g.cell h.2.2.1 (by simp), g.cell h.2.2.2.1 (by simp), g.cell h.2.2.2.2 (by simp)⟩
def nm : Nat → List UInt8
  | 0 => [108, 111, 119]
  | 1 => [115, 116, 101, 112]
  | 2 => [109, 105, 100]
  | 3 => [104, 105, 103, 104]
  | _ => [116, 111, 112]
def fI (s : List UInt8) : Int := if nm 0 = s then 0 else if nm 1 = s then 1 else if nm 2 = s then 2 else if nm 3 = s then 3 else if nm 4 = s then 4 else 0
def fB (s : List UInt8) : Bool := if nm 0 = s then true else if nm 1 = s then true else if nm 2 = s then true else if nm 3 = s then true else if nm 4 = s then true else false
theorem nindex0 (w : World) : (Instr.index 46 (.agg #[.string ⟨#[108, 111, 119]⟩, .string ⟨#[115, 116, 101, 112]⟩, .string ⟨#[109, 105, 100]⟩, .string ⟨#[104, 105, 103, 104]⟩, .string ⟨#[116, 111, 112]⟩]) (.int .i64 0)).run Tryd.prog w = .ok (.string ⟨#[108, 111, 119]⟩) w := by kernel_rfl
theorem nindex1 (w : World) : (Instr.index 46 (.agg #[.string ⟨#[108, 111, 119]⟩, .string ⟨#[115, 116, 101, 112]⟩, .string ⟨#[109, 105, 100]⟩, .string ⟨#[104, 105, 103, 104]⟩, .string ⟨#[116, 111, 112]⟩]) (.int .i64 1)).run Tryd.prog w = .ok (.string ⟨#[115, 116, 101, 112]⟩) w := by kernel_rfl
theorem nindex2 (w : World) : (Instr.index 46 (.agg #[.string ⟨#[108, 111, 119]⟩, .string ⟨#[115, 116, 101, 112]⟩, .string ⟨#[109, 105, 100]⟩, .string ⟨#[104, 105, 103, 104]⟩, .string ⟨#[116, 111, 112]⟩]) (.int .i64 2)).run Tryd.prog w = .ok (.string ⟨#[109, 105, 100]⟩) w := by kernel_rfl
theorem nindex3 (w : World) : (Instr.index 46 (.agg #[.string ⟨#[108, 111, 119]⟩, .string ⟨#[115, 116, 101, 112]⟩, .string ⟨#[109, 105, 100]⟩, .string ⟨#[104, 105, 103, 104]⟩, .string ⟨#[116, 111, 112]⟩]) (.int .i64 3)).run Tryd.prog w = .ok (.string ⟨#[104, 105, 103, 104]⟩) w := by kernel_rfl
theorem nindex4 (w : World) : (Instr.index 46 (.agg #[.string ⟨#[108, 111, 119]⟩, .string ⟨#[115, 116, 101, 112]⟩, .string ⟨#[109, 105, 100]⟩, .string ⟨#[104, 105, 103, 104]⟩, .string ⟨#[116, 111, 112]⟩]) (.int .i64 4)).run Tryd.prog w = .ok (.string ⟨#[116, 111, 112]⟩) w := by kernel_rfl
/-- None of the first k names is the text. -/
def NotYet (s : List UInt8) (k : Nat) : Prop := ∀ j, j < k → nm j ≠ s
theorem NotYet.next {s : List UInt8} {k : Nat} (h : NotYet s k) (hk : nm k ≠ s) : NotYet s (k + 1) := fun j hj => by
  by_cases e : j = k
  · subst e; exact hk
  · exact h j (by omega)
theorem find_hit {s : List UInt8} {k : Nat} (hk : k < 5) (h : NotYet s k) (e : nm k = s) : fI s = k ∧ fB s = true := by
  rcases (by omega : k = 0 ∨ k = 1 ∨ k = 2 ∨ k = 3 ∨ k = 4) with rfl | rfl | rfl | rfl | rfl
  · simp [fI, fB, e]
  · simp [fI, fB, e, h 0 (by omega)]
  · simp [fI, fB, e, h 0 (by omega), h 1 (by omega)]
  · simp [fI, fB, e, h 0 (by omega), h 1 (by omega), h 2 (by omega)]
  · simp [fI, fB, e, h 0 (by omega), h 1 (by omega), h 2 (by omega), h 3 (by omega)]
theorem find_miss {s : List UInt8} (h : NotYet s 5) : fI s = 0 ∧ fB s = false := by
  simp [fI, fB, h 0 (by omega), h 1 (by omega), h 2 (by omega), h 3 (by omega), h 4 (by omega)]
theorem ret_find {s : List UInt8} {a : Int} {b : Bool} (h : fI s = a ∧ fB s = b) : Ending.returned (.tuple #[.int .i64 a, .bool b]) = .returned (.tuple #[.int .i64 (fI s), .bool (fB s)]) := by rw [h.1, h.2]
set_option maxRecDepth 100000 in
set_option maxHeartbeats 1000000 in
theorem find_any (s : ByteArray) (w : World) (h : NamesAt w) : Calls Tryd.prog 6 #[.string s] w fun e w' => e = .returned (.tuple #[.int .i64 (fI s.toList), .bool (fB s.toList)]) ∧ w' = w := by
  obtain ⟨c0, c1, c2, c3, c4⟩ := h
  have i0 := nindex0
  have i1 := nindex1
  have i2 := nindex2
  have i3 := nindex3
  have i4 := nindex4
  go_enter Tryd.func6, Tryd.ntmps6
  go_wp2
  go_loop [7] (fun i => ∃ k : Nat, k ≤ 5 ∧ i = .int .i64 k ∧ NotYet s.toList k) (fun i => 5 - (intOf i).toNat)
  case atStart => exact ⟨0, by omega, rfl, fun j hj => absurd hj (Nat.not_lt_zero _)⟩
  case round =>
    clear c0 c1 c2 c3 c4
    obtain ⟨k, hk, rfl, hn⟩ := hrel
    have HN : Hid (NotYet s.toList k) := hn
    clear hn
    rcases (by omega : k = 0 ∨ k = 1 ∨ k = 2 ∨ k = 3 ∨ k = 4 ∨ k = 5) with rfl | rfl | rfl | rfl | rfl | rfl
    · simp only [Int.cast_ofNat_Int]
      by_cases he : ([108, 111, 119] : List UInt8) = s.toList
      · have hd : (([108, 111, 119] : List UInt8) == s.toList) = true := by simpa using he
        have HE : Hid (([108, 111, 119] : List UInt8) = s.toList) := he
        clear he
        go_wp2
        go_ret2
        exact ⟨ret_find (find_hit (k := 0) (by omega) HN.out HE.out), rfl⟩
      · have hd : (([108, 111, 119] : List UInt8) == s.toList) = false := by simpa using he
        have HE : Hid (¬ ([108, 111, 119] : List UInt8) = s.toList) := he
        clear he
        go_wp2
        go_round
        case rel => exact ⟨1, by omega, rfl, HN.out.next HE.out⟩
        case measure => decide
    · simp only [Int.cast_ofNat_Int]
      by_cases he : ([115, 116, 101, 112] : List UInt8) = s.toList
      · have hd : (([115, 116, 101, 112] : List UInt8) == s.toList) = true := by simpa using he
        have HE : Hid (([115, 116, 101, 112] : List UInt8) = s.toList) := he
        clear he
        go_wp2
        go_ret2
        exact ⟨ret_find (find_hit (k := 1) (by omega) HN.out HE.out), rfl⟩
      · have hd : (([115, 116, 101, 112] : List UInt8) == s.toList) = false := by simpa using he
        have HE : Hid (¬ ([115, 116, 101, 112] : List UInt8) = s.toList) := he
        clear he
        go_wp2
        go_round
        case rel => exact ⟨2, by omega, rfl, HN.out.next HE.out⟩
        case measure => decide
    · simp only [Int.cast_ofNat_Int]
      by_cases he : ([109, 105, 100] : List UInt8) = s.toList
      · have hd : (([109, 105, 100] : List UInt8) == s.toList) = true := by simpa using he
        have HE : Hid (([109, 105, 100] : List UInt8) = s.toList) := he
        clear he
        go_wp2
        go_ret2
        exact ⟨ret_find (find_hit (k := 2) (by omega) HN.out HE.out), rfl⟩
      · have hd : (([109, 105, 100] : List UInt8) == s.toList) = false := by simpa using he
        have HE : Hid (¬ ([109, 105, 100] : List UInt8) = s.toList) := he
        clear he
        go_wp2
        go_round
        case rel => exact ⟨3, by omega, rfl, HN.out.next HE.out⟩
        case measure => decide
    · simp only [Int.cast_ofNat_Int]
      by_cases he : ([104, 105, 103, 104] : List UInt8) = s.toList
      · have hd : (([104, 105, 103, 104] : List UInt8) == s.toList) = true := by simpa using he
        have HE : Hid (([104, 105, 103, 104] : List UInt8) = s.toList) := he
        clear he
        go_wp2
        go_ret2
        exact ⟨ret_find (find_hit (k := 3) (by omega) HN.out HE.out), rfl⟩
      · have hd : (([104, 105, 103, 104] : List UInt8) == s.toList) = false := by simpa using he
        have HE : Hid (¬ ([104, 105, 103, 104] : List UInt8) = s.toList) := he
        clear he
        go_wp2
        go_round
        case rel => exact ⟨4, by omega, rfl, HN.out.next HE.out⟩
        case measure => decide
    · simp only [Int.cast_ofNat_Int]
      by_cases he : ([116, 111, 112] : List UInt8) = s.toList
      · have hd : (([116, 111, 112] : List UInt8) == s.toList) = true := by simpa using he
        have HE : Hid (([116, 111, 112] : List UInt8) = s.toList) := he
        clear he
        go_wp2
        go_ret2
        exact ⟨ret_find (find_hit (k := 4) (by omega) HN.out HE.out), rfl⟩
      · have hd : (([116, 111, 112] : List UInt8) == s.toList) = false := by simpa using he
        have HE : Hid (¬ ([116, 111, 112] : List UInt8) = s.toList) := he
        clear he
        go_wp2
        go_round
        case rel => exact ⟨5, by omega, rfl, HN.out.next HE.out⟩
        case measure => decide
    · simp only [Int.cast_ofNat_Int]
      go_wp2
      go_ret2
      exact ⟨ret_find (find_miss HN.out), rfl⟩
set_option maxRecDepth 100000 in
set_option maxHeartbeats 1000000 in
theorem rnames_any (w : World) : Calls Tryd.prog 18 #[] w fun e w' => e = .returned (.slice (some ⟨w.heap.size, 0, none⟩) 5 5) ∧ w' = w.alloc (.cells #[.string ⟨#[108, 111, 119]⟩, .string ⟨#[115, 116, 101, 112]⟩, .string ⟨#[109, 105, 100]⟩, .string ⟨#[104, 105, 103, 104]⟩, .string ⟨#[116, 111, 112]⟩] 9) := by
  go_enter Tryd.func18, Tryd.ntmps18
  go_wp2
  go_ret
  exact ⟨rfl, rfl⟩
set_option maxRecDepth 100000 in
set_option maxHeartbeats 1000000 in
theorem rfind_any (s : ByteArray) (w : World) : Calls Tryd.prog 12 #[.string s] w fun e w' => e = .returned (.tuple #[.int .i64 (fI s.toList), .bool (fB s.toList)]) ∧ w.grownBy w' none := by
  go_enter Tryd.func12, Tryd.ntmps12
  go_wp2_with fail
  refine (rnames_any _).mono ?_
  rintro e w1 ⟨rfl, hw1⟩
  have B1 := alloc_at w #[.string ⟨#[108, 111, 119]⟩, .string ⟨#[115, 116, 101, 112]⟩, .string ⟨#[109, 105, 100]⟩, .string ⟨#[104, 105, 103, 104]⟩, .string ⟨#[116, 111, 112]⟩] 9
  have HG : Hid (w.grownBy (w.alloc (.cells #[.string ⟨#[108, 111, 119]⟩, .string ⟨#[115, 116, 101, 112]⟩, .string ⟨#[109, 105, 100]⟩, .string ⟨#[104, 105, 103, 104]⟩, .string ⟨#[116, 111, 112]⟩] 9)) none) := World.grownBy_alloc _ _ _
  rw [← hw1] at B1 HG
  clear hw1
  have c0 : w1.cell? ⟨w.heap.size, 0, none⟩ = some (.string ⟨#[108, 111, 119]⟩) := block_cell B1 0
  have c1 : w1.cell? ⟨w.heap.size, 1, none⟩ = some (.string ⟨#[115, 116, 101, 112]⟩) := block_cell B1 1
  have c2 : w1.cell? ⟨w.heap.size, 2, none⟩ = some (.string ⟨#[109, 105, 100]⟩) := block_cell B1 2
  have c3 : w1.cell? ⟨w.heap.size, 3, none⟩ = some (.string ⟨#[104, 105, 103, 104]⟩) := block_cell B1 3
  have c4 : w1.cell? ⟨w.heap.size, 4, none⟩ = some (.string ⟨#[116, 111, 112]⟩) := block_cell B1 4
  clear B1
  generalize w.heap.size = g at *
  go_wp2_with fail
  go_loop [5] (fun i => ∃ k : Nat, k ≤ 5 ∧ i = .int .i64 k ∧ NotYet s.toList k) (fun i => 5 - (intOf i).toNat)
  case atStart => exact ⟨0, by omega, rfl, fun j hj => absurd hj (Nat.not_lt_zero _)⟩
  case round =>
    obtain ⟨k, hk, rfl, hn⟩ := hrel
    have HN : Hid (NotYet s.toList k) := hn
    clear hn
    rcases (by omega : k = 0 ∨ k = 1 ∨ k = 2 ∨ k = 3 ∨ k = 4 ∨ k = 5) with rfl | rfl | rfl | rfl | rfl | rfl
    · simp only [Int.cast_ofNat_Int]
      by_cases he : ([108, 111, 119] : List UInt8) = s.toList
      · have hd : (([108, 111, 119] : List UInt8) == s.toList) = true := by simpa using he
        have HE : Hid (([108, 111, 119] : List UInt8) = s.toList) := he
        clear he
        go_wp2
        go_ret2
        exact ⟨ret_find (find_hit (k := 0) (by omega) HN.out HE.out), HG.out⟩
      · have hd : (([108, 111, 119] : List UInt8) == s.toList) = false := by simpa using he
        have HE : Hid (¬ ([108, 111, 119] : List UInt8) = s.toList) := he
        clear he
        go_wp2
        go_round
        case rel => exact ⟨1, by omega, rfl, HN.out.next HE.out⟩
        case measure => decide
    · simp only [Int.cast_ofNat_Int]
      by_cases he : ([115, 116, 101, 112] : List UInt8) = s.toList
      · have hd : (([115, 116, 101, 112] : List UInt8) == s.toList) = true := by simpa using he
        have HE : Hid (([115, 116, 101, 112] : List UInt8) = s.toList) := he
        clear he
        go_wp2
        go_ret2
        exact ⟨ret_find (find_hit (k := 1) (by omega) HN.out HE.out), HG.out⟩
      · have hd : (([115, 116, 101, 112] : List UInt8) == s.toList) = false := by simpa using he
        have HE : Hid (¬ ([115, 116, 101, 112] : List UInt8) = s.toList) := he
        clear he
        go_wp2
        go_round
        case rel => exact ⟨2, by omega, rfl, HN.out.next HE.out⟩
        case measure => decide
    · simp only [Int.cast_ofNat_Int]
      by_cases he : ([109, 105, 100] : List UInt8) = s.toList
      · have hd : (([109, 105, 100] : List UInt8) == s.toList) = true := by simpa using he
        have HE : Hid (([109, 105, 100] : List UInt8) = s.toList) := he
        clear he
        go_wp2
        go_ret2
        exact ⟨ret_find (find_hit (k := 2) (by omega) HN.out HE.out), HG.out⟩
      · have hd : (([109, 105, 100] : List UInt8) == s.toList) = false := by simpa using he
        have HE : Hid (¬ ([109, 105, 100] : List UInt8) = s.toList) := he
        clear he
        go_wp2
        go_round
        case rel => exact ⟨3, by omega, rfl, HN.out.next HE.out⟩
        case measure => decide
    · simp only [Int.cast_ofNat_Int]
      by_cases he : ([104, 105, 103, 104] : List UInt8) = s.toList
      · have hd : (([104, 105, 103, 104] : List UInt8) == s.toList) = true := by simpa using he
        have HE : Hid (([104, 105, 103, 104] : List UInt8) = s.toList) := he
        clear he
        go_wp2
        go_ret2
        exact ⟨ret_find (find_hit (k := 3) (by omega) HN.out HE.out), HG.out⟩
      · have hd : (([104, 105, 103, 104] : List UInt8) == s.toList) = false := by simpa using he
        have HE : Hid (¬ ([104, 105, 103, 104] : List UInt8) = s.toList) := he
        clear he
        go_wp2
        go_round
        case rel => exact ⟨4, by omega, rfl, HN.out.next HE.out⟩
        case measure => decide
    · simp only [Int.cast_ofNat_Int]
      by_cases he : ([116, 111, 112] : List UInt8) = s.toList
      · have hd : (([116, 111, 112] : List UInt8) == s.toList) = true := by simpa using he
        have HE : Hid (([116, 111, 112] : List UInt8) = s.toList) := he
        clear he
        go_wp2
        go_ret2
        exact ⟨ret_find (find_hit (k := 4) (by omega) HN.out HE.out), HG.out⟩
      · have hd : (([116, 111, 112] : List UInt8) == s.toList) = false := by simpa using he
        have HE : Hid (¬ ([116, 111, 112] : List UInt8) = s.toList) := he
        clear he
        go_wp2
        go_round
        case rel => exact ⟨5, by omega, rfl, HN.out.next HE.out⟩
        case measure => decide
    · simp only [Int.cast_ofNat_Int]
      go_wp2
      go_ret2
      exact ⟨ret_find (find_miss HN.out), HG.out⟩
end Go.Proofs.YteigfndahedleaaDoor
