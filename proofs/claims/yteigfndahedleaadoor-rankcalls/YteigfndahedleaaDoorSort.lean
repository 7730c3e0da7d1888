/-
  What rank.Order answers: the library's sort of five numbers by their turns, walked as it goes at these five.
-/
import Derived.Test.YteigfndahedleaaDoorRank2
import Derived.Laws.CopyOwn
namespace Go.Proofs.YteigfndahedleaaDoor
open Go.RowKit

set_option maxHeartbeats 1000000 in
theorem isNaN_any (a : Int) (w : World) : Calls Tryd.prog 37 #[.int .i64 a] w fun e w' => e = .returned (.bool false) ∧ w' = w := by
  go_enter Tryd.func37, Tryd.ntmps37
  go_wp2
  go_ret
  exact ⟨rfl, rfl⟩
set_option maxHeartbeats 1000000 in
theorem compare_lt (a b : Int) (h : a < b) (w : World) : Calls Tryd.prog 25 #[.int .i64 a, .int .i64 b] w fun e w' => e = .returned (.int .i64 (-1)) ∧ w' = w := by
  go_enter Tryd.func25, Tryd.ntmps25
  go_wp2_with (go_at_call 37; refine (isNaN_any _ _).mono ?_; rintro e w' ⟨rfl, rfl⟩)
  go_ret
  exact ⟨rfl, rfl⟩
set_option maxHeartbeats 1000000 in
theorem compare_gt (a b : Int) (h : b < a) (w : World) : Calls Tryd.prog 25 #[.int .i64 a, .int .i64 b] w fun e w' => e = .returned (.int .i64 1) ∧ w' = w := by
  have h2 : ¬ a < b := by omega
  go_enter Tryd.func25, Tryd.ntmps25
  go_wp2_with (go_at_call 37; refine (isNaN_any _ _).mono ?_; rintro e w' ⟨rfl, rfl⟩)
  go_ret
  exact ⟨rfl, rfl⟩
/-- Nothing has turned but what was drawn. -/
def Quiet (a b : World) : Prop := b.os = a.os ∧ b.tape = a.tape ∧ b.output = a.output ∧ b.heap = a.heap
theorem quiet_grown {a b : World} (q : Quiet a b) (r : Option Nat) : a.grownBy b r := ⟨q.1, q.2.1, q.2.2.1, by rw [q.2.2.2]; exact Nat.le_refl _, fun i _ _ => by rw [q.2.2.2]⟩
/-- The five, in memory. -/
def AllAt (w : World) (g : Nat) : Prop := w.heap[g]? = some (.cells #[.int .i64 3, .int .i64 1, .int .i64 2, .int .i64 3, .int .i64 7, .int .i64 2, .int .i64 11, .int .i64 4, .int .i64 18, .int .i64 5] 44 (0, 0))
set_option maxHeartbeats 1000000 in
theorem clo_10 (g : Nat) (w : World) (h : AllAt w g) : Calls Tryd.prog 24 #[.int .i64 1, .int .i64 0, .pointer (some ⟨g, 0, none⟩)] w fun e w' => e = .returned (.int .i64 (1)) ∧ Quiet w w' := by
  have c1 : w.cell? ⟨g, 3, none⟩ = some (.int .i64 3) := block_cell h 3
  have c3 : w.cell? ⟨g, 1, none⟩ = some (.int .i64 1) := block_cell h 1
  clear h
  go_enter Tryd.func24, Tryd.ntmps24
  go_wp2_with fail
  go_region_held3 (fun w' => w'.cell? ⟨g, 3, none⟩ = some (.int .i64 3) ∧ w'.cell? ⟨g, 1, none⟩ = some (.int .i64 1)) (first | exact ⟨c1, c3⟩ | (simp [*]; done)) ((go_at_call 25; refine (compare_gt _ _ (by omega) _).mono ?_; rintro e w' ⟨rfl, rfl⟩))
  go_wp2
  go_ret
  exact ⟨rfl, rfl, rfl, rfl, rfl⟩
set_option maxHeartbeats 1000000 in
theorem clo_21 (g : Nat) (w : World) (h : AllAt w g) : Calls Tryd.prog 24 #[.int .i64 2, .int .i64 1, .pointer (some ⟨g, 0, none⟩)] w fun e w' => e = .returned (.int .i64 (-1)) ∧ Quiet w w' := by
  have c1 : w.cell? ⟨g, 5, none⟩ = some (.int .i64 2) := block_cell h 5
  have c3 : w.cell? ⟨g, 3, none⟩ = some (.int .i64 3) := block_cell h 3
  clear h
  go_enter Tryd.func24, Tryd.ntmps24
  go_wp2_with fail
  go_region_held3 (fun w' => w'.cell? ⟨g, 5, none⟩ = some (.int .i64 2) ∧ w'.cell? ⟨g, 3, none⟩ = some (.int .i64 3)) (first | exact ⟨c1, c3⟩ | (simp [*]; done)) ((go_at_call 25; refine (compare_lt _ _ (by omega) _).mono ?_; rintro e w' ⟨rfl, rfl⟩))
  go_wp2
  go_ret
  exact ⟨rfl, rfl, rfl, rfl, rfl⟩
set_option maxHeartbeats 1000000 in
theorem clo_20 (g : Nat) (w : World) (h : AllAt w g) : Calls Tryd.prog 24 #[.int .i64 2, .int .i64 0, .pointer (some ⟨g, 0, none⟩)] w fun e w' => e = .returned (.int .i64 (1)) ∧ Quiet w w' := by
  have c1 : w.cell? ⟨g, 5, none⟩ = some (.int .i64 2) := block_cell h 5
  have c3 : w.cell? ⟨g, 1, none⟩ = some (.int .i64 1) := block_cell h 1
  clear h
  go_enter Tryd.func24, Tryd.ntmps24
  go_wp2_with fail
  go_region_held3 (fun w' => w'.cell? ⟨g, 5, none⟩ = some (.int .i64 2) ∧ w'.cell? ⟨g, 1, none⟩ = some (.int .i64 1)) (first | exact ⟨c1, c3⟩ | (simp [*]; done)) ((go_at_call 25; refine (compare_gt _ _ (by omega) _).mono ?_; rintro e w' ⟨rfl, rfl⟩))
  go_wp2
  go_ret
  exact ⟨rfl, rfl, rfl, rfl, rfl⟩
set_option maxHeartbeats 1000000 in
theorem clo_31 (g : Nat) (w : World) (h : AllAt w g) : Calls Tryd.prog 24 #[.int .i64 3, .int .i64 1, .pointer (some ⟨g, 0, none⟩)] w fun e w' => e = .returned (.int .i64 (1)) ∧ Quiet w w' := by
  have c1 : w.cell? ⟨g, 7, none⟩ = some (.int .i64 4) := block_cell h 7
  have c3 : w.cell? ⟨g, 3, none⟩ = some (.int .i64 3) := block_cell h 3
  clear h
  go_enter Tryd.func24, Tryd.ntmps24
  go_wp2_with fail
  go_region_held3 (fun w' => w'.cell? ⟨g, 7, none⟩ = some (.int .i64 4) ∧ w'.cell? ⟨g, 3, none⟩ = some (.int .i64 3)) (first | exact ⟨c1, c3⟩ | (simp [*]; done)) ((go_at_call 25; refine (compare_gt _ _ (by omega) _).mono ?_; rintro e w' ⟨rfl, rfl⟩))
  go_wp2
  go_ret
  exact ⟨rfl, rfl, rfl, rfl, rfl⟩
set_option maxHeartbeats 1000000 in
theorem clo_43 (g : Nat) (w : World) (h : AllAt w g) : Calls Tryd.prog 24 #[.int .i64 4, .int .i64 3, .pointer (some ⟨g, 0, none⟩)] w fun e w' => e = .returned (.int .i64 (1)) ∧ Quiet w w' := by
  have c1 : w.cell? ⟨g, 9, none⟩ = some (.int .i64 5) := block_cell h 9
  have c3 : w.cell? ⟨g, 7, none⟩ = some (.int .i64 4) := block_cell h 7
  clear h
  go_enter Tryd.func24, Tryd.ntmps24
  go_wp2_with fail
  go_region_held3 (fun w' => w'.cell? ⟨g, 9, none⟩ = some (.int .i64 5) ∧ w'.cell? ⟨g, 7, none⟩ = some (.int .i64 4)) (first | exact ⟨c1, c3⟩ | (simp [*]; done)) ((go_at_call 25; refine (compare_gt _ _ (by omega) _).mono ?_; rintro e w' ⟨rfl, rfl⟩))
  go_wp2
  go_ret
  exact ⟨rfl, rfl, rfl, rfl, rfl⟩
theorem run_index9 (w : World) : (Instr.index 9 (.string { data := (([0, 1, 2, 2, 3, 3, 3, 3, 4, 4, 4, 4, 4, 4, 4, 4, 5, 5, 5, 5, 5, 5, 5, 5, 5, 5, 5, 5, 5, 5, 5, 5, 6, 6, 6, 6, 6, 6, 6, 6, 6, 6, 6, 6, 6, 6, 6, 6, 6, 6, 6, 6, 6, 6, 6, 6, 6, 6, 6, 6, 6, 6, 6, 6].append [7, 7, 7, 7, 7, 7, 7, 7, 7, 7, 7, 7, 7, 7, 7, 7, 7, 7, 7, 7, 7, 7, 7, 7, 7, 7, 7, 7, 7, 7, 7, 7, 7, 7, 7, 7, 7, 7, 7, 7, 7, 7, 7, 7, 7, 7, 7, 7, 7, 7, 7, 7, 7, 7, 7, 7, 7, 7, 7, 7, 7, 7, 7, 7]).append ([8, 8, 8, 8, 8, 8, 8, 8, 8, 8, 8, 8, 8, 8, 8, 8, 8, 8, 8, 8, 8, 8, 8, 8, 8, 8, 8, 8, 8, 8, 8, 8, 8, 8, 8, 8, 8, 8, 8, 8, 8, 8, 8, 8, 8, 8, 8, 8, 8, 8, 8, 8, 8, 8, 8, 8, 8, 8, 8, 8, 8, 8, 8, 8].append [8, 8, 8, 8, 8, 8, 8, 8, 8, 8, 8, 8, 8, 8, 8, 8, 8, 8, 8, 8, 8, 8, 8, 8, 8, 8, 8, 8, 8, 8, 8, 8, 8, 8, 8, 8, 8, 8, 8, 8, 8, 8, 8, 8, 8, 8, 8, 8, 8, 8, 8, 8, 8, 8, 8, 8, 8, 8, 8, 8, 8, 8, 8, 8])).toArray }) (.int .u8 5)).run Tryd.prog w = .ok (.int .u8 3) w := by kernel_rfl
set_option maxRecDepth 100000 in
set_option maxHeartbeats 1000000 in
theorem len64_5 (w : World) : Calls Tryd.prog 49 #[.int .u64 5] w fun e w' => e = .returned (.int .i64 3) ∧ w' = w := by
  have hx := run_index9
  go_enter Tryd.func49, Tryd.ntmps49
  go_wp2
  go_ret
  exact ⟨by kernel_rfl, rfl⟩
set_option maxRecDepth 100000 in
set_option maxHeartbeats 1000000 in
theorem len_5 (w : World) : Calls Tryd.prog 36 #[.int .u64 5] w fun e w' => e = .returned (.int .i64 3) ∧ w' = w := by
  go_enter Tryd.func36, Tryd.ntmps36
  go_wp2_with (go_at_call 49; refine (len64_5 _).mono ?_; rintro e w' ⟨rfl, rfl⟩)
  go_ret
  exact ⟨rfl, rfl⟩
/-- The numbers that are sorted, and the five. -/
def Data (w wr : World) (g ga : Nat) (l : List Int) : Prop := wr.heap[g]? = some (.cells (ints l).toArray 3 (0, 0)) ∧ AllAt wr ga ∧ w.grownBy wr (some g)
theorem Data.quiet {w a b : World} {g ga : Nat} {l : List Int} (h : Data w a g ga l) (q : Quiet a b) : Data w b g ga l :=
  ⟨by rw [q.2.2.2]; exact h.1, by unfold AllAt; rw [q.2.2.2]; exact h.2.1, grown_trans h.2.2 (quiet_grown q _)⟩
theorem Data.set {w a : World} {g ga : Nat} {l l' : List Int} (h : Data w a g ga l) (i : Nat) (v : Value) (he : (ints l).toArray.setIfInBounds i v = (ints l').toArray) : Data w (a.setCell ⟨g, i, none⟩ v) g ga l' := by
  have hne : ga ≠ g := by
    intro e
    have h1 := h.1
    have h2 := h.2.1
    unfold AllAt at h2
    rw [e, h1] at h2
    simp at h2
  exact ⟨by rw [← he]; exact block_set h.1 i v, grown_keep (grown_set a g i v) h.2.1 (by simpa using hne), grown_trans h.2.2 (grown_set _ _ _ _)⟩
theorem Data.swap {w a : World} {g ga : Nat} (h : Data w a g ga [0, 1, 2, 3, 4]) : Data w ((a.setCell ⟨g, 2, none⟩ (.int .i64 1)).setCell ⟨g, 1, none⟩ (.int .i64 2)).drew g ga [0, 2, 1, 3, 4] :=
  Data.quiet (Data.set (l := [0, 1, 1, 3, 4]) (h.set 2 _ rfl) 1 _ rfl) ⟨rfl, rfl, rfl, rfl⟩
set_option maxRecDepth 100000 in
set_option maxHeartbeats 2000000 in
theorem sort_any (g ga : Nat) (w : World) (h : Data w w g ga [0, 1, 2, 3, 4]) : Calls Tryd.prog 40 #[.slice (some ⟨g, 0, none⟩) 5 5, .int .i64 0, .int .i64 5, .func (.func 24) #[] #[.pointer (some ⟨ga, 0, none⟩)]] w fun e w' => e = .returned (.tuple #[]) ∧ Data w w' g ga [0, 2, 1, 3, 4] := by
  have H : Hid (Data w w g ga [0, 1, 2, 3, 4]) := h
  clear h
  go_enter Tryd.func40, Tryd.ntmps40
  go_wp2_with fail
  go_loopw [8] (fun i wr => (i = .int .i64 1 ∧ Data w wr g ga [0, 1, 2, 3, 4]) ∨ (i = .int .i64 2 ∧ Data w wr g ga [0, 1, 2, 3, 4]) ∨ (i = .int .i64 3 ∧ Data w wr g ga [0, 2, 1, 3, 4]) ∨ (i = .int .i64 4 ∧ Data w wr g ga [0, 2, 1, 3, 4]) ∨ (i = .int .i64 5 ∧ Data w wr g ga [0, 2, 1, 3, 4])) (fun i _ => 5 - (intOf i).toNat)
  case atStart => exact Or.inl ⟨rfl, H.out⟩
  case round =>
    clear H
    rcases hrel with ⟨rfl, D⟩ | ⟨rfl, D⟩ | ⟨rfl, D⟩ | ⟨rfl, D⟩ | ⟨rfl, D⟩
    · obtain ⟨wz, hz⟩ : ∃ wz, wz = wr := ⟨_, rfl⟩
      subst hz
      go_wp2_with fail
      go_loopw [9] (fun j wr2 => j = .int .i64 1 ∧ Data w wr2 g ga [0, 1, 2, 3, 4]) (fun _ _ => 0)
      case atStart => exact ⟨rfl, D⟩
      case round =>
        clear D
        obtain ⟨rfl, D⟩ := hrel
        have d1 : wr.cell? ⟨g, 1, none⟩ = some (.int .i64 1) := block_cell D.1 1
        have d0 : wr.cell? ⟨g, 0, none⟩ = some (.int .i64 0) := block_cell D.1 0
        have hv1 : IntKind.i64.wrap (1 - 1) = 0 := by decide
        have hv2 : IntKind.i64.wrap 0 = 0 := by decide
        have HD : Hid (Data w wr g ga [0, 1, 2, 3, 4]) := D
        clear D
        go_wp2_with fail
        go_region_held3 (fun w' => w'.cell? ⟨g, 1, none⟩ = some (.int .i64 1) ∧ w'.cell? ⟨g, 0, none⟩ = some (.int .i64 0)) (first | exact ⟨d1, d0⟩ | exact S3 | (simp [*]; done)) ((go_at_call 24; refine (clo_10 ga _ (by exact HD.out.2.1)).mono ?_; rintro e w3 ⟨rfl, q3⟩; have D3 : Data w w3 g ga [0, 1, 2, 3, 4] := HD.out.quiet ⟨q3.1, q3.2.1, q3.2.2.1, q3.2.2.2⟩; have S3 : w3.cell? ⟨g, 1, none⟩ = some (.int .i64 1) ∧ w3.cell? ⟨g, 0, none⟩ = some (.int .i64 0) := ⟨block_cell D3.1 1, block_cell D3.1 0⟩; clear q3))
        go_wp2
        go_roundw
        case rel => exact Or.inr (Or.inl ⟨rfl, by exact D3⟩)
        case measure => decide
    · obtain ⟨wz, hz⟩ : ∃ wz, wz = wr := ⟨_, rfl⟩
      subst hz
      go_wp2_with fail
      go_loopw [9] (fun j wr2 => (j = .int .i64 2 ∧ Data w wr2 g ga [0, 1, 2, 3, 4]) ∨ (j = .int .i64 1 ∧ Data w wr2 g ga [0, 2, 1, 3, 4])) (fun j _ => (intOf j).toNat)
      case atStart => exact Or.inl ⟨rfl, D⟩
      case round =>
        clear D
        rcases hrel with ⟨rfl, D⟩ | ⟨rfl, D⟩
        · 
          have d1 : wr.cell? ⟨g, 2, none⟩ = some (.int .i64 2) := block_cell D.1 2
          have d0 : wr.cell? ⟨g, 1, none⟩ = some (.int .i64 1) := block_cell D.1 1
          have hv1 : IntKind.i64.wrap (2 - 1) = 1 := by decide
          have hv2 : IntKind.i64.wrap 1 = 1 := by decide
          have HD : Hid (Data w wr g ga [0, 1, 2, 3, 4]) := D
          clear D
          go_wp2_with fail
          go_region_held3 (fun w' => w'.cell? ⟨g, 2, none⟩ = some (.int .i64 2) ∧ w'.cell? ⟨g, 1, none⟩ = some (.int .i64 1)) (first | exact ⟨d1, d0⟩ | exact S3 | (simp [*]; done)) ((go_at_call 24; refine (clo_21 ga _ (by exact HD.out.2.1)).mono ?_; rintro e w3 ⟨rfl, q3⟩; have D3 : Data w w3 g ga [0, 1, 2, 3, 4] := HD.out.quiet ⟨q3.1, q3.2.1, q3.2.2.1, q3.2.2.2⟩; have S3 : w3.cell? ⟨g, 2, none⟩ = some (.int .i64 2) ∧ w3.cell? ⟨g, 1, none⟩ = some (.int .i64 1) := ⟨block_cell D3.1 2, block_cell D3.1 1⟩; clear q3))
          go_wp2_with fail
          obtain ⟨e1, e0⟩ := S3
          have f3 := block_free D3.1
          have HD3 : Hid (Data w w3 g ga [0, 1, 2, 3, 4]) := D3
          clear D3
          go_region
          go_wp2
          go_roundw
          case rel => exact Or.inr ⟨rfl, HD3.out.swap⟩
          case measure => decide
        · 
          have d1 : wr.cell? ⟨g, 1, none⟩ = some (.int .i64 2) := block_cell D.1 1
          have d0 : wr.cell? ⟨g, 0, none⟩ = some (.int .i64 0) := block_cell D.1 0
          have hv1 : IntKind.i64.wrap (1 - 1) = 0 := by decide
          have hv2 : IntKind.i64.wrap 0 = 0 := by decide
          have HD : Hid (Data w wr g ga [0, 2, 1, 3, 4]) := D
          clear D
          go_wp2_with fail
          go_region_held3 (fun w' => w'.cell? ⟨g, 1, none⟩ = some (.int .i64 2) ∧ w'.cell? ⟨g, 0, none⟩ = some (.int .i64 0)) (first | exact ⟨d1, d0⟩ | exact S3 | (simp [*]; done)) ((go_at_call 24; refine (clo_20 ga _ (by exact HD.out.2.1)).mono ?_; rintro e w3 ⟨rfl, q3⟩; have D3 : Data w w3 g ga [0, 2, 1, 3, 4] := HD.out.quiet ⟨q3.1, q3.2.1, q3.2.2.1, q3.2.2.2⟩; have S3 : w3.cell? ⟨g, 1, none⟩ = some (.int .i64 2) ∧ w3.cell? ⟨g, 0, none⟩ = some (.int .i64 0) := ⟨block_cell D3.1 1, block_cell D3.1 0⟩; clear q3))
          go_wp2
          go_roundw
          case rel => exact Or.inr (Or.inr (Or.inl ⟨rfl, by exact D3⟩))
          case measure => decide
    · obtain ⟨wz, hz⟩ : ∃ wz, wz = wr := ⟨_, rfl⟩
      subst hz
      go_wp2_with fail
      go_loopw [9] (fun j wr2 => j = .int .i64 3 ∧ Data w wr2 g ga [0, 2, 1, 3, 4]) (fun _ _ => 0)
      case atStart => exact ⟨rfl, D⟩
      case round =>
        clear D
        obtain ⟨rfl, D⟩ := hrel
        have d1 : wr.cell? ⟨g, 3, none⟩ = some (.int .i64 3) := block_cell D.1 3
        have d0 : wr.cell? ⟨g, 2, none⟩ = some (.int .i64 1) := block_cell D.1 2
        have hv1 : IntKind.i64.wrap (3 - 1) = 2 := by decide
        have hv2 : IntKind.i64.wrap 2 = 2 := by decide
        have HD : Hid (Data w wr g ga [0, 2, 1, 3, 4]) := D
        clear D
        go_wp2_with fail
        go_region_held3 (fun w' => w'.cell? ⟨g, 3, none⟩ = some (.int .i64 3) ∧ w'.cell? ⟨g, 2, none⟩ = some (.int .i64 1)) (first | exact ⟨d1, d0⟩ | exact S3 | (simp [*]; done)) ((go_at_call 24; refine (clo_31 ga _ (by exact HD.out.2.1)).mono ?_; rintro e w3 ⟨rfl, q3⟩; have D3 : Data w w3 g ga [0, 2, 1, 3, 4] := HD.out.quiet ⟨q3.1, q3.2.1, q3.2.2.1, q3.2.2.2⟩; have S3 : w3.cell? ⟨g, 3, none⟩ = some (.int .i64 3) ∧ w3.cell? ⟨g, 2, none⟩ = some (.int .i64 1) := ⟨block_cell D3.1 3, block_cell D3.1 2⟩; clear q3))
        go_wp2
        go_roundw
        case rel => exact Or.inr (Or.inr (Or.inr (Or.inl ⟨rfl, by exact D3⟩)))
        case measure => decide
    · obtain ⟨wz, hz⟩ : ∃ wz, wz = wr := ⟨_, rfl⟩
      subst hz
      go_wp2_with fail
      go_loopw [9] (fun j wr2 => j = .int .i64 4 ∧ Data w wr2 g ga [0, 2, 1, 3, 4]) (fun _ _ => 0)
      case atStart => exact ⟨rfl, D⟩
      case round =>
        clear D
        obtain ⟨rfl, D⟩ := hrel
        have d1 : wr.cell? ⟨g, 4, none⟩ = some (.int .i64 4) := block_cell D.1 4
        have d0 : wr.cell? ⟨g, 3, none⟩ = some (.int .i64 3) := block_cell D.1 3
        have hv1 : IntKind.i64.wrap (4 - 1) = 3 := by decide
        have hv2 : IntKind.i64.wrap 3 = 3 := by decide
        have HD : Hid (Data w wr g ga [0, 2, 1, 3, 4]) := D
        clear D
        go_wp2_with fail
        go_region_held3 (fun w' => w'.cell? ⟨g, 4, none⟩ = some (.int .i64 4) ∧ w'.cell? ⟨g, 3, none⟩ = some (.int .i64 3)) (first | exact ⟨d1, d0⟩ | exact S3 | (simp [*]; done)) ((go_at_call 24; refine (clo_43 ga _ (by exact HD.out.2.1)).mono ?_; rintro e w3 ⟨rfl, q3⟩; have D3 : Data w w3 g ga [0, 2, 1, 3, 4] := HD.out.quiet ⟨q3.1, q3.2.1, q3.2.2.1, q3.2.2.2⟩; have S3 : w3.cell? ⟨g, 4, none⟩ = some (.int .i64 4) ∧ w3.cell? ⟨g, 3, none⟩ = some (.int .i64 3) := ⟨block_cell D3.1 4, block_cell D3.1 3⟩; clear q3))
        go_wp2
        go_roundw
        case rel => exact Or.inr (Or.inr (Or.inr (Or.inr (⟨rfl, by exact D3⟩))))
        case measure => decide
    · go_wp2
      go_end0
      exact ⟨rfl, D⟩
/-- The numbers behind k rounds. -/
def Filled (w wr : World) (g ga : Nat) : Nat → Prop
  | 0 => Data w wr g ga [0, 0, 0, 0, 0]
  | 1 => Data w wr g ga [0, 0, 0, 0, 0]
  | 2 => Data w wr g ga [0, 1, 0, 0, 0]
  | 3 => Data w wr g ga [0, 1, 2, 0, 0]
  | 4 => Data w wr g ga [0, 1, 2, 3, 0]
  | 5 => Data w wr g ga [0, 1, 2, 3, 4]
  | _ => False
set_option maxRecDepth 100000 in
set_option maxHeartbeats 1000000 in
theorem pdq_any (g ga : Nat) (n : Int) (w : World) (h : Data w w g ga [0, 1, 2, 3, 4]) : Calls Tryd.prog 35 #[.slice (some ⟨g, 0, none⟩) 5 5, .int .i64 0, .int .i64 5, .int .i64 n, .func (.func 24) #[] #[.pointer (some ⟨ga, 0, none⟩)]] w fun e w' => e = .returned (.tuple #[]) ∧ Data w w' g ga [0, 2, 1, 3, 4] := by
  have H : Hid (Data w w g ga [0, 1, 2, 3, 4]) := h
  clear h
  go_enter Tryd.func35, Tryd.ntmps35
  go_wp2_with fail
  go_loopw [1, 2] (fun a b wr => a = .int .i64 0 ∧ b = .int .i64 5 ∧ wr = w) (fun _ _ _ => 0)
  case atStart => exact ⟨rfl, rfl, rfl⟩
  case round =>
    obtain ⟨rfl, rfl, hw⟩ := hrel
    subst hw
    go_wp2_with fail
    refine (sort_any g ga _ H.out).mono ?_
    rintro e w1 ⟨rfl, D1⟩
    go_wp2
    refine bodyPost_ret (results_none rfl _ _ _) rfl ?_
    exact ⟨rfl, D1⟩
set_option maxRecDepth 100000 in
set_option maxHeartbeats 1000000 in
theorem sortFunc_any (g ga : Nat) (w : World) (h : Data w w g ga [0, 1, 2, 3, 4]) : Calls Tryd.prog 23 #[.slice (some ⟨g, 0, none⟩) 5 5, .func (.func 24) #[] #[.pointer (some ⟨ga, 0, none⟩)]] w fun e w' => e = .returned (.tuple #[]) ∧ Data w w' g ga [0, 2, 1, 3, 4] := by
  have H : Hid (Data w w g ga [0, 1, 2, 3, 4]) := h
  clear h
  go_enter Tryd.func23, Tryd.ntmps23
  go_wp2_with fail
  refine (len_5 _).mono ?_
  rintro e w1 ⟨rfl, rfl⟩
  go_wp2_with fail
  refine (pdq_any g ga _ _ H.out).mono ?_
  rintro e w2 ⟨rfl, D2⟩
  go_wp2
  go_end0
  exact ⟨rfl, D2⟩
theorem run_make31 (w : World) : (Instr.makeSlice 31 (.int .i64 5) (.int .i64 5)).run Tryd.prog w = .ok (.slice (some ⟨w.heap.size, 0, none⟩) 5 5) (w.alloc (.cells (ints [0, 0, 0, 0, 0]).toArray 3)) := by kernel_rfl
set_option maxRecDepth 100000 in
set_option maxHeartbeats 1000000 in
theorem order_any (w : World) : Calls Tryd.prog 10 #[] w fun e w' => ∃ g, e = .returned (.slice (some ⟨g, 0, none⟩) 5 5) ∧ w.heap.size ≤ g ∧ w'.heap[g]? = some (.cells (ints [0, 2, 1, 3, 4]).toArray 3 (0, 0)) ∧ w.grownBy w' none := by
  have hm := run_make31
  have hmf : ∀ (fn : Fn) (first cap : Array Value) (w : World), (Instr.makeFunc fn first cap).run Tryd.prog w = .ok (.func fn first cap) w := fun _ _ _ _ => rfl
  go_enter Tryd.func10, Tryd.ntmps10
  go_wp2_with fail
  refine (five_any _).mono ?_
  rintro e w1 ⟨rfl, g1⟩
  have HG1 : Hid (w.grownBy w1 none) := g1
  clear g1
  go_wp2_with fail
  have D0 : Data (w1.alloc (.cells #[.int .i64 3, .int .i64 1, .int .i64 2, .int .i64 3, .int .i64 7, .int .i64 2, .int .i64 11, .int .i64 4, .int .i64 18, .int .i64 5] 44)) ((w1.alloc (.cells #[.int .i64 3, .int .i64 1, .int .i64 2, .int .i64 3, .int .i64 7, .int .i64 2, .int .i64 11, .int .i64 4, .int .i64 18, .int .i64 5] 44)).alloc (.cells (ints [0, 0, 0, 0, 0]).toArray 3)) (w1.heap.size + 1) w1.heap.size [0, 0, 0, 0, 0] :=
    ⟨alloc_at' _ _ _ _ (by simp), grown_keep (World.grownBy_alloc _ _ none) (alloc_at _ _ _) (by simp), World.grownBy_alloc _ _ _⟩
  have HG2 : Hid (w.grownBy (w1.alloc (.cells #[.int .i64 3, .int .i64 1, .int .i64 2, .int .i64 3, .int .i64 7, .int .i64 2, .int .i64 11, .int .i64 4, .int .i64 18, .int .i64 5] 44)) none) := grown_push HG1.out _
  have hle : w.heap.size ≤ w1.heap.size := HG1.out.size
  clear hm
  go_loopw [8] (fun i wr => ∃ k : Nat, i = .int .i64 k ∧ Filled (w1.alloc (.cells #[.int .i64 3, .int .i64 1, .int .i64 2, .int .i64 3, .int .i64 7, .int .i64 2, .int .i64 11, .int .i64 4, .int .i64 18, .int .i64 5] 44)) wr (w1.heap.size + 1) w1.heap.size k) (fun i _ => 5 - (intOf i).toNat)
  case atStart => exact ⟨0, rfl, D0⟩
  case round =>
    clear D0
    obtain ⟨k, rfl, D⟩ := hrel
    match k, D with
    | 0, D =>
      have D : Data _ wr (w1.heap.size + 1) w1.heap.size [0, 0, 0, 0, 0] := D
      have c : wr.cell? ⟨w1.heap.size + 1, 0, none⟩ = some (.int .i64 0) := block_cell D.1 0
      have f := block_free D.1
      have HD : Hid (Data _ wr (w1.heap.size + 1) w1.heap.size [0, 0, 0, 0, 0]) := D
      clear D
      simp only [Int.cast_ofNat_Int]
      go_wp2
      go_roundw
      case rel => exact ⟨1, rfl, HD.out.set (l' := [0, 0, 0, 0, 0]) 0 _ rfl⟩
      case measure => decide
    | 1, D =>
      have D : Data _ wr (w1.heap.size + 1) w1.heap.size [0, 0, 0, 0, 0] := D
      have c : wr.cell? ⟨w1.heap.size + 1, 1, none⟩ = some (.int .i64 0) := block_cell D.1 1
      have f := block_free D.1
      have HD : Hid (Data _ wr (w1.heap.size + 1) w1.heap.size [0, 0, 0, 0, 0]) := D
      clear D
      simp only [Int.cast_ofNat_Int]
      go_wp2
      go_roundw
      case rel => exact ⟨2, rfl, HD.out.set (l' := [0, 1, 0, 0, 0]) 1 _ rfl⟩
      case measure => decide
    | 2, D =>
      have D : Data _ wr (w1.heap.size + 1) w1.heap.size [0, 1, 0, 0, 0] := D
      have c : wr.cell? ⟨w1.heap.size + 1, 2, none⟩ = some (.int .i64 0) := block_cell D.1 2
      have f := block_free D.1
      have HD : Hid (Data _ wr (w1.heap.size + 1) w1.heap.size [0, 1, 0, 0, 0]) := D
      clear D
      simp only [Int.cast_ofNat_Int]
      go_wp2
      go_roundw
      case rel => exact ⟨3, rfl, HD.out.set (l' := [0, 1, 2, 0, 0]) 2 _ rfl⟩
      case measure => decide
    | 3, D =>
      have D : Data _ wr (w1.heap.size + 1) w1.heap.size [0, 1, 2, 0, 0] := D
      have c : wr.cell? ⟨w1.heap.size + 1, 3, none⟩ = some (.int .i64 0) := block_cell D.1 3
      have f := block_free D.1
      have HD : Hid (Data _ wr (w1.heap.size + 1) w1.heap.size [0, 1, 2, 0, 0]) := D
      clear D
      simp only [Int.cast_ofNat_Int]
      go_wp2
      go_roundw
      case rel => exact ⟨4, rfl, HD.out.set (l' := [0, 1, 2, 3, 0]) 3 _ rfl⟩
      case measure => decide
    | 4, D =>
      have D : Data _ wr (w1.heap.size + 1) w1.heap.size [0, 1, 2, 3, 0] := D
      have c : wr.cell? ⟨w1.heap.size + 1, 4, none⟩ = some (.int .i64 0) := block_cell D.1 4
      have f := block_free D.1
      have HD : Hid (Data _ wr (w1.heap.size + 1) w1.heap.size [0, 1, 2, 3, 0]) := D
      clear D
      simp only [Int.cast_ofNat_Int]
      go_wp2
      go_roundw
      case rel => exact ⟨5, rfl, HD.out.set (l' := [0, 1, 2, 3, 4]) 4 _ rfl⟩
      case measure => decide
    | 5, D =>
      have D : Data _ wr (w1.heap.size + 1) w1.heap.size [0, 1, 2, 3, 4] := D
      simp only [Int.cast_ofNat_Int]
      go_wp2_with fail
      refine (sortFunc_any (w1.heap.size + 1) w1.heap.size _ ⟨D.1, D.2.1, grown_refl _ _⟩).mono ?_
      rintro e w2 ⟨rfl, D2⟩
      go_wp2
      go_ret
      refine ⟨_, rfl, by omega, D2.1, ?_⟩
      exact grown_own (grown_own HG2.out D.2.2 (fun x hx => by cases hx; omega)) D2.2.2 (fun x hx => by cases hx; omega)
    | n + 6, D => exact False.elim D
end Go.Proofs.YteigfndahedleaaDoor
