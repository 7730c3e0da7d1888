/-
  What rank.Place and the document's own tell of any value.
-/
import Derived.Test.YteigfndahedleaaDoorRank2
namespace Go.Proofs.YteigfndahedleaaDoor
open Go.RowKit

def pI (x : Int) : Int := if x < 2 then 0 else if x = 2 then 1 else if x ≤ 6 then 0 else if x ≤ 10 then 2 else if x ≤ 17 then 3 else 4
def pB (x : Int) : Bool := if x < 2 then false else true
theorem place_cases (x : Int) : x < 2 ∨ x = 2 ∨ (3 ≤ x ∧ x ≤ 6) ∨ (7 ≤ x ∧ x ≤ 10) ∨ (11 ≤ x ∧ x ≤ 17) ∨ 18 ≤ x := by omega
def St_lt2 (p v f i : Value) : Prop := (p = .int .i64 0 ∧ v = .int .i64 0 ∧ f = .bool false ∧ i = .int .i64 0) ∨ (p = .int .i64 0 ∧ v = .int .i64 0 ∧ f = .bool false ∧ i = .int .i64 1) ∨ (p = .int .i64 0 ∧ v = .int .i64 0 ∧ f = .bool false ∧ i = .int .i64 2) ∨ (p = .int .i64 0 ∧ v = .int .i64 0 ∧ f = .bool false ∧ i = .int .i64 3) ∨ (p = .int .i64 0 ∧ v = .int .i64 0 ∧ f = .bool false ∧ i = .int .i64 4) ∨ (p = .int .i64 0 ∧ v = .int .i64 0 ∧ f = .bool false ∧ i = .int .i64 5)
set_option maxRecDepth 100000 in
set_option maxHeartbeats 1000000 in
theorem place_lt2 (x : Int) (h : x < 2) (w : World) : Calls Tryd.prog 7 #[.int .i64 x] w fun e w' => e = .returned (.tuple #[.int .i64 0, .bool false]) ∧ w.grownBy w' none := by
  have n3 : ¬ ((3 : Int) ≤ x) := by omega
  have n2 : ¬ ((2 : Int) ≤ x) := by omega
  have n7 : ¬ ((7 : Int) ≤ x) := by omega
  have n11 : ¬ ((11 : Int) ≤ x) := by omega
  have n18 : ¬ ((18 : Int) ≤ x) := by omega
  clear h
  have i0 := index0
  have i1 := index1
  have i2 := index2
  have i3 := index3
  have i4 := index4
  go_enter Tryd.func7, Tryd.ntmps7
  go_wp2_with fail
  refine (five_any _).mono ?_
  rintro e w1 ⟨rfl, g1⟩
  go_wp2_with fail
  go_loopw [4, 5, 6, 10] (fun p v f i wr => St_lt2 p v f i ∧ w.grownBy wr none) (fun _ _ _ i _ => 5 - (intOf i).toNat)
  case atStart => exact ⟨Or.inl ⟨rfl, rfl, rfl, rfl⟩, g1⟩
  case round =>
    clear g1
    obtain ⟨hs, G⟩ := hrel
    rcases hs with ⟨rfl, rfl, rfl, rfl⟩ | ⟨rfl, rfl, rfl, rfl⟩ | ⟨rfl, rfl, rfl, rfl⟩ | ⟨rfl, rfl, rfl, rfl⟩ | ⟨rfl, rfl, rfl, rfl⟩ | ⟨rfl, rfl, rfl, rfl⟩
    · go_wp2
      go_roundw
      case rel => exact ⟨Or.inr (Or.inl ⟨rfl, rfl, rfl, rfl⟩), grown_push G _⟩
      case measure => decide
    · go_wp2
      go_roundw
      case rel => exact ⟨Or.inr (Or.inr (Or.inl ⟨rfl, rfl, rfl, rfl⟩)), grown_push G _⟩
      case measure => decide
    · go_wp2
      go_roundw
      case rel => exact ⟨Or.inr (Or.inr (Or.inr (Or.inl ⟨rfl, rfl, rfl, rfl⟩))), grown_push G _⟩
      case measure => decide
    · go_wp2
      go_roundw
      case rel => exact ⟨Or.inr (Or.inr (Or.inr (Or.inr (Or.inl ⟨rfl, rfl, rfl, rfl⟩)))), grown_push G _⟩
      case measure => decide
    · go_wp2
      go_roundw
      case rel => exact ⟨Or.inr (Or.inr (Or.inr (Or.inr (Or.inr (⟨rfl, rfl, rfl, rfl⟩))))), grown_push G _⟩
      case measure => decide
    · go_wp2
      go_ret2
      exact ⟨rfl, G⟩
def Rt_lt2 (p i : Value) : Prop := (p = .int .i64 (-1) ∧ i = .int .i64 0) ∨ (p = .int .i64 (-1) ∧ i = .int .i64 1) ∨ (p = .int .i64 (-1) ∧ i = .int .i64 2) ∨ (p = .int .i64 (-1) ∧ i = .int .i64 3) ∨ (p = .int .i64 (-1) ∧ i = .int .i64 4) ∨ (p = .int .i64 (-1) ∧ i = .int .i64 5)
set_option maxRecDepth 100000 in
set_option maxHeartbeats 1000000 in
theorem rplace_lt2 (x : Int) (h : x < 2) (w : World) : Calls Tryd.prog 13 #[.int .i64 x] w fun e w' => e = .returned (.tuple #[.int .i64 0, .bool false]) ∧ w' = w := by
  have n3 : ¬ ((3 : Int) ≤ x) := by omega
  have n2 : ¬ ((2 : Int) ≤ x) := by omega
  have n7 : ¬ ((7 : Int) ≤ x) := by omega
  have n11 : ¬ ((11 : Int) ≤ x) := by omega
  have n18 : ¬ ((18 : Int) ≤ x) := by omega
  clear h
  go_enter Tryd.func13, Tryd.ntmps13
  go_wp2_with fail
  go_loop [4, 5] (fun p i => Rt_lt2 p i) (fun _ i => 5 - (intOf i).toNat)
  case atStart => exact Or.inl ⟨rfl, rfl⟩
  case round =>
    rcases hrel with ⟨rfl, rfl⟩ | ⟨rfl, rfl⟩ | ⟨rfl, rfl⟩ | ⟨rfl, rfl⟩ | ⟨rfl, rfl⟩ | ⟨rfl, rfl⟩
    · go_wp2_with fail
      refine (rv0 _).mono ?_
      rintro e w1 ⟨rfl, rfl⟩
      go_wp2
      go_round
      case rel => exact Or.inr (Or.inl ⟨rfl, rfl⟩)
      case measure => decide
    · go_wp2_with fail
      refine (rv1 _).mono ?_
      rintro e w1 ⟨rfl, rfl⟩
      go_wp2
      go_round
      case rel => exact Or.inr (Or.inr (Or.inl ⟨rfl, rfl⟩))
      case measure => decide
    · go_wp2_with fail
      refine (rv2 _).mono ?_
      rintro e w1 ⟨rfl, rfl⟩
      go_wp2
      go_round
      case rel => exact Or.inr (Or.inr (Or.inr (Or.inl ⟨rfl, rfl⟩)))
      case measure => decide
    · go_wp2_with fail
      refine (rv3 _).mono ?_
      rintro e w1 ⟨rfl, rfl⟩
      go_wp2
      go_round
      case rel => exact Or.inr (Or.inr (Or.inr (Or.inr (Or.inl ⟨rfl, rfl⟩))))
      case measure => decide
    · go_wp2_with fail
      refine (rv4 _).mono ?_
      rintro e w1 ⟨rfl, rfl⟩
      go_wp2
      go_round
      case rel => exact Or.inr (Or.inr (Or.inr (Or.inr (Or.inr (⟨rfl, rfl⟩)))))
      case measure => decide
    · go_wp2
      go_ret2
      exact ⟨rfl, rfl⟩
def St_at2 (p v f i : Value) : Prop := (p = .int .i64 0 ∧ v = .int .i64 0 ∧ f = .bool false ∧ i = .int .i64 0) ∨ (p = .int .i64 0 ∧ v = .int .i64 0 ∧ f = .bool false ∧ i = .int .i64 1) ∨ (p = .int .i64 1 ∧ v = .int .i64 2 ∧ f = .bool true ∧ i = .int .i64 2) ∨ (p = .int .i64 1 ∧ v = .int .i64 2 ∧ f = .bool true ∧ i = .int .i64 3) ∨ (p = .int .i64 1 ∧ v = .int .i64 2 ∧ f = .bool true ∧ i = .int .i64 4) ∨ (p = .int .i64 1 ∧ v = .int .i64 2 ∧ f = .bool true ∧ i = .int .i64 5)
set_option maxRecDepth 100000 in
set_option maxHeartbeats 1000000 in
theorem place_at2 (x : Int) (h : x = 2) (w : World) : Calls Tryd.prog 7 #[.int .i64 x] w fun e w' => e = .returned (.tuple #[.int .i64 1, .bool true]) ∧ w.grownBy w' none := by
  have n3 : ¬ ((3 : Int) ≤ x) := by omega
  have y2 : (2 : Int) ≤ x := by omega
  have n7 : ¬ ((7 : Int) ≤ x) := by omega
  have n11 : ¬ ((11 : Int) ≤ x) := by omega
  have n18 : ¬ ((18 : Int) ≤ x) := by omega
  clear h
  have i0 := index0
  have i1 := index1
  have i2 := index2
  have i3 := index3
  have i4 := index4
  go_enter Tryd.func7, Tryd.ntmps7
  go_wp2_with fail
  refine (five_any _).mono ?_
  rintro e w1 ⟨rfl, g1⟩
  go_wp2_with fail
  go_loopw [4, 5, 6, 10] (fun p v f i wr => St_at2 p v f i ∧ w.grownBy wr none) (fun _ _ _ i _ => 5 - (intOf i).toNat)
  case atStart => exact ⟨Or.inl ⟨rfl, rfl, rfl, rfl⟩, g1⟩
  case round =>
    clear g1
    obtain ⟨hs, G⟩ := hrel
    rcases hs with ⟨rfl, rfl, rfl, rfl⟩ | ⟨rfl, rfl, rfl, rfl⟩ | ⟨rfl, rfl, rfl, rfl⟩ | ⟨rfl, rfl, rfl, rfl⟩ | ⟨rfl, rfl, rfl, rfl⟩ | ⟨rfl, rfl, rfl, rfl⟩
    · go_wp2
      go_roundw
      case rel => exact ⟨Or.inr (Or.inl ⟨rfl, rfl, rfl, rfl⟩), grown_push G _⟩
      case measure => decide
    · go_wp2
      go_quiet (fail)
      go_wp2
      go_roundw
      case rel => exact ⟨Or.inr (Or.inr (Or.inl ⟨rfl, rfl, rfl, rfl⟩)), grown_trans (grown_push G _) (grown_drewN _ _ _)⟩
      case measure => decide
    · go_wp2
      go_roundw
      case rel => exact ⟨Or.inr (Or.inr (Or.inr (Or.inl ⟨rfl, rfl, rfl, rfl⟩))), grown_push G _⟩
      case measure => decide
    · go_wp2
      go_roundw
      case rel => exact ⟨Or.inr (Or.inr (Or.inr (Or.inr (Or.inl ⟨rfl, rfl, rfl, rfl⟩)))), grown_push G _⟩
      case measure => decide
    · go_wp2
      go_roundw
      case rel => exact ⟨Or.inr (Or.inr (Or.inr (Or.inr (Or.inr (⟨rfl, rfl, rfl, rfl⟩))))), grown_push G _⟩
      case measure => decide
    · go_wp2
      go_ret2
      exact ⟨rfl, G⟩
def Rt_at2 (p i : Value) : Prop := (p = .int .i64 (-1) ∧ i = .int .i64 0) ∨ (p = .int .i64 (-1) ∧ i = .int .i64 1) ∨ (p = .int .i64 1 ∧ i = .int .i64 2) ∨ (p = .int .i64 1 ∧ i = .int .i64 3) ∨ (p = .int .i64 1 ∧ i = .int .i64 4) ∨ (p = .int .i64 1 ∧ i = .int .i64 5)
set_option maxRecDepth 100000 in
set_option maxHeartbeats 1000000 in
theorem rplace_at2 (x : Int) (h : x = 2) (w : World) : Calls Tryd.prog 13 #[.int .i64 x] w fun e w' => e = .returned (.tuple #[.int .i64 1, .bool true]) ∧ w' = w := by
  have n3 : ¬ ((3 : Int) ≤ x) := by omega
  have y2 : (2 : Int) ≤ x := by omega
  have n7 : ¬ ((7 : Int) ≤ x) := by omega
  have n11 : ¬ ((11 : Int) ≤ x) := by omega
  have n18 : ¬ ((18 : Int) ≤ x) := by omega
  clear h
  go_enter Tryd.func13, Tryd.ntmps13
  go_wp2_with fail
  go_loop [4, 5] (fun p i => Rt_at2 p i) (fun _ i => 5 - (intOf i).toNat)
  case atStart => exact Or.inl ⟨rfl, rfl⟩
  case round =>
    rcases hrel with ⟨rfl, rfl⟩ | ⟨rfl, rfl⟩ | ⟨rfl, rfl⟩ | ⟨rfl, rfl⟩ | ⟨rfl, rfl⟩ | ⟨rfl, rfl⟩
    · go_wp2_with fail
      refine (rv0 _).mono ?_
      rintro e w1 ⟨rfl, rfl⟩
      go_wp2
      go_round
      case rel => exact Or.inr (Or.inl ⟨rfl, rfl⟩)
      case measure => decide
    · go_wp2_with fail
      refine (rv1 _).mono ?_
      rintro e w1 ⟨rfl, rfl⟩
      go_wp2
      go_round
      case rel => exact Or.inr (Or.inr (Or.inl ⟨rfl, rfl⟩))
      case measure => decide
    · go_wp2_with fail
      refine (rv2 _).mono ?_
      rintro e w1 ⟨rfl, rfl⟩
      go_wp2
      go_round
      case rel => exact Or.inr (Or.inr (Or.inr (Or.inl ⟨rfl, rfl⟩)))
      case measure => decide
    · go_wp2_with fail
      refine (rv3 _).mono ?_
      rintro e w1 ⟨rfl, rfl⟩
      go_wp2
      go_round
      case rel => exact Or.inr (Or.inr (Or.inr (Or.inr (Or.inl ⟨rfl, rfl⟩))))
      case measure => decide
    · go_wp2_with fail
      refine (rv4 _).mono ?_
      rintro e w1 ⟨rfl, rfl⟩
      go_wp2
      go_round
      case rel => exact Or.inr (Or.inr (Or.inr (Or.inr (Or.inr (⟨rfl, rfl⟩)))))
      case measure => decide
    · go_wp2
      go_ret2
      exact ⟨rfl, rfl⟩
def St_at3 (p v f i : Value) : Prop := (p = .int .i64 0 ∧ v = .int .i64 0 ∧ f = .bool false ∧ i = .int .i64 0) ∨ (p = .int .i64 0 ∧ v = .int .i64 3 ∧ f = .bool true ∧ i = .int .i64 1) ∨ (p = .int .i64 0 ∧ v = .int .i64 3 ∧ f = .bool true ∧ i = .int .i64 2) ∨ (p = .int .i64 0 ∧ v = .int .i64 3 ∧ f = .bool true ∧ i = .int .i64 3) ∨ (p = .int .i64 0 ∧ v = .int .i64 3 ∧ f = .bool true ∧ i = .int .i64 4) ∨ (p = .int .i64 0 ∧ v = .int .i64 3 ∧ f = .bool true ∧ i = .int .i64 5)
set_option maxRecDepth 100000 in
set_option maxHeartbeats 1000000 in
theorem place_at3 (x : Int) (h : 3 ≤ x ∧ x ≤ 6) (w : World) : Calls Tryd.prog 7 #[.int .i64 x] w fun e w' => e = .returned (.tuple #[.int .i64 0, .bool true]) ∧ w.grownBy w' none := by
  have y3 : (3 : Int) ≤ x := by omega
  have y2 : (2 : Int) ≤ x := by omega
  have n7 : ¬ ((7 : Int) ≤ x) := by omega
  have n11 : ¬ ((11 : Int) ≤ x) := by omega
  have n18 : ¬ ((18 : Int) ≤ x) := by omega
  clear h
  have i0 := index0
  have i1 := index1
  have i2 := index2
  have i3 := index3
  have i4 := index4
  go_enter Tryd.func7, Tryd.ntmps7
  go_wp2_with fail
  refine (five_any _).mono ?_
  rintro e w1 ⟨rfl, g1⟩
  go_wp2_with fail
  go_loopw [4, 5, 6, 10] (fun p v f i wr => St_at3 p v f i ∧ w.grownBy wr none) (fun _ _ _ i _ => 5 - (intOf i).toNat)
  case atStart => exact ⟨Or.inl ⟨rfl, rfl, rfl, rfl⟩, g1⟩
  case round =>
    clear g1
    obtain ⟨hs, G⟩ := hrel
    rcases hs with ⟨rfl, rfl, rfl, rfl⟩ | ⟨rfl, rfl, rfl, rfl⟩ | ⟨rfl, rfl, rfl, rfl⟩ | ⟨rfl, rfl, rfl, rfl⟩ | ⟨rfl, rfl, rfl, rfl⟩ | ⟨rfl, rfl, rfl, rfl⟩
    · go_wp2
      go_quiet (fail)
      go_wp2
      go_roundw
      case rel => exact ⟨Or.inr (Or.inl ⟨rfl, rfl, rfl, rfl⟩), grown_trans (grown_push G _) (grown_drewN _ _ _)⟩
      case measure => decide
    · go_wp2
      go_roundw
      case rel => exact ⟨Or.inr (Or.inr (Or.inl ⟨rfl, rfl, rfl, rfl⟩)), grown_push G _⟩
      case measure => decide
    · go_wp2
      go_roundw
      case rel => exact ⟨Or.inr (Or.inr (Or.inr (Or.inl ⟨rfl, rfl, rfl, rfl⟩))), grown_push G _⟩
      case measure => decide
    · go_wp2
      go_roundw
      case rel => exact ⟨Or.inr (Or.inr (Or.inr (Or.inr (Or.inl ⟨rfl, rfl, rfl, rfl⟩)))), grown_push G _⟩
      case measure => decide
    · go_wp2
      go_roundw
      case rel => exact ⟨Or.inr (Or.inr (Or.inr (Or.inr (Or.inr (⟨rfl, rfl, rfl, rfl⟩))))), grown_push G _⟩
      case measure => decide
    · go_wp2
      go_ret2
      exact ⟨rfl, G⟩
def Rt_at3 (p i : Value) : Prop := (p = .int .i64 (-1) ∧ i = .int .i64 0) ∨ (p = .int .i64 0 ∧ i = .int .i64 1) ∨ (p = .int .i64 0 ∧ i = .int .i64 2) ∨ (p = .int .i64 0 ∧ i = .int .i64 3) ∨ (p = .int .i64 0 ∧ i = .int .i64 4) ∨ (p = .int .i64 0 ∧ i = .int .i64 5)
set_option maxRecDepth 100000 in
set_option maxHeartbeats 1000000 in
theorem rplace_at3 (x : Int) (h : 3 ≤ x ∧ x ≤ 6) (w : World) : Calls Tryd.prog 13 #[.int .i64 x] w fun e w' => e = .returned (.tuple #[.int .i64 0, .bool true]) ∧ w' = w := by
  have y3 : (3 : Int) ≤ x := by omega
  have y2 : (2 : Int) ≤ x := by omega
  have n7 : ¬ ((7 : Int) ≤ x) := by omega
  have n11 : ¬ ((11 : Int) ≤ x) := by omega
  have n18 : ¬ ((18 : Int) ≤ x) := by omega
  clear h
  go_enter Tryd.func13, Tryd.ntmps13
  go_wp2_with fail
  go_loop [4, 5] (fun p i => Rt_at3 p i) (fun _ i => 5 - (intOf i).toNat)
  case atStart => exact Or.inl ⟨rfl, rfl⟩
  case round =>
    rcases hrel with ⟨rfl, rfl⟩ | ⟨rfl, rfl⟩ | ⟨rfl, rfl⟩ | ⟨rfl, rfl⟩ | ⟨rfl, rfl⟩ | ⟨rfl, rfl⟩
    · go_wp2_with fail
      refine (rv0 _).mono ?_
      rintro e w1 ⟨rfl, rfl⟩
      go_wp2
      go_round
      case rel => exact Or.inr (Or.inl ⟨rfl, rfl⟩)
      case measure => decide
    · go_wp2_with fail
      refine (rv1 _).mono ?_
      rintro e w1 ⟨rfl, rfl⟩
      go_wp2_with fail
      refine (rv1 _).mono ?_
      rintro e w1 ⟨rfl, rfl⟩
      go_wp2_with fail
      refine (rv0 _).mono ?_
      rintro e w1 ⟨rfl, rfl⟩
      go_wp2
      go_round
      case rel => exact Or.inr (Or.inr (Or.inl ⟨rfl, rfl⟩))
      case measure => decide
    · go_wp2_with fail
      refine (rv2 _).mono ?_
      rintro e w1 ⟨rfl, rfl⟩
      go_wp2
      go_round
      case rel => exact Or.inr (Or.inr (Or.inr (Or.inl ⟨rfl, rfl⟩)))
      case measure => decide
    · go_wp2_with fail
      refine (rv3 _).mono ?_
      rintro e w1 ⟨rfl, rfl⟩
      go_wp2
      go_round
      case rel => exact Or.inr (Or.inr (Or.inr (Or.inr (Or.inl ⟨rfl, rfl⟩))))
      case measure => decide
    · go_wp2_with fail
      refine (rv4 _).mono ?_
      rintro e w1 ⟨rfl, rfl⟩
      go_wp2
      go_round
      case rel => exact Or.inr (Or.inr (Or.inr (Or.inr (Or.inr (⟨rfl, rfl⟩)))))
      case measure => decide
    · go_wp2
      go_ret2
      exact ⟨rfl, rfl⟩
def St_at7 (p v f i : Value) : Prop := (p = .int .i64 0 ∧ v = .int .i64 0 ∧ f = .bool false ∧ i = .int .i64 0) ∨ (p = .int .i64 0 ∧ v = .int .i64 3 ∧ f = .bool true ∧ i = .int .i64 1) ∨ (p = .int .i64 0 ∧ v = .int .i64 3 ∧ f = .bool true ∧ i = .int .i64 2) ∨ (p = .int .i64 2 ∧ v = .int .i64 7 ∧ f = .bool true ∧ i = .int .i64 3) ∨ (p = .int .i64 2 ∧ v = .int .i64 7 ∧ f = .bool true ∧ i = .int .i64 4) ∨ (p = .int .i64 2 ∧ v = .int .i64 7 ∧ f = .bool true ∧ i = .int .i64 5)
set_option maxRecDepth 100000 in
set_option maxHeartbeats 1000000 in
theorem place_at7 (x : Int) (h : 7 ≤ x ∧ x ≤ 10) (w : World) : Calls Tryd.prog 7 #[.int .i64 x] w fun e w' => e = .returned (.tuple #[.int .i64 2, .bool true]) ∧ w.grownBy w' none := by
  have y3 : (3 : Int) ≤ x := by omega
  have y2 : (2 : Int) ≤ x := by omega
  have y7 : (7 : Int) ≤ x := by omega
  have n11 : ¬ ((11 : Int) ≤ x) := by omega
  have n18 : ¬ ((18 : Int) ≤ x) := by omega
  clear h
  have i0 := index0
  have i1 := index1
  have i2 := index2
  have i3 := index3
  have i4 := index4
  go_enter Tryd.func7, Tryd.ntmps7
  go_wp2_with fail
  refine (five_any _).mono ?_
  rintro e w1 ⟨rfl, g1⟩
  go_wp2_with fail
  go_loopw [4, 5, 6, 10] (fun p v f i wr => St_at7 p v f i ∧ w.grownBy wr none) (fun _ _ _ i _ => 5 - (intOf i).toNat)
  case atStart => exact ⟨Or.inl ⟨rfl, rfl, rfl, rfl⟩, g1⟩
  case round =>
    clear g1
    obtain ⟨hs, G⟩ := hrel
    rcases hs with ⟨rfl, rfl, rfl, rfl⟩ | ⟨rfl, rfl, rfl, rfl⟩ | ⟨rfl, rfl, rfl, rfl⟩ | ⟨rfl, rfl, rfl, rfl⟩ | ⟨rfl, rfl, rfl, rfl⟩ | ⟨rfl, rfl, rfl, rfl⟩
    · go_wp2
      go_quiet (fail)
      go_wp2
      go_roundw
      case rel => exact ⟨Or.inr (Or.inl ⟨rfl, rfl, rfl, rfl⟩), grown_trans (grown_push G _) (grown_drewN _ _ _)⟩
      case measure => decide
    · go_wp2
      go_roundw
      case rel => exact ⟨Or.inr (Or.inr (Or.inl ⟨rfl, rfl, rfl, rfl⟩)), grown_push G _⟩
      case measure => decide
    · go_wp2
      go_quiet (fail)
      go_wp2
      go_roundw
      case rel => exact ⟨Or.inr (Or.inr (Or.inr (Or.inl ⟨rfl, rfl, rfl, rfl⟩))), grown_trans (grown_push G _) (grown_drewN _ _ _)⟩
      case measure => decide
    · go_wp2
      go_roundw
      case rel => exact ⟨Or.inr (Or.inr (Or.inr (Or.inr (Or.inl ⟨rfl, rfl, rfl, rfl⟩)))), grown_push G _⟩
      case measure => decide
    · go_wp2
      go_roundw
      case rel => exact ⟨Or.inr (Or.inr (Or.inr (Or.inr (Or.inr (⟨rfl, rfl, rfl, rfl⟩))))), grown_push G _⟩
      case measure => decide
    · go_wp2
      go_ret2
      exact ⟨rfl, G⟩
def Rt_at7 (p i : Value) : Prop := (p = .int .i64 (-1) ∧ i = .int .i64 0) ∨ (p = .int .i64 0 ∧ i = .int .i64 1) ∨ (p = .int .i64 0 ∧ i = .int .i64 2) ∨ (p = .int .i64 2 ∧ i = .int .i64 3) ∨ (p = .int .i64 2 ∧ i = .int .i64 4) ∨ (p = .int .i64 2 ∧ i = .int .i64 5)
set_option maxRecDepth 100000 in
set_option maxHeartbeats 1000000 in
theorem rplace_at7 (x : Int) (h : 7 ≤ x ∧ x ≤ 10) (w : World) : Calls Tryd.prog 13 #[.int .i64 x] w fun e w' => e = .returned (.tuple #[.int .i64 2, .bool true]) ∧ w' = w := by
  have y3 : (3 : Int) ≤ x := by omega
  have y2 : (2 : Int) ≤ x := by omega
  have y7 : (7 : Int) ≤ x := by omega
  have n11 : ¬ ((11 : Int) ≤ x) := by omega
  have n18 : ¬ ((18 : Int) ≤ x) := by omega
  clear h
  go_enter Tryd.func13, Tryd.ntmps13
  go_wp2_with fail
  go_loop [4, 5] (fun p i => Rt_at7 p i) (fun _ i => 5 - (intOf i).toNat)
  case atStart => exact Or.inl ⟨rfl, rfl⟩
  case round =>
    rcases hrel with ⟨rfl, rfl⟩ | ⟨rfl, rfl⟩ | ⟨rfl, rfl⟩ | ⟨rfl, rfl⟩ | ⟨rfl, rfl⟩ | ⟨rfl, rfl⟩
    · go_wp2_with fail
      refine (rv0 _).mono ?_
      rintro e w1 ⟨rfl, rfl⟩
      go_wp2
      go_round
      case rel => exact Or.inr (Or.inl ⟨rfl, rfl⟩)
      case measure => decide
    · go_wp2_with fail
      refine (rv1 _).mono ?_
      rintro e w1 ⟨rfl, rfl⟩
      go_wp2_with fail
      refine (rv1 _).mono ?_
      rintro e w1 ⟨rfl, rfl⟩
      go_wp2_with fail
      refine (rv0 _).mono ?_
      rintro e w1 ⟨rfl, rfl⟩
      go_wp2
      go_round
      case rel => exact Or.inr (Or.inr (Or.inl ⟨rfl, rfl⟩))
      case measure => decide
    · go_wp2_with fail
      refine (rv2 _).mono ?_
      rintro e w1 ⟨rfl, rfl⟩
      go_wp2_with fail
      refine (rv2 _).mono ?_
      rintro e w1 ⟨rfl, rfl⟩
      go_wp2_with fail
      refine (rv0 _).mono ?_
      rintro e w1 ⟨rfl, rfl⟩
      go_wp2
      go_round
      case rel => exact Or.inr (Or.inr (Or.inr (Or.inl ⟨rfl, rfl⟩)))
      case measure => decide
    · go_wp2_with fail
      refine (rv3 _).mono ?_
      rintro e w1 ⟨rfl, rfl⟩
      go_wp2
      go_round
      case rel => exact Or.inr (Or.inr (Or.inr (Or.inr (Or.inl ⟨rfl, rfl⟩))))
      case measure => decide
    · go_wp2_with fail
      refine (rv4 _).mono ?_
      rintro e w1 ⟨rfl, rfl⟩
      go_wp2
      go_round
      case rel => exact Or.inr (Or.inr (Or.inr (Or.inr (Or.inr (⟨rfl, rfl⟩)))))
      case measure => decide
    · go_wp2
      go_ret2
      exact ⟨rfl, rfl⟩
def St_at11 (p v f i : Value) : Prop := (p = .int .i64 0 ∧ v = .int .i64 0 ∧ f = .bool false ∧ i = .int .i64 0) ∨ (p = .int .i64 0 ∧ v = .int .i64 3 ∧ f = .bool true ∧ i = .int .i64 1) ∨ (p = .int .i64 0 ∧ v = .int .i64 3 ∧ f = .bool true ∧ i = .int .i64 2) ∨ (p = .int .i64 2 ∧ v = .int .i64 7 ∧ f = .bool true ∧ i = .int .i64 3) ∨ (p = .int .i64 3 ∧ v = .int .i64 11 ∧ f = .bool true ∧ i = .int .i64 4) ∨ (p = .int .i64 3 ∧ v = .int .i64 11 ∧ f = .bool true ∧ i = .int .i64 5)
set_option maxRecDepth 100000 in
set_option maxHeartbeats 1000000 in
theorem place_at11 (x : Int) (h : 11 ≤ x ∧ x ≤ 17) (w : World) : Calls Tryd.prog 7 #[.int .i64 x] w fun e w' => e = .returned (.tuple #[.int .i64 3, .bool true]) ∧ w.grownBy w' none := by
  have y3 : (3 : Int) ≤ x := by omega
  have y2 : (2 : Int) ≤ x := by omega
  have y7 : (7 : Int) ≤ x := by omega
  have y11 : (11 : Int) ≤ x := by omega
  have n18 : ¬ ((18 : Int) ≤ x) := by omega
  clear h
  have i0 := index0
  have i1 := index1
  have i2 := index2
  have i3 := index3
  have i4 := index4
  go_enter Tryd.func7, Tryd.ntmps7
  go_wp2_with fail
  refine (five_any _).mono ?_
  rintro e w1 ⟨rfl, g1⟩
  go_wp2_with fail
  go_loopw [4, 5, 6, 10] (fun p v f i wr => St_at11 p v f i ∧ w.grownBy wr none) (fun _ _ _ i _ => 5 - (intOf i).toNat)
  case atStart => exact ⟨Or.inl ⟨rfl, rfl, rfl, rfl⟩, g1⟩
  case round =>
    clear g1
    obtain ⟨hs, G⟩ := hrel
    rcases hs with ⟨rfl, rfl, rfl, rfl⟩ | ⟨rfl, rfl, rfl, rfl⟩ | ⟨rfl, rfl, rfl, rfl⟩ | ⟨rfl, rfl, rfl, rfl⟩ | ⟨rfl, rfl, rfl, rfl⟩ | ⟨rfl, rfl, rfl, rfl⟩
    · go_wp2
      go_quiet (fail)
      go_wp2
      go_roundw
      case rel => exact ⟨Or.inr (Or.inl ⟨rfl, rfl, rfl, rfl⟩), grown_trans (grown_push G _) (grown_drewN _ _ _)⟩
      case measure => decide
    · go_wp2
      go_roundw
      case rel => exact ⟨Or.inr (Or.inr (Or.inl ⟨rfl, rfl, rfl, rfl⟩)), grown_push G _⟩
      case measure => decide
    · go_wp2
      go_quiet (fail)
      go_wp2
      go_roundw
      case rel => exact ⟨Or.inr (Or.inr (Or.inr (Or.inl ⟨rfl, rfl, rfl, rfl⟩))), grown_trans (grown_push G _) (grown_drewN _ _ _)⟩
      case measure => decide
    · go_wp2
      go_quiet (fail)
      go_wp2
      go_roundw
      case rel => exact ⟨Or.inr (Or.inr (Or.inr (Or.inr (Or.inl ⟨rfl, rfl, rfl, rfl⟩)))), grown_trans (grown_push G _) (grown_drewN _ _ _)⟩
      case measure => decide
    · go_wp2
      go_roundw
      case rel => exact ⟨Or.inr (Or.inr (Or.inr (Or.inr (Or.inr (⟨rfl, rfl, rfl, rfl⟩))))), grown_push G _⟩
      case measure => decide
    · go_wp2
      go_ret2
      exact ⟨rfl, G⟩
def Rt_at11 (p i : Value) : Prop := (p = .int .i64 (-1) ∧ i = .int .i64 0) ∨ (p = .int .i64 0 ∧ i = .int .i64 1) ∨ (p = .int .i64 0 ∧ i = .int .i64 2) ∨ (p = .int .i64 2 ∧ i = .int .i64 3) ∨ (p = .int .i64 3 ∧ i = .int .i64 4) ∨ (p = .int .i64 3 ∧ i = .int .i64 5)
set_option maxRecDepth 100000 in
set_option maxHeartbeats 1000000 in
theorem rplace_at11 (x : Int) (h : 11 ≤ x ∧ x ≤ 17) (w : World) : Calls Tryd.prog 13 #[.int .i64 x] w fun e w' => e = .returned (.tuple #[.int .i64 3, .bool true]) ∧ w' = w := by
  have y3 : (3 : Int) ≤ x := by omega
  have y2 : (2 : Int) ≤ x := by omega
  have y7 : (7 : Int) ≤ x := by omega
  have y11 : (11 : Int) ≤ x := by omega
  have n18 : ¬ ((18 : Int) ≤ x) := by omega
  clear h
  go_enter Tryd.func13, Tryd.ntmps13
  go_wp2_with fail
  go_loop [4, 5] (fun p i => Rt_at11 p i) (fun _ i => 5 - (intOf i).toNat)
  case atStart => exact Or.inl ⟨rfl, rfl⟩
  case round =>
    rcases hrel with ⟨rfl, rfl⟩ | ⟨rfl, rfl⟩ | ⟨rfl, rfl⟩ | ⟨rfl, rfl⟩ | ⟨rfl, rfl⟩ | ⟨rfl, rfl⟩
    · go_wp2_with fail
      refine (rv0 _).mono ?_
      rintro e w1 ⟨rfl, rfl⟩
      go_wp2
      go_round
      case rel => exact Or.inr (Or.inl ⟨rfl, rfl⟩)
      case measure => decide
    · go_wp2_with fail
      refine (rv1 _).mono ?_
      rintro e w1 ⟨rfl, rfl⟩
      go_wp2_with fail
      refine (rv1 _).mono ?_
      rintro e w1 ⟨rfl, rfl⟩
      go_wp2_with fail
      refine (rv0 _).mono ?_
      rintro e w1 ⟨rfl, rfl⟩
      go_wp2
      go_round
      case rel => exact Or.inr (Or.inr (Or.inl ⟨rfl, rfl⟩))
      case measure => decide
    · go_wp2_with fail
      refine (rv2 _).mono ?_
      rintro e w1 ⟨rfl, rfl⟩
      go_wp2_with fail
      refine (rv2 _).mono ?_
      rintro e w1 ⟨rfl, rfl⟩
      go_wp2_with fail
      refine (rv0 _).mono ?_
      rintro e w1 ⟨rfl, rfl⟩
      go_wp2
      go_round
      case rel => exact Or.inr (Or.inr (Or.inr (Or.inl ⟨rfl, rfl⟩)))
      case measure => decide
    · go_wp2_with fail
      refine (rv3 _).mono ?_
      rintro e w1 ⟨rfl, rfl⟩
      go_wp2_with fail
      refine (rv3 _).mono ?_
      rintro e w1 ⟨rfl, rfl⟩
      go_wp2_with fail
      refine (rv2 _).mono ?_
      rintro e w1 ⟨rfl, rfl⟩
      go_wp2
      go_round
      case rel => exact Or.inr (Or.inr (Or.inr (Or.inr (Or.inl ⟨rfl, rfl⟩))))
      case measure => decide
    · go_wp2_with fail
      refine (rv4 _).mono ?_
      rintro e w1 ⟨rfl, rfl⟩
      go_wp2
      go_round
      case rel => exact Or.inr (Or.inr (Or.inr (Or.inr (Or.inr (⟨rfl, rfl⟩)))))
      case measure => decide
    · go_wp2
      go_ret2
      exact ⟨rfl, rfl⟩
def St_at18 (p v f i : Value) : Prop := (p = .int .i64 0 ∧ v = .int .i64 0 ∧ f = .bool false ∧ i = .int .i64 0) ∨ (p = .int .i64 0 ∧ v = .int .i64 3 ∧ f = .bool true ∧ i = .int .i64 1) ∨ (p = .int .i64 0 ∧ v = .int .i64 3 ∧ f = .bool true ∧ i = .int .i64 2) ∨ (p = .int .i64 2 ∧ v = .int .i64 7 ∧ f = .bool true ∧ i = .int .i64 3) ∨ (p = .int .i64 3 ∧ v = .int .i64 11 ∧ f = .bool true ∧ i = .int .i64 4) ∨ (p = .int .i64 4 ∧ v = .int .i64 18 ∧ f = .bool true ∧ i = .int .i64 5)
set_option maxRecDepth 100000 in
set_option maxHeartbeats 1000000 in
theorem place_at18 (x : Int) (h : 18 ≤ x) (w : World) : Calls Tryd.prog 7 #[.int .i64 x] w fun e w' => e = .returned (.tuple #[.int .i64 4, .bool true]) ∧ w.grownBy w' none := by
  have y3 : (3 : Int) ≤ x := by omega
  have y2 : (2 : Int) ≤ x := by omega
  have y7 : (7 : Int) ≤ x := by omega
  have y11 : (11 : Int) ≤ x := by omega
  have y18 : (18 : Int) ≤ x := by omega
  clear h
  have i0 := index0
  have i1 := index1
  have i2 := index2
  have i3 := index3
  have i4 := index4
  go_enter Tryd.func7, Tryd.ntmps7
  go_wp2_with fail
  refine (five_any _).mono ?_
  rintro e w1 ⟨rfl, g1⟩
  go_wp2_with fail
  go_loopw [4, 5, 6, 10] (fun p v f i wr => St_at18 p v f i ∧ w.grownBy wr none) (fun _ _ _ i _ => 5 - (intOf i).toNat)
  case atStart => exact ⟨Or.inl ⟨rfl, rfl, rfl, rfl⟩, g1⟩
  case round =>
    clear g1
    obtain ⟨hs, G⟩ := hrel
    rcases hs with ⟨rfl, rfl, rfl, rfl⟩ | ⟨rfl, rfl, rfl, rfl⟩ | ⟨rfl, rfl, rfl, rfl⟩ | ⟨rfl, rfl, rfl, rfl⟩ | ⟨rfl, rfl, rfl, rfl⟩ | ⟨rfl, rfl, rfl, rfl⟩
    · go_wp2
      go_quiet (fail)
      go_wp2
      go_roundw
      case rel => exact ⟨Or.inr (Or.inl ⟨rfl, rfl, rfl, rfl⟩), grown_trans (grown_push G _) (grown_drewN _ _ _)⟩
      case measure => decide
    · go_wp2
      go_roundw
      case rel => exact ⟨Or.inr (Or.inr (Or.inl ⟨rfl, rfl, rfl, rfl⟩)), grown_push G _⟩
      case measure => decide
    · go_wp2
      go_quiet (fail)
      go_wp2
      go_roundw
      case rel => exact ⟨Or.inr (Or.inr (Or.inr (Or.inl ⟨rfl, rfl, rfl, rfl⟩))), grown_trans (grown_push G _) (grown_drewN _ _ _)⟩
      case measure => decide
    · go_wp2
      go_quiet (fail)
      go_wp2
      go_roundw
      case rel => exact ⟨Or.inr (Or.inr (Or.inr (Or.inr (Or.inl ⟨rfl, rfl, rfl, rfl⟩)))), grown_trans (grown_push G _) (grown_drewN _ _ _)⟩
      case measure => decide
    · go_wp2
      go_quiet (fail)
      go_wp2
      go_roundw
      case rel => exact ⟨Or.inr (Or.inr (Or.inr (Or.inr (Or.inr (⟨rfl, rfl, rfl, rfl⟩))))), grown_trans (grown_push G _) (grown_drewN _ _ _)⟩
      case measure => decide
    · go_wp2
      go_ret2
      exact ⟨rfl, G⟩
def Rt_at18 (p i : Value) : Prop := (p = .int .i64 (-1) ∧ i = .int .i64 0) ∨ (p = .int .i64 0 ∧ i = .int .i64 1) ∨ (p = .int .i64 0 ∧ i = .int .i64 2) ∨ (p = .int .i64 2 ∧ i = .int .i64 3) ∨ (p = .int .i64 3 ∧ i = .int .i64 4) ∨ (p = .int .i64 4 ∧ i = .int .i64 5)
set_option maxRecDepth 100000 in
set_option maxHeartbeats 1000000 in
theorem rplace_at18 (x : Int) (h : 18 ≤ x) (w : World) : Calls Tryd.prog 13 #[.int .i64 x] w fun e w' => e = .returned (.tuple #[.int .i64 4, .bool true]) ∧ w' = w := by
  have y3 : (3 : Int) ≤ x := by omega
  have y2 : (2 : Int) ≤ x := by omega
  have y7 : (7 : Int) ≤ x := by omega
  have y11 : (11 : Int) ≤ x := by omega
  have y18 : (18 : Int) ≤ x := by omega
  clear h
  go_enter Tryd.func13, Tryd.ntmps13
  go_wp2_with fail
  go_loop [4, 5] (fun p i => Rt_at18 p i) (fun _ i => 5 - (intOf i).toNat)
  case atStart => exact Or.inl ⟨rfl, rfl⟩
  case round =>
    rcases hrel with ⟨rfl, rfl⟩ | ⟨rfl, rfl⟩ | ⟨rfl, rfl⟩ | ⟨rfl, rfl⟩ | ⟨rfl, rfl⟩ | ⟨rfl, rfl⟩
    · go_wp2_with fail
      refine (rv0 _).mono ?_
      rintro e w1 ⟨rfl, rfl⟩
      go_wp2
      go_round
      case rel => exact Or.inr (Or.inl ⟨rfl, rfl⟩)
      case measure => decide
    · go_wp2_with fail
      refine (rv1 _).mono ?_
      rintro e w1 ⟨rfl, rfl⟩
      go_wp2_with fail
      refine (rv1 _).mono ?_
      rintro e w1 ⟨rfl, rfl⟩
      go_wp2_with fail
      refine (rv0 _).mono ?_
      rintro e w1 ⟨rfl, rfl⟩
      go_wp2
      go_round
      case rel => exact Or.inr (Or.inr (Or.inl ⟨rfl, rfl⟩))
      case measure => decide
    · go_wp2_with fail
      refine (rv2 _).mono ?_
      rintro e w1 ⟨rfl, rfl⟩
      go_wp2_with fail
      refine (rv2 _).mono ?_
      rintro e w1 ⟨rfl, rfl⟩
      go_wp2_with fail
      refine (rv0 _).mono ?_
      rintro e w1 ⟨rfl, rfl⟩
      go_wp2
      go_round
      case rel => exact Or.inr (Or.inr (Or.inr (Or.inl ⟨rfl, rfl⟩)))
      case measure => decide
    · go_wp2_with fail
      refine (rv3 _).mono ?_
      rintro e w1 ⟨rfl, rfl⟩
      go_wp2_with fail
      refine (rv3 _).mono ?_
      rintro e w1 ⟨rfl, rfl⟩
      go_wp2_with fail
      refine (rv2 _).mono ?_
      rintro e w1 ⟨rfl, rfl⟩
      go_wp2
      go_round
      case rel => exact Or.inr (Or.inr (Or.inr (Or.inr (Or.inl ⟨rfl, rfl⟩))))
      case measure => decide
    · go_wp2_with fail
      refine (rv4 _).mono ?_
      rintro e w1 ⟨rfl, rfl⟩
      go_wp2_with fail
      refine (rv4 _).mono ?_
      rintro e w1 ⟨rfl, rfl⟩
      go_wp2_with fail
      refine (rv3 _).mono ?_
      rintro e w1 ⟨rfl, rfl⟩
      go_wp2
      go_round
      case rel => exact Or.inr (Or.inr (Or.inr (Or.inr (Or.inr (⟨rfl, rfl⟩)))))
      case measure => decide
    · go_wp2
      go_ret2
      exact ⟨rfl, rfl⟩
theorem place_any (x : Int) (w : World) : Calls Tryd.prog 7 #[.int .i64 x] w fun e w' => e = .returned (.tuple #[.int .i64 (pI x), .bool (pB x)]) ∧ w.grownBy w' none := by
  rcases place_cases x with h | h | h | h | h | h
  · rw [show pI x = 0 from by unfold pI; (repeat' split) <;> omega, show pB x = false from by unfold pB; split <;> first | rfl | omega]
    exact place_lt2 x h w
  · rw [show pI x = 1 from by unfold pI; (repeat' split) <;> omega, show pB x = true from by unfold pB; split <;> first | rfl | omega]
    exact place_at2 x h w
  · rw [show pI x = 0 from by unfold pI; (repeat' split) <;> omega, show pB x = true from by unfold pB; split <;> first | rfl | omega]
    exact place_at3 x h w
  · rw [show pI x = 2 from by unfold pI; (repeat' split) <;> omega, show pB x = true from by unfold pB; split <;> first | rfl | omega]
    exact place_at7 x h w
  · rw [show pI x = 3 from by unfold pI; (repeat' split) <;> omega, show pB x = true from by unfold pB; split <;> first | rfl | omega]
    exact place_at11 x h w
  · rw [show pI x = 4 from by unfold pI; (repeat' split) <;> omega, show pB x = true from by unfold pB; split <;> first | rfl | omega]
    exact place_at18 x h w
theorem rplace_any (x : Int) (w : World) : Calls Tryd.prog 13 #[.int .i64 x] w fun e w' => e = .returned (.tuple #[.int .i64 (pI x), .bool (pB x)]) ∧ w' = w := by
  rcases place_cases x with h | h | h | h | h | h
  · rw [show pI x = 0 from by unfold pI; (repeat' split) <;> omega, show pB x = false from by unfold pB; split <;> first | rfl | omega]
    exact rplace_lt2 x h w
  · rw [show pI x = 1 from by unfold pI; (repeat' split) <;> omega, show pB x = true from by unfold pB; split <;> first | rfl | omega]
    exact rplace_at2 x h w
  · rw [show pI x = 0 from by unfold pI; (repeat' split) <;> omega, show pB x = true from by unfold pB; split <;> first | rfl | omega]
    exact rplace_at3 x h w
  · rw [show pI x = 2 from by unfold pI; (repeat' split) <;> omega, show pB x = true from by unfold pB; split <;> first | rfl | omega]
    exact rplace_at7 x h w
  · rw [show pI x = 3 from by unfold pI; (repeat' split) <;> omega, show pB x = true from by unfold pB; split <;> first | rfl | omega]
    exact rplace_at11 x h w
  · rw [show pI x = 4 from by unfold pI; (repeat' split) <;> omega, show pB x = true from by unfold pB; split <;> first | rfl | omega]
    exact rplace_at18 x h w
end Go.Proofs.YteigfndahedleaaDoor
