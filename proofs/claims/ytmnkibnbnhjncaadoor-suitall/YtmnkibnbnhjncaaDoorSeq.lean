/-
  Suit's All: what the function over which it goes hands on: the suits 1 to 6, one by one, till it is told to stop.
-/
import Derived.Test.YtmnkibnbnhjncaaDoorBase
import Derived.RangeFuncNested
import Derived.RangeFuncBound
import Derived.RangeFuncCalls
import Derived.RangeFuncLeaves
import Derived.Shelf.Abstract
import Derived.Shelf.RegionOpen
import Derived.OwnWalkIn
import Derived.TacticsInMore
import Derived.LoopNIn
import Derived.LoopIn
namespace Go.Proofs.YtmnkibnbnhjncaaDoor
open Go.RowKit Go.Shelf

attribute [local go_sem] Oper.semAt_some

/-- The suit's number, of its place. -/
def suitV (x : Fin 6) : Int := (x.val : Int) + 1
theorem v0 : suitV 0 = 1 := rfl
theorem v1 : suitV 1 = 2 := rfl
theorem v2 : suitV 2 = 3 := rfl
theorem v3 : suitV 3 = 4 := rfl
theorem v4 : suitV 4 = 5 := rfl
theorem v5 : suitV 5 = 6 := rfl
theorem fin_six (x : Fin 6) : x = 0 ∨ x = 1 ∨ x = 2 ∨ x = 3 ∨ x = 4 ∨ x = 5 := by revert x; decide
/-- The first so many suits. -/
def suits (k : Nat) : List (Fin 6) := List.take k [0, 1, 2, 3, 4, 5]
theorem suits_length (k : Nat) (h : k ≤ 6) : (suits k).length = k := by simp [suits]; omega

set_option maxHeartbeats 1000000 in
theorem all_any (w : World) : Calls Tryd.prog 18 #[] w fun e w' => e = .returned (.func (.func 26) #[] #[]) ∧ w' = w := by
  go_enter Tryd.func18, Tryd.ntmps18
  go_wp2
  go_ret
  exact ⟨rfl, rfl⟩

set_option maxRecDepth 100000 in
set_option maxHeartbeats 2000000 in
theorem all_stops (F : Fence) (n : Nat) (h26 : F.fn 26) (hro : F.round = none) (hn : 1 ≤ n) (w : World) :
    SeqStopsK F n Tryd.prog 26 #[] (fun x : Fin 6 => #[Value.int .u8 (suitV x)]) (fun _ _ => True) (fun xs => xs = suits 6) (fun pre => ∃ k, 1 ≤ k ∧ k ≤ 6 ∧ pre = suits k) 6 w := fun l J Jx W _ _ _ hY h0 => by
  refine callsIn_of_wp Tryd.func26 rfl h26 ?_ hro
  simp only [Tryd.ntmps26, List.size_toArray, List.length_cons, List.length_nil, Nat.reduceAdd, Nat.reduceSub, Array.replicate_succ, Array.replicate_zero, List.push_toArray, List.append_toArray, List.nil_append, List.cons_append]
  gi_wp2
  gi_loopw [2] (fun s wr => ∃ k : Nat, k ≤ 6 ∧ s = .int .u8 (k + 1) ∧ J (suits k) wr) (fun s _ => 7 - (intOf s).toNat)
  case atStart => exact ⟨0, by omega, rfl, h0⟩
  case round =>
    obtain ⟨k, hk, rfl, hJs⟩ := hrel
    rcases (by omega : k = 0 ∨ k = 1 ∨ k = 2 ∨ k = 3 ∨ k = 4 ∨ k = 5 ∨ k = 6) with rfl | rfl | rfl | rfl | rfl | rfl | rfl
    all_goals simp only [Int.cast_ofNat_Int, Int.reduceAdd]
    · obtain ⟨fn, tmps, assign, body, hy, hR⟩ := hY (suits 0) 0 wr hJs (by rw [suits_length _ (by omega)]; omega)
      rw [v0] at hy
      gi_wp2
      refine hR.mono ?_
      rintro e W3 (⟨rfl, hJ3, _⟩ | ⟨rfl, hJx3⟩)
      · gi_wp2
        go_roundw
        case rel => exact ⟨1, by omega, rfl, hJ3⟩
        case measure => decide
      · gi_wp2
        refine bodyPost_ret (results_none rfl _ _ _) rfl ?_
        exact ⟨⟨_, rfl⟩, .inr ⟨suits 1, ⟨1, by omega, by omega, rfl⟩, hJx3⟩⟩
    · obtain ⟨fn, tmps, assign, body, hy, hR⟩ := hY (suits 1) 1 wr hJs (by rw [suits_length _ (by omega)]; omega)
      rw [v1] at hy
      gi_wp2
      refine hR.mono ?_
      rintro e W3 (⟨rfl, hJ3, _⟩ | ⟨rfl, hJx3⟩)
      · gi_wp2
        go_roundw
        case rel => exact ⟨2, by omega, rfl, hJ3⟩
        case measure => decide
      · gi_wp2
        refine bodyPost_ret (results_none rfl _ _ _) rfl ?_
        exact ⟨⟨_, rfl⟩, .inr ⟨suits 2, ⟨2, by omega, by omega, rfl⟩, hJx3⟩⟩
    · obtain ⟨fn, tmps, assign, body, hy, hR⟩ := hY (suits 2) 2 wr hJs (by rw [suits_length _ (by omega)]; omega)
      rw [v2] at hy
      gi_wp2
      refine hR.mono ?_
      rintro e W3 (⟨rfl, hJ3, _⟩ | ⟨rfl, hJx3⟩)
      · gi_wp2
        go_roundw
        case rel => exact ⟨3, by omega, rfl, hJ3⟩
        case measure => decide
      · gi_wp2
        refine bodyPost_ret (results_none rfl _ _ _) rfl ?_
        exact ⟨⟨_, rfl⟩, .inr ⟨suits 3, ⟨3, by omega, by omega, rfl⟩, hJx3⟩⟩
    · obtain ⟨fn, tmps, assign, body, hy, hR⟩ := hY (suits 3) 3 wr hJs (by rw [suits_length _ (by omega)]; omega)
      rw [v3] at hy
      gi_wp2
      refine hR.mono ?_
      rintro e W3 (⟨rfl, hJ3, _⟩ | ⟨rfl, hJx3⟩)
      · gi_wp2
        go_roundw
        case rel => exact ⟨4, by omega, rfl, hJ3⟩
        case measure => decide
      · gi_wp2
        refine bodyPost_ret (results_none rfl _ _ _) rfl ?_
        exact ⟨⟨_, rfl⟩, .inr ⟨suits 4, ⟨4, by omega, by omega, rfl⟩, hJx3⟩⟩
    · obtain ⟨fn, tmps, assign, body, hy, hR⟩ := hY (suits 4) 4 wr hJs (by rw [suits_length _ (by omega)]; omega)
      rw [v4] at hy
      gi_wp2
      refine hR.mono ?_
      rintro e W3 (⟨rfl, hJ3, _⟩ | ⟨rfl, hJx3⟩)
      · gi_wp2
        go_roundw
        case rel => exact ⟨5, by omega, rfl, hJ3⟩
        case measure => decide
      · gi_wp2
        refine bodyPost_ret (results_none rfl _ _ _) rfl ?_
        exact ⟨⟨_, rfl⟩, .inr ⟨suits 5, ⟨5, by omega, by omega, rfl⟩, hJx3⟩⟩
    · obtain ⟨fn, tmps, assign, body, hy, hR⟩ := hY (suits 5) 5 wr hJs (by rw [suits_length _ (by omega)]; omega)
      rw [v5] at hy
      gi_wp2
      refine hR.mono ?_
      rintro e W3 (⟨rfl, hJ3, _⟩ | ⟨rfl, hJx3⟩)
      · gi_wp2
        go_roundw
        case rel => exact ⟨6, by omega, rfl, hJ3⟩
        case measure => decide
      · gi_wp2
        refine bodyPost_ret (results_none rfl _ _ _) rfl ?_
        exact ⟨⟨_, rfl⟩, .inr ⟨suits 6, ⟨6, by omega, by omega, rfl⟩, hJx3⟩⟩
    · gi_wp2
      go_end0
      exact ⟨⟨_, rfl⟩, .inl ⟨_, rfl, hJs⟩⟩
end Go.Proofs.YtmnkibnbnhjncaaDoor
