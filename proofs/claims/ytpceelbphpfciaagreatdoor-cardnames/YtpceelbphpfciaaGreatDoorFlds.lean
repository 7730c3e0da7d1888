/-
  The fields that a verb and a whom use: effect's fieldsOf, of every two numbers.
-/
import Derived.Test.YtpceelbphpfciaaGreatDoorDel
import Derived.Test.YtpceelbphpfciaaGreatDoorFld
namespace Go.Proofs.YtpceelbphpfciaaGreatDoor
open Go.RowKit

def fl (a b c d e : Bool) : Nat → Bool
  | 0 => a
  | 1 => b
  | 2 => c
  | 3 => d
  | _ => e
theorem kept_marks : ∀ a b c d e : Bool, keptL (fl a b c d e) 5 = mark a 0 ++ (mark b 1 ++ (mark c 2 ++ (mark d 3 ++ mark e 4))) := by decide
set_option maxHeartbeats 2000000 in
set_option maxRecDepth 100000 in
theorem fieldsOf_any (v m : Int) (w : World) : Calls Tryz.prog 68 #[.int .u8 v, .int .u8 m] w fun e w' => e = .returned (.slice (some ⟨w.heap.size, 0, none⟩) (kinds v m).length 5) ∧ KAt w' w.heap.size (kinds v m) ∧ w.grownBy w' none := by
  have HK : Hid (keptL (fl (uC v) (uS v m) (uT v m) (uM v) (uN v)) 5 = kinds v m) := kept_marks _ _ _ _ _
  go_enter Tryz.func68, Tryz.ntmps68
  go_wp2_with (first | (go_at_call 115; refine (uses_any _ _ _).mono ?_; rintro e w1 ⟨rfl, hw⟩; obtain rfl : w = w1 := hw.symm; simp only [usesV]) | (go_at_call 126; refine (delete_any (fl (uC v) (uS v m) (uT v m) (uM v) (uN v)) w.heap.size _ (alloc_at w (orig (fl (uC v) (uS v m) (uT v m) (uM v) (uN v))) 101)).mono ?_; rintro e w2 ⟨rfl, K, g⟩; rw [HK.out]))
  go_ret
  rw [HK.out] at K
  exact ⟨rfl, K, grown_own (World.grownBy_alloc w _ none) g (fun _ e => by cases e; exact Nat.le_refl _)⟩
end Go.Proofs.YtpceelbphpfciaaGreatDoor
