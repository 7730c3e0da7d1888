/-
  What Pick answers: a number from 0 to n - 1.
-/
import Derived.Test.YtpoicbefemjckaaLBase
namespace Go.Proofs.Ytpoicbefemjckaa
open Go.RowKit

set_option maxHeartbeats 1000000 in
theorem pick_any (k : Int) (n : Nat) (w : World) (hn : 0 < n) (hm : n ≤ 4294967296) : Calls Try.prog 20 #[.int .i64 k, .int .i64 n] w fun e w' => (∃ r : Nat, r < n ∧ e = .returned (.int .i64 r)) ∧ w' = w := by
  have h1 : ¬ ((n : Int) < 1) := by omega
  have h0 : ((n : Int) == 0) = false := by simpa using (show ¬ ((n : Int) = 0) by omega)
  have b1 : k.tmod n < n := Int.tmod_lt_of_pos k (by omega)
  have b2 : -(n : Int) < k.tmod n := by
    have h := Int.tmod_lt_of_pos (-k) (show (0 : Int) < n by omega)
    rw [Int.neg_tmod] at h
    omega
  go_enter Try.func20, Try.ntmps20
  go_wp2
  · go_ret
    exact ⟨⟨(k.tmod n + n).toNat, by omega, ret_int (Int.toNat_of_nonneg (by omega)).symm⟩, rfl⟩
  · go_ret
    exact ⟨⟨(k.tmod n).toNat, by omega, ret_int (Int.toNat_of_nonneg (by omega)).symm⟩, rfl⟩
end Go.Proofs.Ytpoicbefemjckaa
