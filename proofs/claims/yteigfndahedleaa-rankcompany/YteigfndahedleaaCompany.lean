/-
  RankCompany answers true of every two numbers: asked again and again, rank tells what the document says. No condition.
-/
import Derived.Test.YteigfndahedleaaRank2
import Derived.ProofKit
namespace Go.Proofs.Yteigfndahedleaa
open Go.ChangeShapes Go.WideShapes Go.ChangeAt
open Go.RowKit
set_option maxRecDepth 100000 in
set_option maxHeartbeats 1000000 in
theorem company_any (k times : Int) (w : World) : Calls Try.prog 4 #[.int .i64 k, .int .i64 times] w fun e w' => e = .returned (.bool true) ∧ w.grownBy w' none := by
  have hof := of_any k
  have hrof := rof_any k
  generalize ansV k = v at *
  generalize ansT k = t at *
  generalize ansE k = er at *
  have HO : Hid (∀ w, Calls Try.prog 6 #[.int .i64 k] w fun e w' => e = .returned (.tuple #[.int .i64 v, .int .i64 t, .int .i64 er]) ∧ w.grownBy w' none) := hof
  clear hof
  go_enter Try.func4, Try.ntmps4
  go_wp2_with fail
  refine (pick_any times 8 _ (by omega) (by omega)).mono ?_
  rintro e w1 ⟨⟨r, hr, rfl⟩, rfl⟩
  go_wp2_with fail
  refine (hrof _).mono ?_
  rintro e w2 ⟨rfl, g2⟩
  have HG : Hid (w1.grownBy w2 none) := g2
  clear g2 hrof
  go_wp2_with fail
  go_loopw [9] (fun i wr => ∃ j : Nat, j ≤ 1 + r ∧ i = .int .i64 j ∧ w1.grownBy wr none) (fun i _ => 1 + r - (intOf i).toNat)
  case atStart => exact ⟨0, Nat.zero_le _, rfl, HG.out⟩
  case round =>
    obtain ⟨j, hj, rfl, G⟩ := hrel
    by_cases hlt : j < 1 + r
    · have hi : (j : Int) < 1 + r := by omega
      go_wp2_with fail
      refine (HO.out _).mono ?_
      rintro e w3 ⟨rfl, g3⟩
      go_wp2_with fail
      refine (sum_any _).mono ?_
      rintro e w4 ⟨rfl, g4⟩
      go_wp2
      go_roundw
      case rel => exact ⟨j + 1, by omega, by go_num, grown_trans (grown_trans G g3) g4⟩
      case measure => simp [intOf]; omega
    · have hi : ¬ ((j : Int) < 1 + r) := by omega
      go_wp2_with fail
      refine (lives_any _).mono ?_
      rintro e w3 ⟨rfl, g3⟩
      go_wp2
      go_ret
      exact ⟨rfl, grown_trans G g3⟩
end Go.Proofs.Yteigfndahedleaa
