/-
  SwapLists answers true of every table: List answers what the document's own List answers,the same when asked again,in lists of the call's own,and leaves what it was lent as it was. No condition.
-/
import Derived.Test.YthfjgpjcepmnmaaGreatZ54
namespace Go.Proofs.YthfjgpjcepmnmaaGreat
open Go.ChangeShapes Go.WideShapes Go.ChangeAt Go.RowKit Go.Deep

theorem swapLists_holds:Rows.SwapListsSaid :=
 OpenClaim.holds_of_wide 4 Tryz.f4 rfl rfl rfl rfl rfl rfl rfl ⟨rfl,rfl,rfl,rfl,rfl⟩ rfl rfl rfl rfl rfl (by kernel_rfl) Tryz.func4 swapLists_closed
  (of_decide_eq_true (by kernel_rfl)) (by unfold Func.isWrapper;first | (rw[if_pos (by decide +kernel)];kernel_rfl) | (rw[if_neg (by decide +kernel)];exact⟨rfl,rfl⟩))
  (fun os started H enc _=>swapLists_lifted os started H enc)
#print axioms swapLists_holds
end Go.Proofs.YthfjgpjcepmnmaaGreat
