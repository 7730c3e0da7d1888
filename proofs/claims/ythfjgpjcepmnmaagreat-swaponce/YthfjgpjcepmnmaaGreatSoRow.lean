/-
  SwapOnce answers true of every table,event and number: All uses each swap once at most,each of them one of List's;it is what Next tells,one by one;where it uses none,the event is as it was,but for a Shield,and a harm below 1;nothing else of a thing than its marks,its stamp's order and its features counts. No condition.
-/
import Derived.Test.YthfjgpjcepmnmaaGreatO54
namespace Go.Proofs.YthfjgpjcepmnmaaGreat
open Go.ChangeShapes Go.WideShapes Go.ChangeAt Go.RowKit Go.Deep

theorem swapOnce_holds:Rows.SwapOnceSaid :=
 OpenClaim.holds_of_wide 6 Tryz.f6 rfl rfl rfl rfl rfl rfl rfl ⟨rfl,rfl,rfl,rfl,rfl⟩ rfl rfl rfl rfl rfl (by kernel_rfl) Tryz.func6 l5
  (of_decide_eq_true (by kernel_rfl)) (by unfold Func.isWrapper;first | (rw[if_pos (by decide +kernel)];kernel_rfl) | (rw[if_neg (by decide +kernel)];exact⟨rfl,rfl⟩))
  (fun os started H enc _=>kU os started H enc)
#print axioms swapOnce_holds
end Go.Proofs.YthfjgpjcepmnmaaGreat
