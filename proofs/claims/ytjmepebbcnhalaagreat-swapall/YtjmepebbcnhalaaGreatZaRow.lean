/-
  SwapAll answers true of every table,event,list of used swaps and standing: All,Next and Swaps answer what the document's own answer,the same when asked again,in lists of the call's own,and leave what they were lent as it was. No condition.
-/
import Derived.Test.YtjmepebbcnhalaaGreatZ54
namespace Go.Proofs.YtjmepebbcnhalaaGreat
open Go.ChangeShapes Go.WideShapes Go.ChangeAt Go.RowKit Go.Deep

theorem swapAll_holds:Rows.SwapAllSaid :=
 OpenClaim.holds_of_wide 5 Tryz.f5 rfl rfl rfl rfl rfl rfl rfl ⟨rfl,rfl,rfl,rfl,rfl⟩ rfl rfl rfl rfl rfl (by kernel_rfl) Tryz.func5 og
  (of_decide_eq_true (by kernel_rfl)) (by unfold Func.isWrapper;first | (rw[if_pos (by decide +kernel)];kernel_rfl) | (rw[if_neg (by decide +kernel)];exact⟨rfl,rfl⟩))
  (fun os started H enc _=>pW os started H enc)
#print axioms swapAll_holds
end Go.Proofs.YtjmepebbcnhalaaGreat
