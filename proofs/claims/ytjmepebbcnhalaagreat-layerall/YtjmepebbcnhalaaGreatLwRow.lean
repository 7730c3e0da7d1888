/-
  LayerAll answers true of every fill,table,list of effects and number: Next,Effects,All,About,Apply and Depends tell what the document's own answer tells;what was lent stays as it was,and each list that was told lies in memory of its own. No condition but what the law itself asks (its heavy,at most 70 effects).
-/
import Derived.Test.YtjmepebbcnhalaaGreatW54
namespace Go.Proofs.YtjmepebbcnhalaaGreat
open Go.ChangeShapes Go.WideShapes Go.ChangeAt Go.RowKit Go.Deep

theorem layerAll_holds:Rows.LayerAllSaid :=
 OpenClaim.holds_of_wide 3 Tryz.f3 rfl rfl rfl rfl rfl rfl rfl ⟨rfl,rfl,rfl,rfl,rfl⟩ rfl rfl rfl rfl rfl (by kernel_rfl) Tryz.func3 ld
  (of_decide_eq_true (by kernel_rfl)) (by unfold Func.isWrapper;first | (rw[if_pos (by decide +kernel)];kernel_rfl) | (rw[if_neg (by decide +kernel)];exact⟨rfl,rfl⟩))
  (fun os started H enc _=>lk os started H enc)
#print axioms layerAll_holds
end Go.Proofs.YtjmepebbcnhalaaGreat
