/-
  ViewCalls answers true of every fill,list of things and numbers: Of,Behind,Steps and Why tell what the document's own answer tells,again when asked again;what was lent stays as it was,and each list that was told lies in memory of its own. No condition but what the law itself asks (its large).
-/
import Derived.Test.YtjmepebbcnhalaaGreatV54
namespace Go.Proofs.YtjmepebbcnhalaaGreat
open Go.ChangeShapes Go.WideShapes Go.ChangeAt Go.RowKit Go.Deep

theorem viewCalls_holds:Rows.ViewCallsSaid :=
 OpenClaim.holds_of_wide 4 Tryz.f4 rfl rfl rfl rfl rfl rfl rfl ⟨rfl,rfl,rfl,rfl,rfl⟩ rfl rfl rfl rfl rfl (by kernel_rfl) Tryz.func4 lC
  (of_decide_eq_true (by kernel_rfl)) (by unfold Func.isWrapper;first | (rw[if_pos (by decide +kernel)];kernel_rfl) | (rw[if_neg (by decide +kernel)];exact⟨rfl,rfl⟩))
  (fun os started H enc _=>lB os started H enc)
#print axioms viewCalls_holds
end Go.Proofs.YtjmepebbcnhalaaGreat
