/-
  VoidFills, plainly: the six cards, with and without a wisp, in the order of a book; what Seal says of them.
-/
import Derived.Test.YtjjldjmcbmkkdaaGreatVoT
import Derived.Test.YtjjldjmcbmkkdaaGreatSuP
namespace Go.Proofs.YtjjldjmcbmkkdaaGreat
open Go.RowKit

def wispH : Hd := ⟨⟨#[119, 105, 115, 112]⟩, 1, 1, 0, 0, 1, 0, true⟩
set_option maxRecDepth 100000 in
theorem wisp_any (w : World) : Calls Tryz.prog 5 #[] w fun e w' => e = .returned (cv wispH (.slice none 0 0)) ∧ w.grownBy w' none := by
  go_enter Tryz.func5, Tryz.ntmps5
  go_wp2
  refine bodyPost_ret (v := cv wispH (.slice none 0 0)) (by simp [results, Tryz.results5, go_sem, cv, wispH]) rfl ⟨rfl, ?_⟩
  exact World.grownBy_alloc _ _ none
def specM : List (Hd × List Pt) := specL ++ [(wispH, [])]
def rowL : List Ent := [⟨echoH, .bool false, echoP⟩, ⟨hollowH, .bool false, hollowP⟩, ⟨hushH, .bool false, hushP⟩, ⟨nullifierH, .bool false, nullifierP⟩, ⟨shadeH, .bool false, shadeP⟩, ⟨thiefH, .bool false, thiefP⟩]
def rowM : List Ent := ⟨wispH, .bool false, []⟩ :: rowL
theorem perm_pick {α : Type} {l r : List α} {x : α} (a b : List α) (hl : l = a ++ x :: b) (h : (a ++ b).Perm r) : l.Perm (x :: r) := by
  rw [hl]
  exact List.perm_middle.trans (List.Perm.cons _ h)
theorem rowL_perm : (rowL.map fun e => (e.h, e.ps)).Perm specL := by
  show List.Perm [(echoH, echoP), (hollowH, hollowP), (hushH, hushP), (nullifierH, nullifierP), (shadeH, shadeP), (thiefH, thiefP)] [(hushH, hushP), (nullifierH, nullifierP), (shadeH, shadeP), (thiefH, thiefP), (hollowH, hollowP), (echoH, echoP)]
  refine perm_pick [(echoH, echoP), (hollowH, hollowP)] _ rfl ?_
  refine perm_pick [(echoH, echoP), (hollowH, hollowP)] _ rfl ?_
  refine perm_pick [(echoH, echoP), (hollowH, hollowP)] _ rfl ?_
  refine perm_pick [(echoH, echoP), (hollowH, hollowP)] _ rfl ?_
  refine perm_pick [(echoH, echoP)] _ rfl ?_
  exact List.Perm.refl _
theorem okL : SpOk specL rowL := ⟨by decide +kernel, by decide +kernel, by decide +kernel, by decide, srt_of (by decide +kernel), rowL_perm⟩
theorem okM : SpOk specM rowM := ⟨by decide +kernel, by decide +kernel, by decide +kernel, by decide, srt_of (by decide +kernel), (List.Perm.cons (wispH, []) rowL_perm).trans (List.perm_append_singleton _ _).symm⟩
theorem spec_su : ∀ x ∈ specL, x.1.su = 5 := by decide +kernel
/-- What the book has beside cards. -/
def taB : ByteArray := ⟨#[116, 97]⟩
def pM : Pl := { plNew with mks := plNew.mks.set 2 downM }
def pT : Pl := { pM with nms := pM.nms.set 6 taB }
def pS : Pl := { pT with shut := true }
theorem ma_zero : maE plNew downM = 0 := by decide +kernel
theorem maP_one : maP plNew downM = pM := if_pos ma_zero
theorem tr_zero : trE pM 6 taB = 0 := by decide +kernel
theorem trP_one : trP pM 6 taB = pT := if_pos tr_zero
theorem seal_L : sealE pT rowL = 6 := by decide +kernel
theorem seal_M : sealE pT rowM = 0 := by decide +kernel
theorem sealP_M {es : List Ent} (h : sealE pT es = 0) : sealP pT es = pS := if_pos h
theorem find_M : ∀ x ∈ specM, 0 ≤ pos (names rowM) x.1.nm := by decide +kernel
theorem fnd_yes {q : Int} (h : 0 ≤ q) : fndN true q = q + 1 ∧ fndE true q = 0 := ⟨if_pos ⟨rfl, h⟩, if_pos ⟨rfl, h⟩⟩
end Go.Proofs.YtjjldjmcbmkkdaaGreat
