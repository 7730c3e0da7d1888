/-
  EarthFills, plainly: the six cards, with and without an ember, in the order of a book; what Seal says of them.
-/
import Derived.Test.YtiikbhejnblhlaaEaT
import Derived.Test.YtiikbhejnblhlaaSuP
namespace Go.Proofs.Ytiikbhejnblhlaa
open Go.RowKit

def emberH : Hd := ⟨⟨#[101, 109, 98, 101, 114]⟩, 3, 1, 0, 0, 1, 0, true⟩
set_option maxRecDepth 100000 in
theorem ember_any (w : World) : Calls Try.prog 22 #[] w fun e w' => e = .returned (cv emberH (.slice none 0 0)) ∧ w.grownBy w' none := by
  go_enter Try.func22, Try.ntmps22
  go_wp2
  refine bodyPost_ret (v := cv emberH (.slice none 0 0)) (by simp [results, Try.results22, go_sem, cv, emberH]) rfl ⟨rfl, ?_⟩
  exact World.grownBy_alloc _ _ none
def specM : List (Hd × List Pt) := specL ++ [(emberH, [])]
def rowL : List Ent := [⟨boulderH, .bool false, boulderP⟩, ⟨clayManH, .bool false, clayManP⟩, ⟨golemH, .bool false, golemP⟩, ⟨landslideH, .bool false, landslideP⟩, ⟨pebbleH, .bool false, pebbleP⟩, ⟨rampartH, .bool false, rampartP⟩]
def rowM : List Ent := rowL ++ [⟨emberH, .bool false, []⟩]
theorem perm_pick {α : Type} {l r : List α} {x : α} (a b : List α) (hl : l = a ++ x :: b) (h : (a ++ b).Perm r) : l.Perm (x :: r) := by
  rw [hl]
  exact List.perm_middle.trans (List.Perm.cons _ h)
theorem rowL_perm : (rowL.map fun e => (e.h, e.ps)).Perm specL := by
  show List.Perm [(boulderH, boulderP), (clayManH, clayManP), (golemH, golemP), (landslideH, landslideP), (pebbleH, pebbleP), (rampartH, rampartP)] [(boulderH, boulderP), (clayManH, clayManP), (pebbleH, pebbleP), (landslideH, landslideP), (rampartH, rampartP), (golemH, golemP)]
  refine perm_pick [] _ rfl ?_
  refine perm_pick [] _ rfl ?_
  refine perm_pick [(golemH, golemP), (landslideH, landslideP)] _ rfl ?_
  refine perm_pick [(golemH, golemP)] _ rfl ?_
  refine perm_pick [(golemH, golemP)] _ rfl ?_
  exact List.Perm.refl _
theorem okL : SpOk specL rowL := ⟨by decide +kernel, by decide +kernel, by decide +kernel, by decide, srt_of (by decide +kernel), rowL_perm⟩
theorem okM : SpOk specM rowM := ⟨by decide +kernel, by decide +kernel, by decide +kernel, by decide, srt_of (by decide +kernel), by unfold rowM specM; rw [List.map_append]; exact rowL_perm.append (List.Perm.refl _)⟩
theorem spec_su : ∀ x ∈ specL, x.1.su = 2 := by decide +kernel
/-- What the book has beside cards. -/
def taB : ByteArray := ⟨#[116, 97]⟩
def pM : Pl := { plNew with mks := plNew.mks.set 3 shieldM }
def pT : Pl := { pM with nms := pM.nms.set 2 taB }
def pS : Pl := { pT with shut := true }
theorem ma_zero : maE plNew shieldM = 0 := by decide +kernel
theorem maP_one : maP plNew shieldM = pM := if_pos ma_zero
theorem tr_zero : trE pM 2 taB = 0 := by decide +kernel
theorem trP_one : trP pM 2 taB = pT := if_pos tr_zero
theorem seal_L : sealE pT rowL = 6 := by decide +kernel
theorem seal_M : sealE pT rowM = 0 := by decide +kernel
theorem sealP_M {es : List Ent} (h : sealE pT es = 0) : sealP pT es = pS := if_pos h
theorem find_M : ∀ x ∈ specM, 0 ≤ pos (names rowM) x.1.nm := by decide +kernel
theorem fnd_yes {q : Int} (h : 0 ≤ q) : fndN true q = q + 1 ∧ fndE true q = 0 := ⟨if_pos ⟨rfl, h⟩, if_pos ⟨rfl, h⟩⟩
end Go.Proofs.Ytiikbhejnblhlaa
