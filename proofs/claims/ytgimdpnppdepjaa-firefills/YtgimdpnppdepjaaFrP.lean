/-
  FireFills, plainly: the six cards in the order of a book; what Seal and Find say of them.
-/
import Derived.Test.YtgimdpnppdepjaaFrN
import Derived.Test.YtgimdpnppdepjaaSuF
namespace Go.Proofs.Ytgimdpnppdepjaa
open Go.RowKit

def rowF : List Ent := [⟨emberH, .bool false, emberP⟩, ⟨fireBoltH, .bool false, fireBoltP⟩, ⟨forgeH, .bool false, forgeP⟩, ⟨phoenixH, .bool false, phoenixP⟩, ⟨salamanderH, .bool false, salamanderP⟩, ⟨wildFireH, .bool false, wildFireP⟩]
theorem rowF_perm : (rowF.map fun e => (e.h, e.ps)).Perm specL := by
  show List.Perm [(emberH, emberP), (fireBoltH, fireBoltP), (forgeH, forgeP), (phoenixH, phoenixP), (salamanderH, salamanderP), (wildFireH, wildFireP)] [(fireBoltH, fireBoltP), (emberH, emberP), (salamanderH, salamanderP), (forgeH, forgeP), (wildFireH, wildFireP), (phoenixH, phoenixP)]
  refine perm_pick [(emberH, emberP)] _ rfl ?_
  refine perm_pick [] _ rfl ?_
  refine perm_pick [(forgeH, forgeP), (phoenixH, phoenixP)] _ rfl ?_
  refine perm_pick [] _ rfl ?_
  refine perm_pick [(phoenixH, phoenixP)] _ rfl ?_
  refine perm_pick [] _ rfl ?_
  exact List.Perm.refl _
theorem okF : SpOk specL rowF := ⟨by decide +kernel, by decide +kernel, by decide +kernel, by decide, srt_of (by decide +kernel), rowF_perm⟩
theorem spec_su : ∀ x ∈ specL, x.1.su = 3 := by decide +kernel
/-- What the book has beside cards. -/
def venB : ByteArray := ⟨#[118, 101, 110, 111, 109]⟩
def pT : Pl := { plNew with nms := plNew.nms.set 3 venB }
def pM : Pl := { pT with mks := pT.mks.set 4 chargeM }
def pS : Pl := { pM with shut := true }
theorem tr_zero : trE plNew 3 venB = 0 := by decide +kernel
theorem trP_one : trP plNew 3 venB = pT := if_pos tr_zero
theorem ma_zero : maE pT chargeM = 0 := by decide +kernel
theorem maP_one : maP pT chargeM = pM := if_pos ma_zero
theorem seal_F : sealE pM rowF = 0 := by decide +kernel
theorem sealP_F {es : List Ent} (h : sealE pM es = 0) : sealP pM es = pS := if_pos h
theorem pos_0 : pos (names rowF) ⟨#[101, 109, 98, 101, 114]⟩ = 0 := by decide +kernel
theorem pos_1 : pos (names rowF) ⟨#[102, 105, 114, 101, 45, 98, 111, 108, 116]⟩ = 1 := by decide +kernel
theorem pos_2 : pos (names rowF) ⟨#[102, 111, 114, 103, 101]⟩ = 2 := by decide +kernel
theorem pos_3 : pos (names rowF) ⟨#[112, 104, 111, 101, 110, 105, 120]⟩ = 3 := by decide +kernel
theorem pos_4 : pos (names rowF) ⟨#[115, 97, 108, 97, 109, 97, 110, 100, 101, 114]⟩ = 4 := by decide +kernel
theorem pos_5 : pos (names rowF) ⟨#[119, 105, 108, 100, 45, 102, 105, 114, 101]⟩ = 5 := by decide +kernel
theorem LAt.cr {w w' : World} {g : Nat} {es : List Ent} (A : LAt w w' g es) : Cr w'.heap.size specL w' g es := ⟨Crs.of A.is, ⟨[], by rw [List.append_nil]; exact A.lies⟩, fun e he => own_off (A.own.own e he) A.lies⟩
def nCells : Array Value := #[.string ⟨#[101, 109, 98, 101, 114]⟩, .string ⟨#[102, 105, 114, 101, 45, 98, 111, 108, 116]⟩, .string ⟨#[102, 111, 114, 103, 101]⟩, .string ⟨#[112, 104, 111, 101, 110, 105, 120]⟩, .string ⟨#[115, 97, 108, 97, 109, 97, 110, 100, 101, 114]⟩, .string ⟨#[119, 105, 108, 100, 45, 102, 105, 114, 101]⟩]
end Go.Proofs.Ytgimdpnppdepjaa
