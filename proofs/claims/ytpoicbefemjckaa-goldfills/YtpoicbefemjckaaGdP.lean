/-
  GoldFills, plainly: the six cards in the order of a book; what Seal and Find say of them.
-/
import Derived.Test.YtpoicbefemjckaaGdN
import Derived.Test.YtpoicbefemjckaaSuF
namespace Go.Proofs.Ytpoicbefemjckaa
open Go.RowKit

def rowF : List Ent := [⟨coinH, .bool false, coinP⟩, ⟨idolH, .bool false, idolP⟩, ⟨midasH, .bool false, midasP⟩, ⟨statueH, .bool false, statueP⟩, ⟨taxManH, .bool false, taxManP⟩, ⟨treasureH, .bool false, treasureP⟩]
theorem rowF_perm : (rowF.map fun e => (e.h, e.ps)).Perm specL := by
  show List.Perm [(coinH, coinP), (idolH, idolP), (midasH, midasP), (statueH, statueP), (taxManH, taxManP), (treasureH, treasureP)] [(treasureH, treasureP), (coinH, coinP), (statueH, statueP), (idolH, idolP), (taxManH, taxManP), (midasH, midasP)]
  refine perm_pick [(coinH, coinP), (idolH, idolP), (midasH, midasP), (statueH, statueP), (taxManH, taxManP)] _ rfl ?_
  refine perm_pick [] _ rfl ?_
  refine perm_pick [(idolH, idolP), (midasH, midasP)] _ rfl ?_
  refine perm_pick [] _ rfl ?_
  refine perm_pick [(midasH, midasP)] _ rfl ?_
  refine perm_pick [] _ rfl ?_
  exact List.Perm.refl _
theorem okF : SpOk specL rowF := ⟨by decide +kernel, by decide +kernel, by decide +kernel, by decide, srt_of (by decide +kernel), rowF_perm⟩
theorem spec_su : ∀ x ∈ specL, x.1.su = 6 := by decide +kernel
/-- What the book has beside cards. -/
def fixB : ByteArray := ⟨#[102, 105, 120, 101, 100]⟩
def pT : Pl := { plNew with nms := plNew.nms.set 7 fixB }
def pM : Pl := { pT with mks := pT.mks.set 1 upM }
def pS : Pl := { pM with shut := true }
theorem tr_zero : trE plNew 7 fixB = 0 := by decide +kernel
theorem trP_one : trP plNew 7 fixB = pT := if_pos tr_zero
theorem ma_zero : maE pT upM = 0 := by decide +kernel
theorem maP_one : maP pT upM = pM := if_pos ma_zero
theorem seal_F : sealE pM rowF = 0 := by decide +kernel
theorem sealP_F {es : List Ent} (h : sealE pM es = 0) : sealP pM es = pS := if_pos h
theorem pos_0 : pos (names rowF) ⟨#[99, 111, 105, 110]⟩ = 0 := by decide +kernel
theorem pos_1 : pos (names rowF) ⟨#[105, 100, 111, 108]⟩ = 1 := by decide +kernel
theorem pos_2 : pos (names rowF) ⟨#[109, 105, 100, 97, 115]⟩ = 2 := by decide +kernel
theorem pos_3 : pos (names rowF) ⟨#[115, 116, 97, 116, 117, 101]⟩ = 3 := by decide +kernel
theorem pos_4 : pos (names rowF) ⟨#[116, 97, 120, 45, 109, 97, 110]⟩ = 4 := by decide +kernel
theorem pos_5 : pos (names rowF) ⟨#[116, 114, 101, 97, 115, 117, 114, 101]⟩ = 5 := by decide +kernel
theorem LAt.cr {w w' : World} {g : Nat} {es : List Ent} (A : LAt w w' g es) : Cr w'.heap.size specL w' g es := ⟨Crs.of A.is, ⟨[], by rw [List.append_nil]; exact A.lies⟩, fun e he => own_off (A.own.own e he) A.lies⟩
def nCells : Array Value := #[.string ⟨#[99, 111, 105, 110]⟩, .string ⟨#[105, 100, 111, 108]⟩, .string ⟨#[109, 105, 100, 97, 115]⟩, .string ⟨#[115, 116, 97, 116, 117, 101]⟩, .string ⟨#[116, 97, 120, 45, 109, 97, 110]⟩, .string ⟨#[116, 114, 101, 97, 115, 117, 114, 101]⟩]
end Go.Proofs.Ytpoicbefemjckaa
