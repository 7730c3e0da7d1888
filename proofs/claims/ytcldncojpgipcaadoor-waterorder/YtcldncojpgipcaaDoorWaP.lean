/-
  WaterOrder, plainly: the six cards and a wisp in the order of a book; what Seal and At say of them.
-/
import Derived.Test.YtcldncojpgipcaaDoorWaN
import Derived.Test.YtcldncojpgipcaaDoorSuF
namespace Go.Proofs.YtcldncojpgipcaaDoor
open Go.RowKit

def rowF : List Ent := [⟨dewH, .bool false, dewP⟩, ⟨dropH, .bool false, dropP⟩, ⟨mirrorH, .bool false, mirrorP⟩, ⟨sirenH, .bool false, sirenP⟩, ⟨springH, .bool false, springP⟩, ⟨tideH, .bool false, tideP⟩]
theorem rowF_perm : (rowF.map fun e => (e.h, e.ps)).Perm specL := by
  show List.Perm [(dewH, dewP), (dropH, dropP), (mirrorH, mirrorP), (sirenH, sirenP), (springH, springP), (tideH, tideP)] [(dewH, dewP), (tideH, tideP), (dropH, dropP), (sirenH, sirenP), (springH, springP), (mirrorH, mirrorP)]
  refine perm_pick [] _ rfl ?_
  refine perm_pick [(dropH, dropP), (mirrorH, mirrorP), (sirenH, sirenP), (springH, springP)] _ rfl ?_
  refine perm_pick [] _ rfl ?_
  refine perm_pick [(mirrorH, mirrorP)] _ rfl ?_
  refine perm_pick [(mirrorH, mirrorP)] _ rfl ?_
  refine perm_pick [] _ rfl ?_
  exact List.Perm.refl _
theorem okF : SpOk specL rowF := ⟨by decide +kernel, by decide +kernel, by decide +kernel, by decide, srt_of (by decide +kernel), rowF_perm⟩
theorem spec_su : ∀ x ∈ specL, x.1.su = 4 := by decide +kernel
def wispH : Hd := ⟨⟨#[119, 105, 115, 112]⟩, 1, 1, 0, 1, 1, 1, true⟩
def rowG : List Ent := ⟨wispH, .bool false, []⟩ :: rowF
theorem rowG_srt : Srt rowG := srt_of (by decide +kernel)
theorem sameEs_mem : ∀ {a b : List Ent}, sameEs a b = true → (∀ x ∈ a, ∃ y ∈ b, y.cd = x.cd) ∧ (∀ y ∈ b, ∃ x ∈ a, x.cd = y.cd)
  | [], [], _ => ⟨fun x hx => (List.not_mem_nil hx).elim, fun x hx => (List.not_mem_nil hx).elim⟩
  | [], _ :: _, h => by simp [sameEs] at h
  | _ :: _, [], h => by simp [sameEs] at h
  | x :: r, y :: t, h => by
    simp only [sameEs, sameE, Bool.and_eq_true] at h
    have hq : y.cd = x.cd := by
      show y.h.with y.ps = x.h.with x.ps
      rw [hd_ext h.1.1, samePs_eq h.1.2]
    obtain ⟨i1, i2⟩ := sameEs_mem h.2
    refine ⟨fun z hz => ?_, fun z hz => ?_⟩
    · rcases List.mem_cons.1 hz with rfl | hz
      · exact ⟨y, List.mem_cons_self, hq⟩
      · obtain ⟨u, hu, e⟩ := i1 z hz
        exact ⟨u, List.mem_cons_of_mem _ hu, e⟩
    · rcases List.mem_cons.1 hz with rfl | hz
      · exact ⟨x, List.mem_cons_self, hq.symm⟩
      · obtain ⟨u, hu, e⟩ := i2 z hz
        exact ⟨u, List.mem_cons_of_mem _ hu, e⟩
/-- A card more, laid in: the book of the card ahead of the others. -/
theorem same_ins {fs F G : List Ent} {x y : Ent} (hs : Srt (ins fs x)) (hG : Srt G) (h : sameEs fs F = true) (hx : y.cd = x.cd) (hm : ∀ z, z ∈ G ↔ z = y ∨ z ∈ F) : sameEs (ins fs x) G = true := by
  obtain ⟨h1, h2⟩ := sameEs_mem h
  refine srt_same _ _ hs hG (fun z hz => ?_) (fun z hz => ?_)
  · rcases (ins_mem _ _ _).1 hz with rfl | hz
    · exact ⟨y, (hm y).2 (Or.inl rfl), hx⟩
    · obtain ⟨u, hu, e⟩ := h1 z hz
      exact ⟨u, (hm u).2 (Or.inr hu), e⟩
  · rcases (hm z).1 hz with rfl | hz
    · exact ⟨x, (ins_mem _ _ _).2 (Or.inl rfl), hx.symm⟩
    · obtain ⟨u, hu, e⟩ := h2 z hz
      exact ⟨u, (ins_mem _ _ _).2 (Or.inr hu), e⟩
theorem caE_of {p : Pl} {a b : List Ent} {c : Cd} (h : sameEs a b = true) : caE p a c = caE p b c := by
  unfold caE
  rw [sameEs_names h, sameEs_length h]
theorem same_get : ∀ {a b : List Ent}, sameEs a b = true → ∀ {i : Nat} {y : Ent}, b[i]? = some y → ∃ x, a[i]? = some x ∧ x.h = y.h
  | [], [], _, i, y, hy => by simp at hy
  | [], _ :: _, h, i, y, hy => by simp [sameEs] at h
  | _ :: _, [], h, i, y, hy => by simp at hy
  | x :: r, z :: s, h, 0, y, hy => by
    simp only [sameEs, sameE, Bool.and_eq_true] at h
    obtain rfl : z = y := by simpa using hy
    exact ⟨x, rfl, hd_ext h.1.1⟩
  | x :: r, z :: s, h, i + 1, y, hy => by
    simp only [sameEs, Bool.and_eq_true] at h
    obtain ⟨q, h1, h2⟩ := same_get h.2 (i := i) (y := y) (by simpa using hy)
    exact ⟨q, by simpa using h1, h2⟩
/-- What the book has beside cards. -/
def pT1 : Pl := { plNew with nms := plNew.nms.set 5 ⟨#[100, 114, 97, 105, 110]⟩ }
def pT2 : Pl := { pT1 with nms := pT1.nms.set 4 ⟨#[108, 111, 110, 101]⟩ }
def pS : Pl := { pT2 with shut := true }
theorem tr_one : trE plNew 5 ⟨#[100, 114, 97, 105, 110]⟩ = 0 := by decide +kernel
theorem tr_two : trE pT1 4 ⟨#[108, 111, 110, 101]⟩ = 0 := by decide +kernel
theorem trP_one : trP plNew 5 ⟨#[100, 114, 97, 105, 110]⟩ = pT1 := if_pos tr_one
theorem trP_two : trP pT1 4 ⟨#[108, 111, 110, 101]⟩ = pT2 := if_pos tr_two
theorem wisp_zero : caE pT2 rowF (wispH.with []) = 0 := by decide +kernel
theorem seal_G : sealE pT2 rowG = 0 := by decide +kernel
theorem sealP_G {es : List Ent} (h : sealE pT2 es = 0) : sealP pT2 es = pS := if_pos h
theorem rowG_mem (z : Ent) : z ∈ rowG ↔ z = ⟨wispH, .bool false, []⟩ ∨ z ∈ rowF := List.mem_cons
theorem LAt.cr {w w' : World} {g : Nat} {es : List Ent} (A : LAt w w' g es) : Cr w'.heap.size specL w' g es := ⟨Crs.of A.is, ⟨[], by rw [List.append_nil]; exact A.lies⟩, fun e he => own_off (A.own.own e he) A.lies⟩
def nCells : Array Value := #[.string ⟨#[119, 105, 115, 112]⟩, .string ⟨#[100, 101, 119]⟩, .string ⟨#[100, 114, 111, 112]⟩, .string ⟨#[109, 105, 114, 114, 111, 114]⟩, .string ⟨#[115, 105, 114, 101, 110]⟩, .string ⟨#[115, 112, 114, 105, 110, 103]⟩, .string ⟨#[116, 105, 100, 101]⟩]
end Go.Proofs.YtcldncojpgipcaaDoor
