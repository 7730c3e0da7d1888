/-
  Lists held against each other: SameTraits, SameMarks, SameTexts of lists that are the same.
-/
import Derived.Test.YtpoicbefemjckaaApartM
namespace Go.Proofs.Ytpoicbefemjckaa
open Go.RowKit

set_option maxRecDepth 100000 in
set_option maxHeartbeats 2000000 in
theorem sameTraits_eq (g g' c c' : Nat) (ts : List Int) (w : World) (hE : ∀ (j : Nat) x, ts[j]? = some x → w.cell? ⟨g, j, none⟩ = some (.int .u8 x)) (hF : ∀ (j : Nat) x, ts[j]? = some x → w.cell? ⟨g', j, none⟩ = some (.int .u8 x)) (hs : ts.length ≤ 64) : Calls Try.prog 11 #[.slice (some ⟨g, 0, none⟩) ts.length c, .slice (some ⟨g', 0, none⟩) ts.length c'] w fun e w' => e = .returned (.bool true) ∧ w.grownBy w' none := by
  have HE : Hid (∀ (j : Nat) x, ts[j]? = some x → w.cell? ⟨g, j, none⟩ = some (.int .u8 x)) := hE
  have HF : Hid (∀ (j : Nat) x, ts[j]? = some x → w.cell? ⟨g', j, none⟩ = some (.int .u8 x)) := hF
  have hsm : Small ts.length := by unfold Small; omega
  clear hE hF hs
  go_enter Try.func11, Try.ntmps11
  go_wp2_with fail
  go_loopw [5] (fun x5 wr => ∃ k : Nat, k ≤ ts.length ∧ x5 = .int .i64 (k : Int) ∧ w.grownBy wr none) (fun x5 _ => ts.length - (intOf x5).toNat)
  case atStart => exact ⟨0, Nat.zero_le _, rfl, grown_refl _ _⟩
  case round =>
    obtain ⟨k, hk, rfl, G⟩ := hrel
    obtain ⟨U, hU⟩ : ∃ U, U = wr := ⟨_, rfl⟩
    subst hU
    have HG : Hid (w.grownBy U none) := G
    clear G
    rcases (show k < ts.length ∨ k = ts.length from by omega) with hkl | hke
    · have k0 : (0 : Int) ≤ (k : Int) := by omega
      have k1 : (k : Int) < (ts.length : Int) := by omega
      obtain ⟨x, hx⟩ : ∃ x, ts[k]? = some x := ⟨_, List.getElem?_eq_getElem hkl⟩
      have a0 := HG.out.cell (HE.out k x hx) (by simp)
      have b0 := HG.out.cell (HF.out k x hx) (by simp)
      have q0 : (x != x) = false := bne_self_eq_false x
      clear hx
      go_upto_region 6 with fail
      go_quiet (fail)
      go_wp2_with fail
      go_roundw
      case rel => exact ⟨k + 1, hkl, by first | rfl | (rw [hsm.wrap hkl]; rfl), grown_trans HG.out (grown_drewN _ _ _)⟩
      case measure => first | exact meas_next hkl | (rw [hsm.wrap hkl]; exact meas_next hkl)
    · have k1 : ¬ (k : Int) < (ts.length : Int) := by omega
      clear hke
      go_wp2
      go_ret
      exact ⟨rfl, HG.out⟩
set_option maxRecDepth 100000 in
set_option maxHeartbeats 2000000 in
theorem sameMarks_eq (g g' c c' : Nat) (ts : List Mk) (w : World) (hE : ∀ (j : Nat) x, ts[j]? = some x → M4 w g (j * 4) x) (hF : ∀ (j : Nat) x, ts[j]? = some x → M4 w g' (j * 4) x) (hs : ts.length ≤ 64) : Calls Try.prog 13 #[.slice (some ⟨g, 0, none⟩) ts.length c, .slice (some ⟨g', 0, none⟩) ts.length c'] w fun e w' => e = .returned (.bool true) ∧ w.grownBy w' none := by
  have HE : Hid (∀ (j : Nat) x, ts[j]? = some x → M4 w g (j * 4) x) := hE
  have HF : Hid (∀ (j : Nat) x, ts[j]? = some x → M4 w g' (j * 4) x) := hF
  have hsm : Small ts.length := by unfold Small; omega
  clear hE hF hs
  go_enter Try.func13, Try.ntmps13
  go_wp2_with fail
  go_loopw [5] (fun x5 wr => ∃ k : Nat, k ≤ ts.length ∧ x5 = .int .i64 (k : Int) ∧ w.grownBy wr none) (fun x5 _ => ts.length - (intOf x5).toNat)
  case atStart => exact ⟨0, Nat.zero_le _, rfl, grown_refl _ _⟩
  case round =>
    obtain ⟨k, hk, rfl, G⟩ := hrel
    obtain ⟨U, hU⟩ : ∃ U, U = wr := ⟨_, rfl⟩
    subst hU
    have HG : Hid (w.grownBy U none) := G
    clear G
    rcases (show k < ts.length ∨ k = ts.length from by omega) with hkl | hke
    · have k0 : (0 : Int) ≤ (k : Int) := by omega
      have k1 : (k : Int) < (ts.length : Int) := by omega
      obtain ⟨x, hx⟩ : ∃ x, ts[k]? = some x := ⟨_, List.getElem?_eq_getElem hkl⟩
      obtain ⟨a0, a1, a2, a3⟩ := (HE.out k x hx).keep HG.out
      obtain ⟨b0, b1, b2, b3⟩ := (HF.out k x hx).keep HG.out
      obtain ⟨xi, xn, xp, xh⟩ := x
      simp only at a0 a1 a2 a3 b0 b1 b2 b3
      have n0 := neq_mark xi xp xh xn
      have n1 := eqg_mark
      clear hx
      go_upto_region 6 with fail
      go_quiet (fail)
      go_wp2_with fail
      go_roundw
      case rel => exact ⟨k + 1, hkl, by first | rfl | (rw [hsm.wrap hkl]; rfl), grown_trans HG.out (grown_drewN _ _ _)⟩
      case measure => first | exact meas_next hkl | (rw [hsm.wrap hkl]; exact meas_next hkl)
    · have k1 : ¬ (k : Int) < (ts.length : Int) := by omega
      clear hke
      go_wp2
      go_ret
      exact ⟨rfl, HG.out⟩
end Go.Proofs.Ytpoicbefemjckaa
