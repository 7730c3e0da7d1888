/-
  StartKnown answers true: the document's examples of a log, and a log of 256 notes that takes no more. No condition.
-/
import Derived.Test.YtldjfeodeodcmaaAwake
import Derived.ProofKit
namespace Go.Proofs.Ytldjfeodeodcmaa
open Go.ChangeShapes Go.WideShapes Go.ChangeAt Go.RowKit

/-- 0, 1, .., n - 1. -/
def upTo (n : Nat) : List Int := (List.range n).map Int.ofNat
theorem length_upTo (n : Nat) : (upTo n).length = n := by simp [upTo]
theorem upTo_succ (n : Nat) : upTo n ++ [(n : Int)] = upTo (n + 1) := by simp [upTo, List.range_succ]
theorem upTo_at (n k : Nat) (h : k < n) : (upTo n).getD k 0 = k := by
  rw [getD_lt _ _ (by rw [length_upTo]; exact h)]; simp [upTo]
theorem first_upTo : first (upTo 256) 255 = 255 :=
  first_hit _ _ 255 (by rw [length_upTo]; omega) (upTo_at 256 255 (by omega)) (fun j hj => by rw [upTo_at 256 j (by omega)]; omega)

set_option maxRecDepth 100000 in
set_option maxHeartbeats 1000000 in
theorem known_any (w : World) : Calls Try.prog 6 #[] w fun e w' => e = .returned (.bool true) ∧ w.grownBy w' none := by
  go_enter Try.func6, Try.ntmps6
  go_wp2_with fail
  refine (new_any _).mono ?_
  rintro e w1 ⟨rfl, L1, G1, hs⟩
  clear hs
  generalize hb : w.heap.size = b at *
  have HB : Hid (w.heap.size = b) := hb
  clear hb
  go_wp2_with fail
  go_loopw [2] (fun i wr => ∃ k : Nat, k ≤ 256 ∧ i = .int .i64 k ∧ LogAt wr b (upTo k) false ∧ w.grownBy wr none) (fun i _ => 256 - (intOf i).toNat)
  case atStart => exact ⟨0, Nat.zero_le _, rfl, L1, G1⟩
  case round =>
    clear L1 G1
    obtain ⟨k, hk, rfl, L, G⟩ := hrel
    by_cases hlt : k < 256
    · go_wp2_with fail
      refine (note_ok b _ k _ L (by rw [length_upTo]; exact hlt)).mono ?_
      rintro e w2 ⟨rfl, L2, g2⟩
      rw [length_upTo]
      rw [upTo_succ] at L2
      have G2 := grown_own G g2 (fun x hx => by cases hx; exact Nat.le_of_eq HB.out)
      go_wp2
      go_roundw
      case rel => exact ⟨k + 1, by omega, by go_num, L2, G2⟩
      case measure => simp [intOf]; omega
    · have e : k = 256 := by omega
      subst e
      go_wp2_with fail
      refine (awake_any _).mono ?_
      rintro e w2 ⟨rfl, g2⟩
      have L2 := L.keep g2 (by simp)
      have G2 := grown_own G g2 (by simp)
      clear L G g2
      go_wp2_with fail
      refine (note_full b _ _ 256 w2 L2 (length_upTo _)).mono ?_
      rintro e w3 ⟨rfl, rfl⟩
      go_wp2_with fail
      refine (list_log b _ _ w3 L2).mono ?_
      rintro e w4 ⟨rfl, B4, g4⟩
      have L4 := L2.keep g4 (by simp)
      have G4 := grown_own G2 g4 (by simp)
      clear B4 g4 L2 G2
      rw [length_upTo]
      go_wp2_with fail
      refine (closed_log b _ _ w4 L4).mono ?_
      rintro e w5 ⟨rfl, rfl⟩
      go_wp2_with fail
      refine (first_log b _ _ 255 w5 L4).mono ?_
      rintro e w6 ⟨rfl, rfl⟩
      rw [first_upTo]
      go_wp2
      go_ret
      exact ⟨rfl, G4⟩

theorem Try.own : ownKnob Try.prog.godebug = none := by kernel_rfl
theorem Try.laidOut : laidOutB Try.prog = true := by kernel_rfl
theorem grown_below {w w' : World} (h : w.grownBy w' none) : Below w.heap.size w w' := ⟨h.os, h.tape, h.output, h.size, fun k hk => h.block k hk (by simp)⟩

set_option maxRecDepth 100000 in
theorem known_lifted (os : Os) (started : os.Started) (H : Type) (enc : TypeId × Value → H) :
    ReturnsInHanded {} Try.checked os 6 .any (Rows.startKnownSpec.pre6 enc Try.prog Try.f6 Rows.startKnownRow.domain false) (Rows.startKnownSpec.post enc Try.prog Try.f6 false true false false) := by
  refine returnsInHanded_of_change (C := Try.checked) Try.own started (by kernel_rfl) Try.func6
    (ChangeSpec.witness6 (enc := enc) (C := Try.checked) false ⟨#[], #[], []⟩ 8 (by kernel_rfl) (by kernel_rfl) (by kernel_rfl) (by kernel_rfl)) ?_
  intro W base args ds gs before hval0 hW hcnd _
  have hW' := hW
  obtain ⟨p, q, hA0, hV, rfl, hfz, hnd⟩ := hW
  have hA : DataW.TrodAll enc Try.prog W 0 (fun _ => true) true Try.f6.params.toList args.toList ds p := hA0
  rw [Try.params6] at hA
  obtain ⟨hargs, rfl, rfl⟩ := trodAll_none hA
  obtain ⟨rfl, rfl⟩ := trodVars_none hV
  clear hA0 hval0
  simp only [List.append_nil] at hW'
  rw [hargs] at hW' ⊢
  refine (known_any W).mono fun e W' ⟨he, hg⟩ => ?_
  subst he
  have hb := grown_below hg
  exact ⟨_, rfl, ⟨_, _, _, [], [], [], hW', trodAll_mk1 (shut_bool Try.underlying4 _), trodAll_mk0, rfl, hb.frame _, fun h => by cases h⟩⟩

theorem known_holds : Rows.StartKnownSaid :=
  OpenClaim.holds_of_wide 6 Try.f6 rfl rfl rfl rfl rfl rfl rfl ⟨rfl, rfl, rfl, rfl, rfl⟩ rfl rfl rfl rfl rfl (by kernel_rfl) Try.func6 (by kernel_rfl)
    (of_decide_eq_true (by kernel_rfl)) (by unfold Func.isWrapper; first | (rw [if_pos (by decide +kernel)]; kernel_rfl) | (rw [if_neg (by decide +kernel)]; exact ⟨rfl, rfl⟩))
    (fun os started H enc _ => known_lifted os started H enc)
#print axioms known_holds

end Go.Proofs.Ytldjfeodeodcmaa
