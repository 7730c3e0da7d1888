/-
  Lists held against each other: SameCards, SameTraits; SameMarks of none.
-/
import Derived.Test.YtpoicbefemjckaaSuG
namespace Go.Proofs.Ytpoicbefemjckaa
open Go.RowKit

theorem erow_of {w : World} {g : Nat} {es : List Ent} {t : TypeId} (h : w.heap[g]? = some (.cells (ecells es).toArray t (0, 0))) {j : Nat} {e : Ent} (he : es[j]? = some e) : C9 w g (j * 9) e.h e.v := by
  have at_ : ∀ k u, k < 9 → (cvs e.h e.v)[k]? = some u → w.cell? ⟨g, j * 9 + k, none⟩ = some u := fun k u hk hu => by
    rw [block_cell h, List.getElem?_toArray, ecells_at es j e he k hk]
    exact hu
  exact ⟨at_ 0 _ (by omega) rfl, at_ 1 _ (by omega) rfl, at_ 2 _ (by omega) rfl, at_ 3 _ (by omega) rfl, at_ 4 _ (by omega) rfl, at_ 5 _ (by omega) rfl, at_ 6 _ (by omega) rfl, at_ 7 _ (by omega) rfl, at_ 8 _ (by omega) rfl⟩
def Row2 (g g' j : Nat) (a b : Ent) (w0 w : World) : Prop := (C9 w g (j * 9) a.h a.v ∧ C9 w g' (j * 9) b.h b.v) ∧ w0.grownBy w none
set_option maxRecDepth 100000 in
set_option maxHeartbeats 2000000 in
theorem sameCards_any (g g' c c' : Nat) (es fs : List Ent) (w : World) (hE : w.heap[g]? = some (.cells (ecells es).toArray 47 (0, 0))) (hF : w.heap[g']? = some (.cells (ecells fs).toArray 47 (0, 0))) (hP : ∀ e ∈ es, PsAt w e.v e.ps) (hQ : ∀ e ∈ fs, PsAt w e.v e.ps) (h4 : ∀ e ∈ es, e.ps.length ≤ 4) (hl : es.length ≤ 64) (hs : es.map (fun e => (e.h, e.ps)) = fs.map (fun e => (e.h, e.ps))) : Calls Try.prog 9 #[.slice (some ⟨g, 0, none⟩) es.length c, .slice (some ⟨g', 0, none⟩) fs.length c'] w fun e w' => e = .returned (.bool true) ∧ w.grownBy w' none := by
  have hlen : es.length = fs.length := by have := congrArg List.length hs; simpa using this
  have HE : Hid (w.heap[g]? = some (.cells (ecells es).toArray 47 (0, 0))) := hE
  have HF : Hid (w.heap[g']? = some (.cells (ecells fs).toArray 47 (0, 0))) := hF
  have HP : Hid (∀ e ∈ es, PsAt w e.v e.ps) := hP
  have HQ : Hid (∀ e ∈ fs, PsAt w e.v e.ps) := hQ
  have H4 : Hid (∀ e ∈ es, e.ps.length ≤ 4) := h4
  have HS : Hid (es.map (fun e => (e.h, e.ps)) = fs.map (fun e => (e.h, e.ps))) := hs
  have hsm : Small es.length := by unfold Small; omega
  rw [← hlen]
  have HL : Hid (es.length = fs.length) := hlen
  clear hE hF hP hQ h4 hs hlen hl
  go_enter Try.func9, Try.ntmps9
  go_wp2_with fail
  go_loopw [5] (fun x5 wr => ∃ k : Nat, k ≤ es.length ∧ x5 = .int .i64 (k : Int) ∧ w.grownBy wr none) (fun x5 _ => es.length - (intOf x5).toNat)
  case atStart => exact ⟨0, Nat.zero_le _, rfl, grown_refl _ _⟩
  case round =>
    obtain ⟨k, hk, rfl, G⟩ := hrel
    obtain ⟨U, hU⟩ : ∃ U, U = wr := ⟨_, rfl⟩
    subst hU
    have HG : Hid (w.grownBy U none) := G
    clear G
    rcases (show k < es.length ∨ k = es.length from by omega) with hkl | hke
    · have k0 : (0 : Int) ≤ (k : Int) := by omega
      have k1 : (k : Int) < (es.length : Int) := by omega
      obtain ⟨a, ha⟩ : ∃ a, es[k]? = some a := ⟨_, List.getElem?_eq_getElem hkl⟩
      obtain ⟨b, hb⟩ : ∃ b, fs[k]? = some b := ⟨_, List.getElem?_eq_getElem (by rw [← HL.out]; exact hkl)⟩
      have hab : a.h = b.h ∧ a.ps = b.ps := by
        have h1 : (es.map (fun e => (e.h, e.ps)))[k]? = some (a.h, a.ps) := by rw [List.getElem?_map, ha]; rfl
        rw [HS.out, List.getElem?_map, hb] at h1
        injection h1 with h1
        injection h1 with h1 h2
        exact ⟨h1.symm, h2.symm⟩
      have H0 : Row2 g g' k a b U U.drew := ⟨⟨(erow_of (grown_keep HG.out HE.out (by simp)) ha).keep (grown_drew _), (erow_of (grown_keep HG.out HF.out (by simp)) hb).keep (grown_drew _)⟩, grown_drew _⟩
      have HSC := sameCard_any a.h b.h a.v b.v a.ps b.ps U.drew ((HP.out a (List.mem_of_getElem? ha)).keep (grown_trans HG.out (grown_drew _))) ((HQ.out b (List.mem_of_getElem? hb)).keep (grown_trans HG.out (grown_drew _))) (by have := H4.out a (List.mem_of_getElem? ha); unfold Small; omega)
      rw [hab.1, hab.2, sameHd_refl, samePs_refl] at HSC
      have fa := (HP.out a (List.mem_of_getElem? ha)).form
      have fb := (HQ.out b (List.mem_of_getElem? hb)).form
      obtain ⟨ah, av, aps⟩ := a
      obtain ⟨bh, bv, bps⟩ := b
      simp only at hab fa fb HSC H0
      obtain ⟨rfl, rfl⟩ := hab
      obtain ⟨xa, ya, rfl⟩ := fa
      obtain ⟨xb, yb, rfl⟩ := fb
      unfold cv at HSC
      clear ha hb
      have H0k := H0
      go_upto_region 6 with fail
      refine wp_region_held_drew (S := Row2 g g' k ⟨ah, .slice xa aps.length ya, aps⟩ ⟨ah, .slice xb aps.length yb, aps⟩ U) (by kernel_rfl) H0 (fun hHeld => ?_)
      refine wpAnyH_take (i := 0) (v := ?_) rfl (by kernel_rfl) (by kernel_rfl) (by kernel_rfl) (fun _ _ _ h => h) (Or.inl ⟨by rfl, ?_⟩) (by assumption) ?_
      rotate_left 1
      · (intro w0 hSw; go_simp; try with_reducible rfl)
      simp only [List.getElem_toArray, List.getElem_cons_zero]
      go_frame
      refine wpAnyH_take (i := 1) (v := ?_) rfl (by kernel_rfl) (by kernel_rfl) (by kernel_rfl) (fun _ _ _ h => h) (Or.inl ⟨by rfl, ?_⟩) (by assumption) ?_
      rotate_left 1
      · (intro w0 hSw; go_simp; try with_reducible rfl)
      simp only [List.getElem_toArray, List.getElem_cons_zero, List.getElem_cons_succ]
      go_frame
      refine wpAnyH_take (i := 2) (v := ?_) rfl (by kernel_rfl) (by kernel_rfl) (by kernel_rfl) (fun _ _ _ h => h) (Or.inl ⟨by rfl, ?_⟩) (by assumption) ?_
      rotate_left 1
      · (intro w0 hSw; go_simp; try with_reducible rfl)
      simp only [List.getElem_toArray, List.getElem_cons_zero, List.getElem_cons_succ]
      go_frame
      refine wpAnyH_take (i := 3) (v := ?_) rfl (by kernel_rfl) (by kernel_rfl) (by kernel_rfl) (fun _ _ _ h => h) (Or.inl ⟨by rfl, ?_⟩) (by assumption) ?_
      rotate_left 1
      · (intro w0 hSw; obtain ⟨z0, z1, z2, z3, z4, z5, z6, z7, z8⟩ := hSw.1.1; simp only at z0 z1 z2 z3 z4 z5 z6 z7 z8; go_simp; try with_reducible rfl)
      simp only [List.getElem_toArray, List.getElem_cons_zero, List.getElem_cons_succ]
      go_frame
      refine wpAnyH_take (i := 4) (v := ?_) rfl (by kernel_rfl) (by kernel_rfl) (by kernel_rfl) (fun _ _ _ h => h) (Or.inl ⟨by rfl, ?_⟩) (by assumption) ?_
      rotate_left 1
      · (intro w0 hSw; go_simp; try with_reducible rfl)
      simp only [List.getElem_toArray, List.getElem_cons_zero, List.getElem_cons_succ]
      go_frame
      refine wpAnyH_take (i := 5) (v := ?_) rfl (by kernel_rfl) (by kernel_rfl) (by kernel_rfl) (fun _ _ _ h => h) (Or.inl ⟨by rfl, ?_⟩) (by assumption) ?_
      rotate_left 1
      · (intro w0 hSw; go_simp; try with_reducible rfl)
      simp only [List.getElem_toArray, List.getElem_cons_zero, List.getElem_cons_succ]
      go_frame
      refine wpAnyH_take (i := 6) (v := ?_) rfl (by kernel_rfl) (by kernel_rfl) (by kernel_rfl) (fun _ _ _ h => h) (Or.inl ⟨by rfl, ?_⟩) (by assumption) ?_
      rotate_left 1
      · (intro w0 hSw; go_simp; try with_reducible rfl)
      simp only [List.getElem_toArray, List.getElem_cons_zero, List.getElem_cons_succ]
      go_frame
      refine wpAnyH_take (i := 7) (v := ?_) rfl (by kernel_rfl) (by kernel_rfl) (by kernel_rfl) (fun _ _ _ h => h) (Or.inl ⟨by rfl, ?_⟩) (by assumption) ?_
      rotate_left 1
      · (intro w0 hSw; obtain ⟨z0, z1, z2, z3, z4, z5, z6, z7, z8⟩ := hSw.1.2; simp only at z0 z1 z2 z3 z4 z5 z6 z7 z8; go_simp; try with_reducible rfl)
      simp only [List.getElem_toArray, List.getElem_cons_zero, List.getElem_cons_succ]
      go_frame
      refine wpAnyH_ready (rs := [8]) (by kernel_rfl) (by simp) ?_
      refine AllReadyH.cons rfl (fun K hK => ?_) AllReadyH.nil
      simp only [List.getElem_toArray, List.getElem_cons_zero, List.getElem_cons_succ]
      go_simp
      go_at_call 38
      refine (HSC).mono ?_
      rintro e U2 ⟨rfl, g2⟩
      refine hK.out _ _ (⟨⟨H0k.1.1.keep g2, H0k.1.2.keep g2⟩, grown_trans (grown_drew _) g2⟩) (fun hHeld2 => ?_)
      clear hK K
      (try go_frame)
      refine wpAnyH_take (i := 9) (v := ?_) rfl (by kernel_rfl) (by kernel_rfl) (by kernel_rfl) (fun _ _ _ h => h) (Or.inl ⟨by rfl, ?_⟩) (by assumption) ?_
      rotate_left 1
      · (intro w0 hSw; go_simp; try with_reducible rfl)
      simp only [List.getElem_toArray, List.getElem_cons_zero, List.getElem_cons_succ]
      go_frame
      refine wpAnyH_done (by kernel_rfl) ?_ _
      have HG2 : Hid (w.grownBy U2 none) := grown_trans HG.out hHeld2.2
      clear hHeld2 hHeld H0 H0k HSC g2
      go_wp2_with fail
      go_roundw
      case rel => exact ⟨k + 1, hkl, by first | rfl | (rw [hsm.wrap hkl]; rfl), HG2.out⟩
      case measure => first | exact meas_next hkl | (rw [hsm.wrap hkl]; exact meas_next hkl)
    · have k1 : ¬ (k : Int) < (es.length : Int) := by omega
      clear hke
      go_wp2
      go_ret
      exact ⟨rfl, HG.out⟩
end Go.Proofs.Ytpoicbefemjckaa
