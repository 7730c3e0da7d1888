/-
  CardSame, walked: of every two cards, Same tells whether all their fields and their parts are the same; what was handed in stays as it was.
-/
import Derived.Test.YtpceelbphpfciaaCSame
import Derived.Maps.RangeWalk
namespace Go.Proofs.Ytpceelbphpfciaa
open Go.RowKit

theorem own_head {w : World} {base g cap : Nat} {ps qs : List Pt} (h : POwn w base (.slice (some ⟨g, 0, none⟩) (ps.length + qs.length) cap) (ps ++ qs)) : PsAt w (.slice (some ⟨g, 0, none⟩) ps.length cap) ps := by
  have k := h.at
  rcases k with ⟨e, _⟩ | ⟨ad, cp, e, hc, h⟩
  · cases e
  · injection e with e1 _ e3
    injection e1 with e1
    subst e1
    subst e3
    refine Or.inr ⟨_, _, rfl, by rw [List.length_append] at hc; omega, fun j u hu => h j u ?_⟩
    rw [pcells_app, List.getElem?_append_left (List.getElem?_eq_some_iff.1 hu).1]
    exact hu
theorem grown_drew (w : World) : w.grownBy w.drew none := ⟨rfl, rfl, rfl, Nat.le_refl _, fun _ _ _ => rfl⟩
def PsAt.len (l : List Pt) (n : Nat) : Prop := l.length = n
theorem PsAt.len.small {l : List Pt} {n : Nat} (h : PsAt.len l (n + 2)) (k : Fits n) : Small l.length := by unfold PsAt.len at h; rw [h]; exact k.small2
/-- The four cards of the law, each in its block. -/
structure Four (w : World) (b0 b1 b2 b3 : Nat) (h k : Hd) (va vb ua ub : Value) : Prop where
  p : CAt w b0 h va
  q : CAt w b1 k vb
  r : CAt w b2 h ua
  s : CAt w b3 k ub
theorem Four.keep {w w' : World} {b0 b1 b2 b3 : Nat} {h k : Hd} {va vb ua ub : Value} (f : Four w b0 b1 b2 b3 h k va vb ua ub) (g : w.grownBy w' none) : Four w' b0 b1 b2 b3 h k va vb ua ub := ⟨f.p.keep g, f.q.keep g, f.r.keep g, f.s.keep g⟩
def FourS (b0 b1 b2 b3 : Nat) (h k : Hd) (va vb ua ub : Value) (w : World) : Prop := Four w b0 b1 b2 b3 h k va vb ua ub
set_option maxRecDepth 100000 in
set_option maxHeartbeats 8000000 in
theorem cardSame_any (h k : Hd) (va vb : Value) (ps qs : List Pt) (w : World) (ha : PsAt w va ps) (hb : PsAt w vb qs) (hP : Fits ps.length) (hQ : Fits qs.length) : Calls Try.prog 3 #[cv h va, cv k vb] w fun e w' => e = .returned (.bool true) ∧ w.grownBy w' none := by
  have HA : Hid (PsAt w va ps) := ha
  have HB : Hid (PsAt w vb qs) := hb
  obtain ⟨x, c, rfl⟩ := ha.form
  obtain ⟨y, d, rfl⟩ := hb.form
  clear ha hb
  unfold cv
  go_enter Try.func3, Try.ntmps3
  go_wp2_with fail
  refine (lentCard_any h _ ps _ (HA.out.keep (grown_push (World.grownBy_alloc _ _ none) _)) hP).mono ?_
  rintro e w1 ⟨g, rfl, hg, o1, g1⟩
  unfold cv
  rw [World.size_alloc, World.size_alloc] at o1 hg
  have C1 : CAt w1 w.heap.size h (.slice x ps.length c) := CAt.keep (CAt.keep (alloc_at w (ccs h (.slice x ps.length c)) 28) (World.grownBy_alloc _ (.cells (ccs k (.slice y qs.length d)) 28) none)) g1
  have D1 : CAt w1 (w.heap.size + 1) k (.slice y qs.length d) := by
    refine CAt.keep ?_ g1
    have := alloc_at (w.alloc (.cells (ccs h (.slice x ps.length c)) 28)) (ccs k (.slice y qs.length d)) 28
    rw [World.size_alloc] at this
    exact this
  have G1 : w.grownBy w1 none := grown_trans (grown_push (World.grownBy_alloc _ _ none) _) g1
  clear g1
  obtain ⟨d0, d1, d2, d3, d4, d5, d6, d7, d8⟩ := (D1.keep (World.grownBy_alloc w1 (.cells (ccs h (.slice (some ⟨g, 0, none⟩) ps.length (ps.length + 2))) 28) none)).cells
  unfold ccs at d0 d1 d2 d3 d4 d5 d6 d7 d8
  have HC : Hid (CAt w1 w.heap.size h (.slice x ps.length c)) := C1
  have HD : Hid (CAt w1 (w.heap.size + 1) k (.slice y qs.length d)) := D1
  have HG : Hid (w.grownBy w1 none) := G1
  have HO : Hid (POwn w1 (w.heap.size + 1 + 1) (.slice (some ⟨g, 0, none⟩) (ps.length + 2) (ps.length + 2)) (ps ++ [mkP, mkP])) := o1
  clear C1 D1 G1 o1
  go_wp2_with fail
  refine (lentCard_any k _ qs _ (HB.out.keep (grown_push HG.out _)) hQ).mono ?_
  rintro e w2 ⟨g', rfl, hg', o2, g2⟩
  unfold cv
  rw [World.size_alloc] at o2 hg'
  have g12 : w1.grownBy w2 none := grown_trans (World.grownBy_alloc _ _ none) g2
  have HG2 : Hid (w.grownBy w2 none) := grown_trans HG.out g12
  have HS1 : Hid (w1.heap.size < w2.heap.size) := by
    have := g2.size
    rw [World.size_alloc] at this
    exact this
  have F2 : Four (w2.alloc (.cells (ccs k (.slice (some ⟨g', 0, none⟩) qs.length (qs.length + 2))) 28)) w.heap.size (w.heap.size + 1) w1.heap.size w2.heap.size h k (.slice x ps.length c) (.slice y qs.length d) (.slice (some ⟨g, 0, none⟩) ps.length (ps.length + 2)) (.slice (some ⟨g', 0, none⟩) qs.length (qs.length + 2)) :=
    ⟨(HC.out.keep g12).keep (World.grownBy_alloc _ _ none), (HD.out.keep g12).keep (World.grownBy_alloc _ _ none), (CAt.keep (alloc_at w1 (ccs h (.slice (some ⟨g, 0, none⟩) ps.length (ps.length + 2))) 28) g2).keep (World.grownBy_alloc _ _ none), alloc_at w2 _ _⟩
  have PF : Hid (PsAt w2 (.slice (some ⟨g, 0, none⟩) (ps.length + 2) (ps.length + 2)) (ps ++ [mkP, mkP])) := HO.out.at.keep g12
  have PH : Hid (PsAt w2 (.slice (some ⟨g, 0, none⟩) ps.length (ps.length + 2)) ps) := (own_head (qs := [mkP, mkP]) HO.out).keep g12
  have QF : Hid (PsAt w2 (.slice (some ⟨g', 0, none⟩) (qs.length + 2) (qs.length + 2)) (qs ++ [mkP, mkP])) := o2.at
  have QH : Hid (PsAt w2 (.slice (some ⟨g', 0, none⟩) qs.length (qs.length + 2)) qs) := own_head (qs := [mkP, mkP]) o2
  have PA : Hid (PsAt w2 (.slice x ps.length c) ps) := HA.out.keep HG2.out
  have QA : Hid (PsAt w2 (.slice y qs.length d) qs) := HB.out.keep HG2.out
  clear g2 g12 o2 HC HD HO HA HB d0 d1 d2 d3 d4 d5 d6 d7 d8 HG
  obtain ⟨W0, hW0⟩ : ∃ W0, W0 = (w2.alloc (.cells (ccs k (.slice (some ⟨g', 0, none⟩) qs.length (qs.length + 2))) 28)) := ⟨_, rfl⟩
  rw [← hW0] at F2
  have G0 : w2.grownBy W0 none := by rw [hW0]; exact World.grownBy_alloc _ _ none
  have H0 : FourS w.heap.size (w.heap.size + 1) w1.heap.size w2.heap.size h k (.slice x ps.length c) (.slice y qs.length d) (.slice (some ⟨g, 0, none⟩) ps.length (ps.length + 2)) (.slice (some ⟨g', 0, none⟩) qs.length (qs.length + 2)) W0.drew := F2.keep (grown_drew _)
  have M0 : Hid (w2.grownBy W0.drew none) := grown_trans G0 (grown_drew _)
  unfold ccs at hW0
  clear F2 G0
  go_wp2_with fail
  rw [← hW0]
  clear hW0
  have L2 : PsAt.len (ps ++ [mkP, mkP]) (ps.length + 2) := by unfold PsAt.len; simp
  have L3 : PsAt.len (qs ++ [mkP, mkP]) (qs.length + 2) := by unfold PsAt.len; simp
  refine wp_region_held_drew (S := FourS w.heap.size (w.heap.size + 1) w1.heap.size w2.heap.size h k (.slice x ps.length c) (.slice y qs.length d) (.slice (some ⟨g, 0, none⟩) ps.length (ps.length + 2)) (.slice (some ⟨g', 0, none⟩) qs.length (qs.length + 2))) (by kernel_rfl) H0 (fun hHeld => ?_)
  clear hHeld
  refine wpAnyH_take (i := 0) (v := ?_) rfl (by kernel_rfl) (by kernel_rfl) (by kernel_rfl) (fun _ _ _ h => h) (Or.inl ⟨by rfl, ?_⟩) (by assumption) ?_
  rotate_left 1
  · (intro w0 hSw; obtain ⟨c0, c1, c2, c3, c4, c5, c6, c7, c8⟩ := CAt.cells (Four.r hSw); go_simp; try with_reducible rfl)
  simp only [List.getElem_toArray, List.getElem_cons_zero]
  go_frame
  refine wpAnyH_take (i := 1) (v := ?_) rfl (by kernel_rfl) (by kernel_rfl) (by kernel_rfl) (fun _ _ _ h => h) (Or.inl ⟨by rfl, ?_⟩) (by assumption) ?_
  rotate_left 1
  · (intro w0 hSw; obtain ⟨c0, c1, c2, c3, c4, c5, c6, c7, c8⟩ := CAt.cells (Four.s hSw); go_simp; try with_reducible rfl)
  simp only [List.getElem_toArray, List.getElem_cons_zero, List.getElem_cons_succ]
  go_frame
  refine wpAnyH_take (i := 3) (v := ?_) rfl (by kernel_rfl) (by kernel_rfl) (by kernel_rfl) (fun _ _ _ h => h) (Or.inl ⟨by rfl, ?_⟩) (by assumption) ?_
  rotate_left 1
  · (intro w0 hSw; obtain ⟨c0, c1, c2, c3, c4, c5, c6, c7, c8⟩ := CAt.cells (Four.p hSw); go_simp; try with_reducible rfl)
  simp only [List.getElem_toArray, List.getElem_cons_zero, List.getElem_cons_succ]
  go_frame
  refine wpAnyH_take (i := 4) (v := ?_) rfl (by kernel_rfl) (by kernel_rfl) (by kernel_rfl) (fun _ _ _ h => h) (Or.inl ⟨by rfl, ?_⟩) (by assumption) ?_
  rotate_left 1
  · (intro w0 hSw; obtain ⟨c0, c1, c2, c3, c4, c5, c6, c7, c8⟩ := CAt.cells (Four.q hSw); go_simp; try with_reducible rfl)
  simp only [List.getElem_toArray, List.getElem_cons_zero, List.getElem_cons_succ]
  go_frame
  refine wpAnyH_ready (rs := [2]) (by kernel_rfl) (by simp) ?_
  refine AllReadyH.cons rfl (fun K hK => ?_) AllReadyH.nil
  simp only [List.getElem_toArray, List.getElem_cons_zero, List.getElem_cons_succ]
  go_simp
  go_at_call 5
  refine (same_card h k _ _ ps qs _ (PH.out.keep M0.out) (QH.out.keep M0.out) hP.small).mono ?_
  rintro e v1 ⟨rfl, k1⟩
  have M1 : Hid (w2.grownBy v1 none) := grown_trans M0.out k1
  have H1 : FourS w.heap.size (w.heap.size + 1) w1.heap.size w2.heap.size h k (.slice x ps.length c) (.slice y qs.length d) (.slice (some ⟨g, 0, none⟩) ps.length (ps.length + 2)) (.slice (some ⟨g', 0, none⟩) qs.length (qs.length + 2)) v1 := Four.keep H0 k1
  clear H0
  refine hK.out _ _ (H1) (fun hHeld2 => ?_)
  clear hK K
  (try go_frame)
  refine wpAnyH_ready (rs := [5]) (by kernel_rfl) (by simp) ?_
  refine AllReadyH.cons rfl (fun K hK => ?_) AllReadyH.nil
  simp only [List.getElem_toArray, List.getElem_cons_zero, List.getElem_cons_succ]
  go_simp
  go_at_call 6
  refine (sameCard_any h k _ _ ps qs _ (PA.out.keep M1.out) (QA.out.keep M1.out) hP.small).mono ?_
  rintro e v2 ⟨rfl, k2⟩
  have M2 : Hid (w2.grownBy v2 none) := grown_trans M1.out k2
  have H2 : FourS w.heap.size (w.heap.size + 1) w1.heap.size w2.heap.size h k (.slice x ps.length c) (.slice y qs.length d) (.slice (some ⟨g, 0, none⟩) ps.length (ps.length + 2)) (.slice (some ⟨g', 0, none⟩) qs.length (qs.length + 2)) v2 := Four.keep H1 k2
  clear H1
  refine hK.out _ _ (H2) (fun hHeld2 => ?_)
  clear hK K
  (try go_frame)
  refine wpAnyH_take (i := 6) (v := ?_) rfl (by kernel_rfl) (by kernel_rfl) (by kernel_rfl) (fun _ _ _ h => h) (Or.inl ⟨by rfl, ?_⟩) (by assumption) ?_
  rotate_left 1
  · (intro w0 hSw; go_simp; try with_reducible rfl)
  simp only [List.getElem_toArray, List.getElem_cons_zero, List.getElem_cons_succ]
  go_frame
  refine wpAnyH_take (i := 7) (v := ?_) rfl (by kernel_rfl) (by kernel_rfl) (by kernel_rfl) (fun _ _ _ h => h) (Or.inl ⟨by rfl, ?_⟩) (by assumption) ?_
  rotate_left 1
  · (intro w0 hSw; go_simp; try with_reducible rfl)
  simp only [List.getElem_toArray, List.getElem_cons_zero, List.getElem_cons_succ]
  go_frame
  refine wpAnyH_take (i := 8) (v := ?_) rfl (by kernel_rfl) (by kernel_rfl) (by kernel_rfl) (fun _ _ _ h => h) (Or.inl ⟨by rfl, ?_⟩) (by assumption) ?_
  rotate_left 1
  · (intro w0 hSw; obtain ⟨c0, c1, c2, c3, c4, c5, c6, c7, c8⟩ := CAt.cells (Four.r hSw); go_simp; try with_reducible rfl)
  simp only [List.getElem_toArray, List.getElem_cons_zero, List.getElem_cons_succ]
  go_frame
  refine wpAnyH_take (i := 9) (v := ?_) rfl (by kernel_rfl) (by kernel_rfl) (by kernel_rfl) (fun _ _ _ h => h) (Or.inl ⟨by rfl, ?_⟩) (by assumption) ?_
  rotate_left 1
  · (intro w0 hSw; obtain ⟨c0, c1, c2, c3, c4, c5, c6, c7, c8⟩ := CAt.cells (Four.r hSw); go_simp; try with_reducible rfl)
  simp only [List.getElem_toArray, List.getElem_cons_zero, List.getElem_cons_succ]
  go_frame
  refine wpAnyH_ready (rs := [10]) (by kernel_rfl) (by simp) ?_
  refine AllReadyH.cons rfl (fun K hK => ?_) AllReadyH.nil
  simp only [List.getElem_toArray, List.getElem_cons_zero, List.getElem_cons_succ]
  go_simp
  go_at_call 5
  refine (same_card h h _ _ ps ps _ (PH.out.keep M2.out) (PH.out.keep M2.out) hP.small).mono ?_
  rintro e v3 ⟨rfl, k3⟩
  rw [sameHd_refl, samePs_refl]
  have M3 : Hid (w2.grownBy v3 none) := grown_trans M2.out k3
  have H3 : FourS w.heap.size (w.heap.size + 1) w1.heap.size w2.heap.size h k (.slice x ps.length c) (.slice y qs.length d) (.slice (some ⟨g, 0, none⟩) ps.length (ps.length + 2)) (.slice (some ⟨g', 0, none⟩) qs.length (qs.length + 2)) v3 := Four.keep H2 k3
  clear H2
  refine hK.out _ _ (H3) (fun hHeld2 => ?_)
  clear hK K
  (try go_frame)
  refine wpAnyH_take (i := 11) (v := ?_) rfl (by kernel_rfl) (by kernel_rfl) (by kernel_rfl) (fun _ _ _ h => h) (Or.inl ⟨by rfl, ?_⟩) (by assumption) ?_
  rotate_left 1
  · (intro w0 hSw; go_simp; try with_reducible rfl)
  simp only [List.getElem_toArray, List.getElem_cons_zero, List.getElem_cons_succ]
  go_frame
  refine wpAnyH_take (i := 12) (v := ?_) rfl (by kernel_rfl) (by kernel_rfl) (by kernel_rfl) (fun _ _ _ h => h) (Or.inl ⟨by rfl, ?_⟩) (by assumption) ?_
  rotate_left 1
  · (intro w0 hSw; go_simp; try with_reducible rfl)
  simp only [List.getElem_toArray, List.getElem_cons_zero, List.getElem_cons_succ]
  go_frame
  refine wpAnyH_take (i := 13) (v := ?_) rfl (by kernel_rfl) (by kernel_rfl) (by kernel_rfl) (fun _ _ _ h => h) (Or.inl ⟨by rfl, ?_⟩) (by assumption) ?_
  rotate_left 1
  · (intro w0 hSw; go_simp; try with_reducible rfl)
  simp only [List.getElem_toArray, List.getElem_cons_zero, List.getElem_cons_succ]
  go_frame
  refine wpAnyH_take (i := 14) (v := ?_) rfl (by kernel_rfl) (by kernel_rfl) (by kernel_rfl) (fun _ _ _ h => h) (Or.inl ⟨by rfl, ?_⟩) (by assumption) ?_
  rotate_left 1
  · (intro w0 hSw; go_simp; try with_reducible rfl)
  simp only [List.getElem_toArray, List.getElem_cons_zero, List.getElem_cons_succ]
  go_frame
  refine wpAnyH_take (i := 15) (v := ?_) rfl (by kernel_rfl) (by kernel_rfl) (by kernel_rfl) (fun _ _ _ h => h) (Or.inl ⟨by rfl, ?_⟩) (by assumption) ?_
  rotate_left 1
  · (intro w0 hSw; obtain ⟨c0, c1, c2, c3, c4, c5, c6, c7, c8⟩ := CAt.cells (Four.p hSw); go_simp; try with_reducible rfl)
  simp only [List.getElem_toArray, List.getElem_cons_zero, List.getElem_cons_succ]
  go_frame
  refine wpAnyH_ready (rs := [16]) (by kernel_rfl) (by simp) ?_
  refine AllReadyH.cons rfl (fun K hK => ?_) AllReadyH.nil
  simp only [List.getElem_toArray, List.getElem_cons_zero, List.getElem_cons_succ]
  go_simp
  go_at_call 7
  refine (kept_any _ _ (ps ++ [mkP, mkP]) ps _ (PF.out.keep M3.out) (PA.out.keep M3.out) (L2.small hP) hP).mono ?_
  rintro e v4 ⟨rfl, k4⟩
  rw [samePs_refl]
  have M4 : Hid (w2.grownBy v4 none) := grown_trans M3.out k4
  have H4 : FourS w.heap.size (w.heap.size + 1) w1.heap.size w2.heap.size h k (.slice x ps.length c) (.slice y qs.length d) (.slice (some ⟨g, 0, none⟩) ps.length (ps.length + 2)) (.slice (some ⟨g', 0, none⟩) qs.length (qs.length + 2)) v4 := Four.keep H3 k4
  clear H3
  refine hK.out _ _ (H4) (fun hHeld2 => ?_)
  clear hK K
  (try go_frame)
  refine wpAnyH_take (i := 17) (v := ?_) rfl (by kernel_rfl) (by kernel_rfl) (by kernel_rfl) (fun _ _ _ h => h) (Or.inl ⟨by rfl, ?_⟩) (by assumption) ?_
  rotate_left 1
  · (intro w0 hSw; go_simp; try with_reducible rfl)
  simp only [List.getElem_toArray, List.getElem_cons_zero, List.getElem_cons_succ]
  go_frame
  refine wpAnyH_take (i := 18) (v := ?_) rfl (by kernel_rfl) (by kernel_rfl) (by kernel_rfl) (fun _ _ _ h => h) (Or.inl ⟨by rfl, ?_⟩) (by assumption) ?_
  rotate_left 1
  · (intro w0 hSw; go_simp; try with_reducible rfl)
  simp only [List.getElem_toArray, List.getElem_cons_zero, List.getElem_cons_succ]
  go_frame
  refine wpAnyH_take (i := 19) (v := ?_) rfl (by kernel_rfl) (by kernel_rfl) (by kernel_rfl) (fun _ _ _ h => h) (Or.inl ⟨by rfl, ?_⟩) (by assumption) ?_
  rotate_left 1
  · (intro w0 hSw; go_simp; try with_reducible rfl)
  simp only [List.getElem_toArray, List.getElem_cons_zero, List.getElem_cons_succ]
  go_frame
  refine wpAnyH_take (i := 20) (v := ?_) rfl (by kernel_rfl) (by kernel_rfl) (by kernel_rfl) (fun _ _ _ h => h) (Or.inl ⟨by rfl, ?_⟩) (by assumption) ?_
  rotate_left 1
  · (intro w0 hSw; go_simp; try with_reducible rfl)
  simp only [List.getElem_toArray, List.getElem_cons_zero, List.getElem_cons_succ]
  go_frame
  refine wpAnyH_take (i := 21) (v := ?_) rfl (by kernel_rfl) (by kernel_rfl) (by kernel_rfl) (fun _ _ _ h => h) (Or.inl ⟨by rfl, ?_⟩) (by assumption) ?_
  rotate_left 1
  · (intro w0 hSw; obtain ⟨c0, c1, c2, c3, c4, c5, c6, c7, c8⟩ := CAt.cells (Four.q hSw); go_simp; try with_reducible rfl)
  simp only [List.getElem_toArray, List.getElem_cons_zero, List.getElem_cons_succ]
  go_frame
  refine wpAnyH_ready (rs := [22]) (by kernel_rfl) (by simp) ?_
  refine AllReadyH.cons rfl (fun K hK => ?_) AllReadyH.nil
  simp only [List.getElem_toArray, List.getElem_cons_zero, List.getElem_cons_succ]
  go_simp
  go_at_call 7
  refine (kept_any _ _ (qs ++ [mkP, mkP]) qs _ (QF.out.keep M4.out) (QA.out.keep M4.out) (L3.small hQ) hQ).mono ?_
  rintro e v5 ⟨rfl, k5⟩
  rw [samePs_refl]
  have M5 : Hid (w2.grownBy v5 none) := grown_trans M4.out k5
  have H5 : FourS w.heap.size (w.heap.size + 1) w1.heap.size w2.heap.size h k (.slice x ps.length c) (.slice y qs.length d) (.slice (some ⟨g, 0, none⟩) ps.length (ps.length + 2)) (.slice (some ⟨g', 0, none⟩) qs.length (qs.length + 2)) v5 := Four.keep H4 k5
  clear H4
  refine hK.out _ _ (H5) (fun hHeld2 => ?_)
  clear hK K
  (try go_frame)
  refine wpAnyH_take (i := 23) (v := ?_) rfl (by kernel_rfl) (by kernel_rfl) (by kernel_rfl) (fun _ _ _ h => h) (Or.inl ⟨by rfl, ?_⟩) (by assumption) ?_
  rotate_left 1
  · (intro w0 hSw; go_simp; try with_reducible rfl)
  simp only [List.getElem_toArray, List.getElem_cons_zero, List.getElem_cons_succ]
  go_frame
  refine wpAnyH_take (i := 24) (v := ?_) rfl (by kernel_rfl) (by kernel_rfl) (by kernel_rfl) (fun _ _ _ h => h) (Or.inl ⟨by rfl, ?_⟩) (by assumption) ?_
  rotate_left 1
  · (intro w0 hSw; go_simp; try with_reducible rfl)
  simp only [List.getElem_toArray, List.getElem_cons_zero, List.getElem_cons_succ]
  go_frame
  refine wpAnyH_done (by kernel_rfl) ?_ _
  go_wp2_with fail
  go_ret
  exact ⟨rfl, grown_trans HG2.out M5.out⟩
end Go.Proofs.Ytpceelbphpfciaa
