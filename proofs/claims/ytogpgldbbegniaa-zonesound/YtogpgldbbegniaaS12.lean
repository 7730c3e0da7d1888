/-
  Zones: may a thing be?
  Zones: are an owner's lists sound?
  Zones: do the stamps differ?
  Zones: areSound.
-/
import Derived.Test.YtogpgldbbegniaaZmU
namespace Go.Proofs.Ytogpgldbbegniaa
open Go.RowKit

def MbPost (w : World) (t : Th) (nx : Int) (e : Ending) (w' : World) : Prop := ∃ r : Bool, e = .returned (.bool r) ∧ (r = true ↔ t.alone nx) ∧ w.grownBy w' none
theorem mb_no {w w' : World} {t : Th} {nx : Int} (h : ¬ t.alone nx) (g : w.grownBy w' none) : MbPost w t nx (.returned (.bool false)) w' := ⟨false, rfl, ⟨fun q => (by cases q), fun q => absurd q h⟩, g⟩
set_option maxRecDepth 100000 in
set_option maxHeartbeats 4000000 in
theorem mb_card (b : Nat) (t : Th) (nx : Int) (w : World) (c5 : w.cell? ⟨b, 5, none⟩ = some (.int .i64 nx)) (h : t.card < 1) : Calls Try.prog 74 #[.pointer (some ⟨b, 0, none⟩), thv t] w (MbPost w t nx) := by
  unfold thv
  obtain ⟨X, hX⟩ : ∃ X, X = w.heap.size := ⟨_, rfl⟩
  obtain ⟨V, hV⟩ : ∃ V, V = w.alloc (.cells #[.int .i64 t.card, .int .i64 t.owner, .int .u8 t.place, .int .i64 t.stamp, .int .i64 t.hurt, .int .i64 t.m0, .int .i64 t.m1, .int .i64 t.m2, .int .i64 t.m3, .int .i64 t.done, .bool t.fresh] 38) := ⟨_, rfl⟩
  have HXe : Hid (X = w.heap.size) := hX
  have HV : Hid (V = w.alloc (.cells #[.int .i64 t.card, .int .i64 t.owner, .int .u8 t.place, .int .i64 t.stamp, .int .i64 t.hurt, .int .i64 t.m0, .int .i64 t.m1, .int .i64 t.m2, .int .i64 t.m3, .int .i64 t.done, .bool t.fresh] 38)) := hV
  have HGV : Hid (w.grownBy V none) := by show w.grownBy V none; rw [hV]; exact World.grownBy_alloc _ _ _
  have HS : Hid (V.heap[X]? = some (.cells (thc t).toArray 38 (0, 0))) := by show V.heap[X]? = _; rw [hV, hX]; exact alloc_at _ _ _
  have HB : Hid (V.cell? ⟨b, 5, none⟩ = some (.int .i64 nx)) := HGV.out.cell c5 (by simp)
  have O := isOwner_any t.owner V
  have P := isPlace_any t.place V
  have HF : Hid (MbPost w t nx (.returned (.bool false)) V) := mb_no (fun q => by have := q.1; omega) HGV.out
  rw [hV] at HF O P
  clear hX hV c5
  go_enter Try.func74, Try.ntmps74
  go_wp2
  go_ret
  exact HF.out
set_option maxRecDepth 100000 in
set_option maxHeartbeats 4000000 in
theorem mb_owner (b : Nat) (t : Th) (nx : Int) (w : World) (c5 : w.cell? ⟨b, 5, none⟩ = some (.int .i64 nx)) (h1 : ¬ t.card < 1) (h2 : ¬ (t.owner = 0 ∨ t.owner = 1)) : Calls Try.prog 74 #[.pointer (some ⟨b, 0, none⟩), thv t] w (MbPost w t nx) := by
  unfold thv
  obtain ⟨X, hX⟩ : ∃ X, X = w.heap.size := ⟨_, rfl⟩
  obtain ⟨V, hV⟩ : ∃ V, V = w.alloc (.cells #[.int .i64 t.card, .int .i64 t.owner, .int .u8 t.place, .int .i64 t.stamp, .int .i64 t.hurt, .int .i64 t.m0, .int .i64 t.m1, .int .i64 t.m2, .int .i64 t.m3, .int .i64 t.done, .bool t.fresh] 38) := ⟨_, rfl⟩
  have HXe : Hid (X = w.heap.size) := hX
  have HV : Hid (V = w.alloc (.cells #[.int .i64 t.card, .int .i64 t.owner, .int .u8 t.place, .int .i64 t.stamp, .int .i64 t.hurt, .int .i64 t.m0, .int .i64 t.m1, .int .i64 t.m2, .int .i64 t.m3, .int .i64 t.done, .bool t.fresh] 38)) := hV
  have HGV : Hid (w.grownBy V none) := by show w.grownBy V none; rw [hV]; exact World.grownBy_alloc _ _ _
  have HS : Hid (V.heap[X]? = some (.cells (thc t).toArray 38 (0, 0))) := by show V.heap[X]? = _; rw [hV, hX]; exact alloc_at _ _ _
  have HB : Hid (V.cell? ⟨b, 5, none⟩ = some (.int .i64 nx)) := HGV.out.cell c5 (by simp)
  have O := isOwner_any t.owner V
  have P := isPlace_any t.place V
  have HF : Hid (MbPost w t nx (.returned (.bool false)) V) := mb_no (fun q => h2 q.2.1) HGV.out
  rw [decide_eq_false h2] at O
  rw [hV] at HF O P
  clear hX hV c5
  clear h2
  go_enter Try.func74, Try.ntmps74
  go_wp2_with (first | (go_at_call 68; refine O.mono ?_; rintro e w9 ⟨rfl, h9⟩; subst h9) | (go_at_call 63; refine P.mono ?_; rintro e w9 ⟨rfl, h9⟩; subst h9))
  go_ret
  exact HF.out
set_option maxRecDepth 100000 in
set_option maxHeartbeats 4000000 in
theorem mb_place (b : Nat) (t : Th) (nx : Int) (w : World) (c5 : w.cell? ⟨b, 5, none⟩ = some (.int .i64 nx)) (h1 : ¬ t.card < 1) (h2 : t.owner = 0 ∨ t.owner = 1) (h3 : ¬ (1 ≤ t.place ∧ t.place ≤ 5)) : Calls Try.prog 74 #[.pointer (some ⟨b, 0, none⟩), thv t] w (MbPost w t nx) := by
  unfold thv
  obtain ⟨X, hX⟩ : ∃ X, X = w.heap.size := ⟨_, rfl⟩
  obtain ⟨V, hV⟩ : ∃ V, V = w.alloc (.cells #[.int .i64 t.card, .int .i64 t.owner, .int .u8 t.place, .int .i64 t.stamp, .int .i64 t.hurt, .int .i64 t.m0, .int .i64 t.m1, .int .i64 t.m2, .int .i64 t.m3, .int .i64 t.done, .bool t.fresh] 38) := ⟨_, rfl⟩
  have HXe : Hid (X = w.heap.size) := hX
  have HV : Hid (V = w.alloc (.cells #[.int .i64 t.card, .int .i64 t.owner, .int .u8 t.place, .int .i64 t.stamp, .int .i64 t.hurt, .int .i64 t.m0, .int .i64 t.m1, .int .i64 t.m2, .int .i64 t.m3, .int .i64 t.done, .bool t.fresh] 38)) := hV
  have HGV : Hid (w.grownBy V none) := by show w.grownBy V none; rw [hV]; exact World.grownBy_alloc _ _ _
  have HS : Hid (V.heap[X]? = some (.cells (thc t).toArray 38 (0, 0))) := by show V.heap[X]? = _; rw [hV, hX]; exact alloc_at _ _ _
  have HB : Hid (V.cell? ⟨b, 5, none⟩ = some (.int .i64 nx)) := HGV.out.cell c5 (by simp)
  have O := isOwner_any t.owner V
  have P := isPlace_any t.place V
  have HF : Hid (MbPost w t nx (.returned (.bool false)) V) := mb_no (fun q => h3 q.2.2.1) HGV.out
  rw [decide_eq_true h2] at O
  rw [decide_eq_false h3] at P
  rw [hV] at HF O P
  clear hX hV c5
  clear h2 h3
  go_enter Try.func74, Try.ntmps74
  go_wp2_with (first | (go_at_call 68; refine O.mono ?_; rintro e w9 ⟨rfl, h9⟩; subst h9) | (go_at_call 63; refine P.mono ?_; rintro e w9 ⟨rfl, h9⟩; subst h9))
  go_ret
  exact HF.out
set_option maxRecDepth 100000 in
set_option maxHeartbeats 4000000 in
theorem mb_off (b : Nat) (t : Th) (nx : Int) (w : World) (c5 : w.cell? ⟨b, 5, none⟩ = some (.int .i64 nx)) (h1 : ¬ t.card < 1) (h2 : t.owner = 0 ∨ t.owner = 1) (h3 : 1 ≤ t.place ∧ t.place ≤ 5) (h4 : t.place ≠ 4) : Calls Try.prog 74 #[.pointer (some ⟨b, 0, none⟩), thv t] w (MbPost w t nx) := by
  unfold thv
  obtain ⟨X, hX⟩ : ∃ X, X = w.heap.size := ⟨_, rfl⟩
  obtain ⟨V, hV⟩ : ∃ V, V = w.alloc (.cells #[.int .i64 t.card, .int .i64 t.owner, .int .u8 t.place, .int .i64 t.stamp, .int .i64 t.hurt, .int .i64 t.m0, .int .i64 t.m1, .int .i64 t.m2, .int .i64 t.m3, .int .i64 t.done, .bool t.fresh] 38) := ⟨_, rfl⟩
  have HXe : Hid (X = w.heap.size) := hX
  have HV : Hid (V = w.alloc (.cells #[.int .i64 t.card, .int .i64 t.owner, .int .u8 t.place, .int .i64 t.stamp, .int .i64 t.hurt, .int .i64 t.m0, .int .i64 t.m1, .int .i64 t.m2, .int .i64 t.m3, .int .i64 t.done, .bool t.fresh] 38)) := hV
  have HGV : Hid (w.grownBy V none) := by show w.grownBy V none; rw [hV]; exact World.grownBy_alloc _ _ _
  have HS : Hid (V.heap[X]? = some (.cells (thc t).toArray 38 (0, 0))) := by show V.heap[X]? = _; rw [hV, hX]; exact alloc_at _ _ _
  have HB : Hid (V.cell? ⟨b, 5, none⟩ = some (.int .i64 nx)) := HGV.out.cell c5 (by simp)
  have O := isOwner_any t.owner V
  have P := isPlace_any t.place V
  have q4 : (t.place != 4) = true := by simpa using h4
  rw [decide_eq_true h2] at O
  rw [decide_eq_true h3] at P
  have HA : Hid (t.alone nx ↔ t = t.home t.place) := ⟨fun q => q.2.2.2.1 h4, fun q => ⟨by omega, h2, h3, fun _ => q, fun q => absurd q h4⟩⟩
  have AH := atHome_any t t.place V.drew
  unfold thv at AH
  have heq := eql_th
  have hgq := eqg_th
  obtain ⟨r, hr⟩ : ∃ r, r = samet t (t.home t.place) := ⟨_, rfl⟩
  have HR : Hid (r = true ↔ t = t.home t.place) := by rw [hr]; exact samet_iff
  have hse : samet (⟨t.card, t.owner, t.place, t.stamp, t.hurt, t.m0, t.m1, t.m2, t.m3, t.done, t.fresh⟩ : Th) ⟨t.card, t.owner, t.place, 0, 0, 0, 0, 0, 0, 0, false⟩ = r := hr.symm
  rw [hV] at O P
  clear hX hV c5
  clear h2 h3 h4 hr
  go_enter Try.func74, Try.ntmps74
  go_upto_region 4 with (first | (go_at_call 68; refine O.mono ?_; rintro e w9 ⟨rfl, h9⟩; subst h9) | (go_at_call 63; refine P.mono ?_; rintro e w9 ⟨rfl, h9⟩; subst h9))
  rw [← HXe.out, ← HV.out]
  refine wp_region_held_drew (S := fun w' => w'.heap[X]? = some (.cells (thc t).toArray 38 (0, 0)) ∧ w'.cell? ⟨b, 5, none⟩ = some (.int .i64 nx)) (by kernel_rfl) (⟨grown_keep (grown_drew V) HS.out (by simp), (grown_drew V).cell HB.out (by simp)⟩) (fun hHeld => ?_)
  refine wpAnyH_take (i := 0) (v := ?_) rfl (by kernel_rfl) (by kernel_rfl) (by kernel_rfl) (fun _ _ _ h => h) (Or.inl ⟨by rfl, ?_⟩) (by assumption) ?_
  rotate_left 1
  · (intro w0 hSw; obtain ⟨r0, r1, r2, r3, r4, r5, r6, r7, r8, r9, r10⟩ := box_cells hSw.1; go_simp; try with_reducible rfl)
  simp only [List.getElem_toArray, List.getElem_cons_zero]
  go_frame
  refine wpAnyH_take (i := 1) (v := ?_) rfl (by kernel_rfl) (by kernel_rfl) (by kernel_rfl) (fun _ _ _ h => h) (Or.inl ⟨by rfl, ?_⟩) (by assumption) ?_
  rotate_left 1
  · (intro w0 hSw; obtain ⟨r0, r1, r2, r3, r4, r5, r6, r7, r8, r9, r10⟩ := box_cells hSw.1; go_simp; try with_reducible rfl)
  simp only [List.getElem_toArray, List.getElem_cons_zero, List.getElem_cons_succ]
  go_frame
  refine wpAnyH_take (i := 2) (v := ?_) rfl (by kernel_rfl) (by kernel_rfl) (by kernel_rfl) (fun _ _ _ h => h) (Or.inl ⟨by rfl, ?_⟩) (by assumption) ?_
  rotate_left 1
  · (intro w0 hSw; go_simp; try with_reducible rfl)
  simp only [List.getElem_toArray, List.getElem_cons_zero, List.getElem_cons_succ]
  go_frame
  refine wpAnyH_take (i := 3) (v := ?_) rfl (by kernel_rfl) (by kernel_rfl) (by kernel_rfl) (fun _ _ _ h => h) (Or.inl ⟨by rfl, ?_⟩) (by assumption) ?_
  rotate_left 1
  · (intro w0 hSw; obtain ⟨r0, r1, r2, r3, r4, r5, r6, r7, r8, r9, r10⟩ := box_cells hSw.1; go_simp; try with_reducible rfl)
  simp only [List.getElem_toArray, List.getElem_cons_zero, List.getElem_cons_succ]
  go_frame
  refine wpAnyH_ready (rs := [4]) (by kernel_rfl) (by simp) ?_
  refine AllReadyH.cons rfl (fun K hK => ?_) AllReadyH.nil
  simp only [List.getElem_toArray, List.getElem_cons_zero, List.getElem_cons_succ]
  go_simp
  go_at_call 98
  refine (AH).mono ?_
  rintro e w2 ⟨rfl, g2⟩
  have HG2 : Hid (V.drew.grownBy w2 none) := g2
  clear g2 AH
  refine hK.out _ _ (⟨grown_keep HG2.out (grown_keep (grown_drew V) HS.out (by simp)) (by simp), HG2.out.cell ((grown_drew V).cell HB.out (by simp)) (by simp)⟩) (fun hHeld2 => ?_)
  clear hK K
  (try go_frame)
  refine wpAnyH_take (i := 5) (v := ?_) rfl (by kernel_rfl) (by kernel_rfl) (by kernel_rfl) (fun _ _ _ h => h) (Or.inl ⟨by rfl, ?_⟩) (by assumption) ?_
  rotate_left 1
  · (intro w0 hSw; go_simp; try with_reducible rfl)
  simp only [List.getElem_toArray, List.getElem_cons_zero, List.getElem_cons_succ]
  go_frame
  refine wpAnyH_take (i := 6) (v := ?_) rfl (by kernel_rfl) (by kernel_rfl) (by kernel_rfl) (fun _ _ _ h => h) (Or.inl ⟨by rfl, ?_⟩) (by assumption) ?_
  rotate_left 1
  · (intro w0 hSw; go_simp; try with_reducible rfl)
  simp only [List.getElem_toArray, List.getElem_cons_zero, List.getElem_cons_succ]
  go_frame
  refine wpAnyH_done (by kernel_rfl) ?_ _
  have HF : Hid (MbPost w t nx (.returned (.bool r)) w2) := ⟨r, rfl, HR.out.trans HA.out.symm, grown_trans HGV.out (grown_trans (grown_drew V) HG2.out)⟩
  clear HG2 HS HB
  go_wp2
  go_ret
  exact HF.out
set_option maxRecDepth 100000 in
set_option maxHeartbeats 4000000 in
theorem mb_low (b : Nat) (t : Th) (nx : Int) (w : World) (c5 : w.cell? ⟨b, 5, none⟩ = some (.int .i64 nx)) (h1 : ¬ t.card < 1) (h2 : t.owner = 0 ∨ t.owner = 1) (h3 : 1 ≤ t.place ∧ t.place ≤ 5) (h4 : t.place = 4) (h5 : ¬ 1 ≤ t.stamp) : Calls Try.prog 74 #[.pointer (some ⟨b, 0, none⟩), thv t] w (MbPost w t nx) := by
  unfold thv
  obtain ⟨X, hX⟩ : ∃ X, X = w.heap.size := ⟨_, rfl⟩
  obtain ⟨V, hV⟩ : ∃ V, V = w.alloc (.cells #[.int .i64 t.card, .int .i64 t.owner, .int .u8 t.place, .int .i64 t.stamp, .int .i64 t.hurt, .int .i64 t.m0, .int .i64 t.m1, .int .i64 t.m2, .int .i64 t.m3, .int .i64 t.done, .bool t.fresh] 38) := ⟨_, rfl⟩
  have HXe : Hid (X = w.heap.size) := hX
  have HV : Hid (V = w.alloc (.cells #[.int .i64 t.card, .int .i64 t.owner, .int .u8 t.place, .int .i64 t.stamp, .int .i64 t.hurt, .int .i64 t.m0, .int .i64 t.m1, .int .i64 t.m2, .int .i64 t.m3, .int .i64 t.done, .bool t.fresh] 38)) := hV
  have HGV : Hid (w.grownBy V none) := by show w.grownBy V none; rw [hV]; exact World.grownBy_alloc _ _ _
  have HS : Hid (V.heap[X]? = some (.cells (thc t).toArray 38 (0, 0))) := by show V.heap[X]? = _; rw [hV, hX]; exact alloc_at _ _ _
  have HB : Hid (V.cell? ⟨b, 5, none⟩ = some (.int .i64 nx)) := HGV.out.cell c5 (by simp)
  have O := isOwner_any t.owner V
  have P := isPlace_any t.place V
  have q4 : (t.place != 4) = false := by simp [h4]
  rw [decide_eq_true h2] at O
  rw [decide_eq_true h3] at P
  have d5 : decide (t.stamp ≥ 1) = false := decide_eq_false h5
  have HF : Hid (MbPost w t nx (.returned (.bool false)) V.drew) := mb_no (fun q => by have := (q.2.2.2.2 h4); omega) (grown_trans HGV.out (grown_drew V))
  rw [hV] at O P
  clear hX hV c5
  clear h2 h3 h4
  go_enter Try.func74, Try.ntmps74
  go_upto_region 5 with (first | (go_at_call 68; refine O.mono ?_; rintro e w9 ⟨rfl, h9⟩; subst h9) | (go_at_call 63; refine P.mono ?_; rintro e w9 ⟨rfl, h9⟩; subst h9))
  rw [← HXe.out, ← HV.out]
  refine wp_region_held_drew (S := fun w' => w'.heap[X]? = some (.cells (thc t).toArray 38 (0, 0)) ∧ w'.cell? ⟨b, 5, none⟩ = some (.int .i64 nx)) (by kernel_rfl) (⟨grown_keep (grown_drew V) HS.out (by simp), (grown_drew V).cell HB.out (by simp)⟩) (fun hHeld => ?_)
  refine wpAnyH_take (i := 0) (v := ?_) rfl (by kernel_rfl) (by kernel_rfl) (by kernel_rfl) (fun _ _ _ h => h) (Or.inl ⟨by rfl, ?_⟩) (by assumption) ?_
  rotate_left 1
  · (intro w0 hSw; go_simp; try with_reducible rfl)
  simp only [List.getElem_toArray, List.getElem_cons_zero]
  go_frame
  refine wpAnyH_take (i := 1) (v := ?_) rfl (by kernel_rfl) (by kernel_rfl) (by kernel_rfl) (fun _ _ _ h => h) (Or.inl ⟨by rfl, ?_⟩) (by assumption) ?_
  rotate_left 1
  · (intro w0 hSw; obtain ⟨r0, r1, r2, r3, r4, r5, r6, r7, r8, r9, r10⟩ := box_cells hSw.1; go_simp; try with_reducible rfl)
  simp only [List.getElem_toArray, List.getElem_cons_zero, List.getElem_cons_succ]
  go_frame
  refine wpAnyH_take (i := 2) (v := ?_) rfl (by kernel_rfl) (by kernel_rfl) (by kernel_rfl) (fun _ _ _ h => h) (Or.inl ⟨by rfl, ?_⟩) (by assumption) ?_
  rotate_left 1
  · (intro w0 hSw; go_simp; try with_reducible rfl)
  simp only [List.getElem_toArray, List.getElem_cons_zero, List.getElem_cons_succ]
  go_frame
  refine wpAnyH_take (i := 3) (v := ?_) rfl (by kernel_rfl) (by kernel_rfl) (by kernel_rfl) (fun _ _ _ h => h) (Or.inl ⟨by rfl, ?_⟩) (by assumption) ?_
  rotate_left 1
  · (intro w0 hSw; go_simp; try with_reducible rfl)
  simp only [List.getElem_toArray, List.getElem_cons_zero, List.getElem_cons_succ]
  go_frame
  refine wpAnyH_take (i := 4) (v := undef) rfl (by kernel_rfl) (by kernel_rfl) (by kernel_rfl) (fun _ _ _ h => h) (Or.inr ⟨by rfl, rfl⟩) (by assumption) ?_
  simp only [List.getElem_toArray, List.getElem_cons_zero, List.getElem_cons_succ]
  go_frame
  refine wpAnyH_take (i := 5) (v := undef) rfl (by kernel_rfl) (by kernel_rfl) (by kernel_rfl) (fun _ _ _ h => h) (Or.inr ⟨by rfl, rfl⟩) (by assumption) ?_
  simp only [List.getElem_toArray, List.getElem_cons_zero, List.getElem_cons_succ]
  go_frame
  refine wpAnyH_take (i := 6) (v := undef) rfl (by kernel_rfl) (by kernel_rfl) (by kernel_rfl) (fun _ _ _ h => h) (Or.inr ⟨by rfl, rfl⟩) (by assumption) ?_
  simp only [List.getElem_toArray, List.getElem_cons_zero, List.getElem_cons_succ]
  go_frame
  refine wpAnyH_take (i := 7) (v := undef) rfl (by kernel_rfl) (by kernel_rfl) (by kernel_rfl) (fun _ _ _ h => h) (Or.inr ⟨by rfl, rfl⟩) (by assumption) ?_
  simp only [List.getElem_toArray, List.getElem_cons_zero, List.getElem_cons_succ]
  go_frame
  refine wpAnyH_take (i := 8) (v := undef) rfl (by kernel_rfl) (by kernel_rfl) (by kernel_rfl) (fun _ _ _ h => h) (Or.inr ⟨by rfl, rfl⟩) (by assumption) ?_
  simp only [List.getElem_toArray, List.getElem_cons_zero, List.getElem_cons_succ]
  go_frame
  refine wpAnyH_take (i := 9) (v := undef) rfl (by kernel_rfl) (by kernel_rfl) (by kernel_rfl) (fun _ _ _ h => h) (Or.inr ⟨by rfl, rfl⟩) (by assumption) ?_
  simp only [List.getElem_toArray, List.getElem_cons_zero, List.getElem_cons_succ]
  go_frame
  refine wpAnyH_take (i := 10) (v := undef) rfl (by kernel_rfl) (by kernel_rfl) (by kernel_rfl) (fun _ _ _ h => h) (Or.inr ⟨by rfl, rfl⟩) (by assumption) ?_
  simp only [List.getElem_toArray, List.getElem_cons_zero, List.getElem_cons_succ]
  go_frame
  refine wpAnyH_take (i := 11) (v := ?_) rfl (by kernel_rfl) (by kernel_rfl) (by kernel_rfl) (fun _ _ _ h => h) (Or.inl ⟨by rfl, ?_⟩) (by assumption) ?_
  rotate_left 1
  · (intro w0 hSw; go_simp; try with_reducible rfl)
  simp only [List.getElem_toArray, List.getElem_cons_zero, List.getElem_cons_succ]
  go_frame
  refine wpAnyH_take (i := 12) (v := ?_) rfl (by kernel_rfl) (by kernel_rfl) (by kernel_rfl) (fun _ _ _ h => h) (Or.inl ⟨by rfl, ?_⟩) (by assumption) ?_
  rotate_left 1
  · (intro w0 hSw; go_simp; try with_reducible rfl)
  simp only [List.getElem_toArray, List.getElem_cons_zero, List.getElem_cons_succ]
  go_frame
  refine wpAnyH_take (i := 13) (v := undef) rfl (by kernel_rfl) (by kernel_rfl) (by kernel_rfl) (fun _ _ _ h => h) (Or.inr ⟨by rfl, rfl⟩) (by assumption) ?_
  simp only [List.getElem_toArray, List.getElem_cons_zero, List.getElem_cons_succ]
  go_frame
  refine wpAnyH_ready (rs := [14]) (by kernel_rfl) (by simp) ?_
  refine AllReadyH.cons rfl (fun K hK => ?_) AllReadyH.nil
  simp only [List.getElem_toArray, List.getElem_cons_zero, List.getElem_cons_succ]
  rw [if_neg (Bool.eq_false_iff.1 (by rfl))]
  refine hK.out _ _ (by assumption) (fun hHeld2 => ?_)
  clear hK K
  (try go_frame)
  refine wpAnyH_take (i := 15) (v := ?_) rfl (by kernel_rfl) (by kernel_rfl) (by kernel_rfl) (fun _ _ _ h => h) (Or.inl ⟨by rfl, ?_⟩) (by assumption) ?_
  rotate_left 1
  · (intro w0 hSw; go_simp; try with_reducible rfl)
  simp only [List.getElem_toArray, List.getElem_cons_zero, List.getElem_cons_succ]
  go_frame
  refine wpAnyH_take (i := 16) (v := ?_) rfl (by kernel_rfl) (by kernel_rfl) (by kernel_rfl) (fun _ _ _ h => h) (Or.inl ⟨by rfl, ?_⟩) (by assumption) ?_
  rotate_left 1
  · (intro w0 hSw; go_simp; try with_reducible rfl)
  simp only [List.getElem_toArray, List.getElem_cons_zero, List.getElem_cons_succ]
  go_frame
  refine wpAnyH_done (by kernel_rfl) ?_ _
  clear HS HB
  go_wp2
  go_ret
  exact HF.out
set_option maxRecDepth 100000 in
set_option maxHeartbeats 4000000 in
theorem mb_high (b : Nat) (t : Th) (nx : Int) (w : World) (c5 : w.cell? ⟨b, 5, none⟩ = some (.int .i64 nx)) (h1 : ¬ t.card < 1) (h2 : t.owner = 0 ∨ t.owner = 1) (h3 : 1 ≤ t.place ∧ t.place ≤ 5) (h4 : t.place = 4) (h5 : 1 ≤ t.stamp) (h6 : ¬ t.stamp < nx) : Calls Try.prog 74 #[.pointer (some ⟨b, 0, none⟩), thv t] w (MbPost w t nx) := by
  unfold thv
  obtain ⟨X, hX⟩ : ∃ X, X = w.heap.size := ⟨_, rfl⟩
  obtain ⟨V, hV⟩ : ∃ V, V = w.alloc (.cells #[.int .i64 t.card, .int .i64 t.owner, .int .u8 t.place, .int .i64 t.stamp, .int .i64 t.hurt, .int .i64 t.m0, .int .i64 t.m1, .int .i64 t.m2, .int .i64 t.m3, .int .i64 t.done, .bool t.fresh] 38) := ⟨_, rfl⟩
  have HXe : Hid (X = w.heap.size) := hX
  have HV : Hid (V = w.alloc (.cells #[.int .i64 t.card, .int .i64 t.owner, .int .u8 t.place, .int .i64 t.stamp, .int .i64 t.hurt, .int .i64 t.m0, .int .i64 t.m1, .int .i64 t.m2, .int .i64 t.m3, .int .i64 t.done, .bool t.fresh] 38)) := hV
  have HGV : Hid (w.grownBy V none) := by show w.grownBy V none; rw [hV]; exact World.grownBy_alloc _ _ _
  have HS : Hid (V.heap[X]? = some (.cells (thc t).toArray 38 (0, 0))) := by show V.heap[X]? = _; rw [hV, hX]; exact alloc_at _ _ _
  have HB : Hid (V.cell? ⟨b, 5, none⟩ = some (.int .i64 nx)) := HGV.out.cell c5 (by simp)
  have O := isOwner_any t.owner V
  have P := isPlace_any t.place V
  have q4 : (t.place != 4) = false := by simp [h4]
  rw [decide_eq_true h2] at O
  rw [decide_eq_true h3] at P
  have d5 : decide (t.stamp ≥ 1) = true := decide_eq_true h5
  have d6 : decide (t.stamp < nx) = false := decide_eq_false h6
  have HF : Hid (MbPost w t nx (.returned (.bool false)) V.drew) := mb_no (fun q => by have := (q.2.2.2.2 h4); omega) (grown_trans HGV.out (grown_drew V))
  rw [hV] at O P
  clear hX hV c5
  clear h2 h3 h4
  go_enter Try.func74, Try.ntmps74
  go_upto_region 5 with (first | (go_at_call 68; refine O.mono ?_; rintro e w9 ⟨rfl, h9⟩; subst h9) | (go_at_call 63; refine P.mono ?_; rintro e w9 ⟨rfl, h9⟩; subst h9))
  rw [← HXe.out, ← HV.out]
  refine wp_region_held_drew (S := fun w' => w'.heap[X]? = some (.cells (thc t).toArray 38 (0, 0)) ∧ w'.cell? ⟨b, 5, none⟩ = some (.int .i64 nx)) (by kernel_rfl) (⟨grown_keep (grown_drew V) HS.out (by simp), (grown_drew V).cell HB.out (by simp)⟩) (fun hHeld => ?_)
  refine wpAnyH_take (i := 0) (v := ?_) rfl (by kernel_rfl) (by kernel_rfl) (by kernel_rfl) (fun _ _ _ h => h) (Or.inl ⟨by rfl, ?_⟩) (by assumption) ?_
  rotate_left 1
  · (intro w0 hSw; go_simp; try with_reducible rfl)
  simp only [List.getElem_toArray, List.getElem_cons_zero]
  go_frame
  refine wpAnyH_take (i := 1) (v := ?_) rfl (by kernel_rfl) (by kernel_rfl) (by kernel_rfl) (fun _ _ _ h => h) (Or.inl ⟨by rfl, ?_⟩) (by assumption) ?_
  rotate_left 1
  · (intro w0 hSw; obtain ⟨r0, r1, r2, r3, r4, r5, r6, r7, r8, r9, r10⟩ := box_cells hSw.1; go_simp; try with_reducible rfl)
  simp only [List.getElem_toArray, List.getElem_cons_zero, List.getElem_cons_succ]
  go_frame
  refine wpAnyH_take (i := 2) (v := ?_) rfl (by kernel_rfl) (by kernel_rfl) (by kernel_rfl) (fun _ _ _ h => h) (Or.inl ⟨by rfl, ?_⟩) (by assumption) ?_
  rotate_left 1
  · (intro w0 hSw; go_simp; try with_reducible rfl)
  simp only [List.getElem_toArray, List.getElem_cons_zero, List.getElem_cons_succ]
  go_frame
  refine wpAnyH_take (i := 3) (v := ?_) rfl (by kernel_rfl) (by kernel_rfl) (by kernel_rfl) (fun _ _ _ h => h) (Or.inl ⟨by rfl, ?_⟩) (by assumption) ?_
  rotate_left 1
  · (intro w0 hSw; go_simp; try with_reducible rfl)
  simp only [List.getElem_toArray, List.getElem_cons_zero, List.getElem_cons_succ]
  go_frame
  refine wpAnyH_take (i := 4) (v := ?_) rfl (by kernel_rfl) (by kernel_rfl) (by kernel_rfl) (fun _ _ _ h => h) (Or.inl ⟨by rfl, ?_⟩) (by assumption) ?_
  rotate_left 1
  · (intro w0 hSw; go_simp; try with_reducible rfl)
  simp only [List.getElem_toArray, List.getElem_cons_zero, List.getElem_cons_succ]
  go_frame
  refine wpAnyH_take (i := 5) (v := ?_) rfl (by kernel_rfl) (by kernel_rfl) (by kernel_rfl) (fun _ _ _ h => h) (Or.inl ⟨by rfl, ?_⟩) (by assumption) ?_
  rotate_left 1
  · (intro w0 hSw; obtain ⟨r0, r1, r2, r3, r4, r5, r6, r7, r8, r9, r10⟩ := box_cells hSw.1; go_simp; try with_reducible rfl)
  simp only [List.getElem_toArray, List.getElem_cons_zero, List.getElem_cons_succ]
  go_frame
  refine wpAnyH_take (i := 6) (v := ?_) rfl (by kernel_rfl) (by kernel_rfl) (by kernel_rfl) (fun _ _ _ h => h) (Or.inl ⟨by rfl, ?_⟩) (by assumption) ?_
  rotate_left 1
  · (intro w0 hSw; go_simp; try with_reducible rfl)
  simp only [List.getElem_toArray, List.getElem_cons_zero, List.getElem_cons_succ]
  go_frame
  refine wpAnyH_take (i := 7) (v := ?_) rfl (by kernel_rfl) (by kernel_rfl) (by kernel_rfl) (fun _ _ _ h => h) (Or.inl ⟨by rfl, ?_⟩) (by assumption) ?_
  rotate_left 1
  · (intro w0 hSw; go_simp; try with_reducible rfl)
  simp only [List.getElem_toArray, List.getElem_cons_zero, List.getElem_cons_succ]
  go_frame
  refine wpAnyH_take (i := 8) (v := ?_) rfl (by kernel_rfl) (by kernel_rfl) (by kernel_rfl) (fun _ _ _ h => h) (Or.inl ⟨by rfl, ?_⟩) (by assumption) ?_
  rotate_left 1
  · (intro w0 hSw; go_simp; try with_reducible rfl)
  simp only [List.getElem_toArray, List.getElem_cons_zero, List.getElem_cons_succ]
  go_frame
  refine wpAnyH_take (i := 9) (v := ?_) rfl (by kernel_rfl) (by kernel_rfl) (by kernel_rfl) (fun _ _ _ h => h) (Or.inl ⟨by rfl, ?_⟩) (by assumption) ?_
  rotate_left 1
  · (intro w0 hSw; obtain ⟨-, s5⟩ := hSw; go_simp; try with_reducible rfl)
  simp only [List.getElem_toArray, List.getElem_cons_zero, List.getElem_cons_succ]
  go_frame
  refine wpAnyH_take (i := 10) (v := ?_) rfl (by kernel_rfl) (by kernel_rfl) (by kernel_rfl) (fun _ _ _ h => h) (Or.inl ⟨by rfl, ?_⟩) (by assumption) ?_
  rotate_left 1
  · (intro w0 hSw; go_simp; try with_reducible rfl)
  simp only [List.getElem_toArray, List.getElem_cons_zero, List.getElem_cons_succ]
  go_frame
  refine wpAnyH_take (i := 11) (v := ?_) rfl (by kernel_rfl) (by kernel_rfl) (by kernel_rfl) (fun _ _ _ h => h) (Or.inl ⟨by rfl, ?_⟩) (by assumption) ?_
  rotate_left 1
  · (intro w0 hSw; go_simp; try with_reducible rfl)
  simp only [List.getElem_toArray, List.getElem_cons_zero, List.getElem_cons_succ]
  go_frame
  refine wpAnyH_take (i := 12) (v := ?_) rfl (by kernel_rfl) (by kernel_rfl) (by kernel_rfl) (fun _ _ _ h => h) (Or.inl ⟨by rfl, ?_⟩) (by assumption) ?_
  rotate_left 1
  · (intro w0 hSw; go_simp; try with_reducible rfl)
  simp only [List.getElem_toArray, List.getElem_cons_zero, List.getElem_cons_succ]
  go_frame
  refine wpAnyH_take (i := 13) (v := undef) rfl (by kernel_rfl) (by kernel_rfl) (by kernel_rfl) (fun _ _ _ h => h) (Or.inr ⟨by rfl, rfl⟩) (by assumption) ?_
  simp only [List.getElem_toArray, List.getElem_cons_zero, List.getElem_cons_succ]
  go_frame
  refine wpAnyH_ready (rs := [14]) (by kernel_rfl) (by simp) ?_
  refine AllReadyH.cons rfl (fun K hK => ?_) AllReadyH.nil
  simp only [List.getElem_toArray, List.getElem_cons_zero, List.getElem_cons_succ]
  rw [if_neg (Bool.eq_false_iff.1 (by rfl))]
  refine hK.out _ _ (by assumption) (fun hHeld2 => ?_)
  clear hK K
  (try go_frame)
  refine wpAnyH_take (i := 15) (v := ?_) rfl (by kernel_rfl) (by kernel_rfl) (by kernel_rfl) (fun _ _ _ h => h) (Or.inl ⟨by rfl, ?_⟩) (by assumption) ?_
  rotate_left 1
  · (intro w0 hSw; go_simp; try with_reducible rfl)
  simp only [List.getElem_toArray, List.getElem_cons_zero, List.getElem_cons_succ]
  go_frame
  refine wpAnyH_take (i := 16) (v := ?_) rfl (by kernel_rfl) (by kernel_rfl) (by kernel_rfl) (fun _ _ _ h => h) (Or.inl ⟨by rfl, ?_⟩) (by assumption) ?_
  rotate_left 1
  · (intro w0 hSw; go_simp; try with_reducible rfl)
  simp only [List.getElem_toArray, List.getElem_cons_zero, List.getElem_cons_succ]
  go_frame
  refine wpAnyH_done (by kernel_rfl) ?_ _
  clear HS HB
  go_wp2
  go_ret
  exact HF.out
set_option maxRecDepth 100000 in
set_option maxHeartbeats 4000000 in
theorem mb_tab (b : Nat) (t : Th) (nx : Int) (w : World) (c5 : w.cell? ⟨b, 5, none⟩ = some (.int .i64 nx)) (h1 : ¬ t.card < 1) (h2 : t.owner = 0 ∨ t.owner = 1) (h3 : 1 ≤ t.place ∧ t.place ≤ 5) (h4 : t.place = 4) (h5 : 1 ≤ t.stamp) (h6 : t.stamp < nx) : Calls Try.prog 74 #[.pointer (some ⟨b, 0, none⟩), thv t] w (MbPost w t nx) := by
  unfold thv
  obtain ⟨X, hX⟩ : ∃ X, X = w.heap.size := ⟨_, rfl⟩
  obtain ⟨V, hV⟩ : ∃ V, V = w.alloc (.cells #[.int .i64 t.card, .int .i64 t.owner, .int .u8 t.place, .int .i64 t.stamp, .int .i64 t.hurt, .int .i64 t.m0, .int .i64 t.m1, .int .i64 t.m2, .int .i64 t.m3, .int .i64 t.done, .bool t.fresh] 38) := ⟨_, rfl⟩
  have HXe : Hid (X = w.heap.size) := hX
  have HV : Hid (V = w.alloc (.cells #[.int .i64 t.card, .int .i64 t.owner, .int .u8 t.place, .int .i64 t.stamp, .int .i64 t.hurt, .int .i64 t.m0, .int .i64 t.m1, .int .i64 t.m2, .int .i64 t.m3, .int .i64 t.done, .bool t.fresh] 38)) := hV
  have HGV : Hid (w.grownBy V none) := by show w.grownBy V none; rw [hV]; exact World.grownBy_alloc _ _ _
  have HS : Hid (V.heap[X]? = some (.cells (thc t).toArray 38 (0, 0))) := by show V.heap[X]? = _; rw [hV, hX]; exact alloc_at _ _ _
  have HB : Hid (V.cell? ⟨b, 5, none⟩ = some (.int .i64 nx)) := HGV.out.cell c5 (by simp)
  have O := isOwner_any t.owner V
  have P := isPlace_any t.place V
  have q4 : (t.place != 4) = false := by simp [h4]
  rw [decide_eq_true h2] at O
  rw [decide_eq_true h3] at P
  have d5 : decide (t.stamp ≥ 1) = true := decide_eq_true h5
  have d6 : decide (t.stamp < nx) = true := decide_eq_true h6
  have HA : Hid (t.alone nx ↔ t.lies) := ⟨fun q => ⟨(q.2.2.2.2 h4).2.2.2.2, (q.2.2.2.2 h4).2.2.1, (q.2.2.2.2 h4).2.2.2.1⟩, fun q => ⟨by omega, h2, h3, fun r => absurd h4 r, fun _ => ⟨h5, h6, q.2.1, q.2.2, q.1⟩⟩⟩
  have CL := mayLie_any t V.drew
  unfold thv at CL
  rw [hV] at O P
  clear hX hV c5
  clear h2 h3 h4
  go_enter Try.func74, Try.ntmps74
  go_upto_region 5 with (first | (go_at_call 68; refine O.mono ?_; rintro e w9 ⟨rfl, h9⟩; subst h9) | (go_at_call 63; refine P.mono ?_; rintro e w9 ⟨rfl, h9⟩; subst h9))
  rw [← HXe.out, ← HV.out]
  refine wp_region_held_drew (S := fun w' => w'.heap[X]? = some (.cells (thc t).toArray 38 (0, 0)) ∧ w'.cell? ⟨b, 5, none⟩ = some (.int .i64 nx)) (by kernel_rfl) (⟨grown_keep (grown_drew V) HS.out (by simp), (grown_drew V).cell HB.out (by simp)⟩) (fun hHeld => ?_)
  refine wpAnyH_take (i := 0) (v := ?_) rfl (by kernel_rfl) (by kernel_rfl) (by kernel_rfl) (fun _ _ _ h => h) (Or.inl ⟨by rfl, ?_⟩) (by assumption) ?_
  rotate_left 1
  · (intro w0 hSw; go_simp; try with_reducible rfl)
  simp only [List.getElem_toArray, List.getElem_cons_zero]
  go_frame
  refine wpAnyH_take (i := 1) (v := ?_) rfl (by kernel_rfl) (by kernel_rfl) (by kernel_rfl) (fun _ _ _ h => h) (Or.inl ⟨by rfl, ?_⟩) (by assumption) ?_
  rotate_left 1
  · (intro w0 hSw; obtain ⟨r0, r1, r2, r3, r4, r5, r6, r7, r8, r9, r10⟩ := box_cells hSw.1; go_simp; try with_reducible rfl)
  simp only [List.getElem_toArray, List.getElem_cons_zero, List.getElem_cons_succ]
  go_frame
  refine wpAnyH_take (i := 2) (v := ?_) rfl (by kernel_rfl) (by kernel_rfl) (by kernel_rfl) (fun _ _ _ h => h) (Or.inl ⟨by rfl, ?_⟩) (by assumption) ?_
  rotate_left 1
  · (intro w0 hSw; go_simp; try with_reducible rfl)
  simp only [List.getElem_toArray, List.getElem_cons_zero, List.getElem_cons_succ]
  go_frame
  refine wpAnyH_take (i := 3) (v := ?_) rfl (by kernel_rfl) (by kernel_rfl) (by kernel_rfl) (fun _ _ _ h => h) (Or.inl ⟨by rfl, ?_⟩) (by assumption) ?_
  rotate_left 1
  · (intro w0 hSw; go_simp; try with_reducible rfl)
  simp only [List.getElem_toArray, List.getElem_cons_zero, List.getElem_cons_succ]
  go_frame
  refine wpAnyH_take (i := 4) (v := ?_) rfl (by kernel_rfl) (by kernel_rfl) (by kernel_rfl) (fun _ _ _ h => h) (Or.inl ⟨by rfl, ?_⟩) (by assumption) ?_
  rotate_left 1
  · (intro w0 hSw; go_simp; try with_reducible rfl)
  simp only [List.getElem_toArray, List.getElem_cons_zero, List.getElem_cons_succ]
  go_frame
  refine wpAnyH_take (i := 5) (v := ?_) rfl (by kernel_rfl) (by kernel_rfl) (by kernel_rfl) (fun _ _ _ h => h) (Or.inl ⟨by rfl, ?_⟩) (by assumption) ?_
  rotate_left 1
  · (intro w0 hSw; obtain ⟨r0, r1, r2, r3, r4, r5, r6, r7, r8, r9, r10⟩ := box_cells hSw.1; go_simp; try with_reducible rfl)
  simp only [List.getElem_toArray, List.getElem_cons_zero, List.getElem_cons_succ]
  go_frame
  refine wpAnyH_take (i := 6) (v := ?_) rfl (by kernel_rfl) (by kernel_rfl) (by kernel_rfl) (fun _ _ _ h => h) (Or.inl ⟨by rfl, ?_⟩) (by assumption) ?_
  rotate_left 1
  · (intro w0 hSw; go_simp; try with_reducible rfl)
  simp only [List.getElem_toArray, List.getElem_cons_zero, List.getElem_cons_succ]
  go_frame
  refine wpAnyH_take (i := 7) (v := ?_) rfl (by kernel_rfl) (by kernel_rfl) (by kernel_rfl) (fun _ _ _ h => h) (Or.inl ⟨by rfl, ?_⟩) (by assumption) ?_
  rotate_left 1
  · (intro w0 hSw; go_simp; try with_reducible rfl)
  simp only [List.getElem_toArray, List.getElem_cons_zero, List.getElem_cons_succ]
  go_frame
  refine wpAnyH_take (i := 8) (v := ?_) rfl (by kernel_rfl) (by kernel_rfl) (by kernel_rfl) (fun _ _ _ h => h) (Or.inl ⟨by rfl, ?_⟩) (by assumption) ?_
  rotate_left 1
  · (intro w0 hSw; go_simp; try with_reducible rfl)
  simp only [List.getElem_toArray, List.getElem_cons_zero, List.getElem_cons_succ]
  go_frame
  refine wpAnyH_take (i := 9) (v := ?_) rfl (by kernel_rfl) (by kernel_rfl) (by kernel_rfl) (fun _ _ _ h => h) (Or.inl ⟨by rfl, ?_⟩) (by assumption) ?_
  rotate_left 1
  · (intro w0 hSw; obtain ⟨-, s5⟩ := hSw; go_simp; try with_reducible rfl)
  simp only [List.getElem_toArray, List.getElem_cons_zero, List.getElem_cons_succ]
  go_frame
  refine wpAnyH_take (i := 10) (v := ?_) rfl (by kernel_rfl) (by kernel_rfl) (by kernel_rfl) (fun _ _ _ h => h) (Or.inl ⟨by rfl, ?_⟩) (by assumption) ?_
  rotate_left 1
  · (intro w0 hSw; go_simp; try with_reducible rfl)
  simp only [List.getElem_toArray, List.getElem_cons_zero, List.getElem_cons_succ]
  go_frame
  refine wpAnyH_take (i := 11) (v := ?_) rfl (by kernel_rfl) (by kernel_rfl) (by kernel_rfl) (fun _ _ _ h => h) (Or.inl ⟨by rfl, ?_⟩) (by assumption) ?_
  rotate_left 1
  · (intro w0 hSw; go_simp; try with_reducible rfl)
  simp only [List.getElem_toArray, List.getElem_cons_zero, List.getElem_cons_succ]
  go_frame
  refine wpAnyH_take (i := 12) (v := ?_) rfl (by kernel_rfl) (by kernel_rfl) (by kernel_rfl) (fun _ _ _ h => h) (Or.inl ⟨by rfl, ?_⟩) (by assumption) ?_
  rotate_left 1
  · (intro w0 hSw; go_simp; try with_reducible rfl)
  simp only [List.getElem_toArray, List.getElem_cons_zero, List.getElem_cons_succ]
  go_frame
  refine wpAnyH_take (i := 13) (v := ?_) rfl (by kernel_rfl) (by kernel_rfl) (by kernel_rfl) (fun _ _ _ h => h) (Or.inl ⟨by rfl, ?_⟩) (by assumption) ?_
  rotate_left 1
  · (intro w0 hSw; obtain ⟨r0, r1, r2, r3, r4, r5, r6, r7, r8, r9, r10⟩ := box_cells hSw.1; go_simp; try with_reducible rfl)
  simp only [List.getElem_toArray, List.getElem_cons_zero, List.getElem_cons_succ]
  go_frame
  refine wpAnyH_ready (rs := [14]) (by kernel_rfl) (by simp) ?_
  refine AllReadyH.cons rfl (fun K hK => ?_) AllReadyH.nil
  simp only [List.getElem_toArray, List.getElem_cons_zero, List.getElem_cons_succ]
  rw [if_pos (by rfl)]
  go_simp
  go_at_call 71
  refine (CL).mono ?_
  rintro e w3 ⟨r, rfl, hr, g3⟩
  have HF : Hid (MbPost w t nx (.returned (.bool r)) w3) := ⟨r, rfl, hr.trans HA.out.symm, grown_trans HGV.out (grown_trans (grown_drew V) g3)⟩
  have HG3 : Hid (V.drew.grownBy w3 none) := g3
  clear g3 CL hr
  refine hK.out _ _ (⟨grown_keep HG3.out (grown_keep (grown_drew V) HS.out (by simp)) (by simp), HG3.out.cell ((grown_drew V).cell HB.out (by simp)) (by simp)⟩) (fun hHeld2 => ?_)
  clear hK K
  (try go_frame)
  refine wpAnyH_take (i := 15) (v := ?_) rfl (by kernel_rfl) (by kernel_rfl) (by kernel_rfl) (fun _ _ _ h => h) (Or.inl ⟨by rfl, ?_⟩) (by assumption) ?_
  rotate_left 1
  · (intro w0 hSw; go_simp; try with_reducible rfl)
  simp only [List.getElem_toArray, List.getElem_cons_zero, List.getElem_cons_succ]
  go_frame
  refine wpAnyH_take (i := 16) (v := ?_) rfl (by kernel_rfl) (by kernel_rfl) (by kernel_rfl) (fun _ _ _ h => h) (Or.inl ⟨by rfl, ?_⟩) (by assumption) ?_
  rotate_left 1
  · (intro w0 hSw; go_simp; try with_reducible rfl)
  simp only [List.getElem_toArray, List.getElem_cons_zero, List.getElem_cons_succ]
  go_frame
  refine wpAnyH_done (by kernel_rfl) ?_ _
  clear HS HB
  go_wp2
  go_ret
  exact HF.out
theorem mayBe_any (b : Nat) (t : Th) (nx : Int) (w : World) (c5 : w.cell? ⟨b, 5, none⟩ = some (.int .i64 nx)) : Calls Try.prog 74 #[.pointer (some ⟨b, 0, none⟩), thv t] w (MbPost w t nx) := by
  by_cases h1 : t.card < 1
  · exact mb_card b t nx w c5 h1
  by_cases h2 : t.owner = 0 ∨ t.owner = 1
  case neg => exact mb_owner b t nx w c5 h1 h2
  by_cases h3 : 1 ≤ t.place ∧ t.place ≤ 5
  case neg => exact mb_place b t nx w c5 h1 h2 h3
  by_cases h4 : t.place = 4
  case neg => exact mb_off b t nx w c5 h1 h2 h3 h4
  by_cases h5 : 1 ≤ t.stamp
  case neg => exact mb_low b t nx w c5 h1 h2 h3 h4 h5
  by_cases h6 : t.stamp < nx
  · exact mb_tab b t nx w c5 h1 h2 h3 h4 h5 h6
  · exact mb_high b t nx w c5 h1 h2 h3 h4 h5 h6
end Go.Proofs.Ytogpgldbbegniaa
namespace Go.Proofs.Ytogpgldbbegniaa
open Go.RowKit

/-- An owner's part of what is sound. -/
def Zs.part (z : Zs) (p : Int) : Prop := Holds z.ts (z.dk p) p 1 ∧ Holds z.ts (z.hd p) p 2 ∧ (z.hd p).length ≤ 10 ∧ owned z.ts p ≤ 8
def IsPost (w : World) (z : Zs) (p : Int) (e : Ending) (w' : World) : Prop := ∃ r : Bool, e = .returned (.bool r) ∧ (r = true ↔ z.part p) ∧ w.grownBy w' none
theorem is_no {w w' : World} {z : Zs} {p : Int} (h : ¬ z.part p) (g : w.grownBy w' none) : IsPost w z p (.returned (.bool false)) w' := ⟨false, rfl, ⟨fun q => (by cases q), fun q => absurd q h⟩, g⟩
theorem is_yes {w w' : World} {z : Zs} {p : Int} (h : z.part p) (g : w.grownBy w' none) : IsPost w z p (.returned (.bool true)) w' := ⟨true, rfl, ⟨fun _ => h, fun _ => rfl⟩, g⟩
set_option maxRecDepth 100000 in
set_option maxHeartbeats 4000000 in
theorem isSound0 (b : Nat) (Sb : List Nat) (z : Zs) (w : World) (Z : ZAt w b Sb z) (hf : z.ts.length ≤ 2048) : Calls Try.prog 76 #[.pointer (some ⟨b, 0, none⟩), .int .i64 0] w (IsPost w z 0) := by
  obtain ⟨vt, d0, d1, h0, h1, Z⟩ := Z
  obtain ⟨pd, cd, ed⟩ := Z.od0.form
  subst ed
  obtain ⟨ph, ch, eh⟩ := Z.oh0.form
  subst eh
  obtain ⟨c0, c1, c2, c3, c4, c5⟩ := Z.cell
  have C1 := holdsJust_any b vt _ z.ts (z.dk 0) 0 1 w c0 Z.ts.at hf (own_small Z.od0)
  have H2 : Hid (∀ w1, w.grownBy w1 none → Calls Try.prog 72 #[.pointer (some ⟨b, 0, none⟩), .slice ph (z.hd 0).length ch, .int .i64 0, .int .u8 2] w1 (HjPost w1 z.ts (z.hd 0) 0 2)) := fun w1 g => holdsJust_any b vt _ z.ts (z.hd 0) 0 2 w1 (g.cell c0 (by simp)) (Z.ts.at.keep g) hf ((own_small Z.oh0).keep g)
  have H3 : Hid (∀ w1, w.grownBy w1 none → Calls Try.prog 96 #[.pointer (some ⟨b, 0, none⟩), .int .i64 0, .int .u8 4] w1 fun e w' => ∃ v, e = .returned v ∧ OwnI w' w1.heap.size v (numsOf z.ts 0 4) ∧ w1.grownBy w' none) := fun w1 g => numbers_any b vt z.ts 0 4 w1 (g.cell c0 (by simp)) (Z.ts.at.keep g) hf
  have HL : Hid ((numsOf z.ts 0 4).length = owned z.ts 0) := owned_numsOf z.ts 0
  have HC : Hid (w.cell? ⟨b, 3, none⟩ = some (.slice ph (z.hd 0).length ch)) := c3
  obtain ⟨m, hm⟩ : ∃ m, m = (z.hd 0).length := ⟨_, rfl⟩
  have HM : Hid (m = (z.hd 0).length) := hm
  obtain ⟨l, hl⟩ : ∃ l, l = numsOf z.ts 0 4 := ⟨_, rfl⟩
  rw [← hl] at H3 HL
  rw [← hm] at H2 HC
  clear c0 c2 c4 c5 Z hf hm hl
  go_enter Try.func76, Try.ntmps76
  go_wp2_with fail
  refine C1.mono ?_
  rintro e w1 ⟨r1, rfl, k1, g1⟩
  have HG1 : Hid (w.grownBy w1 none) := g1
  have HK1 : Hid (r1 = true ↔ Holds z.ts (z.dk 0) 0 1) := k1
  clear g1 k1 C1
  cases r1 with
  | false =>
    have HF : Hid (IsPost w z 0 (.returned (.bool false)) w1) := is_no (fun q => by have := HK1.out.2 q.1; cases this) HG1.out
    clear H2 H3 c1 c3
    go_wp2
    go_ret
    exact HF.out
  | true =>
    have HK1' : Hid (Holds z.ts (z.dk 0) 0 1) := HK1.out.1 rfl
    have C2 := H2.out w1 HG1.out
    have x1 : w1.cell? ⟨b, 3, none⟩ = some (.slice ph m ch) := HG1.out.cell HC.out (by simp)
    clear HK1 H2 c1 c3
    go_wp2_with fail
    refine C2.mono ?_
    rintro e w2 ⟨r2, rfl, k2, g2⟩
    have HG2 : Hid (w.grownBy w2 none) := grown_trans HG1.out g2
    have HK2 : Hid (r2 = true ↔ Holds z.ts (z.hd 0) 0 2) := k2
    clear g2 k2 C2 x1
    cases r2 with
    | false =>
      have HF : Hid (IsPost w z 0 (.returned (.bool false)) w2) := is_no (fun q => by have := HK2.out.2 q.2.1; cases this) HG2.out
      clear H3
      go_wp2
      go_ret
      exact HF.out
    | true =>
      have HK2' : Hid (Holds z.ts (z.hd 0) 0 2) := HK2.out.1 rfl
      have x2 : w2.cell? ⟨b, 3, none⟩ = some (.slice ph m ch) := HG2.out.cell HC.out (by simp)
      clear HK2
      by_cases hm : m ≤ 10
      · have hm' : (m : Int) ≤ 10 := by omega
        have C3 := H3.out w2 HG2.out
        have HM' : Hid ((z.hd 0).length ≤ 10) := by show (z.hd 0).length ≤ 10; rw [← HM.out]; exact hm
        clear H3 hm
        go_wp2_with fail
        refine C3.mono ?_
        rintro e w3 ⟨v3, rfl, o3, g3⟩
        obtain ⟨p3, q3, rfl⟩ := o3.form
        have HG3 : Hid (w.grownBy w3 none) := grown_trans HG2.out g3
        clear g3 o3 C3 x2
        by_cases hn : l.length ≤ 8
        · have hn' : (l.length : Int) ≤ 8 := by omega
          have HF : Hid (IsPost w z 0 (.returned (.bool true)) w3) := is_yes ⟨HK1'.out, HK2'.out, HM'.out, by rw [← HL.out]; exact hn⟩ HG3.out
          clear hn
          go_wp2
          go_ret
          exact HF.out
        · have hn' : ¬ (l.length : Int) ≤ 8 := by omega
          have hq : decide ((l.length : Int) ≤ 8) = false := decide_eq_false hn'
          have HF : Hid (IsPost w z 0 (.returned (.bool false)) w3) := is_no (fun q => hn (by rw [HL.out]; exact q.2.2.2)) HG3.out
          clear hn
          go_wp2
          go_ret
          exact HF.out
      · have hm' : ¬ (m : Int) ≤ 10 := by omega
        have hq : decide ((m : Int) ≤ 10) = false := decide_eq_false hm'
        have HF : Hid (IsPost w z 0 (.returned (.bool false)) w2) := is_no (fun q => hm (by rw [HM.out]; exact q.2.2.1)) HG2.out
        clear H3 hm
        go_wp2
        go_ret
        exact HF.out
set_option maxRecDepth 100000 in
set_option maxHeartbeats 4000000 in
theorem isSound1 (b : Nat) (Sb : List Nat) (z : Zs) (w : World) (Z : ZAt w b Sb z) (hf : z.ts.length ≤ 2048) : Calls Try.prog 76 #[.pointer (some ⟨b, 0, none⟩), .int .i64 1] w (IsPost w z 1) := by
  obtain ⟨vt, d0, d1, h0, h1, Z⟩ := Z
  obtain ⟨pd, cd, ed⟩ := Z.od1.form
  subst ed
  obtain ⟨ph, ch, eh⟩ := Z.oh1.form
  subst eh
  obtain ⟨c0, c1, c2, c3, c4, c5⟩ := Z.cell
  have C1 := holdsJust_any b vt _ z.ts (z.dk 1) 1 1 w c0 Z.ts.at hf (own_small Z.od1)
  have H2 : Hid (∀ w1, w.grownBy w1 none → Calls Try.prog 72 #[.pointer (some ⟨b, 0, none⟩), .slice ph (z.hd 1).length ch, .int .i64 1, .int .u8 2] w1 (HjPost w1 z.ts (z.hd 1) 1 2)) := fun w1 g => holdsJust_any b vt _ z.ts (z.hd 1) 1 2 w1 (g.cell c0 (by simp)) (Z.ts.at.keep g) hf ((own_small Z.oh1).keep g)
  have H3 : Hid (∀ w1, w.grownBy w1 none → Calls Try.prog 96 #[.pointer (some ⟨b, 0, none⟩), .int .i64 1, .int .u8 4] w1 fun e w' => ∃ v, e = .returned v ∧ OwnI w' w1.heap.size v (numsOf z.ts 1 4) ∧ w1.grownBy w' none) := fun w1 g => numbers_any b vt z.ts 1 4 w1 (g.cell c0 (by simp)) (Z.ts.at.keep g) hf
  have HL : Hid ((numsOf z.ts 1 4).length = owned z.ts 1) := owned_numsOf z.ts 1
  have HC : Hid (w.cell? ⟨b, 4, none⟩ = some (.slice ph (z.hd 1).length ch)) := c4
  obtain ⟨m, hm⟩ : ∃ m, m = (z.hd 1).length := ⟨_, rfl⟩
  have HM : Hid (m = (z.hd 1).length) := hm
  obtain ⟨l, hl⟩ : ∃ l, l = numsOf z.ts 1 4 := ⟨_, rfl⟩
  rw [← hl] at H3 HL
  rw [← hm] at H2 HC
  clear c0 c1 c3 c5 Z hf hm hl
  go_enter Try.func76, Try.ntmps76
  go_wp2_with fail
  refine C1.mono ?_
  rintro e w1 ⟨r1, rfl, k1, g1⟩
  have HG1 : Hid (w.grownBy w1 none) := g1
  have HK1 : Hid (r1 = true ↔ Holds z.ts (z.dk 1) 1 1) := k1
  clear g1 k1 C1
  cases r1 with
  | false =>
    have HF : Hid (IsPost w z 1 (.returned (.bool false)) w1) := is_no (fun q => by have := HK1.out.2 q.1; cases this) HG1.out
    clear H2 H3 c2 c4
    go_wp2
    go_ret
    exact HF.out
  | true =>
    have HK1' : Hid (Holds z.ts (z.dk 1) 1 1) := HK1.out.1 rfl
    have C2 := H2.out w1 HG1.out
    have x1 : w1.cell? ⟨b, 4, none⟩ = some (.slice ph m ch) := HG1.out.cell HC.out (by simp)
    clear HK1 H2 c2 c4
    go_wp2_with fail
    refine C2.mono ?_
    rintro e w2 ⟨r2, rfl, k2, g2⟩
    have HG2 : Hid (w.grownBy w2 none) := grown_trans HG1.out g2
    have HK2 : Hid (r2 = true ↔ Holds z.ts (z.hd 1) 1 2) := k2
    clear g2 k2 C2 x1
    cases r2 with
    | false =>
      have HF : Hid (IsPost w z 1 (.returned (.bool false)) w2) := is_no (fun q => by have := HK2.out.2 q.2.1; cases this) HG2.out
      clear H3
      go_wp2
      go_ret
      exact HF.out
    | true =>
      have HK2' : Hid (Holds z.ts (z.hd 1) 1 2) := HK2.out.1 rfl
      have x2 : w2.cell? ⟨b, 4, none⟩ = some (.slice ph m ch) := HG2.out.cell HC.out (by simp)
      clear HK2
      by_cases hm : m ≤ 10
      · have hm' : (m : Int) ≤ 10 := by omega
        have C3 := H3.out w2 HG2.out
        have HM' : Hid ((z.hd 1).length ≤ 10) := by show (z.hd 1).length ≤ 10; rw [← HM.out]; exact hm
        clear H3 hm
        go_wp2_with fail
        refine C3.mono ?_
        rintro e w3 ⟨v3, rfl, o3, g3⟩
        obtain ⟨p3, q3, rfl⟩ := o3.form
        have HG3 : Hid (w.grownBy w3 none) := grown_trans HG2.out g3
        clear g3 o3 C3 x2
        by_cases hn : l.length ≤ 8
        · have hn' : (l.length : Int) ≤ 8 := by omega
          have HF : Hid (IsPost w z 1 (.returned (.bool true)) w3) := is_yes ⟨HK1'.out, HK2'.out, HM'.out, by rw [← HL.out]; exact hn⟩ HG3.out
          clear hn
          go_wp2
          go_ret
          exact HF.out
        · have hn' : ¬ (l.length : Int) ≤ 8 := by omega
          have hq : decide ((l.length : Int) ≤ 8) = false := decide_eq_false hn'
          have HF : Hid (IsPost w z 1 (.returned (.bool false)) w3) := is_no (fun q => hn (by rw [HL.out]; exact q.2.2.2)) HG3.out
          clear hn
          go_wp2
          go_ret
          exact HF.out
      · have hm' : ¬ (m : Int) ≤ 10 := by omega
        have hq : decide ((m : Int) ≤ 10) = false := decide_eq_false hm'
        have HF : Hid (IsPost w z 1 (.returned (.bool false)) w2) := is_no (fun q => hm (by rw [HM.out]; exact q.2.2.1)) HG2.out
        clear H3 hm
        go_wp2
        go_ret
        exact HF.out
end Go.Proofs.Ytogpgldbbegniaa
namespace Go.Proofs.Ytogpgldbbegniaa
open Go.RowKit

/-- No two things on the table have one stamp. -/
def StDif (ts : List Th) : Prop := ∀ n m, there ts n → there ts m → (thAt ts n).place = 4 → (thAt ts m).place = 4 → (thAt ts n).stamp = (thAt ts m).stamp → n = m
theorem sd_yes {ts : List Th} (ho : Owners ts) {l : List Int} (hp : l.Perm (tabN ts)) (hs : l.Pairwise fun a b => stOf ts a ≤ stOf ts b) (h : ∀ j : Nat, j + 1 < l.length → stOf ts (l.getD (j + 1) 0) ≠ stOf ts (l.getD j 0)) : StDif ts := by
  have hlt : ∀ i j : Nat, i < j → j < l.length → stOf ts (l.getD i 0) < stOf ts (l.getD j 0) := by
    intro i j hij hj
    have hle : ∀ a b : Nat, a < b → b < l.length → stOf ts (l.getD a 0) ≤ stOf ts (l.getD b 0) := by
      intro a b hab hb
      have := (List.pairwise_iff_getElem.1 hs) a b (by omega) hb hab
      rwa [getD_lt _ _ (by omega), getD_lt _ _ hb]
    obtain ⟨k, rfl⟩ : ∃ k, j = k + 1 := ⟨j - 1, by omega⟩
    have h1 := h k hj
    have h2 := hle k (k + 1) (by omega) hj
    by_cases e : i = k
    · subst e; omega
    · have := hle i k (by omega) (by omega)
      omega
  intro n m hn hm pn pm e
  have mn : n ∈ l := hp.mem_iff.2 ((tabN_mem ho).2 ⟨hn, pn⟩)
  have mm : m ∈ l := hp.mem_iff.2 ((tabN_mem ho).2 ⟨hm, pm⟩)
  obtain ⟨i, hi, ei⟩ := List.getElem_of_mem mn
  obtain ⟨j, hj, ej⟩ := List.getElem_of_mem mm
  have e' : stOf ts (l.getD i 0) = stOf ts (l.getD j 0) := by rw [getD_lt _ _ hi, getD_lt _ _ hj, ei, ej]; exact e
  rcases Nat.lt_trichotomy i j with q | q | q
  · have := hlt i j q hj; omega
  · subst q; rw [← ei, ← ej]
  · have := hlt j i q hi; omega
theorem sd_no {ts : List Th} (ho : Owners ts) {l : List Int} (hp : l.Perm (tabN ts)) {j : Nat} (hj : j + 1 < l.length) (e : stOf ts (l.getD (j + 1) 0) = stOf ts (l.getD j 0)) : ¬ StDif ts := by
  intro h
  have m1 : l.getD (j + 1) 0 ∈ l := by rw [getD_lt _ _ hj]; exact List.getElem_mem _
  have m0 : l.getD j 0 ∈ l := by rw [getD_lt _ _ (by omega)]; exact List.getElem_mem _
  have t1 := (tabN_mem ho).1 (hp.mem_iff.1 m1)
  have t0 := (tabN_mem ho).1 (hp.mem_iff.1 m0)
  have q := h _ _ t1.1 t0.1 t1.2 t0.2 e
  rw [getD_lt _ _ hj, getD_lt _ _ (by omega)] at q
  have nd : l.Nodup := hp.nodup_iff.2 (tabN_nodup ts)
  exact (List.pairwise_iff_getElem.1 nd) j (j + 1) (by omega) hj (by omega) q.symm
def SdPost (w : World) (ts : List Th) (e : Ending) (w' : World) : Prop := ∃ r : Bool, e = .returned (.bool r) ∧ (r = true ↔ StDif ts) ∧ w.grownBy w' none
set_option maxRecDepth 100000 in
set_option maxHeartbeats 4000000 in
theorem stampsDiffer_any (b : Nat) (vt : Value) (ts : List Th) (w : World) (c0 : w.cell? ⟨b, 0, none⟩ = some vt) (T : ThsAt w vt ts) (hf : ts.length ≤ 2048) (ho : Owners ts) : Calls Try.prog 75 #[.pointer (some ⟨b, 0, none⟩)] w (SdPost w ts) := by
  have C1 := onTable_any b vt ts w c0 T hf
  have H2 : Hid (∀ w1 v, w.grownBy w1 none → OwnI w1 w.heap.size v (tabN ts) → Calls Try.prog 66 #[.pointer (some ⟨b, 0, none⟩), v] w1 (BsPost w v ts (tabN ts))) := fun w1 v g o => byStamp_any w w1 b vt v ts (tabN ts) c0 T hf g o (fun n hn => tabN_there hn) (by have := tabN_len ts; omega)
  have HT : Hid (ThsAt w vt ts) := T
  have HC : Hid (w.cell? ⟨b, 0, none⟩ = some vt) := c0
  have Ho : Hid (Owners ts) := ho
  have Hf : Hid (ts.length ≤ 2048) := hf
  clear c0 T hf ho
  go_enter Try.func75, Try.ntmps75
  go_wp2_with fail
  refine C1.mono ?_
  rintro e w1 ⟨v1, rfl, o1, g1⟩
  have C2 := H2.out w1 v1 g1 o1
  obtain ⟨p1, q1, rfl⟩ := o1.form
  clear o1 g1 C1 H2
  go_wp2_with fail
  refine C2.mono ?_
  rintro e w2 ⟨l, rfl, hp, hs, o2, g2⟩
  have hll : (tabN ts).length = l.length := hp.length_eq.symm
  rw [hll] at o2 ⊢
  have HP : Hid (l.Perm (tabN ts)) := hp
  have HS : Hid (l.Pairwise fun a b => stOf ts a ≤ stOf ts b) := hs
  have HO : Hid (OwnI w2 w.heap.size (.slice p1 l.length q1) l) := o2
  have HG : Hid (w.grownBy w2 none) := g2
  have HL : Hid (l.length ≤ 4096) := by show l.length ≤ 4096; rw [← hll]; have := tabN_len ts; have := Hf.out; omega
  clear hp hs o2 g2 C2 hll
  go_wp2
  go_loopw [4] (fun i wr => ∃ j n : Nat, i = .int .i64 ((j : Int) + 1) ∧ wr = w2.drewN n ∧ j ≤ l.length ∧ ∀ k : Nat, k < j → k + 1 < l.length → stOf ts (l.getD (k + 1) 0) ≠ stOf ts (l.getD k 0)) (fun i _ => l.length + 1 - (intOf i).toNat)
  case atStart => exact ⟨0, 0, rfl, rfl, Nat.zero_le _, fun k hk => absurd hk (Nat.not_lt_zero _)⟩
  case round =>
    obtain ⟨j, n, rfl, rfl, hj, hall⟩ := hrel
    have HA : Hid (∀ k : Nat, k < j → k + 1 < l.length → stOf ts (l.getD (k + 1) 0) ≠ stOf ts (l.getD k 0)) := hall
    clear hall
    by_cases hlt : j + 1 < l.length
    · have hlt1 : (j : Int) + 1 < (l.length : Int) := by omega
      have hlt0 : (j : Int) < (l.length : Int) := by omega
      have hw0 : wrap64 (j : Int) = (j : Int) := by have := HL.out; unfold wrap64; omega
      have hw2 : wrap64 ((j : Int) + 1 + 1) = (j : Int) + 1 + 1 := by have := HL.out; unfold wrap64; omega
      obtain ⟨_, _, ev, _, hc⟩ := HO.out.l.ints
      cases ev
      obtain ⟨tg, to_, rfl, cc⟩ := hc (by omega)
      have y1 := cc (j + 1) hlt
      have y0 := cc j (by omega)
      clear cc hc
      have th1 : there ts (l.getD (j + 1) 0) := tabN_there (HP.out.mem_iff.1 (by rw [getD_lt _ _ hlt]; exact List.getElem_mem _))
      have th0 : there ts (l.getD j 0) := tabN_there (HP.out.mem_iff.1 (by rw [getD_lt _ _ (by omega)]; exact List.getElem_mem _))
      obtain ⟨g, off, cap, ev1, R1⟩ := ths_there (HT.out.keep HG.out) th1
      obtain ⟨g', off', cap', ev0, R0⟩ := ths_there (HT.out.keep HG.out) th0
      subst ev1
      cases ev0
      have x0 : w2.cell? ⟨b, 0, none⟩ = some (.slice (some ⟨g, off, none⟩) ts.length cap) := HG.out.cell HC.out (by simp)
      obtain ⟨n1, e1⟩ : ∃ n1, n1 = l.getD (j + 1) 0 := ⟨_, rfl⟩
      obtain ⟨n0, e0⟩ : ∃ n0, n0 = l.getD j 0 := ⟨_, rfl⟩
      rw [← e1] at y1 th1 R1
      rw [← e0] at y0 th0 R0
      have HE1 : Hid (n1 = l.getD (j + 1) 0) := e1
      have HE0 : Hid (n0 = l.getD j 0) := e0
      clear e1 e0
      obtain ⟨a, rfl⟩ : ∃ a : Nat, n1 = (a : Int) + 1 := ⟨(n1 - 1).toNat, by unfold there at th1; omega⟩
      obtain ⟨c, rfl⟩ : ∃ c : Nat, n0 = (c : Int) + 1 := ⟨(n0 - 1).toNat, by unfold there at th0; omega⟩
      have ha : (a : Int) < ts.length := by unfold there at th1; omega
      have hc : (c : Int) < ts.length := by unfold there at th0; omega
      have ha' : a < ts.length := by omega
      have hc' : c < ts.length := by omega
      have hwa : wrap64 (a : Int) = (a : Int) := by have := Hf.out; unfold wrap64; omega
      have hwc : wrap64 (c : Int) = (c : Int) := by have := Hf.out; unfold wrap64; omega
      rw [show ((a : Int) + 1 - 1).toNat = a from by omega] at R1
      rw [show ((c : Int) + 1 - 1).toNat = c from by omega] at R0
      obtain ⟨_, _, _, s1, _⟩ := range_cells R1
      obtain ⟨_, _, _, s0, _⟩ := range_cells R0
      obtain ⟨u, hu⟩ : ∃ u, u = (thAt ts ((a : Int) + 1)).stamp := ⟨_, rfl⟩
      obtain ⟨v, hv⟩ : ∃ v, v = (thAt ts ((c : Int) + 1)).stamp := ⟨_, rfl⟩
      rw [← hu] at s1
      rw [← hv] at s0
      have HU : Hid (u = stOf ts (l.getD (j + 1) 0)) := by show u = _; rw [← HE1.out]; exact hu
      have HV : Hid (v = stOf ts (l.getD j 0)) := by show v = _; rw [← HE0.out]; exact hv
      clear hu hv R1 R0 th1 th0 HE1 HE0 HO HT HC
      by_cases he : u = v
      · have hq : (u == v) = true := by simpa using he
        have HF : Hid (∀ w3, w2.grownBy w3 none → SdPost w ts (.returned (.bool false)) w3) := fun w3 g3 => ⟨false, rfl, ⟨fun q => (by cases q), fun q => absurd q (sd_no Ho.out HP.out hlt (by rw [← HU.out, ← HV.out]; exact he))⟩, grown_trans HG.out g3⟩
        clear he
        go_wp2
        go_quiet (fail)
        go_wp2
        go_ret
        exact HF.out _ (by first | exact grown_drewN _ _ _ | exact grown_trans (grown_drewN _ _ _) (grown_drewN _ _ _))
      · have hq : (u == v) = false := by simpa using he
        have HN : Hid (∀ k : Nat, k < j + 1 → k + 1 < l.length → stOf ts (l.getD (k + 1) 0) ≠ stOf ts (l.getD k 0)) := fun k hk hl => by
          by_cases ek : k = j
          · subst ek; rw [← HU.out, ← HV.out]; exact he
          · exact HA.out k (by omega) hl
        have HI : Hid (Value.int .i64 ((j : Int) + 1 + 1) = .int .i64 (((j + 1 : Nat) : Int) + 1)) := by show Value.int _ _ = _; rw [Int.natCast_add]; rfl
        have HMe : Hid (l.length + 1 - (intOf (.int .i64 ((j : Int) + 1 + 1))).toNat < l.length + 1 - (intOf (.int .i64 ((j : Int) + 1))).toNat) := by show _ < _; simp only [intOf]; omega
        have HJ : Hid (j + 1 ≤ l.length) := by show _ ≤ _; omega
        clear he
        go_wp2
        go_quiet (fail)
        go_wp2
        rw [hw2]
        exact ⟨⟨j + 1, n + nq, HI.out, rfl, HJ.out, HN.out⟩, HMe.out⟩
    · have hlt1 : ¬ (j : Int) + 1 < (l.length : Int) := by omega
      have HF : Hid (SdPost w ts (.returned (.bool true)) (w2.drewN n)) := ⟨true, rfl, ⟨fun _ => sd_yes Ho.out HP.out HS.out (fun k hk => HA.out k (by omega) hk), fun _ => rfl⟩, grown_trans HG.out (grown_drewN _ _ _)⟩
      go_wp2
      go_ret
      exact HF.out
end Go.Proofs.Ytogpgldbbegniaa
namespace Go.Proofs.Ytogpgldbbegniaa
open Go.RowKit

theorem sound_iff {z : Zs} (hf : z.ts.length ≤ 2048) : z.Sound ↔ (1 ≤ z.nx ∧ z.nx ≤ 1099511627776) ∧ (∀ t ∈ z.ts, t.alone z.nx) ∧ StDif z.ts ∧ z.part 0 ∧ z.part 1 := by
  constructor
  · intro S
    exact ⟨⟨S.nx1, S.nx2⟩, S.each, S.stamps, ⟨S.dks 0 (Or.inl rfl), S.hds 0 (Or.inl rfl), S.hand 0 (Or.inl rfl), S.tab 0 (Or.inl rfl)⟩, ⟨S.dks 1 (Or.inr rfl), S.hds 1 (Or.inr rfl), S.hand 1 (Or.inr rfl), S.tab 1 (Or.inr rfl)⟩⟩
  · rintro ⟨⟨h1, h2⟩, h3, h4, h5, h6⟩
    refine ⟨hf, h1, h2, h3, ?_, ?_, ?_, ?_, h4⟩
    · rintro p (rfl | rfl)
      · exact h5.2.2.2
      · exact h6.2.2.2
    · rintro p (rfl | rfl)
      · exact h5.2.2.1
      · exact h6.2.2.1
    · rintro p (rfl | rfl)
      · exact h5.1
      · exact h6.1
    · rintro p (rfl | rfl)
      · exact h5.2.1
      · exact h6.2.1
def AsPost (w : World) (z : Zs) (e : Ending) (w' : World) : Prop := ∃ r : Bool, e = .returned (.bool r) ∧ (r = true ↔ z.Sound) ∧ w.grownBy w' none
theorem as_no {w w' : World} {z : Zs} (h : ¬ z.Sound) (g : w.grownBy w' none) : AsPost w z (.returned (.bool false)) w' := ⟨false, rfl, ⟨fun q => (by cases q), fun q => absurd q h⟩, g⟩
set_option maxRecDepth 100000 in
set_option maxHeartbeats 4000000 in
theorem as_low (b : Nat) (Sb : List Nat) (z : Zs) (w : World) (Z : ZAt w b Sb z) (h : z.nx < 1) : Calls Try.prog 42 #[.pointer (some ⟨b, 0, none⟩)] w (AsPost w z) := by
  have Z0 := Z
  obtain ⟨vt, d0, d1, h0, h1, Z⟩ := Z
  obtain ⟨c0, c1, c2, c3, c4, c5⟩ := Z.cell
  have HF : Hid (AsPost w z (.returned (.bool false)) w) := as_no (fun S => by have := S.nx1; omega) (grown_refl _ _)
  clear Z0 Z c0 c1 c2 c3 c4
  go_enter Try.func42, Try.ntmps42
  go_wp2
  go_ret
  exact HF.out
set_option maxRecDepth 100000 in
set_option maxHeartbeats 4000000 in
theorem as_high (b : Nat) (Sb : List Nat) (z : Zs) (w : World) (Z : ZAt w b Sb z) (h1 : ¬ z.nx < 1) (h2 : 1099511627776 < z.nx) : Calls Try.prog 42 #[.pointer (some ⟨b, 0, none⟩)] w (AsPost w z) := by
  have Z0 := Z
  obtain ⟨vt, d0, d1, h0, h1, Z⟩ := Z
  obtain ⟨c0, c1, c2, c3, c4, c5⟩ := Z.cell
  have HF : Hid (AsPost w z (.returned (.bool false)) w) := as_no (fun S => by have := S.nx2; omega) (grown_refl _ _)
  have dd : decide (z.nx > 1099511627776) = true := decide_eq_true h2
  clear Z0 Z c0 c1 c2 c3 c4
  go_enter Try.func42, Try.ntmps42
  go_wp2
  go_ret
  exact HF.out
set_option maxRecDepth 100000 in
set_option maxHeartbeats 4000000 in
theorem as_in (b : Nat) (Sb : List Nat) (z : Zs) (w : World) (Z : ZAt w b Sb z) (hf : z.ts.length ≤ 2048) (h1 : ¬ z.nx < 1) (h2 : ¬ 1099511627776 < z.nx) : Calls Try.prog 42 #[.pointer (some ⟨b, 0, none⟩)] w (AsPost w z) := by
  have Z0 := Z
  obtain ⟨vt, d0, d1, h0, h1, Z⟩ := Z
  obtain ⟨c0, c1, c2, c3, c4, c5⟩ := Z.cell
  have dd : decide (z.nx > 1099511627776) = false := decide_eq_false h2
  obtain ⟨p, cap, rfl, -, hc⟩ := Z.ts.at
  have HX : Hid (1 ≤ z.nx ∧ z.nx ≤ 1099511627776) := ⟨by omega, by omega⟩
  have HT : Hid (0 < z.ts.length → ∃ g off, p = some ⟨g, off, none⟩ ∧ ∀ (j : Nat) t, z.ts[j]? = some t → w.rangeAt g (off + j * 11) (thc t)) := hc
  have HZ : Hid (ZAt w b Sb z) := Z0
  have HC0 : Hid (w.cell? ⟨b, 0, none⟩ = some (.slice p z.ts.length cap)) := c0
  have HC5 : Hid (w.cell? ⟨b, 5, none⟩ = some (.int .i64 z.nx)) := c5
  have HTs : Hid (ThsAt w (.slice p z.ts.length cap) z.ts) := Z.ts.at
  have Hf : Hid (z.ts.length ≤ 2048) := hf
  clear Z0 Z c1 c2 c3 c4 hc hf
  go_enter Try.func42, Try.ntmps42
  go_wp2
  clear c0 c5 dd h1 h2
  go_loopw [4, 22] (fun _ i wr => ∃ k : Nat, k ≤ z.ts.length ∧ i = .int .i64 (k : Int) ∧ w.grownBy wr none ∧ ∀ (j : Nat) t, j < k → z.ts[j]? = some t → t.alone z.nx) (fun _ i _ => z.ts.length - (intOf i).toNat)
  case atStart => exact ⟨0, Nat.zero_le _, rfl, grown_refl _ _, fun j t hj => absurd hj (Nat.not_lt_zero _)⟩
  case round =>
    obtain ⟨k, hk, rfl, hg, hall⟩ := hrel
    have HG : Hid (w.grownBy wr none) := hg
    have HA : Hid (∀ (j : Nat) t, j < k → z.ts[j]? = some t → t.alone z.nx) := hall
    clear hg hall
    by_cases hlt : k < z.ts.length
    · obtain ⟨t, ht⟩ : ∃ t, z.ts[k]? = some t := ⟨_, List.getElem?_eq_getElem hlt⟩
      obtain ⟨g, off, rfl, R⟩ := HT.out (by omega)
      obtain ⟨e1, e2, e3, e4, e5, e6, e7, e8, e9, e10, e11⟩ := range_cells (rangeAt_keep (R k t ht) HG.out)
      have hlt' : (k : Int) < z.ts.length := by omega
      have hwk : wrap64 ((k : Int) + 1) = (k : Int) + 1 := by have := Hf.out; unfold wrap64; omega
      have CM := mayBe_any b t z.nx (wr.alloc (.cells #[.int .i64 t.card, .int .i64 t.owner, .int .u8 t.place, .int .i64 t.stamp, .int .i64 t.hurt, .int .i64 t.m0, .int .i64 t.m1, .int .i64 t.m2, .int .i64 t.m3, .int .i64 t.done, .bool t.fresh] 38)) ((World.grownBy_alloc _ _ none).cell (HG.out.cell HC5.out (by simp)) (by simp))
      unfold thv at CM
      have HGV : Hid (w.grownBy (wr.alloc (.cells #[.int .i64 t.card, .int .i64 t.owner, .int .u8 t.place, .int .i64 t.stamp, .int .i64 t.hurt, .int .i64 t.m0, .int .i64 t.m1, .int .i64 t.m2, .int .i64 t.m3, .int .i64 t.done, .bool t.fresh] 38)) none) := grown_push HG.out _
      have HP : Hid (k + 1 ≤ z.ts.length) := hlt
      have HMe : Hid (z.ts.length - (intOf (.int .i64 ((k : Int) + 1))).toNat < z.ts.length - (intOf (.int .i64 (k : Int))).toNat) := meas_next hlt
      have Ht : Hid (z.ts[k]? = some t) := ht
      clear R ht HT HC0 HTs HZ hk
      go_wp2_with fail
      refine CM.mono ?_
      rintro e w3 ⟨r, rfl, hr, g3⟩
      have HG3 : Hid (w.grownBy w3 none) := grown_trans HGV.out g3
      have HR : Hid (r = true ↔ t.alone z.nx) := hr
      clear hr g3 CM HGV e1 e2 e3 e4 e5 e6 e7 e8 e9 e10 e11
      cases r with
      | false =>
        have HF : Hid (AsPost w z (.returned (.bool false)) w3) := as_no (fun S => by have := HR.out.2 (S.each t (List.mem_of_getElem? Ht.out)); cases this) HG3.out
        go_wp2
        go_ret
        exact HF.out
      | true =>
        have HN : Hid (∀ (j : Nat) t, j < k + 1 → z.ts[j]? = some t → t.alone z.nx) := fun j u hj hu => by
          by_cases ej : j = k
          · subst ej
            rw [Ht.out] at hu
            cases hu
            exact HR.out.1 rfl
          · exact HA.out j u (by omega) hu
        have HI : Hid (Value.int .i64 ((k : Int) + 1) = .int .i64 ((k + 1 : Nat) : Int)) := rfl
        go_wp2
        rw [hwk]
        exact ⟨⟨k + 1, HP.out, HI.out, HG3.out, HN.out⟩, HMe.out⟩
    · have hlt' : ¬ (k : Int) < z.ts.length := by omega
      have HE : Hid (∀ t ∈ z.ts, t.alone z.nx) := fun t ht => by
        obtain ⟨j, hj, ej⟩ := List.getElem_of_mem ht
        exact HA.out j t (by omega) (by rw [List.getElem?_eq_getElem hj, ej])
      have C1 := stampsDiffer_any b _ z.ts wr (HG.out.cell HC0.out (by simp)) (HTs.out.keep HG.out) Hf.out (fun t ht => (HE.out t ht).2.1)
      have H2 : Hid (∀ w1, w.grownBy w1 none → Calls Try.prog 76 #[.pointer (some ⟨b, 0, none⟩), .int .i64 0] w1 (IsPost w1 z 0)) := fun w1 g => isSound0 b Sb z w1 (HZ.out.grow g) Hf.out
      have H3 : Hid (∀ w1, w.grownBy w1 none → Calls Try.prog 76 #[.pointer (some ⟨b, 0, none⟩), .int .i64 1] w1 (IsPost w1 z 1)) := fun w1 g => isSound1 b Sb z w1 (HZ.out.grow g) Hf.out
      clear HA HC0 HC5 HTs HZ HT hk hlt
      go_wp2_with fail
      refine C1.mono ?_
      rintro e w1 ⟨r1, rfl, k1, g1⟩
      have HG1 : Hid (w.grownBy w1 none) := grown_trans HG.out g1
      have HK1 : Hid (r1 = true ↔ StDif z.ts) := k1
      clear g1 k1 C1
      cases r1 with
      | false =>
        have HF : Hid (AsPost w z (.returned (.bool false)) w1) := as_no (fun S => by have := HK1.out.2 S.stamps; cases this) HG1.out
        go_wp2
        go_ret
        exact HF.out
      | true =>
        have HK1' : Hid (StDif z.ts) := HK1.out.1 rfl
        have C2 := H2.out w1 HG1.out
        clear HK1
        clear H2
        go_wp2_with fail
        refine C2.mono ?_
        rintro e w2 ⟨r2, rfl, k2, g2⟩
        have HG2 : Hid (w.grownBy w2 none) := grown_trans HG1.out g2
        have HK2 : Hid (r2 = true ↔ z.part 0) := k2
        clear g2 k2 C2
        cases r2 with
        | false =>
          have HF : Hid (AsPost w z (.returned (.bool false)) w2) := as_no (fun S => by have := HK2.out.2 ((sound_iff Hf.out).1 S).2.2.2.1; cases this) HG2.out
          go_wp2
          go_ret
          exact HF.out
        | true =>
          have HK2' : Hid (z.part 0) := HK2.out.1 rfl
          have C3 := H3.out w2 HG2.out
          clear HK2
          clear H3
          go_wp2_with fail
          refine C3.mono ?_
          rintro e w3 ⟨r3, rfl, k3, g3⟩
          have HF : Hid (AsPost w z (.returned (.bool r3)) w3) := ⟨r3, rfl, ⟨fun q => (sound_iff Hf.out).2 ⟨HX.out, HE.out, HK1'.out, HK2'.out, k3.1 q⟩, fun S => k3.2 ((sound_iff Hf.out).1 S).2.2.2.2⟩, grown_trans HG2.out g3⟩
          clear g3 k3 C3
          go_wp2
          go_ret
          exact HF.out
theorem areSound_any (b : Nat) (Sb : List Nat) (z : Zs) (w : World) (Z : ZAt w b Sb z) (hf : z.ts.length ≤ 2048) : Calls Try.prog 42 #[.pointer (some ⟨b, 0, none⟩)] w (AsPost w z) := by
  by_cases h1 : z.nx < 1
  · exact as_low b Sb z w Z h1
  by_cases h2 : 1099511627776 < z.nx
  · exact as_high b Sb z w Z h1 h2
  · exact as_in b Sb z w Z hf h1 h2
end Go.Proofs.Ytogpgldbbegniaa
