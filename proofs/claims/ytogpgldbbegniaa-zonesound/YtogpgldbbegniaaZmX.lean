/-
  Zones: may a thing be?
-/
import Derived.Test.YtogpgldbbegniaaZmU
namespace Go.Proofs.Ytogpgldbbegniaa
open Go.RowKit

def MbPost (w : World) (t : Th) (nx : Int) (e : Ending) (w' : World) : Prop := ∃ r : Bool, e = .returned (.bool r) ∧ (r = true ↔ t.alone nx) ∧ w.grownBy w' none
theorem mb_no {w w' : World} {t : Th} {nx : Int} (h : ¬ t.alone nx) (g : w.grownBy w' none) : MbPost w t nx (.returned (.bool false)) w' := ⟨false, rfl, ⟨fun q => (by cases q), fun q => absurd q h⟩, g⟩
set_option maxRecDepth 100000 in
set_option maxHeartbeats 4000000 in
theorem mb_card (b : Nat) (t : Th) (nx : Int) (w : World) (c5 : w.cell? ⟨b, 5, none⟩ = some (.int .i64 nx)) (h : t.card < 1) : Calls Try.prog 74 #[.pointer (some ⟨b, 0, none⟩), thv t] w (MbPost w t nx) := by
  unfold thv
  obtain ⟨X, hX⟩ : ∃ X, X = w.heap.size := ⟨_, rfl⟩
  obtain ⟨V, hV⟩ : ∃ V, V = w.alloc (.cells #[.int .i64 t.card, .int .i64 t.owner, .int .u8 t.place, .int .i64 t.stamp, .int .i64 t.hurt, .int .i64 t.m0, .int .i64 t.m1, .int .i64 t.m2, .int .i64 t.m3, .int .i64 t.done, .bool t.fresh] 38) := ⟨_, rfl⟩
  have HXe : Hid (X = w.heap.size) := hX
  have HV : Hid (V = w.alloc (.cells #[.int .i64 t.card, .int .i64 t.owner, .int .u8 t.place, .int .i64 t.stamp, .int .i64 t.hurt, .int .i64 t.m0, .int .i64 t.m1, .int .i64 t.m2, .int .i64 t.m3, .int .i64 t.done, .bool t.fresh] 38)) := hV
  have HGV : Hid (w.grownBy V none) := by show w.grownBy V none; rw [hV]; exact World.grownBy_alloc _ _ _
  have HS : Hid (V.heap[X]? = some (.cells (thc t).toArray 38 (0, 0))) := by show V.heap[X]? = _; rw [hV, hX]; exact alloc_at _ _ _
  have HB : Hid (V.cell? ⟨b, 5, none⟩ = some (.int .i64 nx)) := HGV.out.cell c5 (by simp)
  have O := isOwner_any t.owner V
  have P := isPlace_any t.place V
  have HF : Hid (MbPost w t nx (.returned (.bool false)) V) := mb_no (fun q => by have := q.1; omega) HGV.out
  rw [hV] at HF O P
  clear hX hV c5
  go_enter Try.func74, Try.ntmps74
  go_wp2
  go_ret
  exact HF.out
set_option maxRecDepth 100000 in
set_option maxHeartbeats 4000000 in
theorem mb_owner (b : Nat) (t : Th) (nx : Int) (w : World) (c5 : w.cell? ⟨b, 5, none⟩ = some (.int .i64 nx)) (h1 : ¬ t.card < 1) (h2 : ¬ (t.owner = 0 ∨ t.owner = 1)) : Calls Try.prog 74 #[.pointer (some ⟨b, 0, none⟩), thv t] w (MbPost w t nx) := by
  unfold thv
  obtain ⟨X, hX⟩ : ∃ X, X = w.heap.size := ⟨_, rfl⟩
  obtain ⟨V, hV⟩ : ∃ V, V = w.alloc (.cells #[.int .i64 t.card, .int .i64 t.owner, .int .u8 t.place, .int .i64 t.stamp, .int .i64 t.hurt, .int .i64 t.m0, .int .i64 t.m1, .int .i64 t.m2, .int .i64 t.m3, .int .i64 t.done, .bool t.fresh] 38) := ⟨_, rfl⟩
  have HXe : Hid (X = w.heap.size) := hX
  have HV : Hid (V = w.alloc (.cells #[.int .i64 t.card, .int .i64 t.owner, .int .u8 t.place, .int .i64 t.stamp, .int .i64 t.hurt, .int .i64 t.m0, .int .i64 t.m1, .int .i64 t.m2, .int .i64 t.m3, .int .i64 t.done, .bool t.fresh] 38)) := hV
  have HGV : Hid (w.grownBy V none) := by show w.grownBy V none; rw [hV]; exact World.grownBy_alloc _ _ _
  have HS : Hid (V.heap[X]? = some (.cells (thc t).toArray 38 (0, 0))) := by show V.heap[X]? = _; rw [hV, hX]; exact alloc_at _ _ _
  have HB : Hid (V.cell? ⟨b, 5, none⟩ = some (.int .i64 nx)) := HGV.out.cell c5 (by simp)
  have O := isOwner_any t.owner V
  have P := isPlace_any t.place V
  have HF : Hid (MbPost w t nx (.returned (.bool false)) V) := mb_no (fun q => h2 q.2.1) HGV.out
  rw [decide_eq_false h2] at O
  rw [hV] at HF O P
  clear hX hV c5
  clear h2
  go_enter Try.func74, Try.ntmps74
  go_wp2_with (first | (go_at_call 68; refine O.mono ?_; rintro e w9 ⟨rfl, h9⟩; subst h9) | (go_at_call 63; refine P.mono ?_; rintro e w9 ⟨rfl, h9⟩; subst h9))
  go_ret
  exact HF.out
set_option maxRecDepth 100000 in
set_option maxHeartbeats 4000000 in
theorem mb_place (b : Nat) (t : Th) (nx : Int) (w : World) (c5 : w.cell? ⟨b, 5, none⟩ = some (.int .i64 nx)) (h1 : ¬ t.card < 1) (h2 : t.owner = 0 ∨ t.owner = 1) (h3 : ¬ (1 ≤ t.place ∧ t.place ≤ 5)) : Calls Try.prog 74 #[.pointer (some ⟨b, 0, none⟩), thv t] w (MbPost w t nx) := by
  unfold thv
  obtain ⟨X, hX⟩ : ∃ X, X = w.heap.size := ⟨_, rfl⟩
  obtain ⟨V, hV⟩ : ∃ V, V = w.alloc (.cells #[.int .i64 t.card, .int .i64 t.owner, .int .u8 t.place, .int .i64 t.stamp, .int .i64 t.hurt, .int .i64 t.m0, .int .i64 t.m1, .int .i64 t.m2, .int .i64 t.m3, .int .i64 t.done, .bool t.fresh] 38) := ⟨_, rfl⟩
  have HXe : Hid (X = w.heap.size) := hX
  have HV : Hid (V = w.alloc (.cells #[.int .i64 t.card, .int .i64 t.owner, .int .u8 t.place, .int .i64 t.stamp, .int .i64 t.hurt, .int .i64 t.m0, .int .i64 t.m1, .int .i64 t.m2, .int .i64 t.m3, .int .i64 t.done, .bool t.fresh] 38)) := hV
  have HGV : Hid (w.grownBy V none) := by show w.grownBy V none; rw [hV]; exact World.grownBy_alloc _ _ _
  have HS : Hid (V.heap[X]? = some (.cells (thc t).toArray 38 (0, 0))) := by show V.heap[X]? = _; rw [hV, hX]; exact alloc_at _ _ _
  have HB : Hid (V.cell? ⟨b, 5, none⟩ = some (.int .i64 nx)) := HGV.out.cell c5 (by simp)
  have O := isOwner_any t.owner V
  have P := isPlace_any t.place V
  have HF : Hid (MbPost w t nx (.returned (.bool false)) V) := mb_no (fun q => h3 q.2.2.1) HGV.out
  rw [decide_eq_true h2] at O
  rw [decide_eq_false h3] at P
  rw [hV] at HF O P
  clear hX hV c5
  clear h2 h3
  go_enter Try.func74, Try.ntmps74
  go_wp2_with (first | (go_at_call 68; refine O.mono ?_; rintro e w9 ⟨rfl, h9⟩; subst h9) | (go_at_call 63; refine P.mono ?_; rintro e w9 ⟨rfl, h9⟩; subst h9))
  go_ret
  exact HF.out
set_option maxRecDepth 100000 in
set_option maxHeartbeats 4000000 in
theorem mb_off (b : Nat) (t : Th) (nx : Int) (w : World) (c5 : w.cell? ⟨b, 5, none⟩ = some (.int .i64 nx)) (h1 : ¬ t.card < 1) (h2 : t.owner = 0 ∨ t.owner = 1) (h3 : 1 ≤ t.place ∧ t.place ≤ 5) (h4 : t.place ≠ 4) : Calls Try.prog 74 #[.pointer (some ⟨b, 0, none⟩), thv t] w (MbPost w t nx) := by
  unfold thv
  obtain ⟨X, hX⟩ : ∃ X, X = w.heap.size := ⟨_, rfl⟩
  obtain ⟨V, hV⟩ : ∃ V, V = w.alloc (.cells #[.int .i64 t.card, .int .i64 t.owner, .int .u8 t.place, .int .i64 t.stamp, .int .i64 t.hurt, .int .i64 t.m0, .int .i64 t.m1, .int .i64 t.m2, .int .i64 t.m3, .int .i64 t.done, .bool t.fresh] 38) := ⟨_, rfl⟩
  have HXe : Hid (X = w.heap.size) := hX
  have HV : Hid (V = w.alloc (.cells #[.int .i64 t.card, .int .i64 t.owner, .int .u8 t.place, .int .i64 t.stamp, .int .i64 t.hurt, .int .i64 t.m0, .int .i64 t.m1, .int .i64 t.m2, .int .i64 t.m3, .int .i64 t.done, .bool t.fresh] 38)) := hV
  have HGV : Hid (w.grownBy V none) := by show w.grownBy V none; rw [hV]; exact World.grownBy_alloc _ _ _
  have HS : Hid (V.heap[X]? = some (.cells (thc t).toArray 38 (0, 0))) := by show V.heap[X]? = _; rw [hV, hX]; exact alloc_at _ _ _
  have HB : Hid (V.cell? ⟨b, 5, none⟩ = some (.int .i64 nx)) := HGV.out.cell c5 (by simp)
  have O := isOwner_any t.owner V
  have P := isPlace_any t.place V
  have q4 : (t.place != 4) = true := by simpa using h4
  rw [decide_eq_true h2] at O
  rw [decide_eq_true h3] at P
  have HA : Hid (t.alone nx ↔ t = t.home t.place) := ⟨fun q => q.2.2.2.1 h4, fun q => ⟨by omega, h2, h3, fun _ => q, fun q => absurd q h4⟩⟩
  have AH := atHome_any t t.place V.drew
  unfold thv at AH
  have heq := eql_th
  have hgq := eqg_th
  obtain ⟨r, hr⟩ : ∃ r, r = samet t (t.home t.place) := ⟨_, rfl⟩
  have HR : Hid (r = true ↔ t = t.home t.place) := by rw [hr]; exact samet_iff
  have hse : samet (⟨t.card, t.owner, t.place, t.stamp, t.hurt, t.m0, t.m1, t.m2, t.m3, t.done, t.fresh⟩ : Th) ⟨t.card, t.owner, t.place, 0, 0, 0, 0, 0, 0, 0, false⟩ = r := hr.symm
  rw [hV] at O P
  clear hX hV c5
  clear h2 h3 h4 hr
  go_enter Try.func74, Try.ntmps74
  go_upto_region 4 with (first | (go_at_call 68; refine O.mono ?_; rintro e w9 ⟨rfl, h9⟩; subst h9) | (go_at_call 63; refine P.mono ?_; rintro e w9 ⟨rfl, h9⟩; subst h9))
  rw [← HXe.out, ← HV.out]
  refine wp_region_held_drew (S := fun w' => w'.heap[X]? = some (.cells (thc t).toArray 38 (0, 0)) ∧ w'.cell? ⟨b, 5, none⟩ = some (.int .i64 nx)) (by kernel_rfl) (⟨grown_keep (grown_drew V) HS.out (by simp), (grown_drew V).cell HB.out (by simp)⟩) (fun hHeld => ?_)
  refine wpAnyH_take (i := 0) (v := ?_) rfl (by kernel_rfl) (by kernel_rfl) (by kernel_rfl) (fun _ _ _ h => h) (Or.inl ⟨by rfl, ?_⟩) (by assumption) ?_
  rotate_left 1
  · (intro w0 hSw; obtain ⟨r0, r1, r2, r3, r4, r5, r6, r7, r8, r9, r10⟩ := box_cells hSw.1; go_simp; try with_reducible rfl)
  simp only [List.getElem_toArray, List.getElem_cons_zero]
  go_frame
  refine wpAnyH_take (i := 1) (v := ?_) rfl (by kernel_rfl) (by kernel_rfl) (by kernel_rfl) (fun _ _ _ h => h) (Or.inl ⟨by rfl, ?_⟩) (by assumption) ?_
  rotate_left 1
  · (intro w0 hSw; obtain ⟨r0, r1, r2, r3, r4, r5, r6, r7, r8, r9, r10⟩ := box_cells hSw.1; go_simp; try with_reducible rfl)
  simp only [List.getElem_toArray, List.getElem_cons_zero, List.getElem_cons_succ]
  go_frame
  refine wpAnyH_take (i := 2) (v := ?_) rfl (by kernel_rfl) (by kernel_rfl) (by kernel_rfl) (fun _ _ _ h => h) (Or.inl ⟨by rfl, ?_⟩) (by assumption) ?_
  rotate_left 1
  · (intro w0 hSw; go_simp; try with_reducible rfl)
  simp only [List.getElem_toArray, List.getElem_cons_zero, List.getElem_cons_succ]
  go_frame
  refine wpAnyH_take (i := 3) (v := ?_) rfl (by kernel_rfl) (by kernel_rfl) (by kernel_rfl) (fun _ _ _ h => h) (Or.inl ⟨by rfl, ?_⟩) (by assumption) ?_
  rotate_left 1
  · (intro w0 hSw; obtain ⟨r0, r1, r2, r3, r4, r5, r6, r7, r8, r9, r10⟩ := box_cells hSw.1; go_simp; try with_reducible rfl)
  simp only [List.getElem_toArray, List.getElem_cons_zero, List.getElem_cons_succ]
  go_frame
  refine wpAnyH_ready (rs := [4]) (by kernel_rfl) (by simp) ?_
  refine AllReadyH.cons rfl (fun K hK => ?_) AllReadyH.nil
  simp only [List.getElem_toArray, List.getElem_cons_zero, List.getElem_cons_succ]
  go_simp
  go_at_call 98
  refine (AH).mono ?_
  rintro e w2 ⟨rfl, g2⟩
  have HG2 : Hid (V.drew.grownBy w2 none) := g2
  clear g2 AH
  refine hK.out _ _ (⟨grown_keep HG2.out (grown_keep (grown_drew V) HS.out (by simp)) (by simp), HG2.out.cell ((grown_drew V).cell HB.out (by simp)) (by simp)⟩) (fun hHeld2 => ?_)
  clear hK K
  (try go_frame)
  refine wpAnyH_take (i := 5) (v := ?_) rfl (by kernel_rfl) (by kernel_rfl) (by kernel_rfl) (fun _ _ _ h => h) (Or.inl ⟨by rfl, ?_⟩) (by assumption) ?_
  rotate_left 1
  · (intro w0 hSw; go_simp; try with_reducible rfl)
  simp only [List.getElem_toArray, List.getElem_cons_zero, List.getElem_cons_succ]
  go_frame
  refine wpAnyH_take (i := 6) (v := ?_) rfl (by kernel_rfl) (by kernel_rfl) (by kernel_rfl) (fun _ _ _ h => h) (Or.inl ⟨by rfl, ?_⟩) (by assumption) ?_
  rotate_left 1
  · (intro w0 hSw; go_simp; try with_reducible rfl)
  simp only [List.getElem_toArray, List.getElem_cons_zero, List.getElem_cons_succ]
  go_frame
  refine wpAnyH_done (by kernel_rfl) ?_ _
  have HF : Hid (MbPost w t nx (.returned (.bool r)) w2) := ⟨r, rfl, HR.out.trans HA.out.symm, grown_trans HGV.out (grown_trans (grown_drew V) HG2.out)⟩
  clear HG2 HS HB
  go_wp2
  go_ret
  exact HF.out
set_option maxRecDepth 100000 in
set_option maxHeartbeats 4000000 in
theorem mb_low (b : Nat) (t : Th) (nx : Int) (w : World) (c5 : w.cell? ⟨b, 5, none⟩ = some (.int .i64 nx)) (h1 : ¬ t.card < 1) (h2 : t.owner = 0 ∨ t.owner = 1) (h3 : 1 ≤ t.place ∧ t.place ≤ 5) (h4 : t.place = 4) (h5 : ¬ 1 ≤ t.stamp) : Calls Try.prog 74 #[.pointer (some ⟨b, 0, none⟩), thv t] w (MbPost w t nx) := by
  unfold thv
  obtain ⟨X, hX⟩ : ∃ X, X = w.heap.size := ⟨_, rfl⟩
  obtain ⟨V, hV⟩ : ∃ V, V = w.alloc (.cells #[.int .i64 t.card, .int .i64 t.owner, .int .u8 t.place, .int .i64 t.stamp, .int .i64 t.hurt, .int .i64 t.m0, .int .i64 t.m1, .int .i64 t.m2, .int .i64 t.m3, .int .i64 t.done, .bool t.fresh] 38) := ⟨_, rfl⟩
  have HXe : Hid (X = w.heap.size) := hX
  have HV : Hid (V = w.alloc (.cells #[.int .i64 t.card, .int .i64 t.owner, .int .u8 t.place, .int .i64 t.stamp, .int .i64 t.hurt, .int .i64 t.m0, .int .i64 t.m1, .int .i64 t.m2, .int .i64 t.m3, .int .i64 t.done, .bool t.fresh] 38)) := hV
  have HGV : Hid (w.grownBy V none) := by show w.grownBy V none; rw [hV]; exact World.grownBy_alloc _ _ _
  have HS : Hid (V.heap[X]? = some (.cells (thc t).toArray 38 (0, 0))) := by show V.heap[X]? = _; rw [hV, hX]; exact alloc_at _ _ _
  have HB : Hid (V.cell? ⟨b, 5, none⟩ = some (.int .i64 nx)) := HGV.out.cell c5 (by simp)
  have O := isOwner_any t.owner V
  have P := isPlace_any t.place V
  have q4 : (t.place != 4) = false := by simp [h4]
  rw [decide_eq_true h2] at O
  rw [decide_eq_true h3] at P
  have d5 : decide (t.stamp ≥ 1) = false := decide_eq_false h5
  have HF : Hid (MbPost w t nx (.returned (.bool false)) V.drew) := mb_no (fun q => by have := (q.2.2.2.2 h4); omega) (grown_trans HGV.out (grown_drew V))
  rw [hV] at O P
  clear hX hV c5
  clear h2 h3 h4
  go_enter Try.func74, Try.ntmps74
  go_upto_region 5 with (first | (go_at_call 68; refine O.mono ?_; rintro e w9 ⟨rfl, h9⟩; subst h9) | (go_at_call 63; refine P.mono ?_; rintro e w9 ⟨rfl, h9⟩; subst h9))
  rw [← HXe.out, ← HV.out]
  refine wp_region_held_drew (S := fun w' => w'.heap[X]? = some (.cells (thc t).toArray 38 (0, 0)) ∧ w'.cell? ⟨b, 5, none⟩ = some (.int .i64 nx)) (by kernel_rfl) (⟨grown_keep (grown_drew V) HS.out (by simp), (grown_drew V).cell HB.out (by simp)⟩) (fun hHeld => ?_)
  refine wpAnyH_take (i := 0) (v := ?_) rfl (by kernel_rfl) (by kernel_rfl) (by kernel_rfl) (fun _ _ _ h => h) (Or.inl ⟨by rfl, ?_⟩) (by assumption) ?_
  rotate_left 1
  · (intro w0 hSw; go_simp; try with_reducible rfl)
  simp only [List.getElem_toArray, List.getElem_cons_zero]
  go_frame
  refine wpAnyH_take (i := 1) (v := ?_) rfl (by kernel_rfl) (by kernel_rfl) (by kernel_rfl) (fun _ _ _ h => h) (Or.inl ⟨by rfl, ?_⟩) (by assumption) ?_
  rotate_left 1
  · (intro w0 hSw; obtain ⟨r0, r1, r2, r3, r4, r5, r6, r7, r8, r9, r10⟩ := box_cells hSw.1; go_simp; try with_reducible rfl)
  simp only [List.getElem_toArray, List.getElem_cons_zero, List.getElem_cons_succ]
  go_frame
  refine wpAnyH_take (i := 2) (v := ?_) rfl (by kernel_rfl) (by kernel_rfl) (by kernel_rfl) (fun _ _ _ h => h) (Or.inl ⟨by rfl, ?_⟩) (by assumption) ?_
  rotate_left 1
  · (intro w0 hSw; go_simp; try with_reducible rfl)
  simp only [List.getElem_toArray, List.getElem_cons_zero, List.getElem_cons_succ]
  go_frame
  refine wpAnyH_take (i := 3) (v := ?_) rfl (by kernel_rfl) (by kernel_rfl) (by kernel_rfl) (fun _ _ _ h => h) (Or.inl ⟨by rfl, ?_⟩) (by assumption) ?_
  rotate_left 1
  · (intro w0 hSw; go_simp; try with_reducible rfl)
  simp only [List.getElem_toArray, List.getElem_cons_zero, List.getElem_cons_succ]
  go_frame
  refine wpAnyH_take (i := 4) (v := undef) rfl (by kernel_rfl) (by kernel_rfl) (by kernel_rfl) (fun _ _ _ h => h) (Or.inr ⟨by rfl, rfl⟩) (by assumption) ?_
  simp only [List.getElem_toArray, List.getElem_cons_zero, List.getElem_cons_succ]
  go_frame
  refine wpAnyH_take (i := 5) (v := undef) rfl (by kernel_rfl) (by kernel_rfl) (by kernel_rfl) (fun _ _ _ h => h) (Or.inr ⟨by rfl, rfl⟩) (by assumption) ?_
  simp only [List.getElem_toArray, List.getElem_cons_zero, List.getElem_cons_succ]
  go_frame
  refine wpAnyH_take (i := 6) (v := undef) rfl (by kernel_rfl) (by kernel_rfl) (by kernel_rfl) (fun _ _ _ h => h) (Or.inr ⟨by rfl, rfl⟩) (by assumption) ?_
  simp only [List.getElem_toArray, List.getElem_cons_zero, List.getElem_cons_succ]
  go_frame
  refine wpAnyH_take (i := 7) (v := undef) rfl (by kernel_rfl) (by kernel_rfl) (by kernel_rfl) (fun _ _ _ h => h) (Or.inr ⟨by rfl, rfl⟩) (by assumption) ?_
  simp only [List.getElem_toArray, List.getElem_cons_zero, List.getElem_cons_succ]
  go_frame
  refine wpAnyH_take (i := 8) (v := undef) rfl (by kernel_rfl) (by kernel_rfl) (by kernel_rfl) (fun _ _ _ h => h) (Or.inr ⟨by rfl, rfl⟩) (by assumption) ?_
  simp only [List.getElem_toArray, List.getElem_cons_zero, List.getElem_cons_succ]
  go_frame
  refine wpAnyH_take (i := 9) (v := undef) rfl (by kernel_rfl) (by kernel_rfl) (by kernel_rfl) (fun _ _ _ h => h) (Or.inr ⟨by rfl, rfl⟩) (by assumption) ?_
  simp only [List.getElem_toArray, List.getElem_cons_zero, List.getElem_cons_succ]
  go_frame
  refine wpAnyH_take (i := 10) (v := undef) rfl (by kernel_rfl) (by kernel_rfl) (by kernel_rfl) (fun _ _ _ h => h) (Or.inr ⟨by rfl, rfl⟩) (by assumption) ?_
  simp only [List.getElem_toArray, List.getElem_cons_zero, List.getElem_cons_succ]
  go_frame
  refine wpAnyH_take (i := 11) (v := ?_) rfl (by kernel_rfl) (by kernel_rfl) (by kernel_rfl) (fun _ _ _ h => h) (Or.inl ⟨by rfl, ?_⟩) (by assumption) ?_
  rotate_left 1
  · (intro w0 hSw; go_simp; try with_reducible rfl)
  simp only [List.getElem_toArray, List.getElem_cons_zero, List.getElem_cons_succ]
  go_frame
  refine wpAnyH_take (i := 12) (v := ?_) rfl (by kernel_rfl) (by kernel_rfl) (by kernel_rfl) (fun _ _ _ h => h) (Or.inl ⟨by rfl, ?_⟩) (by assumption) ?_
  rotate_left 1
  · (intro w0 hSw; go_simp; try with_reducible rfl)
  simp only [List.getElem_toArray, List.getElem_cons_zero, List.getElem_cons_succ]
  go_frame
  refine wpAnyH_take (i := 13) (v := undef) rfl (by kernel_rfl) (by kernel_rfl) (by kernel_rfl) (fun _ _ _ h => h) (Or.inr ⟨by rfl, rfl⟩) (by assumption) ?_
  simp only [List.getElem_toArray, List.getElem_cons_zero, List.getElem_cons_succ]
  go_frame
  refine wpAnyH_ready (rs := [14]) (by kernel_rfl) (by simp) ?_
  refine AllReadyH.cons rfl (fun K hK => ?_) AllReadyH.nil
  simp only [List.getElem_toArray, List.getElem_cons_zero, List.getElem_cons_succ]
  rw [if_neg (Bool.eq_false_iff.1 (by rfl))]
  refine hK.out _ _ (by assumption) (fun hHeld2 => ?_)
  clear hK K
  (try go_frame)
  refine wpAnyH_take (i := 15) (v := ?_) rfl (by kernel_rfl) (by kernel_rfl) (by kernel_rfl) (fun _ _ _ h => h) (Or.inl ⟨by rfl, ?_⟩) (by assumption) ?_
  rotate_left 1
  · (intro w0 hSw; go_simp; try with_reducible rfl)
  simp only [List.getElem_toArray, List.getElem_cons_zero, List.getElem_cons_succ]
  go_frame
  refine wpAnyH_take (i := 16) (v := ?_) rfl (by kernel_rfl) (by kernel_rfl) (by kernel_rfl) (fun _ _ _ h => h) (Or.inl ⟨by rfl, ?_⟩) (by assumption) ?_
  rotate_left 1
  · (intro w0 hSw; go_simp; try with_reducible rfl)
  simp only [List.getElem_toArray, List.getElem_cons_zero, List.getElem_cons_succ]
  go_frame
  refine wpAnyH_done (by kernel_rfl) ?_ _
  clear HS HB
  go_wp2
  go_ret
  exact HF.out
set_option maxRecDepth 100000 in
set_option maxHeartbeats 4000000 in
theorem mb_high (b : Nat) (t : Th) (nx : Int) (w : World) (c5 : w.cell? ⟨b, 5, none⟩ = some (.int .i64 nx)) (h1 : ¬ t.card < 1) (h2 : t.owner = 0 ∨ t.owner = 1) (h3 : 1 ≤ t.place ∧ t.place ≤ 5) (h4 : t.place = 4) (h5 : 1 ≤ t.stamp) (h6 : ¬ t.stamp < nx) : Calls Try.prog 74 #[.pointer (some ⟨b, 0, none⟩), thv t] w (MbPost w t nx) := by
  unfold thv
  obtain ⟨X, hX⟩ : ∃ X, X = w.heap.size := ⟨_, rfl⟩
  obtain ⟨V, hV⟩ : ∃ V, V = w.alloc (.cells #[.int .i64 t.card, .int .i64 t.owner, .int .u8 t.place, .int .i64 t.stamp, .int .i64 t.hurt, .int .i64 t.m0, .int .i64 t.m1, .int .i64 t.m2, .int .i64 t.m3, .int .i64 t.done, .bool t.fresh] 38) := ⟨_, rfl⟩
  have HXe : Hid (X = w.heap.size) := hX
  have HV : Hid (V = w.alloc (.cells #[.int .i64 t.card, .int .i64 t.owner, .int .u8 t.place, .int .i64 t.stamp, .int .i64 t.hurt, .int .i64 t.m0, .int .i64 t.m1, .int .i64 t.m2, .int .i64 t.m3, .int .i64 t.done, .bool t.fresh] 38)) := hV
  have HGV : Hid (w.grownBy V none) := by show w.grownBy V none; rw [hV]; exact World.grownBy_alloc _ _ _
  have HS : Hid (V.heap[X]? = some (.cells (thc t).toArray 38 (0, 0))) := by show V.heap[X]? = _; rw [hV, hX]; exact alloc_at _ _ _
  have HB : Hid (V.cell? ⟨b, 5, none⟩ = some (.int .i64 nx)) := HGV.out.cell c5 (by simp)
  have O := isOwner_any t.owner V
  have P := isPlace_any t.place V
  have q4 : (t.place != 4) = false := by simp [h4]
  rw [decide_eq_true h2] at O
  rw [decide_eq_true h3] at P
  have d5 : decide (t.stamp ≥ 1) = true := decide_eq_true h5
  have d6 : decide (t.stamp < nx) = false := decide_eq_false h6
  have HF : Hid (MbPost w t nx (.returned (.bool false)) V.drew) := mb_no (fun q => by have := (q.2.2.2.2 h4); omega) (grown_trans HGV.out (grown_drew V))
  rw [hV] at O P
  clear hX hV c5
  clear h2 h3 h4
  go_enter Try.func74, Try.ntmps74
  go_upto_region 5 with (first | (go_at_call 68; refine O.mono ?_; rintro e w9 ⟨rfl, h9⟩; subst h9) | (go_at_call 63; refine P.mono ?_; rintro e w9 ⟨rfl, h9⟩; subst h9))
  rw [← HXe.out, ← HV.out]
  refine wp_region_held_drew (S := fun w' => w'.heap[X]? = some (.cells (thc t).toArray 38 (0, 0)) ∧ w'.cell? ⟨b, 5, none⟩ = some (.int .i64 nx)) (by kernel_rfl) (⟨grown_keep (grown_drew V) HS.out (by simp), (grown_drew V).cell HB.out (by simp)⟩) (fun hHeld => ?_)
  refine wpAnyH_take (i := 0) (v := ?_) rfl (by kernel_rfl) (by kernel_rfl) (by kernel_rfl) (fun _ _ _ h => h) (Or.inl ⟨by rfl, ?_⟩) (by assumption) ?_
  rotate_left 1
  · (intro w0 hSw; go_simp; try with_reducible rfl)
  simp only [List.getElem_toArray, List.getElem_cons_zero]
  go_frame
  refine wpAnyH_take (i := 1) (v := ?_) rfl (by kernel_rfl) (by kernel_rfl) (by kernel_rfl) (fun _ _ _ h => h) (Or.inl ⟨by rfl, ?_⟩) (by assumption) ?_
  rotate_left 1
  · (intro w0 hSw; obtain ⟨r0, r1, r2, r3, r4, r5, r6, r7, r8, r9, r10⟩ := box_cells hSw.1; go_simp; try with_reducible rfl)
  simp only [List.getElem_toArray, List.getElem_cons_zero, List.getElem_cons_succ]
  go_frame
  refine wpAnyH_take (i := 2) (v := ?_) rfl (by kernel_rfl) (by kernel_rfl) (by kernel_rfl) (fun _ _ _ h => h) (Or.inl ⟨by rfl, ?_⟩) (by assumption) ?_
  rotate_left 1
  · (intro w0 hSw; go_simp; try with_reducible rfl)
  simp only [List.getElem_toArray, List.getElem_cons_zero, List.getElem_cons_succ]
  go_frame
  refine wpAnyH_take (i := 3) (v := ?_) rfl (by kernel_rfl) (by kernel_rfl) (by kernel_rfl) (fun _ _ _ h => h) (Or.inl ⟨by rfl, ?_⟩) (by assumption) ?_
  rotate_left 1
  · (intro w0 hSw; go_simp; try with_reducible rfl)
  simp only [List.getElem_toArray, List.getElem_cons_zero, List.getElem_cons_succ]
  go_frame
  refine wpAnyH_take (i := 4) (v := ?_) rfl (by kernel_rfl) (by kernel_rfl) (by kernel_rfl) (fun _ _ _ h => h) (Or.inl ⟨by rfl, ?_⟩) (by assumption) ?_
  rotate_left 1
  · (intro w0 hSw; go_simp; try with_reducible rfl)
  simp only [List.getElem_toArray, List.getElem_cons_zero, List.getElem_cons_succ]
  go_frame
  refine wpAnyH_take (i := 5) (v := ?_) rfl (by kernel_rfl) (by kernel_rfl) (by kernel_rfl) (fun _ _ _ h => h) (Or.inl ⟨by rfl, ?_⟩) (by assumption) ?_
  rotate_left 1
  · (intro w0 hSw; obtain ⟨r0, r1, r2, r3, r4, r5, r6, r7, r8, r9, r10⟩ := box_cells hSw.1; go_simp; try with_reducible rfl)
  simp only [List.getElem_toArray, List.getElem_cons_zero, List.getElem_cons_succ]
  go_frame
  refine wpAnyH_take (i := 6) (v := ?_) rfl (by kernel_rfl) (by kernel_rfl) (by kernel_rfl) (fun _ _ _ h => h) (Or.inl ⟨by rfl, ?_⟩) (by assumption) ?_
  rotate_left 1
  · (intro w0 hSw; go_simp; try with_reducible rfl)
  simp only [List.getElem_toArray, List.getElem_cons_zero, List.getElem_cons_succ]
  go_frame
  refine wpAnyH_take (i := 7) (v := ?_) rfl (by kernel_rfl) (by kernel_rfl) (by kernel_rfl) (fun _ _ _ h => h) (Or.inl ⟨by rfl, ?_⟩) (by assumption) ?_
  rotate_left 1
  · (intro w0 hSw; go_simp; try with_reducible rfl)
  simp only [List.getElem_toArray, List.getElem_cons_zero, List.getElem_cons_succ]
  go_frame
  refine wpAnyH_take (i := 8) (v := ?_) rfl (by kernel_rfl) (by kernel_rfl) (by kernel_rfl) (fun _ _ _ h => h) (Or.inl ⟨by rfl, ?_⟩) (by assumption) ?_
  rotate_left 1
  · (intro w0 hSw; go_simp; try with_reducible rfl)
  simp only [List.getElem_toArray, List.getElem_cons_zero, List.getElem_cons_succ]
  go_frame
  refine wpAnyH_take (i := 9) (v := ?_) rfl (by kernel_rfl) (by kernel_rfl) (by kernel_rfl) (fun _ _ _ h => h) (Or.inl ⟨by rfl, ?_⟩) (by assumption) ?_
  rotate_left 1
  · (intro w0 hSw; obtain ⟨-, s5⟩ := hSw; go_simp; try with_reducible rfl)
  simp only [List.getElem_toArray, List.getElem_cons_zero, List.getElem_cons_succ]
  go_frame
  refine wpAnyH_take (i := 10) (v := ?_) rfl (by kernel_rfl) (by kernel_rfl) (by kernel_rfl) (fun _ _ _ h => h) (Or.inl ⟨by rfl, ?_⟩) (by assumption) ?_
  rotate_left 1
  · (intro w0 hSw; go_simp; try with_reducible rfl)
  simp only [List.getElem_toArray, List.getElem_cons_zero, List.getElem_cons_succ]
  go_frame
  refine wpAnyH_take (i := 11) (v := ?_) rfl (by kernel_rfl) (by kernel_rfl) (by kernel_rfl) (fun _ _ _ h => h) (Or.inl ⟨by rfl, ?_⟩) (by assumption) ?_
  rotate_left 1
  · (intro w0 hSw; go_simp; try with_reducible rfl)
  simp only [List.getElem_toArray, List.getElem_cons_zero, List.getElem_cons_succ]
  go_frame
  refine wpAnyH_take (i := 12) (v := ?_) rfl (by kernel_rfl) (by kernel_rfl) (by kernel_rfl) (fun _ _ _ h => h) (Or.inl ⟨by rfl, ?_⟩) (by assumption) ?_
  rotate_left 1
  · (intro w0 hSw; go_simp; try with_reducible rfl)
  simp only [List.getElem_toArray, List.getElem_cons_zero, List.getElem_cons_succ]
  go_frame
  refine wpAnyH_take (i := 13) (v := undef) rfl (by kernel_rfl) (by kernel_rfl) (by kernel_rfl) (fun _ _ _ h => h) (Or.inr ⟨by rfl, rfl⟩) (by assumption) ?_
  simp only [List.getElem_toArray, List.getElem_cons_zero, List.getElem_cons_succ]
  go_frame
  refine wpAnyH_ready (rs := [14]) (by kernel_rfl) (by simp) ?_
  refine AllReadyH.cons rfl (fun K hK => ?_) AllReadyH.nil
  simp only [List.getElem_toArray, List.getElem_cons_zero, List.getElem_cons_succ]
  rw [if_neg (Bool.eq_false_iff.1 (by rfl))]
  refine hK.out _ _ (by assumption) (fun hHeld2 => ?_)
  clear hK K
  (try go_frame)
  refine wpAnyH_take (i := 15) (v := ?_) rfl (by kernel_rfl) (by kernel_rfl) (by kernel_rfl) (fun _ _ _ h => h) (Or.inl ⟨by rfl, ?_⟩) (by assumption) ?_
  rotate_left 1
  · (intro w0 hSw; go_simp; try with_reducible rfl)
  simp only [List.getElem_toArray, List.getElem_cons_zero, List.getElem_cons_succ]
  go_frame
  refine wpAnyH_take (i := 16) (v := ?_) rfl (by kernel_rfl) (by kernel_rfl) (by kernel_rfl) (fun _ _ _ h => h) (Or.inl ⟨by rfl, ?_⟩) (by assumption) ?_
  rotate_left 1
  · (intro w0 hSw; go_simp; try with_reducible rfl)
  simp only [List.getElem_toArray, List.getElem_cons_zero, List.getElem_cons_succ]
  go_frame
  refine wpAnyH_done (by kernel_rfl) ?_ _
  clear HS HB
  go_wp2
  go_ret
  exact HF.out
set_option maxRecDepth 100000 in
set_option maxHeartbeats 4000000 in
theorem mb_tab (b : Nat) (t : Th) (nx : Int) (w : World) (c5 : w.cell? ⟨b, 5, none⟩ = some (.int .i64 nx)) (h1 : ¬ t.card < 1) (h2 : t.owner = 0 ∨ t.owner = 1) (h3 : 1 ≤ t.place ∧ t.place ≤ 5) (h4 : t.place = 4) (h5 : 1 ≤ t.stamp) (h6 : t.stamp < nx) : Calls Try.prog 74 #[.pointer (some ⟨b, 0, none⟩), thv t] w (MbPost w t nx) := by
  unfold thv
  obtain ⟨X, hX⟩ : ∃ X, X = w.heap.size := ⟨_, rfl⟩
  obtain ⟨V, hV⟩ : ∃ V, V = w.alloc (.cells #[.int .i64 t.card, .int .i64 t.owner, .int .u8 t.place, .int .i64 t.stamp, .int .i64 t.hurt, .int .i64 t.m0, .int .i64 t.m1, .int .i64 t.m2, .int .i64 t.m3, .int .i64 t.done, .bool t.fresh] 38) := ⟨_, rfl⟩
  have HXe : Hid (X = w.heap.size) := hX
  have HV : Hid (V = w.alloc (.cells #[.int .i64 t.card, .int .i64 t.owner, .int .u8 t.place, .int .i64 t.stamp, .int .i64 t.hurt, .int .i64 t.m0, .int .i64 t.m1, .int .i64 t.m2, .int .i64 t.m3, .int .i64 t.done, .bool t.fresh] 38)) := hV
  have HGV : Hid (w.grownBy V none) := by show w.grownBy V none; rw [hV]; exact World.grownBy_alloc _ _ _
  have HS : Hid (V.heap[X]? = some (.cells (thc t).toArray 38 (0, 0))) := by show V.heap[X]? = _; rw [hV, hX]; exact alloc_at _ _ _
  have HB : Hid (V.cell? ⟨b, 5, none⟩ = some (.int .i64 nx)) := HGV.out.cell c5 (by simp)
  have O := isOwner_any t.owner V
  have P := isPlace_any t.place V
  have q4 : (t.place != 4) = false := by simp [h4]
  rw [decide_eq_true h2] at O
  rw [decide_eq_true h3] at P
  have d5 : decide (t.stamp ≥ 1) = true := decide_eq_true h5
  have d6 : decide (t.stamp < nx) = true := decide_eq_true h6
  have HA : Hid (t.alone nx ↔ t.lies) := ⟨fun q => ⟨(q.2.2.2.2 h4).2.2.2.2, (q.2.2.2.2 h4).2.2.1, (q.2.2.2.2 h4).2.2.2.1⟩, fun q => ⟨by omega, h2, h3, fun r => absurd h4 r, fun _ => ⟨h5, h6, q.2.1, q.2.2, q.1⟩⟩⟩
  have CL := mayLie_any t V.drew
  unfold thv at CL
  rw [hV] at O P
  clear hX hV c5
  clear h2 h3 h4
  go_enter Try.func74, Try.ntmps74
  go_upto_region 5 with (first | (go_at_call 68; refine O.mono ?_; rintro e w9 ⟨rfl, h9⟩; subst h9) | (go_at_call 63; refine P.mono ?_; rintro e w9 ⟨rfl, h9⟩; subst h9))
  rw [← HXe.out, ← HV.out]
  refine wp_region_held_drew (S := fun w' => w'.heap[X]? = some (.cells (thc t).toArray 38 (0, 0)) ∧ w'.cell? ⟨b, 5, none⟩ = some (.int .i64 nx)) (by kernel_rfl) (⟨grown_keep (grown_drew V) HS.out (by simp), (grown_drew V).cell HB.out (by simp)⟩) (fun hHeld => ?_)
  refine wpAnyH_take (i := 0) (v := ?_) rfl (by kernel_rfl) (by kernel_rfl) (by kernel_rfl) (fun _ _ _ h => h) (Or.inl ⟨by rfl, ?_⟩) (by assumption) ?_
  rotate_left 1
  · (intro w0 hSw; go_simp; try with_reducible rfl)
  simp only [List.getElem_toArray, List.getElem_cons_zero]
  go_frame
  refine wpAnyH_take (i := 1) (v := ?_) rfl (by kernel_rfl) (by kernel_rfl) (by kernel_rfl) (fun _ _ _ h => h) (Or.inl ⟨by rfl, ?_⟩) (by assumption) ?_
  rotate_left 1
  · (intro w0 hSw; obtain ⟨r0, r1, r2, r3, r4, r5, r6, r7, r8, r9, r10⟩ := box_cells hSw.1; go_simp; try with_reducible rfl)
  simp only [List.getElem_toArray, List.getElem_cons_zero, List.getElem_cons_succ]
  go_frame
  refine wpAnyH_take (i := 2) (v := ?_) rfl (by kernel_rfl) (by kernel_rfl) (by kernel_rfl) (fun _ _ _ h => h) (Or.inl ⟨by rfl, ?_⟩) (by assumption) ?_
  rotate_left 1
  · (intro w0 hSw; go_simp; try with_reducible rfl)
  simp only [List.getElem_toArray, List.getElem_cons_zero, List.getElem_cons_succ]
  go_frame
  refine wpAnyH_take (i := 3) (v := ?_) rfl (by kernel_rfl) (by kernel_rfl) (by kernel_rfl) (fun _ _ _ h => h) (Or.inl ⟨by rfl, ?_⟩) (by assumption) ?_
  rotate_left 1
  · (intro w0 hSw; go_simp; try with_reducible rfl)
  simp only [List.getElem_toArray, List.getElem_cons_zero, List.getElem_cons_succ]
  go_frame
  refine wpAnyH_take (i := 4) (v := ?_) rfl (by kernel_rfl) (by kernel_rfl) (by kernel_rfl) (fun _ _ _ h => h) (Or.inl ⟨by rfl, ?_⟩) (by assumption) ?_
  rotate_left 1
  · (intro w0 hSw; go_simp; try with_reducible rfl)
  simp only [List.getElem_toArray, List.getElem_cons_zero, List.getElem_cons_succ]
  go_frame
  refine wpAnyH_take (i := 5) (v := ?_) rfl (by kernel_rfl) (by kernel_rfl) (by kernel_rfl) (fun _ _ _ h => h) (Or.inl ⟨by rfl, ?_⟩) (by assumption) ?_
  rotate_left 1
  · (intro w0 hSw; obtain ⟨r0, r1, r2, r3, r4, r5, r6, r7, r8, r9, r10⟩ := box_cells hSw.1; go_simp; try with_reducible rfl)
  simp only [List.getElem_toArray, List.getElem_cons_zero, List.getElem_cons_succ]
  go_frame
  refine wpAnyH_take (i := 6) (v := ?_) rfl (by kernel_rfl) (by kernel_rfl) (by kernel_rfl) (fun _ _ _ h => h) (Or.inl ⟨by rfl, ?_⟩) (by assumption) ?_
  rotate_left 1
  · (intro w0 hSw; go_simp; try with_reducible rfl)
  simp only [List.getElem_toArray, List.getElem_cons_zero, List.getElem_cons_succ]
  go_frame
  refine wpAnyH_take (i := 7) (v := ?_) rfl (by kernel_rfl) (by kernel_rfl) (by kernel_rfl) (fun _ _ _ h => h) (Or.inl ⟨by rfl, ?_⟩) (by assumption) ?_
  rotate_left 1
  · (intro w0 hSw; go_simp; try with_reducible rfl)
  simp only [List.getElem_toArray, List.getElem_cons_zero, List.getElem_cons_succ]
  go_frame
  refine wpAnyH_take (i := 8) (v := ?_) rfl (by kernel_rfl) (by kernel_rfl) (by kernel_rfl) (fun _ _ _ h => h) (Or.inl ⟨by rfl, ?_⟩) (by assumption) ?_
  rotate_left 1
  · (intro w0 hSw; go_simp; try with_reducible rfl)
  simp only [List.getElem_toArray, List.getElem_cons_zero, List.getElem_cons_succ]
  go_frame
  refine wpAnyH_take (i := 9) (v := ?_) rfl (by kernel_rfl) (by kernel_rfl) (by kernel_rfl) (fun _ _ _ h => h) (Or.inl ⟨by rfl, ?_⟩) (by assumption) ?_
  rotate_left 1
  · (intro w0 hSw; obtain ⟨-, s5⟩ := hSw; go_simp; try with_reducible rfl)
  simp only [List.getElem_toArray, List.getElem_cons_zero, List.getElem_cons_succ]
  go_frame
  refine wpAnyH_take (i := 10) (v := ?_) rfl (by kernel_rfl) (by kernel_rfl) (by kernel_rfl) (fun _ _ _ h => h) (Or.inl ⟨by rfl, ?_⟩) (by assumption) ?_
  rotate_left 1
  · (intro w0 hSw; go_simp; try with_reducible rfl)
  simp only [List.getElem_toArray, List.getElem_cons_zero, List.getElem_cons_succ]
  go_frame
  refine wpAnyH_take (i := 11) (v := ?_) rfl (by kernel_rfl) (by kernel_rfl) (by kernel_rfl) (fun _ _ _ h => h) (Or.inl ⟨by rfl, ?_⟩) (by assumption) ?_
  rotate_left 1
  · (intro w0 hSw; go_simp; try with_reducible rfl)
  simp only [List.getElem_toArray, List.getElem_cons_zero, List.getElem_cons_succ]
  go_frame
  refine wpAnyH_take (i := 12) (v := ?_) rfl (by kernel_rfl) (by kernel_rfl) (by kernel_rfl) (fun _ _ _ h => h) (Or.inl ⟨by rfl, ?_⟩) (by assumption) ?_
  rotate_left 1
  · (intro w0 hSw; go_simp; try with_reducible rfl)
  simp only [List.getElem_toArray, List.getElem_cons_zero, List.getElem_cons_succ]
  go_frame
  refine wpAnyH_take (i := 13) (v := ?_) rfl (by kernel_rfl) (by kernel_rfl) (by kernel_rfl) (fun _ _ _ h => h) (Or.inl ⟨by rfl, ?_⟩) (by assumption) ?_
  rotate_left 1
  · (intro w0 hSw; obtain ⟨r0, r1, r2, r3, r4, r5, r6, r7, r8, r9, r10⟩ := box_cells hSw.1; go_simp; try with_reducible rfl)
  simp only [List.getElem_toArray, List.getElem_cons_zero, List.getElem_cons_succ]
  go_frame
  refine wpAnyH_ready (rs := [14]) (by kernel_rfl) (by simp) ?_
  refine AllReadyH.cons rfl (fun K hK => ?_) AllReadyH.nil
  simp only [List.getElem_toArray, List.getElem_cons_zero, List.getElem_cons_succ]
  rw [if_pos (by rfl)]
  go_simp
  go_at_call 71
  refine (CL).mono ?_
  rintro e w3 ⟨r, rfl, hr, g3⟩
  have HF : Hid (MbPost w t nx (.returned (.bool r)) w3) := ⟨r, rfl, hr.trans HA.out.symm, grown_trans HGV.out (grown_trans (grown_drew V) g3)⟩
  have HG3 : Hid (V.drew.grownBy w3 none) := g3
  clear g3 CL hr
  refine hK.out _ _ (⟨grown_keep HG3.out (grown_keep (grown_drew V) HS.out (by simp)) (by simp), HG3.out.cell ((grown_drew V).cell HB.out (by simp)) (by simp)⟩) (fun hHeld2 => ?_)
  clear hK K
  (try go_frame)
  refine wpAnyH_take (i := 15) (v := ?_) rfl (by kernel_rfl) (by kernel_rfl) (by kernel_rfl) (fun _ _ _ h => h) (Or.inl ⟨by rfl, ?_⟩) (by assumption) ?_
  rotate_left 1
  · (intro w0 hSw; go_simp; try with_reducible rfl)
  simp only [List.getElem_toArray, List.getElem_cons_zero, List.getElem_cons_succ]
  go_frame
  refine wpAnyH_take (i := 16) (v := ?_) rfl (by kernel_rfl) (by kernel_rfl) (by kernel_rfl) (fun _ _ _ h => h) (Or.inl ⟨by rfl, ?_⟩) (by assumption) ?_
  rotate_left 1
  · (intro w0 hSw; go_simp; try with_reducible rfl)
  simp only [List.getElem_toArray, List.getElem_cons_zero, List.getElem_cons_succ]
  go_frame
  refine wpAnyH_done (by kernel_rfl) ?_ _
  clear HS HB
  go_wp2
  go_ret
  exact HF.out
theorem mayBe_any (b : Nat) (t : Th) (nx : Int) (w : World) (c5 : w.cell? ⟨b, 5, none⟩ = some (.int .i64 nx)) : Calls Try.prog 74 #[.pointer (some ⟨b, 0, none⟩), thv t] w (MbPost w t nx) := by
  by_cases h1 : t.card < 1
  · exact mb_card b t nx w c5 h1
  by_cases h2 : t.owner = 0 ∨ t.owner = 1
  case neg => exact mb_owner b t nx w c5 h1 h2
  by_cases h3 : 1 ≤ t.place ∧ t.place ≤ 5
  case neg => exact mb_place b t nx w c5 h1 h2 h3
  by_cases h4 : t.place = 4
  case neg => exact mb_off b t nx w c5 h1 h2 h3 h4
  by_cases h5 : 1 ≤ t.stamp
  case neg => exact mb_low b t nx w c5 h1 h2 h3 h4 h5
  by_cases h6 : t.stamp < nx
  · exact mb_tab b t nx w c5 h1 h2 h3 h4 h5 h6
  · exact mb_high b t nx w c5 h1 h2 h3 h4 h5 h6
end Go.Proofs.Ytogpgldbbegniaa
