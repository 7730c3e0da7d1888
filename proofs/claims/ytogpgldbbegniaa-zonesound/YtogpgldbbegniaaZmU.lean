/-
  Zones: Write.
-/
import Derived.Test.YtogpgldbbegniaaThEq
namespace Go.Proofs.Ytogpgldbbegniaa
open Go.RowKit

def KeepsP (u t : Th) : Prop := u.card = t.card ∧ u.owner = t.owner ∧ u.place = t.place ∧ u.stamp = t.stamp
theorem writeE_yes {z : Zs} {n : Int} {t : Th} (hn : there z.ts n) (h1 : t.place = 4) (h2 : KeepsP (thAt z.ts n) t) (h3 : t.lies) : z.writeE n t = 0 := by
  unfold Zs.writeE
  rw [if_neg (fun q => q hn), if_neg]
  obtain ⟨h2, h3', h4, h5⟩ := h2
  obtain ⟨h6, h7, h8⟩ := h3
  rintro (q | q | q | q | q | q | q | q)
  · omega
  · omega
  · omega
  · omega
  · omega
  · omega
  · omega
  · exact q h6
theorem writeE_no {z : Zs} {n : Int} {t : Th} (hn : there z.ts n) (h : ¬ (t.place = 4 ∧ KeepsP (thAt z.ts n) t ∧ t.lies)) : z.writeE n t = 2 := by
  unfold Zs.writeE
  rw [if_neg (fun q => q hn), if_pos]
  refine Classical.byContradiction fun q => h ?_
  have a1 : (thAt z.ts n).place = 4 := Classical.not_not.1 fun r => q (Or.inl r)
  have a2 : t.card = (thAt z.ts n).card := Classical.not_not.1 fun r => q (Or.inr (Or.inl r))
  have a3 : t.owner = (thAt z.ts n).owner := Classical.not_not.1 fun r => q (Or.inr (Or.inr (Or.inl r)))
  have a4 : t.place = (thAt z.ts n).place := Classical.not_not.1 fun r => q (Or.inr (Or.inr (Or.inr (Or.inl r))))
  have a5 : t.stamp = (thAt z.ts n).stamp := Classical.not_not.1 fun r => q (Or.inr (Or.inr (Or.inr (Or.inr (Or.inl r)))))
  have a6 : ¬ t.hurt < 0 := fun r => q (Or.inr (Or.inr (Or.inr (Or.inr (Or.inr (Or.inl r))))))
  have a7 : ¬ t.done < 0 := fun r => q (Or.inr (Or.inr (Or.inr (Or.inr (Or.inr (Or.inr (Or.inl r)))))))
  have a8 : t.marked := Classical.not_not.1 fun r => q (Or.inr (Or.inr (Or.inr (Or.inr (Or.inr (Or.inr (Or.inr r)))))))
  exact ⟨a4.trans a1, ⟨a2.symm, a3.symm, a4.symm, a5.symm⟩, a8, by omega, by omega⟩
/-- What stands still while Write asks. -/
structure WrS (w' : World) (X b g k : Nat) (len cap : Nat) (t u : Th) : Prop where
  x : w'.heap[X]? = some (.cells (thc t).toArray 38 (0, 0))
  b : w'.cell? ⟨b, 0, none⟩ = some (.slice (some ⟨g, 0, none⟩) len cap)
  g : w'.rangeAt g (k * 11) (thc u)
theorem box_cells {w : World} {X : Nat} {t : Th} (h : w.heap[X]? = some (.cells (thc t).toArray 38 (0, 0))) : w.cell? ⟨X, 0, none⟩ = some (.int .i64 t.card) ∧ w.cell? ⟨X, 1, none⟩ = some (.int .i64 t.owner) ∧ w.cell? ⟨X, 2, none⟩ = some (.int .u8 t.place) ∧ w.cell? ⟨X, 3, none⟩ = some (.int .i64 t.stamp) ∧ w.cell? ⟨X, 4, none⟩ = some (.int .i64 t.hurt) ∧ w.cell? ⟨X, 5, none⟩ = some (.int .i64 t.m0) ∧ w.cell? ⟨X, 6, none⟩ = some (.int .i64 t.m1) ∧ w.cell? ⟨X, 7, none⟩ = some (.int .i64 t.m2) ∧ w.cell? ⟨X, 8, none⟩ = some (.int .i64 t.m3) ∧ w.cell? ⟨X, 9, none⟩ = some (.int .i64 t.done) ∧ w.cell? ⟨X, 10, none⟩ = some (.bool t.fresh) :=
  ⟨(block_cell h 0).trans rfl, (block_cell h 1).trans rfl, (block_cell h 2).trans rfl, (block_cell h 3).trans rfl, (block_cell h 4).trans rfl, (block_cell h 5).trans rfl, (block_cell h 6).trans rfl, (block_cell h 7).trans rfl, (block_cell h 8).trans rfl, (block_cell h 9).trans rfl, (block_cell h 10).trans rfl⟩
theorem WrS.grow {w w' : World} {X b g k len cap : Nat} {t u : Th} (h : WrS w X b g k len cap t u) (q : w.grownBy w' none) : WrS w' X b g k len cap t u := ⟨grown_keep q h.x (by simp), q.cell h.b (by simp), rangeAt_keep h.g q⟩
set_option maxRecDepth 100000 in
set_option maxHeartbeats 4000000 in
theorem write_place (b : Nat) (Sb : List Nat) (z : Zs) (n : Int) (t : Th) (w : World) (Z : ZAt w b Sb z) (S : z.Sound) (hS : Old w Sb) (hn : there z.ts n) (hp : t.place ≠ 4) : Calls Try.prog 33 #[.pointer (some ⟨b, 0, none⟩), .int .i64 n, thv t] w (TnPost w b Sb (z.write n t) (.int .i64 (z.writeE n t))) := by
  have Z0 := Z
  obtain ⟨vt, d0, d1, h0, h1, Z⟩ := Z
  obtain ⟨c0, c1, c2, c3, c4, c5⟩ := Z.cell
  obtain ⟨k, hk⟩ : ∃ k : Nat, n = (k : Int) + 1 := ⟨(n - 1).toNat, by unfold there at hn; omega⟩
  subst hk
  have hlt : k < z.ts.length := by unfold there at hn; omega
  obtain ⟨g, cap, rfl, R⟩ := zg_at Z (k := k) hlt
  obtain ⟨u, hu⟩ : ∃ u, u = thAt z.ts ((k : Int) + 1) := ⟨_, rfl⟩
  have HU : Hid (u = thAt z.ts ((k : Int) + 1)) := hu
  rw [← hu] at R
  have hw1 : IntKind.i64.wrap (k : Int) = (k : Int) := IntWalk.i64_in _ (by have := S.few; omega)
  have hlt' : (k : Int) < z.ts.length := by omega
  obtain ⟨X, hX⟩ : ∃ X, X = w.heap.size := ⟨_, rfl⟩
  obtain ⟨V, hV⟩ : ∃ V, V = w.alloc (.cells #[.int .i64 t.card, .int .i64 t.owner, .int .u8 t.place, .int .i64 t.stamp, .int .i64 t.hurt, .int .i64 t.m0, .int .i64 t.m1, .int .i64 t.m2, .int .i64 t.m3, .int .i64 t.done, .bool t.fresh] 38) := ⟨_, rfl⟩
  have HXe : Hid (X = w.heap.size) := hX
  have HV : Hid (V = w.alloc (.cells #[.int .i64 t.card, .int .i64 t.owner, .int .u8 t.place, .int .i64 t.stamp, .int .i64 t.hurt, .int .i64 t.m0, .int .i64 t.m1, .int .i64 t.m2, .int .i64 t.m3, .int .i64 t.done, .bool t.fresh] 38)) := hV
  have HGV : Hid (w.grownBy V none) := by show w.grownBy V none; rw [hV]; exact World.grownBy_alloc _ _ _
  have HS : Hid (WrS V X b g k z.ts.length cap t u) := ⟨by rw [hV, hX]; exact alloc_at _ _ _, HGV.out.cell c0 (by simp), rangeAt_keep R HGV.out⟩
  have M := made_yes b z.nx V (HGV.out.cell c5 (by simp)) (nx_ne S)
  have HA := has_any b z.ts.length cap (some ⟨g, 0, none⟩) ((k : Int) + 1) V (HGV.out.cell c0 (by simp))
  have hn2 : 1 ≤ (k : Int) + 1 ∧ (k : Int) + 1 ≤ (z.ts.length : Int) := hn
  rw [decide_eq_true hn2] at HA
  clear hn2
  rw [hV] at M HA
  have HSo : Hid (Old w Sb) := hS
  have HZ0 : Hid (ZAt w b Sb z) := Z0
  have HZ : Hid (ZG 93 [] w b Sb z (.slice (some ⟨g, 0, none⟩) z.ts.length cap) d0 d1 h0 h1) := Z
  unfold thv
  have q4 : (t.place != 4) = true := by simpa using hp
  have eE : z.writeE ((k : Int) + 1) t = 2 := writeE_no hn (fun q => hp q.1)
  have em : z.write ((k : Int) + 1) t = z := by unfold Zs.write; rw [eE]; rfl
  rw [eE, em]
  have HF : Hid (∀ w1, w.grownBy w1 none → TnPost w b Sb z (.int .i64 2) (.returned (.int .i64 2)) w1) := fun w1 g1 => ⟨rfl, Sb, HZ0.out.grow g1, Turn.of_grow g1 HSo.out⟩
  clear eE em Z Z0 S hS c0 c1 c2 c3 c4 c5 R hu hX hV hn
  clear hp
  go_enter Try.func33, Try.ntmps33
  go_upto_region 5 with (first | (go_at_call 61; refine M.mono ?_; rintro e w9 ⟨rfl, h9⟩; subst h9) | (go_at_call 62; refine HA.mono ?_; rintro e w9 ⟨rfl, h9⟩; subst h9))
  rw [← HXe.out, ← HV.out]
  refine wp_region_held_drew (S := fun w' => WrS w' X b g k z.ts.length cap t u) (by kernel_rfl) (HS.out.grow (grown_drew V)) (fun hHeld => ?_)
  refine wpAnyH_take (i := 0) (v := ?_) rfl (by kernel_rfl) (by kernel_rfl) (by kernel_rfl) (fun _ _ _ h => h) (Or.inl ⟨by rfl, ?_⟩) (by assumption) ?_
  rotate_left 1
  · (intro w0 hSw; go_simp; try with_reducible rfl)
  simp only [List.getElem_toArray, List.getElem_cons_zero]
  go_frame
  refine wpAnyH_take (i := 1) (v := ?_) rfl (by kernel_rfl) (by kernel_rfl) (by kernel_rfl) (fun _ _ _ h => h) (Or.inl ⟨by rfl, ?_⟩) (by assumption) ?_
  rotate_left 1
  · (intro w0 hSw; obtain ⟨r0, r1, r2, r3, r4, r5, r6, r7, r8, r9, r10⟩ := box_cells hSw.x; go_simp; try with_reducible rfl)
  simp only [List.getElem_toArray, List.getElem_cons_zero, List.getElem_cons_succ]
  go_frame
  refine wpAnyH_take (i := 2) (v := ?_) rfl (by kernel_rfl) (by kernel_rfl) (by kernel_rfl) (fun _ _ _ h => h) (Or.inl ⟨by rfl, ?_⟩) (by assumption) ?_
  rotate_left 1
  · (intro w0 hSw; go_simp; try with_reducible rfl)
  simp only [List.getElem_toArray, List.getElem_cons_zero, List.getElem_cons_succ]
  go_frame
  refine wpAnyH_take (i := 3) (v := ?_) rfl (by kernel_rfl) (by kernel_rfl) (by kernel_rfl) (fun _ _ _ h => h) (Or.inl ⟨by rfl, ?_⟩) (by assumption) ?_
  rotate_left 1
  · (intro w0 hSw; go_simp; try with_reducible rfl)
  simp only [List.getElem_toArray, List.getElem_cons_zero, List.getElem_cons_succ]
  go_frame
  refine wpAnyH_take (i := 4) (v := undef) rfl (by kernel_rfl) (by kernel_rfl) (by kernel_rfl) (fun _ _ _ h => h) (Or.inr ⟨by rfl, rfl⟩) (by assumption) ?_
  simp only [List.getElem_toArray, List.getElem_cons_zero, List.getElem_cons_succ]
  go_frame
  refine wpAnyH_take (i := 5) (v := undef) rfl (by kernel_rfl) (by kernel_rfl) (by kernel_rfl) (fun _ _ _ h => h) (Or.inr ⟨by rfl, rfl⟩) (by assumption) ?_
  simp only [List.getElem_toArray, List.getElem_cons_zero, List.getElem_cons_succ]
  go_frame
  refine wpAnyH_take (i := 6) (v := undef) rfl (by kernel_rfl) (by kernel_rfl) (by kernel_rfl) (fun _ _ _ h => h) (Or.inr ⟨by rfl, rfl⟩) (by assumption) ?_
  simp only [List.getElem_toArray, List.getElem_cons_zero, List.getElem_cons_succ]
  go_frame
  refine wpAnyH_take (i := 7) (v := undef) rfl (by kernel_rfl) (by kernel_rfl) (by kernel_rfl) (fun _ _ _ h => h) (Or.inr ⟨by rfl, rfl⟩) (by assumption) ?_
  simp only [List.getElem_toArray, List.getElem_cons_zero, List.getElem_cons_succ]
  go_frame
  refine wpAnyH_take (i := 8) (v := undef) rfl (by kernel_rfl) (by kernel_rfl) (by kernel_rfl) (fun _ _ _ h => h) (Or.inr ⟨by rfl, rfl⟩) (by assumption) ?_
  simp only [List.getElem_toArray, List.getElem_cons_zero, List.getElem_cons_succ]
  go_frame
  refine wpAnyH_take (i := 9) (v := undef) rfl (by kernel_rfl) (by kernel_rfl) (by kernel_rfl) (fun _ _ _ h => h) (Or.inr ⟨by rfl, rfl⟩) (by assumption) ?_
  simp only [List.getElem_toArray, List.getElem_cons_zero, List.getElem_cons_succ]
  go_frame
  refine wpAnyH_take (i := 10) (v := undef) rfl (by kernel_rfl) (by kernel_rfl) (by kernel_rfl) (fun _ _ _ h => h) (Or.inr ⟨by rfl, rfl⟩) (by assumption) ?_
  simp only [List.getElem_toArray, List.getElem_cons_zero, List.getElem_cons_succ]
  go_frame
  refine wpAnyH_take (i := 11) (v := undef) rfl (by kernel_rfl) (by kernel_rfl) (by kernel_rfl) (fun _ _ _ h => h) (Or.inr ⟨by rfl, rfl⟩) (by assumption) ?_
  simp only [List.getElem_toArray, List.getElem_cons_zero, List.getElem_cons_succ]
  go_frame
  refine wpAnyH_take (i := 12) (v := undef) rfl (by kernel_rfl) (by kernel_rfl) (by kernel_rfl) (fun _ _ _ h => h) (Or.inr ⟨by rfl, rfl⟩) (by assumption) ?_
  simp only [List.getElem_toArray, List.getElem_cons_zero, List.getElem_cons_succ]
  go_frame
  refine wpAnyH_ready (rs := [13]) (by kernel_rfl) (by simp) ?_
  refine AllReadyH.cons rfl (fun K hK => ?_) AllReadyH.nil
  simp only [List.getElem_toArray, List.getElem_cons_zero, List.getElem_cons_succ]
  rw [if_neg (Bool.eq_false_iff.1 (by rfl))]
  refine hK.out _ _ (by assumption) (fun hHeld2 => ?_)
  clear hK K
  (try go_frame)
  refine wpAnyH_take (i := 14) (v := undef) rfl (by kernel_rfl) (by kernel_rfl) (by kernel_rfl) (fun _ _ _ h => h) (Or.inr ⟨by rfl, rfl⟩) (by assumption) ?_
  simp only [List.getElem_toArray, List.getElem_cons_zero, List.getElem_cons_succ]
  go_frame
  refine wpAnyH_take (i := 15) (v := ?_) rfl (by kernel_rfl) (by kernel_rfl) (by kernel_rfl) (fun _ _ _ h => h) (Or.inl ⟨by rfl, ?_⟩) (by assumption) ?_
  rotate_left 1
  · (intro w0 hSw; go_simp; try with_reducible rfl)
  simp only [List.getElem_toArray, List.getElem_cons_zero, List.getElem_cons_succ]
  go_frame
  refine wpAnyH_take (i := 16) (v := ?_) rfl (by kernel_rfl) (by kernel_rfl) (by kernel_rfl) (fun _ _ _ h => h) (Or.inl ⟨by rfl, ?_⟩) (by assumption) ?_
  rotate_left 1
  · (intro w0 hSw; go_simp; try with_reducible rfl)
  simp only [List.getElem_toArray, List.getElem_cons_zero, List.getElem_cons_succ]
  go_frame
  refine wpAnyH_take (i := 17) (v := undef) rfl (by kernel_rfl) (by kernel_rfl) (by kernel_rfl) (fun _ _ _ h => h) (Or.inr ⟨by rfl, rfl⟩) (by assumption) ?_
  simp only [List.getElem_toArray, List.getElem_cons_zero, List.getElem_cons_succ]
  go_frame
  refine wpAnyH_ready (rs := [18]) (by kernel_rfl) (by simp) ?_
  refine AllReadyH.cons rfl (fun K hK => ?_) AllReadyH.nil
  simp only [List.getElem_toArray, List.getElem_cons_zero, List.getElem_cons_succ]
  rw [if_neg (Bool.eq_false_iff.1 (by rfl))]
  refine hK.out _ _ (by assumption) (fun hHeld2 => ?_)
  clear hK K
  (try go_frame)
  refine wpAnyH_take (i := 19) (v := undef) rfl (by kernel_rfl) (by kernel_rfl) (by kernel_rfl) (fun _ _ _ h => h) (Or.inr ⟨by rfl, rfl⟩) (by assumption) ?_
  simp only [List.getElem_toArray, List.getElem_cons_zero, List.getElem_cons_succ]
  go_frame
  refine wpAnyH_take (i := 20) (v := ?_) rfl (by kernel_rfl) (by kernel_rfl) (by kernel_rfl) (fun _ _ _ h => h) (Or.inl ⟨by rfl, ?_⟩) (by assumption) ?_
  rotate_left 1
  · (intro w0 hSw; go_simp; try with_reducible rfl)
  simp only [List.getElem_toArray, List.getElem_cons_zero, List.getElem_cons_succ]
  go_frame
  refine wpAnyH_take (i := 21) (v := ?_) rfl (by kernel_rfl) (by kernel_rfl) (by kernel_rfl) (fun _ _ _ h => h) (Or.inl ⟨by rfl, ?_⟩) (by assumption) ?_
  rotate_left 1
  · (intro w0 hSw; go_simp; try with_reducible rfl)
  simp only [List.getElem_toArray, List.getElem_cons_zero, List.getElem_cons_succ]
  go_frame
  refine wpAnyH_done (by kernel_rfl) ?_ _
  have HF1 : Hid (TnPost w b Sb z (.int .i64 2) (.returned (.int .i64 2)) V.drew) := HF.out _ (grown_trans HGV.out (grown_drew V))
  clear HF HS
  go_wp2
  go_ret
  exact HF1.out
set_option maxRecDepth 100000 in
set_option maxHeartbeats 4000000 in
theorem write_keep (b : Nat) (Sb : List Nat) (z : Zs) (n : Int) (t : Th) (w : World) (Z : ZAt w b Sb z) (S : z.Sound) (hS : Old w Sb) (hn : there z.ts n) (hp : t.place = 4) (hkp : ¬ ((thAt z.ts n).card = t.card ∧ (thAt z.ts n).owner = t.owner ∧ (thAt z.ts n).place = t.place ∧ (thAt z.ts n).stamp = t.stamp)) : Calls Try.prog 33 #[.pointer (some ⟨b, 0, none⟩), .int .i64 n, thv t] w (TnPost w b Sb (z.write n t) (.int .i64 (z.writeE n t))) := by
  have Z0 := Z
  obtain ⟨vt, d0, d1, h0, h1, Z⟩ := Z
  obtain ⟨c0, c1, c2, c3, c4, c5⟩ := Z.cell
  obtain ⟨k, hk⟩ : ∃ k : Nat, n = (k : Int) + 1 := ⟨(n - 1).toNat, by unfold there at hn; omega⟩
  subst hk
  have hlt : k < z.ts.length := by unfold there at hn; omega
  obtain ⟨g, cap, rfl, R⟩ := zg_at Z (k := k) hlt
  obtain ⟨u, hu⟩ : ∃ u, u = thAt z.ts ((k : Int) + 1) := ⟨_, rfl⟩
  have HU : Hid (u = thAt z.ts ((k : Int) + 1)) := hu
  rw [← hu] at R
  have hw1 : IntKind.i64.wrap (k : Int) = (k : Int) := IntWalk.i64_in _ (by have := S.few; omega)
  have hlt' : (k : Int) < z.ts.length := by omega
  obtain ⟨X, hX⟩ : ∃ X, X = w.heap.size := ⟨_, rfl⟩
  obtain ⟨V, hV⟩ : ∃ V, V = w.alloc (.cells #[.int .i64 t.card, .int .i64 t.owner, .int .u8 t.place, .int .i64 t.stamp, .int .i64 t.hurt, .int .i64 t.m0, .int .i64 t.m1, .int .i64 t.m2, .int .i64 t.m3, .int .i64 t.done, .bool t.fresh] 38) := ⟨_, rfl⟩
  have HXe : Hid (X = w.heap.size) := hX
  have HV : Hid (V = w.alloc (.cells #[.int .i64 t.card, .int .i64 t.owner, .int .u8 t.place, .int .i64 t.stamp, .int .i64 t.hurt, .int .i64 t.m0, .int .i64 t.m1, .int .i64 t.m2, .int .i64 t.m3, .int .i64 t.done, .bool t.fresh] 38)) := hV
  have HGV : Hid (w.grownBy V none) := by show w.grownBy V none; rw [hV]; exact World.grownBy_alloc _ _ _
  have HS : Hid (WrS V X b g k z.ts.length cap t u) := ⟨by rw [hV, hX]; exact alloc_at _ _ _, HGV.out.cell c0 (by simp), rangeAt_keep R HGV.out⟩
  have M := made_yes b z.nx V (HGV.out.cell c5 (by simp)) (nx_ne S)
  have HA := has_any b z.ts.length cap (some ⟨g, 0, none⟩) ((k : Int) + 1) V (HGV.out.cell c0 (by simp))
  have hn2 : 1 ≤ (k : Int) + 1 ∧ (k : Int) + 1 ≤ (z.ts.length : Int) := hn
  rw [decide_eq_true hn2] at HA
  clear hn2
  rw [hV] at M HA
  have HSo : Hid (Old w Sb) := hS
  have HZ0 : Hid (ZAt w b Sb z) := Z0
  have HZ : Hid (ZG 93 [] w b Sb z (.slice (some ⟨g, 0, none⟩) z.ts.length cap) d0 d1 h0 h1) := Z
  unfold thv
  have q4 : (t.place != 4) = false := by simp [hp]
  have CK := keeps_any u t V.drew
  rw [decide_eq_false (by rw [hu]; exact hkp)] at CK
  unfold thv at CK
  have eE : z.writeE ((k : Int) + 1) t = 2 := writeE_no hn (fun q => hkp q.2.1)
  have em : z.write ((k : Int) + 1) t = z := by unfold Zs.write; rw [eE]; rfl
  rw [eE, em]
  have HF : Hid (∀ w1, w.grownBy w1 none → TnPost w b Sb z (.int .i64 2) (.returned (.int .i64 2)) w1) := fun w1 g1 => ⟨rfl, Sb, HZ0.out.grow g1, Turn.of_grow g1 HSo.out⟩
  clear eE em Z Z0 S hS c0 c1 c2 c3 c4 c5 R hu hX hV hn
  clear hp hkp
  go_enter Try.func33, Try.ntmps33
  go_upto_region 5 with (first | (go_at_call 61; refine M.mono ?_; rintro e w9 ⟨rfl, h9⟩; subst h9) | (go_at_call 62; refine HA.mono ?_; rintro e w9 ⟨rfl, h9⟩; subst h9))
  rw [← HXe.out, ← HV.out]
  refine wp_region_held_drew (S := fun w' => WrS w' X b g k z.ts.length cap t u) (by kernel_rfl) (HS.out.grow (grown_drew V)) (fun hHeld => ?_)
  refine wpAnyH_take (i := 0) (v := ?_) rfl (by kernel_rfl) (by kernel_rfl) (by kernel_rfl) (fun _ _ _ h => h) (Or.inl ⟨by rfl, ?_⟩) (by assumption) ?_
  rotate_left 1
  · (intro w0 hSw; go_simp; try with_reducible rfl)
  simp only [List.getElem_toArray, List.getElem_cons_zero]
  go_frame
  refine wpAnyH_take (i := 1) (v := ?_) rfl (by kernel_rfl) (by kernel_rfl) (by kernel_rfl) (fun _ _ _ h => h) (Or.inl ⟨by rfl, ?_⟩) (by assumption) ?_
  rotate_left 1
  · (intro w0 hSw; obtain ⟨r0, r1, r2, r3, r4, r5, r6, r7, r8, r9, r10⟩ := box_cells hSw.x; go_simp; try with_reducible rfl)
  simp only [List.getElem_toArray, List.getElem_cons_zero, List.getElem_cons_succ]
  go_frame
  refine wpAnyH_take (i := 2) (v := ?_) rfl (by kernel_rfl) (by kernel_rfl) (by kernel_rfl) (fun _ _ _ h => h) (Or.inl ⟨by rfl, ?_⟩) (by assumption) ?_
  rotate_left 1
  · (intro w0 hSw; go_simp; try with_reducible rfl)
  simp only [List.getElem_toArray, List.getElem_cons_zero, List.getElem_cons_succ]
  go_frame
  refine wpAnyH_take (i := 3) (v := ?_) rfl (by kernel_rfl) (by kernel_rfl) (by kernel_rfl) (fun _ _ _ h => h) (Or.inl ⟨by rfl, ?_⟩) (by assumption) ?_
  rotate_left 1
  · (intro w0 hSw; go_simp; try with_reducible rfl)
  simp only [List.getElem_toArray, List.getElem_cons_zero, List.getElem_cons_succ]
  go_frame
  refine wpAnyH_take (i := 4) (v := ?_) rfl (by kernel_rfl) (by kernel_rfl) (by kernel_rfl) (fun _ _ _ h => h) (Or.inl ⟨by rfl, ?_⟩) (by assumption) ?_
  rotate_left 1
  · (intro w0 hSw; go_simp; try with_reducible rfl)
  simp only [List.getElem_toArray, List.getElem_cons_zero, List.getElem_cons_succ]
  go_frame
  refine wpAnyH_take (i := 5) (v := ?_) rfl (by kernel_rfl) (by kernel_rfl) (by kernel_rfl) (fun _ _ _ h => h) (Or.inl ⟨by rfl, ?_⟩) (by assumption) ?_
  rotate_left 1
  · (intro w0 hSw; go_simp; try with_reducible rfl)
  simp only [List.getElem_toArray, List.getElem_cons_zero, List.getElem_cons_succ]
  go_frame
  refine wpAnyH_take (i := 6) (v := ?_) rfl (by kernel_rfl) (by kernel_rfl) (by kernel_rfl) (fun _ _ _ h => h) (Or.inl ⟨by rfl, ?_⟩) (by assumption) ?_
  rotate_left 1
  · (intro w0 hSw; go_simp; try with_reducible rfl)
  simp only [List.getElem_toArray, List.getElem_cons_zero, List.getElem_cons_succ]
  go_frame
  refine wpAnyH_take (i := 7) (v := ?_) rfl (by kernel_rfl) (by kernel_rfl) (by kernel_rfl) (fun _ _ _ h => h) (Or.inl ⟨by rfl, ?_⟩) (by assumption) ?_
  rotate_left 1
  · (intro w0 hSw; have sb := hSw.b; go_simp; try with_reducible rfl)
  simp only [List.getElem_toArray, List.getElem_cons_zero, List.getElem_cons_succ]
  go_frame
  refine wpAnyH_take (i := 8) (v := ?_) rfl (by kernel_rfl) (by kernel_rfl) (by kernel_rfl) (fun _ _ _ h => h) (Or.inl ⟨by rfl, ?_⟩) (by assumption) ?_
  rotate_left 1
  · (intro w0 hSw; go_simp; try with_reducible rfl)
  simp only [List.getElem_toArray, List.getElem_cons_zero, List.getElem_cons_succ]
  go_frame
  refine wpAnyH_take (i := 9) (v := ?_) rfl (by kernel_rfl) (by kernel_rfl) (by kernel_rfl) (fun _ _ _ h => h) (Or.inl ⟨by rfl, ?_⟩) (by assumption) ?_
  rotate_left 1
  · (intro w0 hSw; go_simp; try with_reducible rfl)
  simp only [List.getElem_toArray, List.getElem_cons_zero, List.getElem_cons_succ]
  go_frame
  refine wpAnyH_take (i := 10) (v := ?_) rfl (by kernel_rfl) (by kernel_rfl) (by kernel_rfl) (fun _ _ _ h => h) (Or.inl ⟨by rfl, ?_⟩) (by assumption) ?_
  rotate_left 1
  · (intro w0 hSw; go_simp; try with_reducible rfl)
  simp only [List.getElem_toArray, List.getElem_cons_zero, List.getElem_cons_succ]
  go_frame
  refine wpAnyH_take (i := 11) (v := ?_) rfl (by kernel_rfl) (by kernel_rfl) (by kernel_rfl) (fun _ _ _ h => h) (Or.inl ⟨by rfl, ?_⟩) (by assumption) ?_
  rotate_left 1
  · (intro w0 hSw; obtain ⟨s0, s1, s2, s3, s4, s5, s6, s7, s8, s9, s10⟩ := range_cells hSw.g; go_simp; try with_reducible rfl)
  simp only [List.getElem_toArray, List.getElem_cons_zero, List.getElem_cons_succ]
  go_frame
  refine wpAnyH_take (i := 12) (v := ?_) rfl (by kernel_rfl) (by kernel_rfl) (by kernel_rfl) (fun _ _ _ h => h) (Or.inl ⟨by rfl, ?_⟩) (by assumption) ?_
  rotate_left 1
  · (intro w0 hSw; obtain ⟨r0, r1, r2, r3, r4, r5, r6, r7, r8, r9, r10⟩ := box_cells hSw.x; go_simp; try with_reducible rfl)
  simp only [List.getElem_toArray, List.getElem_cons_zero, List.getElem_cons_succ]
  go_frame
  refine wpAnyH_ready (rs := [13]) (by kernel_rfl) (by simp) ?_
  refine AllReadyH.cons rfl (fun K hK => ?_) AllReadyH.nil
  simp only [List.getElem_toArray, List.getElem_cons_zero, List.getElem_cons_succ]
  rw [if_pos (by rfl)]
  go_simp
  go_at_call 70
  refine (CK).mono ?_
  rintro e w2 ⟨rfl, g2⟩
  have HG2 : Hid (V.drew.grownBy w2 none) := g2
  have HS2 : Hid (WrS w2 X b g k z.ts.length cap t u) := (HS.out.grow (grown_drew V)).grow g2
  clear g2 CK
  refine hK.out _ _ (HS2.out) (fun hHeld2 => ?_)
  clear hK K
  (try go_frame)
  refine wpAnyH_take (i := 14) (v := ?_) rfl (by kernel_rfl) (by kernel_rfl) (by kernel_rfl) (fun _ _ _ h => h) (Or.inl ⟨by rfl, ?_⟩) (by assumption) ?_
  rotate_left 1
  · (intro w0 hSw; go_simp; try with_reducible rfl)
  simp only [List.getElem_toArray, List.getElem_cons_zero, List.getElem_cons_succ]
  go_frame
  refine wpAnyH_take (i := 15) (v := ?_) rfl (by kernel_rfl) (by kernel_rfl) (by kernel_rfl) (fun _ _ _ h => h) (Or.inl ⟨by rfl, ?_⟩) (by assumption) ?_
  rotate_left 1
  · (intro w0 hSw; go_simp; try with_reducible rfl)
  simp only [List.getElem_toArray, List.getElem_cons_zero, List.getElem_cons_succ]
  go_frame
  refine wpAnyH_take (i := 16) (v := ?_) rfl (by kernel_rfl) (by kernel_rfl) (by kernel_rfl) (fun _ _ _ h => h) (Or.inl ⟨by rfl, ?_⟩) (by assumption) ?_
  rotate_left 1
  · (intro w0 hSw; go_simp; try with_reducible rfl)
  simp only [List.getElem_toArray, List.getElem_cons_zero, List.getElem_cons_succ]
  go_frame
  refine wpAnyH_take (i := 17) (v := undef) rfl (by kernel_rfl) (by kernel_rfl) (by kernel_rfl) (fun _ _ _ h => h) (Or.inr ⟨by rfl, rfl⟩) (by assumption) ?_
  simp only [List.getElem_toArray, List.getElem_cons_zero, List.getElem_cons_succ]
  go_frame
  refine wpAnyH_ready (rs := [18]) (by kernel_rfl) (by simp) ?_
  refine AllReadyH.cons rfl (fun K hK => ?_) AllReadyH.nil
  simp only [List.getElem_toArray, List.getElem_cons_zero, List.getElem_cons_succ]
  rw [if_neg (Bool.eq_false_iff.1 (by rfl))]
  refine hK.out _ _ (by assumption) (fun hHeld2 => ?_)
  clear hK K
  (try go_frame)
  refine wpAnyH_take (i := 19) (v := undef) rfl (by kernel_rfl) (by kernel_rfl) (by kernel_rfl) (fun _ _ _ h => h) (Or.inr ⟨by rfl, rfl⟩) (by assumption) ?_
  simp only [List.getElem_toArray, List.getElem_cons_zero, List.getElem_cons_succ]
  go_frame
  refine wpAnyH_take (i := 20) (v := ?_) rfl (by kernel_rfl) (by kernel_rfl) (by kernel_rfl) (fun _ _ _ h => h) (Or.inl ⟨by rfl, ?_⟩) (by assumption) ?_
  rotate_left 1
  · (intro w0 hSw; go_simp; try with_reducible rfl)
  simp only [List.getElem_toArray, List.getElem_cons_zero, List.getElem_cons_succ]
  go_frame
  refine wpAnyH_take (i := 21) (v := ?_) rfl (by kernel_rfl) (by kernel_rfl) (by kernel_rfl) (fun _ _ _ h => h) (Or.inl ⟨by rfl, ?_⟩) (by assumption) ?_
  rotate_left 1
  · (intro w0 hSw; go_simp; try with_reducible rfl)
  simp only [List.getElem_toArray, List.getElem_cons_zero, List.getElem_cons_succ]
  go_frame
  refine wpAnyH_done (by kernel_rfl) ?_ _
  have HF1 : Hid (TnPost w b Sb z (.int .i64 2) (.returned (.int .i64 2)) w2) := HF.out _ (grown_trans HGV.out (grown_trans (grown_drew V) HG2.out))
  clear HF HS HS2
  go_wp2
  go_ret
  exact HF1.out
set_option maxRecDepth 100000 in
set_option maxHeartbeats 4000000 in
theorem write_lie (b : Nat) (Sb : List Nat) (z : Zs) (n : Int) (t : Th) (w : World) (Z : ZAt w b Sb z) (S : z.Sound) (hS : Old w Sb) (hn : there z.ts n) (hp : t.place = 4) (hkp : (thAt z.ts n).card = t.card ∧ (thAt z.ts n).owner = t.owner ∧ (thAt z.ts n).place = t.place ∧ (thAt z.ts n).stamp = t.stamp) (hl : ¬ t.lies) : Calls Try.prog 33 #[.pointer (some ⟨b, 0, none⟩), .int .i64 n, thv t] w (TnPost w b Sb (z.write n t) (.int .i64 (z.writeE n t))) := by
  have Z0 := Z
  obtain ⟨vt, d0, d1, h0, h1, Z⟩ := Z
  obtain ⟨c0, c1, c2, c3, c4, c5⟩ := Z.cell
  obtain ⟨k, hk⟩ : ∃ k : Nat, n = (k : Int) + 1 := ⟨(n - 1).toNat, by unfold there at hn; omega⟩
  subst hk
  have hlt : k < z.ts.length := by unfold there at hn; omega
  obtain ⟨g, cap, rfl, R⟩ := zg_at Z (k := k) hlt
  obtain ⟨u, hu⟩ : ∃ u, u = thAt z.ts ((k : Int) + 1) := ⟨_, rfl⟩
  have HU : Hid (u = thAt z.ts ((k : Int) + 1)) := hu
  rw [← hu] at R
  have hw1 : IntKind.i64.wrap (k : Int) = (k : Int) := IntWalk.i64_in _ (by have := S.few; omega)
  have hlt' : (k : Int) < z.ts.length := by omega
  obtain ⟨X, hX⟩ : ∃ X, X = w.heap.size := ⟨_, rfl⟩
  obtain ⟨V, hV⟩ : ∃ V, V = w.alloc (.cells #[.int .i64 t.card, .int .i64 t.owner, .int .u8 t.place, .int .i64 t.stamp, .int .i64 t.hurt, .int .i64 t.m0, .int .i64 t.m1, .int .i64 t.m2, .int .i64 t.m3, .int .i64 t.done, .bool t.fresh] 38) := ⟨_, rfl⟩
  have HXe : Hid (X = w.heap.size) := hX
  have HV : Hid (V = w.alloc (.cells #[.int .i64 t.card, .int .i64 t.owner, .int .u8 t.place, .int .i64 t.stamp, .int .i64 t.hurt, .int .i64 t.m0, .int .i64 t.m1, .int .i64 t.m2, .int .i64 t.m3, .int .i64 t.done, .bool t.fresh] 38)) := hV
  have HGV : Hid (w.grownBy V none) := by show w.grownBy V none; rw [hV]; exact World.grownBy_alloc _ _ _
  have HS : Hid (WrS V X b g k z.ts.length cap t u) := ⟨by rw [hV, hX]; exact alloc_at _ _ _, HGV.out.cell c0 (by simp), rangeAt_keep R HGV.out⟩
  have M := made_yes b z.nx V (HGV.out.cell c5 (by simp)) (nx_ne S)
  have HA := has_any b z.ts.length cap (some ⟨g, 0, none⟩) ((k : Int) + 1) V (HGV.out.cell c0 (by simp))
  have hn2 : 1 ≤ (k : Int) + 1 ∧ (k : Int) + 1 ≤ (z.ts.length : Int) := hn
  rw [decide_eq_true hn2] at HA
  clear hn2
  rw [hV] at M HA
  have HSo : Hid (Old w Sb) := hS
  have HZ0 : Hid (ZAt w b Sb z) := Z0
  have HZ : Hid (ZG 93 [] w b Sb z (.slice (some ⟨g, 0, none⟩) z.ts.length cap) d0 d1 h0 h1) := Z
  unfold thv
  have q4 : (t.place != 4) = false := by simp [hp]
  have CK := keeps_any u t V.drew
  rw [decide_eq_true (by rw [hu]; exact hkp)] at CK
  unfold thv at CK
  have HLie : Hid (¬ t.lies) := hl
  have eE : z.writeE ((k : Int) + 1) t = 2 := writeE_no hn (fun q => hl q.2.2)
  have em : z.write ((k : Int) + 1) t = z := by unfold Zs.write; rw [eE]; rfl
  rw [eE, em]
  have HF : Hid (∀ w1, w.grownBy w1 none → TnPost w b Sb z (.int .i64 2) (.returned (.int .i64 2)) w1) := fun w1 g1 => ⟨rfl, Sb, HZ0.out.grow g1, Turn.of_grow g1 HSo.out⟩
  clear eE em Z Z0 S hS c0 c1 c2 c3 c4 c5 R hu hX hV hn
  clear hp hkp hl
  go_enter Try.func33, Try.ntmps33
  go_upto_region 5 with (first | (go_at_call 61; refine M.mono ?_; rintro e w9 ⟨rfl, h9⟩; subst h9) | (go_at_call 62; refine HA.mono ?_; rintro e w9 ⟨rfl, h9⟩; subst h9))
  rw [← HXe.out, ← HV.out]
  refine wp_region_held_drew (S := fun w' => WrS w' X b g k z.ts.length cap t u) (by kernel_rfl) (HS.out.grow (grown_drew V)) (fun hHeld => ?_)
  refine wpAnyH_take (i := 0) (v := ?_) rfl (by kernel_rfl) (by kernel_rfl) (by kernel_rfl) (fun _ _ _ h => h) (Or.inl ⟨by rfl, ?_⟩) (by assumption) ?_
  rotate_left 1
  · (intro w0 hSw; go_simp; try with_reducible rfl)
  simp only [List.getElem_toArray, List.getElem_cons_zero]
  go_frame
  refine wpAnyH_take (i := 1) (v := ?_) rfl (by kernel_rfl) (by kernel_rfl) (by kernel_rfl) (fun _ _ _ h => h) (Or.inl ⟨by rfl, ?_⟩) (by assumption) ?_
  rotate_left 1
  · (intro w0 hSw; obtain ⟨r0, r1, r2, r3, r4, r5, r6, r7, r8, r9, r10⟩ := box_cells hSw.x; go_simp; try with_reducible rfl)
  simp only [List.getElem_toArray, List.getElem_cons_zero, List.getElem_cons_succ]
  go_frame
  refine wpAnyH_take (i := 2) (v := ?_) rfl (by kernel_rfl) (by kernel_rfl) (by kernel_rfl) (fun _ _ _ h => h) (Or.inl ⟨by rfl, ?_⟩) (by assumption) ?_
  rotate_left 1
  · (intro w0 hSw; go_simp; try with_reducible rfl)
  simp only [List.getElem_toArray, List.getElem_cons_zero, List.getElem_cons_succ]
  go_frame
  refine wpAnyH_take (i := 3) (v := ?_) rfl (by kernel_rfl) (by kernel_rfl) (by kernel_rfl) (fun _ _ _ h => h) (Or.inl ⟨by rfl, ?_⟩) (by assumption) ?_
  rotate_left 1
  · (intro w0 hSw; go_simp; try with_reducible rfl)
  simp only [List.getElem_toArray, List.getElem_cons_zero, List.getElem_cons_succ]
  go_frame
  refine wpAnyH_take (i := 4) (v := ?_) rfl (by kernel_rfl) (by kernel_rfl) (by kernel_rfl) (fun _ _ _ h => h) (Or.inl ⟨by rfl, ?_⟩) (by assumption) ?_
  rotate_left 1
  · (intro w0 hSw; go_simp; try with_reducible rfl)
  simp only [List.getElem_toArray, List.getElem_cons_zero, List.getElem_cons_succ]
  go_frame
  refine wpAnyH_take (i := 5) (v := ?_) rfl (by kernel_rfl) (by kernel_rfl) (by kernel_rfl) (fun _ _ _ h => h) (Or.inl ⟨by rfl, ?_⟩) (by assumption) ?_
  rotate_left 1
  · (intro w0 hSw; go_simp; try with_reducible rfl)
  simp only [List.getElem_toArray, List.getElem_cons_zero, List.getElem_cons_succ]
  go_frame
  refine wpAnyH_take (i := 6) (v := ?_) rfl (by kernel_rfl) (by kernel_rfl) (by kernel_rfl) (fun _ _ _ h => h) (Or.inl ⟨by rfl, ?_⟩) (by assumption) ?_
  rotate_left 1
  · (intro w0 hSw; go_simp; try with_reducible rfl)
  simp only [List.getElem_toArray, List.getElem_cons_zero, List.getElem_cons_succ]
  go_frame
  refine wpAnyH_take (i := 7) (v := ?_) rfl (by kernel_rfl) (by kernel_rfl) (by kernel_rfl) (fun _ _ _ h => h) (Or.inl ⟨by rfl, ?_⟩) (by assumption) ?_
  rotate_left 1
  · (intro w0 hSw; have sb := hSw.b; go_simp; try with_reducible rfl)
  simp only [List.getElem_toArray, List.getElem_cons_zero, List.getElem_cons_succ]
  go_frame
  refine wpAnyH_take (i := 8) (v := ?_) rfl (by kernel_rfl) (by kernel_rfl) (by kernel_rfl) (fun _ _ _ h => h) (Or.inl ⟨by rfl, ?_⟩) (by assumption) ?_
  rotate_left 1
  · (intro w0 hSw; go_simp; try with_reducible rfl)
  simp only [List.getElem_toArray, List.getElem_cons_zero, List.getElem_cons_succ]
  go_frame
  refine wpAnyH_take (i := 9) (v := ?_) rfl (by kernel_rfl) (by kernel_rfl) (by kernel_rfl) (fun _ _ _ h => h) (Or.inl ⟨by rfl, ?_⟩) (by assumption) ?_
  rotate_left 1
  · (intro w0 hSw; go_simp; try with_reducible rfl)
  simp only [List.getElem_toArray, List.getElem_cons_zero, List.getElem_cons_succ]
  go_frame
  refine wpAnyH_take (i := 10) (v := ?_) rfl (by kernel_rfl) (by kernel_rfl) (by kernel_rfl) (fun _ _ _ h => h) (Or.inl ⟨by rfl, ?_⟩) (by assumption) ?_
  rotate_left 1
  · (intro w0 hSw; go_simp; try with_reducible rfl)
  simp only [List.getElem_toArray, List.getElem_cons_zero, List.getElem_cons_succ]
  go_frame
  refine wpAnyH_take (i := 11) (v := ?_) rfl (by kernel_rfl) (by kernel_rfl) (by kernel_rfl) (fun _ _ _ h => h) (Or.inl ⟨by rfl, ?_⟩) (by assumption) ?_
  rotate_left 1
  · (intro w0 hSw; obtain ⟨s0, s1, s2, s3, s4, s5, s6, s7, s8, s9, s10⟩ := range_cells hSw.g; go_simp; try with_reducible rfl)
  simp only [List.getElem_toArray, List.getElem_cons_zero, List.getElem_cons_succ]
  go_frame
  refine wpAnyH_take (i := 12) (v := ?_) rfl (by kernel_rfl) (by kernel_rfl) (by kernel_rfl) (fun _ _ _ h => h) (Or.inl ⟨by rfl, ?_⟩) (by assumption) ?_
  rotate_left 1
  · (intro w0 hSw; obtain ⟨r0, r1, r2, r3, r4, r5, r6, r7, r8, r9, r10⟩ := box_cells hSw.x; go_simp; try with_reducible rfl)
  simp only [List.getElem_toArray, List.getElem_cons_zero, List.getElem_cons_succ]
  go_frame
  refine wpAnyH_ready (rs := [13]) (by kernel_rfl) (by simp) ?_
  refine AllReadyH.cons rfl (fun K hK => ?_) AllReadyH.nil
  simp only [List.getElem_toArray, List.getElem_cons_zero, List.getElem_cons_succ]
  rw [if_pos (by rfl)]
  go_simp
  go_at_call 70
  refine (CK).mono ?_
  rintro e w2 ⟨rfl, g2⟩
  have HG2 : Hid (V.drew.grownBy w2 none) := g2
  have HS2 : Hid (WrS w2 X b g k z.ts.length cap t u) := (HS.out.grow (grown_drew V)).grow g2
  clear g2 CK
  refine hK.out _ _ (HS2.out) (fun hHeld2 => ?_)
  clear hK K
  (try go_frame)
  refine wpAnyH_take (i := 14) (v := ?_) rfl (by kernel_rfl) (by kernel_rfl) (by kernel_rfl) (fun _ _ _ h => h) (Or.inl ⟨by rfl, ?_⟩) (by assumption) ?_
  rotate_left 1
  · (intro w0 hSw; go_simp; try with_reducible rfl)
  simp only [List.getElem_toArray, List.getElem_cons_zero, List.getElem_cons_succ]
  go_frame
  refine wpAnyH_take (i := 15) (v := ?_) rfl (by kernel_rfl) (by kernel_rfl) (by kernel_rfl) (fun _ _ _ h => h) (Or.inl ⟨by rfl, ?_⟩) (by assumption) ?_
  rotate_left 1
  · (intro w0 hSw; go_simp; try with_reducible rfl)
  simp only [List.getElem_toArray, List.getElem_cons_zero, List.getElem_cons_succ]
  go_frame
  refine wpAnyH_take (i := 16) (v := ?_) rfl (by kernel_rfl) (by kernel_rfl) (by kernel_rfl) (fun _ _ _ h => h) (Or.inl ⟨by rfl, ?_⟩) (by assumption) ?_
  rotate_left 1
  · (intro w0 hSw; go_simp; try with_reducible rfl)
  simp only [List.getElem_toArray, List.getElem_cons_zero, List.getElem_cons_succ]
  go_frame
  refine wpAnyH_take (i := 17) (v := ?_) rfl (by kernel_rfl) (by kernel_rfl) (by kernel_rfl) (fun _ _ _ h => h) (Or.inl ⟨by rfl, ?_⟩) (by assumption) ?_
  rotate_left 1
  · (intro w0 hSw; obtain ⟨r0, r1, r2, r3, r4, r5, r6, r7, r8, r9, r10⟩ := box_cells hSw.x; go_simp; try with_reducible rfl)
  simp only [List.getElem_toArray, List.getElem_cons_zero, List.getElem_cons_succ]
  go_frame
  have CL := mayLie_any t w2
  unfold thv at CL
  refine wpAnyH_ready (rs := [18]) (by kernel_rfl) (by simp) ?_
  refine AllReadyH.cons rfl (fun K hK => ?_) AllReadyH.nil
  simp only [List.getElem_toArray, List.getElem_cons_zero, List.getElem_cons_succ]
  rw [if_pos (by rfl)]
  go_simp
  go_at_call 71
  refine (CL).mono ?_
  rintro e w3 ⟨r, rfl, hr, g3⟩
  have HR : Hid (r = false) := Bool.eq_false_iff.2 fun q => HLie.out (hr.1 q)
  obtain rfl := HR.out
  have HG3 : Hid (V.drew.grownBy w3 none) := grown_trans HG2.out g3
  have HS3 : Hid (WrS w3 X b g k z.ts.length cap t u) := HS2.out.grow g3
  clear g3 CL hr HR
  refine hK.out _ _ (HS3.out) (fun hHeld2 => ?_)
  clear hK K
  (try go_frame)
  refine wpAnyH_take (i := 19) (v := ?_) rfl (by kernel_rfl) (by kernel_rfl) (by kernel_rfl) (fun _ _ _ h => h) (Or.inl ⟨by rfl, ?_⟩) (by assumption) ?_
  rotate_left 1
  · (intro w0 hSw; go_simp; try with_reducible rfl)
  simp only [List.getElem_toArray, List.getElem_cons_zero, List.getElem_cons_succ]
  go_frame
  refine wpAnyH_take (i := 20) (v := ?_) rfl (by kernel_rfl) (by kernel_rfl) (by kernel_rfl) (fun _ _ _ h => h) (Or.inl ⟨by rfl, ?_⟩) (by assumption) ?_
  rotate_left 1
  · (intro w0 hSw; go_simp; try with_reducible rfl)
  simp only [List.getElem_toArray, List.getElem_cons_zero, List.getElem_cons_succ]
  go_frame
  refine wpAnyH_take (i := 21) (v := ?_) rfl (by kernel_rfl) (by kernel_rfl) (by kernel_rfl) (fun _ _ _ h => h) (Or.inl ⟨by rfl, ?_⟩) (by assumption) ?_
  rotate_left 1
  · (intro w0 hSw; go_simp; try with_reducible rfl)
  simp only [List.getElem_toArray, List.getElem_cons_zero, List.getElem_cons_succ]
  go_frame
  refine wpAnyH_done (by kernel_rfl) ?_ _
  have HF1 : Hid (TnPost w b Sb z (.int .i64 2) (.returned (.int .i64 2)) w3) := HF.out _ (grown_trans HGV.out (grown_trans (grown_drew V) HG3.out))
  clear HF HS HS2 HS3
  go_wp2
  go_ret
  exact HF1.out
set_option maxRecDepth 100000 in
set_option maxHeartbeats 4000000 in
theorem write_ok (b : Nat) (Sb : List Nat) (z : Zs) (n : Int) (t : Th) (w : World) (Z : ZAt w b Sb z) (S : z.Sound) (hS : Old w Sb) (hn : there z.ts n) (hp : t.place = 4) (hkp : (thAt z.ts n).card = t.card ∧ (thAt z.ts n).owner = t.owner ∧ (thAt z.ts n).place = t.place ∧ (thAt z.ts n).stamp = t.stamp) (hl : t.lies) : Calls Try.prog 33 #[.pointer (some ⟨b, 0, none⟩), .int .i64 n, thv t] w (TnPost w b Sb (z.write n t) (.int .i64 (z.writeE n t))) := by
  have Z0 := Z
  obtain ⟨vt, d0, d1, h0, h1, Z⟩ := Z
  obtain ⟨c0, c1, c2, c3, c4, c5⟩ := Z.cell
  obtain ⟨k, hk⟩ : ∃ k : Nat, n = (k : Int) + 1 := ⟨(n - 1).toNat, by unfold there at hn; omega⟩
  subst hk
  have hlt : k < z.ts.length := by unfold there at hn; omega
  obtain ⟨g, cap, rfl, R⟩ := zg_at Z (k := k) hlt
  obtain ⟨u, hu⟩ : ∃ u, u = thAt z.ts ((k : Int) + 1) := ⟨_, rfl⟩
  have HU : Hid (u = thAt z.ts ((k : Int) + 1)) := hu
  rw [← hu] at R
  have hw1 : IntKind.i64.wrap (k : Int) = (k : Int) := IntWalk.i64_in _ (by have := S.few; omega)
  have hlt' : (k : Int) < z.ts.length := by omega
  obtain ⟨X, hX⟩ : ∃ X, X = w.heap.size := ⟨_, rfl⟩
  obtain ⟨V, hV⟩ : ∃ V, V = w.alloc (.cells #[.int .i64 t.card, .int .i64 t.owner, .int .u8 t.place, .int .i64 t.stamp, .int .i64 t.hurt, .int .i64 t.m0, .int .i64 t.m1, .int .i64 t.m2, .int .i64 t.m3, .int .i64 t.done, .bool t.fresh] 38) := ⟨_, rfl⟩
  have HXe : Hid (X = w.heap.size) := hX
  have HV : Hid (V = w.alloc (.cells #[.int .i64 t.card, .int .i64 t.owner, .int .u8 t.place, .int .i64 t.stamp, .int .i64 t.hurt, .int .i64 t.m0, .int .i64 t.m1, .int .i64 t.m2, .int .i64 t.m3, .int .i64 t.done, .bool t.fresh] 38)) := hV
  have HGV : Hid (w.grownBy V none) := by show w.grownBy V none; rw [hV]; exact World.grownBy_alloc _ _ _
  have HS : Hid (WrS V X b g k z.ts.length cap t u) := ⟨by rw [hV, hX]; exact alloc_at _ _ _, HGV.out.cell c0 (by simp), rangeAt_keep R HGV.out⟩
  have M := made_yes b z.nx V (HGV.out.cell c5 (by simp)) (nx_ne S)
  have HA := has_any b z.ts.length cap (some ⟨g, 0, none⟩) ((k : Int) + 1) V (HGV.out.cell c0 (by simp))
  have hn2 : 1 ≤ (k : Int) + 1 ∧ (k : Int) + 1 ≤ (z.ts.length : Int) := hn
  rw [decide_eq_true hn2] at HA
  clear hn2
  rw [hV] at M HA
  have HSo : Hid (Old w Sb) := hS
  have HZ0 : Hid (ZAt w b Sb z) := Z0
  have HZ : Hid (ZG 93 [] w b Sb z (.slice (some ⟨g, 0, none⟩) z.ts.length cap) d0 d1 h0 h1) := Z
  unfold thv
  have q4 : (t.place != 4) = false := by simp [hp]
  have CK := keeps_any u t V.drew
  rw [decide_eq_true (by rw [hu]; exact hkp)] at CK
  unfold thv at CK
  have HLie : Hid t.lies := hl
  have eE : z.writeE ((k : Int) + 1) t = 0 := writeE_yes hn hp hkp hl
  have em : z.write ((k : Int) + 1) t = { z with ts := z.ts.set k t } := by unfold Zs.write; rw [if_pos eE, show ((k : Int) + 1 - 1).toNat = k from by omega]
  rw [eE, em]
  have HbX : Hid (b < X ∧ g < X) := by
    show b < X ∧ g < X
    rw [hX]
    exact ⟨block_lt Z.blk, own_lt Z.ts g rfl⟩
  clear eE em Z Z0 S hS c0 c1 c2 c3 c4 c5 R hu hX hV hn hp hkp hl
  go_enter Try.func33, Try.ntmps33
  go_upto_region 5 with (first | (go_at_call 61; refine M.mono ?_; rintro e w9 ⟨rfl, h9⟩; subst h9) | (go_at_call 62; refine HA.mono ?_; rintro e w9 ⟨rfl, h9⟩; subst h9))
  rw [← HXe.out, ← HV.out]
  refine wp_region_held_drew (S := fun w' => WrS w' X b g k z.ts.length cap t u) (by kernel_rfl) (HS.out.grow (grown_drew V)) (fun hHeld => ?_)
  refine wpAnyH_take (i := 0) (v := ?_) rfl (by kernel_rfl) (by kernel_rfl) (by kernel_rfl) (fun _ _ _ h => h) (Or.inl ⟨by rfl, ?_⟩) (by assumption) ?_
  rotate_left 1
  · (intro w0 hSw; go_simp; try with_reducible rfl)
  simp only [List.getElem_toArray, List.getElem_cons_zero]
  go_frame
  refine wpAnyH_take (i := 1) (v := ?_) rfl (by kernel_rfl) (by kernel_rfl) (by kernel_rfl) (fun _ _ _ h => h) (Or.inl ⟨by rfl, ?_⟩) (by assumption) ?_
  rotate_left 1
  · (intro w0 hSw; obtain ⟨r0, r1, r2, r3, r4, r5, r6, r7, r8, r9, r10⟩ := box_cells hSw.x; go_simp; try with_reducible rfl)
  simp only [List.getElem_toArray, List.getElem_cons_zero, List.getElem_cons_succ]
  go_frame
  refine wpAnyH_take (i := 2) (v := ?_) rfl (by kernel_rfl) (by kernel_rfl) (by kernel_rfl) (fun _ _ _ h => h) (Or.inl ⟨by rfl, ?_⟩) (by assumption) ?_
  rotate_left 1
  · (intro w0 hSw; go_simp; try with_reducible rfl)
  simp only [List.getElem_toArray, List.getElem_cons_zero, List.getElem_cons_succ]
  go_frame
  refine wpAnyH_take (i := 3) (v := ?_) rfl (by kernel_rfl) (by kernel_rfl) (by kernel_rfl) (fun _ _ _ h => h) (Or.inl ⟨by rfl, ?_⟩) (by assumption) ?_
  rotate_left 1
  · (intro w0 hSw; go_simp; try with_reducible rfl)
  simp only [List.getElem_toArray, List.getElem_cons_zero, List.getElem_cons_succ]
  go_frame
  refine wpAnyH_take (i := 4) (v := ?_) rfl (by kernel_rfl) (by kernel_rfl) (by kernel_rfl) (fun _ _ _ h => h) (Or.inl ⟨by rfl, ?_⟩) (by assumption) ?_
  rotate_left 1
  · (intro w0 hSw; go_simp; try with_reducible rfl)
  simp only [List.getElem_toArray, List.getElem_cons_zero, List.getElem_cons_succ]
  go_frame
  refine wpAnyH_take (i := 5) (v := ?_) rfl (by kernel_rfl) (by kernel_rfl) (by kernel_rfl) (fun _ _ _ h => h) (Or.inl ⟨by rfl, ?_⟩) (by assumption) ?_
  rotate_left 1
  · (intro w0 hSw; go_simp; try with_reducible rfl)
  simp only [List.getElem_toArray, List.getElem_cons_zero, List.getElem_cons_succ]
  go_frame
  refine wpAnyH_take (i := 6) (v := ?_) rfl (by kernel_rfl) (by kernel_rfl) (by kernel_rfl) (fun _ _ _ h => h) (Or.inl ⟨by rfl, ?_⟩) (by assumption) ?_
  rotate_left 1
  · (intro w0 hSw; go_simp; try with_reducible rfl)
  simp only [List.getElem_toArray, List.getElem_cons_zero, List.getElem_cons_succ]
  go_frame
  refine wpAnyH_take (i := 7) (v := ?_) rfl (by kernel_rfl) (by kernel_rfl) (by kernel_rfl) (fun _ _ _ h => h) (Or.inl ⟨by rfl, ?_⟩) (by assumption) ?_
  rotate_left 1
  · (intro w0 hSw; have sb := hSw.b; go_simp; try with_reducible rfl)
  simp only [List.getElem_toArray, List.getElem_cons_zero, List.getElem_cons_succ]
  go_frame
  refine wpAnyH_take (i := 8) (v := ?_) rfl (by kernel_rfl) (by kernel_rfl) (by kernel_rfl) (fun _ _ _ h => h) (Or.inl ⟨by rfl, ?_⟩) (by assumption) ?_
  rotate_left 1
  · (intro w0 hSw; go_simp; try with_reducible rfl)
  simp only [List.getElem_toArray, List.getElem_cons_zero, List.getElem_cons_succ]
  go_frame
  refine wpAnyH_take (i := 9) (v := ?_) rfl (by kernel_rfl) (by kernel_rfl) (by kernel_rfl) (fun _ _ _ h => h) (Or.inl ⟨by rfl, ?_⟩) (by assumption) ?_
  rotate_left 1
  · (intro w0 hSw; go_simp; try with_reducible rfl)
  simp only [List.getElem_toArray, List.getElem_cons_zero, List.getElem_cons_succ]
  go_frame
  refine wpAnyH_take (i := 10) (v := ?_) rfl (by kernel_rfl) (by kernel_rfl) (by kernel_rfl) (fun _ _ _ h => h) (Or.inl ⟨by rfl, ?_⟩) (by assumption) ?_
  rotate_left 1
  · (intro w0 hSw; go_simp; try with_reducible rfl)
  simp only [List.getElem_toArray, List.getElem_cons_zero, List.getElem_cons_succ]
  go_frame
  refine wpAnyH_take (i := 11) (v := ?_) rfl (by kernel_rfl) (by kernel_rfl) (by kernel_rfl) (fun _ _ _ h => h) (Or.inl ⟨by rfl, ?_⟩) (by assumption) ?_
  rotate_left 1
  · (intro w0 hSw; obtain ⟨s0, s1, s2, s3, s4, s5, s6, s7, s8, s9, s10⟩ := range_cells hSw.g; go_simp; try with_reducible rfl)
  simp only [List.getElem_toArray, List.getElem_cons_zero, List.getElem_cons_succ]
  go_frame
  refine wpAnyH_take (i := 12) (v := ?_) rfl (by kernel_rfl) (by kernel_rfl) (by kernel_rfl) (fun _ _ _ h => h) (Or.inl ⟨by rfl, ?_⟩) (by assumption) ?_
  rotate_left 1
  · (intro w0 hSw; obtain ⟨r0, r1, r2, r3, r4, r5, r6, r7, r8, r9, r10⟩ := box_cells hSw.x; go_simp; try with_reducible rfl)
  simp only [List.getElem_toArray, List.getElem_cons_zero, List.getElem_cons_succ]
  go_frame
  refine wpAnyH_ready (rs := [13]) (by kernel_rfl) (by simp) ?_
  refine AllReadyH.cons rfl (fun K hK => ?_) AllReadyH.nil
  simp only [List.getElem_toArray, List.getElem_cons_zero, List.getElem_cons_succ]
  rw [if_pos (by rfl)]
  go_simp
  go_at_call 70
  refine (CK).mono ?_
  rintro e w2 ⟨rfl, g2⟩
  have HG2 : Hid (V.drew.grownBy w2 none) := g2
  have HS2 : Hid (WrS w2 X b g k z.ts.length cap t u) := (HS.out.grow (grown_drew V)).grow g2
  clear g2 CK
  refine hK.out _ _ (HS2.out) (fun hHeld2 => ?_)
  clear hK K
  (try go_frame)
  refine wpAnyH_take (i := 14) (v := ?_) rfl (by kernel_rfl) (by kernel_rfl) (by kernel_rfl) (fun _ _ _ h => h) (Or.inl ⟨by rfl, ?_⟩) (by assumption) ?_
  rotate_left 1
  · (intro w0 hSw; go_simp; try with_reducible rfl)
  simp only [List.getElem_toArray, List.getElem_cons_zero, List.getElem_cons_succ]
  go_frame
  refine wpAnyH_take (i := 15) (v := ?_) rfl (by kernel_rfl) (by kernel_rfl) (by kernel_rfl) (fun _ _ _ h => h) (Or.inl ⟨by rfl, ?_⟩) (by assumption) ?_
  rotate_left 1
  · (intro w0 hSw; go_simp; try with_reducible rfl)
  simp only [List.getElem_toArray, List.getElem_cons_zero, List.getElem_cons_succ]
  go_frame
  refine wpAnyH_take (i := 16) (v := ?_) rfl (by kernel_rfl) (by kernel_rfl) (by kernel_rfl) (fun _ _ _ h => h) (Or.inl ⟨by rfl, ?_⟩) (by assumption) ?_
  rotate_left 1
  · (intro w0 hSw; go_simp; try with_reducible rfl)
  simp only [List.getElem_toArray, List.getElem_cons_zero, List.getElem_cons_succ]
  go_frame
  refine wpAnyH_take (i := 17) (v := ?_) rfl (by kernel_rfl) (by kernel_rfl) (by kernel_rfl) (fun _ _ _ h => h) (Or.inl ⟨by rfl, ?_⟩) (by assumption) ?_
  rotate_left 1
  · (intro w0 hSw; obtain ⟨r0, r1, r2, r3, r4, r5, r6, r7, r8, r9, r10⟩ := box_cells hSw.x; go_simp; try with_reducible rfl)
  simp only [List.getElem_toArray, List.getElem_cons_zero, List.getElem_cons_succ]
  go_frame
  have CL := mayLie_any t w2
  unfold thv at CL
  refine wpAnyH_ready (rs := [18]) (by kernel_rfl) (by simp) ?_
  refine AllReadyH.cons rfl (fun K hK => ?_) AllReadyH.nil
  simp only [List.getElem_toArray, List.getElem_cons_zero, List.getElem_cons_succ]
  rw [if_pos (by rfl)]
  go_simp
  go_at_call 71
  refine (CL).mono ?_
  rintro e w3 ⟨r, rfl, hr, g3⟩
  have HR : Hid (r = true) := hr.2 HLie.out
  obtain rfl := HR.out
  have HG3 : Hid (V.drew.grownBy w3 none) := grown_trans HG2.out g3
  have HS3 : Hid (WrS w3 X b g k z.ts.length cap t u) := HS2.out.grow g3
  clear g3 CL hr HR
  refine hK.out _ _ (HS3.out) (fun hHeld2 => ?_)
  clear hK K
  (try go_frame)
  refine wpAnyH_take (i := 19) (v := ?_) rfl (by kernel_rfl) (by kernel_rfl) (by kernel_rfl) (fun _ _ _ h => h) (Or.inl ⟨by rfl, ?_⟩) (by assumption) ?_
  rotate_left 1
  · (intro w0 hSw; go_simp; try with_reducible rfl)
  simp only [List.getElem_toArray, List.getElem_cons_zero, List.getElem_cons_succ]
  go_frame
  refine wpAnyH_take (i := 20) (v := ?_) rfl (by kernel_rfl) (by kernel_rfl) (by kernel_rfl) (fun _ _ _ h => h) (Or.inl ⟨by rfl, ?_⟩) (by assumption) ?_
  rotate_left 1
  · (intro w0 hSw; go_simp; try with_reducible rfl)
  simp only [List.getElem_toArray, List.getElem_cons_zero, List.getElem_cons_succ]
  go_frame
  refine wpAnyH_take (i := 21) (v := ?_) rfl (by kernel_rfl) (by kernel_rfl) (by kernel_rfl) (fun _ _ _ h => h) (Or.inl ⟨by rfl, ?_⟩) (by assumption) ?_
  rotate_left 1
  · (intro w0 hSw; go_simp; try with_reducible rfl)
  simp only [List.getElem_toArray, List.getElem_cons_zero, List.getElem_cons_succ]
  go_frame
  refine wpAnyH_done (by kernel_rfl) ?_ _
  have HZ3 : Hid (ZG 93 [] w3 b Sb z (.slice (some ⟨g, 0, none⟩) z.ts.length cap) d0 d1 h0 h1) := HZ.out.grow (grown_trans HGV.out (grown_trans (grown_drew V) HG3.out))
  go_upto_region 7 with fail
  refine wp_region_held_drew (S := fun w' => w'.cell? ⟨b, 0, none⟩ = some (.slice (some ⟨g, 0, none⟩) z.ts.length cap) ∧ w'.heap[X]? = some (.cells (thc t).toArray 38 (0, 0))) (by kernel_rfl) (⟨(HS3.out.grow (grown_drew w3)).b, (HS3.out.grow (grown_drew w3)).x⟩) (fun hHeld => ?_)
  refine wpAnyH_take (i := 0) (v := ?_) rfl (by kernel_rfl) (by kernel_rfl) (by kernel_rfl) (fun _ _ _ h => h) (Or.inl ⟨by rfl, ?_⟩) (by assumption) ?_
  rotate_left 1
  · (intro w0 hSw; go_simp; try with_reducible rfl)
  simp only [List.getElem_toArray, List.getElem_cons_zero]
  go_frame
  refine wpAnyH_take (i := 1) (v := ?_) rfl (by kernel_rfl) (by kernel_rfl) (by kernel_rfl) (fun _ _ _ h => h) (Or.inl ⟨by rfl, ?_⟩) (by assumption) ?_
  rotate_left 1
  · (intro w0 hSw; go_simp; try with_reducible rfl)
  simp only [List.getElem_toArray, List.getElem_cons_zero, List.getElem_cons_succ]
  go_frame
  refine wpAnyH_take (i := 2) (v := ?_) rfl (by kernel_rfl) (by kernel_rfl) (by kernel_rfl) (fun _ _ _ h => h) (Or.inl ⟨by rfl, ?_⟩) (by assumption) ?_
  rotate_left 1
  · (intro w0 hSw; go_simp; try with_reducible rfl)
  simp only [List.getElem_toArray, List.getElem_cons_zero, List.getElem_cons_succ]
  go_frame
  refine wpAnyH_take (i := 3) (v := ?_) rfl (by kernel_rfl) (by kernel_rfl) (by kernel_rfl) (fun _ _ _ h => h) (Or.inl ⟨by rfl, ?_⟩) (by assumption) ?_
  rotate_left 1
  · (intro w0 hSw; obtain ⟨q1, q2⟩ := hSw; go_simp; try with_reducible rfl)
  simp only [List.getElem_toArray, List.getElem_cons_zero, List.getElem_cons_succ]
  go_frame
  refine wpAnyH_take (i := 4) (v := ?_) rfl (by kernel_rfl) (by kernel_rfl) (by kernel_rfl) (fun _ _ _ h => h) (Or.inl ⟨by rfl, ?_⟩) (by assumption) ?_
  rotate_left 1
  · (intro w0 hSw; go_simp; try with_reducible rfl)
  simp only [List.getElem_toArray, List.getElem_cons_zero, List.getElem_cons_succ]
  go_frame
  refine wpAnyH_take (i := 5) (v := ?_) rfl (by kernel_rfl) (by kernel_rfl) (by kernel_rfl) (fun _ _ _ h => h) (Or.inl ⟨by rfl, ?_⟩) (by assumption) ?_
  rotate_left 1
  · (intro w0 hSw; go_simp; try with_reducible rfl)
  simp only [List.getElem_toArray, List.getElem_cons_zero, List.getElem_cons_succ]
  go_frame
  refine wpAnyH_take (i := 6) (v := ?_) rfl (by kernel_rfl) (by kernel_rfl) (by kernel_rfl) (fun _ _ _ h => h) (Or.inl ⟨by rfl, ?_⟩) (by assumption) ?_
  rotate_left 1
  · (intro w0 hSw; obtain ⟨q1, q2⟩ := hSw; obtain ⟨r0, r1, r2, r3, r4, r5, r6, r7, r8, r9, r10⟩ := box_cells q2; go_simp; try with_reducible rfl)
  simp only [List.getElem_toArray, List.getElem_cons_zero, List.getElem_cons_succ]
  go_frame
  refine wpAnyH_take (i := 7) (v := ?_) rfl (by kernel_rfl) (by kernel_rfl) (by kernel_rfl) (fun _ _ _ h => h) (Or.inl ⟨by rfl, ?_⟩) (by assumption) ?_
  rotate_left 1
  · (intro w0 hSw; go_simp; try with_reducible rfl)
  simp only [List.getElem_toArray, List.getElem_cons_zero, List.getElem_cons_succ]
  go_frame
  refine wpAnyH_ready (rs := [8]) (by kernel_rfl) (by simp) ?_
  refine AllReadyH.cons rfl (fun K9 hK => ?_) AllReadyH.nil
  simp only [List.getElem_toArray, List.getElem_cons_zero, List.getElem_cons_succ]
  rw [if_pos (by rfl)]
  refine wp_store_mid 38 (.tmp 45) (.tmp 44) rfl g (k * 11) (thc t).toArray rfl rfl (own_thereT HZ3.out.ts rfl hlt) (by kernel_rfl) (thc_one _) ?_
  have HZ6 : Hid (ZG 93 [] (w3.drew.setCells g (k * 11) (thc t)) b Sb _ (.slice (some ⟨g, 0, none⟩) z.ts.length cap) d0 d1 h0 h1) := (ZG.set_th (HZ3.out.grow (grown_drew w3)) tgs_z rfl hlt t).1
  have HG6 : Hid (w3.drew.grownBy (w3.drew.setCells g (k * 11) (thc t)) (some g)) := (ZG.set_th (HZ3.out.grow (grown_drew w3)) tgs_z rfl hlt t).2
  have hgX : some X ≠ some g := by have := HbX.out.2; intro q; cases q; omega
  have hbg : some b ≠ some g := zg_bg HZ3.out tgs_z
  refine hK.out _ _ (⟨HG6.out.cell HS3.out.b hbg, grown_keep HG6.out HS3.out.x hgX⟩) (fun hHeld3 => ?_)
  clear hK K9
  (try go_frame)
  refine wpAnyH_done (by kernel_rfl) ?_ _
  have HFin : Hid (TnPost w b Sb { z with ts := z.ts.set k t } (.int .i64 0) (.returned (.int .i64 0)) (w3.drew.setCells g (k * 11) (thc t))) := by
    refine ⟨rfl, Sb, ⟨_, _, _, _, _, HZ6.out⟩, turn_in (kpt_then (kpt_sub (grown_trans HGV.out (grown_trans (grown_drew V) HG3.out)) (by simp)) (kpt_then (kpt_sub (grown_drew w3) (by simp)) (kpt_sub HG6.out (fun x hx => by cases hx; exact HZ.out.inS (.slice (some ⟨g, 0, none⟩) z.ts.length cap) (by simp) g rfl)))) HSo.out⟩
  clear HZ6 HG6 HZ3 HS HS2 HS3
  go_wp2
  go_ret
  exact HFin.out
set_option maxRecDepth 100000 in
set_option maxHeartbeats 4000000 in
theorem write_no (b : Nat) (Sb : List Nat) (z : Zs) (n : Int) (t : Th) (w : World) (Z : ZAt w b Sb z) (S : z.Sound) (hS : Old w Sb) (hn : ¬ there z.ts n) : Calls Try.prog 33 #[.pointer (some ⟨b, 0, none⟩), .int .i64 n, thv t] w (TnPost w b Sb (z.write n t) (.int .i64 (z.writeE n t))) := by
  have Z0 := Z
  obtain ⟨vt, d0, d1, h0, h1, Z⟩ := Z
  obtain ⟨c0, c1, c2, c3, c4, c5⟩ := Z.cell
  obtain ⟨pt, ct, rfl, _⟩ := Z.ts.at
  have eE : z.writeE n t = 6 := by unfold Zs.writeE; rw [if_pos (show ¬ (1 ≤ n ∧ n ≤ (z.ts.length : Int)) from hn)]
  have em : z.write n t = z := by unfold Zs.write; rw [eE]; rfl
  rw [eE, em]
  have HF : Hid (∀ o, TnPost w b Sb z (.int .i64 6) (.returned (.int .i64 6)) (w.alloc o)) := fun o => ⟨rfl, Sb, Z0.grow (World.grownBy_alloc _ _ _), Turn.of_grow (World.grownBy_alloc _ _ _) hS⟩
  have M := fun o => made_yes b z.nx (w.alloc o) ((World.grownBy_alloc _ _ none).cell c5 (by simp)) (nx_ne S)
  have HA := fun o => has_any b z.ts.length ct pt n (w.alloc o) ((World.grownBy_alloc _ _ none).cell c0 (by simp))
  have hn2 : ¬ (1 ≤ n ∧ n ≤ (z.ts.length : Int)) := hn
  rw [decide_eq_false hn2] at HA
  unfold thv
  clear eE em Z Z0 S hS c0 c1 c2 c3 c4 c5 hn hn2
  go_enter Try.func33, Try.ntmps33
  go_wp2_with (first | (go_at_call 61; refine (M _).mono ?_; rintro e w9 ⟨rfl, h9⟩; subst h9) | (go_at_call 62; refine (HA _).mono ?_; rintro e w9 ⟨rfl, h9⟩; subst h9))
  go_ret
  exact HF.out _
theorem write_any (b : Nat) (Sb : List Nat) (z : Zs) (n : Int) (t : Th) (w : World) (Z : ZAt w b Sb z) (S : z.Sound) (hS : Old w Sb) : Calls Try.prog 33 #[.pointer (some ⟨b, 0, none⟩), .int .i64 n, thv t] w (TnPost w b Sb (z.write n t) (.int .i64 (z.writeE n t))) := by
  by_cases hn : there z.ts n
  · by_cases hp : t.place = 4
    · by_cases hk : (thAt z.ts n).card = t.card ∧ (thAt z.ts n).owner = t.owner ∧ (thAt z.ts n).place = t.place ∧ (thAt z.ts n).stamp = t.stamp
      · by_cases hl : t.lies
        · exact write_ok b Sb z n t w Z S hS hn hp hk hl
        · exact write_lie b Sb z n t w Z S hS hn hp hk hl
      · exact write_keep b Sb z n t w Z S hS hn hp hk
    · exact write_place b Sb z n t w Z S hS hn hp
  · exact write_no b Sb z n t w Z S hS hn
end Go.Proofs.Ytogpgldbbegniaa
