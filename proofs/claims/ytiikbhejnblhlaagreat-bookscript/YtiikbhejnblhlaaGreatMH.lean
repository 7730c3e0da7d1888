/-
  BookScript: pair.asked: Find and Has.
  BookScript: pair.asked: TraitName and MarkOf.
-/
import Derived.Test.YtiikbhejnblhlaaGreatPrA
import Derived.Laws.StructEq
namespace Go.Proofs.YtiikbhejnblhlaaGreat
open Go.RowKit

set_option maxRecDepth 100000 in
set_option maxHeartbeats 8000000 in
theorem pfour_any (ok : Nat → Prop) (b r : Nat) (v : Value) (es fs : List Ent) (p : Pl) (a : Dn) (w : World) (P : Pr ok w b r v es fs p) (hk : a.kd = 4) : Calls Tryz.prog 17 #[.agg #[.pointer (some ⟨b, 0, none⟩), .pointer (some ⟨r, 0, none⟩)], .agg (dcs a)] w fun e w' => e = .returned (.bool true) ∧ w.grownBy w' none := by
  have HP : Hid (Pr ok w b r v es fs p) := P
  obtain ⟨kd, onn, hh, vv, tt, nm, mm, nn⟩ := a
  simp only at hk
  subst hk
  obtain ⟨W2, hW2⟩ : ∃ W2, W2 = (w.alloc (.cells #[.pointer (some ⟨b, 0, none⟩), .pointer (some ⟨r, 0, none⟩)] 28)).alloc (.cells (dcs ⟨4, onn, hh, vv, tt, nm, mm, nn⟩) 41) := ⟨_, rfl⟩
  have HG2 : Hid (w.grownBy W2 none) := by rw [hW2]; exact grown_push (World.grownBy_alloc _ _ none) _
  have HA2 : Hid (W2.heap[w.heap.size]? = some (.cells #[.pointer (some ⟨b, 0, none⟩), .pointer (some ⟨r, 0, none⟩)] 28 (0, 0))) := by rw [hW2]; exact grown_keep (World.grownBy_alloc _ _ none) (alloc_at w _ _) (by simp)
  have Z2 : W2.heap[w.heap.size + 1]? = some (.cells (dcs ⟨4, onn, hh, vv, tt, nm, mm, nn⟩) 41 (0, 0)) := by
    have := alloc_at (w.alloc (.cells #[.pointer (some ⟨b, 0, none⟩), .pointer (some ⟨r, 0, none⟩)] 28)) (dcs ⟨4, onn, hh, vv, tt, nm, mm, nn⟩) 41
    rw [World.size_alloc] at this
    rw [hW2]
    exact this
  have HZ2 : Hid (W2.heap[w.heap.size + 1]? = some (.cells (dcs ⟨4, onn, hh, vv, tt, nm, mm, nn⟩) 41 (0, 0))) := Z2
  have z0 : W2.cell? ⟨w.heap.size + 1, 0, none⟩ = some (.int .i64 4) := block_cell Z2 0
  have x0 : W2.cell? ⟨w.heap.size, 0, none⟩ = some (.pointer (some ⟨b, 0, none⟩)) := block_cell HA2.out 0
  have x1 : W2.cell? ⟨w.heap.size, 1, none⟩ = some (.pointer (some ⟨r, 0, none⟩)) := block_cell HA2.out 1
  clear Z2 P
  unfold dcs at hW2 ⊢
  have z12 : W2.cell? ⟨w.heap.size + 1, 12, none⟩ = some (.string nm) := block_cell HZ2.out 12
  have h64 : fs.length ≤ 64 := by rw [← hp_len HP.out.same]; exact HP.out.book.lies.len
  have C1 := fun W (g : w.grownBy W none) => find_yes b es p nm W (HP.out.keep g).book.lies (HP.out.keep g).book.good.slc
  have C2 := fun W (g : w.grownBy W none) => rfind_any r v p fs nm W (HP.out.keep g).rj (HP.out.keep g).rl h64
  have C3 := fun W (g : w.grownBy W none) => has_yes b es p nm W (HP.out.keep g).book.lies (HP.out.keep g).book.good.slc
  have C4 := fun W (g : w.grownBy W none) => rhas_any r v p fs nm W (HP.out.keep g).rj (HP.out.keep g).rl h64
  rw [hp_names HP.out.same] at C1 C3
  obtain ⟨N, hN⟩ : ∃ N, N = fndN p.shut (pos (names fs) nm) := ⟨_, rfl⟩
  obtain ⟨E, hE⟩ : ∃ E, E = fndE p.shut (pos (names fs) nm) := ⟨_, rfl⟩
  obtain ⟨D, hD⟩ : ∃ D, D = decide (0 ≤ pos (names fs) nm) := ⟨_, rfl⟩
  rw [← hN, ← hE] at C1 C2
  rw [← hD] at C3 C4
  clear hN hE hD h64
  have HC3 : Hid (∀ W, w.grownBy W none → Calls Tryz.prog 43 #[.pointer (some ⟨b, 0, none⟩), .string nm] W fun e w' => e = .returned (.bool D) ∧ W.grownBy w' none) := C3
  have HC4 : Hid (∀ W, w.grownBy W none → Calls Tryz.prog 44 #[.pointer (some ⟨r, 0, none⟩), .string nm] W fun e w' => e = .returned (.bool D) ∧ w' = W) := C4
  have HC2 : Hid (∀ W, w.grownBy W none → Calls Tryz.prog 42 #[.pointer (some ⟨r, 0, none⟩), .string nm] W fun e w' => e = .returned (.tuple #[.int .i64 N, .int .i64 E]) ∧ w' = W) := C2
  have HC1 : Hid (∀ W, w.grownBy W none → Calls Tryz.prog 41 #[.pointer (some ⟨b, 0, none⟩), .string nm] W fun e w' => e = .returned (.tuple #[.int .i64 N, .int .i64 E]) ∧ W.grownBy w' none) := C1
  clear C1 C2 C3 C4
  go_enter Tryz.func17, Tryz.ntmps17
  go_upto_region 1 with fail
  rw [← hW2]
  clear hW2
  go_wp2_with fail
  refine (HC1.out W2 HG2.out).mono ?_
  rintro e U1 ⟨rfl, g1⟩
  have HU1 : Hid (W2.grownBy U1 none) := g1
  have x1' := g1.cell x1 (by simp)
  have z12' := g1.cell z12 (by simp)
  clear g1
  go_wp2_with fail
  refine (HC2.out U1 (grown_trans HG2.out HU1.out)).mono ?_
  rintro e U2 ⟨rfl, h2⟩
  obtain rfl : U1 = U2 := h2.symm
  clear x1' z12' z0
  go_upto_region 5 with fail
  refine wp_region_held_drew (S := fun w' => W2.grownBy w' none) (by kernel_rfl) (grown_trans HU1.out (grown_drew _)) (fun hHeld => ?_)
  refine wpAnyH_take (i := 0) (v := ?_) rfl (by kernel_rfl) (by kernel_rfl) (by kernel_rfl) (fun _ _ _ h => h) (Or.inl ⟨by rfl, ?_⟩) (by assumption) ?_
  rotate_left 1
  · (intro w0 hSw; go_simp; try with_reducible rfl)
  simp only [List.getElem_toArray, List.getElem_cons_zero]
  go_frame
  refine wpAnyH_take (i := 1) (v := ?_) rfl (by kernel_rfl) (by kernel_rfl) (by kernel_rfl) (fun _ _ _ h => h) (Or.inl ⟨by rfl, ?_⟩) (by assumption) ?_
  rotate_left 1
  · (intro w0 hSw; go_simp; try with_reducible rfl)
  simp only [List.getElem_toArray, List.getElem_cons_zero, List.getElem_cons_succ]
  go_frame
  refine wpAnyH_take (i := 2) (v := ?_) rfl (by kernel_rfl) (by kernel_rfl) (by kernel_rfl) (fun _ _ _ h => h) (Or.inl ⟨by rfl, ?_⟩) (by assumption) ?_
  rotate_left 1
  · (intro w0 hSw; go_simp; try with_reducible rfl)
  simp only [List.getElem_toArray, List.getElem_cons_zero, List.getElem_cons_succ]
  go_frame
  refine wpAnyH_take (i := 3) (v := ?_) rfl (by kernel_rfl) (by kernel_rfl) (by kernel_rfl) (fun _ _ _ h => h) (Or.inl ⟨by rfl, ?_⟩) (by assumption) ?_
  rotate_left 1
  · (intro w0 hSw; go_simp; try with_reducible rfl)
  simp only [List.getElem_toArray, List.getElem_cons_zero, List.getElem_cons_succ]
  go_frame
  refine wpAnyH_take (i := 4) (v := ?_) rfl (by kernel_rfl) (by kernel_rfl) (by kernel_rfl) (fun _ _ _ h => h) (Or.inl ⟨by rfl, ?_⟩) (by assumption) ?_
  rotate_left 1
  · (intro w0 hSw; go_simp; try with_reducible rfl)
  simp only [List.getElem_toArray, List.getElem_cons_zero, List.getElem_cons_succ]
  go_frame
  refine wpAnyH_take (i := 5) (v := ?_) rfl (by kernel_rfl) (by kernel_rfl) (by kernel_rfl) (fun _ _ _ h => h) (Or.inl ⟨by rfl, ?_⟩) (by assumption) ?_
  rotate_left 1
  · (intro w0 hSw; go_simp; try with_reducible rfl)
  simp only [List.getElem_toArray, List.getElem_cons_zero, List.getElem_cons_succ]
  go_frame
  refine wpAnyH_take (i := 6) (v := ?_) rfl (by kernel_rfl) (by kernel_rfl) (by kernel_rfl) (fun _ _ _ h => h) (Or.inl ⟨by rfl, ?_⟩) (by assumption) ?_
  rotate_left 1
  · (intro w0 hSw; go_simp; try with_reducible rfl)
  simp only [List.getElem_toArray, List.getElem_cons_zero, List.getElem_cons_succ]
  go_frame
  refine wpAnyH_take (i := 7) (v := ?_) rfl (by kernel_rfl) (by kernel_rfl) (by kernel_rfl) (fun _ _ _ h => h) (Or.inl ⟨by rfl, ?_⟩) (by assumption) ?_
  rotate_left 1
  · (intro w0 hSw; go_simp; try with_reducible rfl)
  simp only [List.getElem_toArray, List.getElem_cons_zero, List.getElem_cons_succ]
  go_frame
  refine wpAnyH_take (i := 8) (v := ?_) rfl (by kernel_rfl) (by kernel_rfl) (by kernel_rfl) (fun _ _ _ h => h) (Or.inl ⟨by rfl, ?_⟩) (by assumption) ?_
  rotate_left 1
  · (intro w0 hSw; go_simp; try with_reducible rfl)
  simp only [List.getElem_toArray, List.getElem_cons_zero, List.getElem_cons_succ]
  go_frame
  refine wpAnyH_take (i := 9) (v := ?_) rfl (by kernel_rfl) (by kernel_rfl) (by kernel_rfl) (fun _ _ _ h => h) (Or.inl ⟨by rfl, ?_⟩) (by assumption) ?_
  rotate_left 1
  · (intro w0 hSw; go_simp; try with_reducible rfl)
  simp only [List.getElem_toArray, List.getElem_cons_zero, List.getElem_cons_succ]
  go_frame
  refine wpAnyH_take (i := 10) (v := ?_) rfl (by kernel_rfl) (by kernel_rfl) (by kernel_rfl) (fun _ _ _ h => h) (Or.inl ⟨by rfl, ?_⟩) (by assumption) ?_
  rotate_left 1
  · (intro w0 hSw; have y := World.grownBy.cell hSw x0 (by simp); go_simp; try with_reducible rfl)
  simp only [List.getElem_toArray, List.getElem_cons_zero, List.getElem_cons_succ]
  go_frame
  refine wpAnyH_take (i := 11) (v := ?_) rfl (by kernel_rfl) (by kernel_rfl) (by kernel_rfl) (fun _ _ _ h => h) (Or.inl ⟨by rfl, ?_⟩) (by assumption) ?_
  rotate_left 1
  · (intro w0 hSw; go_simp; try with_reducible rfl)
  simp only [List.getElem_toArray, List.getElem_cons_zero, List.getElem_cons_succ]
  go_frame
  refine wpAnyH_take (i := 12) (v := ?_) rfl (by kernel_rfl) (by kernel_rfl) (by kernel_rfl) (fun _ _ _ h => h) (Or.inl ⟨by rfl, ?_⟩) (by assumption) ?_
  rotate_left 1
  · (intro w0 hSw; have y := World.grownBy.cell hSw z12 (by simp); go_simp; try with_reducible rfl)
  simp only [List.getElem_toArray, List.getElem_cons_zero, List.getElem_cons_succ]
  go_frame
  refine wpAnyH_take (i := 14) (v := ?_) rfl (by kernel_rfl) (by kernel_rfl) (by kernel_rfl) (fun _ _ _ h => h) (Or.inl ⟨by rfl, ?_⟩) (by assumption) ?_
  rotate_left 1
  · (intro w0 hSw; go_simp; try with_reducible rfl)
  simp only [List.getElem_toArray, List.getElem_cons_zero, List.getElem_cons_succ]
  go_frame
  refine wpAnyH_take (i := 15) (v := ?_) rfl (by kernel_rfl) (by kernel_rfl) (by kernel_rfl) (fun _ _ _ h => h) (Or.inl ⟨by rfl, ?_⟩) (by assumption) ?_
  rotate_left 1
  · (intro w0 hSw; have y := World.grownBy.cell hSw x1 (by simp); go_simp; try with_reducible rfl)
  simp only [List.getElem_toArray, List.getElem_cons_zero, List.getElem_cons_succ]
  go_frame
  refine wpAnyH_take (i := 16) (v := ?_) rfl (by kernel_rfl) (by kernel_rfl) (by kernel_rfl) (fun _ _ _ h => h) (Or.inl ⟨by rfl, ?_⟩) (by assumption) ?_
  rotate_left 1
  · (intro w0 hSw; go_simp; try with_reducible rfl)
  simp only [List.getElem_toArray, List.getElem_cons_zero, List.getElem_cons_succ]
  go_frame
  refine wpAnyH_take (i := 17) (v := ?_) rfl (by kernel_rfl) (by kernel_rfl) (by kernel_rfl) (fun _ _ _ h => h) (Or.inl ⟨by rfl, ?_⟩) (by assumption) ?_
  rotate_left 1
  · (intro w0 hSw; have y := World.grownBy.cell hSw z12 (by simp); go_simp; try with_reducible rfl)
  simp only [List.getElem_toArray, List.getElem_cons_zero, List.getElem_cons_succ]
  go_frame
  refine wpAnyH_ready (rs := [13]) (by kernel_rfl) (by simp) ?_
  refine AllReadyH.cons rfl (fun K hK => ?_) AllReadyH.nil
  simp only [List.getElem_toArray, List.getElem_cons_zero, List.getElem_cons_succ]
  rw [if_pos (by rfl)]
  go_simp
  go_at_call 43
  refine (HC3.out _ (grown_trans HG2.out (grown_trans HU1.out (grown_drew _)))).mono ?_
  rintro e U3 ⟨rfl, g3⟩
  have K3 : W2.grownBy U3 none := grown_trans (grown_trans HU1.out (grown_drew _)) g3
  refine hK.out _ _ (K3) (fun hHeld2 => ?_)
  clear hK K
  (try go_frame)
  refine wpAnyH_ready (rs := [18]) (by kernel_rfl) (by simp) ?_
  refine AllReadyH.cons rfl (fun K hK => ?_) AllReadyH.nil
  simp only [List.getElem_toArray, List.getElem_cons_zero, List.getElem_cons_succ]
  rw [if_pos (by rfl)]
  go_simp
  go_at_call 44
  refine (HC4.out U3 (grown_trans HG2.out K3)).mono ?_
  rintro e U4 ⟨rfl, h4⟩
  obtain rfl : U3 = U4 := h4.symm
  refine hK.out _ _ (K3) (fun hHeld2 => ?_)
  clear hK K
  (try go_frame)
  refine wpAnyH_take (i := 19) (v := ?_) rfl (by kernel_rfl) (by kernel_rfl) (by kernel_rfl) (fun _ _ _ h => h) (Or.inl ⟨by rfl, ?_⟩) (by assumption) ?_
  rotate_left 1
  · (intro w0 hSw; go_simp; try with_reducible rfl)
  simp only [List.getElem_toArray, List.getElem_cons_zero, List.getElem_cons_succ]
  go_frame
  refine wpAnyH_take (i := 20) (v := ?_) rfl (by kernel_rfl) (by kernel_rfl) (by kernel_rfl) (fun _ _ _ h => h) (Or.inl ⟨by rfl, ?_⟩) (by assumption) ?_
  rotate_left 1
  · (intro w0 hSw; go_simp; try with_reducible rfl)
  simp only [List.getElem_toArray, List.getElem_cons_zero, List.getElem_cons_succ]
  go_frame
  refine wpAnyH_take (i := 21) (v := ?_) rfl (by kernel_rfl) (by kernel_rfl) (by kernel_rfl) (fun _ _ _ h => h) (Or.inl ⟨by rfl, ?_⟩) (by assumption) ?_
  rotate_left 1
  · (intro w0 hSw; go_simp; try with_reducible rfl)
  simp only [List.getElem_toArray, List.getElem_cons_zero, List.getElem_cons_succ]
  go_frame
  refine wpAnyH_done (by kernel_rfl) ?_ _
  go_wp2
  go_ret
  exact ⟨rfl, grown_trans HG2.out K3⟩
end Go.Proofs.YtiikbhejnblhlaaGreat
namespace Go.Proofs.YtiikbhejnblhlaaGreat
open Go.RowKit

theorem eqg_mk (op : BinOp) (x y : Operand) (xs ys : Array Value) (w : World) : (eqGuard op 39 x y (.agg xs) (.agg ys)).run Tryz.prog w = .ok () w := run_eqGuard_agg w op 39 x y xs ys (by kernel_rfl)
theorem eql_mk (a0 a2 a3 : Int) (s : ByteArray) (w : World) : (binOp .eql 39 (.agg #[.int .u8 a0, .string s, .int .i64 a2, .int .i64 a3]) (.agg #[.int .u8 a0, .string s, .int .i64 a2, .int .i64 a3])).run Tryz.prog w = .ok (.bool true) w := by
  have hS : Tryz.prog.underlying 39 = some (.struct (Tryz.prog.fieldsOf 39)) := by kernel_rfl
  have hp : Tryz.prog.stoodInHeld 39 = false := by kernel_rfl
  have u3 := Tryz.underlying3
  have i3 := Tryz.isAgg3
  have z3 := Tryz.sizeOf3
  have u9 := Tryz.underlying9
  have i9 := Tryz.isAgg9
  have z9 := Tryz.sizeOf9
  have u28 := Tryz.underlying37
  have i28 := Tryz.isAgg37
  have z28 := Tryz.sizeOf37
  rw [run_eql_struct, show (10000 : Nat) = 9999 + 1 from rfl, run_equalIn_agg w 9999 39 _ _ hS hp]
  simp only [Program.fieldsOf, Tryz.underlying39]
  go_simp
set_option maxRecDepth 100000 in
set_option maxHeartbeats 8000000 in
theorem peight_any (ok : Nat → Prop) (b r : Nat) (v : Value) (es fs : List Ent) (p : Pl) (a : Dn) (w : World) (P : Pr ok w b r v es fs p) (hk : a.kd = 8) (ht : 0 ≤ a.t ∧ a.t ≤ 255) (hm : 0 ≤ a.m.mi ∧ a.m.mi ≤ 255) : Calls Tryz.prog 17 #[.agg #[.pointer (some ⟨b, 0, none⟩), .pointer (some ⟨r, 0, none⟩)], .agg (dcs a)] w fun e w' => e = .returned (.bool true) ∧ w.grownBy w' none := by
  have HP : Hid (Pr ok w b r v es fs p) := P
  obtain ⟨kd, onn, hh, vv, tt, nm, mm, nn⟩ := a
  simp only at hk
  subst hk
  obtain ⟨W2, hW2⟩ : ∃ W2, W2 = (w.alloc (.cells #[.pointer (some ⟨b, 0, none⟩), .pointer (some ⟨r, 0, none⟩)] 28)).alloc (.cells (dcs ⟨8, onn, hh, vv, tt, nm, mm, nn⟩) 41) := ⟨_, rfl⟩
  have HG2 : Hid (w.grownBy W2 none) := by rw [hW2]; exact grown_push (World.grownBy_alloc _ _ none) _
  have HA2 : Hid (W2.heap[w.heap.size]? = some (.cells #[.pointer (some ⟨b, 0, none⟩), .pointer (some ⟨r, 0, none⟩)] 28 (0, 0))) := by rw [hW2]; exact grown_keep (World.grownBy_alloc _ _ none) (alloc_at w _ _) (by simp)
  have Z2 : W2.heap[w.heap.size + 1]? = some (.cells (dcs ⟨8, onn, hh, vv, tt, nm, mm, nn⟩) 41 (0, 0)) := by
    have := alloc_at (w.alloc (.cells #[.pointer (some ⟨b, 0, none⟩), .pointer (some ⟨r, 0, none⟩)] 28)) (dcs ⟨8, onn, hh, vv, tt, nm, mm, nn⟩) 41
    rw [World.size_alloc] at this
    rw [hW2]
    exact this
  have HZ2 : Hid (W2.heap[w.heap.size + 1]? = some (.cells (dcs ⟨8, onn, hh, vv, tt, nm, mm, nn⟩) 41 (0, 0))) := Z2
  have z0 : W2.cell? ⟨w.heap.size + 1, 0, none⟩ = some (.int .i64 8) := block_cell Z2 0
  have x0 : W2.cell? ⟨w.heap.size, 0, none⟩ = some (.pointer (some ⟨b, 0, none⟩)) := block_cell HA2.out 0
  have x1 : W2.cell? ⟨w.heap.size, 1, none⟩ = some (.pointer (some ⟨r, 0, none⟩)) := block_cell HA2.out 1
  clear Z2 P
  unfold dcs at hW2 ⊢
  simp only at ht hm
  obtain ⟨mi, mnm, mpo, mhe⟩ := mm
  simp only at hm
  obtain ⟨t, rfl⟩ : ∃ t : Nat, tt = (t : Int) := ⟨tt.toNat, (Int.toNat_of_nonneg ht.1).symm⟩
  obtain ⟨m, rfl⟩ : ∃ m : Nat, mi = (m : Int) := ⟨mi.toNat, (Int.toNat_of_nonneg hm.1).symm⟩
  have z11 : W2.cell? ⟨w.heap.size + 1, 11, none⟩ = some (.int .u8 (t : Int)) := block_cell HZ2.out 11
  have z13 : W2.cell? ⟨w.heap.size + 1, 13, none⟩ = some (.int .u8 (m : Int)) := block_cell HZ2.out 13
  have C1 := traitName_yes b es p (t : Int) ht W2 (HP.out.keep HG2.out).book.lies
  have C2 := rtraitName_any r v p t W2 (HP.out.keep HG2.out).rj (by omega) HP.out.zero
  have C3 := markOf_yes b es p (m : Int) hm W2 (HP.out.keep HG2.out).book.lies
  have C4 := fun W (g : w.grownBy W none) => rmarkOf_any r v p m W (HP.out.keep g).rj (by omega) HP.out.mkd
  obtain ⟨N, hN⟩ : ∃ N, N = tnS p (t : Int) := ⟨_, rfl⟩
  obtain ⟨E, hE⟩ : ∃ E, E = tnB p (t : Int) := ⟨_, rfl⟩
  obtain ⟨⟨k0, k1, k2, k3⟩, hM⟩ : ∃ M, M = moM p (m : Int) := ⟨_, rfl⟩
  obtain ⟨D, hD⟩ : ∃ D, D = moB p (m : Int) := ⟨_, rfl⟩
  rw [← hN, ← hE] at C1 C2
  rw [← hM, ← hD] at C3 C4
  have HC4 : Hid (∀ W, w.grownBy W none → Calls Tryz.prog 50 #[.pointer (some ⟨r, 0, none⟩), .int .u8 (m : Int)] W fun e w' => e = .returned (.tuple #[mv ⟨k0, k1, k2, k3⟩, .bool D]) ∧ W.grownBy w' none) := C4
  clear hN hE hM hD C4 ht hm
  unfold mv at C3 HC4
  have E1 := eqg_mk
  have E2 := eql_mk k0 k2 k3 k1
  simp only at C3 HC4
  go_enter Tryz.func17, Tryz.ntmps17
  go_upto_region 1 with fail
  rw [← hW2]
  clear hW2
  go_wp2_with fail
  refine C1.mono ?_
  rintro e U1 ⟨rfl, h1⟩
  obtain rfl : W2 = U1 := h1.symm
  clear C1
  go_wp2_with fail
  refine C2.mono ?_
  rintro e U2 ⟨rfl, h2⟩
  obtain rfl : W2 = U2 := h2.symm
  clear C2
  go_wp2_with fail
  refine C3.mono ?_
  rintro e U3 ⟨rfl, g3⟩
  obtain ⟨U4, hU4⟩ : ∃ U4, U4 = U3.alloc (.cells #[.int .u8 k0, .string k1, .int .i64 k2, .int .i64 k3] 39) := ⟨_, rfl⟩
  have G4 : W2.grownBy U4 none := by rw [hU4]; exact grown_push g3 _
  have M4' : U4.heap[U3.heap.size]? = some (.cells #[.int .u8 k0, .string k1, .int .i64 k2, .int .i64 k3] 39 (0, 0)) := by rw [hU4]; exact alloc_at _ _ _
  have HM4 : Hid (U4.heap[U3.heap.size]? = some (.cells #[.int .u8 k0, .string k1, .int .i64 k2, .int .i64 k3] 39 (0, 0))) := M4'
  have HG4 : Hid (W2.grownBy U4 none) := G4
  have x1' := G4.cell x1 (by simp)
  have z13' := G4.cell z13 (by simp)
  clear C3 g3 G4 M4' z0 z11 z13 x0 x1
  go_upto_region 17 with fail
  rw [← hU4]
  clear hU4
  go_wp2_with fail
  refine (HC4.out U4 (grown_trans HG2.out HG4.out)).mono ?_
  rintro e U5 ⟨rfl, g5⟩
  obtain ⟨U6, hU6⟩ : ∃ U6, U6 = U5.alloc (.cells #[.int .u8 k0, .string k1, .int .i64 k2, .int .i64 k3] 39) := ⟨_, rfl⟩
  have G6 : U4.grownBy U6 none := by rw [hU6]; exact grown_push g5 _
  have A6 := grown_keep G6 HM4.out (by simp)
  have B6 : U6.heap[U5.heap.size]? = some (.cells #[.int .u8 k0, .string k1, .int .i64 k2, .int .i64 k3] 39 (0, 0)) := by rw [hU6]; exact alloc_at _ _ _
  have a0 : U6.cell? ⟨U3.heap.size, 0, none⟩ = some (.int .u8 k0) := block_cell A6 0
  have a1 : U6.cell? ⟨U3.heap.size, 1, none⟩ = some (.string k1) := block_cell A6 1
  have a2 : U6.cell? ⟨U3.heap.size, 2, none⟩ = some (.int .i64 k2) := block_cell A6 2
  have a3 : U6.cell? ⟨U3.heap.size, 3, none⟩ = some (.int .i64 k3) := block_cell A6 3
  have b0 : U6.cell? ⟨U5.heap.size, 0, none⟩ = some (.int .u8 k0) := block_cell B6 0
  have b1 : U6.cell? ⟨U5.heap.size, 1, none⟩ = some (.string k1) := block_cell B6 1
  have b2 : U6.cell? ⟨U5.heap.size, 2, none⟩ = some (.int .i64 k2) := block_cell B6 2
  have b3 : U6.cell? ⟨U5.heap.size, 3, none⟩ = some (.int .i64 k3) := block_cell B6 3
  have HG6 : Hid (w.grownBy U6 none) := grown_trans HG2.out (grown_trans HG4.out G6)
  clear g5 G6 A6 B6 x1' z13'
  go_upto_region 18 with fail
  rw [← hU6]
  clear hU6
  go_wp2
  go_ret
  exact ⟨rfl, HG6.out⟩
end Go.Proofs.YtiikbhejnblhlaaGreat
