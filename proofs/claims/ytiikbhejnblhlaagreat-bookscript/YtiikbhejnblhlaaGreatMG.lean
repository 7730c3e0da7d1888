/-
  BookScript: pair.act.
  BookScript: pair.act.
  BookScript: pair.act.
  BookScript: pair.act.
  BookScript: pair.act.
-/
import Derived.Test.YtiikbhejnblhlaaGreatPrN
namespace Go.Proofs.YtiikbhejnblhlaaGreat
open Go.RowKit

set_option maxRecDepth 100000 in
set_option maxHeartbeats 8000000 in
theorem act0 (ok : Nat → Prop) (b r : Nat) (v : Value) (es fs : List Ent) (p : Pl) (b' r' : Nat) (a : Dn) (w : World) (P : Pr ok w b r v es fs p) (hb : ¬ ok b) (hr : ¬ ok r) (hne : ¬ b = r) (hf : ∃ x y z, a.v = .slice x y z) (hk : a.kd = 0) (ps : List Pt) (hnew : ∀ k, w.heap.size ≤ k → ok k) (hps : PsOk ok w a.v ps) (hfi : Fits ps.length) (hwf : (a.h.with ps).wf) : Calls Tryz.prog 6 #[.agg #[.pointer (some ⟨b, 0, none⟩), .pointer (some ⟨r, 0, none⟩)], .agg (dcs a), .agg #[.pointer (some ⟨b', 0, none⟩), .pointer (some ⟨r', 0, none⟩)]] w fun e w' => e = .returned (.bool true) ∧ ActPost ok w w' b r := by
  have HP : Hid (Pr ok w b r v es fs p) := P
  have HN : Hid (¬ ok b ∧ ¬ ok r ∧ ¬ b = r) := ⟨hb, hr, hne⟩
  have hbs : b < w.heap.size := block_lt P.book.lies.choose_spec.lies
  have hrs : r < w.heap.size := block_lt P.rj.lies
  obtain ⟨kd, onn, hd, vv, tt, nm, mm, nn⟩ := a
  simp only at hf
  obtain ⟨s1, s2, s3, rfl⟩ := hf
  obtain ⟨W3, hW3⟩ : ∃ W3, W3 = ((w.alloc (.cells #[.pointer (some ⟨b, 0, none⟩), .pointer (some ⟨r, 0, none⟩)] 28)).alloc (.cells (dcs ⟨kd, onn, hd, .slice s1 s2 s3, tt, nm, mm, nn⟩) 41)).alloc (.cells #[.pointer (some ⟨b', 0, none⟩), .pointer (some ⟨r', 0, none⟩)] 28) := ⟨_, rfl⟩
  have HG : Hid (w.grownBy W3 none) := by rw [hW3]; exact grown_push (grown_push (World.grownBy_alloc _ _ none) _) _
  have A1 : W3.heap[w.heap.size]? = some (.cells #[.pointer (some ⟨b, 0, none⟩), .pointer (some ⟨r, 0, none⟩)] 28 (0, 0)) := by
    rw [hW3]; exact grown_keep (grown_push (World.grownBy_alloc _ _ none) _) (alloc_at w _ _) (by simp)
  have A2 : W3.heap[w.heap.size + 1]? = some (.cells (dcs ⟨kd, onn, hd, .slice s1 s2 s3, tt, nm, mm, nn⟩) 41 (0, 0)) := by
    have h := alloc_at (w.alloc (.cells #[.pointer (some ⟨b, 0, none⟩), .pointer (some ⟨r, 0, none⟩)] 28)) (dcs ⟨kd, onn, hd, .slice s1 s2 s3, tt, nm, mm, nn⟩) 41
    rw [World.size_alloc] at h
    rw [hW3]; exact grown_keep (World.grownBy_alloc _ _ none) h (by simp)
  have A3 : W3.heap[w.heap.size + 1 + 1]? = some (.cells #[.pointer (some ⟨b', 0, none⟩), .pointer (some ⟨r', 0, none⟩)] 28 (0, 0)) := by
    have h := alloc_at ((w.alloc (.cells #[.pointer (some ⟨b, 0, none⟩), .pointer (some ⟨r, 0, none⟩)] 28)).alloc (.cells (dcs ⟨kd, onn, hd, .slice s1 s2 s3, tt, nm, mm, nn⟩) 41)) #[.pointer (some ⟨b', 0, none⟩), .pointer (some ⟨r', 0, none⟩)] 28
    rw [World.size_alloc, World.size_alloc] at h
    rw [hW3]; exact h
  have HA1 : Hid (W3.heap[w.heap.size]? = some (.cells #[.pointer (some ⟨b, 0, none⟩), .pointer (some ⟨r, 0, none⟩)] 28 (0, 0))) := A1
  have HA2 : Hid (W3.heap[w.heap.size + 1]? = some (.cells (dcs ⟨kd, onn, hd, .slice s1 s2 s3, tt, nm, mm, nn⟩) 41 (0, 0))) := A2
  have HA3 : Hid (W3.heap[w.heap.size + 1 + 1]? = some (.cells #[.pointer (some ⟨b', 0, none⟩), .pointer (some ⟨r', 0, none⟩)] 28 (0, 0))) := A3
  have z0 : W3.cell? ⟨w.heap.size + 1, 0, none⟩ = some (.int .i64 kd) := block_cell A2 0
  have x0 : W3.cell? ⟨w.heap.size, 0, none⟩ = some (.pointer (some ⟨b, 0, none⟩)) := block_cell A1 0
  have x1 : W3.cell? ⟨w.heap.size, 1, none⟩ = some (.pointer (some ⟨r, 0, none⟩)) := block_cell A1 1
  have HPw : Hid (Pr ok W3 b r v es fs p) := P.keep HG.out
  clear P hb hr hne A1 A2 A3
  obtain ⟨mi, mnm, mpo, mhe⟩ := mm
  obtain ⟨h0, h1, h2, h3, h4, h5, h6, h7⟩ := hd
  have HA2' := HA2.out
  unfold dcs at hW3 HA2' ⊢
  simp only at hW3 HA2' ⊢
  simp only at hk hps hwf
  subst hk
  have C1 := pcard_any ok b r v es fs p ⟨h0, h1, h2, h3, h4, h5, h6, h7⟩ (.slice s1 s2 s3) ps W3 HPw.out HN.out.1 HN.out.2.1 HN.out.2.2 (fun k hk => hnew k (Nat.le_trans HG.out.size hk)) (hps.keep HG.out) hfi hwf
  unfold cv at C1
  simp only at C1
  have z2 : W3.cell? ⟨w.heap.size + 1, 2, none⟩ = some (.string h0) := block_cell HA2' 2
  have z3 : W3.cell? ⟨w.heap.size + 1, 3, none⟩ = some (.int .u8 h1) := block_cell HA2' 3
  have z4 : W3.cell? ⟨w.heap.size + 1, 4, none⟩ = some (.int .u8 h2) := block_cell HA2' 4
  have z5 : W3.cell? ⟨w.heap.size + 1, 5, none⟩ = some (.int .i64 h3) := block_cell HA2' 5
  have z6 : W3.cell? ⟨w.heap.size + 1, 6, none⟩ = some (.int .i64 h4) := block_cell HA2' 6
  have z7 : W3.cell? ⟨w.heap.size + 1, 7, none⟩ = some (.int .i64 h5) := block_cell HA2' 7
  have z8 : W3.cell? ⟨w.heap.size + 1, 8, none⟩ = some (.int .u16 h6) := block_cell HA2' 8
  have z9 : W3.cell? ⟨w.heap.size + 1, 9, none⟩ = some (.bool h7) := block_cell HA2' 9
  have z10 : W3.cell? ⟨w.heap.size + 1, 10, none⟩ = some (.slice s1 s2 s3) := block_cell HA2' 10
  clear hnew hps hfi hwf
  go_enter Tryz.func6, Tryz.ntmps6
  go_upto_region 1 with fail
  rw [← hW3]
  clear hW3
  go_wp2_with fail
  refine C1.mono ?_
  rintro e U ⟨rfl, h⟩
  have HF : Hid (ActPost ok w U b r) := by
    obtain ⟨⟨v', es', fs', h1⟩, h2⟩ := h.out
    exact ⟨⟨v', es', fs', p, h1⟩, both_pre HG.out h2⟩
  clear h C1
  go_wp2
  go_ret
  exact ⟨rfl, HF.out⟩
set_option maxRecDepth 100000 in
set_option maxHeartbeats 8000000 in
theorem act1 (ok : Nat → Prop) (b r : Nat) (v : Value) (es fs : List Ent) (p : Pl) (b' r' : Nat) (a : Dn) (w : World) (P : Pr ok w b r v es fs p) (hb : ¬ ok b) (hr : ¬ ok r) (hne : ¬ b = r) (hf : ∃ x y z, a.v = .slice x y z) (hk : a.kd = 1) (ht : 0 ≤ a.t ∧ a.t ≤ 255) : Calls Tryz.prog 6 #[.agg #[.pointer (some ⟨b, 0, none⟩), .pointer (some ⟨r, 0, none⟩)], .agg (dcs a), .agg #[.pointer (some ⟨b', 0, none⟩), .pointer (some ⟨r', 0, none⟩)]] w fun e w' => e = .returned (.bool true) ∧ ActPost ok w w' b r := by
  have HP : Hid (Pr ok w b r v es fs p) := P
  have HN : Hid (¬ ok b ∧ ¬ ok r ∧ ¬ b = r) := ⟨hb, hr, hne⟩
  have hbs : b < w.heap.size := block_lt P.book.lies.choose_spec.lies
  have hrs : r < w.heap.size := block_lt P.rj.lies
  obtain ⟨kd, onn, hd, vv, tt, nm, mm, nn⟩ := a
  simp only at hf
  obtain ⟨s1, s2, s3, rfl⟩ := hf
  obtain ⟨W3, hW3⟩ : ∃ W3, W3 = ((w.alloc (.cells #[.pointer (some ⟨b, 0, none⟩), .pointer (some ⟨r, 0, none⟩)] 28)).alloc (.cells (dcs ⟨kd, onn, hd, .slice s1 s2 s3, tt, nm, mm, nn⟩) 41)).alloc (.cells #[.pointer (some ⟨b', 0, none⟩), .pointer (some ⟨r', 0, none⟩)] 28) := ⟨_, rfl⟩
  have HG : Hid (w.grownBy W3 none) := by rw [hW3]; exact grown_push (grown_push (World.grownBy_alloc _ _ none) _) _
  have A1 : W3.heap[w.heap.size]? = some (.cells #[.pointer (some ⟨b, 0, none⟩), .pointer (some ⟨r, 0, none⟩)] 28 (0, 0)) := by
    rw [hW3]; exact grown_keep (grown_push (World.grownBy_alloc _ _ none) _) (alloc_at w _ _) (by simp)
  have A2 : W3.heap[w.heap.size + 1]? = some (.cells (dcs ⟨kd, onn, hd, .slice s1 s2 s3, tt, nm, mm, nn⟩) 41 (0, 0)) := by
    have h := alloc_at (w.alloc (.cells #[.pointer (some ⟨b, 0, none⟩), .pointer (some ⟨r, 0, none⟩)] 28)) (dcs ⟨kd, onn, hd, .slice s1 s2 s3, tt, nm, mm, nn⟩) 41
    rw [World.size_alloc] at h
    rw [hW3]; exact grown_keep (World.grownBy_alloc _ _ none) h (by simp)
  have A3 : W3.heap[w.heap.size + 1 + 1]? = some (.cells #[.pointer (some ⟨b', 0, none⟩), .pointer (some ⟨r', 0, none⟩)] 28 (0, 0)) := by
    have h := alloc_at ((w.alloc (.cells #[.pointer (some ⟨b, 0, none⟩), .pointer (some ⟨r, 0, none⟩)] 28)).alloc (.cells (dcs ⟨kd, onn, hd, .slice s1 s2 s3, tt, nm, mm, nn⟩) 41)) #[.pointer (some ⟨b', 0, none⟩), .pointer (some ⟨r', 0, none⟩)] 28
    rw [World.size_alloc, World.size_alloc] at h
    rw [hW3]; exact h
  have HA1 : Hid (W3.heap[w.heap.size]? = some (.cells #[.pointer (some ⟨b, 0, none⟩), .pointer (some ⟨r, 0, none⟩)] 28 (0, 0))) := A1
  have HA2 : Hid (W3.heap[w.heap.size + 1]? = some (.cells (dcs ⟨kd, onn, hd, .slice s1 s2 s3, tt, nm, mm, nn⟩) 41 (0, 0))) := A2
  have HA3 : Hid (W3.heap[w.heap.size + 1 + 1]? = some (.cells #[.pointer (some ⟨b', 0, none⟩), .pointer (some ⟨r', 0, none⟩)] 28 (0, 0))) := A3
  have z0 : W3.cell? ⟨w.heap.size + 1, 0, none⟩ = some (.int .i64 kd) := block_cell A2 0
  have x0 : W3.cell? ⟨w.heap.size, 0, none⟩ = some (.pointer (some ⟨b, 0, none⟩)) := block_cell A1 0
  have x1 : W3.cell? ⟨w.heap.size, 1, none⟩ = some (.pointer (some ⟨r, 0, none⟩)) := block_cell A1 1
  have HPw : Hid (Pr ok W3 b r v es fs p) := P.keep HG.out
  clear P hb hr hne A1 A2 A3
  obtain ⟨mi, mnm, mpo, mhe⟩ := mm
  obtain ⟨h0, h1, h2, h3, h4, h5, h6, h7⟩ := hd
  have HA2' := HA2.out
  unfold dcs at hW3 HA2' ⊢
  simp only at hW3 HA2' ⊢
  simp only at hk ht
  subst hk
  obtain ⟨t, rfl⟩ : ∃ t : Nat, tt = (t : Int) := ⟨tt.toNat, (Int.toNat_of_nonneg ht.1).symm⟩ -- tnat
  have HS : Hid (W3.heap[w.heap.size]? = some (.cells #[.pointer (some ⟨b, 0, none⟩), .pointer (some ⟨r, 0, none⟩)] 28 (0, 0)) ∧ W3.heap[w.heap.size + 1]? = some (.cells #[.int .i64 1, .int .i64 onn, .string h0, .int .u8 h1, .int .u8 h2, .int .i64 h3, .int .i64 h4, .int .i64 h5, .int .u16 h6, .bool h7, .slice s1 s2 s3, .int .u8 (t : Int), .string nm, .int .u8 mi, .string mnm, .int .i64 mpo, .int .i64 mhe, .int .i64 nn] 41 (0, 0))) := ⟨HA1.out, HA2'⟩
  obtain ⟨EE, hEE⟩ : ∃ E, E = trE p (t : Int) nm := ⟨_, rfl⟩
  have C1 := btrait ok b es p (t : Int) nm W3.drew (HPw.out.keep (grown_drew _)).book HN.out.1
  have C2 := fun W (g : W3.grownBy W (some b)) => rtrait_any r v p t nm W (HPw.out.rj.keepR g (fun e => by injection e with e; exact HN.out.2.2 e.symm)) (by omega) HPw.out.zero
  skip
  rw [← hEE] at C1 C2
  clear hEE
  have HC2 : Hid (∀ W, W3.grownBy W (some b) → Calls Tryz.prog 10 #[.pointer (some ⟨r, 0, none⟩), .int .u8 (t : Int), .string nm] W fun e w' => e = .returned (.int .i64 EE) ∧ RJ w' r v (trP p (t : Int) nm) ∧ W.grownBy w' (some r)) := C2
  clear C2
  go_enter Tryz.func6, Tryz.ntmps6
  go_upto_region 1 with fail
  rw [← hW3]
  clear hW3
  go_upto_region 5 with fail
  refine wp_region_held_drew (S := fun w' => w'.heap[w.heap.size]? = some (.cells #[.pointer (some ⟨b, 0, none⟩), .pointer (some ⟨r, 0, none⟩)] 28 (0, 0)) ∧ w'.heap[w.heap.size + 1]? = some (.cells #[.int .i64 1, .int .i64 onn, .string h0, .int .u8 h1, .int .u8 h2, .int .i64 h3, .int .i64 h4, .int .i64 h5, .int .u16 h6, .bool h7, .slice s1 s2 s3, .int .u8 (t : Int), .string nm, .int .u8 mi, .string mnm, .int .i64 mpo, .int .i64 mhe, .int .i64 nn] 41 (0, 0))) (by kernel_rfl) ⟨grown_keep (grown_drew _) HS.out.1 (by simp), grown_keep (grown_drew _) HS.out.2 (by simp)⟩ (fun hHeld => ?_)
  refine wpAnyH_take (i := 0) (v := ?_) rfl (by kernel_rfl) (by kernel_rfl) (by kernel_rfl) (fun _ _ _ h => h) (Or.inl ⟨by rfl, ?_⟩) (by assumption) ?_
  rotate_left 1
  · (intro w0 hSw; go_simp; try with_reducible rfl)
  simp only [List.getElem_toArray, List.getElem_cons_zero]
  go_frame
  refine wpAnyH_take (i := 1) (v := ?_) rfl (by kernel_rfl) (by kernel_rfl) (by kernel_rfl) (fun _ _ _ h => h) (Or.inl ⟨by rfl, ?_⟩) (by assumption) ?_
  rotate_left 1
  · (intro w0 hSw; have y := block_cell hSw.1 0; simp only [List.getElem?_toArray, List.getElem?_cons_zero] at y; go_simp; try with_reducible rfl)
  simp only [List.getElem_toArray, List.getElem_cons_zero, List.getElem_cons_succ]
  go_frame
  refine wpAnyH_take (i := 2) (v := ?_) rfl (by kernel_rfl) (by kernel_rfl) (by kernel_rfl) (fun _ _ _ h => h) (Or.inl ⟨by rfl, ?_⟩) (by assumption) ?_
  rotate_left 1
  · (intro w0 hSw; go_simp; try with_reducible rfl)
  simp only [List.getElem_toArray, List.getElem_cons_zero, List.getElem_cons_succ]
  go_frame
  refine wpAnyH_take (i := 3) (v := ?_) rfl (by kernel_rfl) (by kernel_rfl) (by kernel_rfl) (fun _ _ _ h => h) (Or.inl ⟨by rfl, ?_⟩) (by assumption) ?_
  rotate_left 1
  · (intro w0 hSw; have y11 := block_cell hSw.2 11; simp only [List.getElem?_toArray, List.getElem?_cons_zero, List.getElem?_cons_succ] at y11; go_simp; try with_reducible rfl)
  simp only [List.getElem_toArray, List.getElem_cons_zero, List.getElem_cons_succ]
  go_frame
  refine wpAnyH_take (i := 4) (v := ?_) rfl (by kernel_rfl) (by kernel_rfl) (by kernel_rfl) (fun _ _ _ h => h) (Or.inl ⟨by rfl, ?_⟩) (by assumption) ?_
  rotate_left 1
  · (intro w0 hSw; go_simp; try with_reducible rfl)
  simp only [List.getElem_toArray, List.getElem_cons_zero, List.getElem_cons_succ]
  go_frame
  refine wpAnyH_take (i := 5) (v := ?_) rfl (by kernel_rfl) (by kernel_rfl) (by kernel_rfl) (fun _ _ _ h => h) (Or.inl ⟨by rfl, ?_⟩) (by assumption) ?_
  rotate_left 1
  · (intro w0 hSw; have y12 := block_cell hSw.2 12; simp only [List.getElem?_toArray, List.getElem?_cons_zero, List.getElem?_cons_succ] at y12; go_simp; try with_reducible rfl)
  simp only [List.getElem_toArray, List.getElem_cons_zero, List.getElem_cons_succ]
  go_frame
  refine wpAnyH_take (i := 7) (v := ?_) rfl (by kernel_rfl) (by kernel_rfl) (by kernel_rfl) (fun _ _ _ h => h) (Or.inl ⟨by rfl, ?_⟩) (by assumption) ?_
  rotate_left 1
  · (intro w0 hSw; go_simp; try with_reducible rfl)
  simp only [List.getElem_toArray, List.getElem_cons_zero, List.getElem_cons_succ]
  go_frame
  refine wpAnyH_take (i := 8) (v := ?_) rfl (by kernel_rfl) (by kernel_rfl) (by kernel_rfl) (fun _ _ _ h => h) (Or.inl ⟨by rfl, ?_⟩) (by assumption) ?_
  rotate_left 1
  · (intro w0 hSw; have y := block_cell hSw.1 1; simp only [List.getElem?_toArray, List.getElem?_cons_zero, List.getElem?_cons_succ] at y; go_simp; try with_reducible rfl)
  simp only [List.getElem_toArray, List.getElem_cons_zero, List.getElem_cons_succ]
  go_frame
  refine wpAnyH_take (i := 9) (v := ?_) rfl (by kernel_rfl) (by kernel_rfl) (by kernel_rfl) (fun _ _ _ h => h) (Or.inl ⟨by rfl, ?_⟩) (by assumption) ?_
  rotate_left 1
  · (intro w0 hSw; go_simp; try with_reducible rfl)
  simp only [List.getElem_toArray, List.getElem_cons_zero, List.getElem_cons_succ]
  go_frame
  refine wpAnyH_take (i := 10) (v := ?_) rfl (by kernel_rfl) (by kernel_rfl) (by kernel_rfl) (fun _ _ _ h => h) (Or.inl ⟨by rfl, ?_⟩) (by assumption) ?_
  rotate_left 1
  · (intro w0 hSw; have y11 := block_cell hSw.2 11; simp only [List.getElem?_toArray, List.getElem?_cons_zero, List.getElem?_cons_succ] at y11; go_simp; try with_reducible rfl)
  simp only [List.getElem_toArray, List.getElem_cons_zero, List.getElem_cons_succ]
  go_frame
  refine wpAnyH_take (i := 11) (v := ?_) rfl (by kernel_rfl) (by kernel_rfl) (by kernel_rfl) (fun _ _ _ h => h) (Or.inl ⟨by rfl, ?_⟩) (by assumption) ?_
  rotate_left 1
  · (intro w0 hSw; go_simp; try with_reducible rfl)
  simp only [List.getElem_toArray, List.getElem_cons_zero, List.getElem_cons_succ]
  go_frame
  refine wpAnyH_take (i := 12) (v := ?_) rfl (by kernel_rfl) (by kernel_rfl) (by kernel_rfl) (fun _ _ _ h => h) (Or.inl ⟨by rfl, ?_⟩) (by assumption) ?_
  rotate_left 1
  · (intro w0 hSw; have y12 := block_cell hSw.2 12; simp only [List.getElem?_toArray, List.getElem?_cons_zero, List.getElem?_cons_succ] at y12; go_simp; try with_reducible rfl)
  simp only [List.getElem_toArray, List.getElem_cons_zero, List.getElem_cons_succ]
  go_frame
  refine wpAnyH_ready (rs := [6]) (by kernel_rfl) (by simp) ?_
  refine AllReadyH.cons rfl (fun K hK => ?_) AllReadyH.nil
  simp only [List.getElem_toArray, List.getElem_cons_zero, List.getElem_cons_succ]
  go_simp
  go_at_call 9
  refine (C1).mono ?_
  rintro e U1 ⟨rfl, B1, g1⟩
  have G1 : Hid (W3.grownBy U1 (some b)) := grown_own' (grown_drew _) g1
  have K1 : U1.heap[w.heap.size]? = some (.cells #[.pointer (some ⟨b, 0, none⟩), .pointer (some ⟨r, 0, none⟩)] 28 (0, 0)) ∧ U1.heap[w.heap.size + 1]? = some (.cells #[.int .i64 1, .int .i64 onn, .string h0, .int .u8 h1, .int .u8 h2, .int .i64 h3, .int .i64 h4, .int .i64 h5, .int .u16 h6, .bool h7, .slice s1 s2 s3, .int .u8 (t : Int), .string nm, .int .u8 mi, .string mnm, .int .i64 mpo, .int .i64 mhe, .int .i64 nn] 41 (0, 0)) := ⟨grown_keep G1.out HS.out.1 (fun e => by injection e with e; omega), grown_keep G1.out HS.out.2 (fun e => by injection e with e; omega)⟩
  have HB1 : Hid (Book ok U1 b es (trP p (t : Int) nm)) := B1
  clear B1 g1
  refine hK.out _ _ (K1) (fun hHeld2 => ?_)
  clear hK K
  (try go_frame)
  refine wpAnyH_ready (rs := [13]) (by kernel_rfl) (by simp) ?_
  refine AllReadyH.cons rfl (fun K hK => ?_) AllReadyH.nil
  simp only [List.getElem_toArray, List.getElem_cons_zero, List.getElem_cons_succ]
  go_simp
  go_at_call 10
  refine (HC2.out U1 G1.out).mono ?_
  rintro e U2 ⟨rfl, R2, g2⟩
  have K2 : U2.heap[w.heap.size]? = some (.cells #[.pointer (some ⟨b, 0, none⟩), .pointer (some ⟨r, 0, none⟩)] 28 (0, 0)) ∧ U2.heap[w.heap.size + 1]? = some (.cells #[.int .i64 1, .int .i64 onn, .string h0, .int .u8 h1, .int .u8 h2, .int .i64 h3, .int .i64 h4, .int .i64 h5, .int .u16 h6, .bool h7, .slice s1 s2 s3, .int .u8 (t : Int), .string nm, .int .u8 mi, .string mnm, .int .i64 mpo, .int .i64 mhe, .int .i64 nn] 41 (0, 0)) := ⟨grown_keep g2 K1.1 (fun e => by injection e with e; omega), grown_keep g2 K1.2 (fun e => by injection e with e; omega)⟩
  have HF : Hid (ActPost ok w U2 b r) := ⟨⟨v, es, fs, (trP p (t : Int) nm), Pr.step HPw.out HN.out.1 HN.out.2.1 HN.out.2.2 HB1.out G1.out R2 g2 (trP_mkd HPw.out.mkd _ _) (trP_zero' HPw.out.zero t nm)⟩, both_pre HG.out ⟨U1, G1.out, g2⟩⟩
  clear R2 g2
  refine hK.out _ _ (K2) (fun hHeld2 => ?_)
  clear hK K
  (try go_frame)
  refine wpAnyH_take (i := 14) (v := ?_) rfl (by kernel_rfl) (by kernel_rfl) (by kernel_rfl) (fun _ _ _ h => h) (Or.inl ⟨by rfl, ?_⟩) (by assumption) ?_
  rotate_left 1
  · (intro w0 hSw; go_simp; try with_reducible rfl)
  simp only [List.getElem_toArray, List.getElem_cons_zero, List.getElem_cons_succ]
  go_frame
  refine wpAnyH_take (i := 15) (v := ?_) rfl (by kernel_rfl) (by kernel_rfl) (by kernel_rfl) (fun _ _ _ h => h) (Or.inl ⟨by rfl, ?_⟩) (by assumption) ?_
  rotate_left 1
  · (intro w0 hSw; go_simp; try with_reducible rfl)
  simp only [List.getElem_toArray, List.getElem_cons_zero, List.getElem_cons_succ]
  go_frame
  refine wpAnyH_done (by kernel_rfl) ?_ _
  go_wp2
  go_ret
  exact ⟨rfl, HF.out⟩
set_option maxRecDepth 100000 in
set_option maxHeartbeats 8000000 in
theorem act2 (ok : Nat → Prop) (b r : Nat) (v : Value) (es fs : List Ent) (p : Pl) (b' r' : Nat) (a : Dn) (w : World) (P : Pr ok w b r v es fs p) (hb : ¬ ok b) (hr : ¬ ok r) (hne : ¬ b = r) (hf : ∃ x y z, a.v = .slice x y z) (hk : a.kd = 2) (hm : 0 ≤ a.m.mi ∧ a.m.mi ≤ 255) : Calls Tryz.prog 6 #[.agg #[.pointer (some ⟨b, 0, none⟩), .pointer (some ⟨r, 0, none⟩)], .agg (dcs a), .agg #[.pointer (some ⟨b', 0, none⟩), .pointer (some ⟨r', 0, none⟩)]] w fun e w' => e = .returned (.bool true) ∧ ActPost ok w w' b r := by
  have HP : Hid (Pr ok w b r v es fs p) := P
  have HN : Hid (¬ ok b ∧ ¬ ok r ∧ ¬ b = r) := ⟨hb, hr, hne⟩
  have hbs : b < w.heap.size := block_lt P.book.lies.choose_spec.lies
  have hrs : r < w.heap.size := block_lt P.rj.lies
  obtain ⟨kd, onn, hd, vv, tt, nm, mm, nn⟩ := a
  simp only at hf
  obtain ⟨s1, s2, s3, rfl⟩ := hf
  obtain ⟨W3, hW3⟩ : ∃ W3, W3 = ((w.alloc (.cells #[.pointer (some ⟨b, 0, none⟩), .pointer (some ⟨r, 0, none⟩)] 28)).alloc (.cells (dcs ⟨kd, onn, hd, .slice s1 s2 s3, tt, nm, mm, nn⟩) 41)).alloc (.cells #[.pointer (some ⟨b', 0, none⟩), .pointer (some ⟨r', 0, none⟩)] 28) := ⟨_, rfl⟩
  have HG : Hid (w.grownBy W3 none) := by rw [hW3]; exact grown_push (grown_push (World.grownBy_alloc _ _ none) _) _
  have A1 : W3.heap[w.heap.size]? = some (.cells #[.pointer (some ⟨b, 0, none⟩), .pointer (some ⟨r, 0, none⟩)] 28 (0, 0)) := by
    rw [hW3]; exact grown_keep (grown_push (World.grownBy_alloc _ _ none) _) (alloc_at w _ _) (by simp)
  have A2 : W3.heap[w.heap.size + 1]? = some (.cells (dcs ⟨kd, onn, hd, .slice s1 s2 s3, tt, nm, mm, nn⟩) 41 (0, 0)) := by
    have h := alloc_at (w.alloc (.cells #[.pointer (some ⟨b, 0, none⟩), .pointer (some ⟨r, 0, none⟩)] 28)) (dcs ⟨kd, onn, hd, .slice s1 s2 s3, tt, nm, mm, nn⟩) 41
    rw [World.size_alloc] at h
    rw [hW3]; exact grown_keep (World.grownBy_alloc _ _ none) h (by simp)
  have A3 : W3.heap[w.heap.size + 1 + 1]? = some (.cells #[.pointer (some ⟨b', 0, none⟩), .pointer (some ⟨r', 0, none⟩)] 28 (0, 0)) := by
    have h := alloc_at ((w.alloc (.cells #[.pointer (some ⟨b, 0, none⟩), .pointer (some ⟨r, 0, none⟩)] 28)).alloc (.cells (dcs ⟨kd, onn, hd, .slice s1 s2 s3, tt, nm, mm, nn⟩) 41)) #[.pointer (some ⟨b', 0, none⟩), .pointer (some ⟨r', 0, none⟩)] 28
    rw [World.size_alloc, World.size_alloc] at h
    rw [hW3]; exact h
  have HA1 : Hid (W3.heap[w.heap.size]? = some (.cells #[.pointer (some ⟨b, 0, none⟩), .pointer (some ⟨r, 0, none⟩)] 28 (0, 0))) := A1
  have HA2 : Hid (W3.heap[w.heap.size + 1]? = some (.cells (dcs ⟨kd, onn, hd, .slice s1 s2 s3, tt, nm, mm, nn⟩) 41 (0, 0))) := A2
  have HA3 : Hid (W3.heap[w.heap.size + 1 + 1]? = some (.cells #[.pointer (some ⟨b', 0, none⟩), .pointer (some ⟨r', 0, none⟩)] 28 (0, 0))) := A3
  have z0 : W3.cell? ⟨w.heap.size + 1, 0, none⟩ = some (.int .i64 kd) := block_cell A2 0
  have x0 : W3.cell? ⟨w.heap.size, 0, none⟩ = some (.pointer (some ⟨b, 0, none⟩)) := block_cell A1 0
  have x1 : W3.cell? ⟨w.heap.size, 1, none⟩ = some (.pointer (some ⟨r, 0, none⟩)) := block_cell A1 1
  have HPw : Hid (Pr ok W3 b r v es fs p) := P.keep HG.out
  clear P hb hr hne A1 A2 A3
  obtain ⟨mi, mnm, mpo, mhe⟩ := mm
  obtain ⟨h0, h1, h2, h3, h4, h5, h6, h7⟩ := hd
  have HA2' := HA2.out
  unfold dcs at hW3 HA2' ⊢
  simp only at hW3 HA2' ⊢
  simp only at hk hm
  subst hk
  have HS : Hid (W3.heap[w.heap.size]? = some (.cells #[.pointer (some ⟨b, 0, none⟩), .pointer (some ⟨r, 0, none⟩)] 28 (0, 0)) ∧ W3.heap[w.heap.size + 1]? = some (.cells #[.int .i64 2, .int .i64 onn, .string h0, .int .u8 h1, .int .u8 h2, .int .i64 h3, .int .i64 h4, .int .i64 h5, .int .u16 h6, .bool h7, .slice s1 s2 s3, .int .u8 tt, .string nm, .int .u8 mi, .string mnm, .int .i64 mpo, .int .i64 mhe, .int .i64 nn] 41 (0, 0))) := ⟨HA1.out, HA2'⟩
  obtain ⟨EE, hEE⟩ : ∃ E, E = maE p ⟨mi, mnm, mpo, mhe⟩ := ⟨_, rfl⟩
  have C1 := bmark ok b es p ⟨mi, mnm, mpo, mhe⟩ W3.drew (HPw.out.keep (grown_drew _)).book HN.out.1
  have C2 := fun W (g : W3.grownBy W (some b)) => rmark_any r v p ⟨mi, mnm, mpo, mhe⟩ W (HPw.out.rj.keepR g (fun e => by injection e with e; exact HN.out.2.2 e.symm)) hm HPw.out.mkd
  unfold mv at C1 C2
  rw [← hEE] at C1 C2
  clear hEE
  have HC2 : Hid (∀ W, W3.grownBy W (some b) → Calls Tryz.prog 12 #[.pointer (some ⟨r, 0, none⟩), .agg #[.int .u8 mi, .string mnm, .int .i64 mpo, .int .i64 mhe]] W fun e w' => e = .returned (.int .i64 EE) ∧ RJ w' r v (maP p ⟨mi, mnm, mpo, mhe⟩) ∧ W.grownBy w' (some r)) := C2
  clear C2
  go_enter Tryz.func6, Tryz.ntmps6
  go_upto_region 1 with fail
  rw [← hW3]
  clear hW3
  go_upto_region 7 with fail
  refine wp_region_held_drew (S := fun w' => w'.heap[w.heap.size]? = some (.cells #[.pointer (some ⟨b, 0, none⟩), .pointer (some ⟨r, 0, none⟩)] 28 (0, 0)) ∧ w'.heap[w.heap.size + 1]? = some (.cells #[.int .i64 2, .int .i64 onn, .string h0, .int .u8 h1, .int .u8 h2, .int .i64 h3, .int .i64 h4, .int .i64 h5, .int .u16 h6, .bool h7, .slice s1 s2 s3, .int .u8 tt, .string nm, .int .u8 mi, .string mnm, .int .i64 mpo, .int .i64 mhe, .int .i64 nn] 41 (0, 0))) (by kernel_rfl) ⟨grown_keep (grown_drew _) HS.out.1 (by simp), grown_keep (grown_drew _) HS.out.2 (by simp)⟩ (fun hHeld => ?_)
  refine wpAnyH_take (i := 0) (v := ?_) rfl (by kernel_rfl) (by kernel_rfl) (by kernel_rfl) (fun _ _ _ h => h) (Or.inl ⟨by rfl, ?_⟩) (by assumption) ?_
  rotate_left 1
  · (intro w0 hSw; go_simp; try with_reducible rfl)
  simp only [List.getElem_toArray, List.getElem_cons_zero]
  go_frame
  refine wpAnyH_take (i := 1) (v := ?_) rfl (by kernel_rfl) (by kernel_rfl) (by kernel_rfl) (fun _ _ _ h => h) (Or.inl ⟨by rfl, ?_⟩) (by assumption) ?_
  rotate_left 1
  · (intro w0 hSw; have y := block_cell hSw.1 0; simp only [List.getElem?_toArray, List.getElem?_cons_zero] at y; go_simp; try with_reducible rfl)
  simp only [List.getElem_toArray, List.getElem_cons_zero, List.getElem_cons_succ]
  go_frame
  refine wpAnyH_take (i := 2) (v := ?_) rfl (by kernel_rfl) (by kernel_rfl) (by kernel_rfl) (fun _ _ _ h => h) (Or.inl ⟨by rfl, ?_⟩) (by assumption) ?_
  rotate_left 1
  · (intro w0 hSw; go_simp; try with_reducible rfl)
  simp only [List.getElem_toArray, List.getElem_cons_zero, List.getElem_cons_succ]
  go_frame
  refine wpAnyH_take (i := 3) (v := ?_) rfl (by kernel_rfl) (by kernel_rfl) (by kernel_rfl) (fun _ _ _ h => h) (Or.inl ⟨by rfl, ?_⟩) (by assumption) ?_
  rotate_left 1
  · (intro w0 hSw; have y13 := block_cell hSw.2 13; have y14 := block_cell hSw.2 14; have y15 := block_cell hSw.2 15; have y16 := block_cell hSw.2 16; simp only [List.getElem?_toArray, List.getElem?_cons_zero, List.getElem?_cons_succ] at y13 y14 y15 y16; go_simp; try with_reducible rfl)
  simp only [List.getElem_toArray, List.getElem_cons_zero, List.getElem_cons_succ]
  go_frame
  refine wpAnyH_take (i := 5) (v := ?_) rfl (by kernel_rfl) (by kernel_rfl) (by kernel_rfl) (fun _ _ _ h => h) (Or.inl ⟨by rfl, ?_⟩) (by assumption) ?_
  rotate_left 1
  · (intro w0 hSw; go_simp; try with_reducible rfl)
  simp only [List.getElem_toArray, List.getElem_cons_zero, List.getElem_cons_succ]
  go_frame
  refine wpAnyH_take (i := 6) (v := ?_) rfl (by kernel_rfl) (by kernel_rfl) (by kernel_rfl) (fun _ _ _ h => h) (Or.inl ⟨by rfl, ?_⟩) (by assumption) ?_
  rotate_left 1
  · (intro w0 hSw; have y := block_cell hSw.1 1; simp only [List.getElem?_toArray, List.getElem?_cons_zero, List.getElem?_cons_succ] at y; go_simp; try with_reducible rfl)
  simp only [List.getElem_toArray, List.getElem_cons_zero, List.getElem_cons_succ]
  go_frame
  refine wpAnyH_take (i := 7) (v := ?_) rfl (by kernel_rfl) (by kernel_rfl) (by kernel_rfl) (fun _ _ _ h => h) (Or.inl ⟨by rfl, ?_⟩) (by assumption) ?_
  rotate_left 1
  · (intro w0 hSw; go_simp; try with_reducible rfl)
  simp only [List.getElem_toArray, List.getElem_cons_zero, List.getElem_cons_succ]
  go_frame
  refine wpAnyH_take (i := 8) (v := ?_) rfl (by kernel_rfl) (by kernel_rfl) (by kernel_rfl) (fun _ _ _ h => h) (Or.inl ⟨by rfl, ?_⟩) (by assumption) ?_
  rotate_left 1
  · (intro w0 hSw; have y13 := block_cell hSw.2 13; have y14 := block_cell hSw.2 14; have y15 := block_cell hSw.2 15; have y16 := block_cell hSw.2 16; simp only [List.getElem?_toArray, List.getElem?_cons_zero, List.getElem?_cons_succ] at y13 y14 y15 y16; go_simp; try with_reducible rfl)
  simp only [List.getElem_toArray, List.getElem_cons_zero, List.getElem_cons_succ]
  go_frame
  refine wpAnyH_ready (rs := [4]) (by kernel_rfl) (by simp) ?_
  refine AllReadyH.cons rfl (fun K hK => ?_) AllReadyH.nil
  simp only [List.getElem_toArray, List.getElem_cons_zero, List.getElem_cons_succ]
  go_simp
  go_at_call 11
  refine (C1).mono ?_
  rintro e U1 ⟨rfl, B1, g1⟩
  have G1 : Hid (W3.grownBy U1 (some b)) := grown_own' (grown_drew _) g1
  have K1 : U1.heap[w.heap.size]? = some (.cells #[.pointer (some ⟨b, 0, none⟩), .pointer (some ⟨r, 0, none⟩)] 28 (0, 0)) ∧ U1.heap[w.heap.size + 1]? = some (.cells #[.int .i64 2, .int .i64 onn, .string h0, .int .u8 h1, .int .u8 h2, .int .i64 h3, .int .i64 h4, .int .i64 h5, .int .u16 h6, .bool h7, .slice s1 s2 s3, .int .u8 tt, .string nm, .int .u8 mi, .string mnm, .int .i64 mpo, .int .i64 mhe, .int .i64 nn] 41 (0, 0)) := ⟨grown_keep G1.out HS.out.1 (fun e => by injection e with e; omega), grown_keep G1.out HS.out.2 (fun e => by injection e with e; omega)⟩
  have HB1 : Hid (Book ok U1 b es (maP p ⟨mi, mnm, mpo, mhe⟩)) := B1
  clear B1 g1
  refine hK.out _ _ (K1) (fun hHeld2 => ?_)
  clear hK K
  (try go_frame)
  refine wpAnyH_ready (rs := [9]) (by kernel_rfl) (by simp) ?_
  refine AllReadyH.cons rfl (fun K hK => ?_) AllReadyH.nil
  simp only [List.getElem_toArray, List.getElem_cons_zero, List.getElem_cons_succ]
  go_simp
  go_at_call 12
  refine (HC2.out U1 G1.out).mono ?_
  rintro e U2 ⟨rfl, R2, g2⟩
  have K2 : U2.heap[w.heap.size]? = some (.cells #[.pointer (some ⟨b, 0, none⟩), .pointer (some ⟨r, 0, none⟩)] 28 (0, 0)) ∧ U2.heap[w.heap.size + 1]? = some (.cells #[.int .i64 2, .int .i64 onn, .string h0, .int .u8 h1, .int .u8 h2, .int .i64 h3, .int .i64 h4, .int .i64 h5, .int .u16 h6, .bool h7, .slice s1 s2 s3, .int .u8 tt, .string nm, .int .u8 mi, .string mnm, .int .i64 mpo, .int .i64 mhe, .int .i64 nn] 41 (0, 0)) := ⟨grown_keep g2 K1.1 (fun e => by injection e with e; omega), grown_keep g2 K1.2 (fun e => by injection e with e; omega)⟩
  have HF : Hid (ActPost ok w U2 b r) := ⟨⟨v, es, fs, (maP p ⟨mi, mnm, mpo, mhe⟩), Pr.step HPw.out HN.out.1 HN.out.2.1 HN.out.2.2 HB1.out G1.out R2 g2 (maP_mkd HPw.out.mkd _) (maP_zero' HPw.out.zero _)⟩, both_pre HG.out ⟨U1, G1.out, g2⟩⟩
  clear R2 g2
  refine hK.out _ _ (K2) (fun hHeld2 => ?_)
  clear hK K
  (try go_frame)
  refine wpAnyH_take (i := 10) (v := ?_) rfl (by kernel_rfl) (by kernel_rfl) (by kernel_rfl) (fun _ _ _ h => h) (Or.inl ⟨by rfl, ?_⟩) (by assumption) ?_
  rotate_left 1
  · (intro w0 hSw; go_simp; try with_reducible rfl)
  simp only [List.getElem_toArray, List.getElem_cons_zero, List.getElem_cons_succ]
  go_frame
  refine wpAnyH_take (i := 11) (v := ?_) rfl (by kernel_rfl) (by kernel_rfl) (by kernel_rfl) (fun _ _ _ h => h) (Or.inl ⟨by rfl, ?_⟩) (by assumption) ?_
  rotate_left 1
  · (intro w0 hSw; go_simp; try with_reducible rfl)
  simp only [List.getElem_toArray, List.getElem_cons_zero, List.getElem_cons_succ]
  go_frame
  refine wpAnyH_done (by kernel_rfl) ?_ _
  go_wp2
  go_ret
  exact ⟨rfl, HF.out⟩
set_option maxRecDepth 100000 in
set_option maxHeartbeats 8000000 in
theorem act3 (ok : Nat → Prop) (b r : Nat) (v : Value) (es fs : List Ent) (p : Pl) (b' r' : Nat) (a : Dn) (w : World) (P : Pr ok w b r v es fs p) (hb : ¬ ok b) (hr : ¬ ok r) (hne : ¬ b = r) (hf : ∃ x y z, a.v = .slice x y z) (hk : a.kd = 3) : Calls Tryz.prog 6 #[.agg #[.pointer (some ⟨b, 0, none⟩), .pointer (some ⟨r, 0, none⟩)], .agg (dcs a), .agg #[.pointer (some ⟨b', 0, none⟩), .pointer (some ⟨r', 0, none⟩)]] w fun e w' => e = .returned (.bool true) ∧ ActPost ok w w' b r := by
  have HP : Hid (Pr ok w b r v es fs p) := P
  have HN : Hid (¬ ok b ∧ ¬ ok r ∧ ¬ b = r) := ⟨hb, hr, hne⟩
  have hbs : b < w.heap.size := block_lt P.book.lies.choose_spec.lies
  have hrs : r < w.heap.size := block_lt P.rj.lies
  obtain ⟨kd, onn, hd, vv, tt, nm, mm, nn⟩ := a
  simp only at hf
  obtain ⟨s1, s2, s3, rfl⟩ := hf
  obtain ⟨W3, hW3⟩ : ∃ W3, W3 = ((w.alloc (.cells #[.pointer (some ⟨b, 0, none⟩), .pointer (some ⟨r, 0, none⟩)] 28)).alloc (.cells (dcs ⟨kd, onn, hd, .slice s1 s2 s3, tt, nm, mm, nn⟩) 41)).alloc (.cells #[.pointer (some ⟨b', 0, none⟩), .pointer (some ⟨r', 0, none⟩)] 28) := ⟨_, rfl⟩
  have HG : Hid (w.grownBy W3 none) := by rw [hW3]; exact grown_push (grown_push (World.grownBy_alloc _ _ none) _) _
  have A1 : W3.heap[w.heap.size]? = some (.cells #[.pointer (some ⟨b, 0, none⟩), .pointer (some ⟨r, 0, none⟩)] 28 (0, 0)) := by
    rw [hW3]; exact grown_keep (grown_push (World.grownBy_alloc _ _ none) _) (alloc_at w _ _) (by simp)
  have A2 : W3.heap[w.heap.size + 1]? = some (.cells (dcs ⟨kd, onn, hd, .slice s1 s2 s3, tt, nm, mm, nn⟩) 41 (0, 0)) := by
    have h := alloc_at (w.alloc (.cells #[.pointer (some ⟨b, 0, none⟩), .pointer (some ⟨r, 0, none⟩)] 28)) (dcs ⟨kd, onn, hd, .slice s1 s2 s3, tt, nm, mm, nn⟩) 41
    rw [World.size_alloc] at h
    rw [hW3]; exact grown_keep (World.grownBy_alloc _ _ none) h (by simp)
  have A3 : W3.heap[w.heap.size + 1 + 1]? = some (.cells #[.pointer (some ⟨b', 0, none⟩), .pointer (some ⟨r', 0, none⟩)] 28 (0, 0)) := by
    have h := alloc_at ((w.alloc (.cells #[.pointer (some ⟨b, 0, none⟩), .pointer (some ⟨r, 0, none⟩)] 28)).alloc (.cells (dcs ⟨kd, onn, hd, .slice s1 s2 s3, tt, nm, mm, nn⟩) 41)) #[.pointer (some ⟨b', 0, none⟩), .pointer (some ⟨r', 0, none⟩)] 28
    rw [World.size_alloc, World.size_alloc] at h
    rw [hW3]; exact h
  have HA1 : Hid (W3.heap[w.heap.size]? = some (.cells #[.pointer (some ⟨b, 0, none⟩), .pointer (some ⟨r, 0, none⟩)] 28 (0, 0))) := A1
  have HA2 : Hid (W3.heap[w.heap.size + 1]? = some (.cells (dcs ⟨kd, onn, hd, .slice s1 s2 s3, tt, nm, mm, nn⟩) 41 (0, 0))) := A2
  have HA3 : Hid (W3.heap[w.heap.size + 1 + 1]? = some (.cells #[.pointer (some ⟨b', 0, none⟩), .pointer (some ⟨r', 0, none⟩)] 28 (0, 0))) := A3
  have z0 : W3.cell? ⟨w.heap.size + 1, 0, none⟩ = some (.int .i64 kd) := block_cell A2 0
  have x0 : W3.cell? ⟨w.heap.size, 0, none⟩ = some (.pointer (some ⟨b, 0, none⟩)) := block_cell A1 0
  have x1 : W3.cell? ⟨w.heap.size, 1, none⟩ = some (.pointer (some ⟨r, 0, none⟩)) := block_cell A1 1
  have HPw : Hid (Pr ok W3 b r v es fs p) := P.keep HG.out
  clear P hb hr hne A1 A2 A3
  obtain ⟨mi, mnm, mpo, mhe⟩ := mm
  obtain ⟨h0, h1, h2, h3, h4, h5, h6, h7⟩ := hd
  have HA2' := HA2.out
  unfold dcs at hW3 HA2' ⊢
  simp only at hW3 HA2' ⊢
  simp only at hk
  subst hk
  have HS : Hid (W3.heap[w.heap.size]? = some (.cells #[.pointer (some ⟨b, 0, none⟩), .pointer (some ⟨r, 0, none⟩)] 28 (0, 0)) ∧ W3.heap[w.heap.size + 1]? = some (.cells #[.int .i64 3, .int .i64 onn, .string h0, .int .u8 h1, .int .u8 h2, .int .i64 h3, .int .i64 h4, .int .i64 h5, .int .u16 h6, .bool h7, .slice s1 s2 s3, .int .u8 tt, .string nm, .int .u8 mi, .string mnm, .int .i64 mpo, .int .i64 mhe, .int .i64 nn] 41 (0, 0))) := ⟨HA1.out, HA2'⟩
  obtain ⟨EE, hEE⟩ : ∃ E, E = sealE p es := ⟨_, rfl⟩
  have C1 := bseal ok b es p W3.drew (HPw.out.keep (grown_drew _)).book HN.out.1
  have C2 := fun W (g : W3.grownBy W (some b)) => rseal_any ok r v p fs W (HPw.out.rj.keepR g (fun e => by injection e with e; exact HN.out.2.2 e.symm)) (HPw.out.rl.keepR g (fun k hk e => by injection e with e; exact HN.out.1 (e ▸ (HPw.out.own k hk).1))) (by rw [← hp_len HP.out.same]; exact HP.out.book.lies.len) (HPw.out.good.keepR g (fun k hk e => by injection e with e; exact HN.out.1 (e ▸ hk))) (parts_of HP.out)
  rw [← (hp_seal HP.out.same p).1, ← (hp_seal HP.out.same p).2] at C2
  rw [← hEE] at C1 C2
  clear hEE
  have HC2 : Hid (∀ W, W3.grownBy W (some b) → Calls Tryz.prog 14 #[.pointer (some ⟨r, 0, none⟩)] W fun e w' => e = .returned (.int .i64 EE) ∧ RJ w' r v (sealP p es) ∧ W.grownBy w' (some r)) := C2
  clear C2
  go_enter Tryz.func6, Tryz.ntmps6
  go_upto_region 1 with fail
  rw [← hW3]
  clear hW3
  go_upto_region 9 with fail
  refine wp_region_held_drew (S := fun w' => w'.heap[w.heap.size]? = some (.cells #[.pointer (some ⟨b, 0, none⟩), .pointer (some ⟨r, 0, none⟩)] 28 (0, 0)) ∧ w'.heap[w.heap.size + 1]? = some (.cells #[.int .i64 3, .int .i64 onn, .string h0, .int .u8 h1, .int .u8 h2, .int .i64 h3, .int .i64 h4, .int .i64 h5, .int .u16 h6, .bool h7, .slice s1 s2 s3, .int .u8 tt, .string nm, .int .u8 mi, .string mnm, .int .i64 mpo, .int .i64 mhe, .int .i64 nn] 41 (0, 0))) (by kernel_rfl) ⟨grown_keep (grown_drew _) HS.out.1 (by simp), grown_keep (grown_drew _) HS.out.2 (by simp)⟩ (fun hHeld => ?_)
  refine wpAnyH_take (i := 0) (v := ?_) rfl (by kernel_rfl) (by kernel_rfl) (by kernel_rfl) (fun _ _ _ h => h) (Or.inl ⟨by rfl, ?_⟩) (by assumption) ?_
  rotate_left 1
  · (intro w0 hSw; go_simp; try with_reducible rfl)
  simp only [List.getElem_toArray, List.getElem_cons_zero]
  go_frame
  refine wpAnyH_take (i := 1) (v := ?_) rfl (by kernel_rfl) (by kernel_rfl) (by kernel_rfl) (fun _ _ _ h => h) (Or.inl ⟨by rfl, ?_⟩) (by assumption) ?_
  rotate_left 1
  · (intro w0 hSw; have y := block_cell hSw.1 0; simp only [List.getElem?_toArray, List.getElem?_cons_zero] at y; go_simp; try with_reducible rfl)
  simp only [List.getElem_toArray, List.getElem_cons_zero, List.getElem_cons_succ]
  go_frame
  refine wpAnyH_take (i := 3) (v := ?_) rfl (by kernel_rfl) (by kernel_rfl) (by kernel_rfl) (fun _ _ _ h => h) (Or.inl ⟨by rfl, ?_⟩) (by assumption) ?_
  rotate_left 1
  · (intro w0 hSw; go_simp; try with_reducible rfl)
  simp only [List.getElem_toArray, List.getElem_cons_zero, List.getElem_cons_succ]
  go_frame
  refine wpAnyH_take (i := 4) (v := ?_) rfl (by kernel_rfl) (by kernel_rfl) (by kernel_rfl) (fun _ _ _ h => h) (Or.inl ⟨by rfl, ?_⟩) (by assumption) ?_
  rotate_left 1
  · (intro w0 hSw; have y := block_cell hSw.1 1; simp only [List.getElem?_toArray, List.getElem?_cons_zero, List.getElem?_cons_succ] at y; go_simp; try with_reducible rfl)
  simp only [List.getElem_toArray, List.getElem_cons_zero, List.getElem_cons_succ]
  go_frame
  refine wpAnyH_ready (rs := [2]) (by kernel_rfl) (by simp) ?_
  refine AllReadyH.cons rfl (fun K hK => ?_) AllReadyH.nil
  simp only [List.getElem_toArray, List.getElem_cons_zero, List.getElem_cons_succ]
  go_simp
  go_at_call 13
  refine (C1).mono ?_
  rintro e U1 ⟨rfl, B1, g1⟩
  have G1 : Hid (W3.grownBy U1 (some b)) := grown_own' (grown_drew _) g1
  have K1 : U1.heap[w.heap.size]? = some (.cells #[.pointer (some ⟨b, 0, none⟩), .pointer (some ⟨r, 0, none⟩)] 28 (0, 0)) ∧ U1.heap[w.heap.size + 1]? = some (.cells #[.int .i64 3, .int .i64 onn, .string h0, .int .u8 h1, .int .u8 h2, .int .i64 h3, .int .i64 h4, .int .i64 h5, .int .u16 h6, .bool h7, .slice s1 s2 s3, .int .u8 tt, .string nm, .int .u8 mi, .string mnm, .int .i64 mpo, .int .i64 mhe, .int .i64 nn] 41 (0, 0)) := ⟨grown_keep G1.out HS.out.1 (fun e => by injection e with e; omega), grown_keep G1.out HS.out.2 (fun e => by injection e with e; omega)⟩
  have HB1 : Hid (Book ok U1 b es (sealP p es)) := B1
  clear B1 g1
  refine hK.out _ _ (K1) (fun hHeld2 => ?_)
  clear hK K
  (try go_frame)
  refine wpAnyH_ready (rs := [5]) (by kernel_rfl) (by simp) ?_
  refine AllReadyH.cons rfl (fun K hK => ?_) AllReadyH.nil
  simp only [List.getElem_toArray, List.getElem_cons_zero, List.getElem_cons_succ]
  go_simp
  go_at_call 14
  refine (HC2.out U1 G1.out).mono ?_
  rintro e U2 ⟨rfl, R2, g2⟩
  have K2 : U2.heap[w.heap.size]? = some (.cells #[.pointer (some ⟨b, 0, none⟩), .pointer (some ⟨r, 0, none⟩)] 28 (0, 0)) ∧ U2.heap[w.heap.size + 1]? = some (.cells #[.int .i64 3, .int .i64 onn, .string h0, .int .u8 h1, .int .u8 h2, .int .i64 h3, .int .i64 h4, .int .i64 h5, .int .u16 h6, .bool h7, .slice s1 s2 s3, .int .u8 tt, .string nm, .int .u8 mi, .string mnm, .int .i64 mpo, .int .i64 mhe, .int .i64 nn] 41 (0, 0)) := ⟨grown_keep g2 K1.1 (fun e => by injection e with e; omega), grown_keep g2 K1.2 (fun e => by injection e with e; omega)⟩
  have HF : Hid (ActPost ok w U2 b r) := ⟨⟨v, es, fs, (sealP p es), Pr.step HPw.out HN.out.1 HN.out.2.1 HN.out.2.2 HB1.out G1.out R2 g2 (sealP_mkd HPw.out.mkd _) (sealP_zero' HPw.out.zero _)⟩, both_pre HG.out ⟨U1, G1.out, g2⟩⟩
  clear R2 g2
  refine hK.out _ _ (K2) (fun hHeld2 => ?_)
  clear hK K
  (try go_frame)
  refine wpAnyH_take (i := 6) (v := ?_) rfl (by kernel_rfl) (by kernel_rfl) (by kernel_rfl) (fun _ _ _ h => h) (Or.inl ⟨by rfl, ?_⟩) (by assumption) ?_
  rotate_left 1
  · (intro w0 hSw; go_simp; try with_reducible rfl)
  simp only [List.getElem_toArray, List.getElem_cons_zero, List.getElem_cons_succ]
  go_frame
  refine wpAnyH_take (i := 7) (v := ?_) rfl (by kernel_rfl) (by kernel_rfl) (by kernel_rfl) (fun _ _ _ h => h) (Or.inl ⟨by rfl, ?_⟩) (by assumption) ?_
  rotate_left 1
  · (intro w0 hSw; go_simp; try with_reducible rfl)
  simp only [List.getElem_toArray, List.getElem_cons_zero, List.getElem_cons_succ]
  go_frame
  refine wpAnyH_done (by kernel_rfl) ?_ _
  go_wp2
  go_ret
  exact ⟨rfl, HF.out⟩
end Go.Proofs.YtiikbhejnblhlaaGreat
namespace Go.Proofs.YtiikbhejnblhlaaGreat
open Go.RowKit

set_option maxRecDepth 100000 in
set_option maxHeartbeats 8000000 in
theorem act6 (ok : Nat → Prop) (b r : Nat) (v : Value) (es fs : List Ent) (p : Pl) (b' r' : Nat) (a : Dn) (w : World) (P : Pr ok w b r v es fs p) (hb : ¬ ok b) (hr : ¬ ok r) (hne : ¬ b = r) (hf : ∃ x y z, a.v = .slice x y z) (hk : a.kd = 6) : Calls Tryz.prog 6 #[.agg #[.pointer (some ⟨b, 0, none⟩), .pointer (some ⟨r, 0, none⟩)], .agg (dcs a), .agg #[.pointer (some ⟨b', 0, none⟩), .pointer (some ⟨r', 0, none⟩)]] w fun e w' => e = .returned (.bool true) ∧ ActPost ok w w' b r := by
  have HP : Hid (Pr ok w b r v es fs p) := P
  have HN : Hid (¬ ok b ∧ ¬ ok r ∧ ¬ b = r) := ⟨hb, hr, hne⟩
  have hbs : b < w.heap.size := block_lt P.book.lies.choose_spec.lies
  have hrs : r < w.heap.size := block_lt P.rj.lies
  obtain ⟨kd, onn, hd, vv, tt, nm, mm, nn⟩ := a
  simp only at hf
  obtain ⟨s1, s2, s3, rfl⟩ := hf
  obtain ⟨W3, hW3⟩ : ∃ W3, W3 = ((w.alloc (.cells #[.pointer (some ⟨b, 0, none⟩), .pointer (some ⟨r, 0, none⟩)] 28)).alloc (.cells (dcs ⟨kd, onn, hd, .slice s1 s2 s3, tt, nm, mm, nn⟩) 41)).alloc (.cells #[.pointer (some ⟨b', 0, none⟩), .pointer (some ⟨r', 0, none⟩)] 28) := ⟨_, rfl⟩
  have HG : Hid (w.grownBy W3 none) := by rw [hW3]; exact grown_push (grown_push (World.grownBy_alloc _ _ none) _) _
  have A1 : W3.heap[w.heap.size]? = some (.cells #[.pointer (some ⟨b, 0, none⟩), .pointer (some ⟨r, 0, none⟩)] 28 (0, 0)) := by
    rw [hW3]; exact grown_keep (grown_push (World.grownBy_alloc _ _ none) _) (alloc_at w _ _) (by simp)
  have A2 : W3.heap[w.heap.size + 1]? = some (.cells (dcs ⟨kd, onn, hd, .slice s1 s2 s3, tt, nm, mm, nn⟩) 41 (0, 0)) := by
    have h := alloc_at (w.alloc (.cells #[.pointer (some ⟨b, 0, none⟩), .pointer (some ⟨r, 0, none⟩)] 28)) (dcs ⟨kd, onn, hd, .slice s1 s2 s3, tt, nm, mm, nn⟩) 41
    rw [World.size_alloc] at h
    rw [hW3]; exact grown_keep (World.grownBy_alloc _ _ none) h (by simp)
  have A3 : W3.heap[w.heap.size + 1 + 1]? = some (.cells #[.pointer (some ⟨b', 0, none⟩), .pointer (some ⟨r', 0, none⟩)] 28 (0, 0)) := by
    have h := alloc_at ((w.alloc (.cells #[.pointer (some ⟨b, 0, none⟩), .pointer (some ⟨r, 0, none⟩)] 28)).alloc (.cells (dcs ⟨kd, onn, hd, .slice s1 s2 s3, tt, nm, mm, nn⟩) 41)) #[.pointer (some ⟨b', 0, none⟩), .pointer (some ⟨r', 0, none⟩)] 28
    rw [World.size_alloc, World.size_alloc] at h
    rw [hW3]; exact h
  have HA1 : Hid (W3.heap[w.heap.size]? = some (.cells #[.pointer (some ⟨b, 0, none⟩), .pointer (some ⟨r, 0, none⟩)] 28 (0, 0))) := A1
  have HA2 : Hid (W3.heap[w.heap.size + 1]? = some (.cells (dcs ⟨kd, onn, hd, .slice s1 s2 s3, tt, nm, mm, nn⟩) 41 (0, 0))) := A2
  have HA3 : Hid (W3.heap[w.heap.size + 1 + 1]? = some (.cells #[.pointer (some ⟨b', 0, none⟩), .pointer (some ⟨r', 0, none⟩)] 28 (0, 0))) := A3
  have z0 : W3.cell? ⟨w.heap.size + 1, 0, none⟩ = some (.int .i64 kd) := block_cell A2 0
  have x0 : W3.cell? ⟨w.heap.size, 0, none⟩ = some (.pointer (some ⟨b, 0, none⟩)) := block_cell A1 0
  have x1 : W3.cell? ⟨w.heap.size, 1, none⟩ = some (.pointer (some ⟨r, 0, none⟩)) := block_cell A1 1
  have HPw : Hid (Pr ok W3 b r v es fs p) := P.keep HG.out
  clear P hb hr hne A1 A2 A3
  obtain ⟨mi, mnm, mpo, mhe⟩ := mm
  obtain ⟨h0, h1, h2, h3, h4, h5, h6, h7⟩ := hd
  have HA2' := HA2.out
  unfold dcs at hW3 HA2' ⊢
  simp only at hW3 HA2' ⊢
  simp only at hk
  subst hk
  have C1 := pcards_any ok b r v es fs p nn W3 HPw.out
  have z17 : W3.cell? ⟨w.heap.size + 1, 17, none⟩ = some (.int .i64 nn) := block_cell HA2' 17
  go_enter Tryz.func6, Tryz.ntmps6
  go_upto_region 1 with fail
  rw [← hW3]
  clear hW3
  go_wp2_with fail
  refine C1.mono ?_
  rintro e U ⟨rfl, g1⟩
  have HG1 : Hid (W3.grownBy U none) := g1
  have x0' := g1.cell x0 (by simp)
  have x1' := g1.cell x1 (by simp)
  have C2 := pcards_any ok b r v es fs p 0 U (HPw.out.keep g1)
  clear g1 C1 x0 x1 z0 z17
  go_wp2_with fail
  refine C2.mono ?_
  rintro e U2 ⟨rfl, g2⟩
  have HF : Hid (ActPost ok w U2 b r) := ⟨⟨v, es, fs, p, (HPw.out.keep HG1.out).keep g2⟩, both_none b r (grown_trans HG.out (grown_trans HG1.out g2))⟩
  clear g2 C2
  go_wp2
  go_ret
  exact ⟨rfl, HF.out⟩
end Go.Proofs.YtiikbhejnblhlaaGreat
namespace Go.Proofs.YtiikbhejnblhlaaGreat
open Go.RowKit

set_option maxRecDepth 100000 in
set_option maxHeartbeats 8000000 in
theorem act4 (ok : Nat → Prop) (b r : Nat) (v : Value) (es fs : List Ent) (p : Pl) (b' r' : Nat) (a : Dn) (w : World) (P : Pr ok w b r v es fs p) (hb : ¬ ok b) (hr : ¬ ok r) (hne : ¬ b = r) (hf : ∃ x y z, a.v = .slice x y z) (hk : a.kd = 4) : Calls Tryz.prog 6 #[.agg #[.pointer (some ⟨b, 0, none⟩), .pointer (some ⟨r, 0, none⟩)], .agg (dcs a), .agg #[.pointer (some ⟨b', 0, none⟩), .pointer (some ⟨r', 0, none⟩)]] w fun e w' => e = .returned (.bool true) ∧ ActPost ok w w' b r := by
  have HP : Hid (Pr ok w b r v es fs p) := P
  have HN : Hid (¬ ok b ∧ ¬ ok r ∧ ¬ b = r) := ⟨hb, hr, hne⟩
  have hbs : b < w.heap.size := block_lt P.book.lies.choose_spec.lies
  have hrs : r < w.heap.size := block_lt P.rj.lies
  obtain ⟨kd, onn, hd, vv, tt, nm, mm, nn⟩ := a
  simp only at hf
  obtain ⟨s1, s2, s3, rfl⟩ := hf
  obtain ⟨W3, hW3⟩ : ∃ W3, W3 = ((w.alloc (.cells #[.pointer (some ⟨b, 0, none⟩), .pointer (some ⟨r, 0, none⟩)] 28)).alloc (.cells (dcs ⟨kd, onn, hd, .slice s1 s2 s3, tt, nm, mm, nn⟩) 41)).alloc (.cells #[.pointer (some ⟨b', 0, none⟩), .pointer (some ⟨r', 0, none⟩)] 28) := ⟨_, rfl⟩
  have HG : Hid (w.grownBy W3 none) := by rw [hW3]; exact grown_push (grown_push (World.grownBy_alloc _ _ none) _) _
  have A1 : W3.heap[w.heap.size]? = some (.cells #[.pointer (some ⟨b, 0, none⟩), .pointer (some ⟨r, 0, none⟩)] 28 (0, 0)) := by
    rw [hW3]; exact grown_keep (grown_push (World.grownBy_alloc _ _ none) _) (alloc_at w _ _) (by simp)
  have A2 : W3.heap[w.heap.size + 1]? = some (.cells (dcs ⟨kd, onn, hd, .slice s1 s2 s3, tt, nm, mm, nn⟩) 41 (0, 0)) := by
    have h := alloc_at (w.alloc (.cells #[.pointer (some ⟨b, 0, none⟩), .pointer (some ⟨r, 0, none⟩)] 28)) (dcs ⟨kd, onn, hd, .slice s1 s2 s3, tt, nm, mm, nn⟩) 41
    rw [World.size_alloc] at h
    rw [hW3]; exact grown_keep (World.grownBy_alloc _ _ none) h (by simp)
  have A3 : W3.heap[w.heap.size + 1 + 1]? = some (.cells #[.pointer (some ⟨b', 0, none⟩), .pointer (some ⟨r', 0, none⟩)] 28 (0, 0)) := by
    have h := alloc_at ((w.alloc (.cells #[.pointer (some ⟨b, 0, none⟩), .pointer (some ⟨r, 0, none⟩)] 28)).alloc (.cells (dcs ⟨kd, onn, hd, .slice s1 s2 s3, tt, nm, mm, nn⟩) 41)) #[.pointer (some ⟨b', 0, none⟩), .pointer (some ⟨r', 0, none⟩)] 28
    rw [World.size_alloc, World.size_alloc] at h
    rw [hW3]; exact h
  have HA1 : Hid (W3.heap[w.heap.size]? = some (.cells #[.pointer (some ⟨b, 0, none⟩), .pointer (some ⟨r, 0, none⟩)] 28 (0, 0))) := A1
  have HA2 : Hid (W3.heap[w.heap.size + 1]? = some (.cells (dcs ⟨kd, onn, hd, .slice s1 s2 s3, tt, nm, mm, nn⟩) 41 (0, 0))) := A2
  have HA3 : Hid (W3.heap[w.heap.size + 1 + 1]? = some (.cells #[.pointer (some ⟨b', 0, none⟩), .pointer (some ⟨r', 0, none⟩)] 28 (0, 0))) := A3
  have z0 : W3.cell? ⟨w.heap.size + 1, 0, none⟩ = some (.int .i64 kd) := block_cell A2 0
  have x0 : W3.cell? ⟨w.heap.size, 0, none⟩ = some (.pointer (some ⟨b, 0, none⟩)) := block_cell A1 0
  have x1 : W3.cell? ⟨w.heap.size, 1, none⟩ = some (.pointer (some ⟨r, 0, none⟩)) := block_cell A1 1
  have HPw : Hid (Pr ok W3 b r v es fs p) := P.keep HG.out
  clear P hb hr hne A1 A2 A3
  obtain ⟨mi, mnm, mpo, mhe⟩ := mm
  obtain ⟨h0, h1, h2, h3, h4, h5, h6, h7⟩ := hd
  have HA2' := HA2.out
  unfold dcs at hW3 HA2' ⊢
  simp only at hW3 HA2' ⊢
  simp only at hk
  subst hk
  have C1 := pfour_any ok b r v es fs p ⟨4, onn, ⟨h0, h1, h2, h3, h4, h5, h6, h7⟩, .slice s1 s2 s3, tt, nm, ⟨mi, mnm, mpo, mhe⟩, nn⟩ W3 HPw.out rfl
  unfold dcs at C1
  simp only at C1
  go_enter Tryz.func6, Tryz.ntmps6
  go_upto_region 1 with fail
  rw [← hW3]
  clear hW3
  clear x0 x1
  have x0 : W3.cell? ⟨w.heap.size, 0, none⟩ = some (.pointer (some ⟨b, 0, none⟩)) := block_cell HA1.out 0
  have x1 : W3.cell? ⟨w.heap.size, 1, none⟩ = some (.pointer (some ⟨r, 0, none⟩)) := block_cell HA1.out 1
  have RG : W3.rangeAt (w.heap.size + 1) 0 [.int .i64 4, .int .i64 onn, .string h0, .int .u8 h1, .int .u8 h2, .int .i64 h3, .int .i64 h4, .int .i64 h5, .int .u16 h6, .bool h7, .slice s1 s2 s3, .int .u8 tt, .string nm, .int .u8 mi, .string mnm, .int .i64 mpo, .int .i64 mhe, .int .i64 nn] := fun j u hu => by rw [block_cell HA2', Nat.zero_add, List.getElem?_toArray]; exact hu
  have HRG : Hid (W3.rangeAt (w.heap.size + 1) 0 [.int .i64 4, .int .i64 onn, .string h0, .int .u8 h1, .int .u8 h2, .int .i64 h3, .int .i64 h4, .int .i64 h5, .int .u16 h6, .bool h7, .slice s1 s2 s3, .int .u8 tt, .string nm, .int .u8 mi, .string mnm, .int .i64 mpo, .int .i64 mhe, .int .i64 nn]) := RG
  clear RG HA2'
  go_wp2_with (refine wpList_load_mid (by rfl) 41 (.tmp 4) rfl (w.heap.size + 1) 0 rfl _ _ HRG.out Tryz.underlying41 rfl (by kernel_rfl) ?_)
  refine C1.mono ?_
  rintro e U ⟨rfl, g1⟩
  have HF : Hid (ActPost ok w U b r) := ⟨⟨v, es, fs, p, HPw.out.keep g1⟩, both_none b r (grown_trans HG.out g1)⟩
  clear g1 C1
  go_wp2
  go_ret
  exact ⟨rfl, HF.out⟩
set_option maxRecDepth 100000 in
set_option maxHeartbeats 8000000 in
theorem act5 (ok : Nat → Prop) (b r : Nat) (v : Value) (es fs : List Ent) (p : Pl) (b' r' : Nat) (a : Dn) (w : World) (P : Pr ok w b r v es fs p) (hb : ¬ ok b) (hr : ¬ ok r) (hne : ¬ b = r) (hf : ∃ x y z, a.v = .slice x y z) (hk : a.kd = 5) : Calls Tryz.prog 6 #[.agg #[.pointer (some ⟨b, 0, none⟩), .pointer (some ⟨r, 0, none⟩)], .agg (dcs a), .agg #[.pointer (some ⟨b', 0, none⟩), .pointer (some ⟨r', 0, none⟩)]] w fun e w' => e = .returned (.bool true) ∧ ActPost ok w w' b r := by
  have HP : Hid (Pr ok w b r v es fs p) := P
  have HN : Hid (¬ ok b ∧ ¬ ok r ∧ ¬ b = r) := ⟨hb, hr, hne⟩
  have hbs : b < w.heap.size := block_lt P.book.lies.choose_spec.lies
  have hrs : r < w.heap.size := block_lt P.rj.lies
  obtain ⟨kd, onn, hd, vv, tt, nm, mm, nn⟩ := a
  simp only at hf
  obtain ⟨s1, s2, s3, rfl⟩ := hf
  obtain ⟨W3, hW3⟩ : ∃ W3, W3 = ((w.alloc (.cells #[.pointer (some ⟨b, 0, none⟩), .pointer (some ⟨r, 0, none⟩)] 28)).alloc (.cells (dcs ⟨kd, onn, hd, .slice s1 s2 s3, tt, nm, mm, nn⟩) 41)).alloc (.cells #[.pointer (some ⟨b', 0, none⟩), .pointer (some ⟨r', 0, none⟩)] 28) := ⟨_, rfl⟩
  have HG : Hid (w.grownBy W3 none) := by rw [hW3]; exact grown_push (grown_push (World.grownBy_alloc _ _ none) _) _
  have A1 : W3.heap[w.heap.size]? = some (.cells #[.pointer (some ⟨b, 0, none⟩), .pointer (some ⟨r, 0, none⟩)] 28 (0, 0)) := by
    rw [hW3]; exact grown_keep (grown_push (World.grownBy_alloc _ _ none) _) (alloc_at w _ _) (by simp)
  have A2 : W3.heap[w.heap.size + 1]? = some (.cells (dcs ⟨kd, onn, hd, .slice s1 s2 s3, tt, nm, mm, nn⟩) 41 (0, 0)) := by
    have h := alloc_at (w.alloc (.cells #[.pointer (some ⟨b, 0, none⟩), .pointer (some ⟨r, 0, none⟩)] 28)) (dcs ⟨kd, onn, hd, .slice s1 s2 s3, tt, nm, mm, nn⟩) 41
    rw [World.size_alloc] at h
    rw [hW3]; exact grown_keep (World.grownBy_alloc _ _ none) h (by simp)
  have A3 : W3.heap[w.heap.size + 1 + 1]? = some (.cells #[.pointer (some ⟨b', 0, none⟩), .pointer (some ⟨r', 0, none⟩)] 28 (0, 0)) := by
    have h := alloc_at ((w.alloc (.cells #[.pointer (some ⟨b, 0, none⟩), .pointer (some ⟨r, 0, none⟩)] 28)).alloc (.cells (dcs ⟨kd, onn, hd, .slice s1 s2 s3, tt, nm, mm, nn⟩) 41)) #[.pointer (some ⟨b', 0, none⟩), .pointer (some ⟨r', 0, none⟩)] 28
    rw [World.size_alloc, World.size_alloc] at h
    rw [hW3]; exact h
  have HA1 : Hid (W3.heap[w.heap.size]? = some (.cells #[.pointer (some ⟨b, 0, none⟩), .pointer (some ⟨r, 0, none⟩)] 28 (0, 0))) := A1
  have HA2 : Hid (W3.heap[w.heap.size + 1]? = some (.cells (dcs ⟨kd, onn, hd, .slice s1 s2 s3, tt, nm, mm, nn⟩) 41 (0, 0))) := A2
  have HA3 : Hid (W3.heap[w.heap.size + 1 + 1]? = some (.cells #[.pointer (some ⟨b', 0, none⟩), .pointer (some ⟨r', 0, none⟩)] 28 (0, 0))) := A3
  have z0 : W3.cell? ⟨w.heap.size + 1, 0, none⟩ = some (.int .i64 kd) := block_cell A2 0
  have x0 : W3.cell? ⟨w.heap.size, 0, none⟩ = some (.pointer (some ⟨b, 0, none⟩)) := block_cell A1 0
  have x1 : W3.cell? ⟨w.heap.size, 1, none⟩ = some (.pointer (some ⟨r, 0, none⟩)) := block_cell A1 1
  have HPw : Hid (Pr ok W3 b r v es fs p) := P.keep HG.out
  clear P hb hr hne A1 A2 A3
  obtain ⟨mi, mnm, mpo, mhe⟩ := mm
  obtain ⟨h0, h1, h2, h3, h4, h5, h6, h7⟩ := hd
  have HA2' := HA2.out
  unfold dcs at hW3 HA2' ⊢
  simp only at hW3 HA2' ⊢
  simp only at hk
  subst hk
  have C1 := pfive_any ok b r v es fs p ⟨5, onn, ⟨h0, h1, h2, h3, h4, h5, h6, h7⟩, .slice s1 s2 s3, tt, nm, ⟨mi, mnm, mpo, mhe⟩, nn⟩ W3 HPw.out rfl
  unfold dcs at C1
  simp only at C1
  go_enter Tryz.func6, Tryz.ntmps6
  go_upto_region 1 with fail
  rw [← hW3]
  clear hW3
  clear x0 x1
  have x0 : W3.cell? ⟨w.heap.size, 0, none⟩ = some (.pointer (some ⟨b, 0, none⟩)) := block_cell HA1.out 0
  have x1 : W3.cell? ⟨w.heap.size, 1, none⟩ = some (.pointer (some ⟨r, 0, none⟩)) := block_cell HA1.out 1
  have RG : W3.rangeAt (w.heap.size + 1) 0 [.int .i64 5, .int .i64 onn, .string h0, .int .u8 h1, .int .u8 h2, .int .i64 h3, .int .i64 h4, .int .i64 h5, .int .u16 h6, .bool h7, .slice s1 s2 s3, .int .u8 tt, .string nm, .int .u8 mi, .string mnm, .int .i64 mpo, .int .i64 mhe, .int .i64 nn] := fun j u hu => by rw [block_cell HA2', Nat.zero_add, List.getElem?_toArray]; exact hu
  have HRG : Hid (W3.rangeAt (w.heap.size + 1) 0 [.int .i64 5, .int .i64 onn, .string h0, .int .u8 h1, .int .u8 h2, .int .i64 h3, .int .i64 h4, .int .i64 h5, .int .u16 h6, .bool h7, .slice s1 s2 s3, .int .u8 tt, .string nm, .int .u8 mi, .string mnm, .int .i64 mpo, .int .i64 mhe, .int .i64 nn]) := RG
  clear RG HA2'
  go_wp2_with (refine wpList_load_mid (by rfl) 41 (.tmp 4) rfl (w.heap.size + 1) 0 rfl _ _ HRG.out Tryz.underlying41 rfl (by kernel_rfl) ?_)
  refine C1.mono ?_
  rintro e U ⟨rfl, g1⟩
  have HF : Hid (ActPost ok w U b r) := ⟨⟨v, es, fs, p, HPw.out.keep g1⟩, both_none b r (grown_trans HG.out g1)⟩
  clear g1 C1
  go_wp2
  go_ret
  exact ⟨rfl, HF.out⟩
set_option maxRecDepth 100000 in
set_option maxHeartbeats 8000000 in
theorem act7 (ok : Nat → Prop) (b r : Nat) (v : Value) (es fs : List Ent) (p : Pl) (b' r' : Nat) (a : Dn) (w : World) (P : Pr ok w b r v es fs p) (hb : ¬ ok b) (hr : ¬ ok r) (hne : ¬ b = r) (hf : ∃ x y z, a.v = .slice x y z) (hk : a.kd = 7) : Calls Tryz.prog 6 #[.agg #[.pointer (some ⟨b, 0, none⟩), .pointer (some ⟨r, 0, none⟩)], .agg (dcs a), .agg #[.pointer (some ⟨b', 0, none⟩), .pointer (some ⟨r', 0, none⟩)]] w fun e w' => e = .returned (.bool true) ∧ ActPost ok w w' b r := by
  have HP : Hid (Pr ok w b r v es fs p) := P
  have HN : Hid (¬ ok b ∧ ¬ ok r ∧ ¬ b = r) := ⟨hb, hr, hne⟩
  have hbs : b < w.heap.size := block_lt P.book.lies.choose_spec.lies
  have hrs : r < w.heap.size := block_lt P.rj.lies
  obtain ⟨kd, onn, hd, vv, tt, nm, mm, nn⟩ := a
  simp only at hf
  obtain ⟨s1, s2, s3, rfl⟩ := hf
  obtain ⟨W3, hW3⟩ : ∃ W3, W3 = ((w.alloc (.cells #[.pointer (some ⟨b, 0, none⟩), .pointer (some ⟨r, 0, none⟩)] 28)).alloc (.cells (dcs ⟨kd, onn, hd, .slice s1 s2 s3, tt, nm, mm, nn⟩) 41)).alloc (.cells #[.pointer (some ⟨b', 0, none⟩), .pointer (some ⟨r', 0, none⟩)] 28) := ⟨_, rfl⟩
  have HG : Hid (w.grownBy W3 none) := by rw [hW3]; exact grown_push (grown_push (World.grownBy_alloc _ _ none) _) _
  have A1 : W3.heap[w.heap.size]? = some (.cells #[.pointer (some ⟨b, 0, none⟩), .pointer (some ⟨r, 0, none⟩)] 28 (0, 0)) := by
    rw [hW3]; exact grown_keep (grown_push (World.grownBy_alloc _ _ none) _) (alloc_at w _ _) (by simp)
  have A2 : W3.heap[w.heap.size + 1]? = some (.cells (dcs ⟨kd, onn, hd, .slice s1 s2 s3, tt, nm, mm, nn⟩) 41 (0, 0)) := by
    have h := alloc_at (w.alloc (.cells #[.pointer (some ⟨b, 0, none⟩), .pointer (some ⟨r, 0, none⟩)] 28)) (dcs ⟨kd, onn, hd, .slice s1 s2 s3, tt, nm, mm, nn⟩) 41
    rw [World.size_alloc] at h
    rw [hW3]; exact grown_keep (World.grownBy_alloc _ _ none) h (by simp)
  have A3 : W3.heap[w.heap.size + 1 + 1]? = some (.cells #[.pointer (some ⟨b', 0, none⟩), .pointer (some ⟨r', 0, none⟩)] 28 (0, 0)) := by
    have h := alloc_at ((w.alloc (.cells #[.pointer (some ⟨b, 0, none⟩), .pointer (some ⟨r, 0, none⟩)] 28)).alloc (.cells (dcs ⟨kd, onn, hd, .slice s1 s2 s3, tt, nm, mm, nn⟩) 41)) #[.pointer (some ⟨b', 0, none⟩), .pointer (some ⟨r', 0, none⟩)] 28
    rw [World.size_alloc, World.size_alloc] at h
    rw [hW3]; exact h
  have HA1 : Hid (W3.heap[w.heap.size]? = some (.cells #[.pointer (some ⟨b, 0, none⟩), .pointer (some ⟨r, 0, none⟩)] 28 (0, 0))) := A1
  have HA2 : Hid (W3.heap[w.heap.size + 1]? = some (.cells (dcs ⟨kd, onn, hd, .slice s1 s2 s3, tt, nm, mm, nn⟩) 41 (0, 0))) := A2
  have HA3 : Hid (W3.heap[w.heap.size + 1 + 1]? = some (.cells #[.pointer (some ⟨b', 0, none⟩), .pointer (some ⟨r', 0, none⟩)] 28 (0, 0))) := A3
  have z0 : W3.cell? ⟨w.heap.size + 1, 0, none⟩ = some (.int .i64 kd) := block_cell A2 0
  have x0 : W3.cell? ⟨w.heap.size, 0, none⟩ = some (.pointer (some ⟨b, 0, none⟩)) := block_cell A1 0
  have x1 : W3.cell? ⟨w.heap.size, 1, none⟩ = some (.pointer (some ⟨r, 0, none⟩)) := block_cell A1 1
  have HPw : Hid (Pr ok W3 b r v es fs p) := P.keep HG.out
  clear P hb hr hne A1 A2 A3
  obtain ⟨mi, mnm, mpo, mhe⟩ := mm
  obtain ⟨h0, h1, h2, h3, h4, h5, h6, h7⟩ := hd
  have HA2' := HA2.out
  unfold dcs at hW3 HA2' ⊢
  simp only at hW3 HA2' ⊢
  simp only at hk
  subst hk
  have C1 := pseven_any ok b r v es fs p ⟨7, onn, ⟨h0, h1, h2, h3, h4, h5, h6, h7⟩, .slice s1 s2 s3, tt, nm, ⟨mi, mnm, mpo, mhe⟩, nn⟩ W3 HPw.out (show ¬ (7 : Int) = 4 by decide) (show ¬ (7 : Int) = 5 by decide) (show ¬ (7 : Int) = 8 by decide)
  unfold dcs at C1
  simp only at C1
  go_enter Tryz.func6, Tryz.ntmps6
  go_upto_region 1 with fail
  rw [← hW3]
  clear hW3
  clear x0 x1
  have x0 : W3.cell? ⟨w.heap.size, 0, none⟩ = some (.pointer (some ⟨b, 0, none⟩)) := block_cell HA1.out 0
  have x1 : W3.cell? ⟨w.heap.size, 1, none⟩ = some (.pointer (some ⟨r, 0, none⟩)) := block_cell HA1.out 1
  have RG : W3.rangeAt (w.heap.size + 1) 0 [.int .i64 7, .int .i64 onn, .string h0, .int .u8 h1, .int .u8 h2, .int .i64 h3, .int .i64 h4, .int .i64 h5, .int .u16 h6, .bool h7, .slice s1 s2 s3, .int .u8 tt, .string nm, .int .u8 mi, .string mnm, .int .i64 mpo, .int .i64 mhe, .int .i64 nn] := fun j u hu => by rw [block_cell HA2', Nat.zero_add, List.getElem?_toArray]; exact hu
  have HRG : Hid (W3.rangeAt (w.heap.size + 1) 0 [.int .i64 7, .int .i64 onn, .string h0, .int .u8 h1, .int .u8 h2, .int .i64 h3, .int .i64 h4, .int .i64 h5, .int .u16 h6, .bool h7, .slice s1 s2 s3, .int .u8 tt, .string nm, .int .u8 mi, .string mnm, .int .i64 mpo, .int .i64 mhe, .int .i64 nn]) := RG
  clear RG HA2'
  go_wp2_with (refine wpList_load_mid (by rfl) 41 (.tmp 4) rfl (w.heap.size + 1) 0 rfl _ _ HRG.out Tryz.underlying41 rfl (by kernel_rfl) ?_)
  refine C1.mono ?_
  rintro e U ⟨rfl, g1⟩
  have HF : Hid (ActPost ok w U b r) := ⟨⟨v, es, fs, p, HPw.out.keep g1⟩, both_none b r (grown_trans HG.out g1)⟩
  clear g1 C1
  go_wp2
  go_ret
  exact ⟨rfl, HF.out⟩
set_option maxRecDepth 100000 in
set_option maxHeartbeats 8000000 in
theorem act8 (ok : Nat → Prop) (b r : Nat) (v : Value) (es fs : List Ent) (p : Pl) (b' r' : Nat) (a : Dn) (w : World) (P : Pr ok w b r v es fs p) (hb : ¬ ok b) (hr : ¬ ok r) (hne : ¬ b = r) (hf : ∃ x y z, a.v = .slice x y z) (hk : a.kd = 8) (ht : 0 ≤ a.t ∧ a.t ≤ 255) (hm : 0 ≤ a.m.mi ∧ a.m.mi ≤ 255) : Calls Tryz.prog 6 #[.agg #[.pointer (some ⟨b, 0, none⟩), .pointer (some ⟨r, 0, none⟩)], .agg (dcs a), .agg #[.pointer (some ⟨b', 0, none⟩), .pointer (some ⟨r', 0, none⟩)]] w fun e w' => e = .returned (.bool true) ∧ ActPost ok w w' b r := by
  have HP : Hid (Pr ok w b r v es fs p) := P
  have HN : Hid (¬ ok b ∧ ¬ ok r ∧ ¬ b = r) := ⟨hb, hr, hne⟩
  have hbs : b < w.heap.size := block_lt P.book.lies.choose_spec.lies
  have hrs : r < w.heap.size := block_lt P.rj.lies
  obtain ⟨kd, onn, hd, vv, tt, nm, mm, nn⟩ := a
  simp only at hf
  obtain ⟨s1, s2, s3, rfl⟩ := hf
  obtain ⟨W3, hW3⟩ : ∃ W3, W3 = ((w.alloc (.cells #[.pointer (some ⟨b, 0, none⟩), .pointer (some ⟨r, 0, none⟩)] 28)).alloc (.cells (dcs ⟨kd, onn, hd, .slice s1 s2 s3, tt, nm, mm, nn⟩) 41)).alloc (.cells #[.pointer (some ⟨b', 0, none⟩), .pointer (some ⟨r', 0, none⟩)] 28) := ⟨_, rfl⟩
  have HG : Hid (w.grownBy W3 none) := by rw [hW3]; exact grown_push (grown_push (World.grownBy_alloc _ _ none) _) _
  have A1 : W3.heap[w.heap.size]? = some (.cells #[.pointer (some ⟨b, 0, none⟩), .pointer (some ⟨r, 0, none⟩)] 28 (0, 0)) := by
    rw [hW3]; exact grown_keep (grown_push (World.grownBy_alloc _ _ none) _) (alloc_at w _ _) (by simp)
  have A2 : W3.heap[w.heap.size + 1]? = some (.cells (dcs ⟨kd, onn, hd, .slice s1 s2 s3, tt, nm, mm, nn⟩) 41 (0, 0)) := by
    have h := alloc_at (w.alloc (.cells #[.pointer (some ⟨b, 0, none⟩), .pointer (some ⟨r, 0, none⟩)] 28)) (dcs ⟨kd, onn, hd, .slice s1 s2 s3, tt, nm, mm, nn⟩) 41
    rw [World.size_alloc] at h
    rw [hW3]; exact grown_keep (World.grownBy_alloc _ _ none) h (by simp)
  have A3 : W3.heap[w.heap.size + 1 + 1]? = some (.cells #[.pointer (some ⟨b', 0, none⟩), .pointer (some ⟨r', 0, none⟩)] 28 (0, 0)) := by
    have h := alloc_at ((w.alloc (.cells #[.pointer (some ⟨b, 0, none⟩), .pointer (some ⟨r, 0, none⟩)] 28)).alloc (.cells (dcs ⟨kd, onn, hd, .slice s1 s2 s3, tt, nm, mm, nn⟩) 41)) #[.pointer (some ⟨b', 0, none⟩), .pointer (some ⟨r', 0, none⟩)] 28
    rw [World.size_alloc, World.size_alloc] at h
    rw [hW3]; exact h
  have HA1 : Hid (W3.heap[w.heap.size]? = some (.cells #[.pointer (some ⟨b, 0, none⟩), .pointer (some ⟨r, 0, none⟩)] 28 (0, 0))) := A1
  have HA2 : Hid (W3.heap[w.heap.size + 1]? = some (.cells (dcs ⟨kd, onn, hd, .slice s1 s2 s3, tt, nm, mm, nn⟩) 41 (0, 0))) := A2
  have HA3 : Hid (W3.heap[w.heap.size + 1 + 1]? = some (.cells #[.pointer (some ⟨b', 0, none⟩), .pointer (some ⟨r', 0, none⟩)] 28 (0, 0))) := A3
  have z0 : W3.cell? ⟨w.heap.size + 1, 0, none⟩ = some (.int .i64 kd) := block_cell A2 0
  have x0 : W3.cell? ⟨w.heap.size, 0, none⟩ = some (.pointer (some ⟨b, 0, none⟩)) := block_cell A1 0
  have x1 : W3.cell? ⟨w.heap.size, 1, none⟩ = some (.pointer (some ⟨r, 0, none⟩)) := block_cell A1 1
  have HPw : Hid (Pr ok W3 b r v es fs p) := P.keep HG.out
  clear P hb hr hne A1 A2 A3
  obtain ⟨mi, mnm, mpo, mhe⟩ := mm
  obtain ⟨h0, h1, h2, h3, h4, h5, h6, h7⟩ := hd
  have HA2' := HA2.out
  unfold dcs at hW3 HA2' ⊢
  simp only at hW3 HA2' ⊢
  simp only at hk ht hm
  subst hk
  have C1 := peight_any ok b r v es fs p ⟨8, onn, ⟨h0, h1, h2, h3, h4, h5, h6, h7⟩, .slice s1 s2 s3, tt, nm, ⟨mi, mnm, mpo, mhe⟩, nn⟩ W3 HPw.out rfl ht hm
  unfold dcs at C1
  simp only at C1
  go_enter Tryz.func6, Tryz.ntmps6
  go_upto_region 1 with fail
  rw [← hW3]
  clear hW3
  clear x0 x1
  have x0 : W3.cell? ⟨w.heap.size, 0, none⟩ = some (.pointer (some ⟨b, 0, none⟩)) := block_cell HA1.out 0
  have x1 : W3.cell? ⟨w.heap.size, 1, none⟩ = some (.pointer (some ⟨r, 0, none⟩)) := block_cell HA1.out 1
  have RG : W3.rangeAt (w.heap.size + 1) 0 [.int .i64 8, .int .i64 onn, .string h0, .int .u8 h1, .int .u8 h2, .int .i64 h3, .int .i64 h4, .int .i64 h5, .int .u16 h6, .bool h7, .slice s1 s2 s3, .int .u8 tt, .string nm, .int .u8 mi, .string mnm, .int .i64 mpo, .int .i64 mhe, .int .i64 nn] := fun j u hu => by rw [block_cell HA2', Nat.zero_add, List.getElem?_toArray]; exact hu
  have HRG : Hid (W3.rangeAt (w.heap.size + 1) 0 [.int .i64 8, .int .i64 onn, .string h0, .int .u8 h1, .int .u8 h2, .int .i64 h3, .int .i64 h4, .int .i64 h5, .int .u16 h6, .bool h7, .slice s1 s2 s3, .int .u8 tt, .string nm, .int .u8 mi, .string mnm, .int .i64 mpo, .int .i64 mhe, .int .i64 nn]) := RG
  clear RG HA2'
  go_wp2_with (refine wpList_load_mid (by rfl) 41 (.tmp 4) rfl (w.heap.size + 1) 0 rfl _ _ HRG.out Tryz.underlying41 rfl (by kernel_rfl) ?_)
  refine C1.mono ?_
  rintro e U ⟨rfl, g1⟩
  have HF : Hid (ActPost ok w U b r) := ⟨⟨v, es, fs, p, HPw.out.keep g1⟩, both_none b r (grown_trans HG.out g1)⟩
  clear g1 C1
  go_wp2
  go_ret
  exact ⟨rfl, HF.out⟩
end Go.Proofs.YtiikbhejnblhlaaGreat
namespace Go.Proofs.YtiikbhejnblhlaaGreat
open Go.RowKit

set_option maxRecDepth 100000 in
set_option maxHeartbeats 8000000 in
theorem act9 (ok : Nat → Prop) (b r : Nat) (v : Value) (es fs : List Ent) (p : Pl) (b' r' : Nat) (a : Dn) (w : World) (P : Pr ok w b r v es fs p) (hb : ¬ ok b) (hr : ¬ ok r) (hne : ¬ b = r) (hf : ∃ x y z, a.v = .slice x y z) (hk : a.kd = 9) (v' : Value) (es' fs' : List Ent) (p' : Pl) (P' : Pr ok w b' r' v' es' fs' p') : Calls Tryz.prog 6 #[.agg #[.pointer (some ⟨b, 0, none⟩), .pointer (some ⟨r, 0, none⟩)], .agg (dcs a), .agg #[.pointer (some ⟨b', 0, none⟩), .pointer (some ⟨r', 0, none⟩)]] w fun e w' => e = .returned (.bool true) ∧ ActPost ok w w' b r := by
  have HP : Hid (Pr ok w b r v es fs p) := P
  have HN : Hid (¬ ok b ∧ ¬ ok r ∧ ¬ b = r) := ⟨hb, hr, hne⟩
  have hbs : b < w.heap.size := block_lt P.book.lies.choose_spec.lies
  have hrs : r < w.heap.size := block_lt P.rj.lies
  obtain ⟨kd, onn, hd, vv, tt, nm, mm, nn⟩ := a
  simp only at hf
  obtain ⟨s1, s2, s3, rfl⟩ := hf
  obtain ⟨W3, hW3⟩ : ∃ W3, W3 = ((w.alloc (.cells #[.pointer (some ⟨b, 0, none⟩), .pointer (some ⟨r, 0, none⟩)] 28)).alloc (.cells (dcs ⟨kd, onn, hd, .slice s1 s2 s3, tt, nm, mm, nn⟩) 41)).alloc (.cells #[.pointer (some ⟨b', 0, none⟩), .pointer (some ⟨r', 0, none⟩)] 28) := ⟨_, rfl⟩
  have HG : Hid (w.grownBy W3 none) := by rw [hW3]; exact grown_push (grown_push (World.grownBy_alloc _ _ none) _) _
  have A1 : W3.heap[w.heap.size]? = some (.cells #[.pointer (some ⟨b, 0, none⟩), .pointer (some ⟨r, 0, none⟩)] 28 (0, 0)) := by
    rw [hW3]; exact grown_keep (grown_push (World.grownBy_alloc _ _ none) _) (alloc_at w _ _) (by simp)
  have A2 : W3.heap[w.heap.size + 1]? = some (.cells (dcs ⟨kd, onn, hd, .slice s1 s2 s3, tt, nm, mm, nn⟩) 41 (0, 0)) := by
    have h := alloc_at (w.alloc (.cells #[.pointer (some ⟨b, 0, none⟩), .pointer (some ⟨r, 0, none⟩)] 28)) (dcs ⟨kd, onn, hd, .slice s1 s2 s3, tt, nm, mm, nn⟩) 41
    rw [World.size_alloc] at h
    rw [hW3]; exact grown_keep (World.grownBy_alloc _ _ none) h (by simp)
  have A3 : W3.heap[w.heap.size + 1 + 1]? = some (.cells #[.pointer (some ⟨b', 0, none⟩), .pointer (some ⟨r', 0, none⟩)] 28 (0, 0)) := by
    have h := alloc_at ((w.alloc (.cells #[.pointer (some ⟨b, 0, none⟩), .pointer (some ⟨r, 0, none⟩)] 28)).alloc (.cells (dcs ⟨kd, onn, hd, .slice s1 s2 s3, tt, nm, mm, nn⟩) 41)) #[.pointer (some ⟨b', 0, none⟩), .pointer (some ⟨r', 0, none⟩)] 28
    rw [World.size_alloc, World.size_alloc] at h
    rw [hW3]; exact h
  have HA1 : Hid (W3.heap[w.heap.size]? = some (.cells #[.pointer (some ⟨b, 0, none⟩), .pointer (some ⟨r, 0, none⟩)] 28 (0, 0))) := A1
  have HA2 : Hid (W3.heap[w.heap.size + 1]? = some (.cells (dcs ⟨kd, onn, hd, .slice s1 s2 s3, tt, nm, mm, nn⟩) 41 (0, 0))) := A2
  have HA3 : Hid (W3.heap[w.heap.size + 1 + 1]? = some (.cells #[.pointer (some ⟨b', 0, none⟩), .pointer (some ⟨r', 0, none⟩)] 28 (0, 0))) := A3
  have z0 : W3.cell? ⟨w.heap.size + 1, 0, none⟩ = some (.int .i64 kd) := block_cell A2 0
  have x0 : W3.cell? ⟨w.heap.size, 0, none⟩ = some (.pointer (some ⟨b, 0, none⟩)) := block_cell A1 0
  have x1 : W3.cell? ⟨w.heap.size, 1, none⟩ = some (.pointer (some ⟨r, 0, none⟩)) := block_cell A1 1
  have HPw : Hid (Pr ok W3 b r v es fs p) := P.keep HG.out
  clear P hb hr hne A1 A2 A3
  obtain ⟨mi, mnm, mpo, mhe⟩ := mm
  obtain ⟨h0, h1, h2, h3, h4, h5, h6, h7⟩ := hd
  have HA2' := HA2.out
  unfold dcs at hW3 HA2' ⊢
  simp only at hW3 HA2' ⊢
  simp only at hk
  subst hk
  have y0 : W3.cell? ⟨w.heap.size + 1 + 1, 0, none⟩ = some (.pointer (some ⟨b', 0, none⟩)) := block_cell HA3.out 0
  have y1 : W3.cell? ⟨w.heap.size + 1 + 1, 1, none⟩ = some (.pointer (some ⟨r', 0, none⟩)) := block_cell HA3.out 1
  have HPo : Hid (Pr ok W3 b' r' v' es' fs' p') := P'.keep HG.out
  have C1 := fun W (g : W3.grownBy W none) => same_yes ok ok b b' es es' p p' W (HPw.out.keep g).book.lies (HPo.out.keep g).book.lies (HPw.out.keep g).book.good (HPo.out.keep g).book.good HPw.out.book.fine HPo.out.book.fine HPw.out.book.parts
  have C2 := fun W (g : W3.grownBy W none) => rsame_any ok ok r r' v v' fs fs' p p' W (HPw.out.keep g).rj (HPo.out.keep g).rj (HPw.out.keep g).rl (HPo.out.keep g).rl HPw.out.book.fine HPo.out.book.fine (HPw.out.keep g).good (HPo.out.keep g).good (parts_of HPw.out) (by rw [← hp_len HP.out.same]; exact HP.out.book.lies.len)
  have C3 := fun W (g : W3.grownBy W none) => same_yes ok ok b b es es p p W (HPw.out.keep g).book.lies (HPw.out.keep g).book.lies (HPw.out.keep g).book.good (HPw.out.keep g).book.good HPw.out.book.fine HPw.out.book.fine HPw.out.book.parts
  rw [samePl_refl, sameEs_rfl, Bool.and_self] at C3
  rw [← hp_len HPw.out.same, ← hp_len HPo.out.same, ← hp_sameEs HPw.out.same HPo.out.same] at C2
  obtain ⟨EE, hEE⟩ : ∃ E, E = (samePl es.length p es'.length p' && sameEs es es') := ⟨_, rfl⟩
  rw [← hEE] at C1 C2
  have HC1 : Hid (∀ W, W3.grownBy W none → Calls Tryz.prog 15 #[.pointer (some ⟨b, 0, none⟩), .pointer (some ⟨b', 0, none⟩)] W fun e w' => e = .returned (.bool EE) ∧ W.grownBy w' none) := C1
  have HC2 : Hid (∀ W, W3.grownBy W none → Calls Tryz.prog 16 #[.pointer (some ⟨r, 0, none⟩), .pointer (some ⟨r', 0, none⟩)] W fun e w' => e = .returned (.bool EE) ∧ W.grownBy w' none) := C2
  have HC3 : Hid (∀ W, W3.grownBy W none → Calls Tryz.prog 15 #[.pointer (some ⟨b, 0, none⟩), .pointer (some ⟨b, 0, none⟩)] W fun e w' => e = .returned (.bool true) ∧ W.grownBy w' none) := C3
  clear hEE C1 C2 C3 P'
  go_enter Tryz.func6, Tryz.ntmps6
  go_upto_region 1 with fail
  rw [← hW3]
  clear hW3
  go_upto_region 13 with fail
  refine wp_region_held_drew (S := fun w' => W3.grownBy w' none) (by kernel_rfl) (grown_drew _) (fun hHeld => ?_)
  refine wpAnyH_take (i := 0) (v := ?_) rfl (by kernel_rfl) (by kernel_rfl) (by kernel_rfl) (fun _ _ _ h => h) (Or.inl ⟨by rfl, ?_⟩) (by assumption) ?_
  rotate_left 1
  · (intro w0 hSw; go_simp; try with_reducible rfl)
  simp only [List.getElem_toArray, List.getElem_cons_zero]
  go_frame
  refine wpAnyH_take (i := 1) (v := ?_) rfl (by kernel_rfl) (by kernel_rfl) (by kernel_rfl) (fun _ _ _ h => h) (Or.inl ⟨by rfl, ?_⟩) (by assumption) ?_
  rotate_left 1
  · (intro w0 hSw; have y := World.grownBy.cell hSw x0 (by simp); go_simp; try with_reducible rfl)
  simp only [List.getElem_toArray, List.getElem_cons_zero, List.getElem_cons_succ]
  go_frame
  refine wpAnyH_take (i := 2) (v := ?_) rfl (by kernel_rfl) (by kernel_rfl) (by kernel_rfl) (fun _ _ _ h => h) (Or.inl ⟨by rfl, ?_⟩) (by assumption) ?_
  rotate_left 1
  · (intro w0 hSw; go_simp; try with_reducible rfl)
  simp only [List.getElem_toArray, List.getElem_cons_zero, List.getElem_cons_succ]
  go_frame
  refine wpAnyH_take (i := 3) (v := ?_) rfl (by kernel_rfl) (by kernel_rfl) (by kernel_rfl) (fun _ _ _ h => h) (Or.inl ⟨by rfl, ?_⟩) (by assumption) ?_
  rotate_left 1
  · (intro w0 hSw; have y := World.grownBy.cell hSw y0 (by simp); go_simp; try with_reducible rfl)
  simp only [List.getElem_toArray, List.getElem_cons_zero, List.getElem_cons_succ]
  go_frame
  refine wpAnyH_take (i := 5) (v := ?_) rfl (by kernel_rfl) (by kernel_rfl) (by kernel_rfl) (fun _ _ _ h => h) (Or.inl ⟨by rfl, ?_⟩) (by assumption) ?_
  rotate_left 1
  · (intro w0 hSw; go_simp; try with_reducible rfl)
  simp only [List.getElem_toArray, List.getElem_cons_zero, List.getElem_cons_succ]
  go_frame
  refine wpAnyH_take (i := 6) (v := ?_) rfl (by kernel_rfl) (by kernel_rfl) (by kernel_rfl) (fun _ _ _ h => h) (Or.inl ⟨by rfl, ?_⟩) (by assumption) ?_
  rotate_left 1
  · (intro w0 hSw; have y := World.grownBy.cell hSw x1 (by simp); go_simp; try with_reducible rfl)
  simp only [List.getElem_toArray, List.getElem_cons_zero, List.getElem_cons_succ]
  go_frame
  refine wpAnyH_take (i := 7) (v := ?_) rfl (by kernel_rfl) (by kernel_rfl) (by kernel_rfl) (fun _ _ _ h => h) (Or.inl ⟨by rfl, ?_⟩) (by assumption) ?_
  rotate_left 1
  · (intro w0 hSw; go_simp; try with_reducible rfl)
  simp only [List.getElem_toArray, List.getElem_cons_zero, List.getElem_cons_succ]
  go_frame
  refine wpAnyH_take (i := 8) (v := ?_) rfl (by kernel_rfl) (by kernel_rfl) (by kernel_rfl) (fun _ _ _ h => h) (Or.inl ⟨by rfl, ?_⟩) (by assumption) ?_
  rotate_left 1
  · (intro w0 hSw; have y := World.grownBy.cell hSw y1 (by simp); go_simp; try with_reducible rfl)
  simp only [List.getElem_toArray, List.getElem_cons_zero, List.getElem_cons_succ]
  go_frame
  refine wpAnyH_ready (rs := [4]) (by kernel_rfl) (by simp) ?_
  refine AllReadyH.cons rfl (fun K hK => ?_) AllReadyH.nil
  simp only [List.getElem_toArray, List.getElem_cons_zero, List.getElem_cons_succ]
  go_simp
  go_at_call 15
  refine (HC1.out _ (grown_drew _)).mono ?_
  rintro e U1 ⟨rfl, g1⟩
  have K1 : W3.grownBy U1 none := grown_trans (grown_drew _) g1
  refine hK.out _ _ (K1) (fun hHeld2 => ?_)
  clear hK K
  (try go_frame)
  refine wpAnyH_ready (rs := [9]) (by kernel_rfl) (by simp) ?_
  refine AllReadyH.cons rfl (fun K hK => ?_) AllReadyH.nil
  simp only [List.getElem_toArray, List.getElem_cons_zero, List.getElem_cons_succ]
  go_simp
  go_at_call 16
  refine (HC2.out _ K1).mono ?_
  rintro e U2 ⟨rfl, g2⟩
  have K2 : W3.grownBy U2 none := grown_trans K1 g2
  refine hK.out _ _ (K2) (fun hHeld2 => ?_)
  clear hK K
  (try go_frame)
  refine wpAnyH_take (i := 10) (v := ?_) rfl (by kernel_rfl) (by kernel_rfl) (by kernel_rfl) (fun _ _ _ h => h) (Or.inl ⟨by rfl, ?_⟩) (by assumption) ?_
  rotate_left 1
  · (intro w0 hSw; go_simp; try with_reducible rfl)
  simp only [List.getElem_toArray, List.getElem_cons_zero, List.getElem_cons_succ]
  go_frame
  refine wpAnyH_take (i := 11) (v := ?_) rfl (by kernel_rfl) (by kernel_rfl) (by kernel_rfl) (fun _ _ _ h => h) (Or.inl ⟨by rfl, ?_⟩) (by assumption) ?_
  rotate_left 1
  · (intro w0 hSw; go_simp; try with_reducible rfl)
  simp only [List.getElem_toArray, List.getElem_cons_zero, List.getElem_cons_succ]
  go_frame
  refine wpAnyH_take (i := 12) (v := ?_) rfl (by kernel_rfl) (by kernel_rfl) (by kernel_rfl) (fun _ _ _ h => h) (Or.inl ⟨by rfl, ?_⟩) (by assumption) ?_
  rotate_left 1
  · (intro w0 hSw; go_simp; try with_reducible rfl)
  simp only [List.getElem_toArray, List.getElem_cons_zero, List.getElem_cons_succ]
  go_frame
  refine wpAnyH_take (i := 13) (v := ?_) rfl (by kernel_rfl) (by kernel_rfl) (by kernel_rfl) (fun _ _ _ h => h) (Or.inl ⟨by rfl, ?_⟩) (by assumption) ?_
  rotate_left 1
  · (intro w0 hSw; have y := World.grownBy.cell hSw x0 (by simp); go_simp; try with_reducible rfl)
  simp only [List.getElem_toArray, List.getElem_cons_zero, List.getElem_cons_succ]
  go_frame
  refine wpAnyH_take (i := 14) (v := ?_) rfl (by kernel_rfl) (by kernel_rfl) (by kernel_rfl) (fun _ _ _ h => h) (Or.inl ⟨by rfl, ?_⟩) (by assumption) ?_
  rotate_left 1
  · (intro w0 hSw; go_simp; try with_reducible rfl)
  simp only [List.getElem_toArray, List.getElem_cons_zero, List.getElem_cons_succ]
  go_frame
  refine wpAnyH_take (i := 15) (v := ?_) rfl (by kernel_rfl) (by kernel_rfl) (by kernel_rfl) (fun _ _ _ h => h) (Or.inl ⟨by rfl, ?_⟩) (by assumption) ?_
  rotate_left 1
  · (intro w0 hSw; have y := World.grownBy.cell hSw x0 (by simp); go_simp; try with_reducible rfl)
  simp only [List.getElem_toArray, List.getElem_cons_zero, List.getElem_cons_succ]
  go_frame
  refine wpAnyH_ready (rs := [16]) (by kernel_rfl) (by simp) ?_
  refine AllReadyH.cons rfl (fun K hK => ?_) AllReadyH.nil
  simp only [List.getElem_toArray, List.getElem_cons_zero, List.getElem_cons_succ]
  rw [if_pos (by rfl)]
  go_simp
  go_at_call 15
  refine (HC3.out _ K2).mono ?_
  rintro e U3 ⟨rfl, g3⟩
  have K3 : W3.grownBy U3 none := grown_trans K2 g3
  refine hK.out _ _ (K3) (fun hHeld2 => ?_)
  clear hK K
  (try go_frame)
  refine wpAnyH_take (i := 17) (v := ?_) rfl (by kernel_rfl) (by kernel_rfl) (by kernel_rfl) (fun _ _ _ h => h) (Or.inl ⟨by rfl, ?_⟩) (by assumption) ?_
  rotate_left 1
  · (intro w0 hSw; go_simp; try with_reducible rfl)
  simp only [List.getElem_toArray, List.getElem_cons_zero, List.getElem_cons_succ]
  go_frame
  refine wpAnyH_take (i := 18) (v := ?_) rfl (by kernel_rfl) (by kernel_rfl) (by kernel_rfl) (fun _ _ _ h => h) (Or.inl ⟨by rfl, ?_⟩) (by assumption) ?_
  rotate_left 1
  · (intro w0 hSw; go_simp; try with_reducible rfl)
  simp only [List.getElem_toArray, List.getElem_cons_zero, List.getElem_cons_succ]
  go_frame
  refine wpAnyH_done (by kernel_rfl) ?_ _
  have HF : Hid (ActPost ok w U3 b r) := ⟨⟨v, es, fs, p, HPw.out.keep K3⟩, both_none b r (grown_trans HG.out K3)⟩
  clear K1 K2 K3 g1 g2 g3 hHeld hHeld2
  go_wp2
  go_ret
  exact ⟨rfl, HF.out⟩
end Go.Proofs.YtiikbhejnblhlaaGreat
namespace Go.Proofs.YtiikbhejnblhlaaGreat
open Go.RowKit

set_option maxRecDepth 100000 in
set_option maxHeartbeats 8000000 in
theorem actn (ok : Nat → Prop) (b r : Nat) (v : Value) (es fs : List Ent) (p : Pl) (b' r' : Nat) (a : Dn) (w : World) (P : Pr ok w b r v es fs p) (hb : ¬ ok b) (hr : ¬ ok r) (hne : ¬ b = r) (hf : ∃ x y z, a.v = .slice x y z) (n0 : ¬ a.kd = 0) (n1 : ¬ a.kd = 1) (n2 : ¬ a.kd = 2) (n3 : ¬ a.kd = 3) (n4 : ¬ a.kd = 4) (n5 : ¬ a.kd = 5) (n6 : ¬ a.kd = 6) (n7 : ¬ a.kd = 7) (n8 : ¬ a.kd = 8) (n9 : ¬ a.kd = 9) : Calls Tryz.prog 6 #[.agg #[.pointer (some ⟨b, 0, none⟩), .pointer (some ⟨r, 0, none⟩)], .agg (dcs a), .agg #[.pointer (some ⟨b', 0, none⟩), .pointer (some ⟨r', 0, none⟩)]] w fun e w' => e = .returned (.bool true) ∧ ActPost ok w w' b r := by
  have HP : Hid (Pr ok w b r v es fs p) := P
  have HN : Hid (¬ ok b ∧ ¬ ok r ∧ ¬ b = r) := ⟨hb, hr, hne⟩
  have hbs : b < w.heap.size := block_lt P.book.lies.choose_spec.lies
  have hrs : r < w.heap.size := block_lt P.rj.lies
  obtain ⟨kd, onn, hd, vv, tt, nm, mm, nn⟩ := a
  simp only at hf
  obtain ⟨s1, s2, s3, rfl⟩ := hf
  obtain ⟨W3, hW3⟩ : ∃ W3, W3 = ((w.alloc (.cells #[.pointer (some ⟨b, 0, none⟩), .pointer (some ⟨r, 0, none⟩)] 28)).alloc (.cells (dcs ⟨kd, onn, hd, .slice s1 s2 s3, tt, nm, mm, nn⟩) 41)).alloc (.cells #[.pointer (some ⟨b', 0, none⟩), .pointer (some ⟨r', 0, none⟩)] 28) := ⟨_, rfl⟩
  have HG : Hid (w.grownBy W3 none) := by rw [hW3]; exact grown_push (grown_push (World.grownBy_alloc _ _ none) _) _
  have A1 : W3.heap[w.heap.size]? = some (.cells #[.pointer (some ⟨b, 0, none⟩), .pointer (some ⟨r, 0, none⟩)] 28 (0, 0)) := by
    rw [hW3]; exact grown_keep (grown_push (World.grownBy_alloc _ _ none) _) (alloc_at w _ _) (by simp)
  have A2 : W3.heap[w.heap.size + 1]? = some (.cells (dcs ⟨kd, onn, hd, .slice s1 s2 s3, tt, nm, mm, nn⟩) 41 (0, 0)) := by
    have h := alloc_at (w.alloc (.cells #[.pointer (some ⟨b, 0, none⟩), .pointer (some ⟨r, 0, none⟩)] 28)) (dcs ⟨kd, onn, hd, .slice s1 s2 s3, tt, nm, mm, nn⟩) 41
    rw [World.size_alloc] at h
    rw [hW3]; exact grown_keep (World.grownBy_alloc _ _ none) h (by simp)
  have A3 : W3.heap[w.heap.size + 1 + 1]? = some (.cells #[.pointer (some ⟨b', 0, none⟩), .pointer (some ⟨r', 0, none⟩)] 28 (0, 0)) := by
    have h := alloc_at ((w.alloc (.cells #[.pointer (some ⟨b, 0, none⟩), .pointer (some ⟨r, 0, none⟩)] 28)).alloc (.cells (dcs ⟨kd, onn, hd, .slice s1 s2 s3, tt, nm, mm, nn⟩) 41)) #[.pointer (some ⟨b', 0, none⟩), .pointer (some ⟨r', 0, none⟩)] 28
    rw [World.size_alloc, World.size_alloc] at h
    rw [hW3]; exact h
  have HA1 : Hid (W3.heap[w.heap.size]? = some (.cells #[.pointer (some ⟨b, 0, none⟩), .pointer (some ⟨r, 0, none⟩)] 28 (0, 0))) := A1
  have HA2 : Hid (W3.heap[w.heap.size + 1]? = some (.cells (dcs ⟨kd, onn, hd, .slice s1 s2 s3, tt, nm, mm, nn⟩) 41 (0, 0))) := A2
  have HA3 : Hid (W3.heap[w.heap.size + 1 + 1]? = some (.cells #[.pointer (some ⟨b', 0, none⟩), .pointer (some ⟨r', 0, none⟩)] 28 (0, 0))) := A3
  have z0 : W3.cell? ⟨w.heap.size + 1, 0, none⟩ = some (.int .i64 kd) := block_cell A2 0
  have x0 : W3.cell? ⟨w.heap.size, 0, none⟩ = some (.pointer (some ⟨b, 0, none⟩)) := block_cell A1 0
  have x1 : W3.cell? ⟨w.heap.size, 1, none⟩ = some (.pointer (some ⟨r, 0, none⟩)) := block_cell A1 1
  have HPw : Hid (Pr ok W3 b r v es fs p) := P.keep HG.out
  clear P hb hr hne A1 A2 A3
  obtain ⟨mi, mnm, mpo, mhe⟩ := mm
  obtain ⟨h0, h1, h2, h3, h4, h5, h6, h7⟩ := hd
  have HA2' := HA2.out
  unfold dcs at hW3 HA2' ⊢
  simp only at hW3 HA2' ⊢
  simp only at n0 n1 n2 n3 n4 n5 n6 n7 n8 n9
  have q0 : (kd == 0) = false := beqi_no n0
  have q1 : (kd == 1) = false := beqi_no n1
  have q2 : (kd == 2) = false := beqi_no n2
  have q3 : (kd == 3) = false := beqi_no n3
  have q4 : (kd == 4) = false := beqi_no n4
  have q5 : (kd == 5) = false := beqi_no n5
  have q6 : (kd == 6) = false := beqi_no n6
  have q7 : (kd == 7) = false := beqi_no n7
  have q8 : (kd == 8) = false := beqi_no n8
  have q9 : (kd == 9) = false := beqi_no n9
  have HF : Hid (ActPost ok w W3 b r) := ⟨⟨v, es, fs, p, HPw.out⟩, both_none b r HG.out⟩
  clear n0 n1 n2 n3 n4 n5 n6 n7 n8 n9
  go_enter Tryz.func6, Tryz.ntmps6
  go_upto_region 1 with fail
  rw [← hW3]
  clear hW3
  go_wp2
  go_ret
  exact ⟨rfl, HF.out⟩
end Go.Proofs.YtiikbhejnblhlaaGreat
