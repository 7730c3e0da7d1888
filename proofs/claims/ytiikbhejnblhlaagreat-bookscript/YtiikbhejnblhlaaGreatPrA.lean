/-
  BookScript: pair.asked: Len and Sealed.
-/
import Derived.Test.YtiikbhejnblhlaaGreatPrC
namespace Go.Proofs.YtiikbhejnblhlaaGreat
open Go.RowKit

/-- An act, plainly. -/
structure Dn where
  kd : Int
  onn : Int
  h : Hd
  v : Value
  t : Int
  nm : ByteArray
  m : Mk
  n : Int
def dcs (a : Dn) : Array Value := #[.int .i64 a.kd, .int .i64 a.onn, .string a.h.nm, .int .u8 a.h.su, .int .u8 a.h.kd, .int .i64 a.h.co, .int .i64 a.h.po, .int .i64 a.h.he, .int .u16 a.h.tr, .bool a.h.tk, a.v, .int .u8 a.t, .string a.nm, .int .u8 a.m.mi, .string a.m.nm, .int .i64 a.m.po, .int .i64 a.m.he, .int .i64 a.n]
theorem Pr.keep {ok : Nat → Prop} {w w' : World} {b r : Nat} {v : Value} {es fs : List Ent} {p : Pl} (h : Pr ok w b r v es fs p) (g : w.grownBy w' none) : Pr ok w' b r v es fs p := ⟨h.book.keep g, h.rj.keep g, h.rl.keep g, fun k hk => ⟨(h.own k hk).1, Nat.lt_of_lt_of_le (h.own k hk).2 g.size⟩, h.good.keep g, h.same, h.mkd, h.zero⟩
set_option maxRecDepth 100000 in
set_option maxHeartbeats 8000000 in
theorem pseven_any (ok : Nat → Prop) (b r : Nat) (v : Value) (es fs : List Ent) (p : Pl) (a : Dn) (w : World) (P : Pr ok w b r v es fs p) (h4 : ¬ a.kd = 4) (h5 : ¬ a.kd = 5) (h8 : ¬ a.kd = 8) : Calls Tryz.prog 17 #[.agg #[.pointer (some ⟨b, 0, none⟩), .pointer (some ⟨r, 0, none⟩)], .agg (dcs a)] w fun e w' => e = .returned (.bool true) ∧ w.grownBy w' none := by
  have HP : Hid (Pr ok w b r v es fs p) := P
  have HL : Hid (es.length = fs.length) := hp_len P.same
  have q4 : (a.kd == 4) = false := beqi_no h4
  have q5 : (a.kd == 5) = false := beqi_no h5
  have q8 : (a.kd == 8) = false := beqi_no h8
  obtain ⟨W2, hW2⟩ : ∃ W2, W2 = (w.alloc (.cells #[.pointer (some ⟨b, 0, none⟩), .pointer (some ⟨r, 0, none⟩)] 28)).alloc (.cells (dcs a) 41) := ⟨_, rfl⟩
  have HG2 : Hid (w.grownBy W2 none) := by rw [hW2]; exact grown_push (World.grownBy_alloc _ _ none) _
  have HA2 : Hid (W2.heap[w.heap.size]? = some (.cells #[.pointer (some ⟨b, 0, none⟩), .pointer (some ⟨r, 0, none⟩)] 28 (0, 0))) := by rw [hW2]; exact grown_keep (World.grownBy_alloc _ _ none) (alloc_at w _ _) (by simp)
  have Z2 : W2.heap[w.heap.size + 1]? = some (.cells (dcs a) 41 (0, 0)) := by
    have := alloc_at (w.alloc (.cells #[.pointer (some ⟨b, 0, none⟩), .pointer (some ⟨r, 0, none⟩)] 28)) (dcs a) 41
    rw [World.size_alloc] at this
    rw [hW2]
    exact this
  have z0 : W2.cell? ⟨w.heap.size + 1, 0, none⟩ = some (.int .i64 a.kd) := block_cell Z2 0
  have x0 : W2.cell? ⟨w.heap.size, 0, none⟩ = some (.pointer (some ⟨b, 0, none⟩)) := block_cell HA2.out 0
  have x1 : W2.cell? ⟨w.heap.size, 1, none⟩ = some (.pointer (some ⟨r, 0, none⟩)) := block_cell HA2.out 1
  clear Z2 P h4 h5 h8
  unfold dcs at hW2 ⊢
  have C1 := fun W (g : w.grownBy W none) => len_yes b es.length (HP.out.book.lies.len) p W (HP.out.keep g).book.lies.flags
  have C2 := fun W (g : w.grownBy W none) => rlen_any r v p fs W (HP.out.keep g).rj (HP.out.keep g).rl
  rw [HL.out] at C1
  have C3 := fun W (g : w.grownBy W none) => sealed_yes b es.length p W (HP.out.keep g).book.lies.flags
  have C4 := fun W (g : w.grownBy W none) => rsealed_any r v p W (HP.out.keep g).rj
  go_enter Tryz.func17, Tryz.ntmps17
  go_upto_region 1 with fail
  rw [← hW2]
  clear hW2
  go_upto_region 19 with fail
  refine wp_region_held_drew (S := fun w' => W2.grownBy w' none) (by kernel_rfl) (grown_drew _) (fun hHeld => ?_)
  refine wpAnyH_take (i := 0) (v := ?_) rfl (by kernel_rfl) (by kernel_rfl) (by kernel_rfl) (fun _ _ _ h => h) (Or.inl ⟨by rfl, ?_⟩) (by assumption) ?_
  rotate_left 1
  · (intro w0 hSw; go_simp; try with_reducible rfl)
  simp only [List.getElem_toArray, List.getElem_cons_zero]
  go_frame
  refine wpAnyH_take (i := 1) (v := ?_) rfl (by kernel_rfl) (by kernel_rfl) (by kernel_rfl) (fun _ _ _ h => h) (Or.inl ⟨by rfl, ?_⟩) (by assumption) ?_
  rotate_left 1
  · (intro w0 hSw; have y := World.grownBy.cell hSw x0 (by simp); go_simp; try with_reducible rfl)
  simp only [List.getElem_toArray, List.getElem_cons_zero, List.getElem_cons_succ]
  go_frame
  refine wpAnyH_take (i := 3) (v := ?_) rfl (by kernel_rfl) (by kernel_rfl) (by kernel_rfl) (fun _ _ _ h => h) (Or.inl ⟨by rfl, ?_⟩) (by assumption) ?_
  rotate_left 1
  · (intro w0 hSw; go_simp; try with_reducible rfl)
  simp only [List.getElem_toArray, List.getElem_cons_zero, List.getElem_cons_succ]
  go_frame
  refine wpAnyH_take (i := 4) (v := ?_) rfl (by kernel_rfl) (by kernel_rfl) (by kernel_rfl) (fun _ _ _ h => h) (Or.inl ⟨by rfl, ?_⟩) (by assumption) ?_
  rotate_left 1
  · (intro w0 hSw; have y := World.grownBy.cell hSw x1 (by simp); go_simp; try with_reducible rfl)
  simp only [List.getElem_toArray, List.getElem_cons_zero, List.getElem_cons_succ]
  go_frame
  refine wpAnyH_ready (rs := [2]) (by kernel_rfl) (by simp) ?_
  refine AllReadyH.cons rfl (fun K hK => ?_) AllReadyH.nil
  simp only [List.getElem_toArray, List.getElem_cons_zero, List.getElem_cons_succ]
  go_simp
  go_at_call 51
  refine (C1 _ (grown_trans HG2.out (grown_drew _))).mono ?_
  rintro e U1 ⟨rfl, g1, _⟩
  have K1 : W2.grownBy U1 none := grown_trans (grown_drew _) g1
  refine hK.out _ _ (K1) (fun hHeld2 => ?_)
  clear hK K
  (try go_frame)
  refine wpAnyH_ready (rs := [5]) (by kernel_rfl) (by simp) ?_
  refine AllReadyH.cons rfl (fun K hK => ?_) AllReadyH.nil
  simp only [List.getElem_toArray, List.getElem_cons_zero, List.getElem_cons_succ]
  go_simp
  go_at_call 52
  refine (C2 U1 (grown_trans HG2.out K1)).mono ?_
  rintro e U2 ⟨rfl, h2⟩
  obtain rfl : U1 = U2 := h2.symm
  refine hK.out _ _ (K1) (fun hHeld2 => ?_)
  clear hK K
  (try go_frame)
  refine wpAnyH_take (i := 6) (v := ?_) rfl (by kernel_rfl) (by kernel_rfl) (by kernel_rfl) (fun _ _ _ h => h) (Or.inl ⟨by rfl, ?_⟩) (by assumption) ?_
  rotate_left 1
  · (intro w0 hSw; go_simp; try with_reducible rfl)
  simp only [List.getElem_toArray, List.getElem_cons_zero, List.getElem_cons_succ]
  go_frame
  refine wpAnyH_take (i := 7) (v := ?_) rfl (by kernel_rfl) (by kernel_rfl) (by kernel_rfl) (fun _ _ _ h => h) (Or.inl ⟨by rfl, ?_⟩) (by assumption) ?_
  rotate_left 1
  · (intro w0 hSw; go_simp; try with_reducible rfl)
  simp only [List.getElem_toArray, List.getElem_cons_zero, List.getElem_cons_succ]
  go_frame
  refine wpAnyH_take (i := 8) (v := ?_) rfl (by kernel_rfl) (by kernel_rfl) (by kernel_rfl) (fun _ _ _ h => h) (Or.inl ⟨by rfl, ?_⟩) (by assumption) ?_
  rotate_left 1
  · (intro w0 hSw; go_simp; try with_reducible rfl)
  simp only [List.getElem_toArray, List.getElem_cons_zero, List.getElem_cons_succ]
  go_frame
  refine wpAnyH_take (i := 9) (v := ?_) rfl (by kernel_rfl) (by kernel_rfl) (by kernel_rfl) (fun _ _ _ h => h) (Or.inl ⟨by rfl, ?_⟩) (by assumption) ?_
  rotate_left 1
  · (intro w0 hSw; have y := World.grownBy.cell hSw x0 (by simp); go_simp; try with_reducible rfl)
  simp only [List.getElem_toArray, List.getElem_cons_zero, List.getElem_cons_succ]
  go_frame
  refine wpAnyH_take (i := 11) (v := ?_) rfl (by kernel_rfl) (by kernel_rfl) (by kernel_rfl) (fun _ _ _ h => h) (Or.inl ⟨by rfl, ?_⟩) (by assumption) ?_
  rotate_left 1
  · (intro w0 hSw; go_simp; try with_reducible rfl)
  simp only [List.getElem_toArray, List.getElem_cons_zero, List.getElem_cons_succ]
  go_frame
  refine wpAnyH_take (i := 12) (v := ?_) rfl (by kernel_rfl) (by kernel_rfl) (by kernel_rfl) (fun _ _ _ h => h) (Or.inl ⟨by rfl, ?_⟩) (by assumption) ?_
  rotate_left 1
  · (intro w0 hSw; have y := World.grownBy.cell hSw x1 (by simp); go_simp; try with_reducible rfl)
  simp only [List.getElem_toArray, List.getElem_cons_zero, List.getElem_cons_succ]
  go_frame
  refine wpAnyH_ready (rs := [10]) (by kernel_rfl) (by simp) ?_
  refine AllReadyH.cons rfl (fun K hK => ?_) AllReadyH.nil
  simp only [List.getElem_toArray, List.getElem_cons_zero, List.getElem_cons_succ]
  rw [if_pos (by rfl)]
  go_simp
  go_at_call 53
  refine (C3 U1 (grown_trans HG2.out K1)).mono ?_
  rintro e U3 ⟨rfl, h3⟩
  obtain rfl : U1 = U3 := h3.symm
  refine hK.out _ _ (K1) (fun hHeld2 => ?_)
  clear hK K
  (try go_frame)
  refine wpAnyH_ready (rs := [13]) (by kernel_rfl) (by simp) ?_
  refine AllReadyH.cons rfl (fun K hK => ?_) AllReadyH.nil
  simp only [List.getElem_toArray, List.getElem_cons_zero, List.getElem_cons_succ]
  rw [if_pos (by rfl)]
  go_simp
  go_at_call 54
  refine (C4 U1 (grown_trans HG2.out K1)).mono ?_
  rintro e U4 ⟨rfl, h4⟩
  obtain rfl : U1 = U4 := h4.symm
  refine hK.out _ _ (K1) (fun hHeld2 => ?_)
  clear hK K
  (try go_frame)
  refine wpAnyH_take (i := 14) (v := ?_) rfl (by kernel_rfl) (by kernel_rfl) (by kernel_rfl) (fun _ _ _ h => h) (Or.inl ⟨by rfl, ?_⟩) (by assumption) ?_
  rotate_left 1
  · (intro w0 hSw; go_simp; try with_reducible rfl)
  simp only [List.getElem_toArray, List.getElem_cons_zero, List.getElem_cons_succ]
  go_frame
  refine wpAnyH_take (i := 15) (v := ?_) rfl (by kernel_rfl) (by kernel_rfl) (by kernel_rfl) (fun _ _ _ h => h) (Or.inl ⟨by rfl, ?_⟩) (by assumption) ?_
  rotate_left 1
  · (intro w0 hSw; go_simp; try with_reducible rfl)
  simp only [List.getElem_toArray, List.getElem_cons_zero, List.getElem_cons_succ]
  go_frame
  refine wpAnyH_take (i := 16) (v := ?_) rfl (by kernel_rfl) (by kernel_rfl) (by kernel_rfl) (fun _ _ _ h => h) (Or.inl ⟨by rfl, ?_⟩) (by assumption) ?_
  rotate_left 1
  · (intro w0 hSw; go_simp; try with_reducible rfl)
  simp only [List.getElem_toArray, List.getElem_cons_zero, List.getElem_cons_succ]
  go_frame
  refine wpAnyH_done (by kernel_rfl) ?_ _
  go_wp2
  go_ret
  exact ⟨rfl, grown_trans HG2.out K1⟩
end Go.Proofs.YtiikbhejnblhlaaGreat
