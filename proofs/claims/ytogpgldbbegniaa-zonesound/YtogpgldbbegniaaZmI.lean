/-
  Zones: Thing.
-/
import Derived.Test.YtogpgldbbegniaaZmH
namespace Go.Proofs.Ytogpgldbbegniaa
open Go.RowKit

set_option maxRecDepth 100000 in
set_option maxHeartbeats 2000000 in
theorem thing_yes (b : Nat) (Sb : List Nat) (z : Zs) (n : Int) (w : World) (Z : ZAt w b Sb z) (S : z.Sound) (hn : there z.ts n) : Calls Try.prog 35 #[.pointer (some ⟨b, 0, none⟩), .int .i64 n] w fun e w' => e = .returned (.tuple #[thv (thAt z.ts n), .int .i64 0]) ∧ w.grownBy w' none := by
  obtain ⟨vt, d0, d1, h0, h1, Z⟩ := Z
  obtain ⟨c0, _, _, _, _, c5⟩ := Z.cell
  have T := Z.ts.at
  obtain ⟨g, off, cap, rfl, R⟩ := ths_there T hn
  have hs := S.few
  obtain ⟨k, hk⟩ : ∃ k : Nat, n = (k : Int) + 1 := ⟨(n - 1).toNat, by unfold there at hn; omega⟩
  subst hk
  have hlt : k < z.ts.length := by unfold there at hn; omega
  rw [show ((k : Int) + 1 - 1).toNat = k from by omega] at R
  have hb := block_lt Z.blk
  obtain ⟨t, ht⟩ : ∃ t, t = thAt z.ts ((k : Int) + 1) := ⟨_, rfl⟩
  rw [← ht] at R ⊢
  obtain ⟨W, hW⟩ : ∃ W, W = w.alloc (.cells #[.int .i64 0, .int .i64 0, .int .u8 0, .int .i64 0, .int .i64 0, .int .i64 0, .int .i64 0, .int .i64 0, .int .i64 0, .int .i64 0, .bool false] 38) := ⟨_, rfl⟩
  have GW : w.grownBy W none := by rw [hW]; exact World.grownBy_alloc _ _ _
  have c0' := GW.cell c0 (by simp)
  have c5' := GW.cell c5 (by simp)
  obtain ⟨e1, e2, e3, e4, e5, e6, e7, e8, e9, e10, e11⟩ := range_cells (rangeAt_keep R GW)
  have M := made_yes b z.nx W c5' (nx_ne S)
  have HA := has_any b z.ts.length cap (some ⟨g, off, none⟩) ((k : Int) + 1) W c0'
  rw [decide_eq_true (by omega)] at HA
  have hw1 : wrap64 (k : Int) = (k : Int) := by unfold wrap64; omega
  have hlt' : (k : Int) < z.ts.length := by omega
  rw [hW] at c0' M HA e1 e2 e3 e4 e5 e6 e7 e8 e9 e10 e11
  clear c5' GW hW c0 c5 R T Z S hn ht hs
  go_enter Try.func35, Try.ntmps35
  go_wp2_with (first | (go_at_call 61; refine M.mono ?_; rintro e w1 ⟨rfl, h⟩; subst h) | (go_at_call 62; refine HA.mono ?_; rintro e w1 ⟨rfl, h⟩; subst h))
  have q := fun i => block_cell (alloc_at w #[.int .i64 t.card, .int .i64 t.owner, .int .u8 t.place, .int .i64 t.stamp, .int .i64 t.hurt, .int .i64 t.m0, .int .i64 t.m1, .int .i64 t.m2, .int .i64 t.m3, .int .i64 t.done, .bool t.fresh] 38) i
  refine bodyPost_ret (v := .tuple #[thv t, .int .i64 0]) (by simp [results, Try.results35, go_sem, thv, q]) rfl ⟨rfl, World.grownBy_alloc _ _ _⟩
set_option maxRecDepth 100000 in
set_option maxHeartbeats 2000000 in
theorem thing_no (b : Nat) (Sb : List Nat) (z : Zs) (n : Int) (w : World) (Z : ZAt w b Sb z) (S : z.Sound) (hn : ¬ there z.ts n) : Calls Try.prog 35 #[.pointer (some ⟨b, 0, none⟩), .int .i64 n] w fun e w' => e = .returned (.tuple #[thv Th.none, .int .i64 6]) ∧ w.grownBy w' none := by
  obtain ⟨vt, d0, d1, h0, h1, Z⟩ := Z
  obtain ⟨c0, _, _, _, _, c5⟩ := Z.cell
  obtain ⟨pt, ct, rfl, _⟩ := Z.ts.at
  obtain ⟨W, hW⟩ : ∃ W, W = w.alloc (.cells #[.int .i64 0, .int .i64 0, .int .u8 0, .int .i64 0, .int .i64 0, .int .i64 0, .int .i64 0, .int .i64 0, .int .i64 0, .int .i64 0, .bool false] 38) := ⟨_, rfl⟩
  have GW : w.grownBy W none := by rw [hW]; exact World.grownBy_alloc _ _ _
  have c0' := GW.cell c0 (by simp)
  have c5' := GW.cell c5 (by simp)
  have M := made_yes b z.nx W c5' (nx_ne S)
  have HA := has_any b z.ts.length ct pt n W c0'
  have hn2 : ¬ (1 ≤ n ∧ n ≤ (z.ts.length : Int)) := hn
  rw [decide_eq_false hn2] at HA
  rw [hW] at M HA
  clear c5' GW hW c0 c5 Z S hn hn2 c0'
  go_enter Try.func35, Try.ntmps35
  go_wp2_with (first | (go_at_call 61; refine M.mono ?_; rintro e w1 ⟨rfl, h⟩; subst h) | (go_at_call 62; refine HA.mono ?_; rintro e w1 ⟨rfl, h⟩; subst h))
  have q := fun i => block_cell (alloc_at w #[.int .i64 0, .int .i64 0, .int .u8 0, .int .i64 0, .int .i64 0, .int .i64 0, .int .i64 0, .int .i64 0, .int .i64 0, .int .i64 0, .bool false] 38) i
  refine bodyPost_ret (v := .tuple #[thv Th.none, .int .i64 6]) (by simp [results, Try.results35, go_sem, thv, Th.none, q]) rfl ⟨rfl, World.grownBy_alloc _ _ _⟩
theorem thing_any (b : Nat) (Sb : List Nat) (z : Zs) (n : Int) (w : World) (Z : ZAt w b Sb z) (S : z.Sound) : Calls Try.prog 35 #[.pointer (some ⟨b, 0, none⟩), .int .i64 n] w fun e w' => e = .returned (.tuple #[thv (z.thingT n), .int .i64 (z.thingE n)]) ∧ w.grownBy w' none := by
  unfold Zs.thingT Zs.thingE
  by_cases h : 1 ≤ n ∧ n ≤ (z.ts.length : Int)
  · rw [if_pos h, if_pos h]
    exact thing_yes b Sb z n w Z S h
  · rw [if_neg h, if_neg h]
    exact thing_no b Sb z n w Z S h
end Go.Proofs.Ytogpgldbbegniaa
