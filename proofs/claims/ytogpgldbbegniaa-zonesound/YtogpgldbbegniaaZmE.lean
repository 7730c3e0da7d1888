/-
  Zones: a list of numbers sorted, held against another one; by stamp: the program's comparison, byStamp.
-/
import Derived.Test.YtogpgldbbegniaaZmD
import Derived.Test.YtogpgldbbegniaaLib
import Derived.Shelf.SlSortCmp.NoneTotal
import Derived.Lib.RowBridge
import Derived.Lib.SortBridge
namespace Go.Proofs.Ytogpgldbbegniaa
open Go.RowKit

theorem grown_grow (w : World) (os : Array Obj) : w.grownBy (Go.Sort.grow w os) none := ⟨rfl, rfl, rfl, by rw [Go.Sort.size_grow]; omega, fun k hk _ => Go.Sort.heap_grow_old w os hk⟩
theorem sorted_own {w : World} {base g n cap q : Nat} {xs vs : List Value} {os : Array Obj} (h : w.ownsRow base 3 1 (.slice (some ⟨g, 0, none⟩) n cap) n xs) (hv : vs.length = n) : (Go.Sort.grow ((w.drewN q).setCells g 0 vs) os).ownsRow base 3 1 (.slice (some ⟨g, 0, none⟩) n cap) n vs ∧ w.grownBy (Go.Sort.grow ((w.drewN q).setCells g 0 vs) os) (some g) := by
  have h0 : (w.drewN q).ownsRow base 3 1 (.slice (some ⟨g, 0, none⟩) n cap) n xs := h
  obtain ⟨h1, h2⟩ := own_setCells vs xs 0 _ h0
  rw [setFrom_all (by rw [hv, h.1]; omega)] at h1
  have k := grown_grow ((w.drewN q).setCells g 0 vs) os
  refine ⟨World.ownsRow.kept h1 k (Or.inr (by simp [Value.ownBlock])), ?_⟩
  have h3 : w.grownBy ((w.drewN q).setCells g 0 vs) (some g) := grown_trans (grown_drewN w q _) h2
  exact grown_trans h3 ⟨k.os, k.tape, k.output, k.size, fun i hi _ => k.block i hi (by simp)⟩
theorem own_holds {w : World} {base g n cap : Nat} {l : List Int} (h : w.ownsRow base 3 1 (.slice (some ⟨g, 0, none⟩) n cap) n (ints l)) (hn : l.length = n) : Go.Sort.Holds (Value.int .i64) w g 0 l.toArray := by
  intro j hj
  have hj' : j < l.length := by simpa using hj
  rw [Nat.zero_add]
  refine ⟨?_, World.ownsRow.frozenAt h j⟩
  rw [World.ownsRow.cellAt h j (by omega), ints_at l j hj']
  simp [List.getD, hj']
theorem own_glt {w : World} {base g n cap : Nat} {xs : List Value} (h : w.ownsRow base 3 1 (.slice (some ⟨g, 0, none⟩) n cap) n xs) : g < w.heap.size ∧ base ≤ g := by
  have := World.ownsRow.lt h g rfl
  exact ⟨this.2, this.1⟩
theorem sortI_any (base g n cap : Nat) (l : List Int) (w : World) (h : w.ownsRow base 3 1 (.slice (some ⟨g, 0, none⟩) n cap) n (ints l)) (hn : l.length = n) (hs : n < 4611686018427387904) : Calls Try.prog 102 #[.slice (some ⟨g, 0, none⟩) n cap] w fun e w' => e = .returned (.tuple #[]) ∧ w'.ownsRow base 3 1 (.slice (some ⟨g, 0, none⟩) n cap) n (ints (srt l)) ∧ w.grownBy w' (some g) := by
  have hH := own_holds h hn
  have hS := AnyG.slices_Sort_int Try.sortI g 0 cap l w hH (own_glt h).1 (by omega)
  change Calls Try.prog 102 _ _ _ at hS
  rw [hn] at hS
  refine hS.mono ?_
  rintro e w' ⟨rfl, q, os, rfl⟩
  rw [Lib.sorted_world (Value.int .i64) w g 0 q l.toArray _ os hH (by simp)]
  exact ⟨rfl, sorted_own h (by rw [List.length_map, ← hn]; exact srt_len l)⟩
theorem equalI_any (g n m cap : Nat) (v : Value) (base base' : Nat) (l r : List Int) (w : World) (h : w.ownsRow base 3 1 (.slice (some ⟨g, 0, none⟩) n cap) n (ints l)) (hn : l.length = n) (k : w.ownsRow base' 3 1 v m (ints r)) (hm : r.length = m) : Calls Try.prog 103 #[.slice (some ⟨g, 0, none⟩) n cap, v] w fun e w' => e = .returned (.bool (decide (l = r))) ∧ w.grownBy w' none := by
  obtain ⟨pv, cv, rfl, hml⟩ := own_slice k
  obtain ⟨_, _, _, hnl⟩ := own_slice h
  unfold maxLen at hml hnl
  by_cases h0 : n = 0
  · subst h0
    have hS := AnyG.slices_Equal_int_empty Try.equalL (some ⟨g, 0, none⟩) pv cap m cv w hml
    change Calls Try.prog 103 _ _ _ at hS
    refine hS.mono ?_
    rintro e w' ⟨rfl, rfl⟩
    refine ⟨?_, grown_refl _ _⟩
    have e1 : l = [] := List.length_eq_zero_iff.1 hn
    subst e1
    congr 2
    rw [← hm]
    simp [eq_comm]
  · by_cases h1 : m = 0
    · subst h1
      have e1 : r = [] := List.length_eq_zero_iff.1 hm
      subst e1
      have hl : l ≠ [] := fun e => h0 (by rw [← hn, e]; rfl)
      have hb : ((n : Int) == ((0 : Nat) : Int)) = false := by simpa using h0
      rw [decide_eq_false hl]
      clear h k hl hn hm hml hnl
      have hb2 : ((n : Int) == 0) = false := hb
      have hb3 : ((n : Int) != 0) = true := by simp [bne, hb2]
      go_enter Try.func103, Try.ntmps103
      go_wp2
      go_ret
      exact ⟨rfl, grown_refl _ _⟩
    · obtain ⟨g', cv', e1, _, _, _, _, hc⟩ := own_cell k (by omega)
      cases e1
      have hS := AnyG.slices_Equal_int Try.equalL g 0 n cap g' 0 m cv l r w (by omega) (by omega) hnl hml (fun j hj => by rw [Nat.zero_add, World.ownsRow.cellAt h j (by omega)]; exact ints_at l j hj) (fun j hj => by rw [Nat.zero_add, (hc j (by omega)).1]; exact ints_at r j hj)
      change Calls Try.prog 103 _ _ _ at hS
      refine hS.mono ?_
      rintro e w' ⟨rfl, q, rfl⟩
      rw [List.take_of_length_le (by omega), List.take_of_length_le (by omega)]
      refine ⟨?_, grown_drewN _ _ _⟩
      congr 2
      by_cases e2 : l = r
      · simp [e2]
      · simp [e2]
set_option maxRecDepth 100000 in
set_option maxHeartbeats 2000000 in
theorem cmpSt_any (W : World) (c b g off len cap i j : Nat) (sx sy : Int) (hi : i < len) (hj : j < len) (hl : len ≤ 2048) (cc : W.cell? ⟨c, 0, none⟩ = some (.pointer (some ⟨b, 0, none⟩))) (c0 : W.cell? ⟨b, 0, none⟩ = some (.slice (some ⟨g, off, none⟩) len cap)) (cx : W.cell? ⟨g, off + i * 11 + 3, none⟩ = some (.int .i64 sx)) (cy : W.cell? ⟨g, off + j * 11 + 3, none⟩ = some (.int .i64 sy)) : Calls Try.prog 100 #[.int .i64 ((i : Int) + 1), .int .i64 ((j : Int) + 1), .pointer (some ⟨c, 0, none⟩)] W fun e w' => e = .returned (.int .i64 (Lib.compareInt sx sy)) ∧ ∃ q, w' = W.drewN q := by
  have hcon := AnyG.cmp_Compare_int Try.cmpL sx sy
  change ∀ w, Calls Try.prog 101 _ _ _ at hcon
  obtain ⟨r, hr⟩ : ∃ r, r = Lib.compareInt sx sy := ⟨_, rfl⟩
  rw [← hr] at hcon ⊢
  clear hr
  have hw1 : IntKind.i64.wrap (i : Int) = (i : Int) := IntWalk.i64_in _ (by omega)
  have hw2 : IntKind.i64.wrap (j : Int) = (j : Int) := IntWalk.i64_in _ (by omega)
  have hi' : (i : Int) < len := by omega
  have hj' : (j : Int) < len := by omega
  go_enter Try.func100, Try.ntmps100
  go_wp2
  go_quiet ((go_at_call 101; exact Calls.quiet_of_same (hcon _)))
  go_wp2
  go_ret
  exact ⟨rfl, nq, rfl⟩
end Go.Proofs.Ytogpgldbbegniaa
