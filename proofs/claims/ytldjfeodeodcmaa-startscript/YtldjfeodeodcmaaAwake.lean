/-
  What the document's examples say of a log (the helper awake): it answers true, in any world, and touches nothing that was there.
-/
import Derived.Test.YtldjfeodeodcmaaLists
namespace Go.Proofs.Ytldjfeodeodcmaa
open Go.RowKit
theorem grown_own {a b c : World} {r : Option Nat} (h : a.grownBy b none) (k : b.grownBy c r) (hr : ∀ x, r = some x → a.heap.size ≤ x) : a.grownBy c none :=
  ⟨k.os.trans h.os, k.tape.trans h.tape, k.output.trans h.output, Nat.le_trans h.size k.size, fun i hi _ => (k.block i (Nat.lt_of_lt_of_le hi h.size) (fun e => by have := hr i e.symm; omega)).trans (h.block i hi (by simp))⟩
theorem IntsAt.keep {w w' : World} {v : Value} {l : List Int} {r : Option Nat} (h : IntsAt w v l) (hg : w.grownBy w' r) (hr : ∀ x, r = some x → v.ownBlock ≠ some x) : IntsAt w' v l := by
  obtain ⟨p, cap, rfl, hm, hp⟩ := h
  refine ⟨p, cap, rfl, hm, fun h0 => ?_⟩
  obtain ⟨g, off, rfl, hc⟩ := hp h0
  exact ⟨g, off, rfl, fun j hj => hg.cell (hc j hj) (fun e => hr g e.symm rfl)⟩
theorem IntsAt.lit (w : World) (l : List Int) (hl : l.length ≤ 4294967296) : IntsAt (w.alloc (.cells (ints l).toArray 3)) (.slice (some ⟨w.heap.size, 0, none⟩) l.length l.length) l :=
  IntsAt.whole (by show (w.heap.push _)[w.heap.size]? = _; rw [Array.getElem?_push_size]) (small_maxLen hl)
set_option maxRecDepth 100000 in
set_option maxHeartbeats 1000000 in
theorem awake_any (w : World) : Calls Try.prog 15 #[] w fun e w' => e = .returned (.bool true) ∧ w.grownBy w' none := by
  go_enter Try.func15, Try.ntmps15
  go_wp2_with fail
  refine (new_any _).mono ?_
  rintro e w1 ⟨rfl, L1, G1, _⟩
  generalize hb : w.heap.size = b at *
  have HB : Hid (w.heap.size = b) := hb
  clear hb
  go_wp2_with fail
  refine (note_ok b [] 7 w1 L1 (by simp)).mono ?_
  rintro e w2 ⟨rfl, L2, g2⟩
  have G2 := grown_own G1 g2 (fun x hx => by cases hx; exact Nat.le_of_eq HB.out)
  go_wp2_with fail
  refine (note_ok b _ (-3) w2 L2 (by simp)).mono ?_
  rintro e w3 ⟨rfl, L3, g3⟩
  have G3 := grown_own G2 g3 (fun x hx => by cases hx; exact Nat.le_of_eq HB.out)
  go_wp2_with fail
  refine (note_ok b _ 7 w3 L3 (by simp)).mono ?_
  rintro e w4 ⟨rfl, L4, g4⟩
  have G4 := grown_own G3 g4 (fun x hx => by cases hx; exact Nat.le_of_eq HB.out)
  clear L1 L2 L3 g2 g3 g4 G1 G2 G3
  have L : LogAt w4 b [7, -3, 7] false := L4
  clear L4
  go_wp2_with fail
  refine (list_log b _ _ w4 L).mono ?_
  rintro e w5 ⟨rfl, B5, g5⟩
  have L5 := L.keep g5 (by simp)
  have G5 := grown_own G4 g5 (by simp)
  have I5 : IntsAt w5 (.slice (some ⟨w4.heap.size, 0, none⟩) [7, -3, 7].length [7, -3, 7].length) [7, -3, 7] := IntsAt.whole B5 (small_maxLen (by simp))
  have HB5 := block_lt B5
  clear B5 g5 L G4
  generalize hg4 : w4.heap.size = s4 at *
  clear hg4
  simp only [List.length_cons, List.length_nil, Nat.zero_add, Nat.reduceAdd] at I5 ⊢
  go_wp2_with fail
  have ga : w5.grownBy (w5.alloc (Obj.cells #[Value.int IntKind.i64 7, Value.int IntKind.i64 (-3), Value.int IntKind.i64 7] 3)) none := World.grownBy_alloc _ _ _
  refine (same_ints _ _ [7, -3, 7] [7, -3, 7] _ (I5.keep ga (by simp)) (IntsAt.lit w5 [7, -3, 7] (by simp))).mono ?_
  rintro e w6 ⟨rfl, n6, hw6⟩
  have g6 : w5.grownBy w6 none := by rw [hw6]; exact grown_trans ga (grown_drewN _ _ _)
  have L6 := L5.keep g6 (by simp)
  have G6 := grown_own G5 g6 (by simp)
  clear hw6 g6 ga L5 G5 I5 HB5
  go_wp2_with fail
  refine (first_log b _ _ 7 w6 L6).mono ?_
  rintro e w7 ⟨rfl, rfl⟩
  have f7 : first [7, -3, 7] 7 = 0 := by decide
  have f3 : first [7, -3, 7] 3 = -1 := by decide
  go_wp2_with fail
  refine (first_log b _ _ 3 w7 L6).mono ?_
  rintro e w8 ⟨rfl, rfl⟩
  go_wp2_with fail
  refine (closed_log b _ _ w8 L6).mono ?_
  rintro e w9 ⟨rfl, rfl⟩
  go_wp2_with fail
  refine (close_log b _ _ w9 L6).mono ?_
  rintro e w10 ⟨rfl, L10, g10⟩
  have G10 := grown_own G6 g10 (fun x hx => by cases hx; exact Nat.le_of_eq HB.out)
  clear g10 G6 L6
  go_wp2_with fail
  refine (note_closed b _ 1 w10 L10).mono ?_
  rintro e w11 ⟨rfl, rfl⟩
  go_wp2_with fail
  refine (closed_log b _ _ w11 L10).mono ?_
  rintro e w12 ⟨rfl, rfl⟩
  go_wp2_with fail
  refine (list_log b _ _ w12 L10).mono ?_
  rintro e w13 ⟨rfl, B13, g13⟩
  have G13 := grown_own G10 g13 (by simp)
  have I13 : IntsAt w13 (.slice (some ⟨w12.heap.size, 0, none⟩) [7, -3, 7].length [7, -3, 7].length) [7, -3, 7] := IntsAt.whole B13 (small_maxLen (by simp))
  clear B13 g13 G10
  generalize hg12 : w12.heap.size = s12 at *
  clear hg12
  simp only [List.length_cons, List.length_nil, Nat.zero_add, Nat.reduceAdd] at I13 ⊢
  go_wp2_with fail
  have ga : w13.grownBy (w13.alloc (Obj.cells #[Value.int IntKind.i64 7, Value.int IntKind.i64 (-3), Value.int IntKind.i64 7] 3)) none := World.grownBy_alloc _ _ _
  refine (same_ints _ _ [7, -3, 7] [7, -3, 7] _ (I13.keep ga (by simp)) (IntsAt.lit w13 [7, -3, 7] (by simp))).mono ?_
  rintro e w14 ⟨rfl, n14, hw14⟩
  have G14 : w.grownBy w14 none := by rw [hw14]; exact grown_own G13 (grown_trans ga (grown_drewN _ _ _)) (by simp)
  clear hw14 ga I13
  go_wp2
  go_ret
  exact ⟨rfl, G14⟩
end Go.Proofs.Ytldjfeodeodcmaa
