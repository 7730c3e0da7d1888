/-
  Zones: New, of any two lists; the chapter's first example: lives.
-/
import Derived.Test.YtogpgldbbegniaaZmS
namespace Go.Proofs.Ytogpgldbbegniaa
open Go.RowKit

theorem new_any (v1 v2 : Value) (one two : List Int) (w : World) (h1 : IntsA w v1 one) (h2 : IntsA w v2 two) (b1 : (one.length + 2) * 8 ≤ 140737488355328) (b2 : (two.length + 2) * 8 ≤ 140737488355328) : Calls Try.prog 7 #[v1, v2] w (NwPost w one two) := by
  by_cases hl : 2048 < one.length + two.length
  · exact new_long v1 v2 one two w h1 h2 b1 b2 hl
  · cases q1 : (!one.any fun c => decide (c < 1)) with
    | false => exact new_bad1 v1 v2 one two w h1 h2 b1 b2 hl q1
    | true =>
      cases q2 : (!two.any fun c => decide (c < 1)) with
      | false => exact new_bad2 v1 v2 one two w h1 h2 b1 b2 hl q1 q2
      | true => exact new_good v1 v2 one two w h1 h2 b1 b2 hl q1 q2
/-- A list that is written out. -/
theorem lit_own (w : World) (l : List Int) (hl : l.length ≤ maxLen) : OwnI (w.alloc (.cells (ints l).toArray 3)) w.heap.size (.slice (some ⟨w.heap.size, 0, none⟩) l.length l.length) l :=
  block_ownK (alloc_at _ _ _) (by rw [length_ints, Nat.mul_one]) hl
theorem OwnI.grow {w w' : World} {base : Nat} {v : Value} {l : List Int} (h : OwnI w base v l) (g : w.grownBy w' none) : OwnI w' base v l := own_grow h g
theorem tabF_eq {z : Zs} (S : z.Sound) {l : List Int} (h1 : l.Perm (tabN z.ts)) (h2 : l.Pairwise fun a b => stOf z.ts a ≤ stOf z.ts b) : tabF z.ts = l := tab_one S.tab_is (tab_of S h1 h2)
def z1a : Zs := newZ [7, 8, 9] [5]
theorem z1a_sound : z1a.Sound := newE_ok (by decide)
theorem z1b_moveE : z1a.moveE 2 4 = 0 := by decide
theorem z1b_tab : tabF (z1a.move 2 4).ts = [2] := tabF_eq (z1a_sound.move 2 4) (by decide) (by decide)
theorem small3 {l : List Int} (h : l.length ≤ 100) : l.length ≤ maxLen := by unfold maxLen; omega
theorem Turn.keep {w w' : World} {S S' : List Nat} (h : Turn w w' S S') {m : Nat} (hS : ∀ x, x ∈ S → m ≤ x) (hm : m ≤ w.heap.size) : ∀ x, x ∈ S' → m ≤ x := fun x hx => by
  rcases h.new x hx with q | q
  · exact hS x q
  · omega
/-- Nothing of elder memory has turned. -/
theorem Turn.grown {u w w' : World} {S S' : List Nat} (h : Turn w w' S S') (g : u.grownBy w none) (hS : ∀ x, x ∈ S → u.heap.size ≤ x) : u.grownBy w' none := Kpt.new g h.kpt hS
set_option maxRecDepth 100000 in
set_option maxHeartbeats 4000000 in
theorem lives_any (w : World) : Calls Try.prog 6 #[] w fun e w' => e = .returned (.bool true) ∧ w.grownBy w' none := by
  obtain ⟨W, hW⟩ : ∃ W, W = (w.alloc (.cells #[.int .i64 7, .int .i64 8, .int .i64 9] 3)).alloc (.cells #[.int .i64 5] 3) := ⟨_, rfl⟩
  have HG : Hid (w.grownBy W none) := by show w.grownBy W none; rw [hW]; exact grown_push (World.grownBy_alloc _ _ none) _
  have o1 : OwnI W 0 (.slice (some ⟨w.heap.size, 0, none⟩) 3 3) [7, 8, 9] := by rw [hW]; exact own_zero (World.ownsRow.alloc (lit_own w [7, 8, 9] (by decide)) _)
  have o2 : OwnI W 0 (.slice (some ⟨w.heap.size + 1, 0, none⟩) 1 1) [5] := by
    have := lit_own (w.alloc (.cells #[.int .i64 7, .int .i64 8, .int .i64 9] 3)) [5] (by decide)
    rw [World.size_alloc] at this
    rw [hW]
    exact own_zero this
  have CN := new_any _ _ _ _ W (own_small o1) (own_small o2) (by decide) (by decide)
  have HCD : Hid (∀ b S w1, ZAt w1 b S z1a → Calls Try.prog 25 #[.pointer (some ⟨b, 0, none⟩), .int .i64 0] w1 (InPost w1 [1, 2, 3])) := fun b S w1 Z => pDeck_any b S z1a 0 w1 Z z1a_sound
  have HCM : Hid (∀ b S w1, ZAt w1 b S z1a → Old w1 S → Calls Try.prog 26 #[.pointer (some ⟨b, 0, none⟩), .int .i64 2, .int .u8 4] w1 (TnPost w1 b S (z1a.move 2 4) (.int .i64 0))) := fun b S w1 Z hS => by
    have := move_any b S z1a 2 4 w1 Z z1a_sound hS
    rw [z1b_moveE] at this
    exact this
  have HCT : Hid (∀ b S w1, ZAt w1 b S (z1a.move 2 4) → Calls Try.prog 27 #[.pointer (some ⟨b, 0, none⟩)] w1 (InPost w1 [2])) := fun b S w1 Z => by
    have := table_any b S (z1a.move 2 4) w1 Z (z1a_sound.move 2 4)
    rw [z1b_tab] at this
    exact this
  have HCS : Hid (∀ b S w1, ZAt w1 b S (z1a.move 2 4) → Calls Try.prog 28 #[.pointer (some ⟨b, 0, none⟩)] w1 fun e w' => e = .returned (.int .i64 2) ∧ w' = w1) := fun b S w1 Z => by
    obtain ⟨vt, d0, d1, h0, h1, Z⟩ := Z
    have h5 : (z1a.move 2 4).nx = 2 := by decide
    have := stamp_any b (z1a.move 2 4).nx w1 Z.cell.2.2.2.2.2 (by rw [h5]; decide)
    rw [h5] at this
    exact this
  have HNE : Hid (newE [7, 8, 9] [5] = 0) := (show newE [7, 8, 9] [5] = 0 by decide)
  rw [hW] at CN
  have HWe : Hid (W = (w.alloc (.cells #[.int .i64 7, .int .i64 8, .int .i64 9] 3)).alloc (.cells #[.int .i64 5] 3)) := hW
  clear o1 o2 hW
  go_enter Try.func6, Try.ntmps6
  go_wp2_with fail
  refine CN.mono ?_
  rintro e w1 (⟨_, b, S, rfl, Z, hn, ho, g1⟩ | ⟨q, _⟩)
  · rw [← HWe.out] at hn g1
    have HZ : Hid (ZAt w1 b S z1a) := Z
    have HN : Hid ((∀ x, x ∈ S → w.heap.size ≤ x) ∧ Old w1 S ∧ w.grownBy w1 none) := ⟨fun x hx => Nat.le_trans HG.out.size (hn x hx), ho, grown_trans HG.out g1⟩
    have C1 := HCD.out b S w1 Z
    clear Z hn ho g1 CN HCD HWe
    go_wp2_with fail
    refine C1.mono ?_
    rintro e w2 ⟨v2, rfl, o2, g2⟩
    have HO2 : Hid (OwnI w2 w1.heap.size v2 [1, 2, 3]) := o2
    have HG2 : Hid (w1.grownBy w2 none) := g2
    obtain ⟨p2, c2, rfl⟩ := o2.form
    have C2 := L.same_ints (.slice p2 3 c2) (.slice (some ⟨w2.heap.size, 0, none⟩) 3 3) [1, 2, 3] [1, 2, 3] (w2.alloc (.cells #[.int .i64 1, .int .i64 2, .int .i64 3] 3)) ((HO2.out.lay _).l.ints) ((lit_own w2 [1, 2, 3] (by decide)).l.ints)
    rw [decide_eq_true rfl] at C2
    clear o2 g2 C1
    go_wp2_with fail
    refine C2.mono ?_
    rintro e w3 ⟨rfl, n3, h3⟩
    have HG3 : Hid (w1.grownBy w3 none) := by show w1.grownBy w3 none; rw [h3]; exact grown_trans (grown_push HG2.out _) (grown_drewN _ _ _)
    have C3 := HCM.out b S w3 (HZ.out.grow HG3.out) (fun x hx => Nat.lt_of_lt_of_le (HN.out.2.1 x hx) HG3.out.size)
    clear h3 C2 HCM
    go_wp2_with fail
    refine C3.mono ?_
    rintro e w4 ⟨rfl, S4, Z4, T4⟩
    have HZ4 : Hid (ZAt w4 b S4 (z1a.move 2 4)) := Z4
    have HN4 : Hid (w.grownBy w4 none) := T4.grown (grown_trans HN.out.2.2 HG3.out) HN.out.1
    have C4 := HCT.out b S4 w4 Z4
    clear Z4 T4 C3 HCT
    go_wp2_with fail
    refine C4.mono ?_
    rintro e w5 ⟨v5, rfl, o5, g5⟩
    have HO5 : Hid (OwnI w5 w4.heap.size v5 [2]) := o5
    have HG5 : Hid (w4.grownBy w5 none) := g5
    obtain ⟨p5, c5, rfl⟩ := o5.form
    have C5 := L.same_ints (.slice p5 1 c5) (.slice (some ⟨w5.heap.size, 0, none⟩) 1 1) [2] [2] (w5.alloc (.cells #[.int .i64 2] 3)) ((HO5.out.lay _).l.ints) ((lit_own w5 [2] (by decide)).l.ints)
    rw [decide_eq_true rfl] at C5
    clear o5 g5 C4
    go_wp2_with fail
    refine C5.mono ?_
    rintro e w6 ⟨rfl, n6, h6⟩
    have HG6 : Hid (w4.grownBy w6 none) := by show w4.grownBy w6 none; rw [h6]; exact grown_trans (grown_push HG5.out _) (grown_drewN _ _ _)
    have C6 := HCS.out b S4 w6 (HZ4.out.grow HG6.out)
    clear h6 C5 HCS
    go_wp2_with fail
    refine C6.mono ?_
    rintro e w7 ⟨rfl, h7⟩
    have HF : Hid (w.grownBy w7 none) := by show w.grownBy w7 none; rw [h7]; exact grown_trans HN4.out HG6.out
    clear h7 C6
    go_wp2_with fail
    go_ret
    exact ⟨rfl, HF.out⟩
  · exact absurd HNE.out q
end Go.Proofs.Ytogpgldbbegniaa
