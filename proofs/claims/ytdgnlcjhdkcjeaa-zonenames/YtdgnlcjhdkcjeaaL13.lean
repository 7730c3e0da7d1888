/-
  Zones: New, of any two lists; the chapter's first example: lives.
  When two things are the same: Go's own test of two structs.
  What is no zones: each call's answer; ZoneNil.
  Lists of numbers, read as data: where they lie, how long they may be; numbers of 64 bits.
-/
import Derived.Test.YtdgnlcjhdkcjeaaZmS
import Derived.Laws.StructEq
import Derived.ChangeKeysEq
import Derived.Test.YtdgnlcjhdkcjeaaL0
import Derived.Test.YtdgnlcjhdkcjeaaL1
import Derived.ChangeSlices
import Derived.ProofKit
import Derived.OpenShut
import Derived.ChangeOld
import Derived.ChangeAt
import Derived.Deep.Slices
import Derived.SizedLaws
namespace Go.Proofs.Ytdgnlcjhdkcjeaa
open Go.RowKit

theorem new_any (v1 v2 : Value) (one two : List Int) (w : World) (h1 : IntsA w v1 one) (h2 : IntsA w v2 two) (b1 : (one.length + 2) * 8 ≤ 140737488355328) (b2 : (two.length + 2) * 8 ≤ 140737488355328) : Calls Try.prog 6 #[v1, v2] w (NwPost w one two) := by
  by_cases hl : 2048 < one.length + two.length
  · exact new_long v1 v2 one two w h1 h2 b1 b2 hl
  · cases q1 : (!one.any fun c => decide (c < 1)) with
    | false => exact new_bad1 v1 v2 one two w h1 h2 b1 b2 hl q1
    | true =>
      cases q2 : (!two.any fun c => decide (c < 1)) with
      | false => exact new_bad2 v1 v2 one two w h1 h2 b1 b2 hl q1 q2
      | true => exact new_good v1 v2 one two w h1 h2 b1 b2 hl q1 q2
/-- A list that is written out. -/
theorem lit_own (w : World) (l : List Int) (hl : l.length ≤ maxLen) : OwnI (w.alloc (.cells (ints l).toArray 3)) w.heap.size (.slice (some ⟨w.heap.size, 0, none⟩) l.length l.length) l :=
  block_ownK (alloc_at _ _ _) (by rw [length_ints, Nat.mul_one]) hl
theorem OwnI.grow {w w' : World} {base : Nat} {v : Value} {l : List Int} (h : OwnI w base v l) (g : w.grownBy w' none) : OwnI w' base v l := own_grow h g
theorem tabF_eq {z : Zs} (S : z.Sound) {l : List Int} (h1 : l.Perm (tabN z.ts)) (h2 : l.Pairwise fun a b => stOf z.ts a ≤ stOf z.ts b) : tabF z.ts = l := tab_one S.tab_is (tab_of S h1 h2)
def z1a : Zs := newZ [7, 8, 9] [5]
theorem z1a_sound : z1a.Sound := newE_ok (by decide)
theorem z1b_moveE : z1a.moveE 2 4 = 0 := by decide
theorem z1b_tab : tabF (z1a.move 2 4).ts = [2] := tabF_eq (z1a_sound.move 2 4) (by decide) (by decide)
theorem small3 {l : List Int} (h : l.length ≤ 100) : l.length ≤ maxLen := by unfold maxLen; omega
theorem Turn.keep {w w' : World} {S S' : List Nat} (h : Turn w w' S S') {m : Nat} (hS : ∀ x, x ∈ S → m ≤ x) (hm : m ≤ w.heap.size) : ∀ x, x ∈ S' → m ≤ x := fun x hx => by
  rcases h.new x hx with q | q
  · exact hS x q
  · omega
/-- Nothing of elder memory has turned. -/
theorem Turn.grown {u w w' : World} {S S' : List Nat} (h : Turn w w' S S') (g : u.grownBy w none) (hS : ∀ x, x ∈ S → u.heap.size ≤ x) : u.grownBy w' none := Kpt.new g h.kpt hS
set_option maxRecDepth 100000 in
set_option maxHeartbeats 4000000 in
theorem lives_any (w : World) : Calls Try.prog 7 #[] w fun e w' => e = .returned (.bool true) ∧ w.grownBy w' none := by
  obtain ⟨W, hW⟩ : ∃ W, W = (w.alloc (.cells #[.int .i64 7, .int .i64 8, .int .i64 9] 3)).alloc (.cells #[.int .i64 5] 3) := ⟨_, rfl⟩
  have HG : Hid (w.grownBy W none) := by show w.grownBy W none; rw [hW]; exact grown_push (World.grownBy_alloc _ _ none) _
  have o1 : OwnI W 0 (.slice (some ⟨w.heap.size, 0, none⟩) 3 3) [7, 8, 9] := by rw [hW]; exact own_zero (World.ownsRow.alloc (lit_own w [7, 8, 9] (by decide)) _)
  have o2 : OwnI W 0 (.slice (some ⟨w.heap.size + 1, 0, none⟩) 1 1) [5] := by
    have := lit_own (w.alloc (.cells #[.int .i64 7, .int .i64 8, .int .i64 9] 3)) [5] (by decide)
    rw [World.size_alloc] at this
    rw [hW]
    exact own_zero this
  have CN := new_any _ _ _ _ W (own_small o1) (own_small o2) (by decide) (by decide)
  have HCD : Hid (∀ b S w1, ZAt w1 b S z1a → Calls Try.prog 9 #[.pointer (some ⟨b, 0, none⟩), .int .i64 0] w1 (InPost w1 [1, 2, 3])) := fun b S w1 Z => pDeck_any b S z1a 0 w1 Z z1a_sound
  have HCM : Hid (∀ b S w1, ZAt w1 b S z1a → Old w1 S → Calls Try.prog 12 #[.pointer (some ⟨b, 0, none⟩), .int .i64 2, .int .u8 4] w1 (TnPost w1 b S (z1a.move 2 4) (.int .i64 0))) := fun b S w1 Z hS => by
    have := move_any b S z1a 2 4 w1 Z z1a_sound hS
    rw [z1b_moveE] at this
    exact this
  have HCT : Hid (∀ b S w1, ZAt w1 b S (z1a.move 2 4) → Calls Try.prog 15 #[.pointer (some ⟨b, 0, none⟩)] w1 (InPost w1 [2])) := fun b S w1 Z => by
    have := table_any b S (z1a.move 2 4) w1 Z (z1a_sound.move 2 4)
    rw [z1b_tab] at this
    exact this
  have HCS : Hid (∀ b S w1, ZAt w1 b S (z1a.move 2 4) → Calls Try.prog 11 #[.pointer (some ⟨b, 0, none⟩)] w1 fun e w' => e = .returned (.int .i64 2) ∧ w' = w1) := fun b S w1 Z => by
    obtain ⟨vt, d0, d1, h0, h1, Z⟩ := Z
    have h5 : (z1a.move 2 4).nx = 2 := by decide
    have := stamp_any b (z1a.move 2 4).nx w1 Z.cell.2.2.2.2.2 (by rw [h5]; decide)
    rw [h5] at this
    exact this
  have HNE : Hid (newE [7, 8, 9] [5] = 0) := (show newE [7, 8, 9] [5] = 0 by decide)
  rw [hW] at CN
  have HWe : Hid (W = (w.alloc (.cells #[.int .i64 7, .int .i64 8, .int .i64 9] 3)).alloc (.cells #[.int .i64 5] 3)) := hW
  clear o1 o2 hW
  go_enter Try.func7, Try.ntmps7
  go_wp2_with fail
  refine CN.mono ?_
  rintro e w1 (⟨_, b, S, rfl, Z, hn, ho, g1⟩ | ⟨q, _⟩)
  · rw [← HWe.out] at hn g1
    have HZ : Hid (ZAt w1 b S z1a) := Z
    have HN : Hid ((∀ x, x ∈ S → w.heap.size ≤ x) ∧ Old w1 S ∧ w.grownBy w1 none) := ⟨fun x hx => Nat.le_trans HG.out.size (hn x hx), ho, grown_trans HG.out g1⟩
    have C1 := HCD.out b S w1 Z
    clear Z hn ho g1 CN HCD HWe
    go_wp2_with fail
    refine C1.mono ?_
    rintro e w2 ⟨v2, rfl, o2, g2⟩
    have HO2 : Hid (OwnI w2 w1.heap.size v2 [1, 2, 3]) := o2
    have HG2 : Hid (w1.grownBy w2 none) := g2
    obtain ⟨p2, c2, rfl⟩ := o2.form
    have C2 := L.same_ints (.slice p2 3 c2) (.slice (some ⟨w2.heap.size, 0, none⟩) 3 3) [1, 2, 3] [1, 2, 3] (w2.alloc (.cells #[.int .i64 1, .int .i64 2, .int .i64 3] 3)) ((HO2.out.lay _).l.ints) ((lit_own w2 [1, 2, 3] (by decide)).l.ints)
    rw [decide_eq_true rfl] at C2
    clear o2 g2 C1
    go_wp2_with fail
    refine C2.mono ?_
    rintro e w3 ⟨rfl, n3, h3⟩
    have HG3 : Hid (w1.grownBy w3 none) := by show w1.grownBy w3 none; rw [h3]; exact grown_trans (grown_push HG2.out _) (grown_drewN _ _ _)
    have C3 := HCM.out b S w3 (HZ.out.grow HG3.out) (fun x hx => Nat.lt_of_lt_of_le (HN.out.2.1 x hx) HG3.out.size)
    clear h3 C2 HCM
    go_wp2_with fail
    refine C3.mono ?_
    rintro e w4 ⟨rfl, S4, Z4, T4⟩
    have HZ4 : Hid (ZAt w4 b S4 (z1a.move 2 4)) := Z4
    have HN4 : Hid (w.grownBy w4 none) := T4.grown (grown_trans HN.out.2.2 HG3.out) HN.out.1
    have C4 := HCT.out b S4 w4 Z4
    clear Z4 T4 C3 HCT
    go_wp2_with fail
    refine C4.mono ?_
    rintro e w5 ⟨v5, rfl, o5, g5⟩
    have HO5 : Hid (OwnI w5 w4.heap.size v5 [2]) := o5
    have HG5 : Hid (w4.grownBy w5 none) := g5
    obtain ⟨p5, c5, rfl⟩ := o5.form
    have C5 := L.same_ints (.slice p5 1 c5) (.slice (some ⟨w5.heap.size, 0, none⟩) 1 1) [2] [2] (w5.alloc (.cells #[.int .i64 2] 3)) ((HO5.out.lay _).l.ints) ((lit_own w5 [2] (by decide)).l.ints)
    rw [decide_eq_true rfl] at C5
    clear o5 g5 C4
    go_wp2_with fail
    refine C5.mono ?_
    rintro e w6 ⟨rfl, n6, h6⟩
    have HG6 : Hid (w4.grownBy w6 none) := by show w4.grownBy w6 none; rw [h6]; exact grown_trans (grown_push HG5.out _) (grown_drewN _ _ _)
    have C6 := HCS.out b S4 w6 (HZ4.out.grow HG6.out)
    clear h6 C5 HCS
    go_wp2_with fail
    refine C6.mono ?_
    rintro e w7 ⟨rfl, h7⟩
    have HF : Hid (w.grownBy w7 none) := by show w.grownBy w7 none; rw [h7]; exact grown_trans HN4.out HG6.out
    clear h7 C6
    go_wp2_with fail
    go_ret
    exact ⟨rfl, HF.out⟩
  · exact absurd HNE.out q
end Go.Proofs.Ytdgnlcjhdkcjeaa
namespace Go.Proofs.Ytdgnlcjhdkcjeaa
open Go.RowKit

/-- Are two things the same? -/
def samet (t u : Th) : Bool := decide (t.card = u.card ∧ t.owner = u.owner ∧ t.place = u.place ∧ t.stamp = u.stamp ∧ t.hurt = u.hurt ∧ (t.m0 = u.m0 ∧ t.m1 = u.m1 ∧ t.m2 = u.m2 ∧ t.m3 = u.m3) ∧ t.done = u.done ∧ t.fresh = u.fresh)
theorem samet_iff {t u : Th} : samet t u = true ↔ t = u := by
  unfold samet
  rw [decide_eq_true_iff]
  constructor
  · rintro ⟨h1, h2, h3, h4, h5, ⟨h6, h7, h8, h9⟩, h10, h11⟩
    cases t
    cases u
    simp only at h1 h2 h3 h4 h5 h6 h7 h8 h9 h10 h11
    subst h1 h2 h3 h4 h5 h6 h7 h8 h9 h10 h11
    rfl
  · rintro rfl
    simp
theorem samet_yes {t u : Th} (h : t = u) : samet t u = true := samet_iff.2 h
theorem samet_no {t u : Th} (h : ¬ t = u) : samet t u = false := Bool.eq_false_iff.2 fun q => h (samet_iff.1 q)
theorem eqg_th (op : BinOp) (x y : Operand) (xs ys : Array Value) (w : World) : (eqGuard op 35 x y (.agg xs) (.agg ys)).run Try.prog w = .ok () w := run_eqGuard_agg w op 35 x y xs ys (by kernel_rfl)
set_option maxHeartbeats 1000000 in
theorem equalIn_four (a0 a1 a2 a3 b0 b1 b2 b3 : Int) (w : World) : (Op.equalIn 9999 33 (.agg #[.int .i64 a0, .int .i64 a1, .int .i64 a2, .int .i64 a3]) (.agg #[.int .i64 b0, .int .i64 b1, .int .i64 b2, .int .i64 b3])).run Try.prog w = .ok (decide (a0 = b0 ∧ a1 = b1 ∧ a2 = b2 ∧ a3 = b3)) w := by
  obtain ⟨i0, hi, _⟩ := info_parts Try.info3i'
  have u3 := Try.underlying3
  have i3 := Try.isAgg3
  have z3 := Try.sizeOf3
  have hc : Try.prog.cellsOf 3 = 1 := by kernel_rfl
  rw [show (9999 : Nat) = 9998 + 1 from rfl, run_equalIn_array w 9998 _ _ Try.underlying33 hi, hc, show List.range 4 = [0, 1, 2, 3] from rfl]
  simp only [Op.eqItems]
  go_simp
  by_cases h0 : a0 = b0
  case neg => simp [h0]
  simp only [h0]
  by_cases h1 : a1 = b1
  case neg => simp [h1]
  simp only [h1]
  by_cases h2 : a2 = b2
  case neg => simp [h2]
  simp only [h2]
  by_cases h3 : a3 = b3
  case neg => simp [h3]
  simp [h3]
set_option maxHeartbeats 2000000 in
theorem equalIn_th (ac ao ap ax ah am0 am1 am2 am3 ad bc bo bp bx bh bm0 bm1 bm2 bm3 bd : Int) (af bf : Bool) (w : World) : (Op.equalIn 10000 35 (.agg #[.int .i64 ac, .int .i64 ao, .int .u8 ap, .int .i64 ax, .int .i64 ah, .int .i64 am0, .int .i64 am1, .int .i64 am2, .int .i64 am3, .int .i64 ad, .bool af]) (.agg #[.int .i64 bc, .int .i64 bo, .int .u8 bp, .int .i64 bx, .int .i64 bh, .int .i64 bm0, .int .i64 bm1, .int .i64 bm2, .int .i64 bm3, .int .i64 bd, .bool bf])).run Try.prog w = .ok (samet (⟨ac, ao, ap, ax, ah, am0, am1, am2, am3, ad, af⟩ : Th) (⟨bc, bo, bp, bx, bh, bm0, bm1, bm2, bm3, bd, bf⟩ : Th)) w := by
  unfold samet
  have hS : Try.prog.underlying 35 = some (.struct (Try.prog.fieldsOf 35)) := by kernel_rfl
  have hp : Try.prog.stoodInHeld 35 = false := by kernel_rfl
  have u3 := Try.underlying3
  have i3 := Try.isAgg3
  have z3 := Try.sizeOf3
  have u4 := Try.underlying4
  have i4 := Try.isAgg4
  have z4 := Try.sizeOf4
  have uP := Try.underlying32
  have iP := Try.isAgg32
  have zP := Try.sizeOf32
  have iA := Try.isAgg33
  have zA := Try.sizeOf33
  have h4 := equalIn_four am0 am1 am2 am3 bm0 bm1 bm2 bm3
  rw [show (10000 : Nat) = 9999 + 1 from rfl, run_equalIn_agg w 9999 35 _ _ hS hp]
  simp only [Program.fieldsOf, Try.underlying35]
  go_simp
  by_cases hc : ac = bc
  case neg => simp [hc]
  simp only [hc]
  by_cases ho : ao = bo
  case neg => simp [ho]
  simp only [ho]
  by_cases hp : ap = bp
  case neg => simp [hp]
  simp only [hp]
  by_cases hx : ax = bx
  case neg => simp [hx]
  simp only [hx]
  by_cases hh : ah = bh
  case neg => simp [hh]
  simp only [hh]
  by_cases hm0 : am0 = bm0
  case neg => simp [hm0]
  simp only [hm0]
  by_cases hm1 : am1 = bm1
  case neg => simp [hm1]
  simp only [hm1]
  by_cases hm2 : am2 = bm2
  case neg => simp [hm2]
  simp only [hm2]
  by_cases hm3 : am3 = bm3
  case neg => simp [hm3]
  simp only [hm3]
  by_cases hd : ad = bd
  case neg => simp [hd]
  simp only [hd]
  by_cases hf : af = bf
  case neg => simp [hf]
  simp [hf]
theorem eql_th (ac ao ap ax ah am0 am1 am2 am3 ad bc bo bp bx bh bm0 bm1 bm2 bm3 bd : Int) (af bf : Bool) (w : World) : (binOp .eql 35 (.agg #[.int .i64 ac, .int .i64 ao, .int .u8 ap, .int .i64 ax, .int .i64 ah, .int .i64 am0, .int .i64 am1, .int .i64 am2, .int .i64 am3, .int .i64 ad, .bool af]) (.agg #[.int .i64 bc, .int .i64 bo, .int .u8 bp, .int .i64 bx, .int .i64 bh, .int .i64 bm0, .int .i64 bm1, .int .i64 bm2, .int .i64 bm3, .int .i64 bd, .bool bf])).run Try.prog w = .ok (.bool (samet (⟨ac, ao, ap, ax, ah, am0, am1, am2, am3, ad, af⟩ : Th) (⟨bc, bo, bp, bx, bh, bm0, bm1, bm2, bm3, bd, bf⟩ : Th))) w := by
  rw [run_eql_struct, equalIn_th]; rfl
theorem neq_th (ac ao ap ax ah am0 am1 am2 am3 ad bc bo bp bx bh bm0 bm1 bm2 bm3 bd : Int) (af bf : Bool) (w : World) : (binOp .neq 35 (.agg #[.int .i64 ac, .int .i64 ao, .int .u8 ap, .int .i64 ax, .int .i64 ah, .int .i64 am0, .int .i64 am1, .int .i64 am2, .int .i64 am3, .int .i64 ad, .bool af]) (.agg #[.int .i64 bc, .int .i64 bo, .int .u8 bp, .int .i64 bx, .int .i64 bh, .int .i64 bm0, .int .i64 bm1, .int .i64 bm2, .int .i64 bm3, .int .i64 bd, .bool bf])).run Try.prog w = .ok (.bool (!samet (⟨ac, ao, ap, ax, ah, am0, am1, am2, am3, ad, af⟩ : Th) (⟨bc, bo, bp, bx, bh, bm0, bm1, bm2, bm3, bd, bf⟩ : Th))) w := by
  rw [run_neq_struct, equalIn_th]; rfl
end Go.Proofs.Ytdgnlcjhdkcjeaa
namespace Go.Proofs.Ytdgnlcjhdkcjeaa
open Go.RowKit

/-- What is no zones: nil, or such as nobody made. -/
def NoZ (w : World) (q : Option Addr) : Prop := ∀ w', w.grownBy w' none → Calls Try.prog 27 #[.pointer q] w' fun e w'' => e = .returned (.bool false) ∧ w'' = w'
theorem NoZ.nil (w : World) : NoZ w none := fun w' _ => made_nil w'
theorem NoZ.zero {w : World} {b : Nat} (h : w.cell? ⟨b, 5, none⟩ = some (.int .i64 0)) : NoZ w (some ⟨b, 0, none⟩) := fun w' g => made_zero b w' (g.cell h (by simp))
theorem NoZ.keep {w w' : World} {q : Option Addr} (h : NoZ w q) (g : w.grownBy w' none) : NoZ w' q := fun w2 g2 => h w2 (grown_trans g g2)
set_option maxRecDepth 100000 in
set_option maxHeartbeats 4000000 in
theorem no_move (q : Option Addr) (n tp : Int) (w : World) (h : NoZ w q) : Calls Try.prog 12 #[.pointer q, .int .i64 n, .int .u8 tp] w fun e w' => e = .returned (.int .i64 1) ∧ w' = w := by
  have M := h w (grown_refl _ _)
  clear h
  go_enter Try.func12, Try.ntmps12
  go_wp2_with (go_at_call 27; refine M.mono ?_; rintro e w9 ⟨rfl, h9⟩; obtain rfl : w = w9 := h9.symm)
  go_ret
  exact ⟨rfl, rfl⟩
set_option maxRecDepth 100000 in
set_option maxHeartbeats 4000000 in
theorem no_make (q : Option Addr) (n p : Int) (w : World) (h : NoZ w q) : Calls Try.prog 14 #[.pointer q, .int .i64 n, .int .i64 p] w fun e w' => e = .returned (.tuple #[.int .i64 0, .int .i64 1]) ∧ w' = w := by
  have M := h w (grown_refl _ _)
  clear h
  go_enter Try.func14, Try.ntmps14
  go_wp2_with (go_at_call 27; refine M.mono ?_; rintro e w9 ⟨rfl, h9⟩; obtain rfl : w = w9 := h9.symm)
  go_ret2
  exact ⟨rfl, rfl⟩
set_option maxRecDepth 100000 in
set_option maxHeartbeats 4000000 in
theorem no_arrange (q : Option Addr) (p : Int) (v : Value) (w : World) (h : NoZ w q) : Calls Try.prog 17 #[.pointer q, .int .i64 p, v] w fun e w' => e = .returned (.int .i64 1) ∧ w' = w := by
  have M := h w (grown_refl _ _)
  clear h
  go_enter Try.func17, Try.ntmps17
  go_wp2_with (go_at_call 27; refine M.mono ?_; rintro e w9 ⟨rfl, h9⟩; obtain rfl : w = w9 := h9.symm)
  go_ret
  exact ⟨rfl, rfl⟩
set_option maxRecDepth 100000 in
set_option maxHeartbeats 4000000 in
theorem no_things (q : Option Addr)  (w : World) (h : NoZ w q) : Calls Try.prog 19 #[.pointer q] w fun e w' => e = .returned (.slice none 0 0) ∧ w' = w := by
  have M := h w (grown_refl _ _)
  clear h
  go_enter Try.func19, Try.ntmps19
  go_wp2_with (go_at_call 27; refine M.mono ?_; rintro e w9 ⟨rfl, h9⟩; obtain rfl : w = w9 := h9.symm)
  go_ret
  exact ⟨rfl, rfl⟩
set_option maxRecDepth 100000 in
set_option maxHeartbeats 4000000 in
theorem no_table (q : Option Addr)  (w : World) (h : NoZ w q) : Calls Try.prog 15 #[.pointer q] w fun e w' => e = .returned (.slice none 0 0) ∧ w' = w := by
  have M := h w (grown_refl _ _)
  clear h
  go_enter Try.func15, Try.ntmps15
  go_wp2_with (go_at_call 27; refine M.mono ?_; rintro e w9 ⟨rfl, h9⟩; obtain rfl : w = w9 := h9.symm)
  go_ret
  exact ⟨rfl, rfl⟩
set_option maxRecDepth 100000 in
set_option maxHeartbeats 4000000 in
theorem no_in (q : Option Addr) (p tp : Int) (w : World) (h : NoZ w q) : Calls Try.prog 20 #[.pointer q, .int .i64 p, .int .u8 tp] w fun e w' => e = .returned (.slice none 0 0) ∧ w' = w := by
  have M := h w (grown_refl _ _)
  clear h
  go_enter Try.func20, Try.ntmps20
  go_wp2_with (go_at_call 27; refine M.mono ?_; rintro e w9 ⟨rfl, h9⟩; obtain rfl : w = w9 := h9.symm)
  go_ret
  exact ⟨rfl, rfl⟩
set_option maxRecDepth 100000 in
set_option maxHeartbeats 4000000 in
theorem no_len (q : Option Addr)  (w : World) (h : NoZ w q) : Calls Try.prog 16 #[.pointer q] w fun e w' => e = .returned (.int .i64 0) ∧ w' = w := by
  have M := h w (grown_refl _ _)
  clear h
  go_enter Try.func16, Try.ntmps16
  go_wp2_with (go_at_call 27; refine M.mono ?_; rintro e w9 ⟨rfl, h9⟩; obtain rfl : w = w9 := h9.symm)
  go_ret
  exact ⟨rfl, rfl⟩
set_option maxRecDepth 100000 in
set_option maxHeartbeats 4000000 in
theorem no_stamp (q : Option Addr)  (w : World) (h : NoZ w q) : Calls Try.prog 11 #[.pointer q] w fun e w' => e = .returned (.int .i64 0) ∧ w' = w := by
  have M := h w (grown_refl _ _)
  clear h
  go_enter Try.func11, Try.ntmps11
  go_wp2_with (go_at_call 27; refine M.mono ?_; rintro e w9 ⟨rfl, h9⟩; obtain rfl : w = w9 := h9.symm)
  go_ret
  exact ⟨rfl, rfl⟩
set_option maxRecDepth 100000 in
set_option maxHeartbeats 4000000 in
theorem no_Deck (q : Option Addr) (p : Int) (w : World) (h : NoZ w q) : Calls Try.prog 9 #[.pointer q, .int .i64 p] w fun e w' => e = .returned (.slice none 0 0) ∧ w' = w := by
  have M := no_in q p 1 w h
  clear h
  go_enter Try.func9, Try.ntmps9
  go_wp2_with (go_at_call 20; refine M.mono ?_; rintro e w9 ⟨rfl, h9⟩; obtain rfl : w = w9 := h9.symm)
  go_ret
  exact ⟨rfl, rfl⟩
set_option maxRecDepth 100000 in
set_option maxHeartbeats 4000000 in
theorem no_Hand (q : Option Addr) (p : Int) (w : World) (h : NoZ w q) : Calls Try.prog 10 #[.pointer q, .int .i64 p] w fun e w' => e = .returned (.slice none 0 0) ∧ w' = w := by
  have M := no_in q p 2 w h
  clear h
  go_enter Try.func10, Try.ntmps10
  go_wp2_with (go_at_call 20; refine M.mono ?_; rintro e w9 ⟨rfl, h9⟩; obtain rfl : w = w9 := h9.symm)
  go_ret
  exact ⟨rfl, rfl⟩
set_option maxRecDepth 100000 in
set_option maxHeartbeats 4000000 in
theorem no_thing (q : Option Addr) (n : Int) (w : World) (h : NoZ w q) : Calls Try.prog 13 #[.pointer q, .int .i64 n] w fun e w' => e = .returned (.tuple #[.agg #[.int .i64 0, .int .i64 0, .int .u8 0, .int .i64 0, .int .i64 0, .int .i64 0, .int .i64 0, .int .i64 0, .int .i64 0, .int .i64 0, .bool false], .int .i64 1]) ∧ w.grownBy w' none := by
  have M := h (w.alloc (.cells #[.int .i64 0, .int .i64 0, .int .u8 0, .int .i64 0, .int .i64 0, .int .i64 0, .int .i64 0, .int .i64 0, .int .i64 0, .int .i64 0, .bool false] 35)) (World.grownBy_alloc _ _ _)
  clear h
  go_enter Try.func13, Try.ntmps13
  go_wp2_with (go_at_call 27; refine M.mono ?_; rintro e w9 ⟨rfl, h9⟩; subst h9)
  have q9 := fun i => block_cell (alloc_at w #[.int .i64 0, .int .i64 0, .int .u8 0, .int .i64 0, .int .i64 0, .int .i64 0, .int .i64 0, .int .i64 0, .int .i64 0, .int .i64 0, .bool false] 35) i
  refine bodyPost_ret (v := .tuple #[.agg #[.int .i64 0, .int .i64 0, .int .u8 0, .int .i64 0, .int .i64 0, .int .i64 0, .int .i64 0, .int .i64 0, .int .i64 0, .int .i64 0, .bool false], .int .i64 1]) (by simp [results, Try.results13, go_sem, q9]) rfl ⟨rfl, World.grownBy_alloc _ _ _⟩
set_option maxRecDepth 100000 in
set_option maxHeartbeats 4000000 in
theorem no_write (q : Option Addr) (n : Int) (w : World) (h : NoZ w q) : Calls Try.prog 18 #[.pointer q, .int .i64 n, .agg #[.int .i64 0, .int .i64 0, .int .u8 0, .int .i64 0, .int .i64 0, .int .i64 0, .int .i64 0, .int .i64 0, .int .i64 0, .int .i64 0, .bool false]] w fun e w' => e = .returned (.int .i64 1) ∧ w.grownBy w' none := by
  have M := h (w.alloc (.cells #[.int .i64 0, .int .i64 0, .int .u8 0, .int .i64 0, .int .i64 0, .int .i64 0, .int .i64 0, .int .i64 0, .int .i64 0, .int .i64 0, .bool false] 35)) (World.grownBy_alloc _ _ _)
  clear h
  go_enter Try.func18, Try.ntmps18
  go_wp2_with (go_at_call 27; refine M.mono ?_; rintro e w9 ⟨rfl, h9⟩; subst h9)
  go_ret
  exact ⟨rfl, World.grownBy_alloc _ _ _⟩
set_option maxRecDepth 100000 in
set_option maxHeartbeats 4000000 in
theorem nil17 (n p tp : Int) (lp : Option Addr) (ln lc : Nat) (w : World) : Calls Try.prog 4 #[.int .i64 n, .int .i64 p, .int .u8 tp, .slice lp ln lc] w fun e w' => e = .returned (.bool true) ∧ w.grownBy w' none := by
  have hnq := neq_th
  have hgq := eqg_th
  have hse : samet (⟨0, 0, 0, 0, 0, 0, 0, 0, 0, 0, false⟩ : Th) ⟨0, 0, 0, 0, 0, 0, 0, 0, 0, 0, false⟩ = true := samet_yes rfl
  have HLv : Hid (∀ W, Calls Try.prog 7 #[] W fun e w' => e = .returned (.bool true) ∧ W.grownBy w' none) := lives_any
  obtain ⟨V, hV⟩ : ∃ V, V = (w.alloc (.cells (zc (.slice none 0 0) (.slice none 0 0) (.slice none 0 0) (.slice none 0 0) (.slice none 0 0) 0 []) 45)).alloc (.cells #[.pointer none, .pointer (some ⟨w.heap.size, 0, none⟩)] 22) := ⟨_, rfl⟩
  have HV : Hid (V = (w.alloc (.cells (zc (.slice none 0 0) (.slice none 0 0) (.slice none 0 0) (.slice none 0 0) (.slice none 0 0) 0 []) 45)).alloc (.cells #[.pointer none, .pointer (some ⟨w.heap.size, 0, none⟩)] 22)) := hV
  have HGV : Hid (w.grownBy V none) := by show w.grownBy V none; rw [hV]; exact grown_push (World.grownBy_alloc _ _ none) _
  have HB : Hid (V.cell? ⟨w.heap.size, 5, none⟩ = some (.int .i64 0)) := by
    show V.cell? _ = _
    rw [hV]
    exact (World.grownBy_alloc _ _ none).cell ((block_cell (alloc_at _ _ _) 5).trans rfl) (by simp)
  have HA : Hid (V.cell? ⟨w.heap.size + 1, 0, none⟩ = some (.pointer none) ∧ V.cell? ⟨w.heap.size + 1, 1, none⟩ = some (.pointer (some ⟨w.heap.size, 0, none⟩))) := by
    have h9 := alloc_at (w.alloc (.cells (zc (.slice none 0 0) (.slice none 0 0) (.slice none 0 0) (.slice none 0 0) (.slice none 0 0) 0 []) 45)) #[.pointer none, .pointer (some ⟨w.heap.size, 0, none⟩)] 22
    rw [World.size_alloc] at h9
    show V.cell? _ = _ ∧ V.cell? _ = _
    rw [hV]
    exact ⟨(block_cell h9 0).trans rfl, (block_cell h9 1).trans rfl⟩
  clear hV
  go_enter Try.func4, Try.ntmps4
  go_wp2_with fail
  rw [show ((w.alloc (Obj.cells #[.slice none 0 0, .slice none 0 0, .slice none 0 0, .slice none 0 0, .slice none 0 0, .int .i64 0] 45)).alloc (Obj.cells #[.pointer none, .pointer (some ⟨w.heap.size, 0, none⟩)] 22)) = V from HV.out.symm]
  go_loopw [10, 11, 12, 13, 14, 15] (fun i _ _ _ _ _ wr => ∃ k : Nat, k ≤ 2 ∧ i = .int .i64 (k : Int) ∧ w.grownBy wr none ∧ V.grownBy wr none) (fun i _ _ _ _ _ _ => 2 - (intOf i).toNat)
  case atStart => exact ⟨0, by omega, rfl, HGV.out, grown_refl _ _⟩
  case round =>
    obtain ⟨k, hk, rfl, hg, hgV⟩ := hrel
    obtain ⟨U, hU⟩ : ∃ U, U = wr := ⟨_, rfl⟩
    subst hU
    have HG : Hid (w.grownBy U none) := hg
    have HGU : Hid (V.grownBy U none) := hgV
    have a0 := hgV.cell HA.out.1 (by simp)
    have a1 := hgV.cell HA.out.2 (by simp)
    have HNZ0 : Hid (NoZ U none) := NoZ.nil U
    have HNZ1 : Hid (NoZ U (some ⟨w.heap.size, 0, none⟩)) := NoZ.zero (hgV.cell HB.out (by simp))
    clear hg hgV HV HGV HB HA
    rcases (show k = 0 ∨ k = 1 ∨ k = 2 from by omega) with rfl | rfl | rfl
    · clear a1
      have HNo : Hid (NoZ U none) := HNZ0.out
      have C1 := no_make none n p U HNo.out
      go_wp2_with fail
      refine C1.mono ?_
      rintro e w1 ⟨rfl, h⟩
      obtain rfl : U = w1 := h.symm
      clear C1 h
      have C2 := no_thing none n U HNo.out
      go_wp2_with fail
      refine C2.mono ?_
      rintro e w2 ⟨rfl, g2⟩
      have HG2 : Hid (U.grownBy w2 none) := g2
      obtain ⟨W2, hW2⟩ : ∃ W2, W2 = w2.alloc (.cells #[.int .i64 0, .int .i64 0, .int .u8 0, .int .i64 0, .int .i64 0, .int .i64 0, .int .i64 0, .int .i64 0, .int .i64 0, .int .i64 0, .bool false] 35) := ⟨_, rfl⟩
      have HGW : Hid (U.grownBy W2 none) := by show U.grownBy W2 none; rw [hW2]; exact grown_push g2 _
      have HW2 : Hid (W2 = w2.alloc (.cells #[.int .i64 0, .int .i64 0, .int .u8 0, .int .i64 0, .int .i64 0, .int .i64 0, .int .i64 0, .int .i64 0, .int .i64 0, .int .i64 0, .bool false] 35)) := hW2
      have HX2 : Hid (W2.heap[w2.heap.size]? = some (.cells #[.int .i64 0, .int .i64 0, .int .u8 0, .int .i64 0, .int .i64 0, .int .i64 0, .int .i64 0, .int .i64 0, .int .i64 0, .int .i64 0, .bool false] 35 (0, 0))) := by show W2.heap[w2.heap.size]? = _; rw [hW2]; exact alloc_at _ _ _
      have C3 := no_move none n tp W2 (HNo.out.keep HGW.out)
      rw [hW2] at C3
      clear C2 g2 hW2
      go_wp2_with fail
      refine C3.mono ?_
      rintro e w3 ⟨rfl, h⟩
      rw [← HW2.out] at h
      subst h
      clear C3
      have C4 := no_write none n w3 (HNo.out.keep HGW.out)
      go_wp2_with fail
      refine C4.mono ?_
      rintro e w4 ⟨rfl, g4⟩
      have HG4 : Hid (U.grownBy w4 none) := grown_trans HGW.out g4
      have HX4 : Hid (w4.heap[w2.heap.size]? = some (.cells #[.int .i64 0, .int .i64 0, .int .u8 0, .int .i64 0, .int .i64 0, .int .i64 0, .int .i64 0, .int .i64 0, .int .i64 0, .int .i64 0, .bool false] 35 (0, 0))) := grown_keep g4 HX2.out (by simp)
      have C5 := no_arrange none p (.slice lp ln lc) w4 (HNo.out.keep HG4.out)
      clear C4 g4
      go_wp2_with fail
      refine C5.mono ?_
      rintro e w5 ⟨rfl, h⟩
      obtain rfl : w4 = w5 := h.symm
      clear C5 h
      have z0 := (block_cell HX4.out 0).trans rfl
      have z1 := (block_cell HX4.out 1).trans rfl
      have z2 := (block_cell HX4.out 2).trans rfl
      have z3 := (block_cell HX4.out 3).trans rfl
      have z4 := (block_cell HX4.out 4).trans rfl
      have z5 := (block_cell HX4.out 5).trans rfl
      have z6 := (block_cell HX4.out 6).trans rfl
      have z7 := (block_cell HX4.out 7).trans rfl
      have z8 := (block_cell HX4.out 8).trans rfl
      have z9 := (block_cell HX4.out 9).trans rfl
      have z10 := (block_cell HX4.out 10).trans rfl
      have C6 := no_things none w4 (HNo.out.keep HG4.out)
      go_wp2_with fail
      refine C6.mono ?_
      rintro e w6 ⟨rfl, h⟩
      obtain rfl : w4 = w6 := h.symm
      clear C6 h
      have C7 := no_Deck none p w4 (HNo.out.keep HG4.out)
      go_wp2_with fail
      refine C7.mono ?_
      rintro e w6 ⟨rfl, h⟩
      obtain rfl : w4 = w6 := h.symm
      clear C7 h
      have C8 := no_Hand none p w4 (HNo.out.keep HG4.out)
      go_wp2_with fail
      refine C8.mono ?_
      rintro e w6 ⟨rfl, h⟩
      obtain rfl : w4 = w6 := h.symm
      clear C8 h
      have C9 := no_table none w4 (HNo.out.keep HG4.out)
      go_wp2_with fail
      refine C9.mono ?_
      rintro e w6 ⟨rfl, h⟩
      obtain rfl : w4 = w6 := h.symm
      clear C9 h
      have C10 := no_in none p tp w4 (HNo.out.keep HG4.out)
      go_wp2_with fail
      refine C10.mono ?_
      rintro e w6 ⟨rfl, h⟩
      obtain rfl : w4 = w6 := h.symm
      clear C10 h
      have C11 := no_len none w4 (HNo.out.keep HG4.out)
      go_wp2_with fail
      refine C11.mono ?_
      rintro e w6 ⟨rfl, h⟩
      obtain rfl : w4 = w6 := h.symm
      clear C11 h
      have C12 := no_stamp none w4 (HNo.out.keep HG4.out)
      go_wp2_with fail
      refine C12.mono ?_
      rintro e w6 ⟨rfl, h⟩
      obtain rfl : w4 = w6 := h.symm
      clear C12 h
      have HGe : Hid (w.grownBy w4 none) := grown_trans HG.out HG4.out
      have HGe2 : Hid (V.grownBy w4 none) := grown_trans HGU.out HG4.out
      clear HX4 HG4 HX2 HGW HW2 HG2 HNo z0 z1 z2 z3 z4 z5 z6 z7 z8 z9 z10
      go_wp2_with fail
      first
        | (go_roundw
           case rel => exact ⟨1, by omega, by first | rfl | go_num, HGe.out, HGe2.out⟩
           case measure => first | decide | simp [intOf])
        | exact ⟨⟨1, by omega, by first | rfl | go_num, HGe.out, HGe2.out⟩, by first | decide | simp [intOf]⟩
    · clear a0
      have HNo : Hid (NoZ U (some ⟨w.heap.size, 0, none⟩)) := HNZ1.out
      have C1 := no_make (some ⟨w.heap.size, 0, none⟩) n p U HNo.out
      go_wp2_with fail
      refine C1.mono ?_
      rintro e w1 ⟨rfl, h⟩
      obtain rfl : U = w1 := h.symm
      clear C1 h
      have C2 := no_thing (some ⟨w.heap.size, 0, none⟩) n U HNo.out
      go_wp2_with fail
      refine C2.mono ?_
      rintro e w2 ⟨rfl, g2⟩
      have HG2 : Hid (U.grownBy w2 none) := g2
      obtain ⟨W2, hW2⟩ : ∃ W2, W2 = w2.alloc (.cells #[.int .i64 0, .int .i64 0, .int .u8 0, .int .i64 0, .int .i64 0, .int .i64 0, .int .i64 0, .int .i64 0, .int .i64 0, .int .i64 0, .bool false] 35) := ⟨_, rfl⟩
      have HGW : Hid (U.grownBy W2 none) := by show U.grownBy W2 none; rw [hW2]; exact grown_push g2 _
      have HW2 : Hid (W2 = w2.alloc (.cells #[.int .i64 0, .int .i64 0, .int .u8 0, .int .i64 0, .int .i64 0, .int .i64 0, .int .i64 0, .int .i64 0, .int .i64 0, .int .i64 0, .bool false] 35)) := hW2
      have HX2 : Hid (W2.heap[w2.heap.size]? = some (.cells #[.int .i64 0, .int .i64 0, .int .u8 0, .int .i64 0, .int .i64 0, .int .i64 0, .int .i64 0, .int .i64 0, .int .i64 0, .int .i64 0, .bool false] 35 (0, 0))) := by show W2.heap[w2.heap.size]? = _; rw [hW2]; exact alloc_at _ _ _
      have C3 := no_move (some ⟨w.heap.size, 0, none⟩) n tp W2 (HNo.out.keep HGW.out)
      rw [hW2] at C3
      clear C2 g2 hW2
      go_wp2_with fail
      refine C3.mono ?_
      rintro e w3 ⟨rfl, h⟩
      rw [← HW2.out] at h
      subst h
      clear C3
      have C4 := no_write (some ⟨w.heap.size, 0, none⟩) n w3 (HNo.out.keep HGW.out)
      go_wp2_with fail
      refine C4.mono ?_
      rintro e w4 ⟨rfl, g4⟩
      have HG4 : Hid (U.grownBy w4 none) := grown_trans HGW.out g4
      have HX4 : Hid (w4.heap[w2.heap.size]? = some (.cells #[.int .i64 0, .int .i64 0, .int .u8 0, .int .i64 0, .int .i64 0, .int .i64 0, .int .i64 0, .int .i64 0, .int .i64 0, .int .i64 0, .bool false] 35 (0, 0))) := grown_keep g4 HX2.out (by simp)
      have C5 := no_arrange (some ⟨w.heap.size, 0, none⟩) p (.slice lp ln lc) w4 (HNo.out.keep HG4.out)
      clear C4 g4
      go_wp2_with fail
      refine C5.mono ?_
      rintro e w5 ⟨rfl, h⟩
      obtain rfl : w4 = w5 := h.symm
      clear C5 h
      have z0 := (block_cell HX4.out 0).trans rfl
      have z1 := (block_cell HX4.out 1).trans rfl
      have z2 := (block_cell HX4.out 2).trans rfl
      have z3 := (block_cell HX4.out 3).trans rfl
      have z4 := (block_cell HX4.out 4).trans rfl
      have z5 := (block_cell HX4.out 5).trans rfl
      have z6 := (block_cell HX4.out 6).trans rfl
      have z7 := (block_cell HX4.out 7).trans rfl
      have z8 := (block_cell HX4.out 8).trans rfl
      have z9 := (block_cell HX4.out 9).trans rfl
      have z10 := (block_cell HX4.out 10).trans rfl
      have C6 := no_things (some ⟨w.heap.size, 0, none⟩) w4 (HNo.out.keep HG4.out)
      go_wp2_with fail
      refine C6.mono ?_
      rintro e w6 ⟨rfl, h⟩
      obtain rfl : w4 = w6 := h.symm
      clear C6 h
      have C7 := no_Deck (some ⟨w.heap.size, 0, none⟩) p w4 (HNo.out.keep HG4.out)
      go_wp2_with fail
      refine C7.mono ?_
      rintro e w6 ⟨rfl, h⟩
      obtain rfl : w4 = w6 := h.symm
      clear C7 h
      have C8 := no_Hand (some ⟨w.heap.size, 0, none⟩) p w4 (HNo.out.keep HG4.out)
      go_wp2_with fail
      refine C8.mono ?_
      rintro e w6 ⟨rfl, h⟩
      obtain rfl : w4 = w6 := h.symm
      clear C8 h
      have C9 := no_table (some ⟨w.heap.size, 0, none⟩) w4 (HNo.out.keep HG4.out)
      go_wp2_with fail
      refine C9.mono ?_
      rintro e w6 ⟨rfl, h⟩
      obtain rfl : w4 = w6 := h.symm
      clear C9 h
      have C10 := no_in (some ⟨w.heap.size, 0, none⟩) p tp w4 (HNo.out.keep HG4.out)
      go_wp2_with fail
      refine C10.mono ?_
      rintro e w6 ⟨rfl, h⟩
      obtain rfl : w4 = w6 := h.symm
      clear C10 h
      have C11 := no_len (some ⟨w.heap.size, 0, none⟩) w4 (HNo.out.keep HG4.out)
      go_wp2_with fail
      refine C11.mono ?_
      rintro e w6 ⟨rfl, h⟩
      obtain rfl : w4 = w6 := h.symm
      clear C11 h
      have C12 := no_stamp (some ⟨w.heap.size, 0, none⟩) w4 (HNo.out.keep HG4.out)
      go_wp2_with fail
      refine C12.mono ?_
      rintro e w6 ⟨rfl, h⟩
      obtain rfl : w4 = w6 := h.symm
      clear C12 h
      have HGe : Hid (w.grownBy w4 none) := grown_trans HG.out HG4.out
      have HGe2 : Hid (V.grownBy w4 none) := grown_trans HGU.out HG4.out
      clear HX4 HG4 HX2 HGW HW2 HG2 HNo z0 z1 z2 z3 z4 z5 z6 z7 z8 z9 z10
      go_wp2_with fail
      first
        | (go_roundw
           case rel => exact ⟨2, by omega, by first | rfl | go_num, HGe.out, HGe2.out⟩
           case measure => first | decide | simp [intOf])
        | exact ⟨⟨2, by omega, by first | rfl | go_num, HGe.out, HGe2.out⟩, by first | decide | simp [intOf]⟩
    · have CL := HLv.out U
      clear a0 a1
      go_wp2_with fail
      refine CL.mono ?_
      rintro e w9 ⟨rfl, g9⟩
      have HF : Hid (w.grownBy w9 none) := grown_trans HG.out g9
      clear g9 CL
      go_wp2_with fail
      go_ret
      exact ⟨rfl, HF.out⟩
end Go.Proofs.Ytdgnlcjhdkcjeaa
namespace Go.Proofs.Ytdgnlcjhdkcjeaa
open Go.ChangeShapes Go.WideShapes Go.ChangeAt Go.RowKit Go.Deep

theorem Try.own : ownKnob Try.prog.godebug = none := by kernel_rfl
theorem Try.laidOut : laidOutB Try.prog = true := by kernel_rfl
theorem cOf3 : Try.prog.cellsOf 3 = 1 := by kernel_rfl
theorem bytes3x : Try.prog.bytesOf 3 = 8 := by kernel_rfl
theorem isU_of {z : Int} (h : (Lit.int .u64 z).wf = true) : isU z := by
  simp [Lit.wf] at h
  have h0 : IntKind.u64.min = 0 := by decide
  have h1 : IntKind.u64.max = 18446744073709551615 := by decide
  unfold isU
  omega
theorem isI_of {z : Int} (h : (Lit.int .i64 z).wf = true) : isI z := by
  simp [Lit.wf] at h
  have h0 : IntKind.i64.min = -9223372036854775808 := by decide
  unfold isI
  omega
set_option maxRecDepth 100000 in
/-- A list of numbers, read as data. -/
theorem numsB_open {H : Type} {enc : TypeId × Value → H} {w : World} {base : Nat} {held : Bool} {fuel : Nat} {v : Value} {x : DataW H × List MemPlace}
    (h : DataW.trod enc Try.prog w base (fun _ => true) held fuel 26 [v] = some x) (hz : ∀ n ∈ x.1.weights Try.prog 26, n ≤ reachBytes) : ∃ os : List Int, IntsB w v os ∧ (os.length + 2) * 8 ≤ 140737488355328 := by
  rcases open_slice1 Try.underlying26 cOf3 h with ⟨hcs, _⟩ | ⟨a, len, cp, m, f, V, D, Pl, hcs, _, hl, hm, hmm, hxx, hx⟩
  · simp at hcs
    subst hcs
    exact ⟨[], Or.inl ⟨_, rfl, rfl⟩, by decide⟩
  · simp at hcs
    subst hcs
    simp at hmm
    have hnm : len ≤ m := by omega
    have hp : ∀ i, i < len → ∃ s : Int, w.cell? (a.add i) = some (.int .i64 s) := fun i hi => by
      obtain ⟨h1, h2⟩ := hx i (by omega)
      obtain ⟨z, e, _, _⟩ := DataW.trod_int Try.underlying3 h2
      simp only [List.cons.injEq, and_true] at e
      exact ⟨z, by rw [h1, e]⟩
    obtain ⟨F, hF⟩ := choose_lt (α := Int) hp
    refine ⟨(List.range len).map F, ?_, ?_⟩
    · by_cases hc0 : cp = 0
      · subst hc0
        obtain rfl : len = 0 := by omega
        exact Or.inl ⟨_, rfl, rfl⟩
      · have c0 := (hx 0 (by omega)).1
        have ex : a.add 0 = a := by simp [Addr.add]
        rw [ex] at c0
        have pl := addr_plain c0
        refine Or.inr ⟨a.block, a.off, cp, by rw [← pl]; simp, by simpa using hl, fun j u hu => ?_⟩
        have hj : j < len := by have := (List.getElem?_eq_some_iff.1 hu).1; rw [length_ints] at this; simpa using this
        obtain rfl : u = .int .i64 (F j) := by simp [ints, hj] at hu; exact hu.symm
        have := hF j hj
        rw [pl, add_plain] at this
        exact this
    · have hb := hz ((len + (m - len)) * 8) (by rw [hxx]; simp [DataW.weights, Try.underlying26, bytes3x])
      unfold reachBytes at hb
      simp only [List.length_map, List.length_range]
      omega
end Go.Proofs.Ytdgnlcjhdkcjeaa
