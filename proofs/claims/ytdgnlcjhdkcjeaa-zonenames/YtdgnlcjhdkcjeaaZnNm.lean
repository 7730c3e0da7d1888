/-
  ZoneNames: chapter 17's examples.
-/
import Derived.Test.YtdgnlcjhdkcjeaaL13
namespace Go.Proofs.Ytdgnlcjhdkcjeaa
open Go.RowKit

def zb : Zs := z1a.move 2 4
theorem zb_sound : zb.Sound := z1a_sound.move 2 4
def zc_ : Zs := zb.move 1 2
theorem zc__sound : zc_.Sound := zb_sound.move 1 2
def zd : Zs := zc_.move 1 1
theorem zd_sound : zd.Sound := zc__sound.move 1 1
def ze : Zs := zd.make 9 1
theorem ze_sound : ze.Sound := zd_sound.make 9 1
def zf : Zs := ze.move 2 4
theorem zf_sound : zf.Sound := ze_sound.move 2 4
theorem e1 : z1a.moveE 2 4 = 0 := by decide
theorem e2 : zb.moveE 1 2 = 0 := by decide
theorem e3 : zc_.moveE 1 1 = 0 := by decide
theorem e4 : zd.makeE 9 1 = 0 ∧ zd.makeN 9 1 = 5 := by decide
theorem e5 : ze.moveE 2 4 = 0 := by decide
theorem e6 : zf.moveE 9 2 = 6 ∧ zf.moveE 1 0 = 2 ∧ zf.makeE 0 0 = 2 ∧ zf.makeN 0 0 = 0 := by decide
theorem e7 : zf.move 9 2 = zf ∧ zf.move 1 0 = zf ∧ zf.make 0 0 = zf := by
  refine ⟨?_, ?_, ?_⟩
  · unfold Zs.move; rw [e6.1]; rfl
  · unfold Zs.move; rw [e6.2.1]; rfl
  · unfold Zs.make; rw [e6.2.2.1]; rfl
theorem f1 : tabF ze.ts = [2, 5] := tabF_eq ze_sound (by decide) (by decide)
theorem f2 : tabF zf.ts = [5, 2] := tabF_eq zf_sound (by decide) (by decide)
theorem not_holds : ¬ Holds zf.ts [3] 0 1 := fun h => by
  have := (h.2 1).2 (by unfold inn there; decide)
  simp at this
/-- Zones of the law's own, at a moment: nothing of elder memory is theirs. -/
structure At (w wr : World) (b : Nat) (S : List Nat) (z : Zs) : Prop where
  z : ZAt wr b S z
  n : ∀ x, x ∈ S → w.heap.size ≤ x
  o : Old wr S
  g : w.grownBy wr none
theorem At.grow {w wr w2 : World} {b : Nat} {S : List Nat} {z : Zs} (h : At w wr b S z) (g : wr.grownBy w2 none) : At w w2 b S z := ⟨h.z.grow g, h.n, fun x hx => Nat.lt_of_lt_of_le (h.o x hx) g.size, grown_trans h.g g⟩
theorem At.turn {w wr w2 : World} {b : Nat} {S S2 : List Nat} {z y : Zs} (h : At w wr b S z) (Z : ZAt w2 b S2 y) (T : Turn wr w2 S S2) : At w w2 b S2 y := ⟨Z, T.keep h.n h.g.size, T.old, T.grown h.g h.n⟩
theorem two_args (w : World) : IntsA ((w.alloc (.cells #[.int .i64 7, .int .i64 8, .int .i64 9] 3)).alloc (.cells #[.int .i64 5] 3)) (.slice (some ⟨w.heap.size, 0, none⟩) 3 3) [7, 8, 9] ∧ IntsA ((w.alloc (.cells #[.int .i64 7, .int .i64 8, .int .i64 9] 3)).alloc (.cells #[.int .i64 5] 3)) (.slice (some ⟨w.heap.size + 1, 0, none⟩) 1 1) [5] := by
  have h1 : OwnI ((w.alloc (.cells #[.int .i64 7, .int .i64 8, .int .i64 9] 3)).alloc (.cells #[.int .i64 5] 3)) 0 (.slice (some ⟨w.heap.size, 0, none⟩) 3 3) [7, 8, 9] := own_zero (World.ownsRow.alloc (lit_own w [7, 8, 9] (by decide)) _)
  have h2 : OwnI ((w.alloc (.cells #[.int .i64 7, .int .i64 8, .int .i64 9] 3)).alloc (.cells #[.int .i64 5] 3)) 0 (.slice (some ⟨w.heap.size + 1, 0, none⟩) 1 1) [5] := by
    have := lit_own (w.alloc (.cells #[.int .i64 7, .int .i64 8, .int .i64 9] 3)) [5] (by decide)
    rw [World.size_alloc] at this
    exact own_zero this
  exact ⟨own_small h1, own_small h2⟩
theorem two_grown (w : World) : w.grownBy ((w.alloc (.cells #[.int .i64 7, .int .i64 8, .int .i64 9] 3)).alloc (.cells #[.int .i64 5] 3)) none := grown_push (World.grownBy_alloc _ _ none) _
/-- A thing of the law's own. -/
def Bx (wr : World) (S : List Nat) (X : Nat) (t : Th) : Prop := wr.heap[X]? = some (.cells (thc t).toArray 35 (0, 0)) ∧ X ∉ S
theorem Bx.grow {wr w2 : World} {S : List Nat} {X : Nat} {t : Th} (h : Bx wr S X t) (g : wr.grownBy w2 none) : Bx w2 S X t := ⟨grown_keep g h.1 (by simp), h.2⟩
theorem Bx.turn {wr w2 : World} {S S2 : List Nat} {X : Nat} {t : Th} (h : Bx wr S X t) (T : Turn wr w2 S S2) : Bx w2 S2 X t := by
  refine ⟨by rw [T.kpt.block X (block_lt h.1) h.2]; exact h.1, fun q => ?_⟩
  rcases T.new X q with r | r
  · exact h.2 r
  · have := block_lt h.1
    omega
theorem Bx.cells {wr : World} {S : List Nat} {X : Nat} {t : Th} (h : Bx wr S X t) : wr.rangeAt X 0 (thc t) := fun j v hv => by
  rw [Nat.zero_add, block_cell h.1]
  simpa using hv
theorem Bx.new {wr : World} {S : List Nat} {t : Th} (h : Old wr S) : Bx (wr.alloc (.cells (thc t).toArray 35)) S wr.heap.size t := ⟨alloc_at _ _ _, fun q => by have := h _ q; omega⟩
theorem Bx.put {wr : World} {S : List Nat} {X : Nat} {t : Th} (h : Bx wr S X t) (u : Th) : Bx (wr.setCells X 0 (thc u)) S X u ∧ wr.grownBy (wr.setCells X 0 (thc u)) (some X) ∧ wr.there X 0 11 := by
  have o := block_ownK (size := 11) (N := 1) h.1 (by rfl) (by decide)
  obtain ⟨o2, g⟩ := own_setCells (thc u) (thc t) 0 wr o
  rw [setFrom_all (by rfl)] at o2
  refine ⟨⟨?_, h.2⟩, g, fun j hj => ⟨?_, block_free h.1 _⟩⟩
  · rcases o2.2 with ⟨e, _⟩ | ⟨g1, cap, cur, e, _, hh, _, _, hs, ht⟩
    · cases e
    · simp at e
      obtain ⟨rfl, rfl⟩ := e
      rw [hh]
      have : cur.toList = thc u := by rw [← ht, List.take_of_length_le (by rw [Array.length_toList, hs]; omega)]
      rw [← this]
  · rw [Nat.zero_add, block_cell h.1, List.getElem?_toArray, List.getElem?_eq_getElem (by rw [thc_len]; exact hj)]
    rfl
theorem At.put {w wr : World} {b : Nat} {S : List Nat} {z : Zs} {X : Nat} {t : Th} (h : At w wr b S z) (B : Bx wr S X t) (hX : w.heap.size ≤ X) (u : Th) : At w (wr.setCells X 0 (thc u)) b S z := by
  obtain ⟨_, g, _⟩ := B.put u
  refine ⟨h.z.keep (Kpt.of_grown g) ?_, h.n, fun x hx => Nat.lt_of_lt_of_le (h.o x hx) g.size, grown_own h.g g (fun x e => by cases e; exact hX)⟩
  intro x hx q
  have q2 : x = X := by simpa using q
  exact B.2 (q2 ▸ hx)
theorem zeros_ints (n : Nat) : (madeCells #[Value.int .i64 0] n).toList = ints (List.replicate n 0) := by
  apply List.ext_getElem
  · simp [size_madeCells, length_ints]
  · intro i h1 h2
    simp [madeCells, ints, Nat.mod_one]
theorem zb_thing : thv (zb.thingT 2) = .agg #[.int .i64 8, .int .i64 0, .int .u8 4, .int .i64 1, .int .i64 0, .int .i64 0, .int .i64 0, .int .i64 0, .int .i64 0, .int .i64 0, .bool true] ∧ zb.thingE 2 = 0 := ⟨by kernel_rfl, by decide⟩
theorem zf_thing : thv (zf.thingT 2) = .agg #[.int .i64 8, .int .i64 0, .int .u8 4, .int .i64 3, .int .i64 0, .int .i64 0, .int .i64 0, .int .i64 0, .int .i64 0, .int .i64 0, .bool true] ∧ zf.thingE 2 = 0 := ⟨by kernel_rfl, by decide⟩
theorem arr_no {b : Nat} {S : List Nat} {w : World} (Z : ZAt w b S zf) (hS : Old w S) (v : Value) (hl : IntsA w v [3]) : Calls Try.prog 17 #[.pointer (some ⟨b, 0, none⟩), .int .i64 0, v] w (TnPost w b S zf (.int .i64 2)) := by
  refine (arrange_any b S zf 0 v [3] w Z zf_sound hS hl).mono ?_
  rintro e w2 ⟨ok, rfl, hok, S2, Z2, T2⟩
  cases ok with
  | true => exact absurd (hok.1 rfl).2 not_holds
  | false => exact ⟨rfl, S2, Z2, T2⟩
theorem made_ints {w : World} {base n : Nat} {v : Value} (h : w.ownsRow base 3 1 v n (madeCells #[Value.int .i64 0] (n * 1)).toList) : OwnI w base v (List.replicate n 0) := by
  show w.ownsRow base 3 1 v _ _
  rw [List.length_replicate, ← zeros_ints]
  rw [Nat.mul_one] at h
  exact h
theorem new_big {w : World} {base n : Nat} {v : Value} (h : OwnI w base v (List.replicate n 0)) (hn : 2048 < n) (hb : (n + 2) * 8 ≤ 140737488355328) : Calls Try.prog 6 #[v, .slice none 0 0] w fun e w' => e = .returned (.tuple #[.pointer none, .int .i64 3]) ∧ w.grownBy w' none := by
  have e0 : newE (List.replicate n 0) [] = 3 := by rw [newE_any, if_pos (by rw [List.length_replicate, List.length_nil]; omega)]
  refine (new_any v _ (List.replicate n 0) [] w (own_small h) (Or.inl ⟨rfl, rfl⟩) (by rw [List.length_replicate]; exact hb) (by decide)).mono ?_
  rintro e w2 (⟨q, _⟩ | ⟨_, rfl, g⟩)
  · exact absurd (e0.symm.trans q) (by decide)
  · rw [e0]; exact ⟨rfl, g⟩
set_option maxRecDepth 100000 in
set_option maxHeartbeats 8000000 in
theorem names17 (w : World) : Calls Try.prog 3 #[] w fun e w' => e = .returned (.bool true) ∧ w.grownBy w' none := by
  obtain ⟨i0, hi, hz0, hz1, hz2⟩ := info_parts Try.info3i'
  have heq := eql_th
  have hgq := eqg_th
  have hse : samet (⟨8, 0, 4, 1, 0, 0, 0, 0, 0, 0, true⟩ : Th) ⟨8, 0, 4, 1, 0, 0, 0, 0, 0, 0, true⟩ = true := samet_yes rfl
  have CN := new_any _ _ _ _ _ (two_args w).1 (two_args w).2 (by decide) (by decide)
  have HG0 : Hid (w.grownBy ((w.alloc (.cells #[.int .i64 7, .int .i64 8, .int .i64 9] 3)).alloc (.cells #[.int .i64 5] 3)) none) := two_grown w
  go_enter Try.func3, Try.ntmps3
  go_wp2_with fail
  refine CN.mono ?_
  rintro e w1 (⟨_, b, S1, rfl, Z, hn, ho, g1⟩ | ⟨q, _⟩)
  · have HA0 : Hid (At w w1 b S1 z1a) := ⟨Z, fun x hx => Nat.le_trans HG0.out.size (hn x hx), ho, grown_trans HG0.out g1⟩
    clear Z hn ho g1 CN HG0
    have CL := lives_any w1
    go_wp2_with fail
    refine CL.mono ?_
    rintro e w0 ⟨rfl, g0⟩
    have HA1 : Hid (At w w0 b S1 z1a) := HA0.out.grow g0
    clear CL g0 HA0
    have C2 : Calls Try.prog 9 #[.pointer (some ⟨b, 0, none⟩), .int .i64 0] w0 (InPost w0 [1, 2, 3]) := pDeck_any b S1 z1a 0 w0 HA1.out.z z1a_sound
    go_wp2_with fail
    refine C2.mono ?_
    rintro e w2 ⟨v2, rfl, o2, g2⟩
    have HO2 : Hid (OwnI w2 w0.heap.size v2 [1, 2, 3]) := o2
    have HG2 : Hid (w0.grownBy w2 none) := g2
    obtain ⟨p2, c2, rfl⟩ := o2.form
    clear o2 g2 C2
    have HA2 : Hid (At w w2 b S1 z1a) := HA1.out.grow (HG2.out)
    clear HA1
    have C3 := L.same_ints (.slice p2 3 c2) (.slice (some ⟨w2.heap.size, 0, none⟩) 3 3) [1, 2, 3] [1, 2, 3] (w2.alloc (.cells #[.int .i64 1, .int .i64 2, .int .i64 3] 3)) ((HO2.out.lay _).l.ints) ((lit_own w2 [1, 2, 3] (by decide)).l.ints)
    rw [decide_eq_true rfl] at C3
    clear HO2 HG2
    go_wp2_with fail
    refine C3.mono ?_
    rintro e w3 ⟨rfl, n3, h3⟩
    have HG3 : Hid (w2.grownBy w3 none) := by show w2.grownBy w3 none; rw [h3]; exact grown_trans (World.grownBy_alloc _ _ none) (grown_drewN _ _ _)
    clear h3 C3
    have HA3 : Hid (At w w3 b S1 z1a) := HA2.out.grow (HG3.out)
    clear HA2
    clear HG3
    have C4 : Calls Try.prog 9 #[.pointer (some ⟨b, 0, none⟩), .int .i64 1] w3 (InPost w3 [4]) := pDeck_any b S1 z1a 1 w3 HA3.out.z z1a_sound
    go_wp2_with fail
    refine C4.mono ?_
    rintro e w4 ⟨v4, rfl, o4, g4⟩
    have HO4 : Hid (OwnI w4 w3.heap.size v4 [4]) := o4
    have HG4 : Hid (w3.grownBy w4 none) := g4
    obtain ⟨p4, c4, rfl⟩ := o4.form
    clear o4 g4 C4
    have HA4 : Hid (At w w4 b S1 z1a) := HA3.out.grow (HG4.out)
    clear HA3
    have C5 := L.same_ints (.slice p4 1 c4) (.slice (some ⟨w4.heap.size, 0, none⟩) 1 1) [4] [4] (w4.alloc (.cells #[.int .i64 4] 3)) ((HO4.out.lay _).l.ints) ((lit_own w4 [4] (by decide)).l.ints)
    rw [decide_eq_true rfl] at C5
    clear HO4 HG4
    go_wp2_with fail
    refine C5.mono ?_
    rintro e w5 ⟨rfl, n5, h5⟩
    have HG5 : Hid (w4.grownBy w5 none) := by show w4.grownBy w5 none; rw [h5]; exact grown_trans (World.grownBy_alloc _ _ none) (grown_drewN _ _ _)
    clear h5 C5
    have HA5 : Hid (At w w5 b S1 z1a) := HA4.out.grow (HG5.out)
    clear HA4
    clear HG5
    have C6 : Calls Try.prog 10 #[.pointer (some ⟨b, 0, none⟩), .int .i64 0] w5 (InPost w5 []) := pHand_any b S1 z1a 0 w5 HA5.out.z z1a_sound
    go_wp2_with fail
    refine C6.mono ?_
    rintro e w6 ⟨v6, rfl, o6, g6⟩
    have HO6 : Hid (OwnI w6 w5.heap.size v6 []) := o6
    have HG6 : Hid (w5.grownBy w6 none) := g6
    obtain ⟨p6, c6, rfl⟩ := o6.form
    clear o6 g6 C6
    have HA6 : Hid (At w w6 b S1 z1a) := HA5.out.grow (HG6.out)
    clear HA5
    clear HO6 HG6
    have C7 : Calls Try.prog 11 #[.pointer (some ⟨b, 0, none⟩)] w6 fun e w' => e = .returned (.int .i64 1) ∧ w' = w6 := by obtain ⟨vt, d0, d1, h0, h1, Z⟩ := HA6.out.z; exact stamp_any b 1 _ Z.cell.2.2.2.2.2 (by decide)
    go_wp2_with fail
    refine C7.mono ?_
    rintro e w99 ⟨rfl, h99⟩
    obtain rfl : w6 = w99 := h99.symm
    clear C7 h99
    have C8 : Calls Try.prog 12 #[.pointer (some ⟨b, 0, none⟩), .int .i64 2, .int .u8 4] w6 (TnPost w6 b S1 zb (.int .i64 0)) := by have this := move_any b S1 z1a 2 4 w6 HA6.out.z z1a_sound HA6.out.o; rw [e1] at this; exact this
    go_wp2_with fail
    refine C8.mono ?_
    rintro e w8 ⟨rfl, S8, Z8, T8⟩
    have HA8 : Hid (At w w8 b S8 zb) := HA6.out.turn Z8 T8
    clear Z8 T8 C8 HA6
    have C9 := thing_any b S8 zb 2 w8 HA8.out.z zb_sound
    rw [zb_thing.1, zb_thing.2] at C9
    go_wp2_with fail
    refine C9.mono ?_
    rintro e w9 ⟨rfl, g9⟩
    have HG9 : Hid (w8.grownBy w9 none) := g9
    clear g9 C9
    have HA9 : Hid (At w w9 b S8 zb) := HA8.out.grow (HG9.out)
    clear HA8
    obtain ⟨X, hX⟩ : ∃ X, X = w9.heap.size := ⟨_, rfl⟩
    obtain ⟨V, hV⟩ : ∃ V, V = w9.alloc (.cells #[.int .i64 8, .int .i64 0, .int .u8 4, .int .i64 1, .int .i64 0, .int .i64 0, .int .i64 0, .int .i64 0, .int .i64 0, .int .i64 0, .bool true] 35) := ⟨_, rfl⟩
    have HXe : Hid (X = w9.heap.size) := hX
    have HVe : Hid (V = w9.alloc (.cells #[.int .i64 8, .int .i64 0, .int .u8 4, .int .i64 1, .int .i64 0, .int .i64 0, .int .i64 0, .int .i64 0, .int .i64 0, .int .i64 0, .bool true] 35)) := hV
    have HXV : Hid (Bx V S8 X ⟨8, 0, 4, 1, 0, 0, 0, 0, 0, 0, true⟩) := by show Bx V S8 X _; rw [hX, hV]; exact Bx.new (t := ⟨8, 0, 4, 1, 0, 0, 0, 0, 0, 0, true⟩) HA9.out.o
    have HAV : Hid (At w V b S8 zb) := by show At w V b S8 zb; rw [hV]; exact HA9.out.grow (World.grownBy_alloc _ _ _)
    have HXw : Hid (w.heap.size ≤ X) := by show w.heap.size ≤ X; rw [hX]; exact HA9.out.g.size
    clear hX hV HA9 HG9
    go_upto_region 8 with fail
    rw [← HXe.out, ← HVe.out]
    clear HXe HVe
    have C10 : Calls Try.prog 9 #[.pointer (some ⟨b, 0, none⟩), .int .i64 0] V (InPost V [1, 3]) := pDeck_any b S8 zb 0 V HAV.out.z zb_sound
    go_wp2_with fail
    refine C10.mono ?_
    rintro e w10 ⟨v10, rfl, o10, g10⟩
    have HO10 : Hid (OwnI w10 V.heap.size v10 [1, 3]) := o10
    have HG10 : Hid (V.grownBy w10 none) := g10
    obtain ⟨p10, c10, rfl⟩ := o10.form
    clear o10 g10 C10
    have HA10 : Hid (At w w10 b S8 zb) := HAV.out.grow (HG10.out)
    have HX10 : Hid (Bx w10 S8 X (⟨8, 0, 4, 1, 0, 0, 0, 0, 0, 0, true⟩ : Th)) := HXV.out.grow (HG10.out)
    clear HAV HXV
    have C11 := L.same_ints (.slice p10 2 c10) (.slice (some ⟨w10.heap.size, 0, none⟩) 2 2) [1, 3] [1, 3] (w10.alloc (.cells #[.int .i64 1, .int .i64 3] 3)) ((HO10.out.lay _).l.ints) ((lit_own w10 [1, 3] (by decide)).l.ints)
    rw [decide_eq_true rfl] at C11
    clear HO10 HG10
    go_wp2_with fail
    refine C11.mono ?_
    rintro e w11 ⟨rfl, n11, h11⟩
    have HG11 : Hid (w10.grownBy w11 none) := by show w10.grownBy w11 none; rw [h11]; exact grown_trans (World.grownBy_alloc _ _ none) (grown_drewN _ _ _)
    clear h11 C11
    have HA11 : Hid (At w w11 b S8 zb) := HA10.out.grow (HG11.out)
    have HX11 : Hid (Bx w11 S8 X (⟨8, 0, 4, 1, 0, 0, 0, 0, 0, 0, true⟩ : Th)) := HX10.out.grow (HG11.out)
    clear HA10 HX10
    clear HG11
    obtain ⟨y0, y1, y2, y3, y4, y5, y6, y7, y8, y9, y10⟩ := range_cells HX11.out.cells
    simp only [Nat.zero_add] at y0 y1 y2 y3 y4 y5 y6 y7 y8 y9 y10
    have C12 : Calls Try.prog 12 #[.pointer (some ⟨b, 0, none⟩), .int .i64 1, .int .u8 2] w11 (TnPost w11 b S8 zc_ (.int .i64 0)) := by have this := move_any b S8 zb 1 2 w11 HA11.out.z zb_sound HA11.out.o; rw [e2] at this; exact this
    go_wp2_with fail
    refine C12.mono ?_
    rintro e w12 ⟨rfl, S12, Z12, T12⟩
    have HA12 : Hid (At w w12 b S12 zc_) := HA11.out.turn Z12 T12
    have HX12 : Hid (Bx w12 S12 X (⟨8, 0, 4, 1, 0, 0, 0, 0, 0, 0, true⟩ : Th)) := HX11.out.turn T12
    clear Z12 T12 C12 HA11 HX11
    clear y0 y1 y2 y3 y4 y5 y6 y7 y8 y9 y10
    have C13 : Calls Try.prog 12 #[.pointer (some ⟨b, 0, none⟩), .int .i64 1, .int .u8 1] w12 (TnPost w12 b S12 zd (.int .i64 0)) := by have this := move_any b S12 zc_ 1 1 w12 HA12.out.z zc__sound HA12.out.o; rw [e3] at this; exact this
    go_wp2_with fail
    refine C13.mono ?_
    rintro e w13 ⟨rfl, S13, Z13, T13⟩
    have HA13 : Hid (At w w13 b S13 zd) := HA12.out.turn Z13 T13
    have HX13 : Hid (Bx w13 S13 X (⟨8, 0, 4, 1, 0, 0, 0, 0, 0, 0, true⟩ : Th)) := HX12.out.turn T13
    clear Z13 T13 C13 HA12 HX12
    have C14 : Calls Try.prog 9 #[.pointer (some ⟨b, 0, none⟩), .int .i64 0] w13 (InPost w13 [3, 1]) := pDeck_any b S13 zd 0 w13 HA13.out.z zd_sound
    go_wp2_with fail
    refine C14.mono ?_
    rintro e w14 ⟨v14, rfl, o14, g14⟩
    have HO14 : Hid (OwnI w14 w13.heap.size v14 [3, 1]) := o14
    have HG14 : Hid (w13.grownBy w14 none) := g14
    obtain ⟨p14, c14, rfl⟩ := o14.form
    clear o14 g14 C14
    have HA14 : Hid (At w w14 b S13 zd) := HA13.out.grow (HG14.out)
    have HX14 : Hid (Bx w14 S13 X (⟨8, 0, 4, 1, 0, 0, 0, 0, 0, 0, true⟩ : Th)) := HX13.out.grow (HG14.out)
    clear HA13 HX13
    have C15 := L.same_ints (.slice p14 2 c14) (.slice (some ⟨w14.heap.size, 0, none⟩) 2 2) [3, 1] [3, 1] (w14.alloc (.cells #[.int .i64 3, .int .i64 1] 3)) ((HO14.out.lay _).l.ints) ((lit_own w14 [3, 1] (by decide)).l.ints)
    rw [decide_eq_true rfl] at C15
    clear HO14 HG14
    go_wp2_with fail
    refine C15.mono ?_
    rintro e w15 ⟨rfl, n15, h15⟩
    have HG15 : Hid (w14.grownBy w15 none) := by show w14.grownBy w15 none; rw [h15]; exact grown_trans (World.grownBy_alloc _ _ none) (grown_drewN _ _ _)
    clear h15 C15
    have HA15 : Hid (At w w15 b S13 zd) := HA14.out.grow (HG15.out)
    have HX15 : Hid (Bx w15 S13 X (⟨8, 0, 4, 1, 0, 0, 0, 0, 0, 0, true⟩ : Th)) := HX14.out.grow (HG15.out)
    clear HA14 HX14
    clear HG15
    have C16 : Calls Try.prog 14 #[.pointer (some ⟨b, 0, none⟩), .int .i64 9, .int .i64 1] w15 (TnPost w15 b S13 ze (.tuple #[.int .i64 5, .int .i64 0])) := by have this := make_any b S13 zd 9 1 w15 HA15.out.z zd_sound HA15.out.o; rw [e4.1, e4.2] at this; exact this
    go_wp2_with fail
    refine C16.mono ?_
    rintro e w16 ⟨rfl, S16, Z16, T16⟩
    have HA16 : Hid (At w w16 b S16 ze) := HA15.out.turn Z16 T16
    have HX16 : Hid (Bx w16 S16 X (⟨8, 0, 4, 1, 0, 0, 0, 0, 0, 0, true⟩ : Th)) := HX15.out.turn T16
    clear Z16 T16 C16 HA15 HX15
    have C17 : Calls Try.prog 15 #[.pointer (some ⟨b, 0, none⟩)] w16 (InPost w16 [2, 5]) := by have this := table_any b S16 ze w16 HA16.out.z ze_sound; rw [f1] at this; exact this
    go_wp2_with fail
    refine C17.mono ?_
    rintro e w17 ⟨v17, rfl, o17, g17⟩
    have HO17 : Hid (OwnI w17 w16.heap.size v17 [2, 5]) := o17
    have HG17 : Hid (w16.grownBy w17 none) := g17
    obtain ⟨p17, c17, rfl⟩ := o17.form
    clear o17 g17 C17
    have HA17 : Hid (At w w17 b S16 ze) := HA16.out.grow (HG17.out)
    have HX17 : Hid (Bx w17 S16 X (⟨8, 0, 4, 1, 0, 0, 0, 0, 0, 0, true⟩ : Th)) := HX16.out.grow (HG17.out)
    clear HA16 HX16
    have C18 := L.same_ints (.slice p17 2 c17) (.slice (some ⟨w17.heap.size, 0, none⟩) 2 2) [2, 5] [2, 5] (w17.alloc (.cells #[.int .i64 2, .int .i64 5] 3)) ((HO17.out.lay _).l.ints) ((lit_own w17 [2, 5] (by decide)).l.ints)
    rw [decide_eq_true rfl] at C18
    clear HO17 HG17
    go_wp2_with fail
    refine C18.mono ?_
    rintro e w18 ⟨rfl, n18, h18⟩
    have HG18 : Hid (w17.grownBy w18 none) := by show w17.grownBy w18 none; rw [h18]; exact grown_trans (World.grownBy_alloc _ _ none) (grown_drewN _ _ _)
    clear h18 C18
    have HA18 : Hid (At w w18 b S16 ze) := HA17.out.grow (HG18.out)
    have HX18 : Hid (Bx w18 S16 X (⟨8, 0, 4, 1, 0, 0, 0, 0, 0, 0, true⟩ : Th)) := HX17.out.grow (HG18.out)
    clear HA17 HX17
    clear HG18
    have C19 : Calls Try.prog 16 #[.pointer (some ⟨b, 0, none⟩)] w18 fun e w' => e = .returned (.int .i64 5) ∧ w' = w18 := by obtain ⟨vt, d0, d1, h0, h1, Z⟩ := HA18.out.z; obtain ⟨pt, ct, rfl, _⟩ := own_slice Z.ts; exact len_any b 5 ct pt _ _ Z.cell.1 Z.cell.2.2.2.2.2 (nx_ne ze_sound)
    go_wp2_with fail
    refine C19.mono ?_
    rintro e w99 ⟨rfl, h99⟩
    obtain rfl : w18 = w99 := h99.symm
    clear C19 h99
    have C20 : Calls Try.prog 12 #[.pointer (some ⟨b, 0, none⟩), .int .i64 2, .int .u8 4] w18 (TnPost w18 b S16 zf (.int .i64 0)) := by have this := move_any b S16 ze 2 4 w18 HA18.out.z ze_sound HA18.out.o; rw [e5] at this; exact this
    go_wp2_with fail
    refine C20.mono ?_
    rintro e w20 ⟨rfl, S20, Z20, T20⟩
    have HA20 : Hid (At w w20 b S20 zf) := HA18.out.turn Z20 T20
    have HX20 : Hid (Bx w20 S20 X (⟨8, 0, 4, 1, 0, 0, 0, 0, 0, 0, true⟩ : Th)) := HX18.out.turn T20
    clear Z20 T20 C20 HA18 HX18
    have C21 := thing_any b S20 zf 2 w20 HA20.out.z zf_sound
    rw [zf_thing.1, zf_thing.2] at C21
    go_wp2_with fail
    refine C21.mono ?_
    rintro e w21 ⟨rfl, g21⟩
    have HG21 : Hid (w20.grownBy w21 none) := g21
    clear g21 C21
    have HA21 : Hid (At w w21 b S20 zf) := HA20.out.grow (HG21.out)
    have HX21 : Hid (Bx w21 S20 X (⟨8, 0, 4, 1, 0, 0, 0, 0, 0, 0, true⟩ : Th)) := HX20.out.grow (HG21.out)
    clear HA20 HX20
    obtain ⟨y0, y1, y2, y3, y4, y5, y6, y7, y8, y9, y10⟩ := range_cells HX21.out.cells
    simp only [Nat.zero_add] at y0 y1 y2 y3 y4 y5 y6 y7 y8 y9 y10
    obtain ⟨V2, hV2⟩ : ∃ V2, V2 = w21.setCells X 0 (thc ⟨8, 0, 4, 3, 0, 0, 0, 0, 0, 0, true⟩) := ⟨_, rfl⟩
    have HAV2 : Hid (At w V2 b S20 zf) := by show At w V2 b S20 zf; rw [hV2]; exact HA21.out.put HX21.out HXw.out _
    have HXV2 : Hid (Bx V2 S20 X ⟨8, 0, 4, 3, 0, 0, 0, 0, 0, 0, true⟩) := by show Bx V2 S20 X _; rw [hV2]; exact (HX21.out.put _).1
    have HTh : Hid (w21.there X 0 11) := (HX21.out.put ⟨8, 0, 4, 3, 0, 0, 0, 0, 0, 0, true⟩).2.2
    have HV2 : Hid (w21.setCells X 0 (thc ⟨8, 0, 4, 3, 0, 0, 0, 0, 0, 0, true⟩) = V2) := hV2.symm
    clear hV2 HA21 HX21 y0 y1 y2 y3 y4 y5 y6 y7 y8 y9 y10
    have CT : Calls Try.prog 15 #[.pointer (some ⟨b, 0, none⟩)] V2 (InPost V2 [5, 2]) := by have this := table_any b S20 zf V2 HAV2.out.z zf_sound; rw [f2] at this; exact this
    go_wp2_with (refine wpList_store_mid rfl 35 (.tmp 6) (.tmp 125) rfl X 0 (thc ⟨8, 0, 4, 3, 0, 0, 0, 0, 0, 0, true⟩).toArray rfl rfl HTh.out (by kernel_rfl) (thc_one _) ?_; rw [show (thc ⟨8, 0, 4, 3, 0, 0, 0, 0, 0, 0, true⟩).toArray.toList = thc ⟨8, 0, 4, 3, 0, 0, 0, 0, 0, 0, true⟩ from rfl, HV2.out])
    clear HTh HV2
    refine CT.mono ?_
    rintro e w22 ⟨v22, rfl, o22, g22⟩
    have HO22 : Hid (OwnI w22 V2.heap.size v22 [5, 2]) := o22
    have HG22 : Hid (V2.grownBy w22 none) := g22
    obtain ⟨p22, c22, rfl⟩ := o22.form
    clear o22 g22 CT
    have HA22 : Hid (At w w22 b S20 zf) := HAV2.out.grow (HG22.out)
    have HX22 : Hid (Bx w22 S20 X (⟨8, 0, 4, 3, 0, 0, 0, 0, 0, 0, true⟩ : Th)) := HXV2.out.grow (HG22.out)
    clear HAV2 HXV2
    have C23 := L.same_ints (.slice p22 2 c22) (.slice (some ⟨w22.heap.size, 0, none⟩) 2 2) [5, 2] [5, 2] (w22.alloc (.cells #[.int .i64 5, .int .i64 2] 3)) ((HO22.out.lay _).l.ints) ((lit_own w22 [5, 2] (by decide)).l.ints)
    rw [decide_eq_true rfl] at C23
    clear HO22 HG22
    go_wp2_with fail
    refine C23.mono ?_
    rintro e w23 ⟨rfl, n23, h23⟩
    have HG23 : Hid (w22.grownBy w23 none) := by show w22.grownBy w23 none; rw [h23]; exact grown_trans (World.grownBy_alloc _ _ none) (grown_drewN _ _ _)
    clear h23 C23
    have HA23 : Hid (At w w23 b S20 zf) := HA22.out.grow (HG23.out)
    have HX23 : Hid (Bx w23 S20 X (⟨8, 0, 4, 3, 0, 0, 0, 0, 0, 0, true⟩ : Th)) := HX22.out.grow (HG23.out)
    clear HA22 HX22
    clear HG23
    obtain ⟨y0, y1, y2, y3, y4, y5, y6, y7, y8, y9, y10⟩ := range_cells HX23.out.cells
    simp only [Nat.zero_add] at y0 y1 y2 y3 y4 y5 y6 y7 y8 y9 y10
    have C24 : Calls Try.prog 14 #[.pointer (some ⟨b, 0, none⟩), .int .i64 0, .int .i64 0] w23 (TnPost w23 b S20 zf (.tuple #[.int .i64 0, .int .i64 2])) := by have this := make_any b S20 zf 0 0 w23 HA23.out.z zf_sound HA23.out.o; rw [e6.2.2.1, e6.2.2.2, e7.2.2] at this; exact this
    go_wp2_with fail
    refine C24.mono ?_
    rintro e w24 ⟨rfl, S24, Z24, T24⟩
    have HA24 : Hid (At w w24 b S24 zf) := HA23.out.turn Z24 T24
    have HX24 : Hid (Bx w24 S24 X (⟨8, 0, 4, 3, 0, 0, 0, 0, 0, 0, true⟩ : Th)) := HX23.out.turn T24
    clear Z24 T24 C24 HA23 HX23
    clear y0 y1 y2 y3 y4 y5 y6 y7 y8 y9 y10
    go_wp2_with (at_make; refine wpList_make_full _ rfl _ _ 26 rfl w24.heap.size 3 i0 _ 1 Try.underlying26 hi hz0 hz1 .i64 .i64 _ _ 2049 rfl rfl rfl rfl (by rw [hz2]; decide) (by decide) (Nat.le_refl _) ?_; intro w25 o25 g25; have HO25 : Hid (w24.heap.size = w24.heap.size ∧ w25.ownsRow w24.heap.size 3 1 (.slice (some ⟨w24.heap.size, 0, none⟩) 2049 2049) 2049 (madeCells #[Value.int .i64 0] (2049 * 1)).toList) := ⟨rfl, o25⟩; have HG25 : Hid (w24.grownBy w25 none) := g25; clear o25 g25)
    have C25 := new_big (made_ints HO25.out.2) (by decide) (by decide)
    refine C25.mono ?_
    rintro e wn ⟨rfl, gn⟩
    have HGn : Hid (w24.grownBy wn none) := grown_trans HG25.out gn
    clear HO25 HG25 gn C25
    have HA25 : Hid (At w wn b S24 zf) := HA24.out.grow (HGn.out)
    have HX25 : Hid (Bx wn S24 X (⟨8, 0, 4, 3, 0, 0, 0, 0, 0, 0, true⟩ : Th)) := HX24.out.grow (HGn.out)
    clear HA24 HX24
    clear HGn
    obtain ⟨y0, y1, y2, y3, y4, y5, y6, y7, y8, y9, y10⟩ := range_cells HX25.out.cells
    simp only [Nat.zero_add] at y0 y1 y2 y3 y4 y5 y6 y7 y8 y9 y10
    have C26 : Calls Try.prog 12 #[.pointer (some ⟨b, 0, none⟩), .int .i64 9, .int .u8 2] wn (TnPost wn b S24 zf (.int .i64 6)) := by have this := move_any b S24 zf 9 2 wn HA25.out.z zf_sound HA25.out.o; rw [e6.1, e7.1] at this; exact this
    go_wp2_with fail
    refine C26.mono ?_
    rintro e w26 ⟨rfl, S26, Z26, T26⟩
    have HA26 : Hid (At w w26 b S26 zf) := HA25.out.turn Z26 T26
    have HX26 : Hid (Bx w26 S26 X (⟨8, 0, 4, 3, 0, 0, 0, 0, 0, 0, true⟩ : Th)) := HX25.out.turn T26
    clear Z26 T26 C26 HA25 HX25
    clear y0 y1 y2 y3 y4 y5 y6 y7 y8 y9 y10
    have C27 : Calls Try.prog 12 #[.pointer (some ⟨b, 0, none⟩), .int .i64 1, .int .u8 0] w26 (TnPost w26 b S26 zf (.int .i64 2)) := by have this := move_any b S26 zf 1 0 w26 HA26.out.z zf_sound HA26.out.o; rw [e6.2.1, e7.2.1] at this; exact this
    go_wp2_with fail
    refine C27.mono ?_
    rintro e w27 ⟨rfl, S27, Z27, T27⟩
    have HA27 : Hid (At w w27 b S27 zf) := HA26.out.turn Z27 T27
    have HX27 : Hid (Bx w27 S27 X (⟨8, 0, 4, 3, 0, 0, 0, 0, 0, 0, true⟩ : Th)) := HX26.out.turn T27
    clear Z27 T27 C27 HA26 HX26
    have CA := arr_no (HA27.out.z.grow (World.grownBy_alloc w27 (.cells #[.int .i64 3] 3) none)) (fun x hx => Nat.lt_of_lt_of_le (HA27.out.o x hx) (World.grownBy_alloc w27 (.cells #[.int .i64 3] 3) none).size) (.slice (some ⟨w27.heap.size, 0, none⟩) 1 1) (own_small (lit_own w27 [3] (by decide)))
    have HB : Hid (At w (w27.alloc (.cells #[.int .i64 3] 3)) b S27 zf) := HA27.out.grow (World.grownBy_alloc _ _ none)
    clear HA27
    go_wp2_with fail
    refine CA.mono ?_
    rintro e wz ⟨rfl, Sz, Zz, Tz⟩
    have HZ : Hid (w.grownBy wz none) := (HB.out.turn Zz Tz).g
    clear CA Zz Tz HB
    go_wp2
    go_ret
    exact ⟨rfl, HZ.out⟩
  · exact absurd (show newE [7, 8, 9] [5] = 0 by decide) q
end Go.Proofs.Ytdgnlcjhdkcjeaa
