/-
  Swap's laws: the closed one.
-/
import Derived.Test.YthfjgpjcepmnmaaGreatSxG
namespace Go.Proofs.YthfjgpjcepmnmaaGreat
open Go.RowKit Go.Shelf Go.Deep

theorem Tryz.flS (a b c d e f : Value) (p : Option Addr) (n k : Nat) (x y : Int) (ha : a = .int .u8 0) (hb : b = .int .i64 0) (hc : c = .int .i64 0) (hd : d = .int .i64 0) (he : e = .bool false) (hf : f = .bool false) (w : World) : (Instr.field 45 (.agg #[a, b, c, d, e, f, .slice p n k, .int .i64 x, .int .i64 y]) 2).run Tryz.prog w = .ok (.int .i64 x) w := by
  subst ha hb hc hd he hf
  kernel_rfl
theorem sx_fblock {W : World} {S f : Nat} (h : feR.Own 65 W S (.slice (some ⟨f, 0, none⟩) 4 4) sxF) : W.heap[f]? = some (.cells (feR.cs sxF).toArray 65 (0, 0)) := by
  rcases h with ⟨-, ⟨h, -⟩ | ⟨k, cap, cur, e, -, hh, -, -, hsz, ht⟩⟩
  · cases h
  · injection e with e1 e2 e3
    injection e1 with e1
    injection e1 with e1 _ _
    subst e1
    subst e3
    rw [List.take_of_length_le (by rw [Array.length_toList, hsz]; exact Nat.le_refl _)] at ht
    rw [hh, ← ht]
set_option maxRecDepth 100000 in
set_option maxHeartbeats 4000000 in
theorem swapNames_any (w : World) : Calls Tryz.prog 3 #[] w fun e w' => e = .returned (.bool true) ∧ w.grownBy w' none := by
  obtain ⟨iT, hiT, hT0, hT1, hT2⟩ := info_parts Tryz.linfoT
  have HE := sxexample_any w
  go_enter Tryz.func3, Tryz.ntmps3
  go_wp2_with fail
  refine HE.mono ?_
  rintro e w1 ⟨vG, vR, vK, vH, S, g, f, rfl, H1⟩
  obtain ⟨b, hb⟩ : ∃ b, b = w.heap.size := ⟨_, rfl⟩
  rw [← hb] at H1 ⊢
  have HM1 : Hid (SxM w w1 b S g f vG vR vK vH sxF) := H1.now
  clear HE H1 hb
  have CL := nm_list HM1.out
  go_wp2_with fail
  refine CL.mono ?_
  rintro e w2 ⟨k, c, rfl, ⟨r0, r1, r2, r3⟩, g2⟩
  have HM2 : Hid (SxM w w2 b S g f vG vR vK vH sxF) := HM1.out.keep g2
  have HG : Hid (w2.grownBy w2 none) := grown_refl _ _
  obtain ⟨a0, a1, -⟩ := sd_cells r0
  obtain ⟨b0, b1, -⟩ := sd_cells r1
  obtain ⟨c0, c1, -⟩ := sd_cells r2
  obtain ⟨d0, d1, -⟩ := sd_cells r3
  simp only [Nat.zero_add, Nat.reduceAdd] at a0 a1 b0 b1 c0 c1 d0 d1
  clear CL g2 r0 r1 r2 r3 HM1
  go_upto_region 4 with fail
  clear a0 a1 b0 b1 c0 c1 d0 d1
  have C3 : Calls Tryz.prog 12 #[.int .u8 1, .int .i64 (-1), .int .i64 3] w2 fun e w' => ∃ p c, e = .returned (.agg #[.int .u8 1, .int .i64 (-1), .int .i64 6, .int .i64 0, .bool false, .bool false, .slice p 1 c, .int .i64 0, .int .i64 0]) ∧ sdR.At w' (.slice p 1 c) [⟨3, 0, sxHp⟩] ∧ w2.grownBy w' none := sxall_at _ _ _ _ sx_v3 w2
  go_wp2_with fail
  refine C3.mono ?_
  rintro e v3 ⟨p3, c3, rfl, A3, g3⟩
  have HV3 : Hid (w2.grownBy v3 none) := grown_trans HG.out g3
  obtain ⟨X3, hX3⟩ : ∃ X, X = v3.alloc (.cells #[.int .i64 3, .int .i64 0] 3) := ⟨_, rfl⟩
  have HX3 : Hid (w2.grownBy X3 none) := by rw [hX3]; exact grown_push HV3.out _
  have I3 : Calls Tryz.prog 11 #[.agg #[.int .u8 1, .int .i64 (-1), .int .i64 6, .int .i64 0, .bool false, .bool false, .slice p3 1 c3, .int .i64 0, .int .i64 0], .int .u8 1, .int .i64 (-1), .int .i64 6, .int .i64 0, .slice (some ⟨v3.heap.size, 0, none⟩) 2 2] X3 fun e w' => e = .returned (.bool true) ∧ X3.grownBy w' none := sxis_any 1 (-1) 6 0 p3 _ 1 c3 2 2 [⟨3, 0, sxHp⟩] X3 (A3.keep (by rw [hX3]; exact World.grownBy_alloc _ _ none)) (us_lit (L := [⟨3, 0, sxHp⟩]) (by rw [hX3]; exact alloc_at _ _ _) rfl) rfl rfl (by decide)
  clear A3 g3 C3
  go_wp2_with fail
  rw [← hX3]
  clear hX3
  refine I3.mono ?_
  rintro e u3 ⟨rfl, g3⟩
  have HU3 : Hid (w2.grownBy u3 none) := grown_trans HX3.out g3
  clear g3 I3
  have C4 : Calls Tryz.prog 12 #[.int .u8 1, .int .i64 2, .int .i64 3] u3 fun e w' => ∃ p c, e = .returned (.agg #[.int .u8 0, .int .i64 0, .int .i64 0, .int .i64 0, .bool false, .bool false, .slice p 0 c, .int .i64 1, .int .i64 0]) ∧ sdR.At w' (.slice p 0 c) [] ∧ u3.grownBy w' none := sxall_at _ _ _ _ sx_v4 u3
  go_wp2_with fail
  refine C4.mono ?_
  rintro e v4 ⟨p4, c4, rfl, A4, g4⟩
  have HV4 : Hid (w2.grownBy v4 none) := grown_trans HU3.out g4
  have I4 : Calls Tryz.prog 11 #[.agg #[.int .u8 0, .int .i64 0, .int .i64 0, .int .i64 0, .bool false, .bool false, .slice p4 0 c4, .int .i64 1, .int .i64 0], .int .u8 0, .int .i64 0, .int .i64 0, .int .i64 1, .slice none 0 0] v4 fun e w' => e = .returned (.bool true) ∧ v4.grownBy w' none := sxis_any 0 0 0 1 p4 none 0 c4 0 0 [] v4 A4 (us_nil _) rfl rfl (by decide)
  clear A4 g4 C4
  go_wp2_with fail
  refine I4.mono ?_
  rintro e u4 ⟨rfl, g4⟩
  have HU4 : Hid (w2.grownBy u4 none) := grown_trans HV4.out g4
  clear g4 I4
  have C5 : Calls Tryz.prog 12 #[.int .u8 1, .int .i64 4, .int .i64 1] u4 fun e w' => ∃ p c, e = .returned (.agg #[.int .u8 0, .int .i64 0, .int .i64 0, .int .i64 0, .bool false, .bool false, .slice p 1 c, .int .i64 0, .int .i64 0]) ∧ sdR.At w' (.slice p 1 c) [⟨1, 2, sxRp⟩] ∧ u4.grownBy w' none := sxall_at _ _ _ _ sx_v5 u4
  go_wp2_with fail
  refine C5.mono ?_
  rintro e v5 ⟨p5, c5, rfl, A5, g5⟩
  have HV5 : Hid (w2.grownBy v5 none) := grown_trans HU4.out g5
  obtain ⟨X5, hX5⟩ : ∃ X, X = v5.alloc (.cells #[.int .i64 1, .int .i64 2] 3) := ⟨_, rfl⟩
  have HX5 : Hid (w2.grownBy X5 none) := by rw [hX5]; exact grown_push HV5.out _
  have I5 : Calls Tryz.prog 11 #[.agg #[.int .u8 0, .int .i64 0, .int .i64 0, .int .i64 0, .bool false, .bool false, .slice p5 1 c5, .int .i64 0, .int .i64 0], .int .u8 0, .int .i64 0, .int .i64 0, .int .i64 0, .slice (some ⟨v5.heap.size, 0, none⟩) 2 2] X5 fun e w' => e = .returned (.bool true) ∧ X5.grownBy w' none := sxis_any 0 0 0 0 p5 _ 1 c5 2 2 [⟨1, 2, sxRp⟩] X5 (A5.keep (by rw [hX5]; exact World.grownBy_alloc _ _ none)) (us_lit (L := [⟨1, 2, sxRp⟩]) (by rw [hX5]; exact alloc_at _ _ _) rfl) rfl rfl (by decide)
  clear A5 g5 C5
  go_wp2_with fail
  rw [← hX5]
  clear hX5
  refine I5.mono ?_
  rintro e u5 ⟨rfl, g5⟩
  have HU5 : Hid (w2.grownBy u5 none) := grown_trans HX5.out g5
  clear g5 I5
  have C6 : Calls Tryz.prog 12 #[.int .u8 6, .int .i64 2, .int .i64 0] u5 fun e w' => ∃ p c, e = .returned (.agg #[.int .u8 0, .int .i64 0, .int .i64 0, .int .i64 0, .bool false, .bool false, .slice p 1 c, .int .i64 1, .int .i64 0]) ∧ sdR.At w' (.slice p 1 c) [⟨2, 1, sxGp⟩] ∧ u5.grownBy w' none := sxall_at _ _ _ _ sx_v6 u5
  go_wp2_with fail
  refine C6.mono ?_
  rintro e v6 ⟨p6, c6, rfl, A6, g6⟩
  have HV6 : Hid (w2.grownBy v6 none) := grown_trans HU5.out g6
  obtain ⟨X6, hX6⟩ : ∃ X, X = v6.alloc (.cells #[.int .i64 2, .int .i64 1] 3) := ⟨_, rfl⟩
  have HX6 : Hid (w2.grownBy X6 none) := by rw [hX6]; exact grown_push HV6.out _
  have I6 : Calls Tryz.prog 11 #[.agg #[.int .u8 0, .int .i64 0, .int .i64 0, .int .i64 0, .bool false, .bool false, .slice p6 1 c6, .int .i64 1, .int .i64 0], .int .u8 0, .int .i64 0, .int .i64 0, .int .i64 1, .slice (some ⟨v6.heap.size, 0, none⟩) 2 2] X6 fun e w' => e = .returned (.bool true) ∧ X6.grownBy w' none := sxis_any 0 0 0 1 p6 _ 1 c6 2 2 [⟨2, 1, sxGp⟩] X6 (A6.keep (by rw [hX6]; exact World.grownBy_alloc _ _ none)) (us_lit (L := [⟨2, 1, sxGp⟩]) (by rw [hX6]; exact alloc_at _ _ _) rfl) rfl rfl (by decide)
  clear A6 g6 C6
  go_wp2_with fail
  rw [← hX6]
  clear hX6
  refine I6.mono ?_
  rintro e u6 ⟨rfl, g6⟩
  have HU6 : Hid (w2.grownBy u6 none) := grown_trans HX6.out g6
  clear g6 I6
  have C7 : Calls Tryz.prog 12 #[.int .u8 6, .int .i64 4, .int .i64 0] u6 fun e w' => ∃ p c, e = .returned (.agg #[.int .u8 6, .int .i64 4, .int .i64 0, .int .i64 0, .bool false, .bool false, .slice p 0 c, .int .i64 0, .int .i64 0]) ∧ sdR.At w' (.slice p 0 c) [] ∧ u6.grownBy w' none := sxall_at _ _ _ _ sx_v7 u6
  go_wp2_with fail
  refine C7.mono ?_
  rintro e v7 ⟨p7, c7, rfl, A7, g7⟩
  have HV7 : Hid (w2.grownBy v7 none) := grown_trans HU6.out g7
  have I7 : Calls Tryz.prog 11 #[.agg #[.int .u8 6, .int .i64 4, .int .i64 0, .int .i64 0, .bool false, .bool false, .slice p7 0 c7, .int .i64 0, .int .i64 0], .int .u8 6, .int .i64 4, .int .i64 0, .int .i64 0, .slice none 0 0] v7 fun e w' => e = .returned (.bool true) ∧ v7.grownBy w' none := sxis_any 6 4 0 0 p7 none 0 c7 0 0 [] v7 A7 (us_nil _) rfl rfl (by decide)
  clear A7 g7 C7
  go_wp2_with fail
  refine I7.mono ?_
  rintro e u7 ⟨rfl, g7⟩
  have HU7 : Hid (w2.grownBy u7 none) := grown_trans HV7.out g7
  clear g7 I7
  have C8 : Calls Tryz.prog 12 #[.int .u8 3, .int .i64 (-1), .int .i64 0] u7 fun e w' => ∃ p c, e = .returned (.agg #[.int .u8 3, .int .i64 (-1), .int .i64 0, .int .i64 0, .bool false, .bool false, .slice p 0 c, .int .i64 0, .int .i64 0]) ∧ sdR.At w' (.slice p 0 c) [] ∧ u7.grownBy w' none := sxall_at _ _ _ _ sx_v8 u7
  go_wp2_with fail
  refine C8.mono ?_
  rintro e v8 ⟨p8, c8, rfl, A8, g8⟩
  have HV8 : Hid (w2.grownBy v8 none) := grown_trans HU7.out g8
  have I8 : Calls Tryz.prog 11 #[.agg #[.int .u8 3, .int .i64 (-1), .int .i64 0, .int .i64 0, .bool false, .bool false, .slice p8 0 c8, .int .i64 0, .int .i64 0], .int .u8 3, .int .i64 (-1), .int .i64 0, .int .i64 0, .slice none 0 0] v8 fun e w' => e = .returned (.bool true) ∧ v8.grownBy w' none := sxis_any 3 (-1) 0 0 p8 none 0 c8 0 0 [] v8 A8 (us_nil _) rfl rfl (by decide)
  clear A8 g8 C8
  go_wp2_with fail
  refine I8.mono ?_
  rintro e u8 ⟨rfl, g8⟩
  have HU8 : Hid (w2.grownBy u8 none) := grown_trans HV8.out g8
  clear g8 I8
  have C9 : Calls Tryz.prog 12 #[.int .u8 1, .int .i64 4, .int .i64 0] u8 fun e w' => ∃ p c, e = .returned (.agg #[.int .u8 0, .int .i64 0, .int .i64 0, .int .i64 0, .bool false, .bool false, .slice p 0 c, .int .i64 0, .int .i64 0]) ∧ sdR.At w' (.slice p 0 c) [] ∧ u8.grownBy w' none := sxall_at _ _ _ _ sx_v9 u8
  go_wp2_with fail
  refine C9.mono ?_
  rintro e v9 ⟨p9, c9, rfl, A9, g9⟩
  have HV9 : Hid (w2.grownBy v9 none) := grown_trans HU8.out g9
  have I9 : Calls Tryz.prog 11 #[.agg #[.int .u8 0, .int .i64 0, .int .i64 0, .int .i64 0, .bool false, .bool false, .slice p9 0 c9, .int .i64 0, .int .i64 0], .int .u8 0, .int .i64 0, .int .i64 0, .int .i64 0, .slice none 0 0] v9 fun e w' => e = .returned (.bool true) ∧ v9.grownBy w' none := sxis_any 0 0 0 0 p9 none 0 c9 0 0 [] v9 A9 (us_nil _) rfl rfl (by decide)
  clear A9 g9 C9
  go_wp2_with fail
  refine I9.mono ?_
  rintro e u9 ⟨rfl, g9⟩
  have HU9 : Hid (w2.grownBy u9 none) := grown_trans HV9.out g9
  clear g9 I9
  have C10 : Calls Tryz.prog 12 #[.int .u8 1, .int .i64 4, .int .i64 (-9999)] u9 fun e w' => ∃ p c, e = .returned (.agg #[.int .u8 0, .int .i64 0, .int .i64 0, .int .i64 0, .bool false, .bool false, .slice p 0 c, .int .i64 0, .int .i64 0]) ∧ sdR.At w' (.slice p 0 c) [] ∧ u9.grownBy w' none := sxall_at _ _ _ _ sx_v10 u9
  go_wp2_with fail
  refine C10.mono ?_
  rintro e v10 ⟨p10, c10, rfl, A10, g10⟩
  have HV10 : Hid (w2.grownBy v10 none) := grown_trans HU9.out g10
  have I10 : Calls Tryz.prog 11 #[.agg #[.int .u8 0, .int .i64 0, .int .i64 0, .int .i64 0, .bool false, .bool false, .slice p10 0 c10, .int .i64 0, .int .i64 0], .int .u8 0, .int .i64 0, .int .i64 0, .int .i64 0, .slice none 0 0] v10 fun e w' => e = .returned (.bool true) ∧ v10.grownBy w' none := sxis_any 0 0 0 0 p10 none 0 c10 0 0 [] v10 A10 (us_nil _) rfl rfl (by decide)
  clear A10 g10 C10
  go_wp2_with fail
  refine I10.mono ?_
  rintro e u10 ⟨rfl, g10⟩
  have HU10 : Hid (w2.grownBy u10 none) := grown_trans HV10.out g10
  clear g10 I10
  have hfl := fun (p : Option Addr) (c : Nat) (w : World) => Tryz.flS (.int .u8 0) (.int .i64 0) (.int .i64 0) (.int .i64 0) (.bool false) (.bool false) p 0 c (-1) 0 rfl rfl rfl rfl rfl rfl w
  have R0 : Calls Tryz.prog 12 #[.int .u8 2, .int .i64 (-1), .int .i64 1] u10 fun e w' => ∃ p c, e = .returned (.agg #[.int .u8 0, .int .i64 0, .int .i64 0, .int .i64 0, .bool false, .bool false, .slice p 0 c, .int .i64 (-1), .int .i64 0]) ∧ sdR.At w' (.slice p 0 c) [] ∧ u10.grownBy w' none := sxall_at _ _ _ _ (sx_no (by decide)) u10
  go_wp2_with fail
  refine R0.mono ?_
  rintro e r0 ⟨p0, c0, rfl, -, q0⟩
  have HR0 : Hid (w2.grownBy r0 none) := grown_trans HU10.out q0
  clear q0 R0
  have R1 : Calls Tryz.prog 12 #[.int .u8 6, .int .i64 (-1), .int .i64 1] r0 fun e w' => ∃ p c, e = .returned (.agg #[.int .u8 0, .int .i64 0, .int .i64 0, .int .i64 0, .bool false, .bool false, .slice p 0 c, .int .i64 (-1), .int .i64 0]) ∧ sdR.At w' (.slice p 0 c) [] ∧ r0.grownBy w' none := sxall_at _ _ _ _ (sx_no (by decide)) r0
  go_wp2_with fail
  refine R1.mono ?_
  rintro e r1 ⟨p1, c1, rfl, -, q1⟩
  have HR1 : Hid (w2.grownBy r1 none) := grown_trans HR0.out q1
  clear q1 R1
  have R2 : Calls Tryz.prog 12 #[.int .u8 3, .int .i64 1, .int .i64 1] r1 fun e w' => ∃ p c, e = .returned (.agg #[.int .u8 0, .int .i64 0, .int .i64 0, .int .i64 0, .bool false, .bool false, .slice p 0 c, .int .i64 (-1), .int .i64 0]) ∧ sdR.At w' (.slice p 0 c) [] ∧ r1.grownBy w' none := sxall_at _ _ _ _ (sx_no (by decide)) r1
  go_wp2_with fail
  refine R2.mono ?_
  rintro e r2 ⟨p2, c2, rfl, -, q2⟩
  have HR2 : Hid (w2.grownBy r2 none) := grown_trans HR1.out q2
  clear q2 R2
  have R3 : Calls Tryz.prog 12 #[.int .u8 1, .int .i64 5, .int .i64 1] r2 fun e w' => ∃ p c, e = .returned (.agg #[.int .u8 0, .int .i64 0, .int .i64 0, .int .i64 0, .bool false, .bool false, .slice p 0 c, .int .i64 (-1), .int .i64 0]) ∧ sdR.At w' (.slice p 0 c) [] ∧ r2.grownBy w' none := sxall_at _ _ _ _ (sx_no (by decide)) r2
  go_wp2_with fail
  refine R3.mono ?_
  rintro e r3 ⟨p3, c3, rfl, -, q3⟩
  have HR3 : Hid (w2.grownBy r3 none) := grown_trans HR2.out q3
  clear q3 R3
  have R4 : Calls Tryz.prog 12 #[.int .u8 1, .int .i64 0, .int .i64 1] r3 fun e w' => ∃ p c, e = .returned (.agg #[.int .u8 0, .int .i64 0, .int .i64 0, .int .i64 0, .bool false, .bool false, .slice p 0 c, .int .i64 (-1), .int .i64 0]) ∧ sdR.At w' (.slice p 0 c) [] ∧ r3.grownBy w' none := sxall_at _ _ _ _ (sx_no (by decide)) r3
  go_wp2_with fail
  refine R4.mono ?_
  rintro e r4 ⟨p4, c4, rfl, -, q4⟩
  have HR4 : Hid (w2.grownBy r4 none) := grown_trans HR3.out q4
  clear q4 R4
  have R5 : Calls Tryz.prog 12 #[.int .u8 1, .int .i64 (-3), .int .i64 1] r4 fun e w' => ∃ p c, e = .returned (.agg #[.int .u8 0, .int .i64 0, .int .i64 0, .int .i64 0, .bool false, .bool false, .slice p 0 c, .int .i64 (-1), .int .i64 0]) ∧ sdR.At w' (.slice p 0 c) [] ∧ r4.grownBy w' none := sxall_at _ _ _ _ (sx_no (by decide)) r4
  go_wp2_with fail
  refine R5.mono ?_
  rintro e r5 ⟨p5, c5, rfl, -, q5⟩
  have HR5 : Hid (w2.grownBy r5 none) := grown_trans HR4.out q5
  clear q5 R5
  have R6 : Calls Tryz.prog 12 #[.int .u8 1, .int .i64 4, .int .i64 10000] r5 fun e w' => ∃ p c, e = .returned (.agg #[.int .u8 0, .int .i64 0, .int .i64 0, .int .i64 0, .bool false, .bool false, .slice p 0 c, .int .i64 (-1), .int .i64 0]) ∧ sdR.At w' (.slice p 0 c) [] ∧ r5.grownBy w' none := sxall_at _ _ _ _ (sx_no (by decide)) r5
  go_wp2_with fail
  refine R6.mono ?_
  rintro e r6 ⟨p6, c6, rfl, -, q6⟩
  have HR6 : Hid (w2.grownBy r6 none) := grown_trans HR5.out q6
  clear q6 R6
  have R7 : Calls Tryz.prog 12 #[.int .u8 1, .int .i64 4, .int .i64 (-10000)] r6 fun e w' => ∃ p c, e = .returned (.agg #[.int .u8 0, .int .i64 0, .int .i64 0, .int .i64 0, .bool false, .bool false, .slice p 0 c, .int .i64 (-1), .int .i64 0]) ∧ sdR.At w' (.slice p 0 c) [] ∧ r6.grownBy w' none := sxall_at _ _ _ _ (sx_no (by decide)) r6
  go_wp2_with fail
  refine R7.mono ?_
  rintro e r7 ⟨p7, c7, rfl, -, q7⟩
  have HR7 : Hid (w2.grownBy r7 none) := grown_trans HR6.out q7
  clear q7 R7
  go_upto_region 6 with fail
  clear hfl
  have HM3 : Hid (SxM w r7 b S g f vG vR vK vH sxF) := HM2.out.keep HR7.out
  clear HM2 HG
  have CC := nm_cut HM3.out
  go_wp2_with fail
  refine CC.mono ?_
  rintro e w4 ⟨p4, m4, c4, rfl, g4⟩
  have HM4 : Hid (SxM w w4 b S g f vG vR vK vH sxF) := HM3.out.keep g4
  clear CC g4 HM3
  have HiT : Hid (iT.bytes = 88) := hT2
  have Hbb : Hid (iT.bytes * 2049 ≤ 281474976710656) := by show _ ≤ _; rw [HiT.out]; decide
  have Hbm : Hid (2049 ≤ maxLen) := by show _ ≤ _; unfold maxLen; decide
  clear hT2
  go_upto_region 8 with (first
    | (at_make; refine wpList_make_full _ rfl _ _ 23 rfl w4.heap.size 100 iT _ 11 Tryz.underlying23 hiT hT0 hT1 .i64 .i64 _ _ 2049 rfl rfl rfl rfl Hbb.out Hbm.out (Nat.le_refl _) ?_; intro V5 o5 g5; have HO5 : Hid (∃ n, n = 2049 ∧ thR.Own 100 V5 0 (.slice (some ⟨w4.heap.size, 0, none⟩) n n) (List.replicate n thZ)) := ⟨2049, rfl, own_big (made_ownT o5) (Nat.zero_le _)⟩; have HG5 : Hid (w4.grownBy V5 none) := g5; clear o5 g5)
    | (go_at_call 10; obtain ⟨n, hn, hM⟩ := HO5.out; rw [hn] at hM; have C6 := nm_many HM4.out HG5.out hM (by decide); refine C6.mono ?_; rintro e6 w6 ⟨p6, m6, c6, rfl, g6⟩; have HG6 : Hid (w4.grownBy w6 none) := grown_trans HG5.out g6; clear C6 g6 hn hM n))
  clear HO5
  go_upto_region 9 with (first
    | (at_make; refine wpList_make_full _ rfl _ _ 23 rfl w6.heap.size 100 iT _ 11 Tryz.underlying23 hiT hT0 hT1 .i64 .i64 _ _ 2049 rfl rfl rfl rfl Hbb.out Hbm.out (Nat.le_refl _) ?_; intro V7 o7 g7; have HO7 : Hid (∃ n, n = 2049 ∧ thR.Own 100 V7 0 (.slice (some ⟨w6.heap.size, 0, none⟩) n n) (List.replicate n thZ)) := ⟨2049, rfl, own_big (made_ownT o7) (Nat.zero_le _)⟩; have HG7 : Hid (w4.grownBy V7 none) := grown_trans HG6.out g7; clear o7 g7)
    | (go_at_call 10; obtain ⟨n, hn, hM⟩ := HO7.out; rw [hn] at hM; have C8 := nm_none hM; refine C8.mono ?_; rintro e8 w8 ⟨p8, m8, c8, rfl, g8⟩; have HG8 : Hid (w4.grownBy w8 none) := grown_trans HG7.out g8; clear C8 g8 hn hM n))
  clear HO7
  obtain ⟨Z, hZ⟩ : ∃ Z, Z = w8.alloc (.cells Tryz.zeroCells63 63) := ⟨_, rfl⟩
  have HZ : Hid (NoBk Z (.pointer (some ⟨w8.heap.size, 0, none⟩)) ∧ w4.grownBy Z none) := by rw [hZ]; exact ⟨zeroB_noS w8, grown_push HG8.out _⟩
  have CZ := nm_zero HZ.out.1
  go_wp2_with fail
  rw [show w8.alloc _ = Z from hZ.symm]
  clear hZ
  refine CZ.mono ?_
  rintro e w9 ⟨p9, m9, c9, rfl, g9⟩
  have HG9 : Hid (w4.grownBy w9 none) := grown_trans HZ.out.2 g9
  clear CZ g9 HZ
  obtain ⟨Y, hY⟩ : ∃ Y, Y = w9.alloc (.cells #[.int .u8 0, .int .i64 0, .int .i64 0, .int .i64 0, .bool false, .bool false, .slice p9 m9 c9, .int .i64 0, .int .i64 0] 45) := ⟨_, rfl⟩
  have HY : Hid (SxM w Y b S g f vG vR vK vH sxF) := by rw [hY]; exact HM4.out.keep (grown_push HG9.out _)
  clear HM4
  go_upto_region 10 with fail
  rw [← hY]
  clear hY
  have hz := sx_fblock HY.out.fe
  have rf := fun i => block_free hz i
  have z2 : Y.cell? ⟨f, 2, none⟩ = some (.int .u16 0) := (block_cell hz 2).trans rfl
  clear hz
  go_upto_region 11 with fail
  have HN : Hid (SxM w (Y.setCell ⟨f, 2, none⟩ (.int .u16 32)) b S g f vG vR vK vH sxM2) := HY.out.mute
  obtain ⟨N, hN⟩ : ∃ N, N = Y.setCell ⟨f, 2, none⟩ (.int .u16 32) := ⟨_, rfl⟩
  rw [← hN] at HN ⊢
  clear hN HY rf z2
  have CM := nm_mute HN.out
  go_wp2_with fail
  refine CM.mono ?_
  rintro e x1 ⟨px, cx, rfl, gx⟩
  have HX1 : Hid (w.grownBy x1 none) := grown_trans HN.out.gr gx
  clear CM gx HN
  have CA := sxawake_any x1
  go_wp2_with fail
  refine CA.mono ?_
  rintro e x2 ⟨rfl, gx⟩
  have HX2 : Hid (w.grownBy x2 none) := grown_trans HX1.out gx
  clear CA gx
  have CR := sxrest_any x2
  go_wp2_with fail
  refine CR.mono ?_
  rintro e x3 ⟨rfl, gx⟩
  have HX3 : Hid (w.grownBy x3 none) := grown_trans HX2.out gx
  clear CR gx
  go_wp2_with fail
  go_ret
  exact ⟨rfl, HX3.out⟩
end Go.Proofs.YthfjgpjcepmnmaaGreat
