/-
  The cards of package void: what each of the functions makes.
-/
import Derived.Test.YtknlcjhcamhfmaaGreatDoorJ14
namespace Go.Proofs.YtknlcjhcamhfmaaGreatDoor.Vo
open Go.RowKit

set_option maxHeartbeats 1000000 in
theorem with0_4 (w : World) : Calls Tryz.prog 211 #[.int .u16 0, .int .u8 4] w fun e w' => e = .returned (.int .u16 8) ∧ w' = w := by
  have b : Calls Tryz.prog 266 #[.int .u8 4] w fun e w' => e = .returned (.int .u16 8) ∧ w' = w := by
    have i : Calls Tryz.prog 241 #[.int .u8 4] w fun e w' => e = .returned (.bool true) ∧ w' = w := by
      go_enter Tryz.func241, Tryz.ntmps241
      go_wp2
      go_ret
      exact ⟨rfl, rfl⟩
    go_enter Tryz.func266, Tryz.ntmps266
    go_wp2_with (go_at_call 241; refine i.mono ?_; rintro e w' ⟨rfl, rfl⟩)
    go_ret
    exact ⟨rfl, rfl⟩
  go_enter Tryz.func211, Tryz.ntmps211
  go_wp2_with (go_at_call 266; refine b.mono ?_; rintro e w' ⟨rfl, rfl⟩)
  go_ret
  exact ⟨rfl, rfl⟩
set_option maxRecDepth 100000 in
theorem part_any (a b c n : Int) (w : World) : Calls Tryz.prog 231 #[.int .u8 a, .int .u8 b, .int .u8 c, .int .i64 n] w fun e w' => e = .returned (.agg #[.int .u8 a, .int .u8 b, .int .u8 c, .int .i64 n, .int .u8 0, .int .u8 0, .int .u8 0, .string ⟨#[]⟩]) ∧ w.grownBy w' none := by
  go_enter Tryz.func231, Tryz.ntmps231
  go_wp2
  refine bodyPost_ret (v := .agg #[.int .u8 a, .int .u8 b, .int .u8 c, .int .i64 n, .int .u8 0, .int .u8 0, .int .u8 0, .string ⟨#[]⟩]) (by simp [results, Tryz.results231, go_sem]) rfl ⟨rfl, ?_⟩
  exact World.grownBy_alloc _ _ none
set_option maxRecDepth 100000 in
theorem ofSuit_any (a b c n s t m : Int) (nm : ByteArray) (x : Int) (w : World) : Calls Tryz.prog 233 #[.agg #[.int .u8 a, .int .u8 b, .int .u8 c, .int .i64 n, .int .u8 s, .int .u8 t, .int .u8 m, .string nm], .int .u8 x] w fun e w' => e = .returned (.agg #[.int .u8 a, .int .u8 b, .int .u8 c, .int .i64 n, .int .u8 x, .int .u8 t, .int .u8 m, .string nm]) ∧ w.grownBy w' none := by
  go_enter Tryz.func233, Tryz.ntmps233
  go_wp2
  refine bodyPost_ret (v := .agg #[.int .u8 a, .int .u8 b, .int .u8 c, .int .i64 n, .int .u8 x, .int .u8 t, .int .u8 m, .string nm]) (by simp [results, Tryz.results233, go_sem]) rfl ⟨rfl, ?_⟩
  exact grown_push (World.grownBy_alloc _ _ none) _
set_option maxRecDepth 100000 in
theorem ofTrait_any (a b c n s t m : Int) (nm : ByteArray) (x : Int) (w : World) : Calls Tryz.prog 232 #[.agg #[.int .u8 a, .int .u8 b, .int .u8 c, .int .i64 n, .int .u8 s, .int .u8 t, .int .u8 m, .string nm], .int .u8 x] w fun e w' => e = .returned (.agg #[.int .u8 a, .int .u8 b, .int .u8 c, .int .i64 n, .int .u8 s, .int .u8 x, .int .u8 m, .string nm]) ∧ w.grownBy w' none := by
  go_enter Tryz.func232, Tryz.ntmps232
  go_wp2
  refine bodyPost_ret (v := .agg #[.int .u8 a, .int .u8 b, .int .u8 c, .int .i64 n, .int .u8 s, .int .u8 x, .int .u8 m, .string nm]) (by simp [results, Tryz.results232, go_sem]) rfl ⟨rfl, ?_⟩
  exact grown_push (World.grownBy_alloc _ _ none) _
set_option maxRecDepth 100000 in
theorem ofMark_any (a b c n s t m : Int) (nm : ByteArray) (x : Int) (w : World) : Calls Tryz.prog 230 #[.agg #[.int .u8 a, .int .u8 b, .int .u8 c, .int .i64 n, .int .u8 s, .int .u8 t, .int .u8 m, .string nm], .int .u8 x] w fun e w' => e = .returned (.agg #[.int .u8 a, .int .u8 b, .int .u8 c, .int .i64 n, .int .u8 s, .int .u8 t, .int .u8 x, .string nm]) ∧ w.grownBy w' none := by
  go_enter Tryz.func230, Tryz.ntmps230
  go_wp2
  refine bodyPost_ret (v := .agg #[.int .u8 a, .int .u8 b, .int .u8 c, .int .i64 n, .int .u8 s, .int .u8 t, .int .u8 x, .string nm]) (by simp [results, Tryz.results230, go_sem]) rfl ⟨rfl, ?_⟩
  exact grown_push (World.grownBy_alloc _ _ none) _
set_option maxRecDepth 100000 in
theorem ofName_any (a b c n s t m : Int) (nm : ByteArray) (x : ByteArray) (w : World) : Calls Tryz.prog 234 #[.agg #[.int .u8 a, .int .u8 b, .int .u8 c, .int .i64 n, .int .u8 s, .int .u8 t, .int .u8 m, .string nm], .string x] w fun e w' => e = .returned (.agg #[.int .u8 a, .int .u8 b, .int .u8 c, .int .i64 n, .int .u8 s, .int .u8 t, .int .u8 m, .string x]) ∧ w.grownBy w' none := by
  go_enter Tryz.func234, Tryz.ntmps234
  go_wp2
  refine bodyPost_ret (v := .agg #[.int .u8 a, .int .u8 b, .int .u8 c, .int .i64 n, .int .u8 s, .int .u8 t, .int .u8 m, .string x]) (by simp [results, Tryz.results234, go_sem]) rfl ⟨rfl, ?_⟩
  exact grown_push (World.grownBy_alloc _ _ none) _
def hushH : Hd := ⟨⟨#[104, 117, 115, 104]⟩, 5, 2, 2, 0, 0, 0, false⟩
def hushP : List Pt := [⟨1, 9, 3, 2, 0, 0, 2, ⟨#[]⟩⟩, ⟨1, 1, 3, 1, 0, 0, 0, ⟨#[]⟩⟩]
def nullifierH : Hd := ⟨⟨#[110, 117, 108, 108, 105, 102, 105, 101, 114]⟩, 5, 1, 4, 2, 4, 0, false⟩
def nullifierP : List Pt := [⟨5, 12, 9, 0, 3, 6, 0, ⟨#[]⟩⟩, ⟨5, 13, 6, 0, 0, 8, 0, ⟨#[]⟩⟩]
def shadeH : Hd := ⟨⟨#[115, 104, 97, 100, 101]⟩, 5, 1, 0, 1, 1, 8, true⟩
def shadeP : List Pt := []
def thiefH : Hd := ⟨⟨#[116, 104, 105, 101, 102]⟩, 5, 1, 6, 2, 2, 8, false⟩
def thiefP : List Pt := [⟨5, 10, 10, 0, 0, 2, 0, ⟨#[]⟩⟩, ⟨2, 1, 7, 1, 0, 0, 0, ⟨#[]⟩⟩]
def hollowH : Hd := ⟨⟨#[104, 111, 108, 108, 111, 119]⟩, 5, 3, 3, 0, 0, 0, false⟩
def hollowP : List Pt := [⟨6, 17, 2, 0, 0, 0, 0, ⟨#[]⟩⟩, ⟨6, 18, 1, 0, 0, 0, 0, ⟨#[]⟩⟩, ⟨5, 14, 10, 2, 0, 5, 0, ⟨#[]⟩⟩]
def echoH : Hd := ⟨⟨#[101, 99, 104, 111]⟩, 5, 1, 3, 2, 2, 0, false⟩
def echoP : List Pt := [⟨1, 7, 1, 2, 0, 0, 0, ⟨#[119, 105, 115, 112]⟩⟩, ⟨3, 3, 1, 1, 0, 0, 0, ⟨#[]⟩⟩, ⟨2, 7, 2, 1, 0, 0, 0, ⟨#[115, 104, 97, 100, 101]⟩⟩, ⟨5, 11, 8, 0, 5, 0, 0, ⟨#[]⟩⟩]
set_option maxRecDepth 100000 in
set_option maxHeartbeats 1000000 in
theorem hush_any (w : World) : Calls Tryz.prog 176 #[] w fun e w' => ∃ u, e = .returned (cv hushH u) ∧ Own8 w.heap.size w' u hushP ∧ w.grownBy w' none := by
  have A0 : CAt (w.alloc (.cells (ccs Hd.none (.slice none 0 0)) 56)) w.heap.size Hd.none (.slice none 0 0) := alloc_at _ _ _
  have HA0 : Hid (CAt (w.alloc (.cells (ccs Hd.none (.slice none 0 0)) 56)) w.heap.size Hd.none (.slice none 0 0)) := A0
  clear A0
  unfold ccs Hd.none at HA0
  go_enter Tryz.func176, Tryz.ntmps176
  go_wp2_with fail
  refine (part_any 1 9 3 2 _).mono ?_
  rintro e w1 ⟨rfl, g1⟩
  go_wp2_with fail
  refine (ofMark_any 1 9 3 2 0 0 0 ⟨#[]⟩ 2 _).mono ?_
  rintro e w2 ⟨rfl, g2⟩
  go_wp2_with fail
  refine (part_any 1 1 3 1 _).mono ?_
  rintro e w3 ⟨rfl, g3⟩
  have HG : Hid (w.grownBy w3 none) := grown_trans (World.grownBy_alloc _ _ none) (grown_trans (grown_trans g1 g2) g3)
  have C1 : CAt w3 w.heap.size Hd.none (.slice none 0 0) := CAt.keepR HA0.out (grown_trans (grown_trans g1 g2) g3) (by simp)
  have hlt := block_lt C1
  clear g1 g2 g3 HA0
  obtain ⟨W9, hW9⟩ : ∃ W9, W9 = set9 w3 w.heap.size 0 hushH (.slice (some ⟨w3.heap.size, 0, none⟩) 2 2) := ⟨_, rfl⟩
  have S9 : W9.heap.size = w3.heap.size := by rw [hW9]; exact size_set9 _ _ _ _ _
  have HC9 : Hid (CAt (W9.alloc (.cells #[.int .u8 1, .int .u8 9, .int .u8 3, .int .i64 2, .int .u8 0, .int .u8 0, .int .u8 2, .string ⟨#[]⟩, .int .u8 1, .int .u8 1, .int .u8 3, .int .i64 1, .int .u8 0, .int .u8 0, .int .u8 0, .string ⟨#[]⟩] 115)) w.heap.size hushH (.slice (some ⟨w3.heap.size, 0, none⟩) 2 2)) := by rw [hW9]; exact (C1.s9 _ _).keepR (World.grownBy_alloc _ _ none) (by simp)
  have HG9 : Hid (w.grownBy (W9.alloc (.cells #[.int .u8 1, .int .u8 9, .int .u8 3, .int .i64 2, .int .u8 0, .int .u8 0, .int .u8 2, .string ⟨#[]⟩, .int .u8 1, .int .u8 1, .int .u8 3, .int .i64 1, .int .u8 0, .int .u8 0, .int .u8 0, .string ⟨#[]⟩] 115)) none) := by rw [hW9]; exact grown_push (grown_own HG.out (grown_s9 _ _ _ _ _) (fun x e => by cases e; exact Nat.le_refl _)) _
  have HP9 : Hid (PB (W9.alloc (.cells #[.int .u8 1, .int .u8 9, .int .u8 3, .int .i64 2, .int .u8 0, .int .u8 0, .int .u8 2, .string ⟨#[]⟩, .int .u8 1, .int .u8 1, .int .u8 3, .int .i64 1, .int .u8 0, .int .u8 0, .int .u8 0, .string ⟨#[]⟩] 115)) w3.heap.size hushP) := by rw [← S9]; exact alloc_at _ _ _
  obtain ⟨z0, z1, z2, z3, z4, z5, z6, z7, z8⟩ := C1.cells
  have zf := fun i => C1.free i
  simp only [Hd.none] at z0 z1 z2 z3 z4 z5 z6 z7 z8
  unfold set9 hushH at hW9
  simp only [Nat.zero_add] at hW9
  have HW9 : Hid (W9 = _) := hW9
  clear C1 hW9 S9
  go_wp2
  rw [← HW9.out]
  obtain ⟨y0, y1, y2, y3, y4, y5, y6, y7, y8⟩ := HC9.out.cells
  unfold hushH at y0 y1 y2 y3 y4 y5 y6 y7
  simp only at y0 y1 y2 y3 y4 y5 y6 y7
  refine bodyPost_ret (v := cv hushH (.slice (some ⟨w3.heap.size, 0, none⟩) 2 2)) (by simp only [results, Tryz.results176]; simp [go_sem, cv, hushH, y0, y1, y2, y3, y4, y5, y6, y7, y8]) rfl ⟨_, rfl, Or.inr ⟨w3.heap.size, rfl, HP9.out, by omega⟩, HG9.out⟩
set_option maxRecDepth 100000 in
set_option maxHeartbeats 1000000 in
theorem nullifier_any (w : World) : Calls Tryz.prog 177 #[] w fun e w' => ∃ u, e = .returned (cv nullifierH u) ∧ Own8 w.heap.size w' u nullifierP ∧ w.grownBy w' none := by
  have A0 : CAt (w.alloc (.cells (ccs Hd.none (.slice none 0 0)) 56)) w.heap.size Hd.none (.slice none 0 0) := alloc_at _ _ _
  have HA0 : Hid (CAt (w.alloc (.cells (ccs Hd.none (.slice none 0 0)) 56)) w.heap.size Hd.none (.slice none 0 0)) := A0
  clear A0
  unfold ccs Hd.none at HA0
  go_enter Tryz.func177, Tryz.ntmps177
  go_wp2_with fail
  refine (part_any 5 12 9 0 _).mono ?_
  rintro e w1 ⟨rfl, g1⟩
  go_wp2_with fail
  refine (ofSuit_any 5 12 9 0 0 0 0 ⟨#[]⟩ 3 _).mono ?_
  rintro e w2 ⟨rfl, g2⟩
  go_wp2_with fail
  refine (ofTrait_any 5 12 9 0 3 0 0 ⟨#[]⟩ 6 _).mono ?_
  rintro e w3 ⟨rfl, g3⟩
  go_wp2_with fail
  refine (part_any 5 13 6 0 _).mono ?_
  rintro e w4 ⟨rfl, g4⟩
  go_wp2_with fail
  refine (ofTrait_any 5 13 6 0 0 0 0 ⟨#[]⟩ 8 _).mono ?_
  rintro e w5 ⟨rfl, g5⟩
  have HG : Hid (w.grownBy w5 none) := grown_trans (World.grownBy_alloc _ _ none) (grown_trans (grown_trans (grown_trans (grown_trans g1 g2) g3) g4) g5)
  have C1 : CAt w5 w.heap.size Hd.none (.slice none 0 0) := CAt.keepR HA0.out (grown_trans (grown_trans (grown_trans (grown_trans g1 g2) g3) g4) g5) (by simp)
  have hlt := block_lt C1
  clear g1 g2 g3 g4 g5 HA0
  obtain ⟨W9, hW9⟩ : ∃ W9, W9 = set9 w5 w.heap.size 0 nullifierH (.slice (some ⟨w5.heap.size, 0, none⟩) 2 2) := ⟨_, rfl⟩
  have S9 : W9.heap.size = w5.heap.size := by rw [hW9]; exact size_set9 _ _ _ _ _
  have HC9 : Hid (CAt (W9.alloc (.cells #[.int .u8 5, .int .u8 12, .int .u8 9, .int .i64 0, .int .u8 3, .int .u8 6, .int .u8 0, .string ⟨#[]⟩, .int .u8 5, .int .u8 13, .int .u8 6, .int .i64 0, .int .u8 0, .int .u8 8, .int .u8 0, .string ⟨#[]⟩] 115)) w.heap.size nullifierH (.slice (some ⟨w5.heap.size, 0, none⟩) 2 2)) := by rw [hW9]; exact (C1.s9 _ _).keepR (World.grownBy_alloc _ _ none) (by simp)
  have HG9 : Hid (w.grownBy (W9.alloc (.cells #[.int .u8 5, .int .u8 12, .int .u8 9, .int .i64 0, .int .u8 3, .int .u8 6, .int .u8 0, .string ⟨#[]⟩, .int .u8 5, .int .u8 13, .int .u8 6, .int .i64 0, .int .u8 0, .int .u8 8, .int .u8 0, .string ⟨#[]⟩] 115)) none) := by rw [hW9]; exact grown_push (grown_own HG.out (grown_s9 _ _ _ _ _) (fun x e => by cases e; exact Nat.le_refl _)) _
  have HP9 : Hid (PB (W9.alloc (.cells #[.int .u8 5, .int .u8 12, .int .u8 9, .int .i64 0, .int .u8 3, .int .u8 6, .int .u8 0, .string ⟨#[]⟩, .int .u8 5, .int .u8 13, .int .u8 6, .int .i64 0, .int .u8 0, .int .u8 8, .int .u8 0, .string ⟨#[]⟩] 115)) w5.heap.size nullifierP) := by rw [← S9]; exact alloc_at _ _ _
  obtain ⟨z0, z1, z2, z3, z4, z5, z6, z7, z8⟩ := C1.cells
  have zf := fun i => C1.free i
  simp only [Hd.none] at z0 z1 z2 z3 z4 z5 z6 z7 z8
  unfold set9 nullifierH at hW9
  simp only [Nat.zero_add] at hW9
  have HW9 : Hid (W9 = _) := hW9
  clear C1 hW9 S9
  go_wp2
  rw [← HW9.out]
  obtain ⟨y0, y1, y2, y3, y4, y5, y6, y7, y8⟩ := HC9.out.cells
  unfold nullifierH at y0 y1 y2 y3 y4 y5 y6 y7
  simp only at y0 y1 y2 y3 y4 y5 y6 y7
  refine bodyPost_ret (v := cv nullifierH (.slice (some ⟨w5.heap.size, 0, none⟩) 2 2)) (by simp only [results, Tryz.results177]; simp [go_sem, cv, nullifierH, y0, y1, y2, y3, y4, y5, y6, y7, y8]) rfl ⟨_, rfl, Or.inr ⟨w5.heap.size, rfl, HP9.out, by omega⟩, HG9.out⟩
set_option maxRecDepth 100000 in
set_option maxHeartbeats 1000000 in
theorem shade_any (w : World) : Calls Tryz.prog 178 #[] w fun e w' => ∃ u, e = .returned (cv shadeH u) ∧ Own8 w.heap.size w' u shadeP ∧ w.grownBy w' none := by
  have A0 : CAt (w.alloc (.cells (ccs Hd.none (.slice none 0 0)) 56)) w.heap.size Hd.none (.slice none 0 0) := alloc_at _ _ _
  have HA0 : Hid (CAt (w.alloc (.cells (ccs Hd.none (.slice none 0 0)) 56)) w.heap.size Hd.none (.slice none 0 0)) := A0
  clear A0
  unfold ccs Hd.none at HA0
  go_enter Tryz.func178, Tryz.ntmps178
  go_wp2_with fail
  refine (with0_4 _).mono ?_
  rintro e w1 ⟨rfl, h1⟩
  obtain ⟨w0, hw0⟩ : ∃ w0, w0 = w1 := ⟨_, rfl⟩
  have g1 : (w.alloc (.cells #[.string ⟨#[]⟩, .int .u8 0, .int .u8 0, .int .i64 0, .int .i64 0, .int .i64 0, .int .u16 0, .bool false, .slice none 0 0] 56)).grownBy w1 none := h1 ▸ grown_refl _ _
  clear h1 hw0 w0
  have HG : Hid (w.grownBy w1 none) := grown_trans (World.grownBy_alloc _ _ none) g1
  have C1 : CAt w1 w.heap.size Hd.none (.slice none 0 0) := CAt.keepR HA0.out g1 (by simp)
  have hlt := block_lt C1
  clear g1 HA0
  obtain ⟨z0, z1, z2, z3, z4, z5, z6, z7, z8⟩ := C1.cells
  have zf := fun i => C1.free i
  simp only [Hd.none] at z0 z1 z2 z3 z4 z5 z6 z7 z8
  go_wp2
  refine bodyPost_ret (v := cv shadeH (.slice none 0 0)) (by simp [results, Tryz.results178, go_sem, cv, shadeH, z0, z1, z2, z3, z4, z5, z6, z7, z8]) rfl ⟨_, rfl, Or.inl ⟨rfl, rfl⟩, ?_⟩
  have h9 := grown_own HG.out (grown_s9 w1 w.heap.size 0 shadeH (.slice none 0 0)) (fun x e => by cases e; exact Nat.le_refl _)
  unfold set9 shadeH at h9
  simp only [Nat.zero_add] at h9
  exact h9
set_option maxRecDepth 100000 in
set_option maxHeartbeats 1000000 in
theorem thief_any (w : World) : Calls Tryz.prog 179 #[] w fun e w' => ∃ u, e = .returned (cv thiefH u) ∧ Own8 w.heap.size w' u thiefP ∧ w.grownBy w' none := by
  have A0 : CAt (w.alloc (.cells (ccs Hd.none (.slice none 0 0)) 56)) w.heap.size Hd.none (.slice none 0 0) := alloc_at _ _ _
  have HA0 : Hid (CAt (w.alloc (.cells (ccs Hd.none (.slice none 0 0)) 56)) w.heap.size Hd.none (.slice none 0 0)) := A0
  clear A0
  unfold ccs Hd.none at HA0
  go_enter Tryz.func179, Tryz.ntmps179
  go_wp2_with fail
  refine (with0_4 _).mono ?_
  rintro e w1 ⟨rfl, h1⟩
  obtain ⟨w0, hw0⟩ : ∃ w0, w0 = w1 := ⟨_, rfl⟩
  have g1 : (w.alloc (.cells #[.string ⟨#[]⟩, .int .u8 0, .int .u8 0, .int .i64 0, .int .i64 0, .int .i64 0, .int .u16 0, .bool false, .slice none 0 0] 56)).grownBy w1 none := h1 ▸ grown_refl _ _
  clear h1 hw0 w0
  go_wp2_with fail
  refine (part_any 5 10 10 0 _).mono ?_
  rintro e w2 ⟨rfl, g2⟩
  go_wp2_with fail
  refine (ofTrait_any 5 10 10 0 0 0 0 ⟨#[]⟩ 2 _).mono ?_
  rintro e w3 ⟨rfl, g3⟩
  go_wp2_with fail
  refine (part_any 2 1 7 1 _).mono ?_
  rintro e w4 ⟨rfl, g4⟩
  have HG : Hid (w.grownBy w4 none) := grown_trans (World.grownBy_alloc _ _ none) (grown_trans (grown_trans (grown_trans g1 g2) g3) g4)
  have C1 : CAt w4 w.heap.size Hd.none (.slice none 0 0) := CAt.keepR HA0.out (grown_trans (grown_trans (grown_trans g1 g2) g3) g4) (by simp)
  have hlt := block_lt C1
  clear g1 g2 g3 g4 HA0
  obtain ⟨W9, hW9⟩ : ∃ W9, W9 = set9 w4 w.heap.size 0 thiefH (.slice (some ⟨w4.heap.size, 0, none⟩) 2 2) := ⟨_, rfl⟩
  have S9 : W9.heap.size = w4.heap.size := by rw [hW9]; exact size_set9 _ _ _ _ _
  have HC9 : Hid (CAt (W9.alloc (.cells #[.int .u8 5, .int .u8 10, .int .u8 10, .int .i64 0, .int .u8 0, .int .u8 2, .int .u8 0, .string ⟨#[]⟩, .int .u8 2, .int .u8 1, .int .u8 7, .int .i64 1, .int .u8 0, .int .u8 0, .int .u8 0, .string ⟨#[]⟩] 115)) w.heap.size thiefH (.slice (some ⟨w4.heap.size, 0, none⟩) 2 2)) := by rw [hW9]; exact (C1.s9 _ _).keepR (World.grownBy_alloc _ _ none) (by simp)
  have HG9 : Hid (w.grownBy (W9.alloc (.cells #[.int .u8 5, .int .u8 10, .int .u8 10, .int .i64 0, .int .u8 0, .int .u8 2, .int .u8 0, .string ⟨#[]⟩, .int .u8 2, .int .u8 1, .int .u8 7, .int .i64 1, .int .u8 0, .int .u8 0, .int .u8 0, .string ⟨#[]⟩] 115)) none) := by rw [hW9]; exact grown_push (grown_own HG.out (grown_s9 _ _ _ _ _) (fun x e => by cases e; exact Nat.le_refl _)) _
  have HP9 : Hid (PB (W9.alloc (.cells #[.int .u8 5, .int .u8 10, .int .u8 10, .int .i64 0, .int .u8 0, .int .u8 2, .int .u8 0, .string ⟨#[]⟩, .int .u8 2, .int .u8 1, .int .u8 7, .int .i64 1, .int .u8 0, .int .u8 0, .int .u8 0, .string ⟨#[]⟩] 115)) w4.heap.size thiefP) := by rw [← S9]; exact alloc_at _ _ _
  obtain ⟨z0, z1, z2, z3, z4, z5, z6, z7, z8⟩ := C1.cells
  have zf := fun i => C1.free i
  simp only [Hd.none] at z0 z1 z2 z3 z4 z5 z6 z7 z8
  unfold set9 thiefH at hW9
  simp only [Nat.zero_add] at hW9
  have HW9 : Hid (W9 = _) := hW9
  clear C1 hW9 S9
  go_wp2
  rw [← HW9.out]
  obtain ⟨y0, y1, y2, y3, y4, y5, y6, y7, y8⟩ := HC9.out.cells
  unfold thiefH at y0 y1 y2 y3 y4 y5 y6 y7
  simp only at y0 y1 y2 y3 y4 y5 y6 y7
  refine bodyPost_ret (v := cv thiefH (.slice (some ⟨w4.heap.size, 0, none⟩) 2 2)) (by simp only [results, Tryz.results179]; simp [go_sem, cv, thiefH, y0, y1, y2, y3, y4, y5, y6, y7, y8]) rfl ⟨_, rfl, Or.inr ⟨w4.heap.size, rfl, HP9.out, by omega⟩, HG9.out⟩
set_option maxRecDepth 100000 in
set_option maxHeartbeats 1000000 in
theorem hollow_any (w : World) : Calls Tryz.prog 180 #[] w fun e w' => ∃ u, e = .returned (cv hollowH u) ∧ Own8 w.heap.size w' u hollowP ∧ w.grownBy w' none := by
  have A0 : CAt (w.alloc (.cells (ccs Hd.none (.slice none 0 0)) 56)) w.heap.size Hd.none (.slice none 0 0) := alloc_at _ _ _
  have HA0 : Hid (CAt (w.alloc (.cells (ccs Hd.none (.slice none 0 0)) 56)) w.heap.size Hd.none (.slice none 0 0)) := A0
  clear A0
  unfold ccs Hd.none at HA0
  go_enter Tryz.func180, Tryz.ntmps180
  go_wp2_with fail
  refine (part_any 6 17 2 0 _).mono ?_
  rintro e w1 ⟨rfl, g1⟩
  go_wp2_with fail
  refine (part_any 6 18 1 0 _).mono ?_
  rintro e w2 ⟨rfl, g2⟩
  go_wp2_with fail
  refine (part_any 5 14 10 2 _).mono ?_
  rintro e w3 ⟨rfl, g3⟩
  go_wp2_with fail
  refine (ofTrait_any 5 14 10 2 0 0 0 ⟨#[]⟩ 5 _).mono ?_
  rintro e w4 ⟨rfl, g4⟩
  have HG : Hid (w.grownBy w4 none) := grown_trans (World.grownBy_alloc _ _ none) (grown_trans (grown_trans (grown_trans g1 g2) g3) g4)
  have C1 : CAt w4 w.heap.size Hd.none (.slice none 0 0) := CAt.keepR HA0.out (grown_trans (grown_trans (grown_trans g1 g2) g3) g4) (by simp)
  have hlt := block_lt C1
  clear g1 g2 g3 g4 HA0
  obtain ⟨W9, hW9⟩ : ∃ W9, W9 = set9 w4 w.heap.size 0 hollowH (.slice (some ⟨w4.heap.size, 0, none⟩) 3 3) := ⟨_, rfl⟩
  have S9 : W9.heap.size = w4.heap.size := by rw [hW9]; exact size_set9 _ _ _ _ _
  have HC9 : Hid (CAt (W9.alloc (.cells #[.int .u8 6, .int .u8 17, .int .u8 2, .int .i64 0, .int .u8 0, .int .u8 0, .int .u8 0, .string ⟨#[]⟩, .int .u8 6, .int .u8 18, .int .u8 1, .int .i64 0, .int .u8 0, .int .u8 0, .int .u8 0, .string ⟨#[]⟩, .int .u8 5, .int .u8 14, .int .u8 10, .int .i64 2, .int .u8 0, .int .u8 5, .int .u8 0, .string ⟨#[]⟩] 115)) w.heap.size hollowH (.slice (some ⟨w4.heap.size, 0, none⟩) 3 3)) := by rw [hW9]; exact (C1.s9 _ _).keepR (World.grownBy_alloc _ _ none) (by simp)
  have HG9 : Hid (w.grownBy (W9.alloc (.cells #[.int .u8 6, .int .u8 17, .int .u8 2, .int .i64 0, .int .u8 0, .int .u8 0, .int .u8 0, .string ⟨#[]⟩, .int .u8 6, .int .u8 18, .int .u8 1, .int .i64 0, .int .u8 0, .int .u8 0, .int .u8 0, .string ⟨#[]⟩, .int .u8 5, .int .u8 14, .int .u8 10, .int .i64 2, .int .u8 0, .int .u8 5, .int .u8 0, .string ⟨#[]⟩] 115)) none) := by rw [hW9]; exact grown_push (grown_own HG.out (grown_s9 _ _ _ _ _) (fun x e => by cases e; exact Nat.le_refl _)) _
  have HP9 : Hid (PB (W9.alloc (.cells #[.int .u8 6, .int .u8 17, .int .u8 2, .int .i64 0, .int .u8 0, .int .u8 0, .int .u8 0, .string ⟨#[]⟩, .int .u8 6, .int .u8 18, .int .u8 1, .int .i64 0, .int .u8 0, .int .u8 0, .int .u8 0, .string ⟨#[]⟩, .int .u8 5, .int .u8 14, .int .u8 10, .int .i64 2, .int .u8 0, .int .u8 5, .int .u8 0, .string ⟨#[]⟩] 115)) w4.heap.size hollowP) := by rw [← S9]; exact alloc_at _ _ _
  obtain ⟨z0, z1, z2, z3, z4, z5, z6, z7, z8⟩ := C1.cells
  have zf := fun i => C1.free i
  simp only [Hd.none] at z0 z1 z2 z3 z4 z5 z6 z7 z8
  unfold set9 hollowH at hW9
  simp only [Nat.zero_add] at hW9
  have HW9 : Hid (W9 = _) := hW9
  clear C1 hW9 S9
  go_wp2
  rw [← HW9.out]
  obtain ⟨y0, y1, y2, y3, y4, y5, y6, y7, y8⟩ := HC9.out.cells
  unfold hollowH at y0 y1 y2 y3 y4 y5 y6 y7
  simp only at y0 y1 y2 y3 y4 y5 y6 y7
  refine bodyPost_ret (v := cv hollowH (.slice (some ⟨w4.heap.size, 0, none⟩) 3 3)) (by simp only [results, Tryz.results180]; simp [go_sem, cv, hollowH, y0, y1, y2, y3, y4, y5, y6, y7, y8]) rfl ⟨_, rfl, Or.inr ⟨w4.heap.size, rfl, HP9.out, by omega⟩, HG9.out⟩
set_option maxRecDepth 100000 in
set_option maxHeartbeats 1000000 in
theorem echo_any (w : World) : Calls Tryz.prog 181 #[] w fun e w' => ∃ u, e = .returned (cv echoH u) ∧ Own8 w.heap.size w' u echoP ∧ w.grownBy w' none := by
  have A0 : CAt (w.alloc (.cells (ccs Hd.none (.slice none 0 0)) 56)) w.heap.size Hd.none (.slice none 0 0) := alloc_at _ _ _
  have HA0 : Hid (CAt (w.alloc (.cells (ccs Hd.none (.slice none 0 0)) 56)) w.heap.size Hd.none (.slice none 0 0)) := A0
  clear A0
  unfold ccs Hd.none at HA0
  go_enter Tryz.func181, Tryz.ntmps181
  go_wp2_with fail
  refine (part_any 1 7 1 2 _).mono ?_
  rintro e w1 ⟨rfl, g1⟩
  go_wp2_with fail
  refine (ofName_any 1 7 1 2 0 0 0 ⟨#[]⟩ ⟨#[119, 105, 115, 112]⟩ _).mono ?_
  rintro e w2 ⟨rfl, g2⟩
  go_wp2_with fail
  refine (part_any 3 3 1 1 _).mono ?_
  rintro e w3 ⟨rfl, g3⟩
  go_wp2_with fail
  refine (part_any 2 7 2 1 _).mono ?_
  rintro e w4 ⟨rfl, g4⟩
  go_wp2_with fail
  refine (ofName_any 2 7 2 1 0 0 0 ⟨#[]⟩ ⟨#[115, 104, 97, 100, 101]⟩ _).mono ?_
  rintro e w5 ⟨rfl, g5⟩
  go_wp2_with fail
  refine (part_any 5 11 8 0 _).mono ?_
  rintro e w6 ⟨rfl, g6⟩
  go_wp2_with fail
  refine (ofSuit_any 5 11 8 0 0 0 0 ⟨#[]⟩ 5 _).mono ?_
  rintro e w7 ⟨rfl, g7⟩
  have HG : Hid (w.grownBy w7 none) := grown_trans (World.grownBy_alloc _ _ none) (grown_trans (grown_trans (grown_trans (grown_trans (grown_trans (grown_trans g1 g2) g3) g4) g5) g6) g7)
  have C1 : CAt w7 w.heap.size Hd.none (.slice none 0 0) := CAt.keepR HA0.out (grown_trans (grown_trans (grown_trans (grown_trans (grown_trans (grown_trans g1 g2) g3) g4) g5) g6) g7) (by simp)
  have hlt := block_lt C1
  clear g1 g2 g3 g4 g5 g6 g7 HA0
  obtain ⟨W9, hW9⟩ : ∃ W9, W9 = set9 w7 w.heap.size 0 echoH (.slice (some ⟨w7.heap.size, 0, none⟩) 4 4) := ⟨_, rfl⟩
  have S9 : W9.heap.size = w7.heap.size := by rw [hW9]; exact size_set9 _ _ _ _ _
  have HC9 : Hid (CAt (W9.alloc (.cells #[.int .u8 1, .int .u8 7, .int .u8 1, .int .i64 2, .int .u8 0, .int .u8 0, .int .u8 0, .string ⟨#[119, 105, 115, 112]⟩, .int .u8 3, .int .u8 3, .int .u8 1, .int .i64 1, .int .u8 0, .int .u8 0, .int .u8 0, .string ⟨#[]⟩, .int .u8 2, .int .u8 7, .int .u8 2, .int .i64 1, .int .u8 0, .int .u8 0, .int .u8 0, .string ⟨#[115, 104, 97, 100, 101]⟩, .int .u8 5, .int .u8 11, .int .u8 8, .int .i64 0, .int .u8 5, .int .u8 0, .int .u8 0, .string ⟨#[]⟩] 115)) w.heap.size echoH (.slice (some ⟨w7.heap.size, 0, none⟩) 4 4)) := by rw [hW9]; exact (C1.s9 _ _).keepR (World.grownBy_alloc _ _ none) (by simp)
  have HG9 : Hid (w.grownBy (W9.alloc (.cells #[.int .u8 1, .int .u8 7, .int .u8 1, .int .i64 2, .int .u8 0, .int .u8 0, .int .u8 0, .string ⟨#[119, 105, 115, 112]⟩, .int .u8 3, .int .u8 3, .int .u8 1, .int .i64 1, .int .u8 0, .int .u8 0, .int .u8 0, .string ⟨#[]⟩, .int .u8 2, .int .u8 7, .int .u8 2, .int .i64 1, .int .u8 0, .int .u8 0, .int .u8 0, .string ⟨#[115, 104, 97, 100, 101]⟩, .int .u8 5, .int .u8 11, .int .u8 8, .int .i64 0, .int .u8 5, .int .u8 0, .int .u8 0, .string ⟨#[]⟩] 115)) none) := by rw [hW9]; exact grown_push (grown_own HG.out (grown_s9 _ _ _ _ _) (fun x e => by cases e; exact Nat.le_refl _)) _
  have HP9 : Hid (PB (W9.alloc (.cells #[.int .u8 1, .int .u8 7, .int .u8 1, .int .i64 2, .int .u8 0, .int .u8 0, .int .u8 0, .string ⟨#[119, 105, 115, 112]⟩, .int .u8 3, .int .u8 3, .int .u8 1, .int .i64 1, .int .u8 0, .int .u8 0, .int .u8 0, .string ⟨#[]⟩, .int .u8 2, .int .u8 7, .int .u8 2, .int .i64 1, .int .u8 0, .int .u8 0, .int .u8 0, .string ⟨#[115, 104, 97, 100, 101]⟩, .int .u8 5, .int .u8 11, .int .u8 8, .int .i64 0, .int .u8 5, .int .u8 0, .int .u8 0, .string ⟨#[]⟩] 115)) w7.heap.size echoP) := by rw [← S9]; exact alloc_at _ _ _
  obtain ⟨z0, z1, z2, z3, z4, z5, z6, z7, z8⟩ := C1.cells
  have zf := fun i => C1.free i
  simp only [Hd.none] at z0 z1 z2 z3 z4 z5 z6 z7 z8
  unfold set9 echoH at hW9
  simp only [Nat.zero_add] at hW9
  have HW9 : Hid (W9 = _) := hW9
  clear C1 hW9 S9
  go_wp2
  rw [← HW9.out]
  obtain ⟨y0, y1, y2, y3, y4, y5, y6, y7, y8⟩ := HC9.out.cells
  unfold echoH at y0 y1 y2 y3 y4 y5 y6 y7
  simp only at y0 y1 y2 y3 y4 y5 y6 y7
  refine bodyPost_ret (v := cv echoH (.slice (some ⟨w7.heap.size, 0, none⟩) 4 4)) (by simp only [results, Tryz.results181]; simp [go_sem, cv, echoH, y0, y1, y2, y3, y4, y5, y6, y7, y8]) rfl ⟨_, rfl, Or.inr ⟨w7.heap.size, rfl, HP9.out, by omega⟩, HG9.out⟩
def specL : List (Hd × List Pt) := [(hushH, hushP), (nullifierH, nullifierP), (shadeH, shadeP), (thiefH, thiefP), (hollowH, hollowP), (echoH, echoP)]
def LIs (es : List Ent) (k : Nat) : Prop := es.map (fun e => (e.h, e.ps)) = specL.take k
theorem LIs.len {es : List Ent} {k : Nat} (h : LIs es k) (hk : k ≤ 6) : es.length = k := by
  have h0 := congrArg List.length h
  have hl : specL.length = 6 := rfl
  simp only [List.length_map, List.length_take, hl] at h0
  omega
theorem spec_four : ∀ x ∈ specL, x.2.length ≤ 4 := by decide +kernel
theorem LIs.four {es : List Ent} (h : LIs es 6) {e : Ent} (he : e ∈ es) : e.ps.length ≤ 4 := by
  unfold LIs at h
  have h1 : (e.h, e.ps) ∈ specL.take 6 := by rw [← h]; exact List.mem_map.2 ⟨e, he, rfl⟩
  exact spec_four _ (List.mem_of_mem_take h1)
end Go.Proofs.YtknlcjhcamhfmaaGreatDoor.Vo
