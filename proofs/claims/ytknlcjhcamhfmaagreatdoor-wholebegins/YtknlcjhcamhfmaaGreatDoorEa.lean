/-
  The cards of package earth: what each of the functions makes.
-/
import Derived.Test.YtknlcjhcamhfmaaGreatDoorJ14
namespace Go.Proofs.YtknlcjhcamhfmaaGreatDoor.Ea
open Go.RowKit

set_option maxHeartbeats 1000000 in
theorem with0_2 (w : World) : Calls Tryz.prog 211 #[.int .u16 0, .int .u8 2] w fun e w' => e = .returned (.int .u16 2) ∧ w' = w := by
  have b : Calls Tryz.prog 266 #[.int .u8 2] w fun e w' => e = .returned (.int .u16 2) ∧ w' = w := by
    have i : Calls Tryz.prog 241 #[.int .u8 2] w fun e w' => e = .returned (.bool true) ∧ w' = w := by
      go_enter Tryz.func241, Tryz.ntmps241
      go_wp2
      go_ret
      exact ⟨rfl, rfl⟩
    go_enter Tryz.func266, Tryz.ntmps266
    go_wp2_with (go_at_call 241; refine i.mono ?_; rintro e w' ⟨rfl, rfl⟩)
    go_ret
    exact ⟨rfl, rfl⟩
  go_enter Tryz.func211, Tryz.ntmps211
  go_wp2_with (go_at_call 266; refine b.mono ?_; rintro e w' ⟨rfl, rfl⟩)
  go_ret
  exact ⟨rfl, rfl⟩
set_option maxRecDepth 100000 in
theorem part_any (a b c n : Int) (w : World) : Calls Tryz.prog 213 #[.int .u8 a, .int .u8 b, .int .u8 c, .int .i64 n] w fun e w' => e = .returned (.agg #[.int .u8 a, .int .u8 b, .int .u8 c, .int .i64 n, .int .u8 0, .int .u8 0, .int .u8 0, .string ⟨#[]⟩]) ∧ w.grownBy w' none := by
  go_enter Tryz.func213, Tryz.ntmps213
  go_wp2
  refine bodyPost_ret (v := .agg #[.int .u8 a, .int .u8 b, .int .u8 c, .int .i64 n, .int .u8 0, .int .u8 0, .int .u8 0, .string ⟨#[]⟩]) (by simp [results, Tryz.results213, go_sem]) rfl ⟨rfl, ?_⟩
  exact World.grownBy_alloc _ _ none
set_option maxRecDepth 100000 in
theorem ofSuit_any (a b c n s t m : Int) (nm : ByteArray) (x : Int) (w : World) : Calls Tryz.prog 216 #[.agg #[.int .u8 a, .int .u8 b, .int .u8 c, .int .i64 n, .int .u8 s, .int .u8 t, .int .u8 m, .string nm], .int .u8 x] w fun e w' => e = .returned (.agg #[.int .u8 a, .int .u8 b, .int .u8 c, .int .i64 n, .int .u8 x, .int .u8 t, .int .u8 m, .string nm]) ∧ w.grownBy w' none := by
  go_enter Tryz.func216, Tryz.ntmps216
  go_wp2
  refine bodyPost_ret (v := .agg #[.int .u8 a, .int .u8 b, .int .u8 c, .int .i64 n, .int .u8 x, .int .u8 t, .int .u8 m, .string nm]) (by simp [results, Tryz.results216, go_sem]) rfl ⟨rfl, ?_⟩
  exact grown_push (World.grownBy_alloc _ _ none) _
set_option maxRecDepth 100000 in
theorem ofTrait_any (a b c n s t m : Int) (nm : ByteArray) (x : Int) (w : World) : Calls Tryz.prog 215 #[.agg #[.int .u8 a, .int .u8 b, .int .u8 c, .int .i64 n, .int .u8 s, .int .u8 t, .int .u8 m, .string nm], .int .u8 x] w fun e w' => e = .returned (.agg #[.int .u8 a, .int .u8 b, .int .u8 c, .int .i64 n, .int .u8 s, .int .u8 x, .int .u8 m, .string nm]) ∧ w.grownBy w' none := by
  go_enter Tryz.func215, Tryz.ntmps215
  go_wp2
  refine bodyPost_ret (v := .agg #[.int .u8 a, .int .u8 b, .int .u8 c, .int .i64 n, .int .u8 s, .int .u8 x, .int .u8 m, .string nm]) (by simp [results, Tryz.results215, go_sem]) rfl ⟨rfl, ?_⟩
  exact grown_push (World.grownBy_alloc _ _ none) _
set_option maxRecDepth 100000 in
theorem ofMark_any (a b c n s t m : Int) (nm : ByteArray) (x : Int) (w : World) : Calls Tryz.prog 212 #[.agg #[.int .u8 a, .int .u8 b, .int .u8 c, .int .i64 n, .int .u8 s, .int .u8 t, .int .u8 m, .string nm], .int .u8 x] w fun e w' => e = .returned (.agg #[.int .u8 a, .int .u8 b, .int .u8 c, .int .i64 n, .int .u8 s, .int .u8 t, .int .u8 x, .string nm]) ∧ w.grownBy w' none := by
  go_enter Tryz.func212, Tryz.ntmps212
  go_wp2
  refine bodyPost_ret (v := .agg #[.int .u8 a, .int .u8 b, .int .u8 c, .int .i64 n, .int .u8 s, .int .u8 t, .int .u8 x, .string nm]) (by simp [results, Tryz.results212, go_sem]) rfl ⟨rfl, ?_⟩
  exact grown_push (World.grownBy_alloc _ _ none) _
set_option maxRecDepth 100000 in
theorem ofName_any (a b c n s t m : Int) (nm : ByteArray) (x : ByteArray) (w : World) : Calls Tryz.prog 214 #[.agg #[.int .u8 a, .int .u8 b, .int .u8 c, .int .i64 n, .int .u8 s, .int .u8 t, .int .u8 m, .string nm], .string x] w fun e w' => e = .returned (.agg #[.int .u8 a, .int .u8 b, .int .u8 c, .int .i64 n, .int .u8 s, .int .u8 t, .int .u8 m, .string x]) ∧ w.grownBy w' none := by
  go_enter Tryz.func214, Tryz.ntmps214
  go_wp2
  refine bodyPost_ret (v := .agg #[.int .u8 a, .int .u8 b, .int .u8 c, .int .i64 n, .int .u8 s, .int .u8 t, .int .u8 m, .string x]) (by simp [results, Tryz.results214, go_sem]) rfl ⟨rfl, ?_⟩
  exact grown_push (World.grownBy_alloc _ _ none) _
def boulderH : Hd := ⟨⟨#[98, 111, 117, 108, 100, 101, 114]⟩, 2, 1, 2, 1, 4, 2, false⟩
def boulderP : List Pt := [⟨1, 9, 4, 1, 0, 0, 3, ⟨#[]⟩⟩, ⟨3, 5, 1, 1, 0, 0, 0, ⟨#[]⟩⟩]
def clayManH : Hd := ⟨⟨#[99, 108, 97, 121, 45, 109, 97, 110]⟩, 2, 1, 3, 2, 3, 0, false⟩
def clayManP : List Pt := [⟨2, 7, 1, 1, 0, 0, 0, ⟨#[112, 101, 98, 98, 108, 101]⟩⟩, ⟨3, 2, 4, 1, 0, 0, 0, ⟨#[]⟩⟩]
def landslideH : Hd := ⟨⟨#[108, 97, 110, 100, 115, 108, 105, 100, 101]⟩, 2, 2, 4, 0, 0, 0, false⟩
def landslideP : List Pt := [⟨1, 1, 7, 2, 0, 0, 0, ⟨#[]⟩⟩, ⟨1, 6, 10, 0, 0, 2, 0, ⟨#[]⟩⟩]
def rampartH : Hd := ⟨⟨#[114, 97, 109, 112, 97, 114, 116]⟩, 2, 3, 3, 0, 0, 0, false⟩
def rampartP : List Pt := [⟨5, 15, 9, 1, 2, 0, 0, ⟨#[]⟩⟩, ⟨5, 12, 8, 0, 0, 2, 0, ⟨#[]⟩⟩, ⟨6, 16, 5, 1, 0, 0, 0, ⟨#[]⟩⟩]
def golemH : Hd := ⟨⟨#[103, 111, 108, 101, 109]⟩, 2, 1, 5, 4, 5, 0, false⟩
def golemP : List Pt := [⟨4, 2, 1, 2, 0, 0, 0, ⟨#[]⟩⟩, ⟨6, 19, 4, 1, 0, 0, 0, ⟨#[]⟩⟩, ⟨1, 7, 2, 1, 0, 0, 0, ⟨#[101, 109, 98, 101, 114]⟩⟩]
set_option maxRecDepth 100000 in
set_option maxHeartbeats 1000000 in
theorem boulder_any (w : World) : Calls Tryz.prog 167 #[] w fun e w' => ∃ u, e = .returned (cv boulderH u) ∧ Own8 w.heap.size w' u boulderP ∧ w.grownBy w' none := by
  have A0 : CAt (w.alloc (.cells (ccs Hd.none (.slice none 0 0)) 56)) w.heap.size Hd.none (.slice none 0 0) := alloc_at _ _ _
  have HA0 : Hid (CAt (w.alloc (.cells (ccs Hd.none (.slice none 0 0)) 56)) w.heap.size Hd.none (.slice none 0 0)) := A0
  clear A0
  unfold ccs Hd.none at HA0
  go_enter Tryz.func167, Tryz.ntmps167
  go_wp2_with fail
  refine (with0_2 _).mono ?_
  rintro e w1 ⟨rfl, h1⟩
  obtain ⟨w0, hw0⟩ : ∃ w0, w0 = w1 := ⟨_, rfl⟩
  have g1 : (w.alloc (.cells #[.string ⟨#[]⟩, .int .u8 0, .int .u8 0, .int .i64 0, .int .i64 0, .int .i64 0, .int .u16 0, .bool false, .slice none 0 0] 56)).grownBy w1 none := h1 ▸ grown_refl _ _
  clear h1 hw0 w0
  go_wp2_with fail
  refine (part_any 1 9 4 1 _).mono ?_
  rintro e w2 ⟨rfl, g2⟩
  go_wp2_with fail
  refine (ofMark_any 1 9 4 1 0 0 0 ⟨#[]⟩ 3 _).mono ?_
  rintro e w3 ⟨rfl, g3⟩
  go_wp2_with fail
  refine (part_any 3 5 1 1 _).mono ?_
  rintro e w4 ⟨rfl, g4⟩
  have HG : Hid (w.grownBy w4 none) := grown_trans (World.grownBy_alloc _ _ none) (grown_trans (grown_trans (grown_trans g1 g2) g3) g4)
  have C1 : CAt w4 w.heap.size Hd.none (.slice none 0 0) := CAt.keepR HA0.out (grown_trans (grown_trans (grown_trans g1 g2) g3) g4) (by simp)
  have hlt := block_lt C1
  clear g1 g2 g3 g4 HA0
  obtain ⟨W9, hW9⟩ : ∃ W9, W9 = set9 w4 w.heap.size 0 boulderH (.slice (some ⟨w4.heap.size, 0, none⟩) 2 2) := ⟨_, rfl⟩
  have S9 : W9.heap.size = w4.heap.size := by rw [hW9]; exact size_set9 _ _ _ _ _
  have HC9 : Hid (CAt (W9.alloc (.cells #[.int .u8 1, .int .u8 9, .int .u8 4, .int .i64 1, .int .u8 0, .int .u8 0, .int .u8 3, .string ⟨#[]⟩, .int .u8 3, .int .u8 5, .int .u8 1, .int .i64 1, .int .u8 0, .int .u8 0, .int .u8 0, .string ⟨#[]⟩] 115)) w.heap.size boulderH (.slice (some ⟨w4.heap.size, 0, none⟩) 2 2)) := by rw [hW9]; exact (C1.s9 _ _).keepR (World.grownBy_alloc _ _ none) (by simp)
  have HG9 : Hid (w.grownBy (W9.alloc (.cells #[.int .u8 1, .int .u8 9, .int .u8 4, .int .i64 1, .int .u8 0, .int .u8 0, .int .u8 3, .string ⟨#[]⟩, .int .u8 3, .int .u8 5, .int .u8 1, .int .i64 1, .int .u8 0, .int .u8 0, .int .u8 0, .string ⟨#[]⟩] 115)) none) := by rw [hW9]; exact grown_push (grown_own HG.out (grown_s9 _ _ _ _ _) (fun x e => by cases e; exact Nat.le_refl _)) _
  have HP9 : Hid (PB (W9.alloc (.cells #[.int .u8 1, .int .u8 9, .int .u8 4, .int .i64 1, .int .u8 0, .int .u8 0, .int .u8 3, .string ⟨#[]⟩, .int .u8 3, .int .u8 5, .int .u8 1, .int .i64 1, .int .u8 0, .int .u8 0, .int .u8 0, .string ⟨#[]⟩] 115)) w4.heap.size boulderP) := by rw [← S9]; exact alloc_at _ _ _
  obtain ⟨z0, z1, z2, z3, z4, z5, z6, z7, z8⟩ := C1.cells
  have zf := fun i => C1.free i
  simp only [Hd.none] at z0 z1 z2 z3 z4 z5 z6 z7 z8
  unfold set9 boulderH at hW9
  simp only [Nat.zero_add] at hW9
  have HW9 : Hid (W9 = _) := hW9
  clear C1 hW9 S9
  go_wp2
  rw [← HW9.out]
  obtain ⟨y0, y1, y2, y3, y4, y5, y6, y7, y8⟩ := HC9.out.cells
  unfold boulderH at y0 y1 y2 y3 y4 y5 y6 y7
  simp only at y0 y1 y2 y3 y4 y5 y6 y7
  refine bodyPost_ret (v := cv boulderH (.slice (some ⟨w4.heap.size, 0, none⟩) 2 2)) (by simp only [results, Tryz.results167]; simp [go_sem, cv, boulderH, y0, y1, y2, y3, y4, y5, y6, y7, y8]) rfl ⟨_, rfl, Or.inr ⟨w4.heap.size, rfl, HP9.out, by omega⟩, HG9.out⟩
set_option maxRecDepth 100000 in
set_option maxHeartbeats 1000000 in
theorem clayMan_any (w : World) : Calls Tryz.prog 168 #[] w fun e w' => ∃ u, e = .returned (cv clayManH u) ∧ Own8 w.heap.size w' u clayManP ∧ w.grownBy w' none := by
  have A0 : CAt (w.alloc (.cells (ccs Hd.none (.slice none 0 0)) 56)) w.heap.size Hd.none (.slice none 0 0) := alloc_at _ _ _
  have HA0 : Hid (CAt (w.alloc (.cells (ccs Hd.none (.slice none 0 0)) 56)) w.heap.size Hd.none (.slice none 0 0)) := A0
  clear A0
  unfold ccs Hd.none at HA0
  go_enter Tryz.func168, Tryz.ntmps168
  go_wp2_with fail
  refine (part_any 2 7 1 1 _).mono ?_
  rintro e w1 ⟨rfl, g1⟩
  go_wp2_with fail
  refine (ofName_any 2 7 1 1 0 0 0 ⟨#[]⟩ ⟨#[112, 101, 98, 98, 108, 101]⟩ _).mono ?_
  rintro e w2 ⟨rfl, g2⟩
  go_wp2_with fail
  refine (part_any 3 2 4 1 _).mono ?_
  rintro e w3 ⟨rfl, g3⟩
  have HG : Hid (w.grownBy w3 none) := grown_trans (World.grownBy_alloc _ _ none) (grown_trans (grown_trans g1 g2) g3)
  have C1 : CAt w3 w.heap.size Hd.none (.slice none 0 0) := CAt.keepR HA0.out (grown_trans (grown_trans g1 g2) g3) (by simp)
  have hlt := block_lt C1
  clear g1 g2 g3 HA0
  obtain ⟨W9, hW9⟩ : ∃ W9, W9 = set9 w3 w.heap.size 0 clayManH (.slice (some ⟨w3.heap.size, 0, none⟩) 2 2) := ⟨_, rfl⟩
  have S9 : W9.heap.size = w3.heap.size := by rw [hW9]; exact size_set9 _ _ _ _ _
  have HC9 : Hid (CAt (W9.alloc (.cells #[.int .u8 2, .int .u8 7, .int .u8 1, .int .i64 1, .int .u8 0, .int .u8 0, .int .u8 0, .string ⟨#[112, 101, 98, 98, 108, 101]⟩, .int .u8 3, .int .u8 2, .int .u8 4, .int .i64 1, .int .u8 0, .int .u8 0, .int .u8 0, .string ⟨#[]⟩] 115)) w.heap.size clayManH (.slice (some ⟨w3.heap.size, 0, none⟩) 2 2)) := by rw [hW9]; exact (C1.s9 _ _).keepR (World.grownBy_alloc _ _ none) (by simp)
  have HG9 : Hid (w.grownBy (W9.alloc (.cells #[.int .u8 2, .int .u8 7, .int .u8 1, .int .i64 1, .int .u8 0, .int .u8 0, .int .u8 0, .string ⟨#[112, 101, 98, 98, 108, 101]⟩, .int .u8 3, .int .u8 2, .int .u8 4, .int .i64 1, .int .u8 0, .int .u8 0, .int .u8 0, .string ⟨#[]⟩] 115)) none) := by rw [hW9]; exact grown_push (grown_own HG.out (grown_s9 _ _ _ _ _) (fun x e => by cases e; exact Nat.le_refl _)) _
  have HP9 : Hid (PB (W9.alloc (.cells #[.int .u8 2, .int .u8 7, .int .u8 1, .int .i64 1, .int .u8 0, .int .u8 0, .int .u8 0, .string ⟨#[112, 101, 98, 98, 108, 101]⟩, .int .u8 3, .int .u8 2, .int .u8 4, .int .i64 1, .int .u8 0, .int .u8 0, .int .u8 0, .string ⟨#[]⟩] 115)) w3.heap.size clayManP) := by rw [← S9]; exact alloc_at _ _ _
  obtain ⟨z0, z1, z2, z3, z4, z5, z6, z7, z8⟩ := C1.cells
  have zf := fun i => C1.free i
  simp only [Hd.none] at z0 z1 z2 z3 z4 z5 z6 z7 z8
  unfold set9 clayManH at hW9
  simp only [Nat.zero_add] at hW9
  have HW9 : Hid (W9 = _) := hW9
  clear C1 hW9 S9
  go_wp2
  rw [← HW9.out]
  obtain ⟨y0, y1, y2, y3, y4, y5, y6, y7, y8⟩ := HC9.out.cells
  unfold clayManH at y0 y1 y2 y3 y4 y5 y6 y7
  simp only at y0 y1 y2 y3 y4 y5 y6 y7
  refine bodyPost_ret (v := cv clayManH (.slice (some ⟨w3.heap.size, 0, none⟩) 2 2)) (by simp only [results, Tryz.results168]; simp [go_sem, cv, clayManH, y0, y1, y2, y3, y4, y5, y6, y7, y8]) rfl ⟨_, rfl, Or.inr ⟨w3.heap.size, rfl, HP9.out, by omega⟩, HG9.out⟩
set_option maxRecDepth 100000 in
set_option maxHeartbeats 1000000 in
theorem landslide_any (w : World) : Calls Tryz.prog 170 #[] w fun e w' => ∃ u, e = .returned (cv landslideH u) ∧ Own8 w.heap.size w' u landslideP ∧ w.grownBy w' none := by
  have A0 : CAt (w.alloc (.cells (ccs Hd.none (.slice none 0 0)) 56)) w.heap.size Hd.none (.slice none 0 0) := alloc_at _ _ _
  have HA0 : Hid (CAt (w.alloc (.cells (ccs Hd.none (.slice none 0 0)) 56)) w.heap.size Hd.none (.slice none 0 0)) := A0
  clear A0
  unfold ccs Hd.none at HA0
  go_enter Tryz.func170, Tryz.ntmps170
  go_wp2_with fail
  refine (part_any 1 1 7 2 _).mono ?_
  rintro e w1 ⟨rfl, g1⟩
  go_wp2_with fail
  refine (part_any 1 6 10 0 _).mono ?_
  rintro e w2 ⟨rfl, g2⟩
  go_wp2_with fail
  refine (ofTrait_any 1 6 10 0 0 0 0 ⟨#[]⟩ 2 _).mono ?_
  rintro e w3 ⟨rfl, g3⟩
  have HG : Hid (w.grownBy w3 none) := grown_trans (World.grownBy_alloc _ _ none) (grown_trans (grown_trans g1 g2) g3)
  have C1 : CAt w3 w.heap.size Hd.none (.slice none 0 0) := CAt.keepR HA0.out (grown_trans (grown_trans g1 g2) g3) (by simp)
  have hlt := block_lt C1
  clear g1 g2 g3 HA0
  obtain ⟨W9, hW9⟩ : ∃ W9, W9 = set9 w3 w.heap.size 0 landslideH (.slice (some ⟨w3.heap.size, 0, none⟩) 2 2) := ⟨_, rfl⟩
  have S9 : W9.heap.size = w3.heap.size := by rw [hW9]; exact size_set9 _ _ _ _ _
  have HC9 : Hid (CAt (W9.alloc (.cells #[.int .u8 1, .int .u8 1, .int .u8 7, .int .i64 2, .int .u8 0, .int .u8 0, .int .u8 0, .string ⟨#[]⟩, .int .u8 1, .int .u8 6, .int .u8 10, .int .i64 0, .int .u8 0, .int .u8 2, .int .u8 0, .string ⟨#[]⟩] 115)) w.heap.size landslideH (.slice (some ⟨w3.heap.size, 0, none⟩) 2 2)) := by rw [hW9]; exact (C1.s9 _ _).keepR (World.grownBy_alloc _ _ none) (by simp)
  have HG9 : Hid (w.grownBy (W9.alloc (.cells #[.int .u8 1, .int .u8 1, .int .u8 7, .int .i64 2, .int .u8 0, .int .u8 0, .int .u8 0, .string ⟨#[]⟩, .int .u8 1, .int .u8 6, .int .u8 10, .int .i64 0, .int .u8 0, .int .u8 2, .int .u8 0, .string ⟨#[]⟩] 115)) none) := by rw [hW9]; exact grown_push (grown_own HG.out (grown_s9 _ _ _ _ _) (fun x e => by cases e; exact Nat.le_refl _)) _
  have HP9 : Hid (PB (W9.alloc (.cells #[.int .u8 1, .int .u8 1, .int .u8 7, .int .i64 2, .int .u8 0, .int .u8 0, .int .u8 0, .string ⟨#[]⟩, .int .u8 1, .int .u8 6, .int .u8 10, .int .i64 0, .int .u8 0, .int .u8 2, .int .u8 0, .string ⟨#[]⟩] 115)) w3.heap.size landslideP) := by rw [← S9]; exact alloc_at _ _ _
  obtain ⟨z0, z1, z2, z3, z4, z5, z6, z7, z8⟩ := C1.cells
  have zf := fun i => C1.free i
  simp only [Hd.none] at z0 z1 z2 z3 z4 z5 z6 z7 z8
  unfold set9 landslideH at hW9
  simp only [Nat.zero_add] at hW9
  have HW9 : Hid (W9 = _) := hW9
  clear C1 hW9 S9
  go_wp2
  rw [← HW9.out]
  obtain ⟨y0, y1, y2, y3, y4, y5, y6, y7, y8⟩ := HC9.out.cells
  unfold landslideH at y0 y1 y2 y3 y4 y5 y6 y7
  simp only at y0 y1 y2 y3 y4 y5 y6 y7
  refine bodyPost_ret (v := cv landslideH (.slice (some ⟨w3.heap.size, 0, none⟩) 2 2)) (by simp only [results, Tryz.results170]; simp [go_sem, cv, landslideH, y0, y1, y2, y3, y4, y5, y6, y7, y8]) rfl ⟨_, rfl, Or.inr ⟨w3.heap.size, rfl, HP9.out, by omega⟩, HG9.out⟩
set_option maxRecDepth 100000 in
set_option maxHeartbeats 1000000 in
theorem rampart_any (w : World) : Calls Tryz.prog 171 #[] w fun e w' => ∃ u, e = .returned (cv rampartH u) ∧ Own8 w.heap.size w' u rampartP ∧ w.grownBy w' none := by
  have A0 : CAt (w.alloc (.cells (ccs Hd.none (.slice none 0 0)) 56)) w.heap.size Hd.none (.slice none 0 0) := alloc_at _ _ _
  have HA0 : Hid (CAt (w.alloc (.cells (ccs Hd.none (.slice none 0 0)) 56)) w.heap.size Hd.none (.slice none 0 0)) := A0
  clear A0
  unfold ccs Hd.none at HA0
  go_enter Tryz.func171, Tryz.ntmps171
  go_wp2_with fail
  refine (part_any 5 15 9 1 _).mono ?_
  rintro e w1 ⟨rfl, g1⟩
  go_wp2_with fail
  refine (ofSuit_any 5 15 9 1 0 0 0 ⟨#[]⟩ 2 _).mono ?_
  rintro e w2 ⟨rfl, g2⟩
  go_wp2_with fail
  refine (part_any 5 12 8 0 _).mono ?_
  rintro e w3 ⟨rfl, g3⟩
  go_wp2_with fail
  refine (ofTrait_any 5 12 8 0 0 0 0 ⟨#[]⟩ 2 _).mono ?_
  rintro e w4 ⟨rfl, g4⟩
  go_wp2_with fail
  refine (part_any 6 16 5 1 _).mono ?_
  rintro e w5 ⟨rfl, g5⟩
  have HG : Hid (w.grownBy w5 none) := grown_trans (World.grownBy_alloc _ _ none) (grown_trans (grown_trans (grown_trans (grown_trans g1 g2) g3) g4) g5)
  have C1 : CAt w5 w.heap.size Hd.none (.slice none 0 0) := CAt.keepR HA0.out (grown_trans (grown_trans (grown_trans (grown_trans g1 g2) g3) g4) g5) (by simp)
  have hlt := block_lt C1
  clear g1 g2 g3 g4 g5 HA0
  obtain ⟨W9, hW9⟩ : ∃ W9, W9 = set9 w5 w.heap.size 0 rampartH (.slice (some ⟨w5.heap.size, 0, none⟩) 3 3) := ⟨_, rfl⟩
  have S9 : W9.heap.size = w5.heap.size := by rw [hW9]; exact size_set9 _ _ _ _ _
  have HC9 : Hid (CAt (W9.alloc (.cells #[.int .u8 5, .int .u8 15, .int .u8 9, .int .i64 1, .int .u8 2, .int .u8 0, .int .u8 0, .string ⟨#[]⟩, .int .u8 5, .int .u8 12, .int .u8 8, .int .i64 0, .int .u8 0, .int .u8 2, .int .u8 0, .string ⟨#[]⟩, .int .u8 6, .int .u8 16, .int .u8 5, .int .i64 1, .int .u8 0, .int .u8 0, .int .u8 0, .string ⟨#[]⟩] 115)) w.heap.size rampartH (.slice (some ⟨w5.heap.size, 0, none⟩) 3 3)) := by rw [hW9]; exact (C1.s9 _ _).keepR (World.grownBy_alloc _ _ none) (by simp)
  have HG9 : Hid (w.grownBy (W9.alloc (.cells #[.int .u8 5, .int .u8 15, .int .u8 9, .int .i64 1, .int .u8 2, .int .u8 0, .int .u8 0, .string ⟨#[]⟩, .int .u8 5, .int .u8 12, .int .u8 8, .int .i64 0, .int .u8 0, .int .u8 2, .int .u8 0, .string ⟨#[]⟩, .int .u8 6, .int .u8 16, .int .u8 5, .int .i64 1, .int .u8 0, .int .u8 0, .int .u8 0, .string ⟨#[]⟩] 115)) none) := by rw [hW9]; exact grown_push (grown_own HG.out (grown_s9 _ _ _ _ _) (fun x e => by cases e; exact Nat.le_refl _)) _
  have HP9 : Hid (PB (W9.alloc (.cells #[.int .u8 5, .int .u8 15, .int .u8 9, .int .i64 1, .int .u8 2, .int .u8 0, .int .u8 0, .string ⟨#[]⟩, .int .u8 5, .int .u8 12, .int .u8 8, .int .i64 0, .int .u8 0, .int .u8 2, .int .u8 0, .string ⟨#[]⟩, .int .u8 6, .int .u8 16, .int .u8 5, .int .i64 1, .int .u8 0, .int .u8 0, .int .u8 0, .string ⟨#[]⟩] 115)) w5.heap.size rampartP) := by rw [← S9]; exact alloc_at _ _ _
  obtain ⟨z0, z1, z2, z3, z4, z5, z6, z7, z8⟩ := C1.cells
  have zf := fun i => C1.free i
  simp only [Hd.none] at z0 z1 z2 z3 z4 z5 z6 z7 z8
  unfold set9 rampartH at hW9
  simp only [Nat.zero_add] at hW9
  have HW9 : Hid (W9 = _) := hW9
  clear C1 hW9 S9
  go_wp2
  rw [← HW9.out]
  obtain ⟨y0, y1, y2, y3, y4, y5, y6, y7, y8⟩ := HC9.out.cells
  unfold rampartH at y0 y1 y2 y3 y4 y5 y6 y7
  simp only at y0 y1 y2 y3 y4 y5 y6 y7
  refine bodyPost_ret (v := cv rampartH (.slice (some ⟨w5.heap.size, 0, none⟩) 3 3)) (by simp only [results, Tryz.results171]; simp [go_sem, cv, rampartH, y0, y1, y2, y3, y4, y5, y6, y7, y8]) rfl ⟨_, rfl, Or.inr ⟨w5.heap.size, rfl, HP9.out, by omega⟩, HG9.out⟩
set_option maxRecDepth 100000 in
set_option maxHeartbeats 1000000 in
theorem golem_any (w : World) : Calls Tryz.prog 172 #[] w fun e w' => ∃ u, e = .returned (cv golemH u) ∧ Own8 w.heap.size w' u golemP ∧ w.grownBy w' none := by
  have A0 : CAt (w.alloc (.cells (ccs Hd.none (.slice none 0 0)) 56)) w.heap.size Hd.none (.slice none 0 0) := alloc_at _ _ _
  have HA0 : Hid (CAt (w.alloc (.cells (ccs Hd.none (.slice none 0 0)) 56)) w.heap.size Hd.none (.slice none 0 0)) := A0
  clear A0
  unfold ccs Hd.none at HA0
  go_enter Tryz.func172, Tryz.ntmps172
  go_wp2_with fail
  refine (part_any 4 2 1 2 _).mono ?_
  rintro e w1 ⟨rfl, g1⟩
  go_wp2_with fail
  refine (part_any 6 19 4 1 _).mono ?_
  rintro e w2 ⟨rfl, g2⟩
  go_wp2_with fail
  refine (part_any 1 7 2 1 _).mono ?_
  rintro e w3 ⟨rfl, g3⟩
  go_wp2_with fail
  refine (ofName_any 1 7 2 1 0 0 0 ⟨#[]⟩ ⟨#[101, 109, 98, 101, 114]⟩ _).mono ?_
  rintro e w4 ⟨rfl, g4⟩
  have HG : Hid (w.grownBy w4 none) := grown_trans (World.grownBy_alloc _ _ none) (grown_trans (grown_trans (grown_trans g1 g2) g3) g4)
  have C1 : CAt w4 w.heap.size Hd.none (.slice none 0 0) := CAt.keepR HA0.out (grown_trans (grown_trans (grown_trans g1 g2) g3) g4) (by simp)
  have hlt := block_lt C1
  clear g1 g2 g3 g4 HA0
  obtain ⟨W9, hW9⟩ : ∃ W9, W9 = set9 w4 w.heap.size 0 golemH (.slice (some ⟨w4.heap.size, 0, none⟩) 3 3) := ⟨_, rfl⟩
  have S9 : W9.heap.size = w4.heap.size := by rw [hW9]; exact size_set9 _ _ _ _ _
  have HC9 : Hid (CAt (W9.alloc (.cells #[.int .u8 4, .int .u8 2, .int .u8 1, .int .i64 2, .int .u8 0, .int .u8 0, .int .u8 0, .string ⟨#[]⟩, .int .u8 6, .int .u8 19, .int .u8 4, .int .i64 1, .int .u8 0, .int .u8 0, .int .u8 0, .string ⟨#[]⟩, .int .u8 1, .int .u8 7, .int .u8 2, .int .i64 1, .int .u8 0, .int .u8 0, .int .u8 0, .string ⟨#[101, 109, 98, 101, 114]⟩] 115)) w.heap.size golemH (.slice (some ⟨w4.heap.size, 0, none⟩) 3 3)) := by rw [hW9]; exact (C1.s9 _ _).keepR (World.grownBy_alloc _ _ none) (by simp)
  have HG9 : Hid (w.grownBy (W9.alloc (.cells #[.int .u8 4, .int .u8 2, .int .u8 1, .int .i64 2, .int .u8 0, .int .u8 0, .int .u8 0, .string ⟨#[]⟩, .int .u8 6, .int .u8 19, .int .u8 4, .int .i64 1, .int .u8 0, .int .u8 0, .int .u8 0, .string ⟨#[]⟩, .int .u8 1, .int .u8 7, .int .u8 2, .int .i64 1, .int .u8 0, .int .u8 0, .int .u8 0, .string ⟨#[101, 109, 98, 101, 114]⟩] 115)) none) := by rw [hW9]; exact grown_push (grown_own HG.out (grown_s9 _ _ _ _ _) (fun x e => by cases e; exact Nat.le_refl _)) _
  have HP9 : Hid (PB (W9.alloc (.cells #[.int .u8 4, .int .u8 2, .int .u8 1, .int .i64 2, .int .u8 0, .int .u8 0, .int .u8 0, .string ⟨#[]⟩, .int .u8 6, .int .u8 19, .int .u8 4, .int .i64 1, .int .u8 0, .int .u8 0, .int .u8 0, .string ⟨#[]⟩, .int .u8 1, .int .u8 7, .int .u8 2, .int .i64 1, .int .u8 0, .int .u8 0, .int .u8 0, .string ⟨#[101, 109, 98, 101, 114]⟩] 115)) w4.heap.size golemP) := by rw [← S9]; exact alloc_at _ _ _
  obtain ⟨z0, z1, z2, z3, z4, z5, z6, z7, z8⟩ := C1.cells
  have zf := fun i => C1.free i
  simp only [Hd.none] at z0 z1 z2 z3 z4 z5 z6 z7 z8
  unfold set9 golemH at hW9
  simp only [Nat.zero_add] at hW9
  have HW9 : Hid (W9 = _) := hW9
  clear C1 hW9 S9
  go_wp2
  rw [← HW9.out]
  obtain ⟨y0, y1, y2, y3, y4, y5, y6, y7, y8⟩ := HC9.out.cells
  unfold golemH at y0 y1 y2 y3 y4 y5 y6 y7
  simp only at y0 y1 y2 y3 y4 y5 y6 y7
  refine bodyPost_ret (v := cv golemH (.slice (some ⟨w4.heap.size, 0, none⟩) 3 3)) (by simp only [results, Tryz.results172]; simp [go_sem, cv, golemH, y0, y1, y2, y3, y4, y5, y6, y7, y8]) rfl ⟨_, rfl, Or.inr ⟨w4.heap.size, rfl, HP9.out, by omega⟩, HG9.out⟩
def pebbleH : Hd := ⟨⟨#[112, 101, 98, 98, 108, 101]⟩, 2, 1, 0, 1, 1, 0, true⟩
def pebbleP : List Pt := []
set_option maxRecDepth 100000 in
theorem pebble_any (w : World) : Calls Tryz.prog 169 #[] w fun e w' => ∃ u, e = .returned (cv pebbleH u) ∧ Own8 w.heap.size w' u pebbleP ∧ w.grownBy w' none := by
  go_enter Tryz.func169, Tryz.ntmps169
  go_wp2
  refine bodyPost_ret (v := cv pebbleH (.slice none 0 0)) (by simp [results, Tryz.results169, go_sem, cv, pebbleH]) rfl ⟨_, rfl, Or.inl ⟨rfl, rfl⟩, ?_⟩
  exact World.grownBy_alloc _ _ none
def specL : List (Hd × List Pt) := [(boulderH, boulderP), (clayManH, clayManP), (pebbleH, pebbleP), (landslideH, landslideP), (rampartH, rampartP), (golemH, golemP)]
def LIs (es : List Ent) (k : Nat) : Prop := es.map (fun e => (e.h, e.ps)) = specL.take k
theorem LIs.len {es : List Ent} {k : Nat} (h : LIs es k) (hk : k ≤ 6) : es.length = k := by
  have h0 := congrArg List.length h
  have hl : specL.length = 6 := rfl
  simp only [List.length_map, List.length_take, hl] at h0
  omega
theorem spec_four : ∀ x ∈ specL, x.2.length ≤ 4 := by decide +kernel
theorem LIs.four {es : List Ent} (h : LIs es 6) {e : Ent} (he : e ∈ es) : e.ps.length ≤ 4 := by
  unfold LIs at h
  have h1 : (e.h, e.ps) ∈ specL.take 6 := by rw [← h]; exact List.mem_map.2 ⟨e, he, rfl⟩
  exact spec_four _ (List.mem_of_mem_take h1)
end Go.Proofs.YtknlcjhcamhfmaaGreatDoor.Ea
