/-
  The cards of package water: what each of the functions makes.
-/
import Derived.Test.YtknlcjhcamhfmaaGreatDoorJ20
namespace Go.Proofs.YtknlcjhcamhfmaaGreatDoor.Wa
open Go.RowKit

set_option maxHeartbeats 1000000 in
theorem with0_4 (w : World) : Calls Tryz.prog 211 #[.int .u16 0, .int .u8 4] w fun e w' => e = .returned (.int .u16 8) ∧ w' = w := by
  have b : Calls Tryz.prog 266 #[.int .u8 4] w fun e w' => e = .returned (.int .u16 8) ∧ w' = w := by
    have i : Calls Tryz.prog 241 #[.int .u8 4] w fun e w' => e = .returned (.bool true) ∧ w' = w := by
      go_enter Tryz.func241, Tryz.ntmps241
      go_wp2
      go_ret
      exact ⟨rfl, rfl⟩
    go_enter Tryz.func266, Tryz.ntmps266
    go_wp2_with (go_at_call 241; refine i.mono ?_; rintro e w' ⟨rfl, rfl⟩)
    go_ret
    exact ⟨rfl, rfl⟩
  go_enter Tryz.func211, Tryz.ntmps211
  go_wp2_with (go_at_call 266; refine b.mono ?_; rintro e w' ⟨rfl, rfl⟩)
  go_ret
  exact ⟨rfl, rfl⟩
set_option maxHeartbeats 1000000 in
theorem with0_5 (w : World) : Calls Tryz.prog 211 #[.int .u16 0, .int .u8 5] w fun e w' => e = .returned (.int .u16 16) ∧ w' = w := by
  have b : Calls Tryz.prog 266 #[.int .u8 5] w fun e w' => e = .returned (.int .u16 16) ∧ w' = w := by
    have i : Calls Tryz.prog 241 #[.int .u8 5] w fun e w' => e = .returned (.bool true) ∧ w' = w := by
      go_enter Tryz.func241, Tryz.ntmps241
      go_wp2
      go_ret
      exact ⟨rfl, rfl⟩
    go_enter Tryz.func266, Tryz.ntmps266
    go_wp2_with (go_at_call 241; refine i.mono ?_; rintro e w' ⟨rfl, rfl⟩)
    go_ret
    exact ⟨rfl, rfl⟩
  go_enter Tryz.func211, Tryz.ntmps211
  go_wp2_with (go_at_call 266; refine b.mono ?_; rintro e w' ⟨rfl, rfl⟩)
  go_ret
  exact ⟨rfl, rfl⟩
set_option maxHeartbeats 1000000 in
theorem value0 (w : World) : Calls Tryz.prog 268 #[.int .i64 0] w fun e w' => e = .returned (.int .i64 3) ∧ w.grownBy w' none := by
  go_enter Tryz.func268, Tryz.ntmps268
  go_wp2_with fail
  refine (of_five 0 (by unfold Five; omega) _).mono ?_
  rintro e w1 ⟨rfl, g1⟩
  go_wp2
  go_ret
  exact ⟨rfl, g1⟩
set_option maxHeartbeats 1000000 in
theorem value1 (w : World) : Calls Tryz.prog 268 #[.int .i64 1] w fun e w' => e = .returned (.int .i64 2) ∧ w.grownBy w' none := by
  go_enter Tryz.func268, Tryz.ntmps268
  go_wp2_with fail
  refine (of_five 1 (by unfold Five; omega) _).mono ?_
  rintro e w1 ⟨rfl, g1⟩
  go_wp2
  go_ret
  exact ⟨rfl, g1⟩
def dewH : Hd := ⟨⟨#[100, 101, 119]⟩, 4, 1, 1, 1, 2, 8, false⟩
def dewP : List Pt := [⟨2, 3, 1, 1, 0, 0, 0, ⟨#[]⟩⟩]
def tideH : Hd := ⟨⟨#[116, 105, 100, 101]⟩, 4, 2, 4, 0, 0, 0, false⟩
def tideP : List Pt := [⟨1, 8, 6, 0, 0, 0, 0, ⟨#[]⟩⟩, ⟨1, 4, 2, 1, 0, 0, 0, ⟨#[]⟩⟩]
def dropH : Hd := ⟨⟨#[100, 114, 111, 112]⟩, 4, 1, 0, 1, 1, 16, true⟩
def dropP : List Pt := []
def sirenH : Hd := ⟨⟨#[115, 105, 114, 101, 110]⟩, 4, 1, 5, 1, 3, 0, false⟩
def sirenP : List Pt := [⟨5, 10, 9, 0, 3, 0, 0, ⟨#[]⟩⟩, ⟨5, 13, 6, 0, 0, 2, 0, ⟨#[]⟩⟩, ⟨3, 1, 2, 1, 0, 0, 0, ⟨#[]⟩⟩]
def springH : Hd := ⟨⟨#[115, 112, 114, 105, 110, 103]⟩, 4, 3, 2, 0, 0, 0, false⟩
def springP : List Pt := [⟨6, 19, 1, 1, 0, 0, 0, ⟨#[]⟩⟩, ⟨3, 2, 5, 1, 0, 0, 0, ⟨#[]⟩⟩]
def mirrorH : Hd := ⟨⟨#[109, 105, 114, 114, 111, 114]⟩, 4, 1, 4, 2, 4, 0, false⟩
def mirrorP : List Pt := [⟨6, 18, 4, 0, 0, 0, 0, ⟨#[]⟩⟩, ⟨1, 7, 2, 1, 0, 0, 0, ⟨#[119, 105, 115, 112]⟩⟩]
set_option maxRecDepth 100000 in
set_option maxHeartbeats 1000000 in
theorem dew_any (w : World) : Calls Tryz.prog 224 #[] w fun e w' => ∃ u, e = .returned (cv dewH u) ∧ Own8 w.heap.size w' u dewP ∧ w.grownBy w' none := by
  have A0 : CAt (w.alloc (.cells (ccs Hd.none (.slice none 0 0)) 56)) w.heap.size Hd.none (.slice none 0 0) := alloc_at _ _ _
  have HA0 : Hid (CAt (w.alloc (.cells (ccs Hd.none (.slice none 0 0)) 56)) w.heap.size Hd.none (.slice none 0 0)) := A0
  clear A0
  unfold ccs Hd.none at HA0
  go_enter Tryz.func224, Tryz.ntmps224
  go_wp2_with fail
  refine (value1 _).mono ?_
  rintro e w1 ⟨rfl, g1⟩
  go_wp2_with fail
  refine (with0_4 _).mono ?_
  rintro e w2 ⟨rfl, h2⟩
  have g2 : World.grownBy w1 w2 none := h2 ▸ grown_refl _ _
  clear h2
  have HG : Hid (w.grownBy w2 none) := grown_trans (World.grownBy_alloc _ _ none) (grown_trans g1 g2)
  have C1 : CAt w2 w.heap.size Hd.none (.slice none 0 0) := CAt.keepR HA0.out (grown_trans g1 g2) (by simp)
  have hlt := block_lt C1
  clear g1 g2 HA0
  obtain ⟨W9, hW9⟩ : ∃ W9, W9 = set9 w2 w.heap.size 0 dewH (.slice (some ⟨w2.heap.size, 0, none⟩) 1 1) := ⟨_, rfl⟩
  have S9 : W9.heap.size = w2.heap.size := by rw [hW9]; exact size_set9 _ _ _ _ _
  have HC9 : Hid (CAt (W9.alloc (.cells #[.int .u8 2, .int .u8 3, .int .u8 1, .int .i64 1, .int .u8 0, .int .u8 0, .int .u8 0, .string ⟨#[]⟩] 115)) w.heap.size dewH (.slice (some ⟨w2.heap.size, 0, none⟩) 1 1)) := by rw [hW9]; exact (C1.s9 _ _).keepR (World.grownBy_alloc _ _ none) (by simp)
  have HG9 : Hid (w.grownBy (W9.alloc (.cells #[.int .u8 2, .int .u8 3, .int .u8 1, .int .i64 1, .int .u8 0, .int .u8 0, .int .u8 0, .string ⟨#[]⟩] 115)) none) := by rw [hW9]; exact grown_push (grown_own HG.out (grown_s9 _ _ _ _ _) (fun x e => by cases e; exact Nat.le_refl _)) _
  have HP9 : Hid (PB (W9.alloc (.cells #[.int .u8 2, .int .u8 3, .int .u8 1, .int .i64 1, .int .u8 0, .int .u8 0, .int .u8 0, .string ⟨#[]⟩] 115)) w2.heap.size dewP) := by rw [← S9]; exact alloc_at _ _ _
  obtain ⟨z0, z1, z2, z3, z4, z5, z6, z7, z8⟩ := C1.cells
  have zf := fun i => C1.free i
  simp only [Hd.none] at z0 z1 z2 z3 z4 z5 z6 z7 z8
  unfold set9 dewH at hW9
  simp only [Nat.zero_add] at hW9
  have HW9 : Hid (W9 = _) := hW9
  clear C1 hW9 S9
  go_wp2
  rw [← HW9.out]
  obtain ⟨y0, y1, y2, y3, y4, y5, y6, y7, y8⟩ := HC9.out.cells
  unfold dewH at y0 y1 y2 y3 y4 y5 y6 y7
  simp only at y0 y1 y2 y3 y4 y5 y6 y7
  refine bodyPost_ret (v := cv dewH (.slice (some ⟨w2.heap.size, 0, none⟩) 1 1)) (by simp only [results, Tryz.results224]; simp [go_sem, cv, dewH, y0, y1, y2, y3, y4, y5, y6, y7, y8]) rfl ⟨_, rfl, Or.inr ⟨w2.heap.size, rfl, HP9.out, by omega⟩, HG9.out⟩
set_option maxRecDepth 100000 in
set_option maxHeartbeats 1000000 in
theorem tide_any (w : World) : Calls Tryz.prog 225 #[] w fun e w' => ∃ u, e = .returned (cv tideH u) ∧ Own8 w.heap.size w' u tideP ∧ w.grownBy w' none := by
  have A0 : CAt (w.alloc (.cells (ccs Hd.none (.slice none 0 0)) 56)) w.heap.size Hd.none (.slice none 0 0) := alloc_at _ _ _
  have HA0 : Hid (CAt (w.alloc (.cells (ccs Hd.none (.slice none 0 0)) 56)) w.heap.size Hd.none (.slice none 0 0)) := A0
  clear A0
  go_enter Tryz.func225, Tryz.ntmps225
  go_wp2
  have A : (World.alloc (World.alloc w (Obj.cells (ccs tideH (.slice (some ⟨w.heap.size + 1, 0, none⟩) 2 2)) 56)) (Obj.cells #[.int .u8 1, .int .u8 8, .int .u8 6, .int .i64 0, .int .u8 0, .int .u8 0, .int .u8 0, .string ⟨#[]⟩, .int .u8 1, .int .u8 4, .int .u8 2, .int .i64 1, .int .u8 0, .int .u8 0, .int .u8 0, .string ⟨#[]⟩] 115)).heap[w.heap.size + 1]? = some (.cells #[.int .u8 1, .int .u8 8, .int .u8 6, .int .i64 0, .int .u8 0, .int .u8 0, .int .u8 0, .string ⟨#[]⟩, .int .u8 1, .int .u8 4, .int .u8 2, .int .i64 1, .int .u8 0, .int .u8 0, .int .u8 0, .string ⟨#[]⟩] 115 (0, 0)) := by
    have h0 := alloc_at (World.alloc w (Obj.cells (ccs tideH (.slice (some ⟨w.heap.size + 1, 0, none⟩) 2 2)) 56)) #[.int .u8 1, .int .u8 8, .int .u8 6, .int .i64 0, .int .u8 0, .int .u8 0, .int .u8 0, .string ⟨#[]⟩, .int .u8 1, .int .u8 4, .int .u8 2, .int .i64 1, .int .u8 0, .int .u8 0, .int .u8 0, .string ⟨#[]⟩] 115
    rw [World.size_alloc] at h0
    exact h0
  refine bodyPost_ret (v := cv tideH (.slice (some ⟨w.heap.size + 1, 0, none⟩) 2 2)) (by simp [results, Tryz.results225, go_sem, cv, tideH]) rfl ⟨_, rfl, Or.inr ⟨w.heap.size + 1, rfl, A, by omega⟩, grown_push (World.grownBy_alloc _ _ none) _⟩
set_option maxRecDepth 100000 in
set_option maxHeartbeats 1000000 in
theorem drop_any (w : World) : Calls Tryz.prog 226 #[] w fun e w' => ∃ u, e = .returned (cv dropH u) ∧ Own8 w.heap.size w' u dropP ∧ w.grownBy w' none := by
  have A0 : CAt (w.alloc (.cells (ccs Hd.none (.slice none 0 0)) 56)) w.heap.size Hd.none (.slice none 0 0) := alloc_at _ _ _
  have HA0 : Hid (CAt (w.alloc (.cells (ccs Hd.none (.slice none 0 0)) 56)) w.heap.size Hd.none (.slice none 0 0)) := A0
  clear A0
  unfold ccs Hd.none at HA0
  go_enter Tryz.func226, Tryz.ntmps226
  go_wp2_with fail
  refine (with0_5 _).mono ?_
  rintro e w1 ⟨rfl, h1⟩
  obtain ⟨w0, hw0⟩ : ∃ w0, w0 = w1 := ⟨_, rfl⟩
  have g1 : (w.alloc (.cells #[.string ⟨#[]⟩, .int .u8 0, .int .u8 0, .int .i64 0, .int .i64 0, .int .i64 0, .int .u16 0, .bool false, .slice none 0 0] 56)).grownBy w1 none := h1 ▸ grown_refl _ _
  clear h1 hw0 w0
  have HG : Hid (w.grownBy w1 none) := grown_trans (World.grownBy_alloc _ _ none) g1
  have C1 : CAt w1 w.heap.size Hd.none (.slice none 0 0) := CAt.keepR HA0.out g1 (by simp)
  have hlt := block_lt C1
  clear g1 HA0
  obtain ⟨z0, z1, z2, z3, z4, z5, z6, z7, z8⟩ := C1.cells
  have zf := fun i => C1.free i
  simp only [Hd.none] at z0 z1 z2 z3 z4 z5 z6 z7 z8
  go_wp2
  refine bodyPost_ret (v := cv dropH (.slice none 0 0)) (by simp [results, Tryz.results226, go_sem, cv, dropH, z0, z1, z2, z3, z4, z5, z6, z7, z8]) rfl ⟨_, rfl, Or.inl ⟨rfl, rfl⟩, ?_⟩
  have h9 := grown_own HG.out (grown_s9 w1 w.heap.size 0 dropH (.slice none 0 0)) (fun x e => by cases e; exact Nat.le_refl _)
  unfold set9 dropH at h9
  simp only [Nat.zero_add] at h9
  exact h9
set_option maxRecDepth 100000 in
set_option maxHeartbeats 1000000 in
theorem siren_any (w : World) : Calls Tryz.prog 227 #[] w fun e w' => ∃ u, e = .returned (cv sirenH u) ∧ Own8 w.heap.size w' u sirenP ∧ w.grownBy w' none := by
  have A0 : CAt (w.alloc (.cells (ccs Hd.none (.slice none 0 0)) 56)) w.heap.size Hd.none (.slice none 0 0) := alloc_at _ _ _
  have HA0 : Hid (CAt (w.alloc (.cells (ccs Hd.none (.slice none 0 0)) 56)) w.heap.size Hd.none (.slice none 0 0)) := A0
  clear A0
  unfold ccs Hd.none at HA0
  go_enter Tryz.func227, Tryz.ntmps227
  go_wp2_with fail
  refine (value0 _).mono ?_
  rintro e w1 ⟨rfl, g1⟩
  go_wp2_with fail
  refine (value1 _).mono ?_
  rintro e w2 ⟨rfl, g2⟩
  go_wp2_with fail
  refine (value0 _).mono ?_
  rintro e w3 ⟨rfl, g3⟩
  have HG : Hid (w.grownBy w3 none) := grown_trans (World.grownBy_alloc _ _ none) (grown_trans (grown_trans g1 g2) g3)
  have C1 : CAt w3 w.heap.size Hd.none (.slice none 0 0) := CAt.keepR HA0.out (grown_trans (grown_trans g1 g2) g3) (by simp)
  have hlt := block_lt C1
  clear g1 g2 g3 HA0
  obtain ⟨W9, hW9⟩ : ∃ W9, W9 = set9 w3 w.heap.size 0 sirenH (.slice (some ⟨w3.heap.size, 0, none⟩) 3 3) := ⟨_, rfl⟩
  have S9 : W9.heap.size = w3.heap.size := by rw [hW9]; exact size_set9 _ _ _ _ _
  have HC9 : Hid (CAt (W9.alloc (.cells #[.int .u8 5, .int .u8 10, .int .u8 9, .int .i64 0, .int .u8 3, .int .u8 0, .int .u8 0, .string ⟨#[]⟩, .int .u8 5, .int .u8 13, .int .u8 6, .int .i64 0, .int .u8 0, .int .u8 2, .int .u8 0, .string ⟨#[]⟩, .int .u8 3, .int .u8 1, .int .u8 2, .int .i64 1, .int .u8 0, .int .u8 0, .int .u8 0, .string ⟨#[]⟩] 115)) w.heap.size sirenH (.slice (some ⟨w3.heap.size, 0, none⟩) 3 3)) := by rw [hW9]; exact (C1.s9 _ _).keepR (World.grownBy_alloc _ _ none) (by simp)
  have HG9 : Hid (w.grownBy (W9.alloc (.cells #[.int .u8 5, .int .u8 10, .int .u8 9, .int .i64 0, .int .u8 3, .int .u8 0, .int .u8 0, .string ⟨#[]⟩, .int .u8 5, .int .u8 13, .int .u8 6, .int .i64 0, .int .u8 0, .int .u8 2, .int .u8 0, .string ⟨#[]⟩, .int .u8 3, .int .u8 1, .int .u8 2, .int .i64 1, .int .u8 0, .int .u8 0, .int .u8 0, .string ⟨#[]⟩] 115)) none) := by rw [hW9]; exact grown_push (grown_own HG.out (grown_s9 _ _ _ _ _) (fun x e => by cases e; exact Nat.le_refl _)) _
  have HP9 : Hid (PB (W9.alloc (.cells #[.int .u8 5, .int .u8 10, .int .u8 9, .int .i64 0, .int .u8 3, .int .u8 0, .int .u8 0, .string ⟨#[]⟩, .int .u8 5, .int .u8 13, .int .u8 6, .int .i64 0, .int .u8 0, .int .u8 2, .int .u8 0, .string ⟨#[]⟩, .int .u8 3, .int .u8 1, .int .u8 2, .int .i64 1, .int .u8 0, .int .u8 0, .int .u8 0, .string ⟨#[]⟩] 115)) w3.heap.size sirenP) := by rw [← S9]; exact alloc_at _ _ _
  obtain ⟨z0, z1, z2, z3, z4, z5, z6, z7, z8⟩ := C1.cells
  have zf := fun i => C1.free i
  simp only [Hd.none] at z0 z1 z2 z3 z4 z5 z6 z7 z8
  unfold set9 sirenH at hW9
  simp only [Nat.zero_add] at hW9
  have HW9 : Hid (W9 = _) := hW9
  clear C1 hW9 S9
  go_wp2
  rw [← HW9.out]
  obtain ⟨y0, y1, y2, y3, y4, y5, y6, y7, y8⟩ := HC9.out.cells
  unfold sirenH at y0 y1 y2 y3 y4 y5 y6 y7
  simp only at y0 y1 y2 y3 y4 y5 y6 y7
  refine bodyPost_ret (v := cv sirenH (.slice (some ⟨w3.heap.size, 0, none⟩) 3 3)) (by simp only [results, Tryz.results227]; simp [go_sem, cv, sirenH, y0, y1, y2, y3, y4, y5, y6, y7, y8]) rfl ⟨_, rfl, Or.inr ⟨w3.heap.size, rfl, HP9.out, by omega⟩, HG9.out⟩
set_option maxRecDepth 100000 in
set_option maxHeartbeats 1000000 in
theorem spring_any (w : World) : Calls Tryz.prog 228 #[] w fun e w' => ∃ u, e = .returned (cv springH u) ∧ Own8 w.heap.size w' u springP ∧ w.grownBy w' none := by
  have A0 : CAt (w.alloc (.cells (ccs Hd.none (.slice none 0 0)) 56)) w.heap.size Hd.none (.slice none 0 0) := alloc_at _ _ _
  have HA0 : Hid (CAt (w.alloc (.cells (ccs Hd.none (.slice none 0 0)) 56)) w.heap.size Hd.none (.slice none 0 0)) := A0
  clear A0
  unfold ccs Hd.none at HA0
  go_enter Tryz.func228, Tryz.ntmps228
  go_wp2_with fail
  refine (value1 _).mono ?_
  rintro e w1 ⟨rfl, g1⟩
  have HG : Hid (w.grownBy w1 none) := grown_trans (World.grownBy_alloc _ _ none) g1
  have C1 : CAt w1 w.heap.size Hd.none (.slice none 0 0) := CAt.keepR HA0.out g1 (by simp)
  have hlt := block_lt C1
  clear g1 HA0
  obtain ⟨W9, hW9⟩ : ∃ W9, W9 = set9 w1 w.heap.size 0 springH (.slice (some ⟨w1.heap.size, 0, none⟩) 2 2) := ⟨_, rfl⟩
  have S9 : W9.heap.size = w1.heap.size := by rw [hW9]; exact size_set9 _ _ _ _ _
  have HC9 : Hid (CAt (W9.alloc (.cells #[.int .u8 6, .int .u8 19, .int .u8 1, .int .i64 1, .int .u8 0, .int .u8 0, .int .u8 0, .string ⟨#[]⟩, .int .u8 3, .int .u8 2, .int .u8 5, .int .i64 1, .int .u8 0, .int .u8 0, .int .u8 0, .string ⟨#[]⟩] 115)) w.heap.size springH (.slice (some ⟨w1.heap.size, 0, none⟩) 2 2)) := by rw [hW9]; exact (C1.s9 _ _).keepR (World.grownBy_alloc _ _ none) (by simp)
  have HG9 : Hid (w.grownBy (W9.alloc (.cells #[.int .u8 6, .int .u8 19, .int .u8 1, .int .i64 1, .int .u8 0, .int .u8 0, .int .u8 0, .string ⟨#[]⟩, .int .u8 3, .int .u8 2, .int .u8 5, .int .i64 1, .int .u8 0, .int .u8 0, .int .u8 0, .string ⟨#[]⟩] 115)) none) := by rw [hW9]; exact grown_push (grown_own HG.out (grown_s9 _ _ _ _ _) (fun x e => by cases e; exact Nat.le_refl _)) _
  have HP9 : Hid (PB (W9.alloc (.cells #[.int .u8 6, .int .u8 19, .int .u8 1, .int .i64 1, .int .u8 0, .int .u8 0, .int .u8 0, .string ⟨#[]⟩, .int .u8 3, .int .u8 2, .int .u8 5, .int .i64 1, .int .u8 0, .int .u8 0, .int .u8 0, .string ⟨#[]⟩] 115)) w1.heap.size springP) := by rw [← S9]; exact alloc_at _ _ _
  obtain ⟨z0, z1, z2, z3, z4, z5, z6, z7, z8⟩ := C1.cells
  have zf := fun i => C1.free i
  simp only [Hd.none] at z0 z1 z2 z3 z4 z5 z6 z7 z8
  unfold set9 springH at hW9
  simp only [Nat.zero_add] at hW9
  have HW9 : Hid (W9 = _) := hW9
  clear C1 hW9 S9
  go_wp2
  rw [← HW9.out]
  obtain ⟨y0, y1, y2, y3, y4, y5, y6, y7, y8⟩ := HC9.out.cells
  unfold springH at y0 y1 y2 y3 y4 y5 y6 y7
  simp only at y0 y1 y2 y3 y4 y5 y6 y7
  refine bodyPost_ret (v := cv springH (.slice (some ⟨w1.heap.size, 0, none⟩) 2 2)) (by simp only [results, Tryz.results228]; simp [go_sem, cv, springH, y0, y1, y2, y3, y4, y5, y6, y7, y8]) rfl ⟨_, rfl, Or.inr ⟨w1.heap.size, rfl, HP9.out, by omega⟩, HG9.out⟩
set_option maxRecDepth 100000 in
set_option maxHeartbeats 1000000 in
theorem mirror_any (w : World) : Calls Tryz.prog 229 #[] w fun e w' => ∃ u, e = .returned (cv mirrorH u) ∧ Own8 w.heap.size w' u mirrorP ∧ w.grownBy w' none := by
  have A0 : CAt (w.alloc (.cells (ccs Hd.none (.slice none 0 0)) 56)) w.heap.size Hd.none (.slice none 0 0) := alloc_at _ _ _
  have HA0 : Hid (CAt (w.alloc (.cells (ccs Hd.none (.slice none 0 0)) 56)) w.heap.size Hd.none (.slice none 0 0)) := A0
  clear A0
  unfold ccs Hd.none at HA0
  go_enter Tryz.func229, Tryz.ntmps229
  go_wp2_with fail
  refine (value1 _).mono ?_
  rintro e w1 ⟨rfl, g1⟩
  have HG : Hid (w.grownBy w1 none) := grown_trans (World.grownBy_alloc _ _ none) g1
  have C1 : CAt w1 w.heap.size Hd.none (.slice none 0 0) := CAt.keepR HA0.out g1 (by simp)
  have hlt := block_lt C1
  clear g1 HA0
  obtain ⟨W9, hW9⟩ : ∃ W9, W9 = set9 w1 w.heap.size 0 mirrorH (.slice (some ⟨w1.heap.size, 0, none⟩) 2 2) := ⟨_, rfl⟩
  have S9 : W9.heap.size = w1.heap.size := by rw [hW9]; exact size_set9 _ _ _ _ _
  have HC9 : Hid (CAt (W9.alloc (.cells #[.int .u8 6, .int .u8 18, .int .u8 4, .int .i64 0, .int .u8 0, .int .u8 0, .int .u8 0, .string ⟨#[]⟩, .int .u8 1, .int .u8 7, .int .u8 2, .int .i64 1, .int .u8 0, .int .u8 0, .int .u8 0, .string ⟨#[119, 105, 115, 112]⟩] 115)) w.heap.size mirrorH (.slice (some ⟨w1.heap.size, 0, none⟩) 2 2)) := by rw [hW9]; exact (C1.s9 _ _).keepR (World.grownBy_alloc _ _ none) (by simp)
  have HG9 : Hid (w.grownBy (W9.alloc (.cells #[.int .u8 6, .int .u8 18, .int .u8 4, .int .i64 0, .int .u8 0, .int .u8 0, .int .u8 0, .string ⟨#[]⟩, .int .u8 1, .int .u8 7, .int .u8 2, .int .i64 1, .int .u8 0, .int .u8 0, .int .u8 0, .string ⟨#[119, 105, 115, 112]⟩] 115)) none) := by rw [hW9]; exact grown_push (grown_own HG.out (grown_s9 _ _ _ _ _) (fun x e => by cases e; exact Nat.le_refl _)) _
  have HP9 : Hid (PB (W9.alloc (.cells #[.int .u8 6, .int .u8 18, .int .u8 4, .int .i64 0, .int .u8 0, .int .u8 0, .int .u8 0, .string ⟨#[]⟩, .int .u8 1, .int .u8 7, .int .u8 2, .int .i64 1, .int .u8 0, .int .u8 0, .int .u8 0, .string ⟨#[119, 105, 115, 112]⟩] 115)) w1.heap.size mirrorP) := by rw [← S9]; exact alloc_at _ _ _
  obtain ⟨z0, z1, z2, z3, z4, z5, z6, z7, z8⟩ := C1.cells
  have zf := fun i => C1.free i
  simp only [Hd.none] at z0 z1 z2 z3 z4 z5 z6 z7 z8
  unfold set9 mirrorH at hW9
  simp only [Nat.zero_add] at hW9
  have HW9 : Hid (W9 = _) := hW9
  clear C1 hW9 S9
  go_wp2
  rw [← HW9.out]
  obtain ⟨y0, y1, y2, y3, y4, y5, y6, y7, y8⟩ := HC9.out.cells
  unfold mirrorH at y0 y1 y2 y3 y4 y5 y6 y7
  simp only at y0 y1 y2 y3 y4 y5 y6 y7
  refine bodyPost_ret (v := cv mirrorH (.slice (some ⟨w1.heap.size, 0, none⟩) 2 2)) (by simp only [results, Tryz.results229]; simp [go_sem, cv, mirrorH, y0, y1, y2, y3, y4, y5, y6, y7, y8]) rfl ⟨_, rfl, Or.inr ⟨w1.heap.size, rfl, HP9.out, by omega⟩, HG9.out⟩
def specL : List (Hd × List Pt) := [(dewH, dewP), (tideH, tideP), (dropH, dropP), (sirenH, sirenP), (springH, springP), (mirrorH, mirrorP)]
def LIs (es : List Ent) (k : Nat) : Prop := es.map (fun e => (e.h, e.ps)) = specL.take k
theorem LIs.len {es : List Ent} {k : Nat} (h : LIs es k) (hk : k ≤ 6) : es.length = k := by
  have h0 := congrArg List.length h
  have hl : specL.length = 6 := rfl
  simp only [List.length_map, List.length_take, hl] at h0
  omega
theorem spec_four : ∀ x ∈ specL, x.2.length ≤ 4 := by decide +kernel
theorem LIs.four {es : List Ent} (h : LIs es 6) {e : Ent} (he : e ∈ es) : e.ps.length ≤ 4 := by
  unfold LIs at h
  have h1 : (e.h, e.ps) ∈ specL.take 6 := by rw [← h]; exact List.mem_map.2 ⟨e, he, rfl⟩
  exact spec_four _ (List.mem_of_mem_take h1)
end Go.Proofs.YtknlcjhcamhfmaaGreatDoor.Wa
