/-
  The cards of package water: what each of the functions makes.
  The list of the cards of package water: in a block of its own, its cards' parts in blocks of theirs.
  Package water: Traits, Marks.
-/
import Derived.Test.YtknlcjhcamhfmaaGreatDoorJ14
import Derived.OwnWalk
namespace Go.Proofs.YtknlcjhcamhfmaaGreatDoor.Wa
open Go.RowKit

set_option maxHeartbeats 1000000 in
theorem with0_4 (w : World) : Calls Tryz.prog 211 #[.int .u16 0, .int .u8 4] w fun e w' => e = .returned (.int .u16 8) ∧ w' = w := by
  have b : Calls Tryz.prog 266 #[.int .u8 4] w fun e w' => e = .returned (.int .u16 8) ∧ w' = w := by
    have i : Calls Tryz.prog 241 #[.int .u8 4] w fun e w' => e = .returned (.bool true) ∧ w' = w := by
      go_enter Tryz.func241, Tryz.ntmps241
      go_wp2
      go_ret
      exact ⟨rfl, rfl⟩
    go_enter Tryz.func266, Tryz.ntmps266
    go_wp2_with (go_at_call 241; refine i.mono ?_; rintro e w' ⟨rfl, rfl⟩)
    go_ret
    exact ⟨rfl, rfl⟩
  go_enter Tryz.func211, Tryz.ntmps211
  go_wp2_with (go_at_call 266; refine b.mono ?_; rintro e w' ⟨rfl, rfl⟩)
  go_ret
  exact ⟨rfl, rfl⟩
set_option maxHeartbeats 1000000 in
theorem with0_5 (w : World) : Calls Tryz.prog 211 #[.int .u16 0, .int .u8 5] w fun e w' => e = .returned (.int .u16 16) ∧ w' = w := by
  have b : Calls Tryz.prog 266 #[.int .u8 5] w fun e w' => e = .returned (.int .u16 16) ∧ w' = w := by
    have i : Calls Tryz.prog 241 #[.int .u8 5] w fun e w' => e = .returned (.bool true) ∧ w' = w := by
      go_enter Tryz.func241, Tryz.ntmps241
      go_wp2
      go_ret
      exact ⟨rfl, rfl⟩
    go_enter Tryz.func266, Tryz.ntmps266
    go_wp2_with (go_at_call 241; refine i.mono ?_; rintro e w' ⟨rfl, rfl⟩)
    go_ret
    exact ⟨rfl, rfl⟩
  go_enter Tryz.func211, Tryz.ntmps211
  go_wp2_with (go_at_call 266; refine b.mono ?_; rintro e w' ⟨rfl, rfl⟩)
  go_ret
  exact ⟨rfl, rfl⟩
set_option maxHeartbeats 1000000 in
theorem value0 (w : World) : Calls Tryz.prog 268 #[.int .i64 0] w fun e w' => e = .returned (.int .i64 3) ∧ w.grownBy w' none := by
  go_enter Tryz.func268, Tryz.ntmps268
  go_wp2_with fail
  refine (of_five 0 (by unfold Five; omega) _).mono ?_
  rintro e w1 ⟨rfl, g1⟩
  go_wp2
  go_ret
  exact ⟨rfl, g1⟩
set_option maxHeartbeats 1000000 in
theorem value1 (w : World) : Calls Tryz.prog 268 #[.int .i64 1] w fun e w' => e = .returned (.int .i64 2) ∧ w.grownBy w' none := by
  go_enter Tryz.func268, Tryz.ntmps268
  go_wp2_with fail
  refine (of_five 1 (by unfold Five; omega) _).mono ?_
  rintro e w1 ⟨rfl, g1⟩
  go_wp2
  go_ret
  exact ⟨rfl, g1⟩
def dewH : Hd := ⟨⟨#[100, 101, 119]⟩, 4, 1, 1, 1, 2, 8, false⟩
def dewP : List Pt := [⟨2, 3, 1, 1, 0, 0, 0, ⟨#[]⟩⟩]
def tideH : Hd := ⟨⟨#[116, 105, 100, 101]⟩, 4, 2, 4, 0, 0, 0, false⟩
def tideP : List Pt := [⟨1, 8, 6, 0, 0, 0, 0, ⟨#[]⟩⟩, ⟨1, 4, 2, 1, 0, 0, 0, ⟨#[]⟩⟩]
def dropH : Hd := ⟨⟨#[100, 114, 111, 112]⟩, 4, 1, 0, 1, 1, 16, true⟩
def dropP : List Pt := []
def sirenH : Hd := ⟨⟨#[115, 105, 114, 101, 110]⟩, 4, 1, 5, 1, 3, 0, false⟩
def sirenP : List Pt := [⟨5, 10, 9, 0, 3, 0, 0, ⟨#[]⟩⟩, ⟨5, 13, 6, 0, 0, 2, 0, ⟨#[]⟩⟩, ⟨3, 1, 2, 1, 0, 0, 0, ⟨#[]⟩⟩]
def springH : Hd := ⟨⟨#[115, 112, 114, 105, 110, 103]⟩, 4, 3, 2, 0, 0, 0, false⟩
def springP : List Pt := [⟨6, 19, 1, 1, 0, 0, 0, ⟨#[]⟩⟩, ⟨3, 2, 5, 1, 0, 0, 0, ⟨#[]⟩⟩]
def mirrorH : Hd := ⟨⟨#[109, 105, 114, 114, 111, 114]⟩, 4, 1, 4, 2, 4, 0, false⟩
def mirrorP : List Pt := [⟨6, 18, 4, 0, 0, 0, 0, ⟨#[]⟩⟩, ⟨1, 7, 2, 1, 0, 0, 0, ⟨#[119, 105, 115, 112]⟩⟩]
set_option maxRecDepth 100000 in
set_option maxHeartbeats 1000000 in
theorem dew_any (w : World) : Calls Tryz.prog 224 #[] w fun e w' => ∃ u, e = .returned (cv dewH u) ∧ Own8 w.heap.size w' u dewP ∧ w.grownBy w' none := by
  have A0 : CAt (w.alloc (.cells (ccs Hd.none (.slice none 0 0)) 56)) w.heap.size Hd.none (.slice none 0 0) := alloc_at _ _ _
  have HA0 : Hid (CAt (w.alloc (.cells (ccs Hd.none (.slice none 0 0)) 56)) w.heap.size Hd.none (.slice none 0 0)) := A0
  clear A0
  unfold ccs Hd.none at HA0
  go_enter Tryz.func224, Tryz.ntmps224
  go_wp2_with fail
  refine (value1 _).mono ?_
  rintro e w1 ⟨rfl, g1⟩
  go_wp2_with fail
  refine (with0_4 _).mono ?_
  rintro e w2 ⟨rfl, h2⟩
  have g2 : World.grownBy w1 w2 none := h2 ▸ grown_refl _ _
  clear h2
  have HG : Hid (w.grownBy w2 none) := grown_trans (World.grownBy_alloc _ _ none) (grown_trans g1 g2)
  have C1 : CAt w2 w.heap.size Hd.none (.slice none 0 0) := CAt.keepR HA0.out (grown_trans g1 g2) (by simp)
  have hlt := block_lt C1
  clear g1 g2 HA0
  obtain ⟨W9, hW9⟩ : ∃ W9, W9 = set9 w2 w.heap.size 0 dewH (.slice (some ⟨w2.heap.size, 0, none⟩) 1 1) := ⟨_, rfl⟩
  have S9 : W9.heap.size = w2.heap.size := by rw [hW9]; exact size_set9 _ _ _ _ _
  have HC9 : Hid (CAt (W9.alloc (.cells #[.int .u8 2, .int .u8 3, .int .u8 1, .int .i64 1, .int .u8 0, .int .u8 0, .int .u8 0, .string ⟨#[]⟩] 115)) w.heap.size dewH (.slice (some ⟨w2.heap.size, 0, none⟩) 1 1)) := by rw [hW9]; exact (C1.s9 _ _).keepR (World.grownBy_alloc _ _ none) (by simp)
  have HG9 : Hid (w.grownBy (W9.alloc (.cells #[.int .u8 2, .int .u8 3, .int .u8 1, .int .i64 1, .int .u8 0, .int .u8 0, .int .u8 0, .string ⟨#[]⟩] 115)) none) := by rw [hW9]; exact grown_push (grown_own HG.out (grown_s9 _ _ _ _ _) (fun x e => by cases e; exact Nat.le_refl _)) _
  have HP9 : Hid (PB (W9.alloc (.cells #[.int .u8 2, .int .u8 3, .int .u8 1, .int .i64 1, .int .u8 0, .int .u8 0, .int .u8 0, .string ⟨#[]⟩] 115)) w2.heap.size dewP) := by rw [← S9]; exact alloc_at _ _ _
  obtain ⟨z0, z1, z2, z3, z4, z5, z6, z7, z8⟩ := C1.cells
  have zf := fun i => C1.free i
  simp only [Hd.none] at z0 z1 z2 z3 z4 z5 z6 z7 z8
  unfold set9 dewH at hW9
  simp only [Nat.zero_add] at hW9
  have HW9 : Hid (W9 = _) := hW9
  clear C1 hW9 S9
  go_wp2
  rw [← HW9.out]
  obtain ⟨y0, y1, y2, y3, y4, y5, y6, y7, y8⟩ := HC9.out.cells
  unfold dewH at y0 y1 y2 y3 y4 y5 y6 y7
  simp only at y0 y1 y2 y3 y4 y5 y6 y7
  refine bodyPost_ret (v := cv dewH (.slice (some ⟨w2.heap.size, 0, none⟩) 1 1)) (by simp only [results, Tryz.results224]; simp [go_sem, cv, dewH, y0, y1, y2, y3, y4, y5, y6, y7, y8]) rfl ⟨_, rfl, Or.inr ⟨w2.heap.size, rfl, HP9.out, by omega⟩, HG9.out⟩
set_option maxRecDepth 100000 in
set_option maxHeartbeats 1000000 in
theorem tide_any (w : World) : Calls Tryz.prog 225 #[] w fun e w' => ∃ u, e = .returned (cv tideH u) ∧ Own8 w.heap.size w' u tideP ∧ w.grownBy w' none := by
  have A0 : CAt (w.alloc (.cells (ccs Hd.none (.slice none 0 0)) 56)) w.heap.size Hd.none (.slice none 0 0) := alloc_at _ _ _
  have HA0 : Hid (CAt (w.alloc (.cells (ccs Hd.none (.slice none 0 0)) 56)) w.heap.size Hd.none (.slice none 0 0)) := A0
  clear A0
  go_enter Tryz.func225, Tryz.ntmps225
  go_wp2
  have A : (World.alloc (World.alloc w (Obj.cells (ccs tideH (.slice (some ⟨w.heap.size + 1, 0, none⟩) 2 2)) 56)) (Obj.cells #[.int .u8 1, .int .u8 8, .int .u8 6, .int .i64 0, .int .u8 0, .int .u8 0, .int .u8 0, .string ⟨#[]⟩, .int .u8 1, .int .u8 4, .int .u8 2, .int .i64 1, .int .u8 0, .int .u8 0, .int .u8 0, .string ⟨#[]⟩] 115)).heap[w.heap.size + 1]? = some (.cells #[.int .u8 1, .int .u8 8, .int .u8 6, .int .i64 0, .int .u8 0, .int .u8 0, .int .u8 0, .string ⟨#[]⟩, .int .u8 1, .int .u8 4, .int .u8 2, .int .i64 1, .int .u8 0, .int .u8 0, .int .u8 0, .string ⟨#[]⟩] 115 (0, 0)) := by
    have h0 := alloc_at (World.alloc w (Obj.cells (ccs tideH (.slice (some ⟨w.heap.size + 1, 0, none⟩) 2 2)) 56)) #[.int .u8 1, .int .u8 8, .int .u8 6, .int .i64 0, .int .u8 0, .int .u8 0, .int .u8 0, .string ⟨#[]⟩, .int .u8 1, .int .u8 4, .int .u8 2, .int .i64 1, .int .u8 0, .int .u8 0, .int .u8 0, .string ⟨#[]⟩] 115
    rw [World.size_alloc] at h0
    exact h0
  refine bodyPost_ret (v := cv tideH (.slice (some ⟨w.heap.size + 1, 0, none⟩) 2 2)) (by simp [results, Tryz.results225, go_sem, cv, tideH]) rfl ⟨_, rfl, Or.inr ⟨w.heap.size + 1, rfl, A, by omega⟩, grown_push (World.grownBy_alloc _ _ none) _⟩
set_option maxRecDepth 100000 in
set_option maxHeartbeats 1000000 in
theorem drop_any (w : World) : Calls Tryz.prog 226 #[] w fun e w' => ∃ u, e = .returned (cv dropH u) ∧ Own8 w.heap.size w' u dropP ∧ w.grownBy w' none := by
  have A0 : CAt (w.alloc (.cells (ccs Hd.none (.slice none 0 0)) 56)) w.heap.size Hd.none (.slice none 0 0) := alloc_at _ _ _
  have HA0 : Hid (CAt (w.alloc (.cells (ccs Hd.none (.slice none 0 0)) 56)) w.heap.size Hd.none (.slice none 0 0)) := A0
  clear A0
  unfold ccs Hd.none at HA0
  go_enter Tryz.func226, Tryz.ntmps226
  go_wp2_with fail
  refine (with0_5 _).mono ?_
  rintro e w1 ⟨rfl, h1⟩
  obtain ⟨w0, hw0⟩ : ∃ w0, w0 = w1 := ⟨_, rfl⟩
  have g1 : (w.alloc (.cells #[.string ⟨#[]⟩, .int .u8 0, .int .u8 0, .int .i64 0, .int .i64 0, .int .i64 0, .int .u16 0, .bool false, .slice none 0 0] 56)).grownBy w1 none := h1 ▸ grown_refl _ _
  clear h1 hw0 w0
  have HG : Hid (w.grownBy w1 none) := grown_trans (World.grownBy_alloc _ _ none) g1
  have C1 : CAt w1 w.heap.size Hd.none (.slice none 0 0) := CAt.keepR HA0.out g1 (by simp)
  have hlt := block_lt C1
  clear g1 HA0
  obtain ⟨z0, z1, z2, z3, z4, z5, z6, z7, z8⟩ := C1.cells
  have zf := fun i => C1.free i
  simp only [Hd.none] at z0 z1 z2 z3 z4 z5 z6 z7 z8
  go_wp2
  refine bodyPost_ret (v := cv dropH (.slice none 0 0)) (by simp [results, Tryz.results226, go_sem, cv, dropH, z0, z1, z2, z3, z4, z5, z6, z7, z8]) rfl ⟨_, rfl, Or.inl ⟨rfl, rfl⟩, ?_⟩
  have h9 := grown_own HG.out (grown_s9 w1 w.heap.size 0 dropH (.slice none 0 0)) (fun x e => by cases e; exact Nat.le_refl _)
  unfold set9 dropH at h9
  simp only [Nat.zero_add] at h9
  exact h9
set_option maxRecDepth 100000 in
set_option maxHeartbeats 1000000 in
theorem siren_any (w : World) : Calls Tryz.prog 227 #[] w fun e w' => ∃ u, e = .returned (cv sirenH u) ∧ Own8 w.heap.size w' u sirenP ∧ w.grownBy w' none := by
  have A0 : CAt (w.alloc (.cells (ccs Hd.none (.slice none 0 0)) 56)) w.heap.size Hd.none (.slice none 0 0) := alloc_at _ _ _
  have HA0 : Hid (CAt (w.alloc (.cells (ccs Hd.none (.slice none 0 0)) 56)) w.heap.size Hd.none (.slice none 0 0)) := A0
  clear A0
  unfold ccs Hd.none at HA0
  go_enter Tryz.func227, Tryz.ntmps227
  go_wp2_with fail
  refine (value0 _).mono ?_
  rintro e w1 ⟨rfl, g1⟩
  go_wp2_with fail
  refine (value1 _).mono ?_
  rintro e w2 ⟨rfl, g2⟩
  go_wp2_with fail
  refine (value0 _).mono ?_
  rintro e w3 ⟨rfl, g3⟩
  have HG : Hid (w.grownBy w3 none) := grown_trans (World.grownBy_alloc _ _ none) (grown_trans (grown_trans g1 g2) g3)
  have C1 : CAt w3 w.heap.size Hd.none (.slice none 0 0) := CAt.keepR HA0.out (grown_trans (grown_trans g1 g2) g3) (by simp)
  have hlt := block_lt C1
  clear g1 g2 g3 HA0
  obtain ⟨W9, hW9⟩ : ∃ W9, W9 = set9 w3 w.heap.size 0 sirenH (.slice (some ⟨w3.heap.size, 0, none⟩) 3 3) := ⟨_, rfl⟩
  have S9 : W9.heap.size = w3.heap.size := by rw [hW9]; exact size_set9 _ _ _ _ _
  have HC9 : Hid (CAt (W9.alloc (.cells #[.int .u8 5, .int .u8 10, .int .u8 9, .int .i64 0, .int .u8 3, .int .u8 0, .int .u8 0, .string ⟨#[]⟩, .int .u8 5, .int .u8 13, .int .u8 6, .int .i64 0, .int .u8 0, .int .u8 2, .int .u8 0, .string ⟨#[]⟩, .int .u8 3, .int .u8 1, .int .u8 2, .int .i64 1, .int .u8 0, .int .u8 0, .int .u8 0, .string ⟨#[]⟩] 115)) w.heap.size sirenH (.slice (some ⟨w3.heap.size, 0, none⟩) 3 3)) := by rw [hW9]; exact (C1.s9 _ _).keepR (World.grownBy_alloc _ _ none) (by simp)
  have HG9 : Hid (w.grownBy (W9.alloc (.cells #[.int .u8 5, .int .u8 10, .int .u8 9, .int .i64 0, .int .u8 3, .int .u8 0, .int .u8 0, .string ⟨#[]⟩, .int .u8 5, .int .u8 13, .int .u8 6, .int .i64 0, .int .u8 0, .int .u8 2, .int .u8 0, .string ⟨#[]⟩, .int .u8 3, .int .u8 1, .int .u8 2, .int .i64 1, .int .u8 0, .int .u8 0, .int .u8 0, .string ⟨#[]⟩] 115)) none) := by rw [hW9]; exact grown_push (grown_own HG.out (grown_s9 _ _ _ _ _) (fun x e => by cases e; exact Nat.le_refl _)) _
  have HP9 : Hid (PB (W9.alloc (.cells #[.int .u8 5, .int .u8 10, .int .u8 9, .int .i64 0, .int .u8 3, .int .u8 0, .int .u8 0, .string ⟨#[]⟩, .int .u8 5, .int .u8 13, .int .u8 6, .int .i64 0, .int .u8 0, .int .u8 2, .int .u8 0, .string ⟨#[]⟩, .int .u8 3, .int .u8 1, .int .u8 2, .int .i64 1, .int .u8 0, .int .u8 0, .int .u8 0, .string ⟨#[]⟩] 115)) w3.heap.size sirenP) := by rw [← S9]; exact alloc_at _ _ _
  obtain ⟨z0, z1, z2, z3, z4, z5, z6, z7, z8⟩ := C1.cells
  have zf := fun i => C1.free i
  simp only [Hd.none] at z0 z1 z2 z3 z4 z5 z6 z7 z8
  unfold set9 sirenH at hW9
  simp only [Nat.zero_add] at hW9
  have HW9 : Hid (W9 = _) := hW9
  clear C1 hW9 S9
  go_wp2
  rw [← HW9.out]
  obtain ⟨y0, y1, y2, y3, y4, y5, y6, y7, y8⟩ := HC9.out.cells
  unfold sirenH at y0 y1 y2 y3 y4 y5 y6 y7
  simp only at y0 y1 y2 y3 y4 y5 y6 y7
  refine bodyPost_ret (v := cv sirenH (.slice (some ⟨w3.heap.size, 0, none⟩) 3 3)) (by simp only [results, Tryz.results227]; simp [go_sem, cv, sirenH, y0, y1, y2, y3, y4, y5, y6, y7, y8]) rfl ⟨_, rfl, Or.inr ⟨w3.heap.size, rfl, HP9.out, by omega⟩, HG9.out⟩
set_option maxRecDepth 100000 in
set_option maxHeartbeats 1000000 in
theorem spring_any (w : World) : Calls Tryz.prog 228 #[] w fun e w' => ∃ u, e = .returned (cv springH u) ∧ Own8 w.heap.size w' u springP ∧ w.grownBy w' none := by
  have A0 : CAt (w.alloc (.cells (ccs Hd.none (.slice none 0 0)) 56)) w.heap.size Hd.none (.slice none 0 0) := alloc_at _ _ _
  have HA0 : Hid (CAt (w.alloc (.cells (ccs Hd.none (.slice none 0 0)) 56)) w.heap.size Hd.none (.slice none 0 0)) := A0
  clear A0
  unfold ccs Hd.none at HA0
  go_enter Tryz.func228, Tryz.ntmps228
  go_wp2_with fail
  refine (value1 _).mono ?_
  rintro e w1 ⟨rfl, g1⟩
  have HG : Hid (w.grownBy w1 none) := grown_trans (World.grownBy_alloc _ _ none) g1
  have C1 : CAt w1 w.heap.size Hd.none (.slice none 0 0) := CAt.keepR HA0.out g1 (by simp)
  have hlt := block_lt C1
  clear g1 HA0
  obtain ⟨W9, hW9⟩ : ∃ W9, W9 = set9 w1 w.heap.size 0 springH (.slice (some ⟨w1.heap.size, 0, none⟩) 2 2) := ⟨_, rfl⟩
  have S9 : W9.heap.size = w1.heap.size := by rw [hW9]; exact size_set9 _ _ _ _ _
  have HC9 : Hid (CAt (W9.alloc (.cells #[.int .u8 6, .int .u8 19, .int .u8 1, .int .i64 1, .int .u8 0, .int .u8 0, .int .u8 0, .string ⟨#[]⟩, .int .u8 3, .int .u8 2, .int .u8 5, .int .i64 1, .int .u8 0, .int .u8 0, .int .u8 0, .string ⟨#[]⟩] 115)) w.heap.size springH (.slice (some ⟨w1.heap.size, 0, none⟩) 2 2)) := by rw [hW9]; exact (C1.s9 _ _).keepR (World.grownBy_alloc _ _ none) (by simp)
  have HG9 : Hid (w.grownBy (W9.alloc (.cells #[.int .u8 6, .int .u8 19, .int .u8 1, .int .i64 1, .int .u8 0, .int .u8 0, .int .u8 0, .string ⟨#[]⟩, .int .u8 3, .int .u8 2, .int .u8 5, .int .i64 1, .int .u8 0, .int .u8 0, .int .u8 0, .string ⟨#[]⟩] 115)) none) := by rw [hW9]; exact grown_push (grown_own HG.out (grown_s9 _ _ _ _ _) (fun x e => by cases e; exact Nat.le_refl _)) _
  have HP9 : Hid (PB (W9.alloc (.cells #[.int .u8 6, .int .u8 19, .int .u8 1, .int .i64 1, .int .u8 0, .int .u8 0, .int .u8 0, .string ⟨#[]⟩, .int .u8 3, .int .u8 2, .int .u8 5, .int .i64 1, .int .u8 0, .int .u8 0, .int .u8 0, .string ⟨#[]⟩] 115)) w1.heap.size springP) := by rw [← S9]; exact alloc_at _ _ _
  obtain ⟨z0, z1, z2, z3, z4, z5, z6, z7, z8⟩ := C1.cells
  have zf := fun i => C1.free i
  simp only [Hd.none] at z0 z1 z2 z3 z4 z5 z6 z7 z8
  unfold set9 springH at hW9
  simp only [Nat.zero_add] at hW9
  have HW9 : Hid (W9 = _) := hW9
  clear C1 hW9 S9
  go_wp2
  rw [← HW9.out]
  obtain ⟨y0, y1, y2, y3, y4, y5, y6, y7, y8⟩ := HC9.out.cells
  unfold springH at y0 y1 y2 y3 y4 y5 y6 y7
  simp only at y0 y1 y2 y3 y4 y5 y6 y7
  refine bodyPost_ret (v := cv springH (.slice (some ⟨w1.heap.size, 0, none⟩) 2 2)) (by simp only [results, Tryz.results228]; simp [go_sem, cv, springH, y0, y1, y2, y3, y4, y5, y6, y7, y8]) rfl ⟨_, rfl, Or.inr ⟨w1.heap.size, rfl, HP9.out, by omega⟩, HG9.out⟩
set_option maxRecDepth 100000 in
set_option maxHeartbeats 1000000 in
theorem mirror_any (w : World) : Calls Tryz.prog 229 #[] w fun e w' => ∃ u, e = .returned (cv mirrorH u) ∧ Own8 w.heap.size w' u mirrorP ∧ w.grownBy w' none := by
  have A0 : CAt (w.alloc (.cells (ccs Hd.none (.slice none 0 0)) 56)) w.heap.size Hd.none (.slice none 0 0) := alloc_at _ _ _
  have HA0 : Hid (CAt (w.alloc (.cells (ccs Hd.none (.slice none 0 0)) 56)) w.heap.size Hd.none (.slice none 0 0)) := A0
  clear A0
  unfold ccs Hd.none at HA0
  go_enter Tryz.func229, Tryz.ntmps229
  go_wp2_with fail
  refine (value1 _).mono ?_
  rintro e w1 ⟨rfl, g1⟩
  have HG : Hid (w.grownBy w1 none) := grown_trans (World.grownBy_alloc _ _ none) g1
  have C1 : CAt w1 w.heap.size Hd.none (.slice none 0 0) := CAt.keepR HA0.out g1 (by simp)
  have hlt := block_lt C1
  clear g1 HA0
  obtain ⟨W9, hW9⟩ : ∃ W9, W9 = set9 w1 w.heap.size 0 mirrorH (.slice (some ⟨w1.heap.size, 0, none⟩) 2 2) := ⟨_, rfl⟩
  have S9 : W9.heap.size = w1.heap.size := by rw [hW9]; exact size_set9 _ _ _ _ _
  have HC9 : Hid (CAt (W9.alloc (.cells #[.int .u8 6, .int .u8 18, .int .u8 4, .int .i64 0, .int .u8 0, .int .u8 0, .int .u8 0, .string ⟨#[]⟩, .int .u8 1, .int .u8 7, .int .u8 2, .int .i64 1, .int .u8 0, .int .u8 0, .int .u8 0, .string ⟨#[119, 105, 115, 112]⟩] 115)) w.heap.size mirrorH (.slice (some ⟨w1.heap.size, 0, none⟩) 2 2)) := by rw [hW9]; exact (C1.s9 _ _).keepR (World.grownBy_alloc _ _ none) (by simp)
  have HG9 : Hid (w.grownBy (W9.alloc (.cells #[.int .u8 6, .int .u8 18, .int .u8 4, .int .i64 0, .int .u8 0, .int .u8 0, .int .u8 0, .string ⟨#[]⟩, .int .u8 1, .int .u8 7, .int .u8 2, .int .i64 1, .int .u8 0, .int .u8 0, .int .u8 0, .string ⟨#[119, 105, 115, 112]⟩] 115)) none) := by rw [hW9]; exact grown_push (grown_own HG.out (grown_s9 _ _ _ _ _) (fun x e => by cases e; exact Nat.le_refl _)) _
  have HP9 : Hid (PB (W9.alloc (.cells #[.int .u8 6, .int .u8 18, .int .u8 4, .int .i64 0, .int .u8 0, .int .u8 0, .int .u8 0, .string ⟨#[]⟩, .int .u8 1, .int .u8 7, .int .u8 2, .int .i64 1, .int .u8 0, .int .u8 0, .int .u8 0, .string ⟨#[119, 105, 115, 112]⟩] 115)) w1.heap.size mirrorP) := by rw [← S9]; exact alloc_at _ _ _
  obtain ⟨z0, z1, z2, z3, z4, z5, z6, z7, z8⟩ := C1.cells
  have zf := fun i => C1.free i
  simp only [Hd.none] at z0 z1 z2 z3 z4 z5 z6 z7 z8
  unfold set9 mirrorH at hW9
  simp only [Nat.zero_add] at hW9
  have HW9 : Hid (W9 = _) := hW9
  clear C1 hW9 S9
  go_wp2
  rw [← HW9.out]
  obtain ⟨y0, y1, y2, y3, y4, y5, y6, y7, y8⟩ := HC9.out.cells
  unfold mirrorH at y0 y1 y2 y3 y4 y5 y6 y7
  simp only at y0 y1 y2 y3 y4 y5 y6 y7
  refine bodyPost_ret (v := cv mirrorH (.slice (some ⟨w1.heap.size, 0, none⟩) 2 2)) (by simp only [results, Tryz.results229]; simp [go_sem, cv, mirrorH, y0, y1, y2, y3, y4, y5, y6, y7, y8]) rfl ⟨_, rfl, Or.inr ⟨w1.heap.size, rfl, HP9.out, by omega⟩, HG9.out⟩
def specL : List (Hd × List Pt) := [(dewH, dewP), (tideH, tideP), (dropH, dropP), (sirenH, sirenP), (springH, springP), (mirrorH, mirrorP)]
def LIs (es : List Ent) (k : Nat) : Prop := es.map (fun e => (e.h, e.ps)) = specL.take k
theorem LIs.len {es : List Ent} {k : Nat} (h : LIs es k) (hk : k ≤ 6) : es.length = k := by
  have h0 := congrArg List.length h
  have hl : specL.length = 6 := rfl
  simp only [List.length_map, List.length_take, hl] at h0
  omega
theorem spec_four : ∀ x ∈ specL, x.2.length ≤ 4 := by decide +kernel
theorem LIs.four {es : List Ent} (h : LIs es 6) {e : Ent} (he : e ∈ es) : e.ps.length ≤ 4 := by
  unfold LIs at h
  have h1 : (e.h, e.ps) ∈ specL.take 6 := by rw [← h]; exact List.mem_map.2 ⟨e, he, rfl⟩
  exact spec_four _ (List.mem_of_mem_take h1)
end Go.Proofs.YtknlcjhcamhfmaaGreatDoor.Wa
namespace Go.Proofs.YtknlcjhcamhfmaaGreatDoor.Wa
open Go.RowKit

def fCells : Array Value := #[.func (.func 224) #[] #[], .func (.func 225) #[] #[], .func (.func 226) #[] #[], .func (.func 227) #[] #[], .func (.func 228) #[] #[], .func (.func 229) #[] #[]]
set_option maxHeartbeats 1000000 in
theorem makers_any (w : World) : Calls Tryz.prog 175 #[] w fun e w' => e = .returned (.slice (some ⟨w.heap.size, 0, none⟩) 6 6) ∧ w' = w.alloc (.cells fCells 159) := by
  go_enter Tryz.func175, Tryz.ntmps175
  go_wp2
  go_ret
  exact ⟨rfl, rfl⟩
theorem LIs.next {es : List Ent} {k : Nat} (h : LIs es k) {x : Hd} {ps : List Pt} (u : Value) (hs : specL[k]? = some (x, ps)) : LIs (es ++ [⟨x, u, ps⟩]) (k + 1) := by
  unfold LIs at h ⊢
  rw [List.map_append, h, List.take_add_one, hs]
  rfl
/-- What holds in the loop of List. -/
structure LK (w wr : World) (k : Nat) (es : List Ent) : Prop where
  tbl : wr.heap[w.heap.size]? = some (.cells fCells 159 (0, 0))
  lies : wr.heap[w.heap.size + 1]? = some (.cells (ecells es ++ noCards (6 - k)).toArray 56 (0, 0))
  is : LIs es k
  own : LOwn (w.heap.size + 2) wr es
  gr : w.grownBy wr none
theorem LK.next {w wr V : World} {k : Nat} {es : List Ent} (h : LK w wr k es) (hk : k < 6) {x : Hd} {u : Value} {ps : List Pt} (hs : specL[k]? = some (x, ps)) (o : Own8 wr.heap.size V u ps) (g : wr.grownBy V none) : LK w (set9 V (w.heap.size + 1) (k * 9) x u) (k + 1) (es ++ [⟨x, u, ps⟩]) := by
  have hl := h.is.len (Nat.le_of_lt hk)
  have L := grown_keep g h.lies (by simp)
  have hb := block_lt h.lies
  have hnk : 6 - k = (6 - (k + 1)) + 1 := by omega
  rw [hnk, noCards_succ] at L
  have L2 := set9_block L (k * 9) (by rw [ecells_len, hl]) rfl x u
  refine ⟨grown_keep (grown_s9 _ _ _ _ _) (grown_keep g h.tbl (by simp)) (fun e => by injection e with e; omega), ?_, h.is.next u hs, (h.own.snoc g (by omega) o).keepR (grown_s9 _ _ _ _ _) (fun k hk e => by injection e with e; omega), grown_own (grown_trans h.gr g) (grown_s9 _ _ _ _ _) (fun x e => by cases e; omega)⟩
  rw [L2, ecells_app]
  simp [ecells]
theorem list_cells : (madeCells (Value.agg #[.string ⟨#[]⟩, .int .u8 0, .int .u8 0, .int .i64 0, .int .i64 0, .int .i64 0, .int .u16 0, .bool false, .slice none 0 0]).cells (6 * 9)).toList = noCards 6 := by kernel_rfl
theorem LK.cellf {w wr : World} {k : Nat} {es : List Ent} (h : LK w wr k es) {i : Nat} {v : Value} (hv : fCells[i]? = some v) : wr.cell? ⟨w.heap.size, i, none⟩ = some v := by rw [block_cell h.tbl, hv]
theorem LK.cells {w wr : World} {k : Nat} {es : List Ent} (h : LK w wr k es) (hk : k < 6) : C9 wr (w.heap.size + 1) (k * 9) Hd.none (.slice none 0 0) := by
  have hl := h.is.len (Nat.le_of_lt hk)
  have hnk : 6 - k = (6 - (k + 1)) + 1 := by omega
  have at_ : ∀ j v, j < 9 → (cvs Hd.none (.slice none 0 0))[j]? = some v → wr.cell? ⟨w.heap.size + 1, k * 9 + j, none⟩ = some v := fun j v hj hv => by
    rw [block_cell h.lies, hnk, noCards_succ, List.getElem?_toArray, List.getElem?_append_right (by rw [ecells_len, hl]; omega), ecells_len, hl, show k * 9 + j - k * 9 = j by omega, List.getElem?_append_left (by simpa [cvs] using hj)]
    exact hv
  exact ⟨at_ 0 _ (by omega) rfl, at_ 1 _ (by omega) rfl, at_ 2 _ (by omega) rfl, at_ 3 _ (by omega) rfl, at_ 4 _ (by omega) rfl, at_ 5 _ (by omega) rfl, at_ 6 _ (by omega) rfl, at_ 7 _ (by omega) rfl, at_ 8 _ (by omega) rfl⟩
set_option maxRecDepth 100000 in
set_option maxHeartbeats 4000000 in
theorem list_wa0 (w : World) : Calls Tryz.prog 91 #[] w fun e w' => ∃ es, e = .returned (.slice (some ⟨w.heap.size + 1, 0, none⟩) 6 6) ∧ LIs es 6 ∧ w'.heap[w.heap.size + 1]? = some (.cells (ecells es).toArray 56 (0, 0)) ∧ LOwn (w.heap.size + 2) w' es ∧ w.grownBy w' none := by
  obtain ⟨i0, hi, hz0, hz1, hz2⟩ := info_parts (P := Tryz.prog) (e := 56) (z := .agg #[.string ⟨#[]⟩, .int .u8 0, .int .u8 0, .int .i64 0, .int .i64 0, .int .i64 0, .int .u16 0, .bool false, .slice none 0 0]) (size := 9) (bytes := 80) (by kernel_rfl)
  go_enter Tryz.func91, Tryz.ntmps91
  go_wp2_with fail
  refine (makers_any w).mono ?_
  rintro e W1 ⟨rfl, hW1⟩
  have A1 : Hid (W1.heap[w.heap.size]? = some (.cells fCells 159 (0, 0))) := by rw [hW1]; exact alloc_at _ _ _
  have G1 : Hid (w.grownBy W1 none) := by rw [hW1]; exact World.grownBy_alloc _ _ none
  have S1 : W1.heap.size = w.heap.size + 1 := by rw [hW1, World.size_alloc]
  clear hW1
  go_wp2_with (at_make; refine wpList_make_full _ rfl _ _ 89 rfl W1.heap.size 56 i0 _ 9 Tryz.underlying89 hi hz0 hz1 .i64 .i64 _ _ 6 rfl rfl rfl rfl (by rw [hz2]; decide) (by decide) (Nat.le_refl _) ?_; intro V o1 gv)
  have HK : Hid (LK w V 0 []) := by
    obtain ⟨_, h0 | ⟨g, cap, cur, ev, _, hh, _, _, hsz, htk⟩⟩ := o1
    · exact absurd h0.2 (by decide)
    · injection ev with e1 _ e3
      injection e1 with e1
      injection e1 with e1 _ _
      subst e1
      subst e3
      have hc : cur = (noCards 6).toArray := by
        apply Array.ext'
        rw [← list_cells, ← htk, List.take_of_length_le (by rw [Array.length_toList, hsz]; exact Nat.le_refl _)]
      rw [S1, hc] at hh
      exact ⟨grown_keep gv A1.out (by simp), by simpa [ecells] using hh, rfl, LOwn.nil _ _, grown_trans G1.out gv⟩
  have SV : Hid (V.heap.size = V.heap.size) := rfl
  clear o1 gv A1 G1 SV S1
  go_loopw [11] (fun i wr => ∃ (k : Nat) (es : List Ent), k ≤ 6 ∧ i = .int .i64 (k : Int) ∧ LK w wr k es) (fun i _ => 6 - (intOf i).toNat)
  case atStart => exact ⟨0, [], Nat.zero_le _, rfl, HK.out⟩
  case round =>
    clear HK
    obtain ⟨k, es, hk, rfl, K⟩ := hrel
    obtain ⟨U, hU⟩ : ∃ U, U = wr := ⟨_, rfl⟩
    subst hU
    have HK : Hid (LK w U k es) := K
    clear K
    rcases (show k = 0 ∨ k = 1 ∨ k = 2 ∨ k = 3 ∨ k = 4 ∨ k = 5 ∨ k = 6 from by omega) with rfl | rfl | rfl | rfl | rfl | rfl | rfl
    · have c0 : U.cell? ⟨w.heap.size, 0, none⟩ = some (.func (.func 224) #[] #[]) := HK.out.cellf rfl
      rw [show ((0 : Nat) : Int) = (0 : Int) from rfl]
      go_wp2_with fail
      refine (dew_any _).mono ?_
      rintro e V1 ⟨u, rfl, O1, g1⟩
      obtain ⟨x, y, rfl⟩ := O1.at.form
      obtain ⟨z0, z1, z2, z3, z4, z5, z6, z7, z8⟩ := (HK.out.cells (by decide)).keep g1
      have zf := fun i => block_free (grown_keep g1 HK.out.lies (by simp)) i
      obtain ⟨V9, hV9⟩ : ∃ V9, V9 = set9 V1 (w.heap.size + 1) (0 * 9) dewH (.slice x dewP.length y) := ⟨_, rfl⟩
      have HN : Hid (LK w V9 (0 + 1) (es ++ [⟨dewH, .slice x dewP.length y, dewP⟩])) := by rw [hV9]; exact HK.out.next (by decide) rfl O1 g1
      unfold set9 dewH at hV9
      simp only [Nat.reduceMul, Nat.zero_add] at hV9 z0 z1 z2 z3 z4 z5 z6 z7 z8
      have HV9 : Hid (V9 = _) := hV9
      clear O1 g1 HK c0 hV9
      unfold cv dewH
      go_upto_region 7 with fail
      rw [← HV9.out]
      clear HV9 z0 z1 z2 z3 z4 z5 z6 z7 z8 zf
      go_wp2_with fail
      go_roundw
      case rel => exact ⟨1, _, by decide, rfl, HN.out⟩
      case measure => decide
    · have c0 : U.cell? ⟨w.heap.size, 1, none⟩ = some (.func (.func 225) #[] #[]) := HK.out.cellf rfl
      rw [show ((1 : Nat) : Int) = (1 : Int) from rfl]
      go_wp2_with fail
      refine (tide_any _).mono ?_
      rintro e V1 ⟨u, rfl, O1, g1⟩
      obtain ⟨x, y, rfl⟩ := O1.at.form
      obtain ⟨z0, z1, z2, z3, z4, z5, z6, z7, z8⟩ := (HK.out.cells (by decide)).keep g1
      have zf := fun i => block_free (grown_keep g1 HK.out.lies (by simp)) i
      obtain ⟨V9, hV9⟩ : ∃ V9, V9 = set9 V1 (w.heap.size + 1) (1 * 9) tideH (.slice x tideP.length y) := ⟨_, rfl⟩
      have HN : Hid (LK w V9 (1 + 1) (es ++ [⟨tideH, .slice x tideP.length y, tideP⟩])) := by rw [hV9]; exact HK.out.next (by decide) rfl O1 g1
      unfold set9 tideH at hV9
      simp only [Nat.reduceMul, Nat.reduceAdd] at hV9 z0 z1 z2 z3 z4 z5 z6 z7 z8
      have HV9 : Hid (V9 = _) := hV9
      clear O1 g1 HK c0 hV9
      unfold cv tideH
      go_upto_region 7 with fail
      rw [← HV9.out]
      clear HV9 z0 z1 z2 z3 z4 z5 z6 z7 z8 zf
      go_wp2_with fail
      go_roundw
      case rel => exact ⟨2, _, by decide, rfl, HN.out⟩
      case measure => decide
    · have c0 : U.cell? ⟨w.heap.size, 2, none⟩ = some (.func (.func 226) #[] #[]) := HK.out.cellf rfl
      rw [show ((2 : Nat) : Int) = (2 : Int) from rfl]
      go_wp2_with fail
      refine (drop_any _).mono ?_
      rintro e V1 ⟨u, rfl, O1, g1⟩
      obtain ⟨x, y, rfl⟩ := O1.at.form
      obtain ⟨z0, z1, z2, z3, z4, z5, z6, z7, z8⟩ := (HK.out.cells (by decide)).keep g1
      have zf := fun i => block_free (grown_keep g1 HK.out.lies (by simp)) i
      obtain ⟨V9, hV9⟩ : ∃ V9, V9 = set9 V1 (w.heap.size + 1) (2 * 9) dropH (.slice x dropP.length y) := ⟨_, rfl⟩
      have HN : Hid (LK w V9 (2 + 1) (es ++ [⟨dropH, .slice x dropP.length y, dropP⟩])) := by rw [hV9]; exact HK.out.next (by decide) rfl O1 g1
      unfold set9 dropH at hV9
      simp only [Nat.reduceMul, Nat.reduceAdd] at hV9 z0 z1 z2 z3 z4 z5 z6 z7 z8
      have HV9 : Hid (V9 = _) := hV9
      clear O1 g1 HK c0 hV9
      unfold cv dropH
      go_upto_region 7 with fail
      rw [← HV9.out]
      clear HV9 z0 z1 z2 z3 z4 z5 z6 z7 z8 zf
      go_wp2_with fail
      go_roundw
      case rel => exact ⟨3, _, by decide, rfl, HN.out⟩
      case measure => decide
    · have c0 : U.cell? ⟨w.heap.size, 3, none⟩ = some (.func (.func 227) #[] #[]) := HK.out.cellf rfl
      rw [show ((3 : Nat) : Int) = (3 : Int) from rfl]
      go_wp2_with fail
      refine (siren_any _).mono ?_
      rintro e V1 ⟨u, rfl, O1, g1⟩
      obtain ⟨x, y, rfl⟩ := O1.at.form
      obtain ⟨z0, z1, z2, z3, z4, z5, z6, z7, z8⟩ := (HK.out.cells (by decide)).keep g1
      have zf := fun i => block_free (grown_keep g1 HK.out.lies (by simp)) i
      obtain ⟨V9, hV9⟩ : ∃ V9, V9 = set9 V1 (w.heap.size + 1) (3 * 9) sirenH (.slice x sirenP.length y) := ⟨_, rfl⟩
      have HN : Hid (LK w V9 (3 + 1) (es ++ [⟨sirenH, .slice x sirenP.length y, sirenP⟩])) := by rw [hV9]; exact HK.out.next (by decide) rfl O1 g1
      unfold set9 sirenH at hV9
      simp only [Nat.reduceMul, Nat.reduceAdd] at hV9 z0 z1 z2 z3 z4 z5 z6 z7 z8
      have HV9 : Hid (V9 = _) := hV9
      clear O1 g1 HK c0 hV9
      unfold cv sirenH
      go_upto_region 7 with fail
      rw [← HV9.out]
      clear HV9 z0 z1 z2 z3 z4 z5 z6 z7 z8 zf
      go_wp2_with fail
      go_roundw
      case rel => exact ⟨4, _, by decide, rfl, HN.out⟩
      case measure => decide
    · have c0 : U.cell? ⟨w.heap.size, 4, none⟩ = some (.func (.func 228) #[] #[]) := HK.out.cellf rfl
      rw [show ((4 : Nat) : Int) = (4 : Int) from rfl]
      go_wp2_with fail
      refine (spring_any _).mono ?_
      rintro e V1 ⟨u, rfl, O1, g1⟩
      obtain ⟨x, y, rfl⟩ := O1.at.form
      obtain ⟨z0, z1, z2, z3, z4, z5, z6, z7, z8⟩ := (HK.out.cells (by decide)).keep g1
      have zf := fun i => block_free (grown_keep g1 HK.out.lies (by simp)) i
      obtain ⟨V9, hV9⟩ : ∃ V9, V9 = set9 V1 (w.heap.size + 1) (4 * 9) springH (.slice x springP.length y) := ⟨_, rfl⟩
      have HN : Hid (LK w V9 (4 + 1) (es ++ [⟨springH, .slice x springP.length y, springP⟩])) := by rw [hV9]; exact HK.out.next (by decide) rfl O1 g1
      unfold set9 springH at hV9
      simp only [Nat.reduceMul, Nat.reduceAdd] at hV9 z0 z1 z2 z3 z4 z5 z6 z7 z8
      have HV9 : Hid (V9 = _) := hV9
      clear O1 g1 HK c0 hV9
      unfold cv springH
      go_upto_region 7 with fail
      rw [← HV9.out]
      clear HV9 z0 z1 z2 z3 z4 z5 z6 z7 z8 zf
      go_wp2_with fail
      go_roundw
      case rel => exact ⟨5, _, by decide, rfl, HN.out⟩
      case measure => decide
    · have c0 : U.cell? ⟨w.heap.size, 5, none⟩ = some (.func (.func 229) #[] #[]) := HK.out.cellf rfl
      rw [show ((5 : Nat) : Int) = (5 : Int) from rfl]
      go_wp2_with fail
      refine (mirror_any _).mono ?_
      rintro e V1 ⟨u, rfl, O1, g1⟩
      obtain ⟨x, y, rfl⟩ := O1.at.form
      obtain ⟨z0, z1, z2, z3, z4, z5, z6, z7, z8⟩ := (HK.out.cells (by decide)).keep g1
      have zf := fun i => block_free (grown_keep g1 HK.out.lies (by simp)) i
      obtain ⟨V9, hV9⟩ : ∃ V9, V9 = set9 V1 (w.heap.size + 1) (5 * 9) mirrorH (.slice x mirrorP.length y) := ⟨_, rfl⟩
      have HN : Hid (LK w V9 (5 + 1) (es ++ [⟨mirrorH, .slice x mirrorP.length y, mirrorP⟩])) := by rw [hV9]; exact HK.out.next (by decide) rfl O1 g1
      unfold set9 mirrorH at hV9
      simp only [Nat.reduceMul, Nat.reduceAdd] at hV9 z0 z1 z2 z3 z4 z5 z6 z7 z8
      have HV9 : Hid (V9 = _) := hV9
      clear O1 g1 HK c0 hV9
      unfold cv mirrorH
      go_upto_region 7 with fail
      rw [← HV9.out]
      clear HV9 z0 z1 z2 z3 z4 z5 z6 z7 z8 zf
      go_wp2_with fail
      go_roundw
      case rel => exact ⟨6, _, by decide, rfl, HN.out⟩
      case measure => decide
    · rw [show ((6 : Nat) : Int) = (6 : Int) from rfl]
      have L0 := HK.out.lies
      rw [show noCards (6 - 6) = [] from rfl, List.append_nil] at L0
      have HL : Hid (U.heap[w.heap.size + 1]? = some (.cells (ecells es).toArray 56 (0, 0))) := L0
      clear L0
      go_wp2
      go_ret
      exact ⟨es, rfl, HK.out.is, HL.out, HK.out.own, HK.out.gr⟩
/-- A list of the suit's cards: in a block of its own; parts in blocks of theirs. -/
structure LAt (w w' : World) (g : Nat) (es : List Ent) : Prop where
  is : LIs es 6
  lies : w'.heap[g]? = some (.cells (ecells es).toArray 56 (0, 0))
  own : LOwn w.heap.size w' es
  low : w.heap.size ≤ g
  top : g < w'.heap.size
  other : ∀ e ∈ es, ∀ b, e.v.ownBlock = some b → g < b
  gr : w.grownBy w' none
theorem list_wa (w : World) : Calls Tryz.prog 91 #[] w fun e w' => ∃ g es, e = .returned (.slice (some ⟨g, 0, none⟩) 6 6) ∧ LAt w w' g es := by
  refine (list_wa0 w).mono ?_
  rintro e w' ⟨es, rfl, h1, h2, h3, h4⟩
  refine ⟨w.heap.size + 1, es, rfl, h1, h2, h3.low (by omega), by omega, block_lt h2, fun e he b hb => ?_, h4⟩
  have := ((h3.own e he).block b hb).1
  omega
theorem list_std (w : World) : Calls Tryz.prog 91 #[] w fun e w' => ∃ g es, e = .returned (.slice (some ⟨g, 0, none⟩) 6 6) ∧ SuL specL w w' g es := by
  refine (list_wa w).mono ?_
  rintro e w' ⟨g, es, rfl, A⟩
  exact ⟨g, es, rfl, A.is, A.lies, A.own.own, A.low, A.gr⟩
end Go.Proofs.YtknlcjhcamhfmaaGreatDoor.Wa
namespace Go.Proofs.YtknlcjhcamhfmaaGreatDoor.Wa
open Go.RowKit

def tCells : Array Value := #[.int .u8 4, .int .u8 5]
set_option maxHeartbeats 1000000 in
theorem traits (w : World) : Calls Tryz.prog 92 #[] w fun e w' => e = .returned (.slice (some ⟨w.heap.size, 0, none⟩) 2 2) ∧ w' = w.alloc (.cells tCells 57) := by
  go_enter Tryz.func92, Tryz.ntmps92
  go_wp2
  go_ret
  exact ⟨rfl, rfl⟩
set_option maxHeartbeats 1000000 in
theorem marks (w : World) : Calls Tryz.prog 93 #[] w fun e w' => e = .returned (.slice none 0 0) ∧ w' = w := by
  go_enter Tryz.func93, Tryz.ntmps93
  go_wp2
  go_ret
  exact ⟨rfl, rfl⟩
end Go.Proofs.YtknlcjhcamhfmaaGreatDoor.Wa
