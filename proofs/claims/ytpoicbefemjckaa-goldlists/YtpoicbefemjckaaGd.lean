/-
  The cards of package gold: what each of the functions makes.
-/
import Derived.Test.YtpoicbefemjckaaSuG
namespace Go.Proofs.Ytpoicbefemjckaa
open Go.RowKit

set_option maxHeartbeats 1000000 in
theorem with0_7 (w : World) : Calls Try.prog 94 #[.int .u16 0, .int .u8 7] w fun e w' => e = .returned (.int .u16 64) ∧ w' = w := by
  have b : Calls Try.prog 115 #[.int .u8 7] w fun e w' => e = .returned (.int .u16 64) ∧ w' = w := by
    have i : Calls Try.prog 128 #[.int .u8 7] w fun e w' => e = .returned (.bool true) ∧ w' = w := by
      go_enter Try.func128, Try.ntmps128
      go_wp2
      go_ret
      exact ⟨rfl, rfl⟩
    go_enter Try.func115, Try.ntmps115
    go_wp2_with (go_at_call 128; refine i.mono ?_; rintro e w' ⟨rfl, rfl⟩)
    go_ret
    exact ⟨rfl, rfl⟩
  go_enter Try.func94, Try.ntmps94
  go_wp2_with (go_at_call 115; refine b.mono ?_; rintro e w' ⟨rfl, rfl⟩)
  go_ret
  exact ⟨rfl, rfl⟩
set_option maxHeartbeats 1000000 in
theorem with0_2 (w : World) : Calls Try.prog 94 #[.int .u16 0, .int .u8 2] w fun e w' => e = .returned (.int .u16 2) ∧ w' = w := by
  have b : Calls Try.prog 115 #[.int .u8 2] w fun e w' => e = .returned (.int .u16 2) ∧ w' = w := by
    have i : Calls Try.prog 128 #[.int .u8 2] w fun e w' => e = .returned (.bool true) ∧ w' = w := by
      go_enter Try.func128, Try.ntmps128
      go_wp2
      go_ret
      exact ⟨rfl, rfl⟩
    go_enter Try.func115, Try.ntmps115
    go_wp2_with (go_at_call 128; refine i.mono ?_; rintro e w' ⟨rfl, rfl⟩)
    go_ret
    exact ⟨rfl, rfl⟩
  go_enter Try.func94, Try.ntmps94
  go_wp2_with (go_at_call 115; refine b.mono ?_; rintro e w' ⟨rfl, rfl⟩)
  go_ret
  exact ⟨rfl, rfl⟩
set_option maxHeartbeats 1000000 in
theorem with2_7 (w : World) : Calls Try.prog 94 #[.int .u16 2, .int .u8 7] w fun e w' => e = .returned (.int .u16 66) ∧ w' = w := by
  have b : Calls Try.prog 115 #[.int .u8 7] w fun e w' => e = .returned (.int .u16 64) ∧ w' = w := by
    have i : Calls Try.prog 128 #[.int .u8 7] w fun e w' => e = .returned (.bool true) ∧ w' = w := by
      go_enter Try.func128, Try.ntmps128
      go_wp2
      go_ret
      exact ⟨rfl, rfl⟩
    go_enter Try.func115, Try.ntmps115
    go_wp2_with (go_at_call 128; refine i.mono ?_; rintro e w' ⟨rfl, rfl⟩)
    go_ret
    exact ⟨rfl, rfl⟩
  go_enter Try.func94, Try.ntmps94
  go_wp2_with (go_at_call 115; refine b.mono ?_; rintro e w' ⟨rfl, rfl⟩)
  go_ret
  exact ⟨rfl, rfl⟩
set_option maxHeartbeats 1000000 in
theorem value0 (w : World) : Calls Try.prog 95 #[.int .i64 0] w fun e w' => e = .returned (.int .i64 3) ∧ w.grownBy w' none := by
  go_enter Try.func95, Try.ntmps95
  go_wp2_with fail
  refine (of_five 0 (by unfold Five; omega) _).mono ?_
  rintro e w1 ⟨rfl, g1⟩
  go_wp2
  go_ret
  exact ⟨rfl, g1⟩
set_option maxHeartbeats 1000000 in
theorem value1 (w : World) : Calls Try.prog 95 #[.int .i64 1] w fun e w' => e = .returned (.int .i64 2) ∧ w.grownBy w' none := by
  go_enter Try.func95, Try.ntmps95
  go_wp2_with fail
  refine (of_five 1 (by unfold Five; omega) _).mono ?_
  rintro e w1 ⟨rfl, g1⟩
  go_wp2
  go_ret
  exact ⟨rfl, g1⟩
set_option maxHeartbeats 1000000 in
theorem value2 (w : World) : Calls Try.prog 95 #[.int .i64 2] w fun e w' => e = .returned (.int .i64 7) ∧ w.grownBy w' none := by
  go_enter Try.func95, Try.ntmps95
  go_wp2_with fail
  refine (of_five 2 (by unfold Five; omega) _).mono ?_
  rintro e w1 ⟨rfl, g1⟩
  go_wp2
  go_ret
  exact ⟨rfl, g1⟩
def treasureH : Hd := ⟨⟨#[116, 114, 101, 97, 115, 117, 114, 101]⟩, 6, 2, 1, 0, 0, 0, false⟩
def treasureP : List Pt := [⟨1, 5, 1, 2, 0, 0, 0, ⟨#[]⟩⟩, ⟨1, 7, 1, 1, 0, 0, 0, ⟨#[99, 111, 105, 110]⟩⟩]
def coinH : Hd := ⟨⟨#[99, 111, 105, 110]⟩, 6, 1, 0, 1, 1, 64, true⟩
def coinP : List Pt := []
def statueH : Hd := ⟨⟨#[115, 116, 97, 116, 117, 101]⟩, 6, 1, 2, 0, 6, 66, false⟩
def statueP : List Pt := [⟨1, 9, 4, 1, 0, 0, 3, ⟨#[]⟩⟩, ⟨6, 19, 4, 1, 0, 0, 0, ⟨#[]⟩⟩]
def idolH : Hd := ⟨⟨#[105, 100, 111, 108]⟩, 6, 3, 3, 0, 0, 0, false⟩
def idolP : List Pt := [⟨5, 11, 5, 0, 6, 0, 0, ⟨#[]⟩⟩, ⟨3, 9, 9, 1, 6, 0, 1, ⟨#[]⟩⟩]
def taxManH : Hd := ⟨⟨#[116, 97, 120, 45, 109, 97, 110]⟩, 6, 1, 3, 2, 3, 0, false⟩
def taxManP : List Pt := [⟨1, 4, 2, 1, 0, 0, 0, ⟨#[]⟩⟩, ⟨3, 5, 1, 1, 0, 0, 0, ⟨#[]⟩⟩]
def midasH : Hd := ⟨⟨#[109, 105, 100, 97, 115]⟩, 6, 1, 7, 4, 4, 0, false⟩
def midasP : List Pt := [⟨5, 11, 7, 0, 6, 0, 0, ⟨#[]⟩⟩, ⟨4, 5, 1, 1, 0, 0, 0, ⟨#[]⟩⟩]
set_option maxRecDepth 100000 in
set_option maxHeartbeats 1000000 in
theorem treasure_any (w : World) : Calls Try.prog 69 #[] w fun e w' => ∃ u, e = .returned (cv treasureH u) ∧ Own8 w.heap.size w' u treasureP ∧ w.grownBy w' none := by
  have A0 : CAt (w.alloc (.cells (ccs Hd.none (.slice none 0 0)) 47)) w.heap.size Hd.none (.slice none 0 0) := alloc_at _ _ _
  have HA0 : Hid (CAt (w.alloc (.cells (ccs Hd.none (.slice none 0 0)) 47)) w.heap.size Hd.none (.slice none 0 0)) := A0
  clear A0
  go_enter Try.func69, Try.ntmps69
  go_wp2
  have A : (World.alloc (World.alloc w (Obj.cells (ccs treasureH (.slice (some ⟨w.heap.size + 1, 0, none⟩) 2 2)) 47)) (Obj.cells #[.int .u8 1, .int .u8 5, .int .u8 1, .int .i64 2, .int .u8 0, .int .u8 0, .int .u8 0, .string ⟨#[]⟩, .int .u8 1, .int .u8 7, .int .u8 1, .int .i64 1, .int .u8 0, .int .u8 0, .int .u8 0, .string ⟨#[99, 111, 105, 110]⟩] 81)).heap[w.heap.size + 1]? = some (.cells #[.int .u8 1, .int .u8 5, .int .u8 1, .int .i64 2, .int .u8 0, .int .u8 0, .int .u8 0, .string ⟨#[]⟩, .int .u8 1, .int .u8 7, .int .u8 1, .int .i64 1, .int .u8 0, .int .u8 0, .int .u8 0, .string ⟨#[99, 111, 105, 110]⟩] 81 (0, 0)) := by
    have h0 := alloc_at (World.alloc w (Obj.cells (ccs treasureH (.slice (some ⟨w.heap.size + 1, 0, none⟩) 2 2)) 47)) #[.int .u8 1, .int .u8 5, .int .u8 1, .int .i64 2, .int .u8 0, .int .u8 0, .int .u8 0, .string ⟨#[]⟩, .int .u8 1, .int .u8 7, .int .u8 1, .int .i64 1, .int .u8 0, .int .u8 0, .int .u8 0, .string ⟨#[99, 111, 105, 110]⟩] 81
    rw [World.size_alloc] at h0
    exact h0
  refine bodyPost_ret (v := cv treasureH (.slice (some ⟨w.heap.size + 1, 0, none⟩) 2 2)) (by simp [results, Try.results69, go_sem, cv, treasureH]) rfl ⟨_, rfl, Or.inr ⟨w.heap.size + 1, rfl, A, by omega⟩, grown_push (World.grownBy_alloc _ _ none) _⟩
set_option maxRecDepth 100000 in
set_option maxHeartbeats 1000000 in
theorem coin_any (w : World) : Calls Try.prog 70 #[] w fun e w' => ∃ u, e = .returned (cv coinH u) ∧ Own8 w.heap.size w' u coinP ∧ w.grownBy w' none := by
  have A0 : CAt (w.alloc (.cells (ccs Hd.none (.slice none 0 0)) 47)) w.heap.size Hd.none (.slice none 0 0) := alloc_at _ _ _
  have HA0 : Hid (CAt (w.alloc (.cells (ccs Hd.none (.slice none 0 0)) 47)) w.heap.size Hd.none (.slice none 0 0)) := A0
  clear A0
  unfold ccs Hd.none at HA0
  go_enter Try.func70, Try.ntmps70
  go_wp2_with fail
  refine (with0_7 _).mono ?_
  rintro e w1 ⟨rfl, h1⟩
  obtain ⟨w0, hw0⟩ : ∃ w0, w0 = w1 := ⟨_, rfl⟩
  have g1 : (w.alloc (.cells #[.string ⟨#[]⟩, .int .u8 0, .int .u8 0, .int .i64 0, .int .i64 0, .int .i64 0, .int .u16 0, .bool false, .slice none 0 0] 47)).grownBy w1 none := h1 ▸ grown_refl _ _
  clear h1 hw0 w0
  have HG : Hid (w.grownBy w1 none) := grown_trans (World.grownBy_alloc _ _ none) g1
  have C1 : CAt w1 w.heap.size Hd.none (.slice none 0 0) := CAt.keepR HA0.out g1 (by simp)
  have hlt := block_lt C1
  clear g1 HA0
  obtain ⟨z0, z1, z2, z3, z4, z5, z6, z7, z8⟩ := C1.cells
  have zf := fun i => C1.free i
  simp only [Hd.none] at z0 z1 z2 z3 z4 z5 z6 z7 z8
  go_wp2
  refine bodyPost_ret (v := cv coinH (.slice none 0 0)) (by simp [results, Try.results70, go_sem, cv, coinH, z0, z1, z2, z3, z4, z5, z6, z7, z8]) rfl ⟨_, rfl, Or.inl ⟨rfl, rfl⟩, ?_⟩
  have h9 := grown_own HG.out (grown_s9 w1 w.heap.size 0 coinH (.slice none 0 0)) (fun x e => by cases e; exact Nat.le_refl _)
  unfold set9 coinH at h9
  simp only [Nat.zero_add] at h9
  exact h9
set_option maxRecDepth 100000 in
set_option maxHeartbeats 1000000 in
theorem statue_any (w : World) : Calls Try.prog 71 #[] w fun e w' => ∃ u, e = .returned (cv statueH u) ∧ Own8 w.heap.size w' u statueP ∧ w.grownBy w' none := by
  have A0 : CAt (w.alloc (.cells (ccs Hd.none (.slice none 0 0)) 47)) w.heap.size Hd.none (.slice none 0 0) := alloc_at _ _ _
  have HA0 : Hid (CAt (w.alloc (.cells (ccs Hd.none (.slice none 0 0)) 47)) w.heap.size Hd.none (.slice none 0 0)) := A0
  clear A0
  unfold ccs Hd.none at HA0
  go_enter Try.func71, Try.ntmps71
  go_wp2_with fail
  refine (value1 _).mono ?_
  rintro e w1 ⟨rfl, g1⟩
  go_wp2_with fail
  refine (value2 _).mono ?_
  rintro e w2 ⟨rfl, g2⟩
  go_wp2_with fail
  refine (with0_2 _).mono ?_
  rintro e w3 ⟨rfl, h3⟩
  have g3 : World.grownBy w2 w3 none := h3 ▸ grown_refl _ _
  clear h3
  go_wp2_with fail
  refine (with2_7 _).mono ?_
  rintro e w4 ⟨rfl, h4⟩
  have g4 : World.grownBy w3 w4 none := h4 ▸ grown_refl _ _
  clear h4
  have HG : Hid (w.grownBy w4 none) := grown_trans (World.grownBy_alloc _ _ none) (grown_trans (grown_trans (grown_trans g1 g2) g3) g4)
  have C1 : CAt w4 w.heap.size Hd.none (.slice none 0 0) := CAt.keepR HA0.out (grown_trans (grown_trans (grown_trans g1 g2) g3) g4) (by simp)
  have hlt := block_lt C1
  clear g1 g2 g3 g4 HA0
  obtain ⟨W9, hW9⟩ : ∃ W9, W9 = set9 w4 w.heap.size 0 statueH (.slice (some ⟨w4.heap.size, 0, none⟩) 2 2) := ⟨_, rfl⟩
  have S9 : W9.heap.size = w4.heap.size := by rw [hW9]; exact size_set9 _ _ _ _ _
  have HC9 : Hid (CAt (W9.alloc (.cells #[.int .u8 1, .int .u8 9, .int .u8 4, .int .i64 1, .int .u8 0, .int .u8 0, .int .u8 3, .string ⟨#[]⟩, .int .u8 6, .int .u8 19, .int .u8 4, .int .i64 1, .int .u8 0, .int .u8 0, .int .u8 0, .string ⟨#[]⟩] 81)) w.heap.size statueH (.slice (some ⟨w4.heap.size, 0, none⟩) 2 2)) := by rw [hW9]; exact (C1.s9 _ _).keepR (World.grownBy_alloc _ _ none) (by simp)
  have HG9 : Hid (w.grownBy (W9.alloc (.cells #[.int .u8 1, .int .u8 9, .int .u8 4, .int .i64 1, .int .u8 0, .int .u8 0, .int .u8 3, .string ⟨#[]⟩, .int .u8 6, .int .u8 19, .int .u8 4, .int .i64 1, .int .u8 0, .int .u8 0, .int .u8 0, .string ⟨#[]⟩] 81)) none) := by rw [hW9]; exact grown_push (grown_own HG.out (grown_s9 _ _ _ _ _) (fun x e => by cases e; exact Nat.le_refl _)) _
  have HP9 : Hid (PB (W9.alloc (.cells #[.int .u8 1, .int .u8 9, .int .u8 4, .int .i64 1, .int .u8 0, .int .u8 0, .int .u8 3, .string ⟨#[]⟩, .int .u8 6, .int .u8 19, .int .u8 4, .int .i64 1, .int .u8 0, .int .u8 0, .int .u8 0, .string ⟨#[]⟩] 81)) w4.heap.size statueP) := by rw [← S9]; exact alloc_at _ _ _
  obtain ⟨z0, z1, z2, z3, z4, z5, z6, z7, z8⟩ := C1.cells
  have zf := fun i => C1.free i
  simp only [Hd.none] at z0 z1 z2 z3 z4 z5 z6 z7 z8
  unfold set9 statueH at hW9
  simp only [Nat.zero_add] at hW9
  have HW9 : Hid (W9 = _) := hW9
  clear C1 hW9 S9
  go_wp2
  rw [← HW9.out]
  obtain ⟨y0, y1, y2, y3, y4, y5, y6, y7, y8⟩ := HC9.out.cells
  unfold statueH at y0 y1 y2 y3 y4 y5 y6 y7
  simp only at y0 y1 y2 y3 y4 y5 y6 y7
  refine bodyPost_ret (v := cv statueH (.slice (some ⟨w4.heap.size, 0, none⟩) 2 2)) (by simp only [results, Try.results71]; simp [go_sem, cv, statueH, y0, y1, y2, y3, y4, y5, y6, y7, y8]) rfl ⟨_, rfl, Or.inr ⟨w4.heap.size, rfl, HP9.out, by omega⟩, HG9.out⟩
set_option maxRecDepth 100000 in
set_option maxHeartbeats 1000000 in
theorem idol_any (w : World) : Calls Try.prog 72 #[] w fun e w' => ∃ u, e = .returned (cv idolH u) ∧ Own8 w.heap.size w' u idolP ∧ w.grownBy w' none := by
  have A0 : CAt (w.alloc (.cells (ccs Hd.none (.slice none 0 0)) 47)) w.heap.size Hd.none (.slice none 0 0) := alloc_at _ _ _
  have HA0 : Hid (CAt (w.alloc (.cells (ccs Hd.none (.slice none 0 0)) 47)) w.heap.size Hd.none (.slice none 0 0)) := A0
  clear A0
  unfold ccs Hd.none at HA0
  go_enter Try.func72, Try.ntmps72
  go_wp2_with fail
  refine (value0 _).mono ?_
  rintro e w1 ⟨rfl, g1⟩
  have HG : Hid (w.grownBy w1 none) := grown_trans (World.grownBy_alloc _ _ none) g1
  have C1 : CAt w1 w.heap.size Hd.none (.slice none 0 0) := CAt.keepR HA0.out g1 (by simp)
  have hlt := block_lt C1
  clear g1 HA0
  obtain ⟨W9, hW9⟩ : ∃ W9, W9 = set9 w1 w.heap.size 0 idolH (.slice (some ⟨w1.heap.size, 0, none⟩) 2 2) := ⟨_, rfl⟩
  have S9 : W9.heap.size = w1.heap.size := by rw [hW9]; exact size_set9 _ _ _ _ _
  have HC9 : Hid (CAt (W9.alloc (.cells #[.int .u8 5, .int .u8 11, .int .u8 5, .int .i64 0, .int .u8 6, .int .u8 0, .int .u8 0, .string ⟨#[]⟩, .int .u8 3, .int .u8 9, .int .u8 9, .int .i64 1, .int .u8 6, .int .u8 0, .int .u8 1, .string ⟨#[]⟩] 81)) w.heap.size idolH (.slice (some ⟨w1.heap.size, 0, none⟩) 2 2)) := by rw [hW9]; exact (C1.s9 _ _).keepR (World.grownBy_alloc _ _ none) (by simp)
  have HG9 : Hid (w.grownBy (W9.alloc (.cells #[.int .u8 5, .int .u8 11, .int .u8 5, .int .i64 0, .int .u8 6, .int .u8 0, .int .u8 0, .string ⟨#[]⟩, .int .u8 3, .int .u8 9, .int .u8 9, .int .i64 1, .int .u8 6, .int .u8 0, .int .u8 1, .string ⟨#[]⟩] 81)) none) := by rw [hW9]; exact grown_push (grown_own HG.out (grown_s9 _ _ _ _ _) (fun x e => by cases e; exact Nat.le_refl _)) _
  have HP9 : Hid (PB (W9.alloc (.cells #[.int .u8 5, .int .u8 11, .int .u8 5, .int .i64 0, .int .u8 6, .int .u8 0, .int .u8 0, .string ⟨#[]⟩, .int .u8 3, .int .u8 9, .int .u8 9, .int .i64 1, .int .u8 6, .int .u8 0, .int .u8 1, .string ⟨#[]⟩] 81)) w1.heap.size idolP) := by rw [← S9]; exact alloc_at _ _ _
  obtain ⟨z0, z1, z2, z3, z4, z5, z6, z7, z8⟩ := C1.cells
  have zf := fun i => C1.free i
  simp only [Hd.none] at z0 z1 z2 z3 z4 z5 z6 z7 z8
  unfold set9 idolH at hW9
  simp only [Nat.zero_add] at hW9
  have HW9 : Hid (W9 = _) := hW9
  clear C1 hW9 S9
  go_wp2
  rw [← HW9.out]
  obtain ⟨y0, y1, y2, y3, y4, y5, y6, y7, y8⟩ := HC9.out.cells
  unfold idolH at y0 y1 y2 y3 y4 y5 y6 y7
  simp only at y0 y1 y2 y3 y4 y5 y6 y7
  refine bodyPost_ret (v := cv idolH (.slice (some ⟨w1.heap.size, 0, none⟩) 2 2)) (by simp only [results, Try.results72]; simp [go_sem, cv, idolH, y0, y1, y2, y3, y4, y5, y6, y7, y8]) rfl ⟨_, rfl, Or.inr ⟨w1.heap.size, rfl, HP9.out, by omega⟩, HG9.out⟩
set_option maxRecDepth 100000 in
set_option maxHeartbeats 1000000 in
theorem taxMan_any (w : World) : Calls Try.prog 73 #[] w fun e w' => ∃ u, e = .returned (cv taxManH u) ∧ Own8 w.heap.size w' u taxManP ∧ w.grownBy w' none := by
  have A0 : CAt (w.alloc (.cells (ccs Hd.none (.slice none 0 0)) 47)) w.heap.size Hd.none (.slice none 0 0) := alloc_at _ _ _
  have HA0 : Hid (CAt (w.alloc (.cells (ccs Hd.none (.slice none 0 0)) 47)) w.heap.size Hd.none (.slice none 0 0)) := A0
  clear A0
  unfold ccs Hd.none at HA0
  go_enter Try.func73, Try.ntmps73
  go_wp2_with fail
  refine (value0 _).mono ?_
  rintro e w1 ⟨rfl, g1⟩
  go_wp2_with fail
  refine (value1 _).mono ?_
  rintro e w2 ⟨rfl, g2⟩
  go_wp2_with fail
  refine (value0 _).mono ?_
  rintro e w3 ⟨rfl, g3⟩
  have HG : Hid (w.grownBy w3 none) := grown_trans (World.grownBy_alloc _ _ none) (grown_trans (grown_trans g1 g2) g3)
  have C1 : CAt w3 w.heap.size Hd.none (.slice none 0 0) := CAt.keepR HA0.out (grown_trans (grown_trans g1 g2) g3) (by simp)
  have hlt := block_lt C1
  clear g1 g2 g3 HA0
  obtain ⟨W9, hW9⟩ : ∃ W9, W9 = set9 w3 w.heap.size 0 taxManH (.slice (some ⟨w3.heap.size, 0, none⟩) 2 2) := ⟨_, rfl⟩
  have S9 : W9.heap.size = w3.heap.size := by rw [hW9]; exact size_set9 _ _ _ _ _
  have HC9 : Hid (CAt (W9.alloc (.cells #[.int .u8 1, .int .u8 4, .int .u8 2, .int .i64 1, .int .u8 0, .int .u8 0, .int .u8 0, .string ⟨#[]⟩, .int .u8 3, .int .u8 5, .int .u8 1, .int .i64 1, .int .u8 0, .int .u8 0, .int .u8 0, .string ⟨#[]⟩] 81)) w.heap.size taxManH (.slice (some ⟨w3.heap.size, 0, none⟩) 2 2)) := by rw [hW9]; exact (C1.s9 _ _).keepR (World.grownBy_alloc _ _ none) (by simp)
  have HG9 : Hid (w.grownBy (W9.alloc (.cells #[.int .u8 1, .int .u8 4, .int .u8 2, .int .i64 1, .int .u8 0, .int .u8 0, .int .u8 0, .string ⟨#[]⟩, .int .u8 3, .int .u8 5, .int .u8 1, .int .i64 1, .int .u8 0, .int .u8 0, .int .u8 0, .string ⟨#[]⟩] 81)) none) := by rw [hW9]; exact grown_push (grown_own HG.out (grown_s9 _ _ _ _ _) (fun x e => by cases e; exact Nat.le_refl _)) _
  have HP9 : Hid (PB (W9.alloc (.cells #[.int .u8 1, .int .u8 4, .int .u8 2, .int .i64 1, .int .u8 0, .int .u8 0, .int .u8 0, .string ⟨#[]⟩, .int .u8 3, .int .u8 5, .int .u8 1, .int .i64 1, .int .u8 0, .int .u8 0, .int .u8 0, .string ⟨#[]⟩] 81)) w3.heap.size taxManP) := by rw [← S9]; exact alloc_at _ _ _
  obtain ⟨z0, z1, z2, z3, z4, z5, z6, z7, z8⟩ := C1.cells
  have zf := fun i => C1.free i
  simp only [Hd.none] at z0 z1 z2 z3 z4 z5 z6 z7 z8
  unfold set9 taxManH at hW9
  simp only [Nat.zero_add] at hW9
  have HW9 : Hid (W9 = _) := hW9
  clear C1 hW9 S9
  go_wp2
  rw [← HW9.out]
  obtain ⟨y0, y1, y2, y3, y4, y5, y6, y7, y8⟩ := HC9.out.cells
  unfold taxManH at y0 y1 y2 y3 y4 y5 y6 y7
  simp only at y0 y1 y2 y3 y4 y5 y6 y7
  refine bodyPost_ret (v := cv taxManH (.slice (some ⟨w3.heap.size, 0, none⟩) 2 2)) (by simp only [results, Try.results73]; simp [go_sem, cv, taxManH, y0, y1, y2, y3, y4, y5, y6, y7, y8]) rfl ⟨_, rfl, Or.inr ⟨w3.heap.size, rfl, HP9.out, by omega⟩, HG9.out⟩
set_option maxRecDepth 100000 in
set_option maxHeartbeats 1000000 in
theorem midas_any (w : World) : Calls Try.prog 74 #[] w fun e w' => ∃ u, e = .returned (cv midasH u) ∧ Own8 w.heap.size w' u midasP ∧ w.grownBy w' none := by
  have A0 : CAt (w.alloc (.cells (ccs Hd.none (.slice none 0 0)) 47)) w.heap.size Hd.none (.slice none 0 0) := alloc_at _ _ _
  have HA0 : Hid (CAt (w.alloc (.cells (ccs Hd.none (.slice none 0 0)) 47)) w.heap.size Hd.none (.slice none 0 0)) := A0
  clear A0
  unfold ccs Hd.none at HA0
  go_enter Try.func74, Try.ntmps74
  go_wp2_with fail
  refine (value2 _).mono ?_
  rintro e w1 ⟨rfl, g1⟩
  have HG : Hid (w.grownBy w1 none) := grown_trans (World.grownBy_alloc _ _ none) g1
  have C1 : CAt w1 w.heap.size Hd.none (.slice none 0 0) := CAt.keepR HA0.out g1 (by simp)
  have hlt := block_lt C1
  clear g1 HA0
  obtain ⟨W9, hW9⟩ : ∃ W9, W9 = set9 w1 w.heap.size 0 midasH (.slice (some ⟨w1.heap.size, 0, none⟩) 2 2) := ⟨_, rfl⟩
  have S9 : W9.heap.size = w1.heap.size := by rw [hW9]; exact size_set9 _ _ _ _ _
  have HC9 : Hid (CAt (W9.alloc (.cells #[.int .u8 5, .int .u8 11, .int .u8 7, .int .i64 0, .int .u8 6, .int .u8 0, .int .u8 0, .string ⟨#[]⟩, .int .u8 4, .int .u8 5, .int .u8 1, .int .i64 1, .int .u8 0, .int .u8 0, .int .u8 0, .string ⟨#[]⟩] 81)) w.heap.size midasH (.slice (some ⟨w1.heap.size, 0, none⟩) 2 2)) := by rw [hW9]; exact (C1.s9 _ _).keepR (World.grownBy_alloc _ _ none) (by simp)
  have HG9 : Hid (w.grownBy (W9.alloc (.cells #[.int .u8 5, .int .u8 11, .int .u8 7, .int .i64 0, .int .u8 6, .int .u8 0, .int .u8 0, .string ⟨#[]⟩, .int .u8 4, .int .u8 5, .int .u8 1, .int .i64 1, .int .u8 0, .int .u8 0, .int .u8 0, .string ⟨#[]⟩] 81)) none) := by rw [hW9]; exact grown_push (grown_own HG.out (grown_s9 _ _ _ _ _) (fun x e => by cases e; exact Nat.le_refl _)) _
  have HP9 : Hid (PB (W9.alloc (.cells #[.int .u8 5, .int .u8 11, .int .u8 7, .int .i64 0, .int .u8 6, .int .u8 0, .int .u8 0, .string ⟨#[]⟩, .int .u8 4, .int .u8 5, .int .u8 1, .int .i64 1, .int .u8 0, .int .u8 0, .int .u8 0, .string ⟨#[]⟩] 81)) w1.heap.size midasP) := by rw [← S9]; exact alloc_at _ _ _
  obtain ⟨z0, z1, z2, z3, z4, z5, z6, z7, z8⟩ := C1.cells
  have zf := fun i => C1.free i
  simp only [Hd.none] at z0 z1 z2 z3 z4 z5 z6 z7 z8
  unfold set9 midasH at hW9
  simp only [Nat.zero_add] at hW9
  have HW9 : Hid (W9 = _) := hW9
  clear C1 hW9 S9
  go_wp2
  rw [← HW9.out]
  obtain ⟨y0, y1, y2, y3, y4, y5, y6, y7, y8⟩ := HC9.out.cells
  unfold midasH at y0 y1 y2 y3 y4 y5 y6 y7
  simp only at y0 y1 y2 y3 y4 y5 y6 y7
  refine bodyPost_ret (v := cv midasH (.slice (some ⟨w1.heap.size, 0, none⟩) 2 2)) (by simp only [results, Try.results74]; simp [go_sem, cv, midasH, y0, y1, y2, y3, y4, y5, y6, y7, y8]) rfl ⟨_, rfl, Or.inr ⟨w1.heap.size, rfl, HP9.out, by omega⟩, HG9.out⟩
def specL : List (Hd × List Pt) := [(treasureH, treasureP), (coinH, coinP), (statueH, statueP), (idolH, idolP), (taxManH, taxManP), (midasH, midasP)]
def LIs (es : List Ent) (k : Nat) : Prop := es.map (fun e => (e.h, e.ps)) = specL.take k
theorem LIs.len {es : List Ent} {k : Nat} (h : LIs es k) (hk : k ≤ 6) : es.length = k := by
  have h0 := congrArg List.length h
  have hl : specL.length = 6 := rfl
  simp only [List.length_map, List.length_take, hl] at h0
  omega
theorem spec_four : ∀ x ∈ specL, x.2.length ≤ 4 := by decide +kernel
theorem LIs.four {es : List Ent} (h : LIs es 6) {e : Ent} (he : e ∈ es) : e.ps.length ≤ 4 := by
  unfold LIs at h
  have h1 : (e.h, e.ps) ∈ specL.take 6 := by rw [← h]; exact List.mem_map.2 ⟨e, he, rfl⟩
  exact spec_four _ (List.mem_of_mem_take h1)
end Go.Proofs.Ytpoicbefemjckaa
