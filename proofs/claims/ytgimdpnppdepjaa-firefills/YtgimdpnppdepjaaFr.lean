/-
  The cards of package fire: what each of the functions makes.
-/
import Derived.Test.YtgimdpnppdepjaaSuG
namespace Go.Proofs.Ytgimdpnppdepjaa
open Go.RowKit

set_option maxHeartbeats 1000000 in
theorem with0_1 (w : World) : Calls Try.prog 89 #[.int .u16 0, .int .u8 1] w fun e w' => e = .returned (.int .u16 1) ∧ w' = w := by
  have b : Calls Try.prog 103 #[.int .u8 1] w fun e w' => e = .returned (.int .u16 1) ∧ w' = w := by
    have i : Calls Try.prog 113 #[.int .u8 1] w fun e w' => e = .returned (.bool true) ∧ w' = w := by
      go_enter Try.func113, Try.ntmps113
      go_wp2
      go_ret
      exact ⟨rfl, rfl⟩
    go_enter Try.func103, Try.ntmps103
    go_wp2_with (go_at_call 113; refine i.mono ?_; rintro e w' ⟨rfl, rfl⟩)
    go_ret
    exact ⟨rfl, rfl⟩
  go_enter Try.func89, Try.ntmps89
  go_wp2_with (go_at_call 103; refine b.mono ?_; rintro e w' ⟨rfl, rfl⟩)
  go_ret
  exact ⟨rfl, rfl⟩
set_option maxHeartbeats 1000000 in
theorem with0_3 (w : World) : Calls Try.prog 89 #[.int .u16 0, .int .u8 3] w fun e w' => e = .returned (.int .u16 4) ∧ w' = w := by
  have b : Calls Try.prog 103 #[.int .u8 3] w fun e w' => e = .returned (.int .u16 4) ∧ w' = w := by
    have i : Calls Try.prog 113 #[.int .u8 3] w fun e w' => e = .returned (.bool true) ∧ w' = w := by
      go_enter Try.func113, Try.ntmps113
      go_wp2
      go_ret
      exact ⟨rfl, rfl⟩
    go_enter Try.func103, Try.ntmps103
    go_wp2_with (go_at_call 113; refine i.mono ?_; rintro e w' ⟨rfl, rfl⟩)
    go_ret
    exact ⟨rfl, rfl⟩
  go_enter Try.func89, Try.ntmps89
  go_wp2_with (go_at_call 103; refine b.mono ?_; rintro e w' ⟨rfl, rfl⟩)
  go_ret
  exact ⟨rfl, rfl⟩
set_option maxHeartbeats 1000000 in
theorem value0 (w : World) : Calls Try.prog 88 #[.int .i64 0] w fun e w' => e = .returned (.int .i64 3) ∧ w.grownBy w' none := by
  go_enter Try.func88, Try.ntmps88
  go_wp2_with fail
  refine (of_five 0 (by unfold Five; omega) _).mono ?_
  rintro e w1 ⟨rfl, g1⟩
  go_wp2
  go_ret
  exact ⟨rfl, g1⟩
set_option maxHeartbeats 1000000 in
theorem value1 (w : World) : Calls Try.prog 88 #[.int .i64 1] w fun e w' => e = .returned (.int .i64 2) ∧ w.grownBy w' none := by
  go_enter Try.func88, Try.ntmps88
  go_wp2_with fail
  refine (of_five 1 (by unfold Five; omega) _).mono ?_
  rintro e w1 ⟨rfl, g1⟩
  go_wp2
  go_ret
  exact ⟨rfl, g1⟩
set_option maxHeartbeats 1000000 in
theorem value2 (w : World) : Calls Try.prog 88 #[.int .i64 2] w fun e w' => e = .returned (.int .i64 7) ∧ w.grownBy w' none := by
  go_enter Try.func88, Try.ntmps88
  go_wp2_with fail
  refine (of_five 2 (by unfold Five; omega) _).mono ?_
  rintro e w1 ⟨rfl, g1⟩
  go_wp2
  go_ret
  exact ⟨rfl, g1⟩
def fireBoltH : Hd := ⟨⟨#[102, 105, 114, 101, 45, 98, 111, 108, 116]⟩, 3, 2, 2, 0, 0, 0, false⟩
def fireBoltP : List Pt := [⟨1, 1, 3, 3, 0, 0, 0, ⟨#[]⟩⟩]
def emberH : Hd := ⟨⟨#[101, 109, 98, 101, 114]⟩, 3, 1, 0, 1, 1, 1, true⟩
def emberP : List Pt := []
def salamanderH : Hd := ⟨⟨#[115, 97, 108, 97, 109, 97, 110, 100, 101, 114]⟩, 3, 1, 3, 3, 3, 4, false⟩
def salamanderP : List Pt := [⟨4, 9, 4, 1, 0, 0, 4, ⟨#[]⟩⟩]
def forgeH : Hd := ⟨⟨#[102, 111, 114, 103, 101]⟩, 3, 3, 4, 0, 0, 0, false⟩
def forgeP : List Pt := [⟨3, 7, 1, 1, 0, 0, 0, ⟨#[101, 109, 98, 101, 114]⟩⟩, ⟨6, 17, 2, 0, 0, 0, 0, ⟨#[]⟩⟩]
def wildFireH : Hd := ⟨⟨#[119, 105, 108, 100, 45, 102, 105, 114, 101]⟩, 3, 2, 6, 0, 0, 0, false⟩
def wildFireP : List Pt := [⟨1, 1, 7, 2, 0, 0, 0, ⟨#[]⟩⟩, ⟨1, 6, 10, 0, 0, 2, 0, ⟨#[]⟩⟩]
def phoenixH : Hd := ⟨⟨#[112, 104, 111, 101, 110, 105, 120]⟩, 3, 1, 5, 4, 2, 1, false⟩
def phoenixP : List Pt := [⟨2, 7, 1, 1, 0, 0, 0, ⟨#[101, 109, 98, 101, 114]⟩⟩, ⟨5, 14, 10, 1, 0, 2, 0, ⟨#[]⟩⟩]
set_option maxRecDepth 100000 in
set_option maxHeartbeats 1000000 in
theorem fireBolt_any (w : World) : Calls Try.prog 63 #[] w fun e w' => ∃ u, e = .returned (cv fireBoltH u) ∧ Own8 w.heap.size w' u fireBoltP ∧ w.grownBy w' none := by
  have A0 : CAt (w.alloc (.cells (ccs Hd.none (.slice none 0 0)) 47)) w.heap.size Hd.none (.slice none 0 0) := alloc_at _ _ _
  have HA0 : Hid (CAt (w.alloc (.cells (ccs Hd.none (.slice none 0 0)) 47)) w.heap.size Hd.none (.slice none 0 0)) := A0
  clear A0
  unfold ccs Hd.none at HA0
  go_enter Try.func63, Try.ntmps63
  go_wp2_with fail
  refine (value1 _).mono ?_
  rintro e w1 ⟨rfl, g1⟩
  have HG : Hid (w.grownBy w1 none) := grown_trans (World.grownBy_alloc _ _ none) g1
  have C1 : CAt w1 w.heap.size Hd.none (.slice none 0 0) := CAt.keepR HA0.out g1 (by simp)
  have hlt := block_lt C1
  clear g1 HA0
  obtain ⟨W9, hW9⟩ : ∃ W9, W9 = set9 w1 w.heap.size 0 fireBoltH (.slice (some ⟨w1.heap.size, 0, none⟩) 1 1) := ⟨_, rfl⟩
  have S9 : W9.heap.size = w1.heap.size := by rw [hW9]; exact size_set9 _ _ _ _ _
  have HC9 : Hid (CAt (W9.alloc (.cells #[.int .u8 1, .int .u8 1, .int .u8 3, .int .i64 3, .int .u8 0, .int .u8 0, .int .u8 0, .string ⟨#[]⟩] 83)) w.heap.size fireBoltH (.slice (some ⟨w1.heap.size, 0, none⟩) 1 1)) := by rw [hW9]; exact (C1.s9 _ _).keepR (World.grownBy_alloc _ _ none) (by simp)
  have HG9 : Hid (w.grownBy (W9.alloc (.cells #[.int .u8 1, .int .u8 1, .int .u8 3, .int .i64 3, .int .u8 0, .int .u8 0, .int .u8 0, .string ⟨#[]⟩] 83)) none) := by rw [hW9]; exact grown_push (grown_own HG.out (grown_s9 _ _ _ _ _) (fun x e => by cases e; exact Nat.le_refl _)) _
  have HP9 : Hid (PB (W9.alloc (.cells #[.int .u8 1, .int .u8 1, .int .u8 3, .int .i64 3, .int .u8 0, .int .u8 0, .int .u8 0, .string ⟨#[]⟩] 83)) w1.heap.size fireBoltP) := by rw [← S9]; exact alloc_at _ _ _
  obtain ⟨z0, z1, z2, z3, z4, z5, z6, z7, z8⟩ := C1.cells
  have zf := fun i => C1.free i
  simp only [Hd.none] at z0 z1 z2 z3 z4 z5 z6 z7 z8
  unfold set9 fireBoltH at hW9
  simp only [Nat.zero_add] at hW9
  have HW9 : Hid (W9 = _) := hW9
  clear C1 hW9 S9
  go_wp2
  rw [← HW9.out]
  obtain ⟨y0, y1, y2, y3, y4, y5, y6, y7, y8⟩ := HC9.out.cells
  unfold fireBoltH at y0 y1 y2 y3 y4 y5 y6 y7
  simp only at y0 y1 y2 y3 y4 y5 y6 y7
  refine bodyPost_ret (v := cv fireBoltH (.slice (some ⟨w1.heap.size, 0, none⟩) 1 1)) (by simp only [results, Try.results63]; simp [go_sem, cv, fireBoltH, y0, y1, y2, y3, y4, y5, y6, y7, y8]) rfl ⟨_, rfl, Or.inr ⟨w1.heap.size, rfl, HP9.out, by omega⟩, HG9.out⟩
set_option maxRecDepth 100000 in
set_option maxHeartbeats 1000000 in
theorem ember_any (w : World) : Calls Try.prog 64 #[] w fun e w' => ∃ u, e = .returned (cv emberH u) ∧ Own8 w.heap.size w' u emberP ∧ w.grownBy w' none := by
  have A0 : CAt (w.alloc (.cells (ccs Hd.none (.slice none 0 0)) 47)) w.heap.size Hd.none (.slice none 0 0) := alloc_at _ _ _
  have HA0 : Hid (CAt (w.alloc (.cells (ccs Hd.none (.slice none 0 0)) 47)) w.heap.size Hd.none (.slice none 0 0)) := A0
  clear A0
  unfold ccs Hd.none at HA0
  go_enter Try.func64, Try.ntmps64
  go_wp2_with fail
  refine (with0_1 _).mono ?_
  rintro e w1 ⟨rfl, h1⟩
  obtain ⟨w0, hw0⟩ : ∃ w0, w0 = w1 := ⟨_, rfl⟩
  have g1 : (w.alloc (.cells #[.string ⟨#[]⟩, .int .u8 0, .int .u8 0, .int .i64 0, .int .i64 0, .int .i64 0, .int .u16 0, .bool false, .slice none 0 0] 47)).grownBy w1 none := h1 ▸ grown_refl _ _
  clear h1 hw0 w0
  have HG : Hid (w.grownBy w1 none) := grown_trans (World.grownBy_alloc _ _ none) g1
  have C1 : CAt w1 w.heap.size Hd.none (.slice none 0 0) := CAt.keepR HA0.out g1 (by simp)
  have hlt := block_lt C1
  clear g1 HA0
  obtain ⟨z0, z1, z2, z3, z4, z5, z6, z7, z8⟩ := C1.cells
  have zf := fun i => C1.free i
  simp only [Hd.none] at z0 z1 z2 z3 z4 z5 z6 z7 z8
  go_wp2
  refine bodyPost_ret (v := cv emberH (.slice none 0 0)) (by simp [results, Try.results64, go_sem, cv, emberH, z0, z1, z2, z3, z4, z5, z6, z7, z8]) rfl ⟨_, rfl, Or.inl ⟨rfl, rfl⟩, ?_⟩
  have h9 := grown_own HG.out (grown_s9 w1 w.heap.size 0 emberH (.slice none 0 0)) (fun x e => by cases e; exact Nat.le_refl _)
  unfold set9 emberH at h9
  simp only [Nat.zero_add] at h9
  exact h9
set_option maxRecDepth 100000 in
set_option maxHeartbeats 1000000 in
theorem salamander_any (w : World) : Calls Try.prog 65 #[] w fun e w' => ∃ u, e = .returned (cv salamanderH u) ∧ Own8 w.heap.size w' u salamanderP ∧ w.grownBy w' none := by
  have A0 : CAt (w.alloc (.cells (ccs Hd.none (.slice none 0 0)) 47)) w.heap.size Hd.none (.slice none 0 0) := alloc_at _ _ _
  have HA0 : Hid (CAt (w.alloc (.cells (ccs Hd.none (.slice none 0 0)) 47)) w.heap.size Hd.none (.slice none 0 0)) := A0
  clear A0
  unfold ccs Hd.none at HA0
  go_enter Try.func65, Try.ntmps65
  go_wp2_with fail
  refine (value0 _).mono ?_
  rintro e w1 ⟨rfl, g1⟩
  go_wp2_with fail
  refine (value0 _).mono ?_
  rintro e w2 ⟨rfl, g2⟩
  go_wp2_with fail
  refine (value0 _).mono ?_
  rintro e w3 ⟨rfl, g3⟩
  go_wp2_with fail
  refine (with0_3 _).mono ?_
  rintro e w4 ⟨rfl, h4⟩
  have g4 : World.grownBy w3 w4 none := h4 ▸ grown_refl _ _
  clear h4
  have HG : Hid (w.grownBy w4 none) := grown_trans (World.grownBy_alloc _ _ none) (grown_trans (grown_trans (grown_trans g1 g2) g3) g4)
  have C1 : CAt w4 w.heap.size Hd.none (.slice none 0 0) := CAt.keepR HA0.out (grown_trans (grown_trans (grown_trans g1 g2) g3) g4) (by simp)
  have hlt := block_lt C1
  clear g1 g2 g3 g4 HA0
  obtain ⟨W9, hW9⟩ : ∃ W9, W9 = set9 w4 w.heap.size 0 salamanderH (.slice (some ⟨w4.heap.size, 0, none⟩) 1 1) := ⟨_, rfl⟩
  have S9 : W9.heap.size = w4.heap.size := by rw [hW9]; exact size_set9 _ _ _ _ _
  have HC9 : Hid (CAt (W9.alloc (.cells #[.int .u8 4, .int .u8 9, .int .u8 4, .int .i64 1, .int .u8 0, .int .u8 0, .int .u8 4, .string ⟨#[]⟩] 83)) w.heap.size salamanderH (.slice (some ⟨w4.heap.size, 0, none⟩) 1 1)) := by rw [hW9]; exact (C1.s9 _ _).keepR (World.grownBy_alloc _ _ none) (by simp)
  have HG9 : Hid (w.grownBy (W9.alloc (.cells #[.int .u8 4, .int .u8 9, .int .u8 4, .int .i64 1, .int .u8 0, .int .u8 0, .int .u8 4, .string ⟨#[]⟩] 83)) none) := by rw [hW9]; exact grown_push (grown_own HG.out (grown_s9 _ _ _ _ _) (fun x e => by cases e; exact Nat.le_refl _)) _
  have HP9 : Hid (PB (W9.alloc (.cells #[.int .u8 4, .int .u8 9, .int .u8 4, .int .i64 1, .int .u8 0, .int .u8 0, .int .u8 4, .string ⟨#[]⟩] 83)) w4.heap.size salamanderP) := by rw [← S9]; exact alloc_at _ _ _
  obtain ⟨z0, z1, z2, z3, z4, z5, z6, z7, z8⟩ := C1.cells
  have zf := fun i => C1.free i
  simp only [Hd.none] at z0 z1 z2 z3 z4 z5 z6 z7 z8
  unfold set9 salamanderH at hW9
  simp only [Nat.zero_add] at hW9
  have HW9 : Hid (W9 = _) := hW9
  clear C1 hW9 S9
  go_wp2
  rw [← HW9.out]
  obtain ⟨y0, y1, y2, y3, y4, y5, y6, y7, y8⟩ := HC9.out.cells
  unfold salamanderH at y0 y1 y2 y3 y4 y5 y6 y7
  simp only at y0 y1 y2 y3 y4 y5 y6 y7
  refine bodyPost_ret (v := cv salamanderH (.slice (some ⟨w4.heap.size, 0, none⟩) 1 1)) (by simp only [results, Try.results65]; simp [go_sem, cv, salamanderH, y0, y1, y2, y3, y4, y5, y6, y7, y8]) rfl ⟨_, rfl, Or.inr ⟨w4.heap.size, rfl, HP9.out, by omega⟩, HG9.out⟩
set_option maxRecDepth 100000 in
set_option maxHeartbeats 1000000 in
theorem forge_any (w : World) : Calls Try.prog 66 #[] w fun e w' => ∃ u, e = .returned (cv forgeH u) ∧ Own8 w.heap.size w' u forgeP ∧ w.grownBy w' none := by
  have A0 : CAt (w.alloc (.cells (ccs Hd.none (.slice none 0 0)) 47)) w.heap.size Hd.none (.slice none 0 0) := alloc_at _ _ _
  have HA0 : Hid (CAt (w.alloc (.cells (ccs Hd.none (.slice none 0 0)) 47)) w.heap.size Hd.none (.slice none 0 0)) := A0
  clear A0
  go_enter Try.func66, Try.ntmps66
  go_wp2
  have A : (World.alloc (World.alloc w (Obj.cells (ccs forgeH (.slice (some ⟨w.heap.size + 1, 0, none⟩) 2 2)) 47)) (Obj.cells #[.int .u8 3, .int .u8 7, .int .u8 1, .int .i64 1, .int .u8 0, .int .u8 0, .int .u8 0, .string ⟨#[101, 109, 98, 101, 114]⟩, .int .u8 6, .int .u8 17, .int .u8 2, .int .i64 0, .int .u8 0, .int .u8 0, .int .u8 0, .string ⟨#[]⟩] 83)).heap[w.heap.size + 1]? = some (.cells #[.int .u8 3, .int .u8 7, .int .u8 1, .int .i64 1, .int .u8 0, .int .u8 0, .int .u8 0, .string ⟨#[101, 109, 98, 101, 114]⟩, .int .u8 6, .int .u8 17, .int .u8 2, .int .i64 0, .int .u8 0, .int .u8 0, .int .u8 0, .string ⟨#[]⟩] 83 (0, 0)) := by
    have h0 := alloc_at (World.alloc w (Obj.cells (ccs forgeH (.slice (some ⟨w.heap.size + 1, 0, none⟩) 2 2)) 47)) #[.int .u8 3, .int .u8 7, .int .u8 1, .int .i64 1, .int .u8 0, .int .u8 0, .int .u8 0, .string ⟨#[101, 109, 98, 101, 114]⟩, .int .u8 6, .int .u8 17, .int .u8 2, .int .i64 0, .int .u8 0, .int .u8 0, .int .u8 0, .string ⟨#[]⟩] 83
    rw [World.size_alloc] at h0
    exact h0
  refine bodyPost_ret (v := cv forgeH (.slice (some ⟨w.heap.size + 1, 0, none⟩) 2 2)) (by simp [results, Try.results66, go_sem, cv, forgeH]) rfl ⟨_, rfl, Or.inr ⟨w.heap.size + 1, rfl, A, by omega⟩, grown_push (World.grownBy_alloc _ _ none) _⟩
set_option maxRecDepth 100000 in
set_option maxHeartbeats 1000000 in
theorem wildFire_any (w : World) : Calls Try.prog 67 #[] w fun e w' => ∃ u, e = .returned (cv wildFireH u) ∧ Own8 w.heap.size w' u wildFireP ∧ w.grownBy w' none := by
  have A0 : CAt (w.alloc (.cells (ccs Hd.none (.slice none 0 0)) 47)) w.heap.size Hd.none (.slice none 0 0) := alloc_at _ _ _
  have HA0 : Hid (CAt (w.alloc (.cells (ccs Hd.none (.slice none 0 0)) 47)) w.heap.size Hd.none (.slice none 0 0)) := A0
  clear A0
  unfold ccs Hd.none at HA0
  go_enter Try.func67, Try.ntmps67
  go_wp2_with fail
  refine (value2 _).mono ?_
  rintro e w1 ⟨rfl, g1⟩
  have HG : Hid (w.grownBy w1 none) := grown_trans (World.grownBy_alloc _ _ none) g1
  have C1 : CAt w1 w.heap.size Hd.none (.slice none 0 0) := CAt.keepR HA0.out g1 (by simp)
  have hlt := block_lt C1
  clear g1 HA0
  obtain ⟨W9, hW9⟩ : ∃ W9, W9 = set9 w1 w.heap.size 0 wildFireH (.slice (some ⟨w1.heap.size, 0, none⟩) 2 2) := ⟨_, rfl⟩
  have S9 : W9.heap.size = w1.heap.size := by rw [hW9]; exact size_set9 _ _ _ _ _
  have HC9 : Hid (CAt (W9.alloc (.cells #[.int .u8 1, .int .u8 1, .int .u8 7, .int .i64 2, .int .u8 0, .int .u8 0, .int .u8 0, .string ⟨#[]⟩, .int .u8 1, .int .u8 6, .int .u8 10, .int .i64 0, .int .u8 0, .int .u8 2, .int .u8 0, .string ⟨#[]⟩] 83)) w.heap.size wildFireH (.slice (some ⟨w1.heap.size, 0, none⟩) 2 2)) := by rw [hW9]; exact (C1.s9 _ _).keepR (World.grownBy_alloc _ _ none) (by simp)
  have HG9 : Hid (w.grownBy (W9.alloc (.cells #[.int .u8 1, .int .u8 1, .int .u8 7, .int .i64 2, .int .u8 0, .int .u8 0, .int .u8 0, .string ⟨#[]⟩, .int .u8 1, .int .u8 6, .int .u8 10, .int .i64 0, .int .u8 0, .int .u8 2, .int .u8 0, .string ⟨#[]⟩] 83)) none) := by rw [hW9]; exact grown_push (grown_own HG.out (grown_s9 _ _ _ _ _) (fun x e => by cases e; exact Nat.le_refl _)) _
  have HP9 : Hid (PB (W9.alloc (.cells #[.int .u8 1, .int .u8 1, .int .u8 7, .int .i64 2, .int .u8 0, .int .u8 0, .int .u8 0, .string ⟨#[]⟩, .int .u8 1, .int .u8 6, .int .u8 10, .int .i64 0, .int .u8 0, .int .u8 2, .int .u8 0, .string ⟨#[]⟩] 83)) w1.heap.size wildFireP) := by rw [← S9]; exact alloc_at _ _ _
  obtain ⟨z0, z1, z2, z3, z4, z5, z6, z7, z8⟩ := C1.cells
  have zf := fun i => C1.free i
  simp only [Hd.none] at z0 z1 z2 z3 z4 z5 z6 z7 z8
  unfold set9 wildFireH at hW9
  simp only [Nat.zero_add] at hW9
  have HW9 : Hid (W9 = _) := hW9
  clear C1 hW9 S9
  go_wp2
  rw [← HW9.out]
  obtain ⟨y0, y1, y2, y3, y4, y5, y6, y7, y8⟩ := HC9.out.cells
  unfold wildFireH at y0 y1 y2 y3 y4 y5 y6 y7
  simp only at y0 y1 y2 y3 y4 y5 y6 y7
  refine bodyPost_ret (v := cv wildFireH (.slice (some ⟨w1.heap.size, 0, none⟩) 2 2)) (by simp only [results, Try.results67]; simp [go_sem, cv, wildFireH, y0, y1, y2, y3, y4, y5, y6, y7, y8]) rfl ⟨_, rfl, Or.inr ⟨w1.heap.size, rfl, HP9.out, by omega⟩, HG9.out⟩
set_option maxRecDepth 100000 in
set_option maxHeartbeats 1000000 in
theorem phoenix_any (w : World) : Calls Try.prog 68 #[] w fun e w' => ∃ u, e = .returned (cv phoenixH u) ∧ Own8 w.heap.size w' u phoenixP ∧ w.grownBy w' none := by
  have A0 : CAt (w.alloc (.cells (ccs Hd.none (.slice none 0 0)) 47)) w.heap.size Hd.none (.slice none 0 0) := alloc_at _ _ _
  have HA0 : Hid (CAt (w.alloc (.cells (ccs Hd.none (.slice none 0 0)) 47)) w.heap.size Hd.none (.slice none 0 0)) := A0
  clear A0
  unfold ccs Hd.none at HA0
  go_enter Try.func68, Try.ntmps68
  go_wp2_with fail
  refine (value1 _).mono ?_
  rintro e w1 ⟨rfl, g1⟩
  go_wp2_with fail
  refine (with0_1 _).mono ?_
  rintro e w2 ⟨rfl, h2⟩
  have g2 : World.grownBy w1 w2 none := h2 ▸ grown_refl _ _
  clear h2
  have HG : Hid (w.grownBy w2 none) := grown_trans (World.grownBy_alloc _ _ none) (grown_trans g1 g2)
  have C1 : CAt w2 w.heap.size Hd.none (.slice none 0 0) := CAt.keepR HA0.out (grown_trans g1 g2) (by simp)
  have hlt := block_lt C1
  clear g1 g2 HA0
  obtain ⟨W9, hW9⟩ : ∃ W9, W9 = set9 w2 w.heap.size 0 phoenixH (.slice (some ⟨w2.heap.size, 0, none⟩) 2 2) := ⟨_, rfl⟩
  have S9 : W9.heap.size = w2.heap.size := by rw [hW9]; exact size_set9 _ _ _ _ _
  have HC9 : Hid (CAt (W9.alloc (.cells #[.int .u8 2, .int .u8 7, .int .u8 1, .int .i64 1, .int .u8 0, .int .u8 0, .int .u8 0, .string ⟨#[101, 109, 98, 101, 114]⟩, .int .u8 5, .int .u8 14, .int .u8 10, .int .i64 1, .int .u8 0, .int .u8 2, .int .u8 0, .string ⟨#[]⟩] 83)) w.heap.size phoenixH (.slice (some ⟨w2.heap.size, 0, none⟩) 2 2)) := by rw [hW9]; exact (C1.s9 _ _).keepR (World.grownBy_alloc _ _ none) (by simp)
  have HG9 : Hid (w.grownBy (W9.alloc (.cells #[.int .u8 2, .int .u8 7, .int .u8 1, .int .i64 1, .int .u8 0, .int .u8 0, .int .u8 0, .string ⟨#[101, 109, 98, 101, 114]⟩, .int .u8 5, .int .u8 14, .int .u8 10, .int .i64 1, .int .u8 0, .int .u8 2, .int .u8 0, .string ⟨#[]⟩] 83)) none) := by rw [hW9]; exact grown_push (grown_own HG.out (grown_s9 _ _ _ _ _) (fun x e => by cases e; exact Nat.le_refl _)) _
  have HP9 : Hid (PB (W9.alloc (.cells #[.int .u8 2, .int .u8 7, .int .u8 1, .int .i64 1, .int .u8 0, .int .u8 0, .int .u8 0, .string ⟨#[101, 109, 98, 101, 114]⟩, .int .u8 5, .int .u8 14, .int .u8 10, .int .i64 1, .int .u8 0, .int .u8 2, .int .u8 0, .string ⟨#[]⟩] 83)) w2.heap.size phoenixP) := by rw [← S9]; exact alloc_at _ _ _
  obtain ⟨z0, z1, z2, z3, z4, z5, z6, z7, z8⟩ := C1.cells
  have zf := fun i => C1.free i
  simp only [Hd.none] at z0 z1 z2 z3 z4 z5 z6 z7 z8
  unfold set9 phoenixH at hW9
  simp only [Nat.zero_add] at hW9
  have HW9 : Hid (W9 = _) := hW9
  clear C1 hW9 S9
  go_wp2
  rw [← HW9.out]
  obtain ⟨y0, y1, y2, y3, y4, y5, y6, y7, y8⟩ := HC9.out.cells
  unfold phoenixH at y0 y1 y2 y3 y4 y5 y6 y7
  simp only at y0 y1 y2 y3 y4 y5 y6 y7
  refine bodyPost_ret (v := cv phoenixH (.slice (some ⟨w2.heap.size, 0, none⟩) 2 2)) (by simp only [results, Try.results68]; simp [go_sem, cv, phoenixH, y0, y1, y2, y3, y4, y5, y6, y7, y8]) rfl ⟨_, rfl, Or.inr ⟨w2.heap.size, rfl, HP9.out, by omega⟩, HG9.out⟩
def specL : List (Hd × List Pt) := [(fireBoltH, fireBoltP), (emberH, emberP), (salamanderH, salamanderP), (forgeH, forgeP), (wildFireH, wildFireP), (phoenixH, phoenixP)]
def LIs (es : List Ent) (k : Nat) : Prop := es.map (fun e => (e.h, e.ps)) = specL.take k
theorem LIs.len {es : List Ent} {k : Nat} (h : LIs es k) (hk : k ≤ 6) : es.length = k := by
  have h0 := congrArg List.length h
  have hl : specL.length = 6 := rfl
  simp only [List.length_map, List.length_take, hl] at h0
  omega
theorem spec_four : ∀ x ∈ specL, x.2.length ≤ 4 := by decide +kernel
theorem LIs.four {es : List Ent} (h : LIs es 6) {e : Ent} (he : e ∈ es) : e.ps.length ≤ 4 := by
  unfold LIs at h
  have h1 : (e.h, e.ps) ∈ specL.take 6 := by rw [← h]; exact List.mem_map.2 ⟨e, he, rfl⟩
  exact spec_four _ (List.mem_of_mem_take h1)
end Go.Proofs.Ytgimdpnppdepjaa
