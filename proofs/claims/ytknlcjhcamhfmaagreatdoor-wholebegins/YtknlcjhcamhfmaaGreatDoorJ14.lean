/-
  Cards of a suit, in general: parts in a block of their own, lists of cards whose parts lie apart.
  The cards of package air: what each of the functions makes.
  A List of a suit's cards, whichever the suit: in a block of its own; the cards' parts in blocks of theirs.
  The list of the cards of package air: in a block of its own, its cards' parts in blocks of theirs.
  Package air: Traits, Marks.
-/
import Derived.Test.YtknlcjhcamhfmaaGreatDoorJ13
import Derived.Laws.MakeOwn
import Derived.OwnWalk
namespace Go.Proofs.YtknlcjhcamhfmaaGreatDoor
open Go.RowKit

theorem size_set9 (w : World) (b o : Nat) (h : Hd) (v : Value) : (set9 w b o h v).heap.size = w.heap.size := by unfold set9; simp
/-- Parts in a block of their own. -/
def PB (w : World) (g : Nat) (ps : List Pt) : Prop := w.heap[g]? = some (.cells (pcells ps).toArray 115 (0, 0))
/-- Where the parts of a card lie: nowhere, or in a new block of their own. -/
def Own8 (base : Nat) (w : World) (v : Value) (ps : List Pt) : Prop := (v = .slice none 0 0 ∧ ps = []) ∨ ∃ g, v = .slice (some ⟨g, 0, none⟩) ps.length ps.length ∧ PB w g ps ∧ base ≤ g
theorem Own8.at {base : Nat} {w : World} {v : Value} {ps : List Pt} (h : Own8 base w v ps) : PsAt w v ps := by
  rcases h with h | ⟨g, rfl, h, _⟩
  · exact Or.inl h
  · refine Or.inr ⟨⟨g, 0, none⟩, _, rfl, Nat.le_refl _, fun j u hu => ?_⟩
    rw [add_plain, block_cell h, Nat.zero_add]
    simpa using hu
theorem Own8.keepR {base : Nat} {w w' : World} {v : Value} {ps : List Pt} {r : Option Nat} (h : Own8 base w v ps) (g : w.grownBy w' r) (hr : ∀ k, base ≤ k → some k ≠ r) : Own8 base w' v ps := by
  rcases h with h | ⟨b, e, h, hb⟩
  · exact Or.inl h
  · exact Or.inr ⟨b, e, grown_keep g h (hr b hb), hb⟩
theorem Own8.keep {base : Nat} {w w' : World} {v : Value} {ps : List Pt} (h : Own8 base w v ps) (g : w.grownBy w' none) : Own8 base w' v ps := h.keepR g (by simp)
theorem Own8.low {base base' : Nat} {w : World} {v : Value} {ps : List Pt} (h : Own8 base w v ps) (hb : base' ≤ base) : Own8 base' w v ps := by
  rcases h with h | ⟨b, e, h, k⟩
  · exact Or.inl h
  · exact Or.inr ⟨b, e, h, Nat.le_trans hb k⟩
theorem Own8.block {base : Nat} {w : World} {v : Value} {ps : List Pt} (h : Own8 base w v ps) : ∀ k, v.ownBlock = some k → base ≤ k ∧ k < w.heap.size := by
  rcases h with ⟨rfl, _⟩ | ⟨b, rfl, h, k⟩
  · intro k hk; cases hk
  · intro k' hk; cases hk; exact ⟨k, block_lt h⟩
/-- Cards, each with parts in memory of its own, all of it new since base. -/
structure LOwn (base : Nat) (w : World) (es : List Ent) : Prop where
  own : ∀ e ∈ es, Own8 base w e.v e.ps
  nod : (es.filterMap fun e => e.v.ownBlock).Nodup
theorem LOwn.keepR {base : Nat} {w w' : World} {es : List Ent} {r : Option Nat} (h : LOwn base w es) (g : w.grownBy w' r) (hr : ∀ k, base ≤ k → some k ≠ r) : LOwn base w' es := ⟨fun e he => (h.own e he).keepR g hr, h.nod⟩
theorem LOwn.keep {base : Nat} {w w' : World} {es : List Ent} (h : LOwn base w es) (g : w.grownBy w' none) : LOwn base w' es := h.keepR g (by simp)
theorem LOwn.low {base base' : Nat} {w : World} {es : List Ent} (h : LOwn base w es) (hb : base' ≤ base) : LOwn base' w es := ⟨fun e he => (h.own e he).low hb, h.nod⟩
theorem LOwn.nil (base : Nat) (w : World) : LOwn base w [] := ⟨fun e he => by simp at he, List.nodup_nil⟩
theorem LOwn.snoc {base : Nat} {w w' : World} {es : List Ent} (h : LOwn base w es) (g : w.grownBy w' none) (hb : base ≤ w.heap.size) {x : Hd} {u : Value} {ps : List Pt} (k : Own8 w.heap.size w' u ps) : LOwn base w' (es ++ [⟨x, u, ps⟩]) := by
  refine ⟨fun e he => ?_, ?_⟩
  · rcases List.mem_append.1 he with he | he
    · exact (h.own e he).keep g
    · obtain rfl : e = ⟨x, u, ps⟩ := by simpa using he
      exact k.low hb
  · rw [List.filterMap_append, List.nodup_append]
    refine ⟨h.nod, ?_, ?_⟩
    · cases hu : u.ownBlock with
      | none => simp [hu]
      | some b => simp [hu]
    · intro a ha b hb2
      obtain ⟨e, he, hea⟩ := List.mem_filterMap.1 ha
      have h1 := ((h.own e he).block a hea).2
      obtain ⟨e', he', hb3⟩ := List.mem_filterMap.1 hb2
      obtain rfl : e' = ⟨x, u, ps⟩ := by simpa using he'
      have h2 := (k.block b hb3).1
      omega
theorem noCards_succ (k : Nat) : noCards (k + 1) = cvs Hd.none (.slice none 0 0) ++ noCards k := rfl
theorem noCards_len : ∀ k, (noCards k).length = k * 9
  | 0 => rfl
  | k + 1 => by rw [noCards_succ, List.length_append, noCards_len k]; simp only [cvs, List.length_cons, List.length_nil]; omega
end Go.Proofs.YtknlcjhcamhfmaaGreatDoor
namespace Go.Proofs.YtknlcjhcamhfmaaGreatDoor.Ai
open Go.RowKit

set_option maxHeartbeats 1000000 in
theorem with0_1 (w : World) : Calls Tryz.prog 211 #[.int .u16 0, .int .u8 1] w fun e w' => e = .returned (.int .u16 1) ∧ w' = w := by
  have b : Calls Tryz.prog 266 #[.int .u8 1] w fun e w' => e = .returned (.int .u16 1) ∧ w' = w := by
    have i : Calls Tryz.prog 241 #[.int .u8 1] w fun e w' => e = .returned (.bool true) ∧ w' = w := by
      go_enter Tryz.func241, Tryz.ntmps241
      go_wp2
      go_ret
      exact ⟨rfl, rfl⟩
    go_enter Tryz.func266, Tryz.ntmps266
    go_wp2_with (go_at_call 241; refine i.mono ?_; rintro e w' ⟨rfl, rfl⟩)
    go_ret
    exact ⟨rfl, rfl⟩
  go_enter Tryz.func211, Tryz.ntmps211
  go_wp2_with (go_at_call 266; refine b.mono ?_; rintro e w' ⟨rfl, rfl⟩)
  go_ret
  exact ⟨rfl, rfl⟩
set_option maxHeartbeats 1000000 in
theorem with0_8 (w : World) : Calls Tryz.prog 211 #[.int .u16 0, .int .u8 8] w fun e w' => e = .returned (.int .u16 128) ∧ w' = w := by
  have b : Calls Tryz.prog 266 #[.int .u8 8] w fun e w' => e = .returned (.int .u16 128) ∧ w' = w := by
    have i : Calls Tryz.prog 241 #[.int .u8 8] w fun e w' => e = .returned (.bool true) ∧ w' = w := by
      go_enter Tryz.func241, Tryz.ntmps241
      go_wp2
      go_ret
      exact ⟨rfl, rfl⟩
    go_enter Tryz.func266, Tryz.ntmps266
    go_wp2_with (go_at_call 241; refine i.mono ?_; rintro e w' ⟨rfl, rfl⟩)
    go_ret
    exact ⟨rfl, rfl⟩
  go_enter Tryz.func211, Tryz.ntmps211
  go_wp2_with (go_at_call 266; refine b.mono ?_; rintro e w' ⟨rfl, rfl⟩)
  go_ret
  exact ⟨rfl, rfl⟩
set_option maxHeartbeats 1000000 in
theorem value0 (w : World) : Calls Tryz.prog 260 #[.int .i64 0] w fun e w' => e = .returned (.int .i64 3) ∧ w.grownBy w' none := by
  go_enter Tryz.func260, Tryz.ntmps260
  go_wp2_with fail
  refine (of_five 0 (by unfold Five; omega) _).mono ?_
  rintro e w1 ⟨rfl, g1⟩
  go_wp2
  go_ret
  exact ⟨rfl, g1⟩
set_option maxHeartbeats 1000000 in
theorem value1 (w : World) : Calls Tryz.prog 260 #[.int .i64 1] w fun e w' => e = .returned (.int .i64 2) ∧ w.grownBy w' none := by
  go_enter Tryz.func260, Tryz.ntmps260
  go_wp2_with fail
  refine (of_five 1 (by unfold Five; omega) _).mono ?_
  rintro e w1 ⟨rfl, g1⟩
  go_wp2
  go_ret
  exact ⟨rfl, g1⟩
def breezeH : Hd := ⟨⟨#[98, 114, 101, 101, 122, 101]⟩, 1, 2, 2, 0, 0, 0, false⟩
def breezeP : List Pt := [⟨1, 8, 3, 0, 0, 0, 0, ⟨#[]⟩⟩, ⟨1, 3, 1, 1, 0, 0, 0, ⟨#[]⟩⟩]
def wispH : Hd := ⟨⟨#[119, 105, 115, 112]⟩, 1, 1, 0, 1, 1, 1, true⟩
def wispP : List Pt := []
def kiteH : Hd := ⟨⟨#[107, 105, 116, 101]⟩, 1, 1, 2, 2, 1, 1, false⟩
def kiteP : List Pt := [⟨4, 3, 1, 1, 0, 0, 0, ⟨#[]⟩⟩]
def swiftWingH : Hd := ⟨⟨#[115, 119, 105, 102, 116, 45, 119, 105, 110, 103]⟩, 1, 1, 3, 2, 3, 128, false⟩
def swiftWingP : List Pt := [⟨5, 12, 8, 0, 0, 1, 0, ⟨#[]⟩⟩]
def flockH : Hd := ⟨⟨#[102, 108, 111, 99, 107]⟩, 1, 1, 4, 1, 4, 0, false⟩
def flockP : List Pt := [⟨1, 7, 1, 2, 0, 0, 0, ⟨#[119, 105, 115, 112]⟩⟩, ⟨5, 15, 9, 1, 1, 0, 0, ⟨#[]⟩⟩]
def calmH : Hd := ⟨⟨#[99, 97, 108, 109]⟩, 1, 3, 3, 0, 0, 0, false⟩
def calmP : List Pt := [⟨6, 16, 1, 1, 0, 0, 0, ⟨#[]⟩⟩, ⟨3, 2, 1, 1, 0, 0, 0, ⟨#[]⟩⟩]
set_option maxRecDepth 100000 in
set_option maxHeartbeats 1000000 in
theorem breeze_any (w : World) : Calls Tryz.prog 204 #[] w fun e w' => ∃ u, e = .returned (cv breezeH u) ∧ Own8 w.heap.size w' u breezeP ∧ w.grownBy w' none := by
  have A0 : CAt (w.alloc (.cells (ccs Hd.none (.slice none 0 0)) 56)) w.heap.size Hd.none (.slice none 0 0) := alloc_at _ _ _
  have HA0 : Hid (CAt (w.alloc (.cells (ccs Hd.none (.slice none 0 0)) 56)) w.heap.size Hd.none (.slice none 0 0)) := A0
  clear A0
  unfold ccs Hd.none at HA0
  go_enter Tryz.func204, Tryz.ntmps204
  go_wp2_with fail
  refine (value1 _).mono ?_
  rintro e w1 ⟨rfl, g1⟩
  have HG : Hid (w.grownBy w1 none) := grown_trans (World.grownBy_alloc _ _ none) g1
  have C1 : CAt w1 w.heap.size Hd.none (.slice none 0 0) := CAt.keepR HA0.out g1 (by simp)
  have hlt := block_lt C1
  clear g1 HA0
  obtain ⟨W9, hW9⟩ : ∃ W9, W9 = set9 w1 w.heap.size 0 breezeH (.slice (some ⟨w1.heap.size, 0, none⟩) 2 2) := ⟨_, rfl⟩
  have S9 : W9.heap.size = w1.heap.size := by rw [hW9]; exact size_set9 _ _ _ _ _
  have HC9 : Hid (CAt (W9.alloc (.cells #[.int .u8 1, .int .u8 8, .int .u8 3, .int .i64 0, .int .u8 0, .int .u8 0, .int .u8 0, .string ⟨#[]⟩, .int .u8 1, .int .u8 3, .int .u8 1, .int .i64 1, .int .u8 0, .int .u8 0, .int .u8 0, .string ⟨#[]⟩] 115)) w.heap.size breezeH (.slice (some ⟨w1.heap.size, 0, none⟩) 2 2)) := by rw [hW9]; exact (C1.s9 _ _).keepR (World.grownBy_alloc _ _ none) (by simp)
  have HG9 : Hid (w.grownBy (W9.alloc (.cells #[.int .u8 1, .int .u8 8, .int .u8 3, .int .i64 0, .int .u8 0, .int .u8 0, .int .u8 0, .string ⟨#[]⟩, .int .u8 1, .int .u8 3, .int .u8 1, .int .i64 1, .int .u8 0, .int .u8 0, .int .u8 0, .string ⟨#[]⟩] 115)) none) := by rw [hW9]; exact grown_push (grown_own HG.out (grown_s9 _ _ _ _ _) (fun x e => by cases e; exact Nat.le_refl _)) _
  have HP9 : Hid (PB (W9.alloc (.cells #[.int .u8 1, .int .u8 8, .int .u8 3, .int .i64 0, .int .u8 0, .int .u8 0, .int .u8 0, .string ⟨#[]⟩, .int .u8 1, .int .u8 3, .int .u8 1, .int .i64 1, .int .u8 0, .int .u8 0, .int .u8 0, .string ⟨#[]⟩] 115)) w1.heap.size breezeP) := by rw [← S9]; exact alloc_at _ _ _
  obtain ⟨z0, z1, z2, z3, z4, z5, z6, z7, z8⟩ := C1.cells
  have zf := fun i => C1.free i
  simp only [Hd.none] at z0 z1 z2 z3 z4 z5 z6 z7 z8
  unfold set9 breezeH at hW9
  simp only [Nat.zero_add] at hW9
  have HW9 : Hid (W9 = _) := hW9
  clear C1 hW9 S9
  go_wp2
  rw [← HW9.out]
  obtain ⟨y0, y1, y2, y3, y4, y5, y6, y7, y8⟩ := HC9.out.cells
  unfold breezeH at y0 y1 y2 y3 y4 y5 y6 y7
  simp only at y0 y1 y2 y3 y4 y5 y6 y7
  refine bodyPost_ret (v := cv breezeH (.slice (some ⟨w1.heap.size, 0, none⟩) 2 2)) (by simp only [results, Tryz.results204]; simp [go_sem, cv, breezeH, y0, y1, y2, y3, y4, y5, y6, y7, y8]) rfl ⟨_, rfl, Or.inr ⟨w1.heap.size, rfl, HP9.out, by omega⟩, HG9.out⟩
set_option maxRecDepth 100000 in
set_option maxHeartbeats 1000000 in
theorem wisp_any (w : World) : Calls Tryz.prog 205 #[] w fun e w' => ∃ u, e = .returned (cv wispH u) ∧ Own8 w.heap.size w' u wispP ∧ w.grownBy w' none := by
  have A0 : CAt (w.alloc (.cells (ccs Hd.none (.slice none 0 0)) 56)) w.heap.size Hd.none (.slice none 0 0) := alloc_at _ _ _
  have HA0 : Hid (CAt (w.alloc (.cells (ccs Hd.none (.slice none 0 0)) 56)) w.heap.size Hd.none (.slice none 0 0)) := A0
  clear A0
  unfold ccs Hd.none at HA0
  go_enter Tryz.func205, Tryz.ntmps205
  go_wp2_with fail
  refine (with0_1 _).mono ?_
  rintro e w1 ⟨rfl, h1⟩
  obtain ⟨w0, hw0⟩ : ∃ w0, w0 = w1 := ⟨_, rfl⟩
  have g1 : (w.alloc (.cells #[.string ⟨#[]⟩, .int .u8 0, .int .u8 0, .int .i64 0, .int .i64 0, .int .i64 0, .int .u16 0, .bool false, .slice none 0 0] 56)).grownBy w1 none := h1 ▸ grown_refl _ _
  clear h1 hw0 w0
  have HG : Hid (w.grownBy w1 none) := grown_trans (World.grownBy_alloc _ _ none) g1
  have C1 : CAt w1 w.heap.size Hd.none (.slice none 0 0) := CAt.keepR HA0.out g1 (by simp)
  have hlt := block_lt C1
  clear g1 HA0
  obtain ⟨z0, z1, z2, z3, z4, z5, z6, z7, z8⟩ := C1.cells
  have zf := fun i => C1.free i
  simp only [Hd.none] at z0 z1 z2 z3 z4 z5 z6 z7 z8
  go_wp2
  refine bodyPost_ret (v := cv wispH (.slice none 0 0)) (by simp [results, Tryz.results205, go_sem, cv, wispH, z0, z1, z2, z3, z4, z5, z6, z7, z8]) rfl ⟨_, rfl, Or.inl ⟨rfl, rfl⟩, ?_⟩
  have h9 := grown_own HG.out (grown_s9 w1 w.heap.size 0 wispH (.slice none 0 0)) (fun x e => by cases e; exact Nat.le_refl _)
  unfold set9 wispH at h9
  simp only [Nat.zero_add] at h9
  exact h9
set_option maxRecDepth 100000 in
set_option maxHeartbeats 1000000 in
theorem kite_any (w : World) : Calls Tryz.prog 206 #[] w fun e w' => ∃ u, e = .returned (cv kiteH u) ∧ Own8 w.heap.size w' u kiteP ∧ w.grownBy w' none := by
  have A0 : CAt (w.alloc (.cells (ccs Hd.none (.slice none 0 0)) 56)) w.heap.size Hd.none (.slice none 0 0) := alloc_at _ _ _
  have HA0 : Hid (CAt (w.alloc (.cells (ccs Hd.none (.slice none 0 0)) 56)) w.heap.size Hd.none (.slice none 0 0)) := A0
  clear A0
  unfold ccs Hd.none at HA0
  go_enter Tryz.func206, Tryz.ntmps206
  go_wp2_with fail
  refine (value1 _).mono ?_
  rintro e w1 ⟨rfl, g1⟩
  go_wp2_with fail
  refine (value1 _).mono ?_
  rintro e w2 ⟨rfl, g2⟩
  go_wp2_with fail
  refine (with0_1 _).mono ?_
  rintro e w3 ⟨rfl, h3⟩
  have g3 : World.grownBy w2 w3 none := h3 ▸ grown_refl _ _
  clear h3
  have HG : Hid (w.grownBy w3 none) := grown_trans (World.grownBy_alloc _ _ none) (grown_trans (grown_trans g1 g2) g3)
  have C1 : CAt w3 w.heap.size Hd.none (.slice none 0 0) := CAt.keepR HA0.out (grown_trans (grown_trans g1 g2) g3) (by simp)
  have hlt := block_lt C1
  clear g1 g2 g3 HA0
  obtain ⟨W9, hW9⟩ : ∃ W9, W9 = set9 w3 w.heap.size 0 kiteH (.slice (some ⟨w3.heap.size, 0, none⟩) 1 1) := ⟨_, rfl⟩
  have S9 : W9.heap.size = w3.heap.size := by rw [hW9]; exact size_set9 _ _ _ _ _
  have HC9 : Hid (CAt (W9.alloc (.cells #[.int .u8 4, .int .u8 3, .int .u8 1, .int .i64 1, .int .u8 0, .int .u8 0, .int .u8 0, .string ⟨#[]⟩] 115)) w.heap.size kiteH (.slice (some ⟨w3.heap.size, 0, none⟩) 1 1)) := by rw [hW9]; exact (C1.s9 _ _).keepR (World.grownBy_alloc _ _ none) (by simp)
  have HG9 : Hid (w.grownBy (W9.alloc (.cells #[.int .u8 4, .int .u8 3, .int .u8 1, .int .i64 1, .int .u8 0, .int .u8 0, .int .u8 0, .string ⟨#[]⟩] 115)) none) := by rw [hW9]; exact grown_push (grown_own HG.out (grown_s9 _ _ _ _ _) (fun x e => by cases e; exact Nat.le_refl _)) _
  have HP9 : Hid (PB (W9.alloc (.cells #[.int .u8 4, .int .u8 3, .int .u8 1, .int .i64 1, .int .u8 0, .int .u8 0, .int .u8 0, .string ⟨#[]⟩] 115)) w3.heap.size kiteP) := by rw [← S9]; exact alloc_at _ _ _
  obtain ⟨z0, z1, z2, z3, z4, z5, z6, z7, z8⟩ := C1.cells
  have zf := fun i => C1.free i
  simp only [Hd.none] at z0 z1 z2 z3 z4 z5 z6 z7 z8
  unfold set9 kiteH at hW9
  simp only [Nat.zero_add] at hW9
  have HW9 : Hid (W9 = _) := hW9
  clear C1 hW9 S9
  go_wp2
  rw [← HW9.out]
  obtain ⟨y0, y1, y2, y3, y4, y5, y6, y7, y8⟩ := HC9.out.cells
  unfold kiteH at y0 y1 y2 y3 y4 y5 y6 y7
  simp only at y0 y1 y2 y3 y4 y5 y6 y7
  refine bodyPost_ret (v := cv kiteH (.slice (some ⟨w3.heap.size, 0, none⟩) 1 1)) (by simp only [results, Tryz.results206]; simp [go_sem, cv, kiteH, y0, y1, y2, y3, y4, y5, y6, y7, y8]) rfl ⟨_, rfl, Or.inr ⟨w3.heap.size, rfl, HP9.out, by omega⟩, HG9.out⟩
set_option maxRecDepth 100000 in
set_option maxHeartbeats 1000000 in
theorem swiftWing_any (w : World) : Calls Tryz.prog 207 #[] w fun e w' => ∃ u, e = .returned (cv swiftWingH u) ∧ Own8 w.heap.size w' u swiftWingP ∧ w.grownBy w' none := by
  have A0 : CAt (w.alloc (.cells (ccs Hd.none (.slice none 0 0)) 56)) w.heap.size Hd.none (.slice none 0 0) := alloc_at _ _ _
  have HA0 : Hid (CAt (w.alloc (.cells (ccs Hd.none (.slice none 0 0)) 56)) w.heap.size Hd.none (.slice none 0 0)) := A0
  clear A0
  unfold ccs Hd.none at HA0
  go_enter Tryz.func207, Tryz.ntmps207
  go_wp2_with fail
  refine (value0 _).mono ?_
  rintro e w1 ⟨rfl, g1⟩
  go_wp2_with fail
  refine (value1 _).mono ?_
  rintro e w2 ⟨rfl, g2⟩
  go_wp2_with fail
  refine (value0 _).mono ?_
  rintro e w3 ⟨rfl, g3⟩
  go_wp2_with fail
  refine (with0_8 _).mono ?_
  rintro e w4 ⟨rfl, h4⟩
  have g4 : World.grownBy w3 w4 none := h4 ▸ grown_refl _ _
  clear h4
  have HG : Hid (w.grownBy w4 none) := grown_trans (World.grownBy_alloc _ _ none) (grown_trans (grown_trans (grown_trans g1 g2) g3) g4)
  have C1 : CAt w4 w.heap.size Hd.none (.slice none 0 0) := CAt.keepR HA0.out (grown_trans (grown_trans (grown_trans g1 g2) g3) g4) (by simp)
  have hlt := block_lt C1
  clear g1 g2 g3 g4 HA0
  obtain ⟨W9, hW9⟩ : ∃ W9, W9 = set9 w4 w.heap.size 0 swiftWingH (.slice (some ⟨w4.heap.size, 0, none⟩) 1 1) := ⟨_, rfl⟩
  have S9 : W9.heap.size = w4.heap.size := by rw [hW9]; exact size_set9 _ _ _ _ _
  have HC9 : Hid (CAt (W9.alloc (.cells #[.int .u8 5, .int .u8 12, .int .u8 8, .int .i64 0, .int .u8 0, .int .u8 1, .int .u8 0, .string ⟨#[]⟩] 115)) w.heap.size swiftWingH (.slice (some ⟨w4.heap.size, 0, none⟩) 1 1)) := by rw [hW9]; exact (C1.s9 _ _).keepR (World.grownBy_alloc _ _ none) (by simp)
  have HG9 : Hid (w.grownBy (W9.alloc (.cells #[.int .u8 5, .int .u8 12, .int .u8 8, .int .i64 0, .int .u8 0, .int .u8 1, .int .u8 0, .string ⟨#[]⟩] 115)) none) := by rw [hW9]; exact grown_push (grown_own HG.out (grown_s9 _ _ _ _ _) (fun x e => by cases e; exact Nat.le_refl _)) _
  have HP9 : Hid (PB (W9.alloc (.cells #[.int .u8 5, .int .u8 12, .int .u8 8, .int .i64 0, .int .u8 0, .int .u8 1, .int .u8 0, .string ⟨#[]⟩] 115)) w4.heap.size swiftWingP) := by rw [← S9]; exact alloc_at _ _ _
  obtain ⟨z0, z1, z2, z3, z4, z5, z6, z7, z8⟩ := C1.cells
  have zf := fun i => C1.free i
  simp only [Hd.none] at z0 z1 z2 z3 z4 z5 z6 z7 z8
  unfold set9 swiftWingH at hW9
  simp only [Nat.zero_add] at hW9
  have HW9 : Hid (W9 = _) := hW9
  clear C1 hW9 S9
  go_wp2
  rw [← HW9.out]
  obtain ⟨y0, y1, y2, y3, y4, y5, y6, y7, y8⟩ := HC9.out.cells
  unfold swiftWingH at y0 y1 y2 y3 y4 y5 y6 y7
  simp only at y0 y1 y2 y3 y4 y5 y6 y7
  refine bodyPost_ret (v := cv swiftWingH (.slice (some ⟨w4.heap.size, 0, none⟩) 1 1)) (by simp only [results, Tryz.results207]; simp [go_sem, cv, swiftWingH, y0, y1, y2, y3, y4, y5, y6, y7, y8]) rfl ⟨_, rfl, Or.inr ⟨w4.heap.size, rfl, HP9.out, by omega⟩, HG9.out⟩
set_option maxRecDepth 100000 in
set_option maxHeartbeats 1000000 in
theorem flock_any (w : World) : Calls Tryz.prog 208 #[] w fun e w' => ∃ u, e = .returned (cv flockH u) ∧ Own8 w.heap.size w' u flockP ∧ w.grownBy w' none := by
  have A0 : CAt (w.alloc (.cells (ccs Hd.none (.slice none 0 0)) 56)) w.heap.size Hd.none (.slice none 0 0) := alloc_at _ _ _
  have HA0 : Hid (CAt (w.alloc (.cells (ccs Hd.none (.slice none 0 0)) 56)) w.heap.size Hd.none (.slice none 0 0)) := A0
  clear A0
  go_enter Tryz.func208, Tryz.ntmps208
  go_wp2
  have A : (World.alloc (World.alloc w (Obj.cells (ccs flockH (.slice (some ⟨w.heap.size + 1, 0, none⟩) 2 2)) 56)) (Obj.cells #[.int .u8 1, .int .u8 7, .int .u8 1, .int .i64 2, .int .u8 0, .int .u8 0, .int .u8 0, .string ⟨#[119, 105, 115, 112]⟩, .int .u8 5, .int .u8 15, .int .u8 9, .int .i64 1, .int .u8 1, .int .u8 0, .int .u8 0, .string ⟨#[]⟩] 115)).heap[w.heap.size + 1]? = some (.cells #[.int .u8 1, .int .u8 7, .int .u8 1, .int .i64 2, .int .u8 0, .int .u8 0, .int .u8 0, .string ⟨#[119, 105, 115, 112]⟩, .int .u8 5, .int .u8 15, .int .u8 9, .int .i64 1, .int .u8 1, .int .u8 0, .int .u8 0, .string ⟨#[]⟩] 115 (0, 0)) := by
    have h0 := alloc_at (World.alloc w (Obj.cells (ccs flockH (.slice (some ⟨w.heap.size + 1, 0, none⟩) 2 2)) 56)) #[.int .u8 1, .int .u8 7, .int .u8 1, .int .i64 2, .int .u8 0, .int .u8 0, .int .u8 0, .string ⟨#[119, 105, 115, 112]⟩, .int .u8 5, .int .u8 15, .int .u8 9, .int .i64 1, .int .u8 1, .int .u8 0, .int .u8 0, .string ⟨#[]⟩] 115
    rw [World.size_alloc] at h0
    exact h0
  refine bodyPost_ret (v := cv flockH (.slice (some ⟨w.heap.size + 1, 0, none⟩) 2 2)) (by simp [results, Tryz.results208, go_sem, cv, flockH]) rfl ⟨_, rfl, Or.inr ⟨w.heap.size + 1, rfl, A, by omega⟩, grown_push (World.grownBy_alloc _ _ none) _⟩
set_option maxRecDepth 100000 in
set_option maxHeartbeats 1000000 in
theorem calm_any (w : World) : Calls Tryz.prog 209 #[] w fun e w' => ∃ u, e = .returned (cv calmH u) ∧ Own8 w.heap.size w' u calmP ∧ w.grownBy w' none := by
  have A0 : CAt (w.alloc (.cells (ccs Hd.none (.slice none 0 0)) 56)) w.heap.size Hd.none (.slice none 0 0) := alloc_at _ _ _
  have HA0 : Hid (CAt (w.alloc (.cells (ccs Hd.none (.slice none 0 0)) 56)) w.heap.size Hd.none (.slice none 0 0)) := A0
  clear A0
  unfold ccs Hd.none at HA0
  go_enter Tryz.func209, Tryz.ntmps209
  go_wp2_with fail
  refine (value0 _).mono ?_
  rintro e w1 ⟨rfl, g1⟩
  have HG : Hid (w.grownBy w1 none) := grown_trans (World.grownBy_alloc _ _ none) g1
  have C1 : CAt w1 w.heap.size Hd.none (.slice none 0 0) := CAt.keepR HA0.out g1 (by simp)
  have hlt := block_lt C1
  clear g1 HA0
  obtain ⟨W9, hW9⟩ : ∃ W9, W9 = set9 w1 w.heap.size 0 calmH (.slice (some ⟨w1.heap.size, 0, none⟩) 2 2) := ⟨_, rfl⟩
  have S9 : W9.heap.size = w1.heap.size := by rw [hW9]; exact size_set9 _ _ _ _ _
  have HC9 : Hid (CAt (W9.alloc (.cells #[.int .u8 6, .int .u8 16, .int .u8 1, .int .i64 1, .int .u8 0, .int .u8 0, .int .u8 0, .string ⟨#[]⟩, .int .u8 3, .int .u8 2, .int .u8 1, .int .i64 1, .int .u8 0, .int .u8 0, .int .u8 0, .string ⟨#[]⟩] 115)) w.heap.size calmH (.slice (some ⟨w1.heap.size, 0, none⟩) 2 2)) := by rw [hW9]; exact (C1.s9 _ _).keepR (World.grownBy_alloc _ _ none) (by simp)
  have HG9 : Hid (w.grownBy (W9.alloc (.cells #[.int .u8 6, .int .u8 16, .int .u8 1, .int .i64 1, .int .u8 0, .int .u8 0, .int .u8 0, .string ⟨#[]⟩, .int .u8 3, .int .u8 2, .int .u8 1, .int .i64 1, .int .u8 0, .int .u8 0, .int .u8 0, .string ⟨#[]⟩] 115)) none) := by rw [hW9]; exact grown_push (grown_own HG.out (grown_s9 _ _ _ _ _) (fun x e => by cases e; exact Nat.le_refl _)) _
  have HP9 : Hid (PB (W9.alloc (.cells #[.int .u8 6, .int .u8 16, .int .u8 1, .int .i64 1, .int .u8 0, .int .u8 0, .int .u8 0, .string ⟨#[]⟩, .int .u8 3, .int .u8 2, .int .u8 1, .int .i64 1, .int .u8 0, .int .u8 0, .int .u8 0, .string ⟨#[]⟩] 115)) w1.heap.size calmP) := by rw [← S9]; exact alloc_at _ _ _
  obtain ⟨z0, z1, z2, z3, z4, z5, z6, z7, z8⟩ := C1.cells
  have zf := fun i => C1.free i
  simp only [Hd.none] at z0 z1 z2 z3 z4 z5 z6 z7 z8
  unfold set9 calmH at hW9
  simp only [Nat.zero_add] at hW9
  have HW9 : Hid (W9 = _) := hW9
  clear C1 hW9 S9
  go_wp2
  rw [← HW9.out]
  obtain ⟨y0, y1, y2, y3, y4, y5, y6, y7, y8⟩ := HC9.out.cells
  unfold calmH at y0 y1 y2 y3 y4 y5 y6 y7
  simp only at y0 y1 y2 y3 y4 y5 y6 y7
  refine bodyPost_ret (v := cv calmH (.slice (some ⟨w1.heap.size, 0, none⟩) 2 2)) (by simp only [results, Tryz.results209]; simp [go_sem, cv, calmH, y0, y1, y2, y3, y4, y5, y6, y7, y8]) rfl ⟨_, rfl, Or.inr ⟨w1.heap.size, rfl, HP9.out, by omega⟩, HG9.out⟩
def specL : List (Hd × List Pt) := [(breezeH, breezeP), (wispH, wispP), (kiteH, kiteP), (swiftWingH, swiftWingP), (flockH, flockP), (calmH, calmP)]
def LIs (es : List Ent) (k : Nat) : Prop := es.map (fun e => (e.h, e.ps)) = specL.take k
theorem LIs.len {es : List Ent} {k : Nat} (h : LIs es k) (hk : k ≤ 6) : es.length = k := by
  have h0 := congrArg List.length h
  have hl : specL.length = 6 := rfl
  simp only [List.length_map, List.length_take, hl] at h0
  omega
theorem spec_four : ∀ x ∈ specL, x.2.length ≤ 4 := by decide +kernel
theorem LIs.four {es : List Ent} (h : LIs es 6) {e : Ent} (he : e ∈ es) : e.ps.length ≤ 4 := by
  unfold LIs at h
  have h1 : (e.h, e.ps) ∈ specL.take 6 := by rw [← h]; exact List.mem_map.2 ⟨e, he, rfl⟩
  exact spec_four _ (List.mem_of_mem_take h1)
end Go.Proofs.YtknlcjhcamhfmaaGreatDoor.Ai
namespace Go.Proofs.YtknlcjhcamhfmaaGreatDoor
open Go.RowKit

structure SuL (spec : List (Hd × List Pt)) (w w' : World) (g : Nat) (es : List Ent) : Prop where
  is : es.map (fun e => (e.h, e.ps)) = spec
  lies : w'.heap[g]? = some (.cells (ecells es).toArray 56 (0, 0))
  own : ∀ e ∈ es, Own8 w.heap.size w' e.v e.ps
  low : w.heap.size ≤ g
  gr : w.grownBy w' none
end Go.Proofs.YtknlcjhcamhfmaaGreatDoor
namespace Go.Proofs.YtknlcjhcamhfmaaGreatDoor.Ai
open Go.RowKit

def fCells : Array Value := #[.func (.func 204) #[] #[], .func (.func 205) #[] #[], .func (.func 206) #[] #[], .func (.func 207) #[] #[], .func (.func 208) #[] #[], .func (.func 209) #[] #[]]
set_option maxHeartbeats 1000000 in
theorem makers_any (w : World) : Calls Tryz.prog 165 #[] w fun e w' => e = .returned (.slice (some ⟨w.heap.size, 0, none⟩) 6 6) ∧ w' = w.alloc (.cells fCells 159) := by
  go_enter Tryz.func165, Tryz.ntmps165
  go_wp2
  go_ret
  exact ⟨rfl, rfl⟩
theorem LIs.next {es : List Ent} {k : Nat} (h : LIs es k) {x : Hd} {ps : List Pt} (u : Value) (hs : specL[k]? = some (x, ps)) : LIs (es ++ [⟨x, u, ps⟩]) (k + 1) := by
  unfold LIs at h ⊢
  rw [List.map_append, h, List.take_add_one, hs]
  rfl
/-- What holds in the loop of List. -/
structure LK (w wr : World) (k : Nat) (es : List Ent) : Prop where
  tbl : wr.heap[w.heap.size]? = some (.cells fCells 159 (0, 0))
  lies : wr.heap[w.heap.size + 1]? = some (.cells (ecells es ++ noCards (6 - k)).toArray 56 (0, 0))
  is : LIs es k
  own : LOwn (w.heap.size + 2) wr es
  gr : w.grownBy wr none
theorem LK.next {w wr V : World} {k : Nat} {es : List Ent} (h : LK w wr k es) (hk : k < 6) {x : Hd} {u : Value} {ps : List Pt} (hs : specL[k]? = some (x, ps)) (o : Own8 wr.heap.size V u ps) (g : wr.grownBy V none) : LK w (set9 V (w.heap.size + 1) (k * 9) x u) (k + 1) (es ++ [⟨x, u, ps⟩]) := by
  have hl := h.is.len (Nat.le_of_lt hk)
  have L := grown_keep g h.lies (by simp)
  have hb := block_lt h.lies
  have hnk : 6 - k = (6 - (k + 1)) + 1 := by omega
  rw [hnk, noCards_succ] at L
  have L2 := set9_block L (k * 9) (by rw [ecells_len, hl]) rfl x u
  refine ⟨grown_keep (grown_s9 _ _ _ _ _) (grown_keep g h.tbl (by simp)) (fun e => by injection e with e; omega), ?_, h.is.next u hs, (h.own.snoc g (by omega) o).keepR (grown_s9 _ _ _ _ _) (fun k hk e => by injection e with e; omega), grown_own (grown_trans h.gr g) (grown_s9 _ _ _ _ _) (fun x e => by cases e; omega)⟩
  rw [L2, ecells_app]
  simp [ecells]
theorem list_cells : (madeCells (Value.agg #[.string ⟨#[]⟩, .int .u8 0, .int .u8 0, .int .i64 0, .int .i64 0, .int .i64 0, .int .u16 0, .bool false, .slice none 0 0]).cells (6 * 9)).toList = noCards 6 := by kernel_rfl
theorem LK.cellf {w wr : World} {k : Nat} {es : List Ent} (h : LK w wr k es) {i : Nat} {v : Value} (hv : fCells[i]? = some v) : wr.cell? ⟨w.heap.size, i, none⟩ = some v := by rw [block_cell h.tbl, hv]
theorem LK.cells {w wr : World} {k : Nat} {es : List Ent} (h : LK w wr k es) (hk : k < 6) : C9 wr (w.heap.size + 1) (k * 9) Hd.none (.slice none 0 0) := by
  have hl := h.is.len (Nat.le_of_lt hk)
  have hnk : 6 - k = (6 - (k + 1)) + 1 := by omega
  have at_ : ∀ j v, j < 9 → (cvs Hd.none (.slice none 0 0))[j]? = some v → wr.cell? ⟨w.heap.size + 1, k * 9 + j, none⟩ = some v := fun j v hj hv => by
    rw [block_cell h.lies, hnk, noCards_succ, List.getElem?_toArray, List.getElem?_append_right (by rw [ecells_len, hl]; omega), ecells_len, hl, show k * 9 + j - k * 9 = j by omega, List.getElem?_append_left (by simpa [cvs] using hj)]
    exact hv
  exact ⟨at_ 0 _ (by omega) rfl, at_ 1 _ (by omega) rfl, at_ 2 _ (by omega) rfl, at_ 3 _ (by omega) rfl, at_ 4 _ (by omega) rfl, at_ 5 _ (by omega) rfl, at_ 6 _ (by omega) rfl, at_ 7 _ (by omega) rfl, at_ 8 _ (by omega) rfl⟩
set_option maxRecDepth 100000 in
set_option maxHeartbeats 4000000 in
theorem list_ai0 (w : World) : Calls Tryz.prog 79 #[] w fun e w' => ∃ es, e = .returned (.slice (some ⟨w.heap.size + 1, 0, none⟩) 6 6) ∧ LIs es 6 ∧ w'.heap[w.heap.size + 1]? = some (.cells (ecells es).toArray 56 (0, 0)) ∧ LOwn (w.heap.size + 2) w' es ∧ w.grownBy w' none := by
  obtain ⟨i0, hi, hz0, hz1, hz2⟩ := info_parts (P := Tryz.prog) (e := 56) (z := .agg #[.string ⟨#[]⟩, .int .u8 0, .int .u8 0, .int .i64 0, .int .i64 0, .int .i64 0, .int .u16 0, .bool false, .slice none 0 0]) (size := 9) (bytes := 80) (by kernel_rfl)
  go_enter Tryz.func79, Tryz.ntmps79
  go_wp2_with fail
  refine (makers_any w).mono ?_
  rintro e W1 ⟨rfl, hW1⟩
  have A1 : Hid (W1.heap[w.heap.size]? = some (.cells fCells 159 (0, 0))) := by rw [hW1]; exact alloc_at _ _ _
  have G1 : Hid (w.grownBy W1 none) := by rw [hW1]; exact World.grownBy_alloc _ _ none
  have S1 : W1.heap.size = w.heap.size + 1 := by rw [hW1, World.size_alloc]
  clear hW1
  go_wp2_with (at_make; refine wpList_make_full _ rfl _ _ 89 rfl W1.heap.size 56 i0 _ 9 Tryz.underlying89 hi hz0 hz1 .i64 .i64 _ _ 6 rfl rfl rfl rfl (by rw [hz2]; decide) (by decide) (Nat.le_refl _) ?_; intro V o1 gv)
  have HK : Hid (LK w V 0 []) := by
    obtain ⟨_, h0 | ⟨g, cap, cur, ev, _, hh, _, _, hsz, htk⟩⟩ := o1
    · exact absurd h0.2 (by decide)
    · injection ev with e1 _ e3
      injection e1 with e1
      injection e1 with e1 _ _
      subst e1
      subst e3
      have hc : cur = (noCards 6).toArray := by
        apply Array.ext'
        rw [← list_cells, ← htk, List.take_of_length_le (by rw [Array.length_toList, hsz]; exact Nat.le_refl _)]
      rw [S1, hc] at hh
      exact ⟨grown_keep gv A1.out (by simp), by simpa [ecells] using hh, rfl, LOwn.nil _ _, grown_trans G1.out gv⟩
  have SV : Hid (V.heap.size = V.heap.size) := rfl
  clear o1 gv A1 G1 SV S1
  go_loopw [11] (fun i wr => ∃ (k : Nat) (es : List Ent), k ≤ 6 ∧ i = .int .i64 (k : Int) ∧ LK w wr k es) (fun i _ => 6 - (intOf i).toNat)
  case atStart => exact ⟨0, [], Nat.zero_le _, rfl, HK.out⟩
  case round =>
    clear HK
    obtain ⟨k, es, hk, rfl, K⟩ := hrel
    obtain ⟨U, hU⟩ : ∃ U, U = wr := ⟨_, rfl⟩
    subst hU
    have HK : Hid (LK w U k es) := K
    clear K
    rcases (show k = 0 ∨ k = 1 ∨ k = 2 ∨ k = 3 ∨ k = 4 ∨ k = 5 ∨ k = 6 from by omega) with rfl | rfl | rfl | rfl | rfl | rfl | rfl
    · have c0 : U.cell? ⟨w.heap.size, 0, none⟩ = some (.func (.func 204) #[] #[]) := HK.out.cellf rfl
      rw [show ((0 : Nat) : Int) = (0 : Int) from rfl]
      go_wp2_with fail
      refine (breeze_any _).mono ?_
      rintro e V1 ⟨u, rfl, O1, g1⟩
      obtain ⟨x, y, rfl⟩ := O1.at.form
      obtain ⟨z0, z1, z2, z3, z4, z5, z6, z7, z8⟩ := (HK.out.cells (by decide)).keep g1
      have zf := fun i => block_free (grown_keep g1 HK.out.lies (by simp)) i
      obtain ⟨V9, hV9⟩ : ∃ V9, V9 = set9 V1 (w.heap.size + 1) (0 * 9) breezeH (.slice x breezeP.length y) := ⟨_, rfl⟩
      have HN : Hid (LK w V9 (0 + 1) (es ++ [⟨breezeH, .slice x breezeP.length y, breezeP⟩])) := by rw [hV9]; exact HK.out.next (by decide) rfl O1 g1
      unfold set9 breezeH at hV9
      simp only [Nat.reduceMul, Nat.zero_add] at hV9 z0 z1 z2 z3 z4 z5 z6 z7 z8
      have HV9 : Hid (V9 = _) := hV9
      clear O1 g1 HK c0 hV9
      unfold cv breezeH
      go_upto_region 7 with fail
      rw [← HV9.out]
      clear HV9 z0 z1 z2 z3 z4 z5 z6 z7 z8 zf
      go_wp2_with fail
      go_roundw
      case rel => exact ⟨1, _, by decide, rfl, HN.out⟩
      case measure => decide
    · have c0 : U.cell? ⟨w.heap.size, 1, none⟩ = some (.func (.func 205) #[] #[]) := HK.out.cellf rfl
      rw [show ((1 : Nat) : Int) = (1 : Int) from rfl]
      go_wp2_with fail
      refine (wisp_any _).mono ?_
      rintro e V1 ⟨u, rfl, O1, g1⟩
      obtain ⟨x, y, rfl⟩ := O1.at.form
      obtain ⟨z0, z1, z2, z3, z4, z5, z6, z7, z8⟩ := (HK.out.cells (by decide)).keep g1
      have zf := fun i => block_free (grown_keep g1 HK.out.lies (by simp)) i
      obtain ⟨V9, hV9⟩ : ∃ V9, V9 = set9 V1 (w.heap.size + 1) (1 * 9) wispH (.slice x wispP.length y) := ⟨_, rfl⟩
      have HN : Hid (LK w V9 (1 + 1) (es ++ [⟨wispH, .slice x wispP.length y, wispP⟩])) := by rw [hV9]; exact HK.out.next (by decide) rfl O1 g1
      unfold set9 wispH at hV9
      simp only [Nat.reduceMul, Nat.reduceAdd] at hV9 z0 z1 z2 z3 z4 z5 z6 z7 z8
      have HV9 : Hid (V9 = _) := hV9
      clear O1 g1 HK c0 hV9
      unfold cv wispH
      go_upto_region 7 with fail
      rw [← HV9.out]
      clear HV9 z0 z1 z2 z3 z4 z5 z6 z7 z8 zf
      go_wp2_with fail
      go_roundw
      case rel => exact ⟨2, _, by decide, rfl, HN.out⟩
      case measure => decide
    · have c0 : U.cell? ⟨w.heap.size, 2, none⟩ = some (.func (.func 206) #[] #[]) := HK.out.cellf rfl
      rw [show ((2 : Nat) : Int) = (2 : Int) from rfl]
      go_wp2_with fail
      refine (kite_any _).mono ?_
      rintro e V1 ⟨u, rfl, O1, g1⟩
      obtain ⟨x, y, rfl⟩ := O1.at.form
      obtain ⟨z0, z1, z2, z3, z4, z5, z6, z7, z8⟩ := (HK.out.cells (by decide)).keep g1
      have zf := fun i => block_free (grown_keep g1 HK.out.lies (by simp)) i
      obtain ⟨V9, hV9⟩ : ∃ V9, V9 = set9 V1 (w.heap.size + 1) (2 * 9) kiteH (.slice x kiteP.length y) := ⟨_, rfl⟩
      have HN : Hid (LK w V9 (2 + 1) (es ++ [⟨kiteH, .slice x kiteP.length y, kiteP⟩])) := by rw [hV9]; exact HK.out.next (by decide) rfl O1 g1
      unfold set9 kiteH at hV9
      simp only [Nat.reduceMul, Nat.reduceAdd] at hV9 z0 z1 z2 z3 z4 z5 z6 z7 z8
      have HV9 : Hid (V9 = _) := hV9
      clear O1 g1 HK c0 hV9
      unfold cv kiteH
      go_upto_region 7 with fail
      rw [← HV9.out]
      clear HV9 z0 z1 z2 z3 z4 z5 z6 z7 z8 zf
      go_wp2_with fail
      go_roundw
      case rel => exact ⟨3, _, by decide, rfl, HN.out⟩
      case measure => decide
    · have c0 : U.cell? ⟨w.heap.size, 3, none⟩ = some (.func (.func 207) #[] #[]) := HK.out.cellf rfl
      rw [show ((3 : Nat) : Int) = (3 : Int) from rfl]
      go_wp2_with fail
      refine (swiftWing_any _).mono ?_
      rintro e V1 ⟨u, rfl, O1, g1⟩
      obtain ⟨x, y, rfl⟩ := O1.at.form
      obtain ⟨z0, z1, z2, z3, z4, z5, z6, z7, z8⟩ := (HK.out.cells (by decide)).keep g1
      have zf := fun i => block_free (grown_keep g1 HK.out.lies (by simp)) i
      obtain ⟨V9, hV9⟩ : ∃ V9, V9 = set9 V1 (w.heap.size + 1) (3 * 9) swiftWingH (.slice x swiftWingP.length y) := ⟨_, rfl⟩
      have HN : Hid (LK w V9 (3 + 1) (es ++ [⟨swiftWingH, .slice x swiftWingP.length y, swiftWingP⟩])) := by rw [hV9]; exact HK.out.next (by decide) rfl O1 g1
      unfold set9 swiftWingH at hV9
      simp only [Nat.reduceMul, Nat.reduceAdd] at hV9 z0 z1 z2 z3 z4 z5 z6 z7 z8
      have HV9 : Hid (V9 = _) := hV9
      clear O1 g1 HK c0 hV9
      unfold cv swiftWingH
      go_upto_region 7 with fail
      rw [← HV9.out]
      clear HV9 z0 z1 z2 z3 z4 z5 z6 z7 z8 zf
      go_wp2_with fail
      go_roundw
      case rel => exact ⟨4, _, by decide, rfl, HN.out⟩
      case measure => decide
    · have c0 : U.cell? ⟨w.heap.size, 4, none⟩ = some (.func (.func 208) #[] #[]) := HK.out.cellf rfl
      rw [show ((4 : Nat) : Int) = (4 : Int) from rfl]
      go_wp2_with fail
      refine (flock_any _).mono ?_
      rintro e V1 ⟨u, rfl, O1, g1⟩
      obtain ⟨x, y, rfl⟩ := O1.at.form
      obtain ⟨z0, z1, z2, z3, z4, z5, z6, z7, z8⟩ := (HK.out.cells (by decide)).keep g1
      have zf := fun i => block_free (grown_keep g1 HK.out.lies (by simp)) i
      obtain ⟨V9, hV9⟩ : ∃ V9, V9 = set9 V1 (w.heap.size + 1) (4 * 9) flockH (.slice x flockP.length y) := ⟨_, rfl⟩
      have HN : Hid (LK w V9 (4 + 1) (es ++ [⟨flockH, .slice x flockP.length y, flockP⟩])) := by rw [hV9]; exact HK.out.next (by decide) rfl O1 g1
      unfold set9 flockH at hV9
      simp only [Nat.reduceMul, Nat.reduceAdd] at hV9 z0 z1 z2 z3 z4 z5 z6 z7 z8
      have HV9 : Hid (V9 = _) := hV9
      clear O1 g1 HK c0 hV9
      unfold cv flockH
      go_upto_region 7 with fail
      rw [← HV9.out]
      clear HV9 z0 z1 z2 z3 z4 z5 z6 z7 z8 zf
      go_wp2_with fail
      go_roundw
      case rel => exact ⟨5, _, by decide, rfl, HN.out⟩
      case measure => decide
    · have c0 : U.cell? ⟨w.heap.size, 5, none⟩ = some (.func (.func 209) #[] #[]) := HK.out.cellf rfl
      rw [show ((5 : Nat) : Int) = (5 : Int) from rfl]
      go_wp2_with fail
      refine (calm_any _).mono ?_
      rintro e V1 ⟨u, rfl, O1, g1⟩
      obtain ⟨x, y, rfl⟩ := O1.at.form
      obtain ⟨z0, z1, z2, z3, z4, z5, z6, z7, z8⟩ := (HK.out.cells (by decide)).keep g1
      have zf := fun i => block_free (grown_keep g1 HK.out.lies (by simp)) i
      obtain ⟨V9, hV9⟩ : ∃ V9, V9 = set9 V1 (w.heap.size + 1) (5 * 9) calmH (.slice x calmP.length y) := ⟨_, rfl⟩
      have HN : Hid (LK w V9 (5 + 1) (es ++ [⟨calmH, .slice x calmP.length y, calmP⟩])) := by rw [hV9]; exact HK.out.next (by decide) rfl O1 g1
      unfold set9 calmH at hV9
      simp only [Nat.reduceMul, Nat.reduceAdd] at hV9 z0 z1 z2 z3 z4 z5 z6 z7 z8
      have HV9 : Hid (V9 = _) := hV9
      clear O1 g1 HK c0 hV9
      unfold cv calmH
      go_upto_region 7 with fail
      rw [← HV9.out]
      clear HV9 z0 z1 z2 z3 z4 z5 z6 z7 z8 zf
      go_wp2_with fail
      go_roundw
      case rel => exact ⟨6, _, by decide, rfl, HN.out⟩
      case measure => decide
    · rw [show ((6 : Nat) : Int) = (6 : Int) from rfl]
      have L0 := HK.out.lies
      rw [show noCards (6 - 6) = [] from rfl, List.append_nil] at L0
      have HL : Hid (U.heap[w.heap.size + 1]? = some (.cells (ecells es).toArray 56 (0, 0))) := L0
      clear L0
      go_wp2
      go_ret
      exact ⟨es, rfl, HK.out.is, HL.out, HK.out.own, HK.out.gr⟩
/-- A list of the suit's cards: in a block of its own; parts in blocks of theirs. -/
structure LAt (w w' : World) (g : Nat) (es : List Ent) : Prop where
  is : LIs es 6
  lies : w'.heap[g]? = some (.cells (ecells es).toArray 56 (0, 0))
  own : LOwn w.heap.size w' es
  low : w.heap.size ≤ g
  top : g < w'.heap.size
  other : ∀ e ∈ es, ∀ b, e.v.ownBlock = some b → g < b
  gr : w.grownBy w' none
theorem list_ai (w : World) : Calls Tryz.prog 79 #[] w fun e w' => ∃ g es, e = .returned (.slice (some ⟨g, 0, none⟩) 6 6) ∧ LAt w w' g es := by
  refine (list_ai0 w).mono ?_
  rintro e w' ⟨es, rfl, h1, h2, h3, h4⟩
  refine ⟨w.heap.size + 1, es, rfl, h1, h2, h3.low (by omega), by omega, block_lt h2, fun e he b hb => ?_, h4⟩
  have := ((h3.own e he).block b hb).1
  omega
theorem list_std (w : World) : Calls Tryz.prog 79 #[] w fun e w' => ∃ g es, e = .returned (.slice (some ⟨g, 0, none⟩) 6 6) ∧ SuL specL w w' g es := by
  refine (list_ai w).mono ?_
  rintro e w' ⟨g, es, rfl, A⟩
  exact ⟨g, es, rfl, A.is, A.lies, A.own.own, A.low, A.gr⟩
end Go.Proofs.YtknlcjhcamhfmaaGreatDoor.Ai
namespace Go.Proofs.YtknlcjhcamhfmaaGreatDoor.Ai
open Go.RowKit

def tCells : Array Value := #[.int .u8 1, .int .u8 8]
set_option maxHeartbeats 1000000 in
theorem traits (w : World) : Calls Tryz.prog 80 #[] w fun e w' => e = .returned (.slice (some ⟨w.heap.size, 0, none⟩) 2 2) ∧ w' = w.alloc (.cells tCells 57) := by
  go_enter Tryz.func80, Tryz.ntmps80
  go_wp2
  go_ret
  exact ⟨rfl, rfl⟩
set_option maxHeartbeats 1000000 in
theorem marks (w : World) : Calls Tryz.prog 81 #[] w fun e w' => e = .returned (.slice none 0 0) ∧ w' = w := by
  go_enter Tryz.func81, Tryz.ntmps81
  go_wp2
  go_ret
  exact ⟨rfl, rfl⟩
end Go.Proofs.YtknlcjhcamhfmaaGreatDoor.Ai
