/-
  The list of the cards of package void: in a block of its own, its cards' parts in blocks of theirs.
  Package void: Traits, Marks.
  The cards of package gold: what each of the functions makes.
-/
import Derived.Test.YtknlcjhcamhfmaaGreatDoorVo
import Derived.Test.YtknlcjhcamhfmaaGreatDoorJ14
namespace Go.Proofs.YtknlcjhcamhfmaaGreatDoor.Vo
open Go.RowKit

/-- A list of the suit's cards: in a block of its own, the last one made; parts in blocks of theirs. -/
structure LAt (w w' : World) (g : Nat) (es : List Ent) : Prop where
  is : LIs es 6
  lies : w'.heap[g]? = some (.cells (ecells es).toArray 56 (0, 0))
  own : LOwn w.heap.size w' es
  low : w.heap.size ≤ g
  last : w'.heap.size = g + 1
  ahead : ∀ e ∈ es, ∀ b, e.v.ownBlock = some b → b < g
  gr : w.grownBy w' none
set_option maxRecDepth 100000 in
set_option maxHeartbeats 4000000 in
theorem list_vo (w : World) : Calls Tryz.prog 95 #[] w fun e w' => ∃ g es, e = .returned (.slice (some ⟨g, 0, none⟩) 6 6) ∧ LAt w w' g es := by
  go_enter Tryz.func95, Tryz.ntmps95
  go_wp2_with fail
  refine (hush_any _).mono ?_
  rintro e w1 ⟨u1, rfl, O1, g1⟩
  obtain ⟨x1, y1, rfl⟩ := O1.at.form
  have HL1 : Hid (LOwn w.heap.size w1 [⟨hushH, .slice x1 hushP.length y1, hushP⟩]) := (LOwn.nil _ _).snoc g1 (Nat.le_refl _) O1
  have HG1 : Hid (w.grownBy w1 none) := g1
  clear O1 g1
  unfold cv hushH
  go_wp2_with fail
  refine (nullifier_any _).mono ?_
  rintro e w2 ⟨u2, rfl, O2, g2⟩
  obtain ⟨x2, y2, rfl⟩ := O2.at.form
  have HL2 : Hid (LOwn w.heap.size w2 [⟨hushH, .slice x1 hushP.length y1, hushP⟩, ⟨nullifierH, .slice x2 nullifierP.length y2, nullifierP⟩]) := HL1.out.snoc g2 HG1.out.size O2
  have HG2 : Hid (w.grownBy w2 none) := grown_trans HG1.out g2
  clear O2 g2 HL1 HG1
  unfold cv nullifierH
  go_wp2_with fail
  refine (shade_any _).mono ?_
  rintro e w3 ⟨u3, rfl, O3, g3⟩
  obtain ⟨x3, y3, rfl⟩ := O3.at.form
  have HL3 : Hid (LOwn w.heap.size w3 [⟨hushH, .slice x1 hushP.length y1, hushP⟩, ⟨nullifierH, .slice x2 nullifierP.length y2, nullifierP⟩, ⟨shadeH, .slice x3 shadeP.length y3, shadeP⟩]) := HL2.out.snoc g3 HG2.out.size O3
  have HG3 : Hid (w.grownBy w3 none) := grown_trans HG2.out g3
  clear O3 g3 HL2 HG2
  unfold cv shadeH
  go_wp2_with fail
  refine (thief_any _).mono ?_
  rintro e w4 ⟨u4, rfl, O4, g4⟩
  obtain ⟨x4, y4, rfl⟩ := O4.at.form
  have HL4 : Hid (LOwn w.heap.size w4 [⟨hushH, .slice x1 hushP.length y1, hushP⟩, ⟨nullifierH, .slice x2 nullifierP.length y2, nullifierP⟩, ⟨shadeH, .slice x3 shadeP.length y3, shadeP⟩, ⟨thiefH, .slice x4 thiefP.length y4, thiefP⟩]) := HL3.out.snoc g4 HG3.out.size O4
  have HG4 : Hid (w.grownBy w4 none) := grown_trans HG3.out g4
  clear O4 g4 HL3 HG3
  unfold cv thiefH
  go_wp2_with fail
  refine (hollow_any _).mono ?_
  rintro e w5 ⟨u5, rfl, O5, g5⟩
  obtain ⟨x5, y5, rfl⟩ := O5.at.form
  have HL5 : Hid (LOwn w.heap.size w5 [⟨hushH, .slice x1 hushP.length y1, hushP⟩, ⟨nullifierH, .slice x2 nullifierP.length y2, nullifierP⟩, ⟨shadeH, .slice x3 shadeP.length y3, shadeP⟩, ⟨thiefH, .slice x4 thiefP.length y4, thiefP⟩, ⟨hollowH, .slice x5 hollowP.length y5, hollowP⟩]) := HL4.out.snoc g5 HG4.out.size O5
  have HG5 : Hid (w.grownBy w5 none) := grown_trans HG4.out g5
  clear O5 g5 HL4 HG4
  unfold cv hollowH
  go_wp2_with fail
  refine (echo_any _).mono ?_
  rintro e w6 ⟨u6, rfl, O6, g6⟩
  obtain ⟨x6, y6, rfl⟩ := O6.at.form
  have HL6 : Hid (LOwn w.heap.size w6 [⟨hushH, .slice x1 hushP.length y1, hushP⟩, ⟨nullifierH, .slice x2 nullifierP.length y2, nullifierP⟩, ⟨shadeH, .slice x3 shadeP.length y3, shadeP⟩, ⟨thiefH, .slice x4 thiefP.length y4, thiefP⟩, ⟨hollowH, .slice x5 hollowP.length y5, hollowP⟩, ⟨echoH, .slice x6 echoP.length y6, echoP⟩]) := HL5.out.snoc g6 HG5.out.size O6
  have HG6 : Hid (w.grownBy w6 none) := grown_trans HG5.out g6
  clear O6 g6 HL5 HG5
  unfold cv echoH
  obtain ⟨W, hW⟩ : ∃ W, W = w6.alloc (.cells (ecells [⟨hushH, .slice x1 hushP.length y1, hushP⟩, ⟨nullifierH, .slice x2 nullifierP.length y2, nullifierP⟩, ⟨shadeH, .slice x3 shadeP.length y3, shadeP⟩, ⟨thiefH, .slice x4 thiefP.length y4, thiefP⟩, ⟨hollowH, .slice x5 hollowP.length y5, hollowP⟩, ⟨echoH, .slice x6 echoP.length y6, echoP⟩]).toArray 56) := ⟨_, rfl⟩
  have hR : ∃ g es, .returned (.slice (some ⟨w6.heap.size, 0, none⟩) 6 6) = Ending.returned (.slice (some ⟨g, 0, none⟩) 6 6) ∧ LAt w W g es := by
    refine ⟨w6.heap.size, [⟨hushH, .slice x1 hushP.length y1, hushP⟩, ⟨nullifierH, .slice x2 nullifierP.length y2, nullifierP⟩, ⟨shadeH, .slice x3 shadeP.length y3, shadeP⟩, ⟨thiefH, .slice x4 thiefP.length y4, thiefP⟩, ⟨hollowH, .slice x5 hollowP.length y5, hollowP⟩, ⟨echoH, .slice x6 echoP.length y6, echoP⟩], rfl, rfl, ?_, ?_, HG6.out.size, ?_, fun e he b hb => ((HL6.out.own e he).block b hb).2, ?_⟩
    · rw [hW]; exact alloc_at _ _ _
    · rw [hW]; exact HL6.out.keep (World.grownBy_alloc _ _ none)
    · rw [hW, World.size_alloc]
    · rw [hW]; exact grown_push HG6.out _
  have HR : Hid (∃ g es, .returned (.slice (some ⟨w6.heap.size, 0, none⟩) 6 6) = Ending.returned (.slice (some ⟨g, 0, none⟩) 6 6) ∧ LAt w W g es) := hR
  have HW : Hid (W = _) := hW
  clear hR hW HL6 HG6
  go_wp2
  have R := HR.out
  rw [HW.out] at R
  go_ret
  exact R
theorem list_std (w : World) : Calls Tryz.prog 95 #[] w fun e w' => ∃ g es, e = .returned (.slice (some ⟨g, 0, none⟩) 6 6) ∧ SuL specL w w' g es := by
  refine (list_vo w).mono ?_
  rintro e w' ⟨g, es, rfl, A⟩
  exact ⟨g, es, rfl, A.is, A.lies, A.own.own, A.low, A.gr⟩
end Go.Proofs.YtknlcjhcamhfmaaGreatDoor.Vo
namespace Go.Proofs.YtknlcjhcamhfmaaGreatDoor.Vo
open Go.RowKit

def tCells : Array Value := #[.int .u8 6]
set_option maxHeartbeats 1000000 in
theorem traits (w : World) : Calls Tryz.prog 96 #[] w fun e w' => e = .returned (.slice (some ⟨w.heap.size, 0, none⟩) 1 1) ∧ w' = w.alloc (.cells tCells 57) := by
  go_enter Tryz.func96, Tryz.ntmps96
  go_wp2
  go_ret
  exact ⟨rfl, rfl⟩
def mk : Mk := ⟨2, ⟨#[100, 111, 119, 110]⟩, (-1), (-1)⟩
def mCells : Array Value := #[.int .u8 2, .string ⟨#[100, 111, 119, 110]⟩, .int .i64 (-1), .int .i64 (-1)]
set_option maxHeartbeats 1000000 in
theorem marks (w : World) : Calls Tryz.prog 97 #[] w fun e w' => e = .returned (.slice (some ⟨w.heap.size, 0, none⟩) 1 1) ∧ w' = w.alloc (.cells mCells 60) := by
  go_enter Tryz.func97, Tryz.ntmps97
  go_wp2
  go_ret
  exact ⟨rfl, rfl⟩
end Go.Proofs.YtknlcjhcamhfmaaGreatDoor.Vo
namespace Go.Proofs.YtknlcjhcamhfmaaGreatDoor.Gd
open Go.RowKit

set_option maxHeartbeats 1000000 in
theorem with0_7 (w : World) : Calls Tryz.prog 211 #[.int .u16 0, .int .u8 7] w fun e w' => e = .returned (.int .u16 64) ∧ w' = w := by
  have b : Calls Tryz.prog 266 #[.int .u8 7] w fun e w' => e = .returned (.int .u16 64) ∧ w' = w := by
    have i : Calls Tryz.prog 241 #[.int .u8 7] w fun e w' => e = .returned (.bool true) ∧ w' = w := by
      go_enter Tryz.func241, Tryz.ntmps241
      go_wp2
      go_ret
      exact ⟨rfl, rfl⟩
    go_enter Tryz.func266, Tryz.ntmps266
    go_wp2_with (go_at_call 241; refine i.mono ?_; rintro e w' ⟨rfl, rfl⟩)
    go_ret
    exact ⟨rfl, rfl⟩
  go_enter Tryz.func211, Tryz.ntmps211
  go_wp2_with (go_at_call 266; refine b.mono ?_; rintro e w' ⟨rfl, rfl⟩)
  go_ret
  exact ⟨rfl, rfl⟩
set_option maxHeartbeats 1000000 in
theorem with0_2 (w : World) : Calls Tryz.prog 211 #[.int .u16 0, .int .u8 2] w fun e w' => e = .returned (.int .u16 2) ∧ w' = w := by
  have b : Calls Tryz.prog 266 #[.int .u8 2] w fun e w' => e = .returned (.int .u16 2) ∧ w' = w := by
    have i : Calls Tryz.prog 241 #[.int .u8 2] w fun e w' => e = .returned (.bool true) ∧ w' = w := by
      go_enter Tryz.func241, Tryz.ntmps241
      go_wp2
      go_ret
      exact ⟨rfl, rfl⟩
    go_enter Tryz.func266, Tryz.ntmps266
    go_wp2_with (go_at_call 241; refine i.mono ?_; rintro e w' ⟨rfl, rfl⟩)
    go_ret
    exact ⟨rfl, rfl⟩
  go_enter Tryz.func211, Tryz.ntmps211
  go_wp2_with (go_at_call 266; refine b.mono ?_; rintro e w' ⟨rfl, rfl⟩)
  go_ret
  exact ⟨rfl, rfl⟩
set_option maxHeartbeats 1000000 in
theorem with2_7 (w : World) : Calls Tryz.prog 211 #[.int .u16 2, .int .u8 7] w fun e w' => e = .returned (.int .u16 66) ∧ w' = w := by
  have b : Calls Tryz.prog 266 #[.int .u8 7] w fun e w' => e = .returned (.int .u16 64) ∧ w' = w := by
    have i : Calls Tryz.prog 241 #[.int .u8 7] w fun e w' => e = .returned (.bool true) ∧ w' = w := by
      go_enter Tryz.func241, Tryz.ntmps241
      go_wp2
      go_ret
      exact ⟨rfl, rfl⟩
    go_enter Tryz.func266, Tryz.ntmps266
    go_wp2_with (go_at_call 241; refine i.mono ?_; rintro e w' ⟨rfl, rfl⟩)
    go_ret
    exact ⟨rfl, rfl⟩
  go_enter Tryz.func211, Tryz.ntmps211
  go_wp2_with (go_at_call 266; refine b.mono ?_; rintro e w' ⟨rfl, rfl⟩)
  go_ret
  exact ⟨rfl, rfl⟩
set_option maxHeartbeats 1000000 in
theorem value0 (w : World) : Calls Tryz.prog 269 #[.int .i64 0] w fun e w' => e = .returned (.int .i64 3) ∧ w.grownBy w' none := by
  go_enter Tryz.func269, Tryz.ntmps269
  go_wp2_with fail
  refine (of_five 0 (by unfold Five; omega) _).mono ?_
  rintro e w1 ⟨rfl, g1⟩
  go_wp2
  go_ret
  exact ⟨rfl, g1⟩
set_option maxHeartbeats 1000000 in
theorem value1 (w : World) : Calls Tryz.prog 269 #[.int .i64 1] w fun e w' => e = .returned (.int .i64 2) ∧ w.grownBy w' none := by
  go_enter Tryz.func269, Tryz.ntmps269
  go_wp2_with fail
  refine (of_five 1 (by unfold Five; omega) _).mono ?_
  rintro e w1 ⟨rfl, g1⟩
  go_wp2
  go_ret
  exact ⟨rfl, g1⟩
set_option maxHeartbeats 1000000 in
theorem value2 (w : World) : Calls Tryz.prog 269 #[.int .i64 2] w fun e w' => e = .returned (.int .i64 7) ∧ w.grownBy w' none := by
  go_enter Tryz.func269, Tryz.ntmps269
  go_wp2_with fail
  refine (of_five 2 (by unfold Five; omega) _).mono ?_
  rintro e w1 ⟨rfl, g1⟩
  go_wp2
  go_ret
  exact ⟨rfl, g1⟩
def treasureH : Hd := ⟨⟨#[116, 114, 101, 97, 115, 117, 114, 101]⟩, 6, 2, 1, 0, 0, 0, false⟩
def treasureP : List Pt := [⟨1, 5, 1, 2, 0, 0, 0, ⟨#[]⟩⟩, ⟨1, 7, 1, 1, 0, 0, 0, ⟨#[99, 111, 105, 110]⟩⟩]
def coinH : Hd := ⟨⟨#[99, 111, 105, 110]⟩, 6, 1, 0, 1, 1, 64, true⟩
def coinP : List Pt := []
def statueH : Hd := ⟨⟨#[115, 116, 97, 116, 117, 101]⟩, 6, 1, 2, 0, 6, 66, false⟩
def statueP : List Pt := [⟨1, 9, 4, 1, 0, 0, 3, ⟨#[]⟩⟩, ⟨6, 19, 4, 1, 0, 0, 0, ⟨#[]⟩⟩]
def idolH : Hd := ⟨⟨#[105, 100, 111, 108]⟩, 6, 3, 3, 0, 0, 0, false⟩
def idolP : List Pt := [⟨5, 11, 5, 0, 6, 0, 0, ⟨#[]⟩⟩, ⟨3, 9, 9, 1, 6, 0, 1, ⟨#[]⟩⟩]
def taxManH : Hd := ⟨⟨#[116, 97, 120, 45, 109, 97, 110]⟩, 6, 1, 3, 2, 3, 0, false⟩
def taxManP : List Pt := [⟨1, 4, 2, 1, 0, 0, 0, ⟨#[]⟩⟩, ⟨3, 5, 1, 1, 0, 0, 0, ⟨#[]⟩⟩]
def midasH : Hd := ⟨⟨#[109, 105, 100, 97, 115]⟩, 6, 1, 7, 4, 4, 0, false⟩
def midasP : List Pt := [⟨5, 11, 7, 0, 6, 0, 0, ⟨#[]⟩⟩, ⟨4, 5, 1, 1, 0, 0, 0, ⟨#[]⟩⟩]
set_option maxRecDepth 100000 in
set_option maxHeartbeats 1000000 in
theorem treasure_any (w : World) : Calls Tryz.prog 235 #[] w fun e w' => ∃ u, e = .returned (cv treasureH u) ∧ Own8 w.heap.size w' u treasureP ∧ w.grownBy w' none := by
  have A0 : CAt (w.alloc (.cells (ccs Hd.none (.slice none 0 0)) 56)) w.heap.size Hd.none (.slice none 0 0) := alloc_at _ _ _
  have HA0 : Hid (CAt (w.alloc (.cells (ccs Hd.none (.slice none 0 0)) 56)) w.heap.size Hd.none (.slice none 0 0)) := A0
  clear A0
  go_enter Tryz.func235, Tryz.ntmps235
  go_wp2
  have A : (World.alloc (World.alloc w (Obj.cells (ccs treasureH (.slice (some ⟨w.heap.size + 1, 0, none⟩) 2 2)) 56)) (Obj.cells #[.int .u8 1, .int .u8 5, .int .u8 1, .int .i64 2, .int .u8 0, .int .u8 0, .int .u8 0, .string ⟨#[]⟩, .int .u8 1, .int .u8 7, .int .u8 1, .int .i64 1, .int .u8 0, .int .u8 0, .int .u8 0, .string ⟨#[99, 111, 105, 110]⟩] 115)).heap[w.heap.size + 1]? = some (.cells #[.int .u8 1, .int .u8 5, .int .u8 1, .int .i64 2, .int .u8 0, .int .u8 0, .int .u8 0, .string ⟨#[]⟩, .int .u8 1, .int .u8 7, .int .u8 1, .int .i64 1, .int .u8 0, .int .u8 0, .int .u8 0, .string ⟨#[99, 111, 105, 110]⟩] 115 (0, 0)) := by
    have h0 := alloc_at (World.alloc w (Obj.cells (ccs treasureH (.slice (some ⟨w.heap.size + 1, 0, none⟩) 2 2)) 56)) #[.int .u8 1, .int .u8 5, .int .u8 1, .int .i64 2, .int .u8 0, .int .u8 0, .int .u8 0, .string ⟨#[]⟩, .int .u8 1, .int .u8 7, .int .u8 1, .int .i64 1, .int .u8 0, .int .u8 0, .int .u8 0, .string ⟨#[99, 111, 105, 110]⟩] 115
    rw [World.size_alloc] at h0
    exact h0
  refine bodyPost_ret (v := cv treasureH (.slice (some ⟨w.heap.size + 1, 0, none⟩) 2 2)) (by simp [results, Tryz.results235, go_sem, cv, treasureH]) rfl ⟨_, rfl, Or.inr ⟨w.heap.size + 1, rfl, A, by omega⟩, grown_push (World.grownBy_alloc _ _ none) _⟩
set_option maxRecDepth 100000 in
set_option maxHeartbeats 1000000 in
theorem coin_any (w : World) : Calls Tryz.prog 236 #[] w fun e w' => ∃ u, e = .returned (cv coinH u) ∧ Own8 w.heap.size w' u coinP ∧ w.grownBy w' none := by
  have A0 : CAt (w.alloc (.cells (ccs Hd.none (.slice none 0 0)) 56)) w.heap.size Hd.none (.slice none 0 0) := alloc_at _ _ _
  have HA0 : Hid (CAt (w.alloc (.cells (ccs Hd.none (.slice none 0 0)) 56)) w.heap.size Hd.none (.slice none 0 0)) := A0
  clear A0
  unfold ccs Hd.none at HA0
  go_enter Tryz.func236, Tryz.ntmps236
  go_wp2_with fail
  refine (with0_7 _).mono ?_
  rintro e w1 ⟨rfl, h1⟩
  obtain ⟨w0, hw0⟩ : ∃ w0, w0 = w1 := ⟨_, rfl⟩
  have g1 : (w.alloc (.cells #[.string ⟨#[]⟩, .int .u8 0, .int .u8 0, .int .i64 0, .int .i64 0, .int .i64 0, .int .u16 0, .bool false, .slice none 0 0] 56)).grownBy w1 none := h1 ▸ grown_refl _ _
  clear h1 hw0 w0
  have HG : Hid (w.grownBy w1 none) := grown_trans (World.grownBy_alloc _ _ none) g1
  have C1 : CAt w1 w.heap.size Hd.none (.slice none 0 0) := CAt.keepR HA0.out g1 (by simp)
  have hlt := block_lt C1
  clear g1 HA0
  obtain ⟨z0, z1, z2, z3, z4, z5, z6, z7, z8⟩ := C1.cells
  have zf := fun i => C1.free i
  simp only [Hd.none] at z0 z1 z2 z3 z4 z5 z6 z7 z8
  go_wp2
  refine bodyPost_ret (v := cv coinH (.slice none 0 0)) (by simp [results, Tryz.results236, go_sem, cv, coinH, z0, z1, z2, z3, z4, z5, z6, z7, z8]) rfl ⟨_, rfl, Or.inl ⟨rfl, rfl⟩, ?_⟩
  have h9 := grown_own HG.out (grown_s9 w1 w.heap.size 0 coinH (.slice none 0 0)) (fun x e => by cases e; exact Nat.le_refl _)
  unfold set9 coinH at h9
  simp only [Nat.zero_add] at h9
  exact h9
set_option maxRecDepth 100000 in
set_option maxHeartbeats 1000000 in
theorem statue_any (w : World) : Calls Tryz.prog 237 #[] w fun e w' => ∃ u, e = .returned (cv statueH u) ∧ Own8 w.heap.size w' u statueP ∧ w.grownBy w' none := by
  have A0 : CAt (w.alloc (.cells (ccs Hd.none (.slice none 0 0)) 56)) w.heap.size Hd.none (.slice none 0 0) := alloc_at _ _ _
  have HA0 : Hid (CAt (w.alloc (.cells (ccs Hd.none (.slice none 0 0)) 56)) w.heap.size Hd.none (.slice none 0 0)) := A0
  clear A0
  unfold ccs Hd.none at HA0
  go_enter Tryz.func237, Tryz.ntmps237
  go_wp2_with fail
  refine (value1 _).mono ?_
  rintro e w1 ⟨rfl, g1⟩
  go_wp2_with fail
  refine (value2 _).mono ?_
  rintro e w2 ⟨rfl, g2⟩
  go_wp2_with fail
  refine (with0_2 _).mono ?_
  rintro e w3 ⟨rfl, h3⟩
  have g3 : World.grownBy w2 w3 none := h3 ▸ grown_refl _ _
  clear h3
  go_wp2_with fail
  refine (with2_7 _).mono ?_
  rintro e w4 ⟨rfl, h4⟩
  have g4 : World.grownBy w3 w4 none := h4 ▸ grown_refl _ _
  clear h4
  have HG : Hid (w.grownBy w4 none) := grown_trans (World.grownBy_alloc _ _ none) (grown_trans (grown_trans (grown_trans g1 g2) g3) g4)
  have C1 : CAt w4 w.heap.size Hd.none (.slice none 0 0) := CAt.keepR HA0.out (grown_trans (grown_trans (grown_trans g1 g2) g3) g4) (by simp)
  have hlt := block_lt C1
  clear g1 g2 g3 g4 HA0
  obtain ⟨W9, hW9⟩ : ∃ W9, W9 = set9 w4 w.heap.size 0 statueH (.slice (some ⟨w4.heap.size, 0, none⟩) 2 2) := ⟨_, rfl⟩
  have S9 : W9.heap.size = w4.heap.size := by rw [hW9]; exact size_set9 _ _ _ _ _
  have HC9 : Hid (CAt (W9.alloc (.cells #[.int .u8 1, .int .u8 9, .int .u8 4, .int .i64 1, .int .u8 0, .int .u8 0, .int .u8 3, .string ⟨#[]⟩, .int .u8 6, .int .u8 19, .int .u8 4, .int .i64 1, .int .u8 0, .int .u8 0, .int .u8 0, .string ⟨#[]⟩] 115)) w.heap.size statueH (.slice (some ⟨w4.heap.size, 0, none⟩) 2 2)) := by rw [hW9]; exact (C1.s9 _ _).keepR (World.grownBy_alloc _ _ none) (by simp)
  have HG9 : Hid (w.grownBy (W9.alloc (.cells #[.int .u8 1, .int .u8 9, .int .u8 4, .int .i64 1, .int .u8 0, .int .u8 0, .int .u8 3, .string ⟨#[]⟩, .int .u8 6, .int .u8 19, .int .u8 4, .int .i64 1, .int .u8 0, .int .u8 0, .int .u8 0, .string ⟨#[]⟩] 115)) none) := by rw [hW9]; exact grown_push (grown_own HG.out (grown_s9 _ _ _ _ _) (fun x e => by cases e; exact Nat.le_refl _)) _
  have HP9 : Hid (PB (W9.alloc (.cells #[.int .u8 1, .int .u8 9, .int .u8 4, .int .i64 1, .int .u8 0, .int .u8 0, .int .u8 3, .string ⟨#[]⟩, .int .u8 6, .int .u8 19, .int .u8 4, .int .i64 1, .int .u8 0, .int .u8 0, .int .u8 0, .string ⟨#[]⟩] 115)) w4.heap.size statueP) := by rw [← S9]; exact alloc_at _ _ _
  obtain ⟨z0, z1, z2, z3, z4, z5, z6, z7, z8⟩ := C1.cells
  have zf := fun i => C1.free i
  simp only [Hd.none] at z0 z1 z2 z3 z4 z5 z6 z7 z8
  unfold set9 statueH at hW9
  simp only [Nat.zero_add] at hW9
  have HW9 : Hid (W9 = _) := hW9
  clear C1 hW9 S9
  go_wp2
  rw [← HW9.out]
  obtain ⟨y0, y1, y2, y3, y4, y5, y6, y7, y8⟩ := HC9.out.cells
  unfold statueH at y0 y1 y2 y3 y4 y5 y6 y7
  simp only at y0 y1 y2 y3 y4 y5 y6 y7
  refine bodyPost_ret (v := cv statueH (.slice (some ⟨w4.heap.size, 0, none⟩) 2 2)) (by simp only [results, Tryz.results237]; simp [go_sem, cv, statueH, y0, y1, y2, y3, y4, y5, y6, y7, y8]) rfl ⟨_, rfl, Or.inr ⟨w4.heap.size, rfl, HP9.out, by omega⟩, HG9.out⟩
set_option maxRecDepth 100000 in
set_option maxHeartbeats 1000000 in
theorem idol_any (w : World) : Calls Tryz.prog 238 #[] w fun e w' => ∃ u, e = .returned (cv idolH u) ∧ Own8 w.heap.size w' u idolP ∧ w.grownBy w' none := by
  have A0 : CAt (w.alloc (.cells (ccs Hd.none (.slice none 0 0)) 56)) w.heap.size Hd.none (.slice none 0 0) := alloc_at _ _ _
  have HA0 : Hid (CAt (w.alloc (.cells (ccs Hd.none (.slice none 0 0)) 56)) w.heap.size Hd.none (.slice none 0 0)) := A0
  clear A0
  unfold ccs Hd.none at HA0
  go_enter Tryz.func238, Tryz.ntmps238
  go_wp2_with fail
  refine (value0 _).mono ?_
  rintro e w1 ⟨rfl, g1⟩
  have HG : Hid (w.grownBy w1 none) := grown_trans (World.grownBy_alloc _ _ none) g1
  have C1 : CAt w1 w.heap.size Hd.none (.slice none 0 0) := CAt.keepR HA0.out g1 (by simp)
  have hlt := block_lt C1
  clear g1 HA0
  obtain ⟨W9, hW9⟩ : ∃ W9, W9 = set9 w1 w.heap.size 0 idolH (.slice (some ⟨w1.heap.size, 0, none⟩) 2 2) := ⟨_, rfl⟩
  have S9 : W9.heap.size = w1.heap.size := by rw [hW9]; exact size_set9 _ _ _ _ _
  have HC9 : Hid (CAt (W9.alloc (.cells #[.int .u8 5, .int .u8 11, .int .u8 5, .int .i64 0, .int .u8 6, .int .u8 0, .int .u8 0, .string ⟨#[]⟩, .int .u8 3, .int .u8 9, .int .u8 9, .int .i64 1, .int .u8 6, .int .u8 0, .int .u8 1, .string ⟨#[]⟩] 115)) w.heap.size idolH (.slice (some ⟨w1.heap.size, 0, none⟩) 2 2)) := by rw [hW9]; exact (C1.s9 _ _).keepR (World.grownBy_alloc _ _ none) (by simp)
  have HG9 : Hid (w.grownBy (W9.alloc (.cells #[.int .u8 5, .int .u8 11, .int .u8 5, .int .i64 0, .int .u8 6, .int .u8 0, .int .u8 0, .string ⟨#[]⟩, .int .u8 3, .int .u8 9, .int .u8 9, .int .i64 1, .int .u8 6, .int .u8 0, .int .u8 1, .string ⟨#[]⟩] 115)) none) := by rw [hW9]; exact grown_push (grown_own HG.out (grown_s9 _ _ _ _ _) (fun x e => by cases e; exact Nat.le_refl _)) _
  have HP9 : Hid (PB (W9.alloc (.cells #[.int .u8 5, .int .u8 11, .int .u8 5, .int .i64 0, .int .u8 6, .int .u8 0, .int .u8 0, .string ⟨#[]⟩, .int .u8 3, .int .u8 9, .int .u8 9, .int .i64 1, .int .u8 6, .int .u8 0, .int .u8 1, .string ⟨#[]⟩] 115)) w1.heap.size idolP) := by rw [← S9]; exact alloc_at _ _ _
  obtain ⟨z0, z1, z2, z3, z4, z5, z6, z7, z8⟩ := C1.cells
  have zf := fun i => C1.free i
  simp only [Hd.none] at z0 z1 z2 z3 z4 z5 z6 z7 z8
  unfold set9 idolH at hW9
  simp only [Nat.zero_add] at hW9
  have HW9 : Hid (W9 = _) := hW9
  clear C1 hW9 S9
  go_wp2
  rw [← HW9.out]
  obtain ⟨y0, y1, y2, y3, y4, y5, y6, y7, y8⟩ := HC9.out.cells
  unfold idolH at y0 y1 y2 y3 y4 y5 y6 y7
  simp only at y0 y1 y2 y3 y4 y5 y6 y7
  refine bodyPost_ret (v := cv idolH (.slice (some ⟨w1.heap.size, 0, none⟩) 2 2)) (by simp only [results, Tryz.results238]; simp [go_sem, cv, idolH, y0, y1, y2, y3, y4, y5, y6, y7, y8]) rfl ⟨_, rfl, Or.inr ⟨w1.heap.size, rfl, HP9.out, by omega⟩, HG9.out⟩
set_option maxRecDepth 100000 in
set_option maxHeartbeats 1000000 in
theorem taxMan_any (w : World) : Calls Tryz.prog 239 #[] w fun e w' => ∃ u, e = .returned (cv taxManH u) ∧ Own8 w.heap.size w' u taxManP ∧ w.grownBy w' none := by
  have A0 : CAt (w.alloc (.cells (ccs Hd.none (.slice none 0 0)) 56)) w.heap.size Hd.none (.slice none 0 0) := alloc_at _ _ _
  have HA0 : Hid (CAt (w.alloc (.cells (ccs Hd.none (.slice none 0 0)) 56)) w.heap.size Hd.none (.slice none 0 0)) := A0
  clear A0
  unfold ccs Hd.none at HA0
  go_enter Tryz.func239, Tryz.ntmps239
  go_wp2_with fail
  refine (value0 _).mono ?_
  rintro e w1 ⟨rfl, g1⟩
  go_wp2_with fail
  refine (value1 _).mono ?_
  rintro e w2 ⟨rfl, g2⟩
  go_wp2_with fail
  refine (value0 _).mono ?_
  rintro e w3 ⟨rfl, g3⟩
  have HG : Hid (w.grownBy w3 none) := grown_trans (World.grownBy_alloc _ _ none) (grown_trans (grown_trans g1 g2) g3)
  have C1 : CAt w3 w.heap.size Hd.none (.slice none 0 0) := CAt.keepR HA0.out (grown_trans (grown_trans g1 g2) g3) (by simp)
  have hlt := block_lt C1
  clear g1 g2 g3 HA0
  obtain ⟨W9, hW9⟩ : ∃ W9, W9 = set9 w3 w.heap.size 0 taxManH (.slice (some ⟨w3.heap.size, 0, none⟩) 2 2) := ⟨_, rfl⟩
  have S9 : W9.heap.size = w3.heap.size := by rw [hW9]; exact size_set9 _ _ _ _ _
  have HC9 : Hid (CAt (W9.alloc (.cells #[.int .u8 1, .int .u8 4, .int .u8 2, .int .i64 1, .int .u8 0, .int .u8 0, .int .u8 0, .string ⟨#[]⟩, .int .u8 3, .int .u8 5, .int .u8 1, .int .i64 1, .int .u8 0, .int .u8 0, .int .u8 0, .string ⟨#[]⟩] 115)) w.heap.size taxManH (.slice (some ⟨w3.heap.size, 0, none⟩) 2 2)) := by rw [hW9]; exact (C1.s9 _ _).keepR (World.grownBy_alloc _ _ none) (by simp)
  have HG9 : Hid (w.grownBy (W9.alloc (.cells #[.int .u8 1, .int .u8 4, .int .u8 2, .int .i64 1, .int .u8 0, .int .u8 0, .int .u8 0, .string ⟨#[]⟩, .int .u8 3, .int .u8 5, .int .u8 1, .int .i64 1, .int .u8 0, .int .u8 0, .int .u8 0, .string ⟨#[]⟩] 115)) none) := by rw [hW9]; exact grown_push (grown_own HG.out (grown_s9 _ _ _ _ _) (fun x e => by cases e; exact Nat.le_refl _)) _
  have HP9 : Hid (PB (W9.alloc (.cells #[.int .u8 1, .int .u8 4, .int .u8 2, .int .i64 1, .int .u8 0, .int .u8 0, .int .u8 0, .string ⟨#[]⟩, .int .u8 3, .int .u8 5, .int .u8 1, .int .i64 1, .int .u8 0, .int .u8 0, .int .u8 0, .string ⟨#[]⟩] 115)) w3.heap.size taxManP) := by rw [← S9]; exact alloc_at _ _ _
  obtain ⟨z0, z1, z2, z3, z4, z5, z6, z7, z8⟩ := C1.cells
  have zf := fun i => C1.free i
  simp only [Hd.none] at z0 z1 z2 z3 z4 z5 z6 z7 z8
  unfold set9 taxManH at hW9
  simp only [Nat.zero_add] at hW9
  have HW9 : Hid (W9 = _) := hW9
  clear C1 hW9 S9
  go_wp2
  rw [← HW9.out]
  obtain ⟨y0, y1, y2, y3, y4, y5, y6, y7, y8⟩ := HC9.out.cells
  unfold taxManH at y0 y1 y2 y3 y4 y5 y6 y7
  simp only at y0 y1 y2 y3 y4 y5 y6 y7
  refine bodyPost_ret (v := cv taxManH (.slice (some ⟨w3.heap.size, 0, none⟩) 2 2)) (by simp only [results, Tryz.results239]; simp [go_sem, cv, taxManH, y0, y1, y2, y3, y4, y5, y6, y7, y8]) rfl ⟨_, rfl, Or.inr ⟨w3.heap.size, rfl, HP9.out, by omega⟩, HG9.out⟩
set_option maxRecDepth 100000 in
set_option maxHeartbeats 1000000 in
theorem midas_any (w : World) : Calls Tryz.prog 240 #[] w fun e w' => ∃ u, e = .returned (cv midasH u) ∧ Own8 w.heap.size w' u midasP ∧ w.grownBy w' none := by
  have A0 : CAt (w.alloc (.cells (ccs Hd.none (.slice none 0 0)) 56)) w.heap.size Hd.none (.slice none 0 0) := alloc_at _ _ _
  have HA0 : Hid (CAt (w.alloc (.cells (ccs Hd.none (.slice none 0 0)) 56)) w.heap.size Hd.none (.slice none 0 0)) := A0
  clear A0
  unfold ccs Hd.none at HA0
  go_enter Tryz.func240, Tryz.ntmps240
  go_wp2_with fail
  refine (value2 _).mono ?_
  rintro e w1 ⟨rfl, g1⟩
  have HG : Hid (w.grownBy w1 none) := grown_trans (World.grownBy_alloc _ _ none) g1
  have C1 : CAt w1 w.heap.size Hd.none (.slice none 0 0) := CAt.keepR HA0.out g1 (by simp)
  have hlt := block_lt C1
  clear g1 HA0
  obtain ⟨W9, hW9⟩ : ∃ W9, W9 = set9 w1 w.heap.size 0 midasH (.slice (some ⟨w1.heap.size, 0, none⟩) 2 2) := ⟨_, rfl⟩
  have S9 : W9.heap.size = w1.heap.size := by rw [hW9]; exact size_set9 _ _ _ _ _
  have HC9 : Hid (CAt (W9.alloc (.cells #[.int .u8 5, .int .u8 11, .int .u8 7, .int .i64 0, .int .u8 6, .int .u8 0, .int .u8 0, .string ⟨#[]⟩, .int .u8 4, .int .u8 5, .int .u8 1, .int .i64 1, .int .u8 0, .int .u8 0, .int .u8 0, .string ⟨#[]⟩] 115)) w.heap.size midasH (.slice (some ⟨w1.heap.size, 0, none⟩) 2 2)) := by rw [hW9]; exact (C1.s9 _ _).keepR (World.grownBy_alloc _ _ none) (by simp)
  have HG9 : Hid (w.grownBy (W9.alloc (.cells #[.int .u8 5, .int .u8 11, .int .u8 7, .int .i64 0, .int .u8 6, .int .u8 0, .int .u8 0, .string ⟨#[]⟩, .int .u8 4, .int .u8 5, .int .u8 1, .int .i64 1, .int .u8 0, .int .u8 0, .int .u8 0, .string ⟨#[]⟩] 115)) none) := by rw [hW9]; exact grown_push (grown_own HG.out (grown_s9 _ _ _ _ _) (fun x e => by cases e; exact Nat.le_refl _)) _
  have HP9 : Hid (PB (W9.alloc (.cells #[.int .u8 5, .int .u8 11, .int .u8 7, .int .i64 0, .int .u8 6, .int .u8 0, .int .u8 0, .string ⟨#[]⟩, .int .u8 4, .int .u8 5, .int .u8 1, .int .i64 1, .int .u8 0, .int .u8 0, .int .u8 0, .string ⟨#[]⟩] 115)) w1.heap.size midasP) := by rw [← S9]; exact alloc_at _ _ _
  obtain ⟨z0, z1, z2, z3, z4, z5, z6, z7, z8⟩ := C1.cells
  have zf := fun i => C1.free i
  simp only [Hd.none] at z0 z1 z2 z3 z4 z5 z6 z7 z8
  unfold set9 midasH at hW9
  simp only [Nat.zero_add] at hW9
  have HW9 : Hid (W9 = _) := hW9
  clear C1 hW9 S9
  go_wp2
  rw [← HW9.out]
  obtain ⟨y0, y1, y2, y3, y4, y5, y6, y7, y8⟩ := HC9.out.cells
  unfold midasH at y0 y1 y2 y3 y4 y5 y6 y7
  simp only at y0 y1 y2 y3 y4 y5 y6 y7
  refine bodyPost_ret (v := cv midasH (.slice (some ⟨w1.heap.size, 0, none⟩) 2 2)) (by simp only [results, Tryz.results240]; simp [go_sem, cv, midasH, y0, y1, y2, y3, y4, y5, y6, y7, y8]) rfl ⟨_, rfl, Or.inr ⟨w1.heap.size, rfl, HP9.out, by omega⟩, HG9.out⟩
def specL : List (Hd × List Pt) := [(treasureH, treasureP), (coinH, coinP), (statueH, statueP), (idolH, idolP), (taxManH, taxManP), (midasH, midasP)]
def LIs (es : List Ent) (k : Nat) : Prop := es.map (fun e => (e.h, e.ps)) = specL.take k
theorem LIs.len {es : List Ent} {k : Nat} (h : LIs es k) (hk : k ≤ 6) : es.length = k := by
  have h0 := congrArg List.length h
  have hl : specL.length = 6 := rfl
  simp only [List.length_map, List.length_take, hl] at h0
  omega
theorem spec_four : ∀ x ∈ specL, x.2.length ≤ 4 := by decide +kernel
theorem LIs.four {es : List Ent} (h : LIs es 6) {e : Ent} (he : e ∈ es) : e.ps.length ≤ 4 := by
  unfold LIs at h
  have h1 : (e.h, e.ps) ∈ specL.take 6 := by rw [← h]; exact List.mem_map.2 ⟨e, he, rfl⟩
  exact spec_four _ (List.mem_of_mem_take h1)
end Go.Proofs.YtknlcjhcamhfmaaGreatDoor.Gd
