/-
  The list of the cards of package void: in a block of its own, its cards' parts in blocks of theirs.
-/
import Derived.Test.YtjjldjmcbmkkdaaGreatVo
namespace Go.Proofs.YtjjldjmcbmkkdaaGreat
open Go.RowKit

/-- A list of the suit's cards: in a block of its own, the last one made; parts in blocks of theirs. -/
structure LAt (w w' : World) (g : Nat) (es : List Ent) : Prop where
  is : LIs es 6
  lies : w'.heap[g]? = some (.cells (ecells es).toArray 31 (0, 0))
  own : LOwn w.heap.size w' es
  low : w.heap.size ≤ g
  last : w'.heap.size = g + 1
  ahead : ∀ e ∈ es, ∀ b, e.v.ownBlock = some b → b < g
  gr : w.grownBy w' none
set_option maxRecDepth 100000 in
set_option maxHeartbeats 4000000 in
theorem list_vo (w : World) : Calls Tryz.prog 4 #[] w fun e w' => ∃ g es, e = .returned (.slice (some ⟨g, 0, none⟩) 6 6) ∧ LAt w w' g es := by
  go_enter Tryz.func4, Tryz.ntmps4
  go_wp2_with fail
  refine (hush_any _).mono ?_
  rintro e w1 ⟨u1, rfl, O1, g1⟩
  obtain ⟨x1, y1, rfl⟩ := O1.at.form
  have HL1 : Hid (LOwn w.heap.size w1 [⟨hushH, .slice x1 hushP.length y1, hushP⟩]) := (LOwn.nil _ _).snoc g1 (Nat.le_refl _) O1
  have HG1 : Hid (w.grownBy w1 none) := g1
  clear O1 g1
  unfold cv hushH
  go_wp2_with fail
  refine (nullifier_any _).mono ?_
  rintro e w2 ⟨u2, rfl, O2, g2⟩
  obtain ⟨x2, y2, rfl⟩ := O2.at.form
  have HL2 : Hid (LOwn w.heap.size w2 [⟨hushH, .slice x1 hushP.length y1, hushP⟩, ⟨nullifierH, .slice x2 nullifierP.length y2, nullifierP⟩]) := HL1.out.snoc g2 HG1.out.size O2
  have HG2 : Hid (w.grownBy w2 none) := grown_trans HG1.out g2
  clear O2 g2 HL1 HG1
  unfold cv nullifierH
  go_wp2_with fail
  refine (shade_any _).mono ?_
  rintro e w3 ⟨u3, rfl, O3, g3⟩
  obtain ⟨x3, y3, rfl⟩ := O3.at.form
  have HL3 : Hid (LOwn w.heap.size w3 [⟨hushH, .slice x1 hushP.length y1, hushP⟩, ⟨nullifierH, .slice x2 nullifierP.length y2, nullifierP⟩, ⟨shadeH, .slice x3 shadeP.length y3, shadeP⟩]) := HL2.out.snoc g3 HG2.out.size O3
  have HG3 : Hid (w.grownBy w3 none) := grown_trans HG2.out g3
  clear O3 g3 HL2 HG2
  unfold cv shadeH
  go_wp2_with fail
  refine (thief_any _).mono ?_
  rintro e w4 ⟨u4, rfl, O4, g4⟩
  obtain ⟨x4, y4, rfl⟩ := O4.at.form
  have HL4 : Hid (LOwn w.heap.size w4 [⟨hushH, .slice x1 hushP.length y1, hushP⟩, ⟨nullifierH, .slice x2 nullifierP.length y2, nullifierP⟩, ⟨shadeH, .slice x3 shadeP.length y3, shadeP⟩, ⟨thiefH, .slice x4 thiefP.length y4, thiefP⟩]) := HL3.out.snoc g4 HG3.out.size O4
  have HG4 : Hid (w.grownBy w4 none) := grown_trans HG3.out g4
  clear O4 g4 HL3 HG3
  unfold cv thiefH
  go_wp2_with fail
  refine (hollow_any _).mono ?_
  rintro e w5 ⟨u5, rfl, O5, g5⟩
  obtain ⟨x5, y5, rfl⟩ := O5.at.form
  have HL5 : Hid (LOwn w.heap.size w5 [⟨hushH, .slice x1 hushP.length y1, hushP⟩, ⟨nullifierH, .slice x2 nullifierP.length y2, nullifierP⟩, ⟨shadeH, .slice x3 shadeP.length y3, shadeP⟩, ⟨thiefH, .slice x4 thiefP.length y4, thiefP⟩, ⟨hollowH, .slice x5 hollowP.length y5, hollowP⟩]) := HL4.out.snoc g5 HG4.out.size O5
  have HG5 : Hid (w.grownBy w5 none) := grown_trans HG4.out g5
  clear O5 g5 HL4 HG4
  unfold cv hollowH
  go_wp2_with fail
  refine (echo_any _).mono ?_
  rintro e w6 ⟨u6, rfl, O6, g6⟩
  obtain ⟨x6, y6, rfl⟩ := O6.at.form
  have HL6 : Hid (LOwn w.heap.size w6 [⟨hushH, .slice x1 hushP.length y1, hushP⟩, ⟨nullifierH, .slice x2 nullifierP.length y2, nullifierP⟩, ⟨shadeH, .slice x3 shadeP.length y3, shadeP⟩, ⟨thiefH, .slice x4 thiefP.length y4, thiefP⟩, ⟨hollowH, .slice x5 hollowP.length y5, hollowP⟩, ⟨echoH, .slice x6 echoP.length y6, echoP⟩]) := HL5.out.snoc g6 HG5.out.size O6
  have HG6 : Hid (w.grownBy w6 none) := grown_trans HG5.out g6
  clear O6 g6 HL5 HG5
  unfold cv echoH
  obtain ⟨W, hW⟩ : ∃ W, W = w6.alloc (.cells (ecells [⟨hushH, .slice x1 hushP.length y1, hushP⟩, ⟨nullifierH, .slice x2 nullifierP.length y2, nullifierP⟩, ⟨shadeH, .slice x3 shadeP.length y3, shadeP⟩, ⟨thiefH, .slice x4 thiefP.length y4, thiefP⟩, ⟨hollowH, .slice x5 hollowP.length y5, hollowP⟩, ⟨echoH, .slice x6 echoP.length y6, echoP⟩]).toArray 31) := ⟨_, rfl⟩
  have hR : ∃ g es, .returned (.slice (some ⟨w6.heap.size, 0, none⟩) 6 6) = Ending.returned (.slice (some ⟨g, 0, none⟩) 6 6) ∧ LAt w W g es := by
    refine ⟨w6.heap.size, [⟨hushH, .slice x1 hushP.length y1, hushP⟩, ⟨nullifierH, .slice x2 nullifierP.length y2, nullifierP⟩, ⟨shadeH, .slice x3 shadeP.length y3, shadeP⟩, ⟨thiefH, .slice x4 thiefP.length y4, thiefP⟩, ⟨hollowH, .slice x5 hollowP.length y5, hollowP⟩, ⟨echoH, .slice x6 echoP.length y6, echoP⟩], rfl, rfl, ?_, ?_, HG6.out.size, ?_, fun e he b hb => ((HL6.out.own e he).block b hb).2, ?_⟩
    · rw [hW]; exact alloc_at _ _ _
    · rw [hW]; exact HL6.out.keep (World.grownBy_alloc _ _ none)
    · rw [hW, World.size_alloc]
    · rw [hW]; exact grown_push HG6.out _
  have HR : Hid (∃ g es, .returned (.slice (some ⟨w6.heap.size, 0, none⟩) 6 6) = Ending.returned (.slice (some ⟨g, 0, none⟩) 6 6) ∧ LAt w W g es) := hR
  have HW : Hid (W = _) := hW
  clear hR hW HL6 HG6
  go_wp2
  have R := HR.out
  rw [HW.out] at R
  go_ret
  exact R
end Go.Proofs.YtjjldjmcbmkkdaaGreat
