/-
  The document's own answer for water: its list of cards, traits, marks.
  The document's own answer for void: its list of cards, traits, marks.
  The document's own answer for gold: its list of cards, traits, marks.
  The table of the six suits: names and functions.
  The document's fills, plainly: where they lie; a book that is filled.
-/
import Derived.Test.YtknlcjhcamhfmaaGreatDoorJ18
import Derived.Test.YtknlcjhcamhfmaaGreatDoorJ31
import Derived.Test.YtknlcjhcamhfmaaGreatDoorJ20
import Derived.Test.YtknlcjhcamhfmaaGreatDoorJ21
import Derived.Test.YtknlcjhcamhfmaaGreatDoorJ28
import Derived.Laws.EntriesVeiled
import Derived.Test.YtknlcjhcamhfmaaGreatDoorRCa
import Derived.Test.YtknlcjhcamhfmaaGreatDoorJ26
import Derived.Test.YtknlcjhcamhfmaaGreatDoorJ25
import Derived.Test.YtknlcjhcamhfmaaGreatDoorRNm
import Derived.Test.YtknlcjhcamhfmaaGreatDoorJ33
namespace Go.Proofs.YtknlcjhcamhfmaaGreatDoor.Wa
open Go.RowKit

set_option maxHeartbeats 1000000 in
theorem rvalue_0 (w : World) : Calls Tryz.prog 193 #[.int .i64 0] w fun e w' => e = .returned (.int .i64 3) ∧ w.grownBy w' none := by
  go_enter Tryz.func193, Tryz.ntmps193
  go_wp2_with fail
  refine (rof_any 0 _).mono ?_
  rintro e w1 ⟨rfl, g1⟩
  rw [show ansV 0 = 3 from rfl, show ansT 0 = 1 from rfl, show ansE 0 = 0 from rfl]
  go_wp2
  go_ret
  exact ⟨rfl, g1⟩
set_option maxHeartbeats 1000000 in
theorem rvalue_1 (w : World) : Calls Tryz.prog 193 #[.int .i64 1] w fun e w' => e = .returned (.int .i64 2) ∧ w.grownBy w' none := by
  go_enter Tryz.func193, Tryz.ntmps193
  go_wp2_with fail
  refine (rof_any 1 _).mono ?_
  rintro e w1 ⟨rfl, g1⟩
  rw [show ansV 1 = 2 from rfl, show ansT 1 = 3 from rfl, show ansE 1 = 0 from rfl]
  go_wp2
  go_ret
  exact ⟨rfl, g1⟩
set_option maxHeartbeats 1000000 in
theorem rtraits (w : World) : Calls Tryz.prog 127 #[] w fun e w' => e = .returned (.slice (some ⟨w.heap.size, 0, none⟩) 2 2) ∧ w' = w.alloc (.cells tCells 57) := by
  go_enter Tryz.func127, Tryz.ntmps127
  go_wp2
  go_ret
  exact ⟨rfl, rfl⟩
set_option maxHeartbeats 1000000 in
theorem rmarks (w : World) : Calls Tryz.prog 128 #[] w fun e w' => e = .returned (.slice none 0 0) ∧ w' = w := by
  go_enter Tryz.func128, Tryz.ntmps128
  go_wp2
  go_ret
  exact ⟨rfl, rfl⟩
/-- The document's cards, where parts lie at s and behind. -/
def refEs (s : Nat) : List Ent := [⟨dewH, .slice (some ⟨s, 0, none⟩) 1 1, dewP⟩, ⟨tideH, .slice (some ⟨s + 1, 0, none⟩) 2 2, tideP⟩, ⟨dropH, .slice none 0 0, dropP⟩, ⟨sirenH, .slice (some ⟨s + 1 + 1, 0, none⟩) 3 3, sirenP⟩, ⟨springH, .slice (some ⟨s + 1 + 1 + 1, 0, none⟩) 2 2, springP⟩, ⟨mirrorH, .slice (some ⟨s + 1 + 1 + 1 + 1, 0, none⟩) 2 2, mirrorP⟩]
set_option maxRecDepth 100000 in
set_option maxHeartbeats 4000000 in
theorem rlist11 (w : World) : Calls Tryz.prog 126 #[] w fun e w' => ∃ g es, e = .returned (.slice (some ⟨g, 0, none⟩) 6 6) ∧ LIs es 6 ∧ w'.heap[g]? = some (.cells (ecells es).toArray 56 (0, 0)) ∧ (∀ e ∈ es, Own8 w.heap.size w' e.v e.ps) ∧ w.heap.size ≤ g ∧ w.grownBy w' none := by
  go_enter Tryz.func126, Tryz.ntmps126
  go_wp2_with fail
  refine (rvalue_0 _).mono ?_
  rintro e w1 ⟨rfl, g1⟩
  go_wp2_with fail
  refine (rvalue_1 _).mono ?_
  rintro e w0 ⟨rfl, g2⟩
  have HG : Hid (w.grownBy w0 none) := grown_trans g1 g2
  clear g1 g2
  obtain ⟨A1, hA1⟩ : ∃ A1, A1 = w0.alloc (.cells (pcells dewP).toArray 115) := ⟨_, rfl⟩
  obtain ⟨A2, hA2⟩ : ∃ A2, A2 = A1.alloc (.cells (pcells tideP).toArray 115) := ⟨_, rfl⟩
  obtain ⟨A3, hA3⟩ : ∃ A3, A3 = A2.alloc (.cells (pcells sirenP).toArray 115) := ⟨_, rfl⟩
  obtain ⟨A4, hA4⟩ : ∃ A4, A4 = A3.alloc (.cells (pcells springP).toArray 115) := ⟨_, rfl⟩
  obtain ⟨A5, hA5⟩ : ∃ A5, A5 = A4.alloc (.cells (pcells mirrorP).toArray 115) := ⟨_, rfl⟩
  obtain ⟨A6, hA6⟩ : ∃ A6, A6 = A5.alloc (.cells (ecells (refEs w0.heap.size)).toArray 56) := ⟨_, rfl⟩
  have s1 : A1.heap.size = w0.heap.size + 1 := by rw [hA1, World.size_alloc]
  have s2 : A2.heap.size = w0.heap.size + 1 + 1 := by rw [hA2, World.size_alloc, s1]
  have s3 : A3.heap.size = w0.heap.size + 1 + 1 + 1 := by rw [hA3, World.size_alloc, s2]
  have s4 : A4.heap.size = w0.heap.size + 1 + 1 + 1 + 1 := by rw [hA4, World.size_alloc, s3]
  have s5 : A5.heap.size = w0.heap.size + 1 + 1 + 1 + 1 + 1 := by rw [hA5, World.size_alloc, s4]
  have e1 : A1.grownBy A2 none := by rw [hA2]; exact World.grownBy_alloc _ _ none
  have e2 : A2.grownBy A3 none := by rw [hA3]; exact World.grownBy_alloc _ _ none
  have e3 : A3.grownBy A4 none := by rw [hA4]; exact World.grownBy_alloc _ _ none
  have e4 : A4.grownBy A5 none := by rw [hA5]; exact World.grownBy_alloc _ _ none
  have e5 : A5.grownBy A6 none := by rw [hA6]; exact World.grownBy_alloc _ _ none
  have b1 : PB A6 (w0.heap.size) dewP := grown_keep (grown_trans e1 (grown_trans e2 (grown_trans e3 (grown_trans e4 e5)))) (show A1.heap[w0.heap.size]? = _ by rw [hA1]; exact alloc_at _ _ _) (by simp)
  have b2 : PB A6 (w0.heap.size + 1) tideP := grown_keep (grown_trans e2 (grown_trans e3 (grown_trans e4 e5))) (show A2.heap[w0.heap.size + 1]? = _ by rw [hA2, ← s1]; exact alloc_at _ _ _) (by simp)
  have b3 : PB A6 (w0.heap.size + 1 + 1) sirenP := grown_keep (grown_trans e3 (grown_trans e4 e5)) (show A3.heap[w0.heap.size + 1 + 1]? = _ by rw [hA3, ← s2]; exact alloc_at _ _ _) (by simp)
  have b4 : PB A6 (w0.heap.size + 1 + 1 + 1) springP := grown_keep (grown_trans e4 e5) (show A4.heap[w0.heap.size + 1 + 1 + 1]? = _ by rw [hA4, ← s3]; exact alloc_at _ _ _) (by simp)
  have b5 : PB A6 (w0.heap.size + 1 + 1 + 1 + 1) mirrorP := grown_keep e5 (show A5.heap[w0.heap.size + 1 + 1 + 1 + 1]? = _ by rw [hA5, ← s4]; exact alloc_at _ _ _) (by simp)
  have b6 : A6.heap[w0.heap.size + 1 + 1 + 1 + 1 + 1]? = some (.cells (ecells (refEs w0.heap.size)).toArray 56 (0, 0)) := by rw [hA6, ← s5]; exact alloc_at _ _ _
  have HG6 : Hid (w.grownBy A6 none) := grown_trans HG.out (grown_trans (show w0.grownBy A1 none by rw [hA1]; exact World.grownBy_alloc _ _ none) (grown_trans e1 (grown_trans e2 (grown_trans e3 (grown_trans e4 e5)))))
  have hw0 := HG.out.size
  have HL0 : Hid (w.heap.size ≤ w0.heap.size + 1 + 1 + 1 + 1 + 1) := by show w.heap.size ≤ w0.heap.size + 1 + 1 + 1 + 1 + 1; omega
  have HB : Hid (∀ e ∈ refEs w0.heap.size, Own8 w.heap.size A6 e.v e.ps) := fun e he => by
    simp only [refEs, List.mem_cons, List.not_mem_nil, or_false] at he
    rcases he with rfl | rfl | rfl | rfl | rfl | rfl
    · exact Or.inr ⟨_, rfl, b1, by omega⟩
    · exact Or.inr ⟨_, rfl, b2, by omega⟩
    · exact Or.inl ⟨rfl, rfl⟩
    · exact Or.inr ⟨_, rfl, b3, by omega⟩
    · exact Or.inr ⟨_, rfl, b4, by omega⟩
    · exact Or.inr ⟨_, rfl, b5, by omega⟩
  have HB6 : Hid (A6.heap[w0.heap.size + 1 + 1 + 1 + 1 + 1]? = some (.cells (ecells (refEs w0.heap.size)).toArray 56 (0, 0))) := b6
  clear hw0 s1 s2 s3 s4 s5 e1 e2 e3 e4 e5 b1 b2 b3 b4 b5 b6
  rw [hA5, hA4, hA3, hA2, hA1] at hA6
  have HA6 : Hid (A6 = _) := hA6
  clear hA6 hA5 hA4 hA3 hA2 hA1
  go_wp2
  have R1 := HB6.out
  have R2 := HB.out
  have R3 := HG6.out
  rw [HA6.out] at R1 R2 R3
  go_ret
  exact ⟨_, refEs w0.heap.size, rfl, rfl, R1, R2, HL0.out, R3⟩
theorem rlist_std (w : World) : Calls Tryz.prog 126 #[] w fun e w' => ∃ g es, e = .returned (.slice (some ⟨g, 0, none⟩) 6 6) ∧ SuL specL w w' g es := by
  refine (rlist11 w).mono ?_
  rintro e w' ⟨g, es, rfl, h1, h2, h3, h4, h5⟩
  exact ⟨g, es, rfl, h1, h2, h3, h4, h5⟩
end Go.Proofs.YtknlcjhcamhfmaaGreatDoor.Wa
namespace Go.Proofs.YtknlcjhcamhfmaaGreatDoor.Vo
open Go.RowKit

set_option maxHeartbeats 1000000 in
theorem rtraits (w : World) : Calls Tryz.prog 131 #[] w fun e w' => e = .returned (.slice (some ⟨w.heap.size, 0, none⟩) 1 1) ∧ w' = w.alloc (.cells tCells 57) := by
  go_enter Tryz.func131, Tryz.ntmps131
  go_wp2
  go_ret
  exact ⟨rfl, rfl⟩
set_option maxHeartbeats 1000000 in
theorem rmarks (w : World) : Calls Tryz.prog 132 #[] w fun e w' => e = .returned (.slice (some ⟨w.heap.size, 0, none⟩) 1 1) ∧ w' = w.alloc (.cells mCells 60) := by
  go_enter Tryz.func132, Tryz.ntmps132
  go_wp2
  go_ret
  exact ⟨rfl, rfl⟩
/-- The document's cards, where parts lie at s and behind. -/
def refEs (s : Nat) : List Ent := [⟨hushH, .slice (some ⟨s, 0, none⟩) 2 2, hushP⟩, ⟨nullifierH, .slice (some ⟨s + 1, 0, none⟩) 2 2, nullifierP⟩, ⟨shadeH, .slice none 0 0, shadeP⟩, ⟨thiefH, .slice (some ⟨s + 1 + 1, 0, none⟩) 2 2, thiefP⟩, ⟨hollowH, .slice (some ⟨s + 1 + 1 + 1, 0, none⟩) 3 3, hollowP⟩, ⟨echoH, .slice (some ⟨s + 1 + 1 + 1 + 1, 0, none⟩) 4 4, echoP⟩]
set_option maxRecDepth 100000 in
set_option maxHeartbeats 4000000 in
theorem rlist12 (w : World) : Calls Tryz.prog 130 #[] w fun e w' => ∃ g es, e = .returned (.slice (some ⟨g, 0, none⟩) 6 6) ∧ LIs es 6 ∧ w'.heap[g]? = some (.cells (ecells es).toArray 56 (0, 0)) ∧ (∀ e ∈ es, Own8 w.heap.size w' e.v e.ps) ∧ w.heap.size ≤ g ∧ w.grownBy w' none := by
  go_enter Tryz.func130, Tryz.ntmps130
  have HG : Hid (w.grownBy w none) := grown_refl _ _
  obtain ⟨A1, hA1⟩ : ∃ A1, A1 = w.alloc (.cells (pcells hushP).toArray 115) := ⟨_, rfl⟩
  obtain ⟨A2, hA2⟩ : ∃ A2, A2 = A1.alloc (.cells (pcells nullifierP).toArray 115) := ⟨_, rfl⟩
  obtain ⟨A3, hA3⟩ : ∃ A3, A3 = A2.alloc (.cells (pcells thiefP).toArray 115) := ⟨_, rfl⟩
  obtain ⟨A4, hA4⟩ : ∃ A4, A4 = A3.alloc (.cells (pcells hollowP).toArray 115) := ⟨_, rfl⟩
  obtain ⟨A5, hA5⟩ : ∃ A5, A5 = A4.alloc (.cells (pcells echoP).toArray 115) := ⟨_, rfl⟩
  obtain ⟨A6, hA6⟩ : ∃ A6, A6 = A5.alloc (.cells (ecells (refEs w.heap.size)).toArray 56) := ⟨_, rfl⟩
  have s1 : A1.heap.size = w.heap.size + 1 := by rw [hA1, World.size_alloc]
  have s2 : A2.heap.size = w.heap.size + 1 + 1 := by rw [hA2, World.size_alloc, s1]
  have s3 : A3.heap.size = w.heap.size + 1 + 1 + 1 := by rw [hA3, World.size_alloc, s2]
  have s4 : A4.heap.size = w.heap.size + 1 + 1 + 1 + 1 := by rw [hA4, World.size_alloc, s3]
  have s5 : A5.heap.size = w.heap.size + 1 + 1 + 1 + 1 + 1 := by rw [hA5, World.size_alloc, s4]
  have e1 : A1.grownBy A2 none := by rw [hA2]; exact World.grownBy_alloc _ _ none
  have e2 : A2.grownBy A3 none := by rw [hA3]; exact World.grownBy_alloc _ _ none
  have e3 : A3.grownBy A4 none := by rw [hA4]; exact World.grownBy_alloc _ _ none
  have e4 : A4.grownBy A5 none := by rw [hA5]; exact World.grownBy_alloc _ _ none
  have e5 : A5.grownBy A6 none := by rw [hA6]; exact World.grownBy_alloc _ _ none
  have b1 : PB A6 (w.heap.size) hushP := grown_keep (grown_trans e1 (grown_trans e2 (grown_trans e3 (grown_trans e4 e5)))) (show A1.heap[w.heap.size]? = _ by rw [hA1]; exact alloc_at _ _ _) (by simp)
  have b2 : PB A6 (w.heap.size + 1) nullifierP := grown_keep (grown_trans e2 (grown_trans e3 (grown_trans e4 e5))) (show A2.heap[w.heap.size + 1]? = _ by rw [hA2, ← s1]; exact alloc_at _ _ _) (by simp)
  have b3 : PB A6 (w.heap.size + 1 + 1) thiefP := grown_keep (grown_trans e3 (grown_trans e4 e5)) (show A3.heap[w.heap.size + 1 + 1]? = _ by rw [hA3, ← s2]; exact alloc_at _ _ _) (by simp)
  have b4 : PB A6 (w.heap.size + 1 + 1 + 1) hollowP := grown_keep (grown_trans e4 e5) (show A4.heap[w.heap.size + 1 + 1 + 1]? = _ by rw [hA4, ← s3]; exact alloc_at _ _ _) (by simp)
  have b5 : PB A6 (w.heap.size + 1 + 1 + 1 + 1) echoP := grown_keep e5 (show A5.heap[w.heap.size + 1 + 1 + 1 + 1]? = _ by rw [hA5, ← s4]; exact alloc_at _ _ _) (by simp)
  have b6 : A6.heap[w.heap.size + 1 + 1 + 1 + 1 + 1]? = some (.cells (ecells (refEs w.heap.size)).toArray 56 (0, 0)) := by rw [hA6, ← s5]; exact alloc_at _ _ _
  have HG6 : Hid (w.grownBy A6 none) := grown_trans HG.out (grown_trans (show w.grownBy A1 none by rw [hA1]; exact World.grownBy_alloc _ _ none) (grown_trans e1 (grown_trans e2 (grown_trans e3 (grown_trans e4 e5)))))
  have hw := HG.out.size
  have HL0 : Hid (w.heap.size ≤ w.heap.size + 1 + 1 + 1 + 1 + 1) := by show w.heap.size ≤ w.heap.size + 1 + 1 + 1 + 1 + 1; omega
  have HB : Hid (∀ e ∈ refEs w.heap.size, Own8 w.heap.size A6 e.v e.ps) := fun e he => by
    simp only [refEs, List.mem_cons, List.not_mem_nil, or_false] at he
    rcases he with rfl | rfl | rfl | rfl | rfl | rfl
    · exact Or.inr ⟨_, rfl, b1, by omega⟩
    · exact Or.inr ⟨_, rfl, b2, by omega⟩
    · exact Or.inl ⟨rfl, rfl⟩
    · exact Or.inr ⟨_, rfl, b3, by omega⟩
    · exact Or.inr ⟨_, rfl, b4, by omega⟩
    · exact Or.inr ⟨_, rfl, b5, by omega⟩
  have HB6 : Hid (A6.heap[w.heap.size + 1 + 1 + 1 + 1 + 1]? = some (.cells (ecells (refEs w.heap.size)).toArray 56 (0, 0))) := b6
  clear hw s1 s2 s3 s4 s5 e1 e2 e3 e4 e5 b1 b2 b3 b4 b5 b6
  rw [hA5, hA4, hA3, hA2, hA1] at hA6
  have HA6 : Hid (A6 = _) := hA6
  clear hA6 hA5 hA4 hA3 hA2 hA1
  go_wp2
  have R1 := HB6.out
  have R2 := HB.out
  have R3 := HG6.out
  rw [HA6.out] at R1 R2 R3
  go_ret
  exact ⟨_, refEs w.heap.size, rfl, rfl, R1, R2, HL0.out, R3⟩
theorem rlist_std (w : World) : Calls Tryz.prog 130 #[] w fun e w' => ∃ g es, e = .returned (.slice (some ⟨g, 0, none⟩) 6 6) ∧ SuL specL w w' g es := by
  refine (rlist12 w).mono ?_
  rintro e w' ⟨g, es, rfl, h1, h2, h3, h4, h5⟩
  exact ⟨g, es, rfl, h1, h2, h3, h4, h5⟩
end Go.Proofs.YtknlcjhcamhfmaaGreatDoor.Vo
namespace Go.Proofs.YtknlcjhcamhfmaaGreatDoor.Gd
open Go.RowKit

set_option maxHeartbeats 1000000 in
theorem rtraits (w : World) : Calls Tryz.prog 135 #[] w fun e w' => e = .returned (.slice (some ⟨w.heap.size, 0, none⟩) 1 1) ∧ w' = w.alloc (.cells tCells 57) := by
  go_enter Tryz.func135, Tryz.ntmps135
  go_wp2
  go_ret
  exact ⟨rfl, rfl⟩
set_option maxHeartbeats 1000000 in
theorem rmarks (w : World) : Calls Tryz.prog 136 #[] w fun e w' => e = .returned (.slice (some ⟨w.heap.size, 0, none⟩) 1 1) ∧ w' = w.alloc (.cells mCells 60) := by
  go_enter Tryz.func136, Tryz.ntmps136
  go_wp2
  go_ret
  exact ⟨rfl, rfl⟩
/-- The document's cards, where parts lie at s and behind. -/
def refEs (s : Nat) : List Ent := [⟨treasureH, .slice (some ⟨s, 0, none⟩) 2 2, treasureP⟩, ⟨coinH, .slice none 0 0, coinP⟩, ⟨statueH, .slice (some ⟨s + 1, 0, none⟩) 2 2, statueP⟩, ⟨idolH, .slice (some ⟨s + 1 + 1, 0, none⟩) 2 2, idolP⟩, ⟨taxManH, .slice (some ⟨s + 1 + 1 + 1, 0, none⟩) 2 2, taxManP⟩, ⟨midasH, .slice (some ⟨s + 1 + 1 + 1 + 1, 0, none⟩) 2 2, midasP⟩]
set_option maxRecDepth 100000 in
set_option maxHeartbeats 4000000 in
theorem rlist13 (w : World) : Calls Tryz.prog 134 #[] w fun e w' => ∃ g es, e = .returned (.slice (some ⟨g, 0, none⟩) 6 6) ∧ LIs es 6 ∧ w'.heap[g]? = some (.cells (ecells es).toArray 56 (0, 0)) ∧ (∀ e ∈ es, Own8 w.heap.size w' e.v e.ps) ∧ w.heap.size ≤ g ∧ w.grownBy w' none := by
  go_enter Tryz.func134, Tryz.ntmps134
  have HG : Hid (w.grownBy w none) := grown_refl _ _
  obtain ⟨A1, hA1⟩ : ∃ A1, A1 = w.alloc (.cells (pcells treasureP).toArray 115) := ⟨_, rfl⟩
  obtain ⟨A2, hA2⟩ : ∃ A2, A2 = A1.alloc (.cells (pcells statueP).toArray 115) := ⟨_, rfl⟩
  obtain ⟨A3, hA3⟩ : ∃ A3, A3 = A2.alloc (.cells (pcells idolP).toArray 115) := ⟨_, rfl⟩
  obtain ⟨A4, hA4⟩ : ∃ A4, A4 = A3.alloc (.cells (pcells taxManP).toArray 115) := ⟨_, rfl⟩
  obtain ⟨A5, hA5⟩ : ∃ A5, A5 = A4.alloc (.cells (pcells midasP).toArray 115) := ⟨_, rfl⟩
  obtain ⟨A6, hA6⟩ : ∃ A6, A6 = A5.alloc (.cells (ecells (refEs w.heap.size)).toArray 56) := ⟨_, rfl⟩
  have s1 : A1.heap.size = w.heap.size + 1 := by rw [hA1, World.size_alloc]
  have s2 : A2.heap.size = w.heap.size + 1 + 1 := by rw [hA2, World.size_alloc, s1]
  have s3 : A3.heap.size = w.heap.size + 1 + 1 + 1 := by rw [hA3, World.size_alloc, s2]
  have s4 : A4.heap.size = w.heap.size + 1 + 1 + 1 + 1 := by rw [hA4, World.size_alloc, s3]
  have s5 : A5.heap.size = w.heap.size + 1 + 1 + 1 + 1 + 1 := by rw [hA5, World.size_alloc, s4]
  have e1 : A1.grownBy A2 none := by rw [hA2]; exact World.grownBy_alloc _ _ none
  have e2 : A2.grownBy A3 none := by rw [hA3]; exact World.grownBy_alloc _ _ none
  have e3 : A3.grownBy A4 none := by rw [hA4]; exact World.grownBy_alloc _ _ none
  have e4 : A4.grownBy A5 none := by rw [hA5]; exact World.grownBy_alloc _ _ none
  have e5 : A5.grownBy A6 none := by rw [hA6]; exact World.grownBy_alloc _ _ none
  have b1 : PB A6 (w.heap.size) treasureP := grown_keep (grown_trans e1 (grown_trans e2 (grown_trans e3 (grown_trans e4 e5)))) (show A1.heap[w.heap.size]? = _ by rw [hA1]; exact alloc_at _ _ _) (by simp)
  have b2 : PB A6 (w.heap.size + 1) statueP := grown_keep (grown_trans e2 (grown_trans e3 (grown_trans e4 e5))) (show A2.heap[w.heap.size + 1]? = _ by rw [hA2, ← s1]; exact alloc_at _ _ _) (by simp)
  have b3 : PB A6 (w.heap.size + 1 + 1) idolP := grown_keep (grown_trans e3 (grown_trans e4 e5)) (show A3.heap[w.heap.size + 1 + 1]? = _ by rw [hA3, ← s2]; exact alloc_at _ _ _) (by simp)
  have b4 : PB A6 (w.heap.size + 1 + 1 + 1) taxManP := grown_keep (grown_trans e4 e5) (show A4.heap[w.heap.size + 1 + 1 + 1]? = _ by rw [hA4, ← s3]; exact alloc_at _ _ _) (by simp)
  have b5 : PB A6 (w.heap.size + 1 + 1 + 1 + 1) midasP := grown_keep e5 (show A5.heap[w.heap.size + 1 + 1 + 1 + 1]? = _ by rw [hA5, ← s4]; exact alloc_at _ _ _) (by simp)
  have b6 : A6.heap[w.heap.size + 1 + 1 + 1 + 1 + 1]? = some (.cells (ecells (refEs w.heap.size)).toArray 56 (0, 0)) := by rw [hA6, ← s5]; exact alloc_at _ _ _
  have HG6 : Hid (w.grownBy A6 none) := grown_trans HG.out (grown_trans (show w.grownBy A1 none by rw [hA1]; exact World.grownBy_alloc _ _ none) (grown_trans e1 (grown_trans e2 (grown_trans e3 (grown_trans e4 e5)))))
  have hw := HG.out.size
  have HL0 : Hid (w.heap.size ≤ w.heap.size + 1 + 1 + 1 + 1 + 1) := by show w.heap.size ≤ w.heap.size + 1 + 1 + 1 + 1 + 1; omega
  have HB : Hid (∀ e ∈ refEs w.heap.size, Own8 w.heap.size A6 e.v e.ps) := fun e he => by
    simp only [refEs, List.mem_cons, List.not_mem_nil, or_false] at he
    rcases he with rfl | rfl | rfl | rfl | rfl | rfl
    · exact Or.inr ⟨_, rfl, b1, by omega⟩
    · exact Or.inl ⟨rfl, rfl⟩
    · exact Or.inr ⟨_, rfl, b2, by omega⟩
    · exact Or.inr ⟨_, rfl, b3, by omega⟩
    · exact Or.inr ⟨_, rfl, b4, by omega⟩
    · exact Or.inr ⟨_, rfl, b5, by omega⟩
  have HB6 : Hid (A6.heap[w.heap.size + 1 + 1 + 1 + 1 + 1]? = some (.cells (ecells (refEs w.heap.size)).toArray 56 (0, 0))) := b6
  clear hw s1 s2 s3 s4 s5 e1 e2 e3 e4 e5 b1 b2 b3 b4 b5 b6
  rw [hA5, hA4, hA3, hA2, hA1] at hA6
  have HA6 : Hid (A6 = _) := hA6
  clear hA6 hA5 hA4 hA3 hA2 hA1
  go_wp2
  have R1 := HB6.out
  have R2 := HB.out
  have R3 := HG6.out
  rw [HA6.out] at R1 R2 R3
  go_ret
  exact ⟨_, refEs w.heap.size, rfl, rfl, R1, R2, HL0.out, R3⟩
theorem rlist_std (w : World) : Calls Tryz.prog 134 #[] w fun e w' => ∃ g es, e = .returned (.slice (some ⟨g, 0, none⟩) 6 6) ∧ SuL specL w w' g es := by
  refine (rlist13 w).mono ?_
  rintro e w' ⟨g, es, rfl, h1, h2, h3, h4, h5⟩
  exact ⟨g, es, rfl, h1, h2, h3, h4, h5⟩
end Go.Proofs.YtknlcjhcamhfmaaGreatDoor.Gd
namespace Go.Proofs.YtknlcjhcamhfmaaGreatDoor
open Go.RowKit

def fL : Nat → Nat
  | 0 => 79 | 1 => 83 | 2 => 87 | 3 => 91 | 4 => 95 | _ => 99
def fT : Nat → Nat
  | 0 => 80 | 1 => 84 | 2 => 88 | 3 => 92 | 4 => 96 | _ => 100
def fM : Nat → Nat
  | 0 => 81 | 1 => 85 | 2 => 89 | 3 => 93 | 4 => 97 | _ => 101
def fU : Nat → Nat
  | 0 => 82 | 1 => 86 | 2 => 90 | 3 => 94 | 4 => 98 | _ => 102
def sNm : Nat → ByteArray
  | 0 => ⟨#[97, 105, 114]⟩ | 1 => ⟨#[101, 97, 114, 116, 104]⟩ | 2 => ⟨#[102, 105, 114, 101]⟩ | 3 => ⟨#[119, 97, 116, 101, 114]⟩ | 4 => ⟨#[118, 111, 105, 100]⟩ | _ => ⟨#[103, 111, 108, 100]⟩
def sNo : Nat → Int
  | 0 => 27 | 1 => 31 | 2 => 68 | 3 => 51 | 4 => 147 | _ => 215
def srcC (k : Nat) : List Value := [.string (sNm k), .func (.func (fL k)) #[] #[], .func (.func (fT k)) #[] #[], .func (.func (fM k)) #[] #[], .func (.func (fU k)) #[] #[]]
def srcs (ks : List Nat) : List Value := ks.flatMap srcC
def all6 : List Nat := [0, 1, 2, 3, 4, 5]
theorem srcs_len : ∀ ks : List Nat, (srcs ks).length = ks.length * 5
  | [] => rfl
  | k :: r => by
    have h := srcs_len r
    unfold srcs at h ⊢
    rw [List.flatMap_cons, List.length_append, h, List.length_cons]
    simp only [srcC, List.length_cons, List.length_nil]
    omega
theorem srcs_at : ∀ (ks : List Nat) (j k : Nat), ks[j]? = some k → ∀ i, i < 5 → (srcs ks)[j * 5 + i]? = (srcC k)[i]?
  | [], j, k, h, i, _ => by simp at h
  | q :: r, 0, k, h, i, hi => by
    obtain rfl : q = k := by simpa using h
    unfold srcs
    rw [List.flatMap_cons, Nat.zero_mul, Nat.zero_add]
    exact List.getElem?_append_left (by simpa [srcC] using hi)
  | q :: r, j + 1, k, h, i, hi => by
    have ih := srcs_at r j k (by simpa using h) i hi
    unfold srcs at ih ⊢
    rw [List.flatMap_cons, List.getElem?_append_right (by simp [srcC]; omega), ← ih]
    congr 1
    simp [srcC]
    omega
/-- A row of sources in memory. -/
structure S5 (w : World) (g o k : Nat) : Prop where
  c0 : w.cell? ⟨g, o, none⟩ = some (.string (sNm k))
  c1 : w.cell? ⟨g, o + 1, none⟩ = some (.func (.func (fL k)) #[] #[])
  c2 : w.cell? ⟨g, o + 2, none⟩ = some (.func (.func (fT k)) #[] #[])
  c3 : w.cell? ⟨g, o + 3, none⟩ = some (.func (.func (fM k)) #[] #[])
  c4 : w.cell? ⟨g, o + 4, none⟩ = some (.func (.func (fU k)) #[] #[])
theorem S5.keepR {w w' : World} {g o k : Nat} {r : Option Nat} (h : S5 w g o k) (gr : w.grownBy w' r) (hr : some g ≠ r) : S5 w' g o k := ⟨gr.cell h.c0 hr, gr.cell h.c1 hr, gr.cell h.c2 hr, gr.cell h.c3 hr, gr.cell h.c4 hr⟩
def SrcAt (w : World) (g : Nat) (ks : List Nat) : Prop := ∀ j k, ks[j]? = some k → S5 w g (j * 5) k
theorem SrcAt.keepR {w w' : World} {g : Nat} {ks : List Nat} {r : Option Nat} (h : SrcAt w g ks) (gr : w.grownBy w' r) (hr : some g ≠ r) : SrcAt w' g ks := fun j k hk => (h j k hk).keepR gr hr
theorem src_of {w : World} {g : Nat} {ks : List Nat} {junk : List Value} {t : TypeId} (h : w.heap[g]? = some (.cells (srcs ks ++ junk).toArray t (0, 0))) : SrcAt w g ks := fun j k hk => by
  have hj := (List.getElem?_eq_some_iff.1 hk).1
  have at_ : ∀ i u, i < 5 → (srcC k)[i]? = some u → w.cell? ⟨g, j * 5 + i, none⟩ = some u := fun i u hi hu => by
    rw [block_cell h, List.getElem?_toArray, List.getElem?_append_left (by rw [srcs_len]; omega), srcs_at ks j k hk i hi]
    exact hu
  exact ⟨at_ 0 _ (by omega) rfl, at_ 1 _ (by omega) rfl, at_ 2 _ (by omega) rfl, at_ 3 _ (by omega) rfl, at_ 4 _ (by omega) rfl⟩
end Go.Proofs.YtknlcjhcamhfmaaGreatDoor
namespace Go.Proofs.YtknlcjhcamhfmaaGreatDoor
open Go.RowKit

def ptB (p : Pt) : Bool := decide ((0 ≤ p.wn ∧ p.wn ≤ 255) ∧ (0 ≤ p.vb ∧ p.vb ≤ 255) ∧ (0 ≤ p.wm ∧ p.wm ≤ 255) ∧ (-9223372036854775808 ≤ p.ct ∧ p.ct ≤ 9223372036854775807) ∧ (0 ≤ p.su ∧ p.su ≤ 255) ∧ (0 ≤ p.tr ∧ p.tr ≤ 255) ∧ (0 ≤ p.mr ∧ p.mr ≤ 255))
def cdB (c : Cd) : Bool := decide ((0 ≤ c.su ∧ c.su ≤ 255) ∧ (0 ≤ c.kd ∧ c.kd ≤ 255) ∧ (-9223372036854775808 ≤ c.co ∧ c.co ≤ 9223372036854775807) ∧ (-9223372036854775808 ≤ c.po ∧ c.po ≤ 9223372036854775807) ∧ (-9223372036854775808 ≤ c.he ∧ c.he ≤ 9223372036854775807) ∧ (0 ≤ c.tr ∧ c.tr ≤ 65535)) && c.ps.all ptB
theorem cd_wf {c : Cd} (h : cdB c = true) : c.wf := by
  simp only [cdB, Bool.and_eq_true, decide_eq_true_eq, List.all_eq_true] at h
  obtain ⟨⟨a, b, d, e, f, g⟩, k⟩ := h
  refine ⟨a, b, d, e, f, g, fun p hp => ?_⟩
  have h9 := k p hp
  simp only [ptB, decide_eq_true_eq] at h9
  obtain ⟨a, b, c, d, e, f, g⟩ := h9
  exact ⟨a, b, c, d, e, f, g⟩
set_option maxRecDepth 100000 in
theorem cAll_wfB : ∀ x ∈ cAll, cdB (x.1.with x.2) = true := by decide +kernel
theorem cAll_wf : ∀ x ∈ cAll, (x.1.with x.2).wf := fun x hx => cd_wf (cAll_wfB x hx)
/-- Where the cards, traits and marks of a fill lie, all of it new since base. -/
def FdC (base : Nat) (w : World) (k : Nat) (c : Value) : Prop := ∃ g es, c = .slice (some ⟨g, 0, none⟩) 6 6 ∧ es.map hp = sCs k ∧ w.heap[g]? = some (.cells (ecells es).toArray 56 (0, 0)) ∧ (∀ e ∈ es, Own8 base w e.v e.ps) ∧ base ≤ g
def FdT (base : Nat) (w : World) (k : Nat) (t : Value) : Prop := ∃ a, t = .slice a (sTs k).length (sTs k).length ∧ (0 < (sTs k).length → ∃ g, a = some ⟨g, 0, none⟩ ∧ base ≤ g ∧ w.heap[g]? = some (.cells ((sTs k).map (Value.int .u8)).toArray 57 (0, 0)))
def FdM (base : Nat) (w : World) (k : Nat) (m : Value) : Prop := ∃ a, m = .slice a (sMs k).length (sMs k).length ∧ (0 < (sMs k).length → ∃ g, a = some ⟨g, 0, none⟩ ∧ base ≤ g ∧ w.heap[g]? = some (.cells (mcells (sMs k)).toArray 60 (0, 0)))
theorem FdC.keepR {base k : Nat} {w w' : World} {c : Value} {r : Option Nat} (h : FdC base w k c) (gr : w.grownBy w' r) (hr : ∀ x, base ≤ x → some x ≠ r) : FdC base w' k c := by
  obtain ⟨g, es, h1, h2, h3, h4, h5⟩ := h
  exact ⟨g, es, h1, h2, grown_keep gr h3 (hr g h5), fun e he => (h4 e he).keepR gr hr, h5⟩
theorem FdT.keepR {base k : Nat} {w w' : World} {c : Value} {r : Option Nat} (h : FdT base w k c) (gr : w.grownBy w' r) (hr : ∀ x, base ≤ x → some x ≠ r) : FdT base w' k c := by
  obtain ⟨a, h1, h2⟩ := h
  refine ⟨a, h1, fun h0 => ?_⟩
  obtain ⟨g, h3, h4, h5⟩ := h2 h0
  exact ⟨g, h3, h4, grown_keep gr h5 (hr g h4)⟩
theorem FdM.keepR {base k : Nat} {w w' : World} {c : Value} {r : Option Nat} (h : FdM base w k c) (gr : w.grownBy w' r) (hr : ∀ x, base ≤ x → some x ≠ r) : FdM base w' k c := by
  obtain ⟨a, h1, h2⟩ := h
  refine ⟨a, h1, fun h0 => ?_⟩
  obtain ⟨g, h3, h4, h5⟩ := h2 h0
  exact ⟨g, h3, h4, grown_keep gr h5 (hr g h4)⟩
structure Fd (base : Nat) (w : World) (k : Nat) (c t m : Value) : Prop where
  cs : FdC base w k c
  ts : FdT base w k t
  ms : FdM base w k m
theorem Fd.keepR {base k : Nat} {w w' : World} {c t m : Value} {r : Option Nat} (h : Fd base w k c t m) (gr : w.grownBy w' r) (hr : ∀ x, base ≤ x → some x ≠ r) : Fd base w' k c t m := ⟨h.cs.keepR gr hr, h.ts.keepR gr hr, h.ms.keepR gr hr⟩
theorem FdC.low {base base' k : Nat} {w : World} {c : Value} (h : FdC base' w k c) (hb : base ≤ base') : FdC base w k c := by
  obtain ⟨g, es, h1, h2, h3, h4, h5⟩ := h
  exact ⟨g, es, h1, h2, h3, fun e he => (h4 e he).low hb, Nat.le_trans hb h5⟩
structure R5 (w : World) (g o k : Nat) (c t m : Value) : Prop where
  c0 : w.cell? ⟨g, o, none⟩ = some (.string (sNm k))
  c1 : w.cell? ⟨g, o + 1, none⟩ = some c
  c2 : w.cell? ⟨g, o + 2, none⟩ = some t
  c3 : w.cell? ⟨g, o + 3, none⟩ = some m
  c4 : w.cell? ⟨g, o + 4, none⟩ = some (.int .i64 (sNo k))
theorem R5.keepR {w w' : World} {g o k : Nat} {c t m : Value} {r : Option Nat} (h : R5 w g o k c t m) (gr : w.grownBy w' r) (hr : some g ≠ r) : R5 w' g o k c t m := ⟨gr.cell h.c0 hr, gr.cell h.c1 hr, gr.cell h.c2 hr, gr.cell h.c3 hr, gr.cell h.c4 hr⟩
/-- All fills, in a block of their own. -/
def FlAt (base : Nat) (w : World) (g : Nat) : Prop := ∀ k, k < 6 → ∃ c t m, Fd base w k c t m ∧ R5 w g (k * 5) k c t m
theorem FlAt.keepR {base g : Nat} {w w' : World} {r : Option Nat} (h : FlAt base w g) (gr : w.grownBy w' r) (hg : base ≤ g) (hr : ∀ x, base ≤ x → some x ≠ r) : FlAt base w' g := fun k hk => by
  obtain ⟨c, t, m, h1, h2⟩ := h k hk
  exact ⟨c, t, m, h1.keepR gr hr, h2.keepR gr (hr g hg)⟩
end Go.Proofs.YtknlcjhcamhfmaaGreatDoor
