/-
  The document's own answer for air: its list of cards, traits, marks.
  The document's own answer for earth: its list of cards, traits, marks.
  The document's own answer for fire: its list of cards, traits, marks.
-/
import Derived.Test.YtknlcjhcamhfmaaGreatDoorJ14
import Derived.Test.YtknlcjhcamhfmaaGreatDoorJ31
import Derived.Test.YtknlcjhcamhfmaaGreatDoorJ16
import Derived.Test.YtknlcjhcamhfmaaGreatDoorJ17
namespace Go.Proofs.YtknlcjhcamhfmaaGreatDoor.Ai
open Go.RowKit

set_option maxHeartbeats 1000000 in
theorem rvalue_0 (w : World) : Calls Tryz.prog 190 #[.int .i64 0] w fun e w' => e = .returned (.int .i64 3) ∧ w.grownBy w' none := by
  go_enter Tryz.func190, Tryz.ntmps190
  go_wp2_with fail
  refine (rof_any 0 _).mono ?_
  rintro e w1 ⟨rfl, g1⟩
  rw [show ansV 0 = 3 from rfl, show ansT 0 = 1 from rfl, show ansE 0 = 0 from rfl]
  go_wp2
  go_ret
  exact ⟨rfl, g1⟩
set_option maxHeartbeats 1000000 in
theorem rvalue_1 (w : World) : Calls Tryz.prog 190 #[.int .i64 1] w fun e w' => e = .returned (.int .i64 2) ∧ w.grownBy w' none := by
  go_enter Tryz.func190, Tryz.ntmps190
  go_wp2_with fail
  refine (rof_any 1 _).mono ?_
  rintro e w1 ⟨rfl, g1⟩
  rw [show ansV 1 = 2 from rfl, show ansT 1 = 3 from rfl, show ansE 1 = 0 from rfl]
  go_wp2
  go_ret
  exact ⟨rfl, g1⟩
set_option maxHeartbeats 1000000 in
theorem rtraits (w : World) : Calls Tryz.prog 115 #[] w fun e w' => e = .returned (.slice (some ⟨w.heap.size, 0, none⟩) 2 2) ∧ w' = w.alloc (.cells tCells 57) := by
  go_enter Tryz.func115, Tryz.ntmps115
  go_wp2
  go_ret
  exact ⟨rfl, rfl⟩
set_option maxHeartbeats 1000000 in
theorem rmarks (w : World) : Calls Tryz.prog 116 #[] w fun e w' => e = .returned (.slice none 0 0) ∧ w' = w := by
  go_enter Tryz.func116, Tryz.ntmps116
  go_wp2
  go_ret
  exact ⟨rfl, rfl⟩
/-- The document's cards, where parts lie at s and behind. -/
def refEs (s : Nat) : List Ent := [⟨breezeH, .slice (some ⟨s, 0, none⟩) 2 2, breezeP⟩, ⟨wispH, .slice none 0 0, wispP⟩, ⟨kiteH, .slice (some ⟨s + 1, 0, none⟩) 1 1, kiteP⟩, ⟨swiftWingH, .slice (some ⟨s + 1 + 1, 0, none⟩) 1 1, swiftWingP⟩, ⟨flockH, .slice (some ⟨s + 1 + 1 + 1, 0, none⟩) 2 2, flockP⟩, ⟨calmH, .slice (some ⟨s + 1 + 1 + 1 + 1, 0, none⟩) 2 2, calmP⟩]
set_option maxRecDepth 100000 in
set_option maxHeartbeats 4000000 in
theorem rlist8 (w : World) : Calls Tryz.prog 114 #[] w fun e w' => ∃ g es, e = .returned (.slice (some ⟨g, 0, none⟩) 6 6) ∧ LIs es 6 ∧ w'.heap[g]? = some (.cells (ecells es).toArray 56 (0, 0)) ∧ (∀ e ∈ es, Own8 w.heap.size w' e.v e.ps) ∧ w.heap.size ≤ g ∧ w.grownBy w' none := by
  go_enter Tryz.func114, Tryz.ntmps114
  go_wp2_with fail
  refine (rvalue_0 _).mono ?_
  rintro e w1 ⟨rfl, g1⟩
  go_wp2_with fail
  refine (rvalue_1 _).mono ?_
  rintro e w0 ⟨rfl, g2⟩
  have HG : Hid (w.grownBy w0 none) := grown_trans g1 g2
  clear g1 g2
  obtain ⟨A1, hA1⟩ : ∃ A1, A1 = w0.alloc (.cells (pcells breezeP).toArray 115) := ⟨_, rfl⟩
  obtain ⟨A2, hA2⟩ : ∃ A2, A2 = A1.alloc (.cells (pcells kiteP).toArray 115) := ⟨_, rfl⟩
  obtain ⟨A3, hA3⟩ : ∃ A3, A3 = A2.alloc (.cells (pcells swiftWingP).toArray 115) := ⟨_, rfl⟩
  obtain ⟨A4, hA4⟩ : ∃ A4, A4 = A3.alloc (.cells (pcells flockP).toArray 115) := ⟨_, rfl⟩
  obtain ⟨A5, hA5⟩ : ∃ A5, A5 = A4.alloc (.cells (pcells calmP).toArray 115) := ⟨_, rfl⟩
  obtain ⟨A6, hA6⟩ : ∃ A6, A6 = A5.alloc (.cells (ecells (refEs w0.heap.size)).toArray 56) := ⟨_, rfl⟩
  have s1 : A1.heap.size = w0.heap.size + 1 := by rw [hA1, World.size_alloc]
  have s2 : A2.heap.size = w0.heap.size + 1 + 1 := by rw [hA2, World.size_alloc, s1]
  have s3 : A3.heap.size = w0.heap.size + 1 + 1 + 1 := by rw [hA3, World.size_alloc, s2]
  have s4 : A4.heap.size = w0.heap.size + 1 + 1 + 1 + 1 := by rw [hA4, World.size_alloc, s3]
  have s5 : A5.heap.size = w0.heap.size + 1 + 1 + 1 + 1 + 1 := by rw [hA5, World.size_alloc, s4]
  have e1 : A1.grownBy A2 none := by rw [hA2]; exact World.grownBy_alloc _ _ none
  have e2 : A2.grownBy A3 none := by rw [hA3]; exact World.grownBy_alloc _ _ none
  have e3 : A3.grownBy A4 none := by rw [hA4]; exact World.grownBy_alloc _ _ none
  have e4 : A4.grownBy A5 none := by rw [hA5]; exact World.grownBy_alloc _ _ none
  have e5 : A5.grownBy A6 none := by rw [hA6]; exact World.grownBy_alloc _ _ none
  have b1 : PB A6 (w0.heap.size) breezeP := grown_keep (grown_trans e1 (grown_trans e2 (grown_trans e3 (grown_trans e4 e5)))) (show A1.heap[w0.heap.size]? = _ by rw [hA1]; exact alloc_at _ _ _) (by simp)
  have b2 : PB A6 (w0.heap.size + 1) kiteP := grown_keep (grown_trans e2 (grown_trans e3 (grown_trans e4 e5))) (show A2.heap[w0.heap.size + 1]? = _ by rw [hA2, ← s1]; exact alloc_at _ _ _) (by simp)
  have b3 : PB A6 (w0.heap.size + 1 + 1) swiftWingP := grown_keep (grown_trans e3 (grown_trans e4 e5)) (show A3.heap[w0.heap.size + 1 + 1]? = _ by rw [hA3, ← s2]; exact alloc_at _ _ _) (by simp)
  have b4 : PB A6 (w0.heap.size + 1 + 1 + 1) flockP := grown_keep (grown_trans e4 e5) (show A4.heap[w0.heap.size + 1 + 1 + 1]? = _ by rw [hA4, ← s3]; exact alloc_at _ _ _) (by simp)
  have b5 : PB A6 (w0.heap.size + 1 + 1 + 1 + 1) calmP := grown_keep e5 (show A5.heap[w0.heap.size + 1 + 1 + 1 + 1]? = _ by rw [hA5, ← s4]; exact alloc_at _ _ _) (by simp)
  have b6 : A6.heap[w0.heap.size + 1 + 1 + 1 + 1 + 1]? = some (.cells (ecells (refEs w0.heap.size)).toArray 56 (0, 0)) := by rw [hA6, ← s5]; exact alloc_at _ _ _
  have HG6 : Hid (w.grownBy A6 none) := grown_trans HG.out (grown_trans (show w0.grownBy A1 none by rw [hA1]; exact World.grownBy_alloc _ _ none) (grown_trans e1 (grown_trans e2 (grown_trans e3 (grown_trans e4 e5)))))
  have hw0 := HG.out.size
  have HL0 : Hid (w.heap.size ≤ w0.heap.size + 1 + 1 + 1 + 1 + 1) := by show w.heap.size ≤ w0.heap.size + 1 + 1 + 1 + 1 + 1; omega
  have HB : Hid (∀ e ∈ refEs w0.heap.size, Own8 w.heap.size A6 e.v e.ps) := fun e he => by
    simp only [refEs, List.mem_cons, List.not_mem_nil, or_false] at he
    rcases he with rfl | rfl | rfl | rfl | rfl | rfl
    · exact Or.inr ⟨_, rfl, b1, by omega⟩
    · exact Or.inl ⟨rfl, rfl⟩
    · exact Or.inr ⟨_, rfl, b2, by omega⟩
    · exact Or.inr ⟨_, rfl, b3, by omega⟩
    · exact Or.inr ⟨_, rfl, b4, by omega⟩
    · exact Or.inr ⟨_, rfl, b5, by omega⟩
  have HB6 : Hid (A6.heap[w0.heap.size + 1 + 1 + 1 + 1 + 1]? = some (.cells (ecells (refEs w0.heap.size)).toArray 56 (0, 0))) := b6
  clear hw0 s1 s2 s3 s4 s5 e1 e2 e3 e4 e5 b1 b2 b3 b4 b5 b6
  rw [hA5, hA4, hA3, hA2, hA1] at hA6
  have HA6 : Hid (A6 = _) := hA6
  clear hA6 hA5 hA4 hA3 hA2 hA1
  go_wp2
  have R1 := HB6.out
  have R2 := HB.out
  have R3 := HG6.out
  rw [HA6.out] at R1 R2 R3
  go_ret
  exact ⟨_, refEs w0.heap.size, rfl, rfl, R1, R2, HL0.out, R3⟩
theorem rlist_std (w : World) : Calls Tryz.prog 114 #[] w fun e w' => ∃ g es, e = .returned (.slice (some ⟨g, 0, none⟩) 6 6) ∧ SuL specL w w' g es := by
  refine (rlist8 w).mono ?_
  rintro e w' ⟨g, es, rfl, h1, h2, h3, h4, h5⟩
  exact ⟨g, es, rfl, h1, h2, h3, h4, h5⟩
end Go.Proofs.YtknlcjhcamhfmaaGreatDoor.Ai
namespace Go.Proofs.YtknlcjhcamhfmaaGreatDoor.Ea
open Go.RowKit

set_option maxHeartbeats 1000000 in
theorem rtraits (w : World) : Calls Tryz.prog 119 #[] w fun e w' => e = .returned (.slice (some ⟨w.heap.size, 0, none⟩) 1 1) ∧ w' = w.alloc (.cells tCells 57) := by
  go_enter Tryz.func119, Tryz.ntmps119
  go_wp2
  go_ret
  exact ⟨rfl, rfl⟩
set_option maxHeartbeats 1000000 in
theorem rmarks (w : World) : Calls Tryz.prog 120 #[] w fun e w' => e = .returned (.slice (some ⟨w.heap.size, 0, none⟩) 1 1) ∧ w' = w.alloc (.cells mCells 60) := by
  go_enter Tryz.func120, Tryz.ntmps120
  go_wp2
  go_ret
  exact ⟨rfl, rfl⟩
/-- The document's cards, where parts lie at s and behind. -/
def refEs (s : Nat) : List Ent := [⟨boulderH, .slice (some ⟨s, 0, none⟩) 2 2, boulderP⟩, ⟨clayManH, .slice (some ⟨s + 1, 0, none⟩) 2 2, clayManP⟩, ⟨pebbleH, .slice none 0 0, pebbleP⟩, ⟨landslideH, .slice (some ⟨s + 1 + 1, 0, none⟩) 2 2, landslideP⟩, ⟨rampartH, .slice (some ⟨s + 1 + 1 + 1, 0, none⟩) 3 3, rampartP⟩, ⟨golemH, .slice (some ⟨s + 1 + 1 + 1 + 1, 0, none⟩) 3 3, golemP⟩]
set_option maxRecDepth 100000 in
set_option maxHeartbeats 4000000 in
theorem rlist9 (w : World) : Calls Tryz.prog 118 #[] w fun e w' => ∃ g es, e = .returned (.slice (some ⟨g, 0, none⟩) 6 6) ∧ LIs es 6 ∧ w'.heap[g]? = some (.cells (ecells es).toArray 56 (0, 0)) ∧ (∀ e ∈ es, Own8 w.heap.size w' e.v e.ps) ∧ w.heap.size ≤ g ∧ w.grownBy w' none := by
  go_enter Tryz.func118, Tryz.ntmps118
  have HG : Hid (w.grownBy w none) := grown_refl _ _
  obtain ⟨A1, hA1⟩ : ∃ A1, A1 = w.alloc (.cells (pcells boulderP).toArray 115) := ⟨_, rfl⟩
  obtain ⟨A2, hA2⟩ : ∃ A2, A2 = A1.alloc (.cells (pcells clayManP).toArray 115) := ⟨_, rfl⟩
  obtain ⟨A3, hA3⟩ : ∃ A3, A3 = A2.alloc (.cells (pcells landslideP).toArray 115) := ⟨_, rfl⟩
  obtain ⟨A4, hA4⟩ : ∃ A4, A4 = A3.alloc (.cells (pcells rampartP).toArray 115) := ⟨_, rfl⟩
  obtain ⟨A5, hA5⟩ : ∃ A5, A5 = A4.alloc (.cells (pcells golemP).toArray 115) := ⟨_, rfl⟩
  obtain ⟨A6, hA6⟩ : ∃ A6, A6 = A5.alloc (.cells (ecells (refEs w.heap.size)).toArray 56) := ⟨_, rfl⟩
  have s1 : A1.heap.size = w.heap.size + 1 := by rw [hA1, World.size_alloc]
  have s2 : A2.heap.size = w.heap.size + 1 + 1 := by rw [hA2, World.size_alloc, s1]
  have s3 : A3.heap.size = w.heap.size + 1 + 1 + 1 := by rw [hA3, World.size_alloc, s2]
  have s4 : A4.heap.size = w.heap.size + 1 + 1 + 1 + 1 := by rw [hA4, World.size_alloc, s3]
  have s5 : A5.heap.size = w.heap.size + 1 + 1 + 1 + 1 + 1 := by rw [hA5, World.size_alloc, s4]
  have e1 : A1.grownBy A2 none := by rw [hA2]; exact World.grownBy_alloc _ _ none
  have e2 : A2.grownBy A3 none := by rw [hA3]; exact World.grownBy_alloc _ _ none
  have e3 : A3.grownBy A4 none := by rw [hA4]; exact World.grownBy_alloc _ _ none
  have e4 : A4.grownBy A5 none := by rw [hA5]; exact World.grownBy_alloc _ _ none
  have e5 : A5.grownBy A6 none := by rw [hA6]; exact World.grownBy_alloc _ _ none
  have b1 : PB A6 (w.heap.size) boulderP := grown_keep (grown_trans e1 (grown_trans e2 (grown_trans e3 (grown_trans e4 e5)))) (show A1.heap[w.heap.size]? = _ by rw [hA1]; exact alloc_at _ _ _) (by simp)
  have b2 : PB A6 (w.heap.size + 1) clayManP := grown_keep (grown_trans e2 (grown_trans e3 (grown_trans e4 e5))) (show A2.heap[w.heap.size + 1]? = _ by rw [hA2, ← s1]; exact alloc_at _ _ _) (by simp)
  have b3 : PB A6 (w.heap.size + 1 + 1) landslideP := grown_keep (grown_trans e3 (grown_trans e4 e5)) (show A3.heap[w.heap.size + 1 + 1]? = _ by rw [hA3, ← s2]; exact alloc_at _ _ _) (by simp)
  have b4 : PB A6 (w.heap.size + 1 + 1 + 1) rampartP := grown_keep (grown_trans e4 e5) (show A4.heap[w.heap.size + 1 + 1 + 1]? = _ by rw [hA4, ← s3]; exact alloc_at _ _ _) (by simp)
  have b5 : PB A6 (w.heap.size + 1 + 1 + 1 + 1) golemP := grown_keep e5 (show A5.heap[w.heap.size + 1 + 1 + 1 + 1]? = _ by rw [hA5, ← s4]; exact alloc_at _ _ _) (by simp)
  have b6 : A6.heap[w.heap.size + 1 + 1 + 1 + 1 + 1]? = some (.cells (ecells (refEs w.heap.size)).toArray 56 (0, 0)) := by rw [hA6, ← s5]; exact alloc_at _ _ _
  have HG6 : Hid (w.grownBy A6 none) := grown_trans HG.out (grown_trans (show w.grownBy A1 none by rw [hA1]; exact World.grownBy_alloc _ _ none) (grown_trans e1 (grown_trans e2 (grown_trans e3 (grown_trans e4 e5)))))
  have hw := HG.out.size
  have HL0 : Hid (w.heap.size ≤ w.heap.size + 1 + 1 + 1 + 1 + 1) := by show w.heap.size ≤ w.heap.size + 1 + 1 + 1 + 1 + 1; omega
  have HB : Hid (∀ e ∈ refEs w.heap.size, Own8 w.heap.size A6 e.v e.ps) := fun e he => by
    simp only [refEs, List.mem_cons, List.not_mem_nil, or_false] at he
    rcases he with rfl | rfl | rfl | rfl | rfl | rfl
    · exact Or.inr ⟨_, rfl, b1, by omega⟩
    · exact Or.inr ⟨_, rfl, b2, by omega⟩
    · exact Or.inl ⟨rfl, rfl⟩
    · exact Or.inr ⟨_, rfl, b3, by omega⟩
    · exact Or.inr ⟨_, rfl, b4, by omega⟩
    · exact Or.inr ⟨_, rfl, b5, by omega⟩
  have HB6 : Hid (A6.heap[w.heap.size + 1 + 1 + 1 + 1 + 1]? = some (.cells (ecells (refEs w.heap.size)).toArray 56 (0, 0))) := b6
  clear hw s1 s2 s3 s4 s5 e1 e2 e3 e4 e5 b1 b2 b3 b4 b5 b6
  rw [hA5, hA4, hA3, hA2, hA1] at hA6
  have HA6 : Hid (A6 = _) := hA6
  clear hA6 hA5 hA4 hA3 hA2 hA1
  go_wp2
  have R1 := HB6.out
  have R2 := HB.out
  have R3 := HG6.out
  rw [HA6.out] at R1 R2 R3
  go_ret
  exact ⟨_, refEs w.heap.size, rfl, rfl, R1, R2, HL0.out, R3⟩
theorem rlist_std (w : World) : Calls Tryz.prog 118 #[] w fun e w' => ∃ g es, e = .returned (.slice (some ⟨g, 0, none⟩) 6 6) ∧ SuL specL w w' g es := by
  refine (rlist9 w).mono ?_
  rintro e w' ⟨g, es, rfl, h1, h2, h3, h4, h5⟩
  exact ⟨g, es, rfl, h1, h2, h3, h4, h5⟩
end Go.Proofs.YtknlcjhcamhfmaaGreatDoor.Ea
namespace Go.Proofs.YtknlcjhcamhfmaaGreatDoor.Fr
open Go.RowKit

set_option maxHeartbeats 1000000 in
theorem rtraits (w : World) : Calls Tryz.prog 123 #[] w fun e w' => e = .returned (.slice (some ⟨w.heap.size, 0, none⟩) 1 1) ∧ w' = w.alloc (.cells tCells 57) := by
  go_enter Tryz.func123, Tryz.ntmps123
  go_wp2
  go_ret
  exact ⟨rfl, rfl⟩
set_option maxHeartbeats 1000000 in
theorem rmarks (w : World) : Calls Tryz.prog 124 #[] w fun e w' => e = .returned (.slice (some ⟨w.heap.size, 0, none⟩) 1 1) ∧ w' = w.alloc (.cells mCells 60) := by
  go_enter Tryz.func124, Tryz.ntmps124
  go_wp2
  go_ret
  exact ⟨rfl, rfl⟩
/-- The document's cards, where parts lie at s and behind. -/
def refEs (s : Nat) : List Ent := [⟨fireBoltH, .slice (some ⟨s, 0, none⟩) 1 1, fireBoltP⟩, ⟨emberH, .slice none 0 0, emberP⟩, ⟨salamanderH, .slice (some ⟨s + 1, 0, none⟩) 1 1, salamanderP⟩, ⟨forgeH, .slice (some ⟨s + 1 + 1, 0, none⟩) 2 2, forgeP⟩, ⟨wildFireH, .slice (some ⟨s + 1 + 1 + 1, 0, none⟩) 2 2, wildFireP⟩, ⟨phoenixH, .slice (some ⟨s + 1 + 1 + 1 + 1, 0, none⟩) 2 2, phoenixP⟩]
set_option maxRecDepth 100000 in
set_option maxHeartbeats 4000000 in
theorem rlist10 (w : World) : Calls Tryz.prog 122 #[] w fun e w' => ∃ g es, e = .returned (.slice (some ⟨g, 0, none⟩) 6 6) ∧ LIs es 6 ∧ w'.heap[g]? = some (.cells (ecells es).toArray 56 (0, 0)) ∧ (∀ e ∈ es, Own8 w.heap.size w' e.v e.ps) ∧ w.heap.size ≤ g ∧ w.grownBy w' none := by
  go_enter Tryz.func122, Tryz.ntmps122
  have HG : Hid (w.grownBy w none) := grown_refl _ _
  obtain ⟨A1, hA1⟩ : ∃ A1, A1 = w.alloc (.cells (pcells fireBoltP).toArray 115) := ⟨_, rfl⟩
  obtain ⟨A2, hA2⟩ : ∃ A2, A2 = A1.alloc (.cells (pcells salamanderP).toArray 115) := ⟨_, rfl⟩
  obtain ⟨A3, hA3⟩ : ∃ A3, A3 = A2.alloc (.cells (pcells forgeP).toArray 115) := ⟨_, rfl⟩
  obtain ⟨A4, hA4⟩ : ∃ A4, A4 = A3.alloc (.cells (pcells wildFireP).toArray 115) := ⟨_, rfl⟩
  obtain ⟨A5, hA5⟩ : ∃ A5, A5 = A4.alloc (.cells (pcells phoenixP).toArray 115) := ⟨_, rfl⟩
  obtain ⟨A6, hA6⟩ : ∃ A6, A6 = A5.alloc (.cells (ecells (refEs w.heap.size)).toArray 56) := ⟨_, rfl⟩
  have s1 : A1.heap.size = w.heap.size + 1 := by rw [hA1, World.size_alloc]
  have s2 : A2.heap.size = w.heap.size + 1 + 1 := by rw [hA2, World.size_alloc, s1]
  have s3 : A3.heap.size = w.heap.size + 1 + 1 + 1 := by rw [hA3, World.size_alloc, s2]
  have s4 : A4.heap.size = w.heap.size + 1 + 1 + 1 + 1 := by rw [hA4, World.size_alloc, s3]
  have s5 : A5.heap.size = w.heap.size + 1 + 1 + 1 + 1 + 1 := by rw [hA5, World.size_alloc, s4]
  have e1 : A1.grownBy A2 none := by rw [hA2]; exact World.grownBy_alloc _ _ none
  have e2 : A2.grownBy A3 none := by rw [hA3]; exact World.grownBy_alloc _ _ none
  have e3 : A3.grownBy A4 none := by rw [hA4]; exact World.grownBy_alloc _ _ none
  have e4 : A4.grownBy A5 none := by rw [hA5]; exact World.grownBy_alloc _ _ none
  have e5 : A5.grownBy A6 none := by rw [hA6]; exact World.grownBy_alloc _ _ none
  have b1 : PB A6 (w.heap.size) fireBoltP := grown_keep (grown_trans e1 (grown_trans e2 (grown_trans e3 (grown_trans e4 e5)))) (show A1.heap[w.heap.size]? = _ by rw [hA1]; exact alloc_at _ _ _) (by simp)
  have b2 : PB A6 (w.heap.size + 1) salamanderP := grown_keep (grown_trans e2 (grown_trans e3 (grown_trans e4 e5))) (show A2.heap[w.heap.size + 1]? = _ by rw [hA2, ← s1]; exact alloc_at _ _ _) (by simp)
  have b3 : PB A6 (w.heap.size + 1 + 1) forgeP := grown_keep (grown_trans e3 (grown_trans e4 e5)) (show A3.heap[w.heap.size + 1 + 1]? = _ by rw [hA3, ← s2]; exact alloc_at _ _ _) (by simp)
  have b4 : PB A6 (w.heap.size + 1 + 1 + 1) wildFireP := grown_keep (grown_trans e4 e5) (show A4.heap[w.heap.size + 1 + 1 + 1]? = _ by rw [hA4, ← s3]; exact alloc_at _ _ _) (by simp)
  have b5 : PB A6 (w.heap.size + 1 + 1 + 1 + 1) phoenixP := grown_keep e5 (show A5.heap[w.heap.size + 1 + 1 + 1 + 1]? = _ by rw [hA5, ← s4]; exact alloc_at _ _ _) (by simp)
  have b6 : A6.heap[w.heap.size + 1 + 1 + 1 + 1 + 1]? = some (.cells (ecells (refEs w.heap.size)).toArray 56 (0, 0)) := by rw [hA6, ← s5]; exact alloc_at _ _ _
  have HG6 : Hid (w.grownBy A6 none) := grown_trans HG.out (grown_trans (show w.grownBy A1 none by rw [hA1]; exact World.grownBy_alloc _ _ none) (grown_trans e1 (grown_trans e2 (grown_trans e3 (grown_trans e4 e5)))))
  have hw := HG.out.size
  have HL0 : Hid (w.heap.size ≤ w.heap.size + 1 + 1 + 1 + 1 + 1) := by show w.heap.size ≤ w.heap.size + 1 + 1 + 1 + 1 + 1; omega
  have HB : Hid (∀ e ∈ refEs w.heap.size, Own8 w.heap.size A6 e.v e.ps) := fun e he => by
    simp only [refEs, List.mem_cons, List.not_mem_nil, or_false] at he
    rcases he with rfl | rfl | rfl | rfl | rfl | rfl
    · exact Or.inr ⟨_, rfl, b1, by omega⟩
    · exact Or.inl ⟨rfl, rfl⟩
    · exact Or.inr ⟨_, rfl, b2, by omega⟩
    · exact Or.inr ⟨_, rfl, b3, by omega⟩
    · exact Or.inr ⟨_, rfl, b4, by omega⟩
    · exact Or.inr ⟨_, rfl, b5, by omega⟩
  have HB6 : Hid (A6.heap[w.heap.size + 1 + 1 + 1 + 1 + 1]? = some (.cells (ecells (refEs w.heap.size)).toArray 56 (0, 0))) := b6
  clear hw s1 s2 s3 s4 s5 e1 e2 e3 e4 e5 b1 b2 b3 b4 b5 b6
  rw [hA5, hA4, hA3, hA2, hA1] at hA6
  have HA6 : Hid (A6 = _) := hA6
  clear hA6 hA5 hA4 hA3 hA2 hA1
  go_wp2
  have R1 := HB6.out
  have R2 := HB.out
  have R3 := HG6.out
  rw [HA6.out] at R1 R2 R3
  go_ret
  exact ⟨_, refEs w.heap.size, rfl, rfl, R1, R2, HL0.out, R3⟩
theorem rlist_std (w : World) : Calls Tryz.prog 122 #[] w fun e w' => ∃ g es, e = .returned (.slice (some ⟨g, 0, none⟩) 6 6) ∧ SuL specL w w' g es := by
  refine (rlist10 w).mono ?_
  rintro e w' ⟨g, es, rfl, h1, h2, h3, h4, h5⟩
  exact ⟨g, es, rfl, h1, h2, h3, h4, h5⟩
end Go.Proofs.YtknlcjhcamhfmaaGreatDoor.Fr
