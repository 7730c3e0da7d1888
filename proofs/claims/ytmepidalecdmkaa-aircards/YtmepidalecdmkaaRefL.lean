/-
  The document's own answer for air: its list of cards, traits, marks, number.
-/
import Derived.Test.YtmepidalecdmkaaAirL
import Derived.Test.YtmepidalecdmkaaRank2
namespace Go.Proofs.Ytmepidalecdmkaa
open Go.RowKit

set_option maxHeartbeats 1000000 in
theorem rvalue8_0 (w : World) : Calls Try.prog 64 #[.int .i64 0] w fun e w' => e = .returned (.int .i64 3) ∧ w.grownBy w' none := by
  go_enter Try.func64, Try.ntmps64
  go_wp2_with fail
  refine (rof_any 0 _).mono ?_
  rintro e w1 ⟨rfl, g1⟩
  rw [show ansV 0 = 3 from rfl, show ansT 0 = 1 from rfl, show ansE 0 = 0 from rfl]
  go_wp2
  go_ret
  exact ⟨rfl, g1⟩
set_option maxHeartbeats 1000000 in
theorem rvalue8_1 (w : World) : Calls Try.prog 64 #[.int .i64 1] w fun e w' => e = .returned (.int .i64 2) ∧ w.grownBy w' none := by
  go_enter Try.func64, Try.ntmps64
  go_wp2_with fail
  refine (rof_any 1 _).mono ?_
  rintro e w1 ⟨rfl, g1⟩
  rw [show ansV 1 = 2 from rfl, show ansT 1 = 3 from rfl, show ansE 1 = 0 from rfl]
  go_wp2
  go_ret
  exact ⟨rfl, g1⟩
set_option maxHeartbeats 1000000 in
theorem rnumber8 (w : World) : Calls Try.prog 28 #[] w fun e w' => e = .returned (.int .i64 27) ∧ w.grownBy w' none := by
  go_enter Try.func28, Try.ntmps28
  go_wp2_with fail
  refine (rof_any 2 _).mono ?_
  rintro e w1 ⟨rfl, g1⟩
  rw [show ansV 2 = 7 from rfl, show ansT 2 = 2 from rfl, show ansE 2 = 0 from rfl]
  go_wp2
  go_ret
  exact ⟨rfl, g1⟩
set_option maxHeartbeats 1000000 in
theorem rtraits8 (w : World) : Calls Try.prog 24 #[] w fun e w' => e = .returned (.slice (some ⟨w.heap.size, 0, none⟩) 2 2) ∧ w' = w.alloc (.cells #[.int .u8 1, .int .u8 8] 48) := by
  go_enter Try.func24, Try.ntmps24
  go_wp2
  go_ret
  exact ⟨rfl, rfl⟩
set_option maxHeartbeats 1000000 in
theorem rmarks8 (w : World) : Calls Try.prog 26 #[] w fun e w' => e = .returned (.slice none 0 0) ∧ w' = w := by
  go_enter Try.func26, Try.ntmps26
  go_wp2
  go_ret
  exact ⟨rfl, rfl⟩
/-- The document's six cards, where parts lie at s and behind. -/
def refEs (s : Nat) : List Ent := [⟨breezeH, .slice (some ⟨s, 0, none⟩) 2 2, breezeP⟩, ⟨wispH, .slice none 0 0, wispP⟩, ⟨kiteH, .slice (some ⟨s + 1, 0, none⟩) 1 1, kiteP⟩, ⟨swiftWingH, .slice (some ⟨s + 1 + 1, 0, none⟩) 1 1, swiftWingP⟩, ⟨flockH, .slice (some ⟨s + 1 + 1 + 1, 0, none⟩) 2 2, flockP⟩, ⟨calmH, .slice (some ⟨s + 1 + 1 + 1 + 1, 0, none⟩) 2 2, calmP⟩]
theorem PB.at {w : World} {g : Nat} {ps : List Pt} (h : PB w g ps) : PsAt w (.slice (some ⟨g, 0, none⟩) ps.length ps.length) ps := Own8.at (base := g) (Or.inr ⟨g, rfl, h, Nat.le_refl _⟩)
set_option maxRecDepth 100000 in
set_option maxHeartbeats 4000000 in
theorem rlist8 (w : World) : Calls Try.prog 22 #[] w fun e w' => ∃ g es, e = .returned (.slice (some ⟨g, 0, none⟩) 6 6) ∧ LIs es 6 ∧ w'.heap[g]? = some (.cells (ecells es).toArray 44 (0, 0)) ∧ (∀ e ∈ es, PsAt w' e.v e.ps) ∧ w.grownBy w' none := by
  go_enter Try.func22, Try.ntmps22
  go_wp2_with fail
  refine (rvalue8_0 _).mono ?_
  rintro e w1 ⟨rfl, g1⟩
  go_wp2_with fail
  refine (rvalue8_1 _).mono ?_
  rintro e w2 ⟨rfl, g2⟩
  have HG : Hid (w.grownBy w2 none) := grown_trans g1 g2
  clear g1 g2
  obtain ⟨A1, hA1⟩ : ∃ A1, A1 = w2.alloc (.cells (pcells breezeP).toArray 59) := ⟨_, rfl⟩
  obtain ⟨A2, hA2⟩ : ∃ A2, A2 = A1.alloc (.cells (pcells kiteP).toArray 59) := ⟨_, rfl⟩
  obtain ⟨A3, hA3⟩ : ∃ A3, A3 = A2.alloc (.cells (pcells swiftWingP).toArray 59) := ⟨_, rfl⟩
  obtain ⟨A4, hA4⟩ : ∃ A4, A4 = A3.alloc (.cells (pcells flockP).toArray 59) := ⟨_, rfl⟩
  obtain ⟨A5, hA5⟩ : ∃ A5, A5 = A4.alloc (.cells (pcells calmP).toArray 59) := ⟨_, rfl⟩
  obtain ⟨A6, hA6⟩ : ∃ A6, A6 = A5.alloc (.cells (ecells (refEs w2.heap.size)).toArray 44) := ⟨_, rfl⟩
  have s1 : A1.heap.size = w2.heap.size + 1 := by rw [hA1, World.size_alloc]
  have s2 : A2.heap.size = w2.heap.size + 1 + 1 := by rw [hA2, World.size_alloc, s1]
  have s3 : A3.heap.size = w2.heap.size + 1 + 1 + 1 := by rw [hA3, World.size_alloc, s2]
  have s4 : A4.heap.size = w2.heap.size + 1 + 1 + 1 + 1 := by rw [hA4, World.size_alloc, s3]
  have s5 : A5.heap.size = w2.heap.size + 1 + 1 + 1 + 1 + 1 := by rw [hA5, World.size_alloc, s4]
  have e1 : A1.grownBy A2 none := by rw [hA2]; exact World.grownBy_alloc _ _ none
  have e2 : A2.grownBy A3 none := by rw [hA3]; exact World.grownBy_alloc _ _ none
  have e3 : A3.grownBy A4 none := by rw [hA4]; exact World.grownBy_alloc _ _ none
  have e4 : A4.grownBy A5 none := by rw [hA5]; exact World.grownBy_alloc _ _ none
  have e5 : A5.grownBy A6 none := by rw [hA6]; exact World.grownBy_alloc _ _ none
  have b1 : PB A6 w2.heap.size breezeP := grown_keep (grown_trans e1 (grown_trans e2 (grown_trans e3 (grown_trans e4 e5)))) (show A1.heap[w2.heap.size]? = _ by rw [hA1]; exact alloc_at _ _ _) (by simp)
  have b2 : PB A6 (w2.heap.size + 1) kiteP := grown_keep (grown_trans e2 (grown_trans e3 (grown_trans e4 e5))) (show A2.heap[w2.heap.size + 1]? = _ by rw [hA2, ← s1]; exact alloc_at _ _ _) (by simp)
  have b3 : PB A6 (w2.heap.size + 1 + 1) swiftWingP := grown_keep (grown_trans e3 (grown_trans e4 e5)) (show A3.heap[w2.heap.size + 1 + 1]? = _ by rw [hA3, ← s2]; exact alloc_at _ _ _) (by simp)
  have b4 : PB A6 (w2.heap.size + 1 + 1 + 1) flockP := grown_keep (grown_trans e4 e5) (show A4.heap[w2.heap.size + 1 + 1 + 1]? = _ by rw [hA4, ← s3]; exact alloc_at _ _ _) (by simp)
  have b5 : PB A6 (w2.heap.size + 1 + 1 + 1 + 1) calmP := grown_keep e5 (show A5.heap[w2.heap.size + 1 + 1 + 1 + 1]? = _ by rw [hA5, ← s4]; exact alloc_at _ _ _) (by simp)
  have b6 : A6.heap[w2.heap.size + 1 + 1 + 1 + 1 + 1]? = some (.cells (ecells (refEs w2.heap.size)).toArray 44 (0, 0)) := by rw [hA6, ← s5]; exact alloc_at _ _ _
  have HG6 : Hid (w.grownBy A6 none) := grown_trans HG.out (grown_trans (show w2.grownBy A1 none by rw [hA1]; exact World.grownBy_alloc _ _ none) (grown_trans e1 (grown_trans e2 (grown_trans e3 (grown_trans e4 e5)))))
  have HB : Hid (∀ e ∈ refEs w2.heap.size, PsAt A6 e.v e.ps) := fun e he => by
    simp only [refEs, List.mem_cons, List.not_mem_nil, or_false] at he
    rcases he with rfl | rfl | rfl | rfl | rfl | rfl
    · exact b1.at
    · exact Or.inl ⟨rfl, rfl⟩
    · exact b2.at
    · exact b3.at
    · exact b4.at
    · exact b5.at
  have HB6 : Hid (A6.heap[w2.heap.size + 1 + 1 + 1 + 1 + 1]? = some (.cells (ecells (refEs w2.heap.size)).toArray 44 (0, 0))) := b6
  clear s1 s2 s3 s4 s5 e1 e2 e3 e4 e5 b1 b2 b3 b4 b5 b6
  rw [hA5, hA4, hA3, hA2, hA1] at hA6
  have HA6 : Hid (A6 = _) := hA6
  clear hA6 hA5 hA4 hA3 hA2 hA1
  go_wp2
  have R1 := HB6.out
  have R2 := HB.out
  have R3 := HG6.out
  rw [HA6.out] at R1 R2 R3
  go_ret
  exact ⟨_, refEs w2.heap.size, rfl, rfl, R1, R2, R3⟩
end Go.Proofs.Ytmepidalecdmkaa
