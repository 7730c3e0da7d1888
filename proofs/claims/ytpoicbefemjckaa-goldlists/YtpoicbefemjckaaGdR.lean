/-
  The document's own answer for gold: its list of cards, traits, marks, number.
-/
import Derived.Test.YtpoicbefemjckaaGdN
namespace Go.Proofs.Ytpoicbefemjckaa
open Go.RowKit

set_option maxHeartbeats 1000000 in
theorem rweight5 (w : World) : Calls Try.prog 78 #[.int .u8 5] w fun e w' => e = .returned (.int .i64 18) ∧ w.grownBy w' none := by
  have i : Calls Try.prog 97 #[.int .u8 5] w fun e w' => e = .returned (.bool true) ∧ w' = w := by
    go_enter Try.func97, Try.ntmps97
    go_wp2
    go_ret
    exact ⟨rfl, rfl⟩
  go_enter Try.func78, Try.ntmps78
  go_wp2_with fail
  refine i.mono ?_
  rintro e w1 ⟨rfl, h1⟩
  obtain rfl : w = w1 := h1.symm
  go_wp2_with fail
  refine (rof_any 4 _).mono ?_
  rintro e w1 ⟨rfl, g1⟩
  rw [show ansV 4 = 18 from rfl, show ansT 4 = 5 from rfl, show ansE 4 = 0 from rfl]
  go_wp2
  go_ret
  exact ⟨rfl, g1⟩
set_option maxHeartbeats 1000000 in
theorem rnumber8 (w : World) : Calls Try.prog 76 #[] w fun e w' => e = .returned (.int .i64 27) ∧ w.grownBy w' none := by
  go_enter Try.func76, Try.ntmps76
  go_wp2_with fail
  refine (rof_any 2 _).mono ?_
  rintro e w1 ⟨rfl, g1⟩
  rw [show ansV 2 = 7 from rfl, show ansT 2 = 2 from rfl, show ansE 2 = 0 from rfl]
  go_wp2
  go_ret
  exact ⟨rfl, g1⟩
set_option maxHeartbeats 1000000 in
theorem rnumber11 (w : World) : Calls Try.prog 77 #[] w fun e w' => e = .returned (.int .i64 51) ∧ w.grownBy w' none := by
  go_enter Try.func77, Try.ntmps77
  go_wp2_with fail
  refine (rof_any 3 _).mono ?_
  rintro e w1 ⟨rfl, g1⟩
  rw [show ansV 3 = 11 from rfl, show ansT 3 = 4 from rfl, show ansE 3 = 0 from rfl]
  go_wp2
  go_ret
  exact ⟨rfl, g1⟩
set_option maxHeartbeats 1000000 in
theorem rnumber12 (w : World) : Calls Try.prog 40 #[] w fun e w' => e = .returned (.int .i64 147) ∧ w.grownBy w' none := by
  go_enter Try.func40, Try.ntmps40
  go_wp2_with fail
  refine (rnumber8 _).mono ?_
  rintro e w1 ⟨rfl, g1⟩
  go_wp2_with fail
  refine (rnumber11 _).mono ?_
  rintro e w2 ⟨rfl, g2⟩
  go_wp2_with fail
  refine (rweight5 _).mono ?_
  rintro e w3 ⟨rfl, g3⟩
  go_wp2
  go_ret
  exact ⟨rfl, grown_trans g1 (grown_trans g2 g3)⟩
set_option maxHeartbeats 1000000 in
theorem rnumber10 (w : World) : Calls Try.prog 39 #[] w fun e w' => e = .returned (.int .i64 68) ∧ w' = w := by
  go_enter Try.func39, Try.ntmps39
  go_wp2
  go_ret
  exact ⟨rfl, rfl⟩
set_option maxHeartbeats 1000000 in
theorem rnumber13 (w : World) : Calls Try.prog 16 #[] w fun e w' => e = .returned (.int .i64 215) ∧ w.grownBy w' none := by
  go_enter Try.func16, Try.ntmps16
  go_wp2_with fail
  refine (rnumber10 _).mono ?_
  rintro e w1 ⟨rfl, h1⟩
  have g1 : w.grownBy w1 none := h1 ▸ grown_refl _ _
  clear h1
  go_wp2_with fail
  refine (rnumber12 _).mono ?_
  rintro e w2 ⟨rfl, g2⟩
  go_wp2
  go_ret
  exact ⟨rfl, grown_trans g1 g2⟩
set_option maxHeartbeats 1000000 in
theorem rtraits13 (w : World) : Calls Try.prog 12 #[] w fun e w' => e = .returned (.slice (some ⟨w.heap.size, 0, none⟩) 1 1) ∧ w' = w.alloc (.cells tCells 52) := by
  go_enter Try.func12, Try.ntmps12
  go_wp2
  go_ret
  exact ⟨rfl, rfl⟩
set_option maxHeartbeats 1000000 in
theorem rmarks13 (w : World) : Calls Try.prog 14 #[] w fun e w' => e = .returned (.slice (some ⟨w.heap.size, 0, none⟩) 1 1) ∧ w' = w.alloc (.cells mCells 56) := by
  go_enter Try.func14, Try.ntmps14
  go_wp2
  go_ret
  exact ⟨rfl, rfl⟩
/-- The document's cards, where parts lie at s and behind. -/
def refEs (s : Nat) : List Ent := [⟨treasureH, .slice (some ⟨s, 0, none⟩) 2 2, treasureP⟩, ⟨coinH, .slice none 0 0, coinP⟩, ⟨statueH, .slice (some ⟨s + 1, 0, none⟩) 2 2, statueP⟩, ⟨idolH, .slice (some ⟨s + 1 + 1, 0, none⟩) 2 2, idolP⟩, ⟨taxManH, .slice (some ⟨s + 1 + 1 + 1, 0, none⟩) 2 2, taxManP⟩, ⟨midasH, .slice (some ⟨s + 1 + 1 + 1 + 1, 0, none⟩) 2 2, midasP⟩]
set_option maxRecDepth 100000 in
set_option maxHeartbeats 4000000 in
theorem rlist13 (w : World) : Calls Try.prog 10 #[] w fun e w' => ∃ g es, e = .returned (.slice (some ⟨g, 0, none⟩) 6 6) ∧ LIs es 6 ∧ w'.heap[g]? = some (.cells (ecells es).toArray 47 (0, 0)) ∧ (∀ e ∈ es, Own8 w.heap.size w' e.v e.ps) ∧ w.heap.size ≤ g ∧ w.grownBy w' none := by
  go_enter Try.func10, Try.ntmps10
  have HG : Hid (w.grownBy w none) := grown_refl _ _
  obtain ⟨A1, hA1⟩ : ∃ A1, A1 = w.alloc (.cells (pcells treasureP).toArray 81) := ⟨_, rfl⟩
  obtain ⟨A2, hA2⟩ : ∃ A2, A2 = A1.alloc (.cells (pcells statueP).toArray 81) := ⟨_, rfl⟩
  obtain ⟨A3, hA3⟩ : ∃ A3, A3 = A2.alloc (.cells (pcells idolP).toArray 81) := ⟨_, rfl⟩
  obtain ⟨A4, hA4⟩ : ∃ A4, A4 = A3.alloc (.cells (pcells taxManP).toArray 81) := ⟨_, rfl⟩
  obtain ⟨A5, hA5⟩ : ∃ A5, A5 = A4.alloc (.cells (pcells midasP).toArray 81) := ⟨_, rfl⟩
  obtain ⟨A6, hA6⟩ : ∃ A6, A6 = A5.alloc (.cells (ecells (refEs w.heap.size)).toArray 47) := ⟨_, rfl⟩
  have s1 : A1.heap.size = w.heap.size + 1 := by rw [hA1, World.size_alloc]
  have s2 : A2.heap.size = w.heap.size + 1 + 1 := by rw [hA2, World.size_alloc, s1]
  have s3 : A3.heap.size = w.heap.size + 1 + 1 + 1 := by rw [hA3, World.size_alloc, s2]
  have s4 : A4.heap.size = w.heap.size + 1 + 1 + 1 + 1 := by rw [hA4, World.size_alloc, s3]
  have s5 : A5.heap.size = w.heap.size + 1 + 1 + 1 + 1 + 1 := by rw [hA5, World.size_alloc, s4]
  have e1 : A1.grownBy A2 none := by rw [hA2]; exact World.grownBy_alloc _ _ none
  have e2 : A2.grownBy A3 none := by rw [hA3]; exact World.grownBy_alloc _ _ none
  have e3 : A3.grownBy A4 none := by rw [hA4]; exact World.grownBy_alloc _ _ none
  have e4 : A4.grownBy A5 none := by rw [hA5]; exact World.grownBy_alloc _ _ none
  have e5 : A5.grownBy A6 none := by rw [hA6]; exact World.grownBy_alloc _ _ none
  have b1 : PB A6 (w.heap.size) treasureP := grown_keep (grown_trans e1 (grown_trans e2 (grown_trans e3 (grown_trans e4 e5)))) (show A1.heap[w.heap.size]? = _ by rw [hA1]; exact alloc_at _ _ _) (by simp)
  have b2 : PB A6 (w.heap.size + 1) statueP := grown_keep (grown_trans e2 (grown_trans e3 (grown_trans e4 e5))) (show A2.heap[w.heap.size + 1]? = _ by rw [hA2, ← s1]; exact alloc_at _ _ _) (by simp)
  have b3 : PB A6 (w.heap.size + 1 + 1) idolP := grown_keep (grown_trans e3 (grown_trans e4 e5)) (show A3.heap[w.heap.size + 1 + 1]? = _ by rw [hA3, ← s2]; exact alloc_at _ _ _) (by simp)
  have b4 : PB A6 (w.heap.size + 1 + 1 + 1) taxManP := grown_keep (grown_trans e4 e5) (show A4.heap[w.heap.size + 1 + 1 + 1]? = _ by rw [hA4, ← s3]; exact alloc_at _ _ _) (by simp)
  have b5 : PB A6 (w.heap.size + 1 + 1 + 1 + 1) midasP := grown_keep e5 (show A5.heap[w.heap.size + 1 + 1 + 1 + 1]? = _ by rw [hA5, ← s4]; exact alloc_at _ _ _) (by simp)
  have b6 : A6.heap[w.heap.size + 1 + 1 + 1 + 1 + 1]? = some (.cells (ecells (refEs w.heap.size)).toArray 47 (0, 0)) := by rw [hA6, ← s5]; exact alloc_at _ _ _
  have HG6 : Hid (w.grownBy A6 none) := grown_trans HG.out (grown_trans (show w.grownBy A1 none by rw [hA1]; exact World.grownBy_alloc _ _ none) (grown_trans e1 (grown_trans e2 (grown_trans e3 (grown_trans e4 e5)))))
  have hw := HG.out.size
  have HL0 : Hid (w.heap.size ≤ w.heap.size + 1 + 1 + 1 + 1 + 1) := by show w.heap.size ≤ w.heap.size + 1 + 1 + 1 + 1 + 1; omega
  have HB : Hid (∀ e ∈ refEs w.heap.size, Own8 w.heap.size A6 e.v e.ps) := fun e he => by
    simp only [refEs, List.mem_cons, List.not_mem_nil, or_false] at he
    rcases he with rfl | rfl | rfl | rfl | rfl | rfl
    · exact Or.inr ⟨_, rfl, b1, by omega⟩
    · exact Or.inl ⟨rfl, rfl⟩
    · exact Or.inr ⟨_, rfl, b2, by omega⟩
    · exact Or.inr ⟨_, rfl, b3, by omega⟩
    · exact Or.inr ⟨_, rfl, b4, by omega⟩
    · exact Or.inr ⟨_, rfl, b5, by omega⟩
  have HB6 : Hid (A6.heap[w.heap.size + 1 + 1 + 1 + 1 + 1]? = some (.cells (ecells (refEs w.heap.size)).toArray 47 (0, 0))) := b6
  clear hw s1 s2 s3 s4 s5 e1 e2 e3 e4 e5 b1 b2 b3 b4 b5 b6
  rw [hA5, hA4, hA3, hA2, hA1] at hA6
  have HA6 : Hid (A6 = _) := hA6
  clear hA6 hA5 hA4 hA3 hA2 hA1
  go_wp2
  have R1 := HB6.out
  have R2 := HB.out
  have R3 := HG6.out
  rw [HA6.out] at R1 R2 R3
  go_ret
  exact ⟨_, refEs w.heap.size, rfl, rfl, R1, R2, HL0.out, R3⟩
end Go.Proofs.Ytpoicbefemjckaa
