/-
  RankNames, walked: the document's examples of rank.
-/
import Derived.Test.YteigfndahedleaaDoorSort
import Derived.Test.YteigfndahedleaaDoorFind
import Derived.Test.YteigfndahedleaaDoorPlace
import Derived.Test.YteigfndahedleaaDoorSame
namespace Go.Proofs.YteigfndahedleaaDoor
open Go.RowKit

/-- Two tables of five numbers in memory, and the names. -/
def Two (w wr : World) (b : Nat) (x y : Array Value) : Prop := wr.heap[b]? = some (.cells x 22 (0, 0)) ∧ wr.heap[b + 1]? = some (.cells y 22 (0, 0)) ∧ NamesAt wr ∧ w.grownBy wr none
theorem Two.keep {w a c : World} {b : Nat} {x y : Array Value} (h : Two w a b x y) (g : a.grownBy c none) : Two w c b x y := ⟨grown_keep g h.1 (by simp), grown_keep g h.2.1 (by simp), h.2.2.1.keep g, grown_trans h.2.2.2 g⟩
theorem Two.start {w a : World} (x y : Array Value) (hn : NamesAt a) (G : w.grownBy a none) : Two w ((a.alloc (.cells x 22)).alloc (.cells y 22)) a.heap.size x y := by
  have g1 := World.grownBy_alloc a (.cells x 22) none
  have g2 := World.grownBy_alloc (a.alloc (.cells x 22)) (.cells y 22) none
  exact ⟨grown_keep g2 (alloc_at _ _ _) (by simp), alloc_at' _ _ _ _ (by simp), (hn.keep g1).keep g2, grown_trans (grown_trans G g1) g2⟩
theorem grown_refl_w (w : World) : w.grownBy w none := grown_refl _ _
theorem list_mid : ByteArray.toList ⟨#[109, 105, 100]⟩ = [109, 105, 100] := by kernel_rfl
theorem list_Mid : ByteArray.toList ⟨#[77, 105, 100]⟩ = [77, 105, 100] := by kernel_rfl
theorem list_no : ByteArray.toList ⟨#[]⟩ = [] := by kernel_rfl
theorem at_mid : fI (ByteArray.toList ⟨#[109, 105, 100]⟩) = 2 ∧ fB (ByteArray.toList ⟨#[109, 105, 100]⟩) = true := by rw [list_mid]; exact ⟨by decide, by decide⟩
theorem at_Mid : fI (ByteArray.toList ⟨#[77, 105, 100]⟩) = 0 ∧ fB (ByteArray.toList ⟨#[77, 105, 100]⟩) = false := by rw [list_Mid]; exact ⟨by decide, by decide⟩
theorem at_no : fI (ByteArray.toList ⟨#[]⟩) = 0 ∧ fB (ByteArray.toList ⟨#[]⟩) = false := by rw [list_no]; exact ⟨by decide, by decide⟩
set_option maxRecDepth 100000 in
set_option maxHeartbeats 4000000 in
theorem names_any (w : World) (h : NamesAt w) : Calls Tryd.prog 3 #[] w fun e w' => e = .returned (.bool true) ∧ w.grownBy w' none := by
  have T0 : Hid (Two w ((w.alloc (.cells #[.int .i64 3, .int .i64 2, .int .i64 7, .int .i64 11, .int .i64 18] 22)).alloc (.cells #[.int .i64 1, .int .i64 3, .int .i64 2, .int .i64 4, .int .i64 5] 22)) w.heap.size #[.int .i64 3, .int .i64 2, .int .i64 7, .int .i64 11, .int .i64 18] #[.int .i64 1, .int .i64 3, .int .i64 2, .int .i64 4, .int .i64 5]) := Two.start _ _ h (grown_refl _ _)
  clear h
  go_enter Tryd.func3, Tryd.ntmps3
  go_wp2_with fail
  go_loopw [3] (fun i wr => ∃ k : Nat, k ≤ 5 ∧ i = .int .i64 k ∧ Two w wr w.heap.size #[.int .i64 3, .int .i64 2, .int .i64 7, .int .i64 11, .int .i64 18] #[.int .i64 1, .int .i64 3, .int .i64 2, .int .i64 4, .int .i64 5]) (fun i _ => 5 - (intOf i).toNat)
  case atStart => exact ⟨0, by omega, rfl, T0.out⟩
  case round =>
    clear T0
    obtain ⟨k, hk, rfl, M⟩ := hrel
    have HM : Hid (Two w wr w.heap.size #[.int .i64 3, .int .i64 2, .int .i64 7, .int .i64 11, .int .i64 18] #[.int .i64 1, .int .i64 3, .int .i64 2, .int .i64 4, .int .i64 5]) := M
    clear M
    rcases (by omega : k = 0 ∨ k = 1 ∨ k = 2 ∨ k = 3 ∨ k = 4 ∨ k = 5) with rfl | rfl | rfl | rfl | rfl | rfl
    · simp only [Int.cast_ofNat_Int]
      go_wp2_with fail
      refine (of_five 0 (by simp [Five]) _).mono ?_
      rintro e w2 ⟨rfl, g2⟩
      have M2 := HM.out.keep g2
      have c1 : w2.cell? ⟨w.heap.size, 0, none⟩ = some (.int .i64 3) := block_cell M2.1 0
      have c2 : w2.cell? ⟨w.heap.size + 1, 0, none⟩ = some (.int .i64 1) := block_cell M2.2.1 0
      have HN : Hid (Two w w2 w.heap.size #[.int .i64 3, .int .i64 2, .int .i64 7, .int .i64 11, .int .i64 18] #[.int .i64 1, .int .i64 3, .int .i64 2, .int .i64 4, .int .i64 5]) := M2
      clear M2 g2
      rw [show ansV 0 = 3 from rfl, show ansT 0 = 1 from rfl, show ansE 0 = 0 from rfl]
      go_wp2
      go_roundw
      case rel => exact ⟨1, by omega, rfl, HN.out⟩
      case measure => decide
    · simp only [Int.cast_ofNat_Int]
      go_wp2_with fail
      refine (of_five 1 (by simp [Five]) _).mono ?_
      rintro e w2 ⟨rfl, g2⟩
      have M2 := HM.out.keep g2
      have c1 : w2.cell? ⟨w.heap.size, 1, none⟩ = some (.int .i64 2) := block_cell M2.1 1
      have c2 : w2.cell? ⟨w.heap.size + 1, 1, none⟩ = some (.int .i64 3) := block_cell M2.2.1 1
      have HN : Hid (Two w w2 w.heap.size #[.int .i64 3, .int .i64 2, .int .i64 7, .int .i64 11, .int .i64 18] #[.int .i64 1, .int .i64 3, .int .i64 2, .int .i64 4, .int .i64 5]) := M2
      clear M2 g2
      rw [show ansV 1 = 2 from rfl, show ansT 1 = 3 from rfl, show ansE 1 = 0 from rfl]
      go_wp2
      go_roundw
      case rel => exact ⟨2, by omega, rfl, HN.out⟩
      case measure => decide
    · simp only [Int.cast_ofNat_Int]
      go_wp2_with fail
      refine (of_five 2 (by simp [Five]) _).mono ?_
      rintro e w2 ⟨rfl, g2⟩
      have M2 := HM.out.keep g2
      have c1 : w2.cell? ⟨w.heap.size, 2, none⟩ = some (.int .i64 7) := block_cell M2.1 2
      have c2 : w2.cell? ⟨w.heap.size + 1, 2, none⟩ = some (.int .i64 2) := block_cell M2.2.1 2
      have HN : Hid (Two w w2 w.heap.size #[.int .i64 3, .int .i64 2, .int .i64 7, .int .i64 11, .int .i64 18] #[.int .i64 1, .int .i64 3, .int .i64 2, .int .i64 4, .int .i64 5]) := M2
      clear M2 g2
      rw [show ansV 2 = 7 from rfl, show ansT 2 = 2 from rfl, show ansE 2 = 0 from rfl]
      go_wp2
      go_roundw
      case rel => exact ⟨3, by omega, rfl, HN.out⟩
      case measure => decide
    · simp only [Int.cast_ofNat_Int]
      go_wp2_with fail
      refine (of_five 3 (by simp [Five]) _).mono ?_
      rintro e w2 ⟨rfl, g2⟩
      have M2 := HM.out.keep g2
      have c1 : w2.cell? ⟨w.heap.size, 3, none⟩ = some (.int .i64 11) := block_cell M2.1 3
      have c2 : w2.cell? ⟨w.heap.size + 1, 3, none⟩ = some (.int .i64 4) := block_cell M2.2.1 3
      have HN : Hid (Two w w2 w.heap.size #[.int .i64 3, .int .i64 2, .int .i64 7, .int .i64 11, .int .i64 18] #[.int .i64 1, .int .i64 3, .int .i64 2, .int .i64 4, .int .i64 5]) := M2
      clear M2 g2
      rw [show ansV 3 = 11 from rfl, show ansT 3 = 4 from rfl, show ansE 3 = 0 from rfl]
      go_wp2
      go_roundw
      case rel => exact ⟨4, by omega, rfl, HN.out⟩
      case measure => decide
    · simp only [Int.cast_ofNat_Int]
      go_wp2_with fail
      refine (of_five 4 (by simp [Five]) _).mono ?_
      rintro e w2 ⟨rfl, g2⟩
      have M2 := HM.out.keep g2
      have c1 : w2.cell? ⟨w.heap.size, 4, none⟩ = some (.int .i64 18) := block_cell M2.1 4
      have c2 : w2.cell? ⟨w.heap.size + 1, 4, none⟩ = some (.int .i64 5) := block_cell M2.2.1 4
      have HN : Hid (Two w w2 w.heap.size #[.int .i64 3, .int .i64 2, .int .i64 7, .int .i64 11, .int .i64 18] #[.int .i64 1, .int .i64 3, .int .i64 2, .int .i64 4, .int .i64 5]) := M2
      clear M2 g2
      rw [show ansV 4 = 18 from rfl, show ansT 4 = 5 from rfl, show ansE 4 = 0 from rfl]
      go_wp2
      go_roundw
      case rel => exact ⟨5, by omega, rfl, HN.out⟩
      case measure => decide
    · simp only [Int.cast_ofNat_Int]
      have N0 := HM.out.2.2.1
      have G0 := HM.out.2.2.2
      clear HM hk
      obtain ⟨wz, hz⟩ : ∃ wz, wz = wr := ⟨_, rfl⟩
      subst hz
      go_wp2_with fail
      refine (of_none (-1) (by omega) _).mono ?_
      rintro e w2 ⟨rfl, g2⟩
      have N2 := N0.keep g2
      have G2 := grown_trans G0 g2
      clear N0 G0 g2
      go_wp2_with fail
      refine (of_none 5 (by omega) _).mono ?_
      rintro e w3 ⟨rfl, g3⟩
      have N3 := N2.keep g3
      have G3 := grown_trans G2 g3
      clear N2 G2 g3
      go_wp2_with fail
      refine (find_any _ _ N3).mono ?_
      rintro e w4 ⟨rfl, rfl⟩
      rw [at_mid.1, at_mid.2]
      go_wp2_with fail
      refine (find_any _ _ N3).mono ?_
      rintro e w4 ⟨rfl, rfl⟩
      rw [at_Mid.1, at_Mid.2]
      go_wp2_with fail
      refine (find_any _ _ N3).mono ?_
      rintro e w4 ⟨rfl, rfl⟩
      rw [at_no.1, at_no.2]
      go_wp2_with fail
      refine (place_lt2 1 (by omega) _).mono ?_
      rintro e w5 ⟨rfl, g5⟩
      have T5 : Hid (Two w ((w5.alloc (.cells #[.int .i64 2, .int .i64 3, .int .i64 10, .int .i64 11, .int .i64 100] 22)).alloc (.cells #[.int .i64 1, .int .i64 0, .int .i64 2, .int .i64 3, .int .i64 4] 22)) w5.heap.size #[.int .i64 2, .int .i64 3, .int .i64 10, .int .i64 11, .int .i64 100] #[.int .i64 1, .int .i64 0, .int .i64 2, .int .i64 3, .int .i64 4]) := Two.start _ _ (N3.keep g5) (grown_trans G3 g5)
      clear N3 G3 g5
      go_wp2_with fail
      go_loopw [23] (fun i wr => ∃ k : Nat, k ≤ 5 ∧ i = .int .i64 k ∧ Two w wr w5.heap.size #[.int .i64 2, .int .i64 3, .int .i64 10, .int .i64 11, .int .i64 100] #[.int .i64 1, .int .i64 0, .int .i64 2, .int .i64 3, .int .i64 4]) (fun i _ => 5 - (intOf i).toNat)
      case atStart => exact ⟨0, by omega, rfl, T5.out⟩
      case round =>
        clear T5
        obtain ⟨k, hk, rfl, M⟩ := hrel
        rcases (by omega : k = 0 ∨ k = 1 ∨ k = 2 ∨ k = 3 ∨ k = 4 ∨ k = 5) with rfl | rfl | rfl | rfl | rfl | rfl
        · simp only [Int.cast_ofNat_Int]
          have p1 : wr.cell? ⟨w5.heap.size, 0, none⟩ = some (.int .i64 2) := block_cell M.1 0
          have HM : Hid (Two w wr w5.heap.size #[.int .i64 2, .int .i64 3, .int .i64 10, .int .i64 11, .int .i64 100] #[.int .i64 1, .int .i64 0, .int .i64 2, .int .i64 3, .int .i64 4]) := M
          clear M
          go_wp2_with fail
          refine (place_at2 2 rfl _).mono ?_
          rintro e w6 ⟨rfl, g6⟩
          have M6 := HM.out.keep g6
          have q1 : w6.cell? ⟨w5.heap.size + 1, 0, none⟩ = some (.int .i64 1) := block_cell M6.2.1 0
          have HN : Hid (Two w w6 w5.heap.size #[.int .i64 2, .int .i64 3, .int .i64 10, .int .i64 11, .int .i64 100] #[.int .i64 1, .int .i64 0, .int .i64 2, .int .i64 3, .int .i64 4]) := M6
          clear M6 g6 p1
          go_wp2
          go_roundw
          case rel => exact ⟨1, by omega, rfl, HN.out⟩
          case measure => decide
        · simp only [Int.cast_ofNat_Int]
          have p1 : wr.cell? ⟨w5.heap.size, 1, none⟩ = some (.int .i64 3) := block_cell M.1 1
          have HM : Hid (Two w wr w5.heap.size #[.int .i64 2, .int .i64 3, .int .i64 10, .int .i64 11, .int .i64 100] #[.int .i64 1, .int .i64 0, .int .i64 2, .int .i64 3, .int .i64 4]) := M
          clear M
          go_wp2_with fail
          refine (place_at3 3 (by omega) _).mono ?_
          rintro e w6 ⟨rfl, g6⟩
          have M6 := HM.out.keep g6
          have q1 : w6.cell? ⟨w5.heap.size + 1, 1, none⟩ = some (.int .i64 0) := block_cell M6.2.1 1
          have HN : Hid (Two w w6 w5.heap.size #[.int .i64 2, .int .i64 3, .int .i64 10, .int .i64 11, .int .i64 100] #[.int .i64 1, .int .i64 0, .int .i64 2, .int .i64 3, .int .i64 4]) := M6
          clear M6 g6 p1
          go_wp2
          go_roundw
          case rel => exact ⟨2, by omega, rfl, HN.out⟩
          case measure => decide
        · simp only [Int.cast_ofNat_Int]
          have p1 : wr.cell? ⟨w5.heap.size, 2, none⟩ = some (.int .i64 10) := block_cell M.1 2
          have HM : Hid (Two w wr w5.heap.size #[.int .i64 2, .int .i64 3, .int .i64 10, .int .i64 11, .int .i64 100] #[.int .i64 1, .int .i64 0, .int .i64 2, .int .i64 3, .int .i64 4]) := M
          clear M
          go_wp2_with fail
          refine (place_at7 10 (by omega) _).mono ?_
          rintro e w6 ⟨rfl, g6⟩
          have M6 := HM.out.keep g6
          have q1 : w6.cell? ⟨w5.heap.size + 1, 2, none⟩ = some (.int .i64 2) := block_cell M6.2.1 2
          have HN : Hid (Two w w6 w5.heap.size #[.int .i64 2, .int .i64 3, .int .i64 10, .int .i64 11, .int .i64 100] #[.int .i64 1, .int .i64 0, .int .i64 2, .int .i64 3, .int .i64 4]) := M6
          clear M6 g6 p1
          go_wp2
          go_roundw
          case rel => exact ⟨3, by omega, rfl, HN.out⟩
          case measure => decide
        · simp only [Int.cast_ofNat_Int]
          have p1 : wr.cell? ⟨w5.heap.size, 3, none⟩ = some (.int .i64 11) := block_cell M.1 3
          have HM : Hid (Two w wr w5.heap.size #[.int .i64 2, .int .i64 3, .int .i64 10, .int .i64 11, .int .i64 100] #[.int .i64 1, .int .i64 0, .int .i64 2, .int .i64 3, .int .i64 4]) := M
          clear M
          go_wp2_with fail
          refine (place_at11 11 (by omega) _).mono ?_
          rintro e w6 ⟨rfl, g6⟩
          have M6 := HM.out.keep g6
          have q1 : w6.cell? ⟨w5.heap.size + 1, 3, none⟩ = some (.int .i64 3) := block_cell M6.2.1 3
          have HN : Hid (Two w w6 w5.heap.size #[.int .i64 2, .int .i64 3, .int .i64 10, .int .i64 11, .int .i64 100] #[.int .i64 1, .int .i64 0, .int .i64 2, .int .i64 3, .int .i64 4]) := M6
          clear M6 g6 p1
          go_wp2
          go_roundw
          case rel => exact ⟨4, by omega, rfl, HN.out⟩
          case measure => decide
        · simp only [Int.cast_ofNat_Int]
          have p1 : wr.cell? ⟨w5.heap.size, 4, none⟩ = some (.int .i64 100) := block_cell M.1 4
          have HM : Hid (Two w wr w5.heap.size #[.int .i64 2, .int .i64 3, .int .i64 10, .int .i64 11, .int .i64 100] #[.int .i64 1, .int .i64 0, .int .i64 2, .int .i64 3, .int .i64 4]) := M
          clear M
          go_wp2_with fail
          refine (place_at18 100 (by omega) _).mono ?_
          rintro e w6 ⟨rfl, g6⟩
          have M6 := HM.out.keep g6
          have q1 : w6.cell? ⟨w5.heap.size + 1, 4, none⟩ = some (.int .i64 4) := block_cell M6.2.1 4
          have HN : Hid (Two w w6 w5.heap.size #[.int .i64 2, .int .i64 3, .int .i64 10, .int .i64 11, .int .i64 100] #[.int .i64 1, .int .i64 0, .int .i64 2, .int .i64 3, .int .i64 4]) := M6
          clear M6 g6 p1
          go_wp2
          go_roundw
          case rel => exact ⟨5, by omega, rfl, HN.out⟩
          case measure => decide
        · simp only [Int.cast_ofNat_Int]
          have G := M.2.2.2
          clear M hk
          go_wp2_with fail
          refine (lives_any _).mono ?_
          rintro e w6 ⟨rfl, g6⟩
          have G6 := grown_trans G g6
          clear G g6
          go_wp2_with fail
          refine (order_any _).mono ?_
          rintro e w7 ⟨g, rfl, hg, B7, g7⟩
          have G7 := grown_trans G6 g7
          have HI : Hid (IntsAt w7 (.slice (some ⟨g, 0, none⟩) 5 5) [0, 2, 1, 3, 4]) := IntsAt.whole B7 (small_maxLen (by simp))
          clear G6 g7 B7 hg
          go_wp2_with fail
          refine (same_ints _ _ [0, 2, 1, 3, 4] [0, 2, 1, 3, 4] _ (HI.out.keep (r := none) (World.grownBy_alloc _ _ _) (by simp)) (IntsAt.whole (alloc_at w7 _ 3) (small_maxLen (by simp)))).mono ?_
          rintro e w8 ⟨rfl, n8, hw8⟩
          have G8 : w.grownBy w8 none := by rw [hw8]; exact grown_trans (grown_push G7 _) (grown_drewN _ _ _)
          clear hw8 HI G7
          go_wp2
          go_ret
          exact ⟨rfl, G8⟩
end Go.Proofs.YteigfndahedleaaDoor
