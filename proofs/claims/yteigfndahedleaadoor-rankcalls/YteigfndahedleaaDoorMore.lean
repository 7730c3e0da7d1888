/-
  What rank.Names answers (the names, in memory of their own), SameTexts of two such lists, the document's own sum and order.
-/
import Derived.Test.YteigfndahedleaaDoorFind
import Derived.Test.YteigfndahedleaaDoorSame
import Derived.Test.YteigfndahedleaaDoorKept
namespace Go.Proofs.YteigfndahedleaaDoor
open Go.RowKit

set_option maxRecDepth 100000 in
set_option maxHeartbeats 1000000 in
theorem rankNames_any (w : World) (h : NamesAt w) : Calls Tryd.prog 16 #[] w fun e w' => e = .returned (.slice (some ⟨w.heap.size, 0, none⟩) 5 5) ∧ w'.heap[w.heap.size]? = some (.cells #[.string ⟨#[108, 111, 119]⟩, .string ⟨#[115, 116, 101, 112]⟩, .string ⟨#[109, 105, 100]⟩, .string ⟨#[104, 105, 103, 104]⟩, .string ⟨#[116, 111, 112]⟩] 46 (0, 0)) ∧ w.grownBy w' none ∧ w'.heap.size = w.heap.size + 1 := by
  obtain ⟨c0, c1, c2, c3, c4⟩ := h
  have hal : Tryd.prog.arrayLen 46 = 5 := by kernel_rfl
  go_enter Tryd.func16, Tryd.ntmps16
  go_wp2
  go_ret
  exact ⟨rfl, alloc_at _ _ _, World.grownBy_alloc _ _ _, by simp⟩
set_option maxRecDepth 100000 in
set_option maxHeartbeats 2000000 in
theorem sameTexts_any (g g' : Nat) (t t' : TypeId) (w : World) (h : w.heap[g]? = some (.cells #[.string ⟨#[108, 111, 119]⟩, .string ⟨#[115, 116, 101, 112]⟩, .string ⟨#[109, 105, 100]⟩, .string ⟨#[104, 105, 103, 104]⟩, .string ⟨#[116, 111, 112]⟩] t (0, 0))) (h' : w.heap[g']? = some (.cells #[.string ⟨#[108, 111, 119]⟩, .string ⟨#[115, 116, 101, 112]⟩, .string ⟨#[109, 105, 100]⟩, .string ⟨#[104, 105, 103, 104]⟩, .string ⟨#[116, 111, 112]⟩] t' (0, 0))) : Calls Tryd.prog 17 #[.slice (some ⟨g, 0, none⟩) 5 5, .slice (some ⟨g', 0, none⟩) 5 5] w fun e w' => e = .returned (.bool true) ∧ w.grownBy w' none := by
  have a0 : w.cell? ⟨g, 0, none⟩ = some (.string ⟨#[108, 111, 119]⟩) := block_cell h 0
  have b0 : w.cell? ⟨g', 0, none⟩ = some (.string ⟨#[108, 111, 119]⟩) := block_cell h' 0
  have a1 : w.cell? ⟨g, 1, none⟩ = some (.string ⟨#[115, 116, 101, 112]⟩) := block_cell h 1
  have b1 : w.cell? ⟨g', 1, none⟩ = some (.string ⟨#[115, 116, 101, 112]⟩) := block_cell h' 1
  have a2 : w.cell? ⟨g, 2, none⟩ = some (.string ⟨#[109, 105, 100]⟩) := block_cell h 2
  have b2 : w.cell? ⟨g', 2, none⟩ = some (.string ⟨#[109, 105, 100]⟩) := block_cell h' 2
  have a3 : w.cell? ⟨g, 3, none⟩ = some (.string ⟨#[104, 105, 103, 104]⟩) := block_cell h 3
  have b3 : w.cell? ⟨g', 3, none⟩ = some (.string ⟨#[104, 105, 103, 104]⟩) := block_cell h' 3
  have a4 : w.cell? ⟨g, 4, none⟩ = some (.string ⟨#[116, 111, 112]⟩) := block_cell h 4
  have b4 : w.cell? ⟨g', 4, none⟩ = some (.string ⟨#[116, 111, 112]⟩) := block_cell h' 4
  clear h h'
  go_enter Tryd.func17, Tryd.ntmps17
  go_wp2
  go_loopw [5] (fun i wr => ∃ (k n : Nat), k ≤ 5 ∧ i = .int .i64 k ∧ wr = w.drewN n) (fun i _ => 5 - (intOf i).toNat)
  case atStart => exact ⟨0, 0, by omega, rfl, rfl⟩
  case round =>
    obtain ⟨k, n, hk, rfl, rfl⟩ := hrel
    rcases (by omega : k = 0 ∨ k = 1 ∨ k = 2 ∨ k = 3 ∨ k = 4 ∨ k = 5) with rfl | rfl | rfl | rfl | rfl | rfl
    · simp only [Int.cast_ofNat_Int]
      go_wp2
      go_quiet (fail)
      go_wp2
      go_roundw
      case rel => exact ⟨1, n + nq, by omega, rfl, rfl⟩
      case measure => decide
    · simp only [Int.cast_ofNat_Int]
      go_wp2
      go_quiet (fail)
      go_wp2
      go_roundw
      case rel => exact ⟨2, n + nq, by omega, rfl, rfl⟩
      case measure => decide
    · simp only [Int.cast_ofNat_Int]
      go_wp2
      go_quiet (fail)
      go_wp2
      go_roundw
      case rel => exact ⟨3, n + nq, by omega, rfl, rfl⟩
      case measure => decide
    · simp only [Int.cast_ofNat_Int]
      go_wp2
      go_quiet (fail)
      go_wp2
      go_roundw
      case rel => exact ⟨4, n + nq, by omega, rfl, rfl⟩
      case measure => decide
    · simp only [Int.cast_ofNat_Int]
      go_wp2
      go_quiet (fail)
      go_wp2
      go_roundw
      case rel => exact ⟨5, n + nq, by omega, rfl, rfl⟩
      case measure => decide
    · simp only [Int.cast_ofNat_Int]
      go_wp2
      go_ret
      exact ⟨rfl, grown_drewN _ _ _⟩
set_option maxRecDepth 100000 in
set_option maxHeartbeats 1000000 in
theorem rsum_any (w : World) : Calls Tryd.prog 15 #[] w fun e w' => e = .returned (.int .i64 41) ∧ w' = w := by
  go_enter Tryd.func15, Tryd.ntmps15
  go_wp2_with fail
  go_loop [1, 2] (fun s i => SumAt s i) (fun _ i => 5 - (intOf i).toNat)
  case atStart => exact Or.inl ⟨rfl, rfl⟩
  case round =>
    rcases hrel with ⟨rfl, rfl⟩ | ⟨rfl, rfl⟩ | ⟨rfl, rfl⟩ | ⟨rfl, rfl⟩ | ⟨rfl, rfl⟩ | ⟨rfl, rfl⟩
    · go_wp2_with fail
      refine (rv0 _).mono ?_
      rintro e w1 ⟨rfl, rfl⟩
      go_wp2
      go_round
      case rel => simp [SumAt]
      case measure => decide
    · go_wp2_with fail
      refine (rv1 _).mono ?_
      rintro e w1 ⟨rfl, rfl⟩
      go_wp2
      go_round
      case rel => simp [SumAt]
      case measure => decide
    · go_wp2_with fail
      refine (rv2 _).mono ?_
      rintro e w1 ⟨rfl, rfl⟩
      go_wp2
      go_round
      case rel => simp [SumAt]
      case measure => decide
    · go_wp2_with fail
      refine (rv3 _).mono ?_
      rintro e w1 ⟨rfl, rfl⟩
      go_wp2
      go_round
      case rel => simp [SumAt]
      case measure => decide
    · go_wp2_with fail
      refine (rv4 _).mono ?_
      rintro e w1 ⟨rfl, rfl⟩
      go_wp2
      go_round
      case rel => simp [SumAt]
      case measure => decide
    · go_wp2
      go_ret
      exact ⟨rfl, rfl⟩
/-- A list that the call itself grows: v owns the numbers l, in a block from base on. -/
def Own (w : World) (base : Nat) (v : Value) (l : List Int) : Prop := w.ownsRow base 3 1 v l.length (ints l)
theorem Own.keep {w w' : World} {base : Nat} {v : Value} {l : List Int} (h : Own w base v l) (hg : w.grownBy w' none) : Own w' base v l := by
  obtain ⟨h1, h2⟩ := h
  refine ⟨h1, ?_⟩
  rcases h2 with h2 | ⟨g, cap, cur, hv, hg0, hh, rest⟩
  · exact Or.inl h2
  · exact Or.inr ⟨g, cap, cur, hv, hg0, grown_keep hg hh (by simp), rest⟩
theorem Own.ints {w : World} {base : Nat} {v : Value} {l : List Int} (h : Own w base v l) : IntsAt w v l := by
  obtain ⟨h1, h2⟩ := h
  rcases h2 with ⟨rfl, h0⟩ | ⟨g, cap, cur, rfl, hg0, hh, hn, hm, hs, ht⟩
  · have : l = [] := List.eq_nil_of_length_eq_zero h0
    subst this
    exact ⟨none, 0, rfl, Nat.zero_le _, fun h => absurd h (by simp)⟩
  · refine ⟨_, cap, rfl, Nat.le_trans hn hm, fun h => ⟨g, 0, rfl, fun j hj => ?_⟩⟩
    rw [Nat.zero_add, block_cell hh, ← ints_at l j hj, ← ht, List.getElem?_take, if_pos (by omega)]
    simp
theorem Own.form {w : World} {base : Nat} {v : Value} {l : List Int} {n : Nat} (h : Own w base v l) (hn : l.length = n) : ∃ p cap, v = .slice p n cap := by
  obtain ⟨p, cap, e, _⟩ := h.ints
  exact ⟨p, cap, by rw [e, hn]⟩
theorem info3' : (Tryd.prog.info? 3).map (fun i => (i.zero, i.size, i.bytes)) = some (some (.int .i64 0), 1, 8) := by kernel_rfl
/-- The order behind some rounds, and nothing that was there has turned. -/
def OrdAt (w wr : World) (v : Value) (l : List Int) : Prop := Own wr w.heap.size v l ∧ w.grownBy wr none
set_option maxRecDepth 100000 in
set_option maxHeartbeats 8000000 in
theorem rorder_any (w : World) : Calls Tryd.prog 19 #[] w fun e w' => ∃ v, e = .returned v ∧ OrdAt w w' v [0, 2, 1, 3, 4] := by
  obtain ⟨i0, hi, hz0, hz1, hz2⟩ := info_parts info3'
  go_enter Tryd.func19, Tryd.ntmps19
  go_wp2_with fail
  go_loopw [1, 2] (fun v i wr => (i = .int .i64 1 ∧ OrdAt w wr v []) ∨ (i = .int .i64 2 ∧ OrdAt w wr v [0]) ∨ (i = .int .i64 3 ∧ OrdAt w wr v [0, 2]) ∨ (i = .int .i64 4 ∧ OrdAt w wr v [0, 2, 1]) ∨ (i = .int .i64 5 ∧ OrdAt w wr v [0, 2, 1, 3]) ∨ (i = .int .i64 6 ∧ OrdAt w wr v [0, 2, 1, 3, 4])) (fun _ i _ => 6 - (intOf i).toNat)
  case atStart => exact Or.inl ⟨rfl, World.ownsRow_nil _ _ _ _, grown_refl _ _⟩
  case round =>
    rcases hrel with ⟨rfl, O⟩ | ⟨rfl, O⟩ | ⟨rfl, O⟩ | ⟨rfl, O⟩ | ⟨rfl, O⟩ | ⟨rfl, O⟩
    · obtain ⟨wz, hz⟩ : ∃ wz, wz = wr := ⟨_, rfl⟩
      subst hz
      go_wp2_with fail
      go_loopw [1, 3] (fun v i wr => (i = .int .i64 0 ∧ OrdAt w wr v []) ∨ (i = .int .i64 1 ∧ OrdAt w wr v [0]) ∨ (i = .int .i64 2 ∧ OrdAt w wr v [0]) ∨ (i = .int .i64 3 ∧ OrdAt w wr v [0]) ∨ (i = .int .i64 4 ∧ OrdAt w wr v [0]) ∨ (i = .int .i64 5 ∧ OrdAt w wr v [0])) (fun _ i _ => 5 - (intOf i).toNat)
      case atStart => exact Or.inl ⟨rfl, O⟩
      case round =>
        clear O
        rcases hrel with ⟨rfl, O⟩ | ⟨rfl, O⟩ | ⟨rfl, O⟩ | ⟨rfl, O⟩ | ⟨rfl, O⟩ | ⟨rfl, O⟩
        · obtain ⟨q, cp, rfl⟩ := O.1.form (n := 0) rfl
          go_wp2_with fail
          refine (rt_five 0 (by simp [Five]) _).mono ?_
          rintro e w1 ⟨rfl, g1⟩
          rw [show ansT 0 = 1 from rfl]
          have O1 : w1.ownsRow w.heap.size 3 1 (.slice q 0 cp) 0 (ints []) := O.1.keep g1
          have G1 := grown_trans O.2 g1
          have hs1 : w.heap.size ≤ w1.heap.size := G1.size
          have HG1 : Hid (w.grownBy w1 none) := G1
          have HB : Hid (∀ x, (Value.slice q 0 cp).ownBlock = some x → w.heap.size ≤ x) := own_above O1
          clear O g1 G1
          go_wp2_with (at_builtin; refine wpList_append_own _ rfl (.tmp 16) (.tmp 18) 31 rfl w.heap.size 3 i0 (.int .i64 0) 1 8 Tryd.underlying31 hi hz0 hz1 hz2 rfl (by decide) (.slice q 0 cp) 0 (ints []) rfl (O1.alloc _) ⟨w1.heap.size, 0, none⟩ 1 1 [.int .i64 0] rfl rfl (cell_one_new _ _ _) (fun x hx => by simp at hx; subst hx; rfl) (by unfold maxLen; omega) (by omega) (by simp; omega) ?_; intro v' w7 hown' hgrow7 hnil7; clear hnil7; have O7 : Own w7 w.heap.size v' [0] := hown'; obtain ⟨q', cp', rfl⟩ := O7.form (n := 1) rfl; have H7 : Hid (OrdAt w w7 (.slice q' 1 cp') [0]) := ⟨O7, grown_own (grown_push HG1.out _) hgrow7 HB.out⟩; clear hown' hgrow7 O7)
          go_roundw
          case rel => exact Or.inr (Or.inl ⟨rfl, H7.out⟩)
          case measure => decide
        · go_wp2_with fail
          refine (rt_five 1 (by simp [Five]) _).mono ?_
          rintro e w1 ⟨rfl, g1⟩
          rw [show ansT 1 = 3 from rfl]
          go_wp2
          go_roundw
          case rel => exact Or.inr (Or.inr (Or.inl ⟨rfl, O.1.keep g1, grown_trans O.2 g1⟩))
          case measure => decide
        · go_wp2_with fail
          refine (rt_five 2 (by simp [Five]) _).mono ?_
          rintro e w1 ⟨rfl, g1⟩
          rw [show ansT 2 = 2 from rfl]
          go_wp2
          go_roundw
          case rel => exact Or.inr (Or.inr (Or.inr (Or.inl ⟨rfl, O.1.keep g1, grown_trans O.2 g1⟩)))
          case measure => decide
        · go_wp2_with fail
          refine (rt_five 3 (by simp [Five]) _).mono ?_
          rintro e w1 ⟨rfl, g1⟩
          rw [show ansT 3 = 4 from rfl]
          go_wp2
          go_roundw
          case rel => exact Or.inr (Or.inr (Or.inr (Or.inr (Or.inl ⟨rfl, O.1.keep g1, grown_trans O.2 g1⟩))))
          case measure => decide
        · go_wp2_with fail
          refine (rt_five 4 (by simp [Five]) _).mono ?_
          rintro e w1 ⟨rfl, g1⟩
          rw [show ansT 4 = 5 from rfl]
          go_wp2
          go_roundw
          case rel => exact Or.inr (Or.inr (Or.inr (Or.inr (Or.inr (⟨rfl, O.1.keep g1, grown_trans O.2 g1⟩)))))
          case measure => decide
        · go_wp2
          go_roundw
          case rel => exact Or.inr (Or.inl ⟨rfl, O⟩)
          case measure => decide
    · obtain ⟨wz, hz⟩ : ∃ wz, wz = wr := ⟨_, rfl⟩
      subst hz
      go_wp2_with fail
      go_loopw [1, 3] (fun v i wr => (i = .int .i64 0 ∧ OrdAt w wr v [0]) ∨ (i = .int .i64 1 ∧ OrdAt w wr v [0]) ∨ (i = .int .i64 2 ∧ OrdAt w wr v [0]) ∨ (i = .int .i64 3 ∧ OrdAt w wr v [0, 2]) ∨ (i = .int .i64 4 ∧ OrdAt w wr v [0, 2]) ∨ (i = .int .i64 5 ∧ OrdAt w wr v [0, 2])) (fun _ i _ => 5 - (intOf i).toNat)
      case atStart => exact Or.inl ⟨rfl, O⟩
      case round =>
        clear O
        rcases hrel with ⟨rfl, O⟩ | ⟨rfl, O⟩ | ⟨rfl, O⟩ | ⟨rfl, O⟩ | ⟨rfl, O⟩ | ⟨rfl, O⟩
        · go_wp2_with fail
          refine (rt_five 0 (by simp [Five]) _).mono ?_
          rintro e w1 ⟨rfl, g1⟩
          rw [show ansT 0 = 1 from rfl]
          go_wp2
          go_roundw
          case rel => exact Or.inr (Or.inl ⟨rfl, O.1.keep g1, grown_trans O.2 g1⟩)
          case measure => decide
        · go_wp2_with fail
          refine (rt_five 1 (by simp [Five]) _).mono ?_
          rintro e w1 ⟨rfl, g1⟩
          rw [show ansT 1 = 3 from rfl]
          go_wp2
          go_roundw
          case rel => exact Or.inr (Or.inr (Or.inl ⟨rfl, O.1.keep g1, grown_trans O.2 g1⟩))
          case measure => decide
        · obtain ⟨q, cp, rfl⟩ := O.1.form (n := 1) rfl
          go_wp2_with fail
          refine (rt_five 2 (by simp [Five]) _).mono ?_
          rintro e w1 ⟨rfl, g1⟩
          rw [show ansT 2 = 2 from rfl]
          have O1 : w1.ownsRow w.heap.size 3 1 (.slice q 1 cp) 1 (ints [0]) := O.1.keep g1
          have G1 := grown_trans O.2 g1
          have hs1 : w.heap.size ≤ w1.heap.size := G1.size
          have HG1 : Hid (w.grownBy w1 none) := G1
          have HB : Hid (∀ x, (Value.slice q 1 cp).ownBlock = some x → w.heap.size ≤ x) := own_above O1
          clear O g1 G1
          go_wp2_with (at_builtin; refine wpList_append_own _ rfl (.tmp 16) (.tmp 18) 31 rfl w.heap.size 3 i0 (.int .i64 0) 1 8 Tryd.underlying31 hi hz0 hz1 hz2 rfl (by decide) (.slice q 1 cp) 1 (ints [0]) rfl (O1.alloc _) ⟨w1.heap.size, 0, none⟩ 1 1 [.int .i64 2] rfl rfl (cell_one_new _ _ _) (fun x hx => by simp at hx; subst hx; rfl) (by unfold maxLen; omega) (by omega) (by simp; omega) ?_; intro v' w7 hown' hgrow7 hnil7; clear hnil7; have O7 : Own w7 w.heap.size v' [0, 2] := hown'; obtain ⟨q', cp', rfl⟩ := O7.form (n := 2) rfl; have H7 : Hid (OrdAt w w7 (.slice q' 2 cp') [0, 2]) := ⟨O7, grown_own (grown_push HG1.out _) hgrow7 HB.out⟩; clear hown' hgrow7 O7)
          go_roundw
          case rel => exact Or.inr (Or.inr (Or.inr (Or.inl ⟨rfl, H7.out⟩)))
          case measure => decide
        · go_wp2_with fail
          refine (rt_five 3 (by simp [Five]) _).mono ?_
          rintro e w1 ⟨rfl, g1⟩
          rw [show ansT 3 = 4 from rfl]
          go_wp2
          go_roundw
          case rel => exact Or.inr (Or.inr (Or.inr (Or.inr (Or.inl ⟨rfl, O.1.keep g1, grown_trans O.2 g1⟩))))
          case measure => decide
        · go_wp2_with fail
          refine (rt_five 4 (by simp [Five]) _).mono ?_
          rintro e w1 ⟨rfl, g1⟩
          rw [show ansT 4 = 5 from rfl]
          go_wp2
          go_roundw
          case rel => exact Or.inr (Or.inr (Or.inr (Or.inr (Or.inr (⟨rfl, O.1.keep g1, grown_trans O.2 g1⟩)))))
          case measure => decide
        · go_wp2
          go_roundw
          case rel => exact Or.inr (Or.inr (Or.inl ⟨rfl, O⟩))
          case measure => decide
    · obtain ⟨wz, hz⟩ : ∃ wz, wz = wr := ⟨_, rfl⟩
      subst hz
      go_wp2_with fail
      go_loopw [1, 3] (fun v i wr => (i = .int .i64 0 ∧ OrdAt w wr v [0, 2]) ∨ (i = .int .i64 1 ∧ OrdAt w wr v [0, 2]) ∨ (i = .int .i64 2 ∧ OrdAt w wr v [0, 2, 1]) ∨ (i = .int .i64 3 ∧ OrdAt w wr v [0, 2, 1]) ∨ (i = .int .i64 4 ∧ OrdAt w wr v [0, 2, 1]) ∨ (i = .int .i64 5 ∧ OrdAt w wr v [0, 2, 1])) (fun _ i _ => 5 - (intOf i).toNat)
      case atStart => exact Or.inl ⟨rfl, O⟩
      case round =>
        clear O
        rcases hrel with ⟨rfl, O⟩ | ⟨rfl, O⟩ | ⟨rfl, O⟩ | ⟨rfl, O⟩ | ⟨rfl, O⟩ | ⟨rfl, O⟩
        · go_wp2_with fail
          refine (rt_five 0 (by simp [Five]) _).mono ?_
          rintro e w1 ⟨rfl, g1⟩
          rw [show ansT 0 = 1 from rfl]
          go_wp2
          go_roundw
          case rel => exact Or.inr (Or.inl ⟨rfl, O.1.keep g1, grown_trans O.2 g1⟩)
          case measure => decide
        · obtain ⟨q, cp, rfl⟩ := O.1.form (n := 2) rfl
          go_wp2_with fail
          refine (rt_five 1 (by simp [Five]) _).mono ?_
          rintro e w1 ⟨rfl, g1⟩
          rw [show ansT 1 = 3 from rfl]
          have O1 : w1.ownsRow w.heap.size 3 1 (.slice q 2 cp) 2 (ints [0, 2]) := O.1.keep g1
          have G1 := grown_trans O.2 g1
          have hs1 : w.heap.size ≤ w1.heap.size := G1.size
          have HG1 : Hid (w.grownBy w1 none) := G1
          have HB : Hid (∀ x, (Value.slice q 2 cp).ownBlock = some x → w.heap.size ≤ x) := own_above O1
          clear O g1 G1
          go_wp2_with (at_builtin; refine wpList_append_own _ rfl (.tmp 16) (.tmp 18) 31 rfl w.heap.size 3 i0 (.int .i64 0) 1 8 Tryd.underlying31 hi hz0 hz1 hz2 rfl (by decide) (.slice q 2 cp) 2 (ints [0, 2]) rfl (O1.alloc _) ⟨w1.heap.size, 0, none⟩ 1 1 [.int .i64 1] rfl rfl (cell_one_new _ _ _) (fun x hx => by simp at hx; subst hx; rfl) (by unfold maxLen; omega) (by omega) (by simp; omega) ?_; intro v' w7 hown' hgrow7 hnil7; clear hnil7; have O7 : Own w7 w.heap.size v' [0, 2, 1] := hown'; obtain ⟨q', cp', rfl⟩ := O7.form (n := 3) rfl; have H7 : Hid (OrdAt w w7 (.slice q' 3 cp') [0, 2, 1]) := ⟨O7, grown_own (grown_push HG1.out _) hgrow7 HB.out⟩; clear hown' hgrow7 O7)
          go_roundw
          case rel => exact Or.inr (Or.inr (Or.inl ⟨rfl, H7.out⟩))
          case measure => decide
        · go_wp2_with fail
          refine (rt_five 2 (by simp [Five]) _).mono ?_
          rintro e w1 ⟨rfl, g1⟩
          rw [show ansT 2 = 2 from rfl]
          go_wp2
          go_roundw
          case rel => exact Or.inr (Or.inr (Or.inr (Or.inl ⟨rfl, O.1.keep g1, grown_trans O.2 g1⟩)))
          case measure => decide
        · go_wp2_with fail
          refine (rt_five 3 (by simp [Five]) _).mono ?_
          rintro e w1 ⟨rfl, g1⟩
          rw [show ansT 3 = 4 from rfl]
          go_wp2
          go_roundw
          case rel => exact Or.inr (Or.inr (Or.inr (Or.inr (Or.inl ⟨rfl, O.1.keep g1, grown_trans O.2 g1⟩))))
          case measure => decide
        · go_wp2_with fail
          refine (rt_five 4 (by simp [Five]) _).mono ?_
          rintro e w1 ⟨rfl, g1⟩
          rw [show ansT 4 = 5 from rfl]
          go_wp2
          go_roundw
          case rel => exact Or.inr (Or.inr (Or.inr (Or.inr (Or.inr (⟨rfl, O.1.keep g1, grown_trans O.2 g1⟩)))))
          case measure => decide
        · go_wp2
          go_roundw
          case rel => exact Or.inr (Or.inr (Or.inr (Or.inl ⟨rfl, O⟩)))
          case measure => decide
    · obtain ⟨wz, hz⟩ : ∃ wz, wz = wr := ⟨_, rfl⟩
      subst hz
      go_wp2_with fail
      go_loopw [1, 3] (fun v i wr => (i = .int .i64 0 ∧ OrdAt w wr v [0, 2, 1]) ∨ (i = .int .i64 1 ∧ OrdAt w wr v [0, 2, 1]) ∨ (i = .int .i64 2 ∧ OrdAt w wr v [0, 2, 1]) ∨ (i = .int .i64 3 ∧ OrdAt w wr v [0, 2, 1]) ∨ (i = .int .i64 4 ∧ OrdAt w wr v [0, 2, 1, 3]) ∨ (i = .int .i64 5 ∧ OrdAt w wr v [0, 2, 1, 3])) (fun _ i _ => 5 - (intOf i).toNat)
      case atStart => exact Or.inl ⟨rfl, O⟩
      case round =>
        clear O
        rcases hrel with ⟨rfl, O⟩ | ⟨rfl, O⟩ | ⟨rfl, O⟩ | ⟨rfl, O⟩ | ⟨rfl, O⟩ | ⟨rfl, O⟩
        · go_wp2_with fail
          refine (rt_five 0 (by simp [Five]) _).mono ?_
          rintro e w1 ⟨rfl, g1⟩
          rw [show ansT 0 = 1 from rfl]
          go_wp2
          go_roundw
          case rel => exact Or.inr (Or.inl ⟨rfl, O.1.keep g1, grown_trans O.2 g1⟩)
          case measure => decide
        · go_wp2_with fail
          refine (rt_five 1 (by simp [Five]) _).mono ?_
          rintro e w1 ⟨rfl, g1⟩
          rw [show ansT 1 = 3 from rfl]
          go_wp2
          go_roundw
          case rel => exact Or.inr (Or.inr (Or.inl ⟨rfl, O.1.keep g1, grown_trans O.2 g1⟩))
          case measure => decide
        · go_wp2_with fail
          refine (rt_five 2 (by simp [Five]) _).mono ?_
          rintro e w1 ⟨rfl, g1⟩
          rw [show ansT 2 = 2 from rfl]
          go_wp2
          go_roundw
          case rel => exact Or.inr (Or.inr (Or.inr (Or.inl ⟨rfl, O.1.keep g1, grown_trans O.2 g1⟩)))
          case measure => decide
        · obtain ⟨q, cp, rfl⟩ := O.1.form (n := 3) rfl
          go_wp2_with fail
          refine (rt_five 3 (by simp [Five]) _).mono ?_
          rintro e w1 ⟨rfl, g1⟩
          rw [show ansT 3 = 4 from rfl]
          have O1 : w1.ownsRow w.heap.size 3 1 (.slice q 3 cp) 3 (ints [0, 2, 1]) := O.1.keep g1
          have G1 := grown_trans O.2 g1
          have hs1 : w.heap.size ≤ w1.heap.size := G1.size
          have HG1 : Hid (w.grownBy w1 none) := G1
          have HB : Hid (∀ x, (Value.slice q 3 cp).ownBlock = some x → w.heap.size ≤ x) := own_above O1
          clear O g1 G1
          go_wp2_with (at_builtin; refine wpList_append_own _ rfl (.tmp 16) (.tmp 18) 31 rfl w.heap.size 3 i0 (.int .i64 0) 1 8 Tryd.underlying31 hi hz0 hz1 hz2 rfl (by decide) (.slice q 3 cp) 3 (ints [0, 2, 1]) rfl (O1.alloc _) ⟨w1.heap.size, 0, none⟩ 1 1 [.int .i64 3] rfl rfl (cell_one_new _ _ _) (fun x hx => by simp at hx; subst hx; rfl) (by unfold maxLen; omega) (by omega) (by simp; omega) ?_; intro v' w7 hown' hgrow7 hnil7; clear hnil7; have O7 : Own w7 w.heap.size v' [0, 2, 1, 3] := hown'; obtain ⟨q', cp', rfl⟩ := O7.form (n := 4) rfl; have H7 : Hid (OrdAt w w7 (.slice q' 4 cp') [0, 2, 1, 3]) := ⟨O7, grown_own (grown_push HG1.out _) hgrow7 HB.out⟩; clear hown' hgrow7 O7)
          go_roundw
          case rel => exact Or.inr (Or.inr (Or.inr (Or.inr (Or.inl ⟨rfl, H7.out⟩))))
          case measure => decide
        · go_wp2_with fail
          refine (rt_five 4 (by simp [Five]) _).mono ?_
          rintro e w1 ⟨rfl, g1⟩
          rw [show ansT 4 = 5 from rfl]
          go_wp2
          go_roundw
          case rel => exact Or.inr (Or.inr (Or.inr (Or.inr (Or.inr (⟨rfl, O.1.keep g1, grown_trans O.2 g1⟩)))))
          case measure => decide
        · go_wp2
          go_roundw
          case rel => exact Or.inr (Or.inr (Or.inr (Or.inr (Or.inl ⟨rfl, O⟩))))
          case measure => decide
    · obtain ⟨wz, hz⟩ : ∃ wz, wz = wr := ⟨_, rfl⟩
      subst hz
      go_wp2_with fail
      go_loopw [1, 3] (fun v i wr => (i = .int .i64 0 ∧ OrdAt w wr v [0, 2, 1, 3]) ∨ (i = .int .i64 1 ∧ OrdAt w wr v [0, 2, 1, 3]) ∨ (i = .int .i64 2 ∧ OrdAt w wr v [0, 2, 1, 3]) ∨ (i = .int .i64 3 ∧ OrdAt w wr v [0, 2, 1, 3]) ∨ (i = .int .i64 4 ∧ OrdAt w wr v [0, 2, 1, 3]) ∨ (i = .int .i64 5 ∧ OrdAt w wr v [0, 2, 1, 3, 4])) (fun _ i _ => 5 - (intOf i).toNat)
      case atStart => exact Or.inl ⟨rfl, O⟩
      case round =>
        clear O
        rcases hrel with ⟨rfl, O⟩ | ⟨rfl, O⟩ | ⟨rfl, O⟩ | ⟨rfl, O⟩ | ⟨rfl, O⟩ | ⟨rfl, O⟩
        · go_wp2_with fail
          refine (rt_five 0 (by simp [Five]) _).mono ?_
          rintro e w1 ⟨rfl, g1⟩
          rw [show ansT 0 = 1 from rfl]
          go_wp2
          go_roundw
          case rel => exact Or.inr (Or.inl ⟨rfl, O.1.keep g1, grown_trans O.2 g1⟩)
          case measure => decide
        · go_wp2_with fail
          refine (rt_five 1 (by simp [Five]) _).mono ?_
          rintro e w1 ⟨rfl, g1⟩
          rw [show ansT 1 = 3 from rfl]
          go_wp2
          go_roundw
          case rel => exact Or.inr (Or.inr (Or.inl ⟨rfl, O.1.keep g1, grown_trans O.2 g1⟩))
          case measure => decide
        · go_wp2_with fail
          refine (rt_five 2 (by simp [Five]) _).mono ?_
          rintro e w1 ⟨rfl, g1⟩
          rw [show ansT 2 = 2 from rfl]
          go_wp2
          go_roundw
          case rel => exact Or.inr (Or.inr (Or.inr (Or.inl ⟨rfl, O.1.keep g1, grown_trans O.2 g1⟩)))
          case measure => decide
        · go_wp2_with fail
          refine (rt_five 3 (by simp [Five]) _).mono ?_
          rintro e w1 ⟨rfl, g1⟩
          rw [show ansT 3 = 4 from rfl]
          go_wp2
          go_roundw
          case rel => exact Or.inr (Or.inr (Or.inr (Or.inr (Or.inl ⟨rfl, O.1.keep g1, grown_trans O.2 g1⟩))))
          case measure => decide
        · obtain ⟨q, cp, rfl⟩ := O.1.form (n := 4) rfl
          go_wp2_with fail
          refine (rt_five 4 (by simp [Five]) _).mono ?_
          rintro e w1 ⟨rfl, g1⟩
          rw [show ansT 4 = 5 from rfl]
          have O1 : w1.ownsRow w.heap.size 3 1 (.slice q 4 cp) 4 (ints [0, 2, 1, 3]) := O.1.keep g1
          have G1 := grown_trans O.2 g1
          have hs1 : w.heap.size ≤ w1.heap.size := G1.size
          have HG1 : Hid (w.grownBy w1 none) := G1
          have HB : Hid (∀ x, (Value.slice q 4 cp).ownBlock = some x → w.heap.size ≤ x) := own_above O1
          clear O g1 G1
          go_wp2_with (at_builtin; refine wpList_append_own _ rfl (.tmp 16) (.tmp 18) 31 rfl w.heap.size 3 i0 (.int .i64 0) 1 8 Tryd.underlying31 hi hz0 hz1 hz2 rfl (by decide) (.slice q 4 cp) 4 (ints [0, 2, 1, 3]) rfl (O1.alloc _) ⟨w1.heap.size, 0, none⟩ 1 1 [.int .i64 4] rfl rfl (cell_one_new _ _ _) (fun x hx => by simp at hx; subst hx; rfl) (by unfold maxLen; omega) (by omega) (by simp; omega) ?_; intro v' w7 hown' hgrow7 hnil7; clear hnil7; have O7 : Own w7 w.heap.size v' [0, 2, 1, 3, 4] := hown'; obtain ⟨q', cp', rfl⟩ := O7.form (n := 5) rfl; have H7 : Hid (OrdAt w w7 (.slice q' 5 cp') [0, 2, 1, 3, 4]) := ⟨O7, grown_own (grown_push HG1.out _) hgrow7 HB.out⟩; clear hown' hgrow7 O7)
          go_roundw
          case rel => exact Or.inr (Or.inr (Or.inr (Or.inr (Or.inr (⟨rfl, H7.out⟩)))))
          case measure => decide
        · go_wp2
          go_roundw
          case rel => exact Or.inr (Or.inr (Or.inr (Or.inr (Or.inr (⟨rfl, O⟩)))))
          case measure => decide
    · go_wp2
      go_ret
      exact ⟨_, rfl, O⟩
end Go.Proofs.YteigfndahedleaaDoor
