/-
  RankTurns, walked: the turns are 1 to 5, each once; each is one more than the greatest that is named; the values hang on one another as said.
-/
import Derived.Test.YteigfndahedleaaRank2
namespace Go.Proofs.Yteigfndahedleaa
open Go.RowKit
/-- Does the first number name the turn of the second one? -/
def nd (k i : Int) : Bool := decide (k = 4 ∧ (i = 3 ∨ i = 2) ∨ k = 3 ∧ (i = 2 ∨ i = 1) ∨ k = 1 ∧ (i = 0 ∨ i = 2) ∨ k = 2 ∧ i = 0)
set_option maxHeartbeats 4000000 in
theorem needs_five (k i : Int) (hk : Five k) (hi : Five i) (w : World) : Calls Try.prog 7 #[.int .i64 k, .int .i64 i] w fun e w' => e = .returned (.bool (nd k i)) ∧ w' = w := by
  rcases hk with rfl | rfl | rfl | rfl | rfl <;> rcases hi with rfl | rfl | rfl | rfl | rfl
  all_goals
    go_enter Try.func7, Try.ntmps7
    go_wp2
    go_ret
    exact ⟨rfl, rfl⟩
def turns : List Int := [1, 3, 2, 4, 5]
def mostI (k j : Nat) : Int := (List.range j).foldl (fun (m : Int) (i : Nat) => if nd k i then max m (turns.getD i 0) else m) 0
theorem mostI_succ (k j : Nat) : mostI k (j + 1) = if nd k j then max (mostI k j) (turns.getD j 0) else mostI k j := by
  unfold mostI
  rw [List.range_succ, List.foldl_append]; rfl
theorem most_eq : ∀ k, k < 5 → turns.getD k 0 = mostI k 5 + 1 ∧ 0 ≤ mostI k 5 ∧ mostI k 5 ≤ 5 := by decide
theorem most_le : ∀ k, k < 5 → ∀ j, j < 6 → 0 ≤ mostI k j ∧ mostI k j ≤ 5 := by decide
theorem turns_le : ∀ k, k < 5 → 1 ≤ turns.getD k 0 ∧ turns.getD k 0 ≤ 5 := by decide
theorem five_nat (k : Nat) (h : k < 5) : Five k := by unfold Five; omega
def vK : Nat → Array Value
  | 0 => #[.int .i64 0, .int .i64 0, .int .i64 0, .int .i64 0, .int .i64 0]
  | 1 => #[.int .i64 3, .int .i64 0, .int .i64 0, .int .i64 0, .int .i64 0]
  | 2 => #[.int .i64 3, .int .i64 2, .int .i64 0, .int .i64 0, .int .i64 0]
  | 3 => #[.int .i64 3, .int .i64 2, .int .i64 7, .int .i64 0, .int .i64 0]
  | 4 => #[.int .i64 3, .int .i64 2, .int .i64 7, .int .i64 11, .int .i64 0]
  | _ => #[.int .i64 3, .int .i64 2, .int .i64 7, .int .i64 11, .int .i64 18]
def tK : Nat → Array Value
  | 0 => #[.int .i64 0, .int .i64 0, .int .i64 0, .int .i64 0, .int .i64 0]
  | 1 => #[.int .i64 1, .int .i64 0, .int .i64 0, .int .i64 0, .int .i64 0]
  | 2 => #[.int .i64 1, .int .i64 3, .int .i64 0, .int .i64 0, .int .i64 0]
  | 3 => #[.int .i64 1, .int .i64 3, .int .i64 2, .int .i64 0, .int .i64 0]
  | 4 => #[.int .i64 1, .int .i64 3, .int .i64 2, .int .i64 4, .int .i64 0]
  | _ => #[.int .i64 1, .int .i64 3, .int .i64 2, .int .i64 4, .int .i64 5]
def mK : Nat → Array Value
  | 0 => #[.bool false, .bool false, .bool false, .bool false, .bool false, .bool false]
  | 1 => #[.bool false, .bool true, .bool false, .bool false, .bool false, .bool false]
  | 2 => #[.bool false, .bool true, .bool false, .bool true, .bool false, .bool false]
  | 3 => #[.bool false, .bool true, .bool true, .bool true, .bool false, .bool false]
  | 4 => #[.bool false, .bool true, .bool true, .bool true, .bool true, .bool false]
  | _ => #[.bool false, .bool true, .bool true, .bool true, .bool true, .bool true]
/-- Behind k rounds: values, turns, which were met. -/
def Met (w wr : World) (k : Nat) : Prop := wr.heap[w.heap.size]? = some (.cells (vK k) 22 (0, 0)) ∧ wr.heap[w.heap.size + 1]? = some (.cells (tK k) 22 (0, 0)) ∧ wr.heap[w.heap.size + 1 + 1]? = some (.cells (mK k) 23 (0, 0)) ∧ w.grownBy wr none
theorem Met.keep {w a b : World} {k : Nat} (h : Met w a k) (g : a.grownBy b none) : Met w b k := ⟨grown_keep g h.1 (by simp), grown_keep g h.2.1 (by simp), grown_keep g h.2.2.1 (by simp), grown_trans h.2.2.2 g⟩
theorem set_other {w : World} {s b : Nat} {o : Obj} (hne : b ≠ s) (h : w.heap[b]? = some o) (i : Nat) (x : Value) : (w.setCell ⟨s, i, none⟩ x).heap[b]? = some o := grown_keep (grown_set w s i x) h (by simpa using hne)
theorem Met.next {w a : World} {k i j l : Nat} {x y z : Value} (h : Met w a k) (hv : (vK k).setIfInBounds i x = vK (k + 1)) (ht : (tK k).setIfInBounds j y = tK (k + 1)) (hm : (mK k).setIfInBounds l z = mK (k + 1)) :
    Met w (((a.setCell ⟨w.heap.size, i, none⟩ x).setCell ⟨w.heap.size + 1, j, none⟩ y).setCell ⟨w.heap.size + 1 + 1, l, none⟩ z) (k + 1) := by
  obtain ⟨h1, h2, h3, G⟩ := h
  refine ⟨?_, ?_, ?_, ?_⟩
  · rw [← hv]; exact set_other (by omega) (set_other (by omega) (block_set h1 i x) _ _) _ _
  · rw [← ht]; exact set_other (by omega) (block_set (set_other (by omega) h2 _ _) j y) _ _
  · rw [← hm]; exact block_set (set_other (by omega) (set_other (by omega) h3 _ _) _ _) l z
  · exact grown_own (grown_own (grown_own G (grown_set _ _ _ _) (fun _ hx => by cases hx; omega)) (grown_set _ _ _ _) (fun _ hx => by cases hx; omega)) (grown_set _ _ _ _) (fun _ hx => by cases hx; omega)
theorem tK_at (j : Nat) (h : j < 5) : (tK 5)[j]? = some (.int .i64 (turns.getD j 0)) := by
  rcases (by omega : j = 0 ∨ j = 1 ∨ j = 2 ∨ j = 3 ∨ j = 4) with rfl | rfl | rfl | rfl | rfl <;> rfl
theorem Met.start (w : World) : Met w (((w.alloc (.cells (vK 0) 22)).alloc (.cells (tK 0) 22)).alloc (.cells (mK 0) 23)) 0 := by
  have e1 : (w.alloc (.cells (vK 0) 22)).heap.size = w.heap.size + 1 := by simp
  have e2 : ((w.alloc (.cells (vK 0) 22)).alloc (.cells (tK 0) 22)).heap.size = w.heap.size + 1 + 1 := by simp
  have g2 := World.grownBy_alloc (w.alloc (.cells (vK 0) 22)) (.cells (tK 0) 22) none
  have g3 := World.grownBy_alloc ((w.alloc (.cells (vK 0) 22)).alloc (.cells (tK 0) 22)) (.cells (mK 0) 23) none
  exact ⟨grown_keep g3 (grown_keep g2 (alloc_at _ _ _) (by simp)) (by simp), grown_keep g3 (alloc_at' _ _ _ _ e1.symm) (by simp), alloc_at' _ _ _ _ e2.symm, grown_trans (grown_trans (World.grownBy_alloc _ _ _) g2) g3⟩
set_option maxRecDepth 100000 in
set_option maxHeartbeats 4000000 in
theorem turns_any (w : World) : Calls Try.prog 3 #[] w fun e w' => e = .returned (.bool true) ∧ w.grownBy w' none := by
  go_enter Try.func3, Try.ntmps3
  go_wp2_with fail
  go_loopw [4] (fun i wr => ∃ k : Nat, k ≤ 5 ∧ i = .int .i64 k ∧ Met w wr k) (fun i _ => 5 - (intOf i).toNat)
  case atStart => exact ⟨0, by omega, rfl, Met.start w⟩
  case round =>
    obtain ⟨k, hk, rfl, M⟩ := hrel
    by_cases hlt : k < 5
    · have HM : Hid (Met w wr k) := M
      clear M
      rcases (by omega : k = 0 ∨ k = 1 ∨ k = 2 ∨ k = 3 ∨ k = 4) with rfl | rfl | rfl | rfl | rfl
      · simp only [Int.cast_ofNat_Int]
        go_wp2_with fail
        refine (of_five 0 (five_nat 0 (by omega)) _).mono ?_
        rintro e w2 ⟨rfl, g2⟩
        have M2 := HM.out.keep g2
        have f1 := block_free M2.1
        have f2 := block_free M2.2.1
        have f3 := block_free M2.2.2.1
        have c1 : w2.cell? ⟨w.heap.size, 0, none⟩ = some (.int .i64 0) := block_cell M2.1 0
        have c2 : w2.cell? ⟨w.heap.size + 1, 0, none⟩ = some (.int .i64 0) := block_cell M2.2.1 0
        have c3 : w2.cell? ⟨w.heap.size + 1 + 1, 1, none⟩ = some (.bool false) := block_cell M2.2.2.1 1
        have HN : Hid (Met w w2 0) := M2
        clear M2 g2
        rw [show ansV 0 = 3 from rfl, show ansT 0 = 1 from rfl, show ansE 0 = 0 from rfl]
        go_wp2
        go_roundw
        case rel => exact ⟨1, by omega, rfl, HN.out.next rfl rfl rfl⟩
        case measure => decide
      · simp only [Int.cast_ofNat_Int]
        go_wp2_with fail
        refine (of_five 1 (five_nat 1 (by omega)) _).mono ?_
        rintro e w2 ⟨rfl, g2⟩
        have M2 := HM.out.keep g2
        have f1 := block_free M2.1
        have f2 := block_free M2.2.1
        have f3 := block_free M2.2.2.1
        have c1 : w2.cell? ⟨w.heap.size, 1, none⟩ = some (.int .i64 0) := block_cell M2.1 1
        have c2 : w2.cell? ⟨w.heap.size + 1, 1, none⟩ = some (.int .i64 0) := block_cell M2.2.1 1
        have c3 : w2.cell? ⟨w.heap.size + 1 + 1, 3, none⟩ = some (.bool false) := block_cell M2.2.2.1 3
        have HN : Hid (Met w w2 1) := M2
        clear M2 g2
        rw [show ansV 1 = 2 from rfl, show ansT 1 = 3 from rfl, show ansE 1 = 0 from rfl]
        go_wp2
        go_roundw
        case rel => exact ⟨2, by omega, rfl, HN.out.next rfl rfl rfl⟩
        case measure => decide
      · simp only [Int.cast_ofNat_Int]
        go_wp2_with fail
        refine (of_five 2 (five_nat 2 (by omega)) _).mono ?_
        rintro e w2 ⟨rfl, g2⟩
        have M2 := HM.out.keep g2
        have f1 := block_free M2.1
        have f2 := block_free M2.2.1
        have f3 := block_free M2.2.2.1
        have c1 : w2.cell? ⟨w.heap.size, 2, none⟩ = some (.int .i64 0) := block_cell M2.1 2
        have c2 : w2.cell? ⟨w.heap.size + 1, 2, none⟩ = some (.int .i64 0) := block_cell M2.2.1 2
        have c3 : w2.cell? ⟨w.heap.size + 1 + 1, 2, none⟩ = some (.bool false) := block_cell M2.2.2.1 2
        have HN : Hid (Met w w2 2) := M2
        clear M2 g2
        rw [show ansV 2 = 7 from rfl, show ansT 2 = 2 from rfl, show ansE 2 = 0 from rfl]
        go_wp2
        go_roundw
        case rel => exact ⟨3, by omega, rfl, HN.out.next rfl rfl rfl⟩
        case measure => decide
      · simp only [Int.cast_ofNat_Int]
        go_wp2_with fail
        refine (of_five 3 (five_nat 3 (by omega)) _).mono ?_
        rintro e w2 ⟨rfl, g2⟩
        have M2 := HM.out.keep g2
        have f1 := block_free M2.1
        have f2 := block_free M2.2.1
        have f3 := block_free M2.2.2.1
        have c1 : w2.cell? ⟨w.heap.size, 3, none⟩ = some (.int .i64 0) := block_cell M2.1 3
        have c2 : w2.cell? ⟨w.heap.size + 1, 3, none⟩ = some (.int .i64 0) := block_cell M2.2.1 3
        have c3 : w2.cell? ⟨w.heap.size + 1 + 1, 4, none⟩ = some (.bool false) := block_cell M2.2.2.1 4
        have HN : Hid (Met w w2 3) := M2
        clear M2 g2
        rw [show ansV 3 = 11 from rfl, show ansT 3 = 4 from rfl, show ansE 3 = 0 from rfl]
        go_wp2
        go_roundw
        case rel => exact ⟨4, by omega, rfl, HN.out.next rfl rfl rfl⟩
        case measure => decide
      · simp only [Int.cast_ofNat_Int]
        go_wp2_with fail
        refine (of_five 4 (five_nat 4 (by omega)) _).mono ?_
        rintro e w2 ⟨rfl, g2⟩
        have M2 := HM.out.keep g2
        have f1 := block_free M2.1
        have f2 := block_free M2.2.1
        have f3 := block_free M2.2.2.1
        have c1 : w2.cell? ⟨w.heap.size, 4, none⟩ = some (.int .i64 0) := block_cell M2.1 4
        have c2 : w2.cell? ⟨w.heap.size + 1, 4, none⟩ = some (.int .i64 0) := block_cell M2.2.1 4
        have c3 : w2.cell? ⟨w.heap.size + 1 + 1, 5, none⟩ = some (.bool false) := block_cell M2.2.2.1 5
        have HN : Hid (Met w w2 4) := M2
        clear M2 g2
        rw [show ansV 4 = 18 from rfl, show ansT 4 = 5 from rfl, show ansE 4 = 0 from rfl]
        go_wp2
        go_roundw
        case rel => exact ⟨5, by omega, rfl, HN.out.next rfl rfl rfl⟩
        case measure => decide
    · have ek : k = 5 := by omega
      subst ek
      have t0 : Hid (wr.heap[w.heap.size + 1]? = some (.cells (tK 5) 22 (0, 0))) := M.2.1
      have cv : Hid (wr.heap[w.heap.size]? = some (.cells (vK 5) 22 (0, 0))) := M.1
      have HG : Hid (w.grownBy wr none) := M.2.2.2
      clear M hlt hk
      obtain ⟨wz, hz⟩ : ∃ wz, wz = wr := ⟨_, rfl⟩
      subst hz
      simp only [Int.cast_ofNat_Int]
      go_wp2_with fail
      go_loop [6] (fun i => ∃ k : Nat, k ≤ 5 ∧ i = .int .i64 k) (fun i => 5 - (intOf i).toNat)
      case atStart => exact ⟨0, by omega, rfl⟩
      case round =>
        obtain ⟨k, hk, rfl⟩ := hrel
        by_cases hlt : k < 5
        · go_wp2_with fail
          go_loop [7, 8] (fun m i => ∃ j : Nat, j ≤ 5 ∧ m = .int .i64 (mostI k j) ∧ i = .int .i64 j) (fun _ i => 5 - (intOf i).toNat)
          case atStart => exact ⟨0, by omega, rfl, rfl⟩
          case round =>
            obtain ⟨j, hj, rfl, rfl⟩ := hrel
            by_cases hl2 : j < 5
            · have HS : Hid (mostI k (j + 1) = if nd k j then max (mostI k j) (turns.getD j 0) else mostI k j) := mostI_succ k j
              have hb := most_le k hlt j (by omega)
              have ht := turns_le j hl2
              have cj : wz.cell? ⟨w.heap.size + 1, j, none⟩ = some (.int .i64 (turns.getD j 0)) := (block_cell t0.out j).trans (tK_at j hl2)
              generalize turns.getD j 0 = tj at *
              generalize mostI k j = m at *
              go_wp2_with fail
              refine (needs_five k j (five_nat k hlt) (five_nat j hl2) _).mono ?_
              rintro e w2 ⟨rfl, rfl⟩
              by_cases hn : nd k j = true
              · rw [hn]
                rw [if_pos hn] at HS
                go_wp2
                go_round
                case rel => exact ⟨j + 1, by omega, int_eq (by rw [HS.out]; exact max_if _ _), by go_num⟩
                case measure => simp [intOf]; omega
              · have hf : nd k j = false := by simpa using hn
                rw [hf]
                rw [if_neg hn] at HS
                go_wp2
                go_round
                case rel => exact ⟨j + 1, by omega, int_eq HS.out.symm, by go_num⟩
                case measure => simp [intOf]; omega
            · have ej : j = 5 := by omega
              subst ej
              have ck : wz.cell? ⟨w.heap.size + 1, k, none⟩ = some (.int .i64 (mostI k 5 + 1)) := (block_cell t0.out k).trans ((tK_at k hlt).trans (by rw [(most_eq k hlt).1]))
              have hb := (most_eq k hlt).2
              generalize mostI k 5 = m at *
              simp only [Int.cast_ofNat_Int]
              go_wp2
              go_round
              case rel => exact ⟨k + 1, by omega, by go_num⟩
              case measure => simp [intOf]; omega
        · have ek : k = 5 := by omega
          subst ek
          have d0 : wz.cell? ⟨w.heap.size, 0, none⟩ = some (.int .i64 3) := block_cell cv.out 0
          have d1 : wz.cell? ⟨w.heap.size, 1, none⟩ = some (.int .i64 2) := block_cell cv.out 1
          have d2 : wz.cell? ⟨w.heap.size, 2, none⟩ = some (.int .i64 7) := block_cell cv.out 2
          have d3 : wz.cell? ⟨w.heap.size, 3, none⟩ = some (.int .i64 11) := block_cell cv.out 3
          have d4 : wz.cell? ⟨w.heap.size, 4, none⟩ = some (.int .i64 18) := block_cell cv.out 4
          simp only [Int.cast_ofNat_Int]
          go_wp2
          go_ret
          exact ⟨rfl, HG.out⟩
end Go.Proofs.Yteigfndahedleaa
