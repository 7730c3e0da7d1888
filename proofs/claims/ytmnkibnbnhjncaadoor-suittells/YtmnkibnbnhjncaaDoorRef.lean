/-
  What the document's own answer says of suits (gambitref03), of every number and every text; each touches nothing that was there.
-/
import Derived.Test.YtmnkibnbnhjncaaDoorOf
namespace Go.Proofs.YtmnkibnbnhjncaaDoor
open Go.RowKit

set_option maxHeartbeats 1000000 in
theorem is_yes (k : Int) (h : 1 ≤ k) (h' : k ≤ 6) (w : World) : Calls Tryd.prog 23 #[.int .u8 k] w fun e w' => e = .returned (.bool true) ∧ w' = w := by
  go_enter Tryd.func23, Tryd.ntmps23
  go_wp2
  go_ret
  exact ⟨rfl, rfl⟩
set_option maxHeartbeats 1000000 in
theorem is_no (k : Int) (h : k < 1 ∨ 6 < k) (w : World) : Calls Tryd.prog 23 #[.int .u8 k] w fun e w' => e = .returned (.bool false) ∧ w' = w := by
  rcases h with h | h
  · have h0 : ¬ 1 ≤ k := by omega
    go_enter Tryd.func23, Tryd.ntmps23
    go_wp2
    go_ret
    exact ⟨rfl, rfl⟩
  · have h0 : 1 ≤ k := by omega
    have h1 : ¬ k ≤ 6 := by omega
    go_enter Tryd.func23, Tryd.ntmps23
    go_wp2
    go_ret
    exact ⟨rfl, rfl⟩
set_option maxHeartbeats 1000000 in
theorem rname_any (k : Int) (w : World) : Calls Tryd.prog 10 #[.int .u8 k] w fun e w' => e = .returned (.string (sName k)) ∧ w' = w := by
  rcases six_or k with h | h
  · rcases h with rfl | rfl | rfl | rfl | rfl | rfl
    all_goals
      go_enter Tryd.func10, Tryd.ntmps10
      go_wp2
      go_ret
      exact ⟨rfl, rfl⟩
  · rw [(six_no k h).1]
    have h1 : (k == 1) = false := by simpa using (show ¬ k = 1 by omega)
    have h2 : (k == 2) = false := by simpa using (show ¬ k = 2 by omega)
    have h3 : (k == 3) = false := by simpa using (show ¬ k = 3 by omega)
    have h4 : (k == 4) = false := by simpa using (show ¬ k = 4 by omega)
    have h5 : (k == 5) = false := by simpa using (show ¬ k = 5 by omega)
    have h6 : (k == 6) = false := by simpa using (show ¬ k = 6 by omega)
    go_enter Tryd.func10, Tryd.ntmps10
    go_wp2
    go_ret
    exact ⟨rfl, rfl⟩
/-- None of the first k names is the text. -/
def NoneYet (s : List UInt8) (k : Nat) : Prop := ∀ x : Fin 6, x.val < k → nmL x ≠ s
theorem NoneYet.next {s : List UInt8} {k : Nat} (h : NoneYet s k) (x : Fin 6) (hx : x.val = k) (hk : ¬ nmL x = s) : NoneYet s (k + 1) := fun y hy => by
  by_cases e : y.val = k
  · have : y = x := Fin.ext (by omega)
    subst this; exact hk
  · exact h y (by omega)
theorem ret_of {s : List UInt8} {a : Int} {b : Bool} (h : oI s = a ∧ oB s = b) : Ending.returned (.tuple #[.int .u8 a, .bool b]) = .returned (.tuple #[.int .u8 (oI s), .bool (oB s)]) := by rw [h.1, h.2]
theorem hit_of {s : List UInt8} (x : Fin 6) (h : nmL x = s) : oI s = suitV x ∧ oB s = true := by rw [← h]; exact of_hit x
set_option maxRecDepth 100000 in
set_option maxHeartbeats 2000000 in
theorem rsof_any (s : ByteArray) (w : World) : Calls Tryd.prog 8 #[.string s] w fun e w' => e = .returned (.tuple #[.int .u8 (oI s.toList), .bool (oB s.toList)]) ∧ w' = w := by
  go_enter Tryd.func8, Tryd.ntmps8
  go_wp2
  go_loop [4] (fun i => ∃ k : Nat, k ≤ 6 ∧ i = .int .u8 (k + 1) ∧ NoneYet s.toList k) (fun i => 7 - (intOf i).toNat)
  case atStart => exact ⟨0, by omega, rfl, fun j hj => absurd hj (Nat.not_lt_zero _)⟩
  case round =>
    obtain ⟨k, hk, rfl, hn⟩ := hrel
    have HN : Hid (NoneYet s.toList k) := hn
    clear hn
    rcases (by omega : k = 0 ∨ k = 1 ∨ k = 2 ∨ k = 3 ∨ k = 4 ∨ k = 5 ∨ k = 6) with rfl | rfl | rfl | rfl | rfl | rfl | rfl
    all_goals simp only [Int.cast_ofNat_Int, Int.reduceAdd]
    · by_cases he : ([97, 105, 114] : List UInt8) = s.toList
      · have hd : (([97, 105, 114] : List UInt8) == s.toList) = true := by simpa using he
        have HE : Hid (([97, 105, 114] : List UInt8) = s.toList) := he
        clear he
        go_wp2_with fail
        refine (rname_any _ _).mono ?_
        rintro e w1 ⟨rfl, rfl⟩
        rw [show sName 1 = ⟨#[97, 105, 114]⟩ from rfl]
        go_wp2
        go_ret2
        exact ⟨ret_of (hit_of 0 HE.out), rfl⟩
      · have hd : (([97, 105, 114] : List UInt8) == s.toList) = false := by simpa using he
        have HE : Hid (¬ ([97, 105, 114] : List UInt8) = s.toList) := he
        clear he
        go_wp2_with fail
        refine (rname_any _ _).mono ?_
        rintro e w1 ⟨rfl, rfl⟩
        rw [show sName 1 = ⟨#[97, 105, 114]⟩ from rfl]
        go_wp2
        go_round
        case rel => exact ⟨1, by omega, rfl, HN.out.next 0 rfl HE.out⟩
        case measure => decide
    · by_cases he : ([101, 97, 114, 116, 104] : List UInt8) = s.toList
      · have hd : (([101, 97, 114, 116, 104] : List UInt8) == s.toList) = true := by simpa using he
        have HE : Hid (([101, 97, 114, 116, 104] : List UInt8) = s.toList) := he
        clear he
        go_wp2_with fail
        refine (rname_any _ _).mono ?_
        rintro e w1 ⟨rfl, rfl⟩
        rw [show sName 2 = ⟨#[101, 97, 114, 116, 104]⟩ from rfl]
        go_wp2
        go_ret2
        exact ⟨ret_of (hit_of 1 HE.out), rfl⟩
      · have hd : (([101, 97, 114, 116, 104] : List UInt8) == s.toList) = false := by simpa using he
        have HE : Hid (¬ ([101, 97, 114, 116, 104] : List UInt8) = s.toList) := he
        clear he
        go_wp2_with fail
        refine (rname_any _ _).mono ?_
        rintro e w1 ⟨rfl, rfl⟩
        rw [show sName 2 = ⟨#[101, 97, 114, 116, 104]⟩ from rfl]
        go_wp2
        go_round
        case rel => exact ⟨2, by omega, rfl, HN.out.next 1 rfl HE.out⟩
        case measure => decide
    · by_cases he : ([102, 105, 114, 101] : List UInt8) = s.toList
      · have hd : (([102, 105, 114, 101] : List UInt8) == s.toList) = true := by simpa using he
        have HE : Hid (([102, 105, 114, 101] : List UInt8) = s.toList) := he
        clear he
        go_wp2_with fail
        refine (rname_any _ _).mono ?_
        rintro e w1 ⟨rfl, rfl⟩
        rw [show sName 3 = ⟨#[102, 105, 114, 101]⟩ from rfl]
        go_wp2
        go_ret2
        exact ⟨ret_of (hit_of 2 HE.out), rfl⟩
      · have hd : (([102, 105, 114, 101] : List UInt8) == s.toList) = false := by simpa using he
        have HE : Hid (¬ ([102, 105, 114, 101] : List UInt8) = s.toList) := he
        clear he
        go_wp2_with fail
        refine (rname_any _ _).mono ?_
        rintro e w1 ⟨rfl, rfl⟩
        rw [show sName 3 = ⟨#[102, 105, 114, 101]⟩ from rfl]
        go_wp2
        go_round
        case rel => exact ⟨3, by omega, rfl, HN.out.next 2 rfl HE.out⟩
        case measure => decide
    · by_cases he : ([119, 97, 116, 101, 114] : List UInt8) = s.toList
      · have hd : (([119, 97, 116, 101, 114] : List UInt8) == s.toList) = true := by simpa using he
        have HE : Hid (([119, 97, 116, 101, 114] : List UInt8) = s.toList) := he
        clear he
        go_wp2_with fail
        refine (rname_any _ _).mono ?_
        rintro e w1 ⟨rfl, rfl⟩
        rw [show sName 4 = ⟨#[119, 97, 116, 101, 114]⟩ from rfl]
        go_wp2
        go_ret2
        exact ⟨ret_of (hit_of 3 HE.out), rfl⟩
      · have hd : (([119, 97, 116, 101, 114] : List UInt8) == s.toList) = false := by simpa using he
        have HE : Hid (¬ ([119, 97, 116, 101, 114] : List UInt8) = s.toList) := he
        clear he
        go_wp2_with fail
        refine (rname_any _ _).mono ?_
        rintro e w1 ⟨rfl, rfl⟩
        rw [show sName 4 = ⟨#[119, 97, 116, 101, 114]⟩ from rfl]
        go_wp2
        go_round
        case rel => exact ⟨4, by omega, rfl, HN.out.next 3 rfl HE.out⟩
        case measure => decide
    · by_cases he : ([118, 111, 105, 100] : List UInt8) = s.toList
      · have hd : (([118, 111, 105, 100] : List UInt8) == s.toList) = true := by simpa using he
        have HE : Hid (([118, 111, 105, 100] : List UInt8) = s.toList) := he
        clear he
        go_wp2_with fail
        refine (rname_any _ _).mono ?_
        rintro e w1 ⟨rfl, rfl⟩
        rw [show sName 5 = ⟨#[118, 111, 105, 100]⟩ from rfl]
        go_wp2
        go_ret2
        exact ⟨ret_of (hit_of 4 HE.out), rfl⟩
      · have hd : (([118, 111, 105, 100] : List UInt8) == s.toList) = false := by simpa using he
        have HE : Hid (¬ ([118, 111, 105, 100] : List UInt8) = s.toList) := he
        clear he
        go_wp2_with fail
        refine (rname_any _ _).mono ?_
        rintro e w1 ⟨rfl, rfl⟩
        rw [show sName 5 = ⟨#[118, 111, 105, 100]⟩ from rfl]
        go_wp2
        go_round
        case rel => exact ⟨5, by omega, rfl, HN.out.next 4 rfl HE.out⟩
        case measure => decide
    · by_cases he : ([103, 111, 108, 100] : List UInt8) = s.toList
      · have hd : (([103, 111, 108, 100] : List UInt8) == s.toList) = true := by simpa using he
        have HE : Hid (([103, 111, 108, 100] : List UInt8) = s.toList) := he
        clear he
        go_wp2_with fail
        refine (rname_any _ _).mono ?_
        rintro e w1 ⟨rfl, rfl⟩
        rw [show sName 6 = ⟨#[103, 111, 108, 100]⟩ from rfl]
        go_wp2
        go_ret2
        exact ⟨ret_of (hit_of 5 HE.out), rfl⟩
      · have hd : (([103, 111, 108, 100] : List UInt8) == s.toList) = false := by simpa using he
        have HE : Hid (¬ ([103, 111, 108, 100] : List UInt8) = s.toList) := he
        clear he
        go_wp2_with fail
        refine (rname_any _ _).mono ?_
        rintro e w1 ⟨rfl, rfl⟩
        rw [show sName 6 = ⟨#[103, 111, 108, 100]⟩ from rfl]
        go_wp2
        go_round
        case rel => exact ⟨6, by omega, rfl, HN.out.next 5 rfl HE.out⟩
        case measure => decide
    · go_wp2
      go_ret2
      exact ⟨ret_of (of_miss _ (fun x _ => HN.out x x.isLt)), rfl⟩
set_option maxHeartbeats 1000000 in
theorem rring_any (w : World) : Calls Tryd.prog 21 #[] w fun e w' => e = .returned (.slice (some ⟨w.heap.size, 0, none⟩) 6 6) ∧ w' = w.alloc (.cells #[.int .u8 1, .int .u8 2, .int .u8 4, .int .u8 3, .int .u8 5, .int .u8 6] 22) := by
  go_enter Tryd.func21, Tryd.ntmps21
  go_wp2
  go_ret
  exact ⟨rfl, rfl⟩
set_option maxRecDepth 100000 in
set_option maxHeartbeats 2000000 in
theorem rbeats_any (k : Int) (w : World) : Calls Tryd.prog 12 #[.int .u8 k] w fun e w' => e = .returned (.int .u8 (sBeats k)) ∧ w.grownBy w' none := by
  go_enter Tryd.func12, Tryd.ntmps12
  go_wp2_with fail
  refine (rring_any _).mono ?_
  rintro e w1 ⟨rfl, hw1⟩
  have B1 := alloc_at w #[.int .u8 1, .int .u8 2, .int .u8 4, .int .u8 3, .int .u8 5, .int .u8 6] 22
  have HG : Hid (w.grownBy (w.alloc (.cells #[.int .u8 1, .int .u8 2, .int .u8 4, .int .u8 3, .int .u8 5, .int .u8 6] 22)) none) := World.grownBy_alloc _ _ _
  rw [← hw1] at B1 HG
  clear hw1
  have c0 : w1.cell? ⟨w.heap.size, 0, none⟩ = some (.int .u8 1) := block_cell B1 0
  have c1 : w1.cell? ⟨w.heap.size, 1, none⟩ = some (.int .u8 2) := block_cell B1 1
  have c2 : w1.cell? ⟨w.heap.size, 2, none⟩ = some (.int .u8 4) := block_cell B1 2
  have c3 : w1.cell? ⟨w.heap.size, 3, none⟩ = some (.int .u8 3) := block_cell B1 3
  have c4 : w1.cell? ⟨w.heap.size, 4, none⟩ = some (.int .u8 5) := block_cell B1 4
  have c5 : w1.cell? ⟨w.heap.size, 5, none⟩ = some (.int .u8 6) := block_cell B1 5
  clear B1
  generalize w.heap.size = g at *
  rcases six_or k with h | h
  · rcases h with rfl | rfl | rfl | rfl | rfl | rfl
    · go_wp2_with fail
      go_loop [4] (fun i => i = .int .i64 0) (fun i => 6 - (intOf i).toNat)
      case atStart => exact rfl
      case round =>
      subst hrel
      · go_wp2
        go_ret
        exact ⟨rfl, HG.out⟩
    · go_wp2_with fail
      go_loop [4] (fun i => i = .int .i64 0 ∨ i = .int .i64 1) (fun i => 6 - (intOf i).toNat)
      case atStart => exact Or.inl rfl
      case round =>
      rcases hrel with rfl | rfl
      iterate 1
        · go_wp2
          go_round
          case rel => simp
          case measure => decide
      · go_wp2
        go_ret
        exact ⟨rfl, HG.out⟩
    · go_wp2_with fail
      go_loop [4] (fun i => i = .int .i64 0 ∨ i = .int .i64 1 ∨ i = .int .i64 2 ∨ i = .int .i64 3) (fun i => 6 - (intOf i).toNat)
      case atStart => exact Or.inl rfl
      case round =>
      rcases hrel with rfl | rfl | rfl | rfl
      iterate 3
        · go_wp2
          go_round
          case rel => simp
          case measure => decide
      · go_wp2
        go_ret
        exact ⟨rfl, HG.out⟩
    · go_wp2_with fail
      go_loop [4] (fun i => i = .int .i64 0 ∨ i = .int .i64 1 ∨ i = .int .i64 2) (fun i => 6 - (intOf i).toNat)
      case atStart => exact Or.inl rfl
      case round =>
      rcases hrel with rfl | rfl | rfl
      iterate 2
        · go_wp2
          go_round
          case rel => simp
          case measure => decide
      · go_wp2
        go_ret
        exact ⟨rfl, HG.out⟩
    · go_wp2_with fail
      go_loop [4] (fun i => i = .int .i64 0 ∨ i = .int .i64 1 ∨ i = .int .i64 2 ∨ i = .int .i64 3 ∨ i = .int .i64 4) (fun i => 6 - (intOf i).toNat)
      case atStart => exact Or.inl rfl
      case round =>
      rcases hrel with rfl | rfl | rfl | rfl | rfl
      iterate 4
        · go_wp2
          go_round
          case rel => simp
          case measure => decide
      · go_wp2
        go_ret
        exact ⟨rfl, HG.out⟩
    · go_wp2_with fail
      go_loop [4] (fun i => i = .int .i64 0 ∨ i = .int .i64 1 ∨ i = .int .i64 2 ∨ i = .int .i64 3 ∨ i = .int .i64 4 ∨ i = .int .i64 5) (fun i => 6 - (intOf i).toNat)
      case atStart => exact Or.inl rfl
      case round =>
      rcases hrel with rfl | rfl | rfl | rfl | rfl | rfl
      iterate 5
        · go_wp2
          go_round
          case rel => simp
          case measure => decide
      · go_wp2
        go_ret
        exact ⟨rfl, HG.out⟩
  · have HZ : Hid (sBeats k = 0) := (six_no k h).2.1
    have h1 : ((1 : Int) == k) = false := by simpa using (show ¬ 1 = k by omega)
    have h2 : ((2 : Int) == k) = false := by simpa using (show ¬ 2 = k by omega)
    have h3 : ((3 : Int) == k) = false := by simpa using (show ¬ 3 = k by omega)
    have h4 : ((4 : Int) == k) = false := by simpa using (show ¬ 4 = k by omega)
    have h5 : ((5 : Int) == k) = false := by simpa using (show ¬ 5 = k by omega)
    have h6 : ((6 : Int) == k) = false := by simpa using (show ¬ 6 = k by omega)
    clear h
    go_wp2_with fail
    go_loop [4] (fun i => i = .int .i64 0 ∨ i = .int .i64 1 ∨ i = .int .i64 2 ∨ i = .int .i64 3 ∨ i = .int .i64 4 ∨ i = .int .i64 5 ∨ i = .int .i64 6) (fun i => 6 - (intOf i).toNat)
    case atStart => exact Or.inl rfl
    case round =>
    rcases hrel with rfl | rfl | rfl | rfl | rfl | rfl | rfl
    iterate 6
      · go_wp2
        go_round
        case rel => simp
        case measure => decide
    · go_wp2
      go_ret
      exact ⟨ret_int HZ.out.symm, HG.out⟩
set_option maxHeartbeats 1000000 in
theorem rweight_any (k : Int) (w : World) : Calls Tryd.prog 16 #[.int .u8 k] w fun e w' => e = .returned (.int .i64 (sWeight k)) ∧ w.grownBy w' none := by
  rcases six_or k with h | h
  · rcases h with rfl | rfl | rfl | rfl | rfl | rfl
    all_goals
      go_enter Tryd.func16, Tryd.ntmps16
      go_wp2_with fail
      refine (is_yes _ (by omega) (by omega) _).mono ?_
      rintro e w1 ⟨rfl, rfl⟩
      go_wp2_with fail
      refine (rof_any _ _).mono ?_
      rintro e w2 ⟨rfl, g2⟩
      go_wp2
      go_ret
      exact ⟨rfl, g2⟩
  · rw [(six_no k h).2.2.2]
    go_enter Tryd.func16, Tryd.ntmps16
    go_wp2_with fail
    refine (is_no _ h _).mono ?_
    rintro e w1 ⟨rfl, rfl⟩
    go_wp2
    go_ret
    exact ⟨rfl, grown_refl _ _⟩
set_option maxRecDepth 100000 in
set_option maxHeartbeats 2000000 in
theorem rbeaten_no (k : Int) (h : k < 1 ∨ 6 < k) (w : World) : Calls Tryd.prog 14 #[.int .u8 k] w fun e w' => e = .returned (.int .u8 0) ∧ w' = w := by
  go_enter Tryd.func14, Tryd.ntmps14
  go_wp2
  go_loop [3] (fun i => i = .int .u8 1 ∨ i = .int .u8 2 ∨ i = .int .u8 3 ∨ i = .int .u8 4 ∨ i = .int .u8 5 ∨ i = .int .u8 6 ∨ i = .int .u8 7) (fun i => 7 - (intOf i).toNat)
  case atStart => exact Or.inl rfl
  case round =>
  rcases hrel with rfl | rfl | rfl | rfl | rfl | rfl | rfl
  iterate 6
    · go_wp2_with fail
      refine (is_no _ h _).mono ?_
      rintro e w1 ⟨rfl, rfl⟩
      go_wp2
      go_round
      case rel => simp
      case measure => decide
  · go_wp2
    go_ret
    exact ⟨rfl, rfl⟩
set_option maxRecDepth 100000 in
set_option maxHeartbeats 2000000 in
theorem rbeaten1 (w : World) : Calls Tryd.prog 14 #[.int .u8 1] w fun e w' => e = .returned (.int .u8 6) ∧ w.grownBy w' none := by
  go_enter Tryd.func14, Tryd.ntmps14
  go_wp2
  go_loopw [3] (fun i wr => (i = .int .u8 1 ∨ i = .int .u8 2 ∨ i = .int .u8 3 ∨ i = .int .u8 4 ∨ i = .int .u8 5 ∨ i = .int .u8 6) ∧ w.grownBy wr none) (fun i _ => 7 - (intOf i).toNat)
  case atStart => exact ⟨Or.inl rfl, grown_refl _ _⟩
  case round =>
  obtain ⟨hrel, G⟩ := hrel
  rcases hrel with rfl | rfl | rfl | rfl | rfl | rfl
  · go_wp2_with fail
    refine (is_yes _ (by omega) (by omega) _).mono ?_
    rintro e w1 ⟨rfl, rfl⟩
    go_wp2_with fail
    refine (rbeats_any _ _).mono ?_
    rintro e w2 ⟨rfl, g2⟩
    rw [show sBeats 1 = 2 from rfl]
    go_wp2
    go_roundw
    case rel => exact ⟨by simp, grown_trans G g2⟩
    case measure => decide
  · go_wp2_with fail
    refine (is_yes _ (by omega) (by omega) _).mono ?_
    rintro e w1 ⟨rfl, rfl⟩
    go_wp2_with fail
    refine (rbeats_any _ _).mono ?_
    rintro e w2 ⟨rfl, g2⟩
    rw [show sBeats 2 = 4 from rfl]
    go_wp2
    go_roundw
    case rel => exact ⟨by simp, grown_trans G g2⟩
    case measure => decide
  · go_wp2_with fail
    refine (is_yes _ (by omega) (by omega) _).mono ?_
    rintro e w1 ⟨rfl, rfl⟩
    go_wp2_with fail
    refine (rbeats_any _ _).mono ?_
    rintro e w2 ⟨rfl, g2⟩
    rw [show sBeats 3 = 5 from rfl]
    go_wp2
    go_roundw
    case rel => exact ⟨by simp, grown_trans G g2⟩
    case measure => decide
  · go_wp2_with fail
    refine (is_yes _ (by omega) (by omega) _).mono ?_
    rintro e w1 ⟨rfl, rfl⟩
    go_wp2_with fail
    refine (rbeats_any _ _).mono ?_
    rintro e w2 ⟨rfl, g2⟩
    rw [show sBeats 4 = 3 from rfl]
    go_wp2
    go_roundw
    case rel => exact ⟨by simp, grown_trans G g2⟩
    case measure => decide
  · go_wp2_with fail
    refine (is_yes _ (by omega) (by omega) _).mono ?_
    rintro e w1 ⟨rfl, rfl⟩
    go_wp2_with fail
    refine (rbeats_any _ _).mono ?_
    rintro e w2 ⟨rfl, g2⟩
    rw [show sBeats 5 = 6 from rfl]
    go_wp2
    go_roundw
    case rel => exact ⟨by simp, grown_trans G g2⟩
    case measure => decide
  · go_wp2_with fail
    refine (is_yes _ (by omega) (by omega) _).mono ?_
    rintro e w1 ⟨rfl, rfl⟩
    go_wp2_with fail
    refine (rbeats_any _ _).mono ?_
    rintro e w2 ⟨rfl, g2⟩
    rw [show sBeats 6 = 1 from rfl]
    go_wp2
    go_ret
    exact ⟨rfl, grown_trans G g2⟩
set_option maxRecDepth 100000 in
set_option maxHeartbeats 2000000 in
theorem rbeaten2 (w : World) : Calls Tryd.prog 14 #[.int .u8 2] w fun e w' => e = .returned (.int .u8 1) ∧ w.grownBy w' none := by
  go_enter Tryd.func14, Tryd.ntmps14
  go_wp2
  go_loopw [3] (fun i wr => (i = .int .u8 1) ∧ w.grownBy wr none) (fun i _ => 7 - (intOf i).toNat)
  case atStart => exact ⟨rfl, grown_refl _ _⟩
  case round =>
  obtain ⟨hrel, G⟩ := hrel
  subst hrel
  · go_wp2_with fail
    refine (is_yes _ (by omega) (by omega) _).mono ?_
    rintro e w1 ⟨rfl, rfl⟩
    go_wp2_with fail
    refine (rbeats_any _ _).mono ?_
    rintro e w2 ⟨rfl, g2⟩
    rw [show sBeats 1 = 2 from rfl]
    go_wp2
    go_ret
    exact ⟨rfl, grown_trans G g2⟩
set_option maxRecDepth 100000 in
set_option maxHeartbeats 2000000 in
theorem rbeaten3 (w : World) : Calls Tryd.prog 14 #[.int .u8 3] w fun e w' => e = .returned (.int .u8 4) ∧ w.grownBy w' none := by
  go_enter Tryd.func14, Tryd.ntmps14
  go_wp2
  go_loopw [3] (fun i wr => (i = .int .u8 1 ∨ i = .int .u8 2 ∨ i = .int .u8 3 ∨ i = .int .u8 4) ∧ w.grownBy wr none) (fun i _ => 7 - (intOf i).toNat)
  case atStart => exact ⟨Or.inl rfl, grown_refl _ _⟩
  case round =>
  obtain ⟨hrel, G⟩ := hrel
  rcases hrel with rfl | rfl | rfl | rfl
  · go_wp2_with fail
    refine (is_yes _ (by omega) (by omega) _).mono ?_
    rintro e w1 ⟨rfl, rfl⟩
    go_wp2_with fail
    refine (rbeats_any _ _).mono ?_
    rintro e w2 ⟨rfl, g2⟩
    rw [show sBeats 1 = 2 from rfl]
    go_wp2
    go_roundw
    case rel => exact ⟨by simp, grown_trans G g2⟩
    case measure => decide
  · go_wp2_with fail
    refine (is_yes _ (by omega) (by omega) _).mono ?_
    rintro e w1 ⟨rfl, rfl⟩
    go_wp2_with fail
    refine (rbeats_any _ _).mono ?_
    rintro e w2 ⟨rfl, g2⟩
    rw [show sBeats 2 = 4 from rfl]
    go_wp2
    go_roundw
    case rel => exact ⟨by simp, grown_trans G g2⟩
    case measure => decide
  · go_wp2_with fail
    refine (is_yes _ (by omega) (by omega) _).mono ?_
    rintro e w1 ⟨rfl, rfl⟩
    go_wp2_with fail
    refine (rbeats_any _ _).mono ?_
    rintro e w2 ⟨rfl, g2⟩
    rw [show sBeats 3 = 5 from rfl]
    go_wp2
    go_roundw
    case rel => exact ⟨by simp, grown_trans G g2⟩
    case measure => decide
  · go_wp2_with fail
    refine (is_yes _ (by omega) (by omega) _).mono ?_
    rintro e w1 ⟨rfl, rfl⟩
    go_wp2_with fail
    refine (rbeats_any _ _).mono ?_
    rintro e w2 ⟨rfl, g2⟩
    rw [show sBeats 4 = 3 from rfl]
    go_wp2
    go_ret
    exact ⟨rfl, grown_trans G g2⟩
set_option maxRecDepth 100000 in
set_option maxHeartbeats 2000000 in
theorem rbeaten4 (w : World) : Calls Tryd.prog 14 #[.int .u8 4] w fun e w' => e = .returned (.int .u8 2) ∧ w.grownBy w' none := by
  go_enter Tryd.func14, Tryd.ntmps14
  go_wp2
  go_loopw [3] (fun i wr => (i = .int .u8 1 ∨ i = .int .u8 2) ∧ w.grownBy wr none) (fun i _ => 7 - (intOf i).toNat)
  case atStart => exact ⟨Or.inl rfl, grown_refl _ _⟩
  case round =>
  obtain ⟨hrel, G⟩ := hrel
  rcases hrel with rfl | rfl
  · go_wp2_with fail
    refine (is_yes _ (by omega) (by omega) _).mono ?_
    rintro e w1 ⟨rfl, rfl⟩
    go_wp2_with fail
    refine (rbeats_any _ _).mono ?_
    rintro e w2 ⟨rfl, g2⟩
    rw [show sBeats 1 = 2 from rfl]
    go_wp2
    go_roundw
    case rel => exact ⟨by simp, grown_trans G g2⟩
    case measure => decide
  · go_wp2_with fail
    refine (is_yes _ (by omega) (by omega) _).mono ?_
    rintro e w1 ⟨rfl, rfl⟩
    go_wp2_with fail
    refine (rbeats_any _ _).mono ?_
    rintro e w2 ⟨rfl, g2⟩
    rw [show sBeats 2 = 4 from rfl]
    go_wp2
    go_ret
    exact ⟨rfl, grown_trans G g2⟩
set_option maxRecDepth 100000 in
set_option maxHeartbeats 2000000 in
theorem rbeaten5 (w : World) : Calls Tryd.prog 14 #[.int .u8 5] w fun e w' => e = .returned (.int .u8 3) ∧ w.grownBy w' none := by
  go_enter Tryd.func14, Tryd.ntmps14
  go_wp2
  go_loopw [3] (fun i wr => (i = .int .u8 1 ∨ i = .int .u8 2 ∨ i = .int .u8 3) ∧ w.grownBy wr none) (fun i _ => 7 - (intOf i).toNat)
  case atStart => exact ⟨Or.inl rfl, grown_refl _ _⟩
  case round =>
  obtain ⟨hrel, G⟩ := hrel
  rcases hrel with rfl | rfl | rfl
  · go_wp2_with fail
    refine (is_yes _ (by omega) (by omega) _).mono ?_
    rintro e w1 ⟨rfl, rfl⟩
    go_wp2_with fail
    refine (rbeats_any _ _).mono ?_
    rintro e w2 ⟨rfl, g2⟩
    rw [show sBeats 1 = 2 from rfl]
    go_wp2
    go_roundw
    case rel => exact ⟨by simp, grown_trans G g2⟩
    case measure => decide
  · go_wp2_with fail
    refine (is_yes _ (by omega) (by omega) _).mono ?_
    rintro e w1 ⟨rfl, rfl⟩
    go_wp2_with fail
    refine (rbeats_any _ _).mono ?_
    rintro e w2 ⟨rfl, g2⟩
    rw [show sBeats 2 = 4 from rfl]
    go_wp2
    go_roundw
    case rel => exact ⟨by simp, grown_trans G g2⟩
    case measure => decide
  · go_wp2_with fail
    refine (is_yes _ (by omega) (by omega) _).mono ?_
    rintro e w1 ⟨rfl, rfl⟩
    go_wp2_with fail
    refine (rbeats_any _ _).mono ?_
    rintro e w2 ⟨rfl, g2⟩
    rw [show sBeats 3 = 5 from rfl]
    go_wp2
    go_ret
    exact ⟨rfl, grown_trans G g2⟩
set_option maxRecDepth 100000 in
set_option maxHeartbeats 2000000 in
theorem rbeaten6 (w : World) : Calls Tryd.prog 14 #[.int .u8 6] w fun e w' => e = .returned (.int .u8 5) ∧ w.grownBy w' none := by
  go_enter Tryd.func14, Tryd.ntmps14
  go_wp2
  go_loopw [3] (fun i wr => (i = .int .u8 1 ∨ i = .int .u8 2 ∨ i = .int .u8 3 ∨ i = .int .u8 4 ∨ i = .int .u8 5) ∧ w.grownBy wr none) (fun i _ => 7 - (intOf i).toNat)
  case atStart => exact ⟨Or.inl rfl, grown_refl _ _⟩
  case round =>
  obtain ⟨hrel, G⟩ := hrel
  rcases hrel with rfl | rfl | rfl | rfl | rfl
  · go_wp2_with fail
    refine (is_yes _ (by omega) (by omega) _).mono ?_
    rintro e w1 ⟨rfl, rfl⟩
    go_wp2_with fail
    refine (rbeats_any _ _).mono ?_
    rintro e w2 ⟨rfl, g2⟩
    rw [show sBeats 1 = 2 from rfl]
    go_wp2
    go_roundw
    case rel => exact ⟨by simp, grown_trans G g2⟩
    case measure => decide
  · go_wp2_with fail
    refine (is_yes _ (by omega) (by omega) _).mono ?_
    rintro e w1 ⟨rfl, rfl⟩
    go_wp2_with fail
    refine (rbeats_any _ _).mono ?_
    rintro e w2 ⟨rfl, g2⟩
    rw [show sBeats 2 = 4 from rfl]
    go_wp2
    go_roundw
    case rel => exact ⟨by simp, grown_trans G g2⟩
    case measure => decide
  · go_wp2_with fail
    refine (is_yes _ (by omega) (by omega) _).mono ?_
    rintro e w1 ⟨rfl, rfl⟩
    go_wp2_with fail
    refine (rbeats_any _ _).mono ?_
    rintro e w2 ⟨rfl, g2⟩
    rw [show sBeats 3 = 5 from rfl]
    go_wp2
    go_roundw
    case rel => exact ⟨by simp, grown_trans G g2⟩
    case measure => decide
  · go_wp2_with fail
    refine (is_yes _ (by omega) (by omega) _).mono ?_
    rintro e w1 ⟨rfl, rfl⟩
    go_wp2_with fail
    refine (rbeats_any _ _).mono ?_
    rintro e w2 ⟨rfl, g2⟩
    rw [show sBeats 4 = 3 from rfl]
    go_wp2
    go_roundw
    case rel => exact ⟨by simp, grown_trans G g2⟩
    case measure => decide
  · go_wp2_with fail
    refine (is_yes _ (by omega) (by omega) _).mono ?_
    rintro e w1 ⟨rfl, rfl⟩
    go_wp2_with fail
    refine (rbeats_any _ _).mono ?_
    rintro e w2 ⟨rfl, g2⟩
    rw [show sBeats 5 = 6 from rfl]
    go_wp2
    go_ret
    exact ⟨rfl, grown_trans G g2⟩
theorem rbeaten_any (k : Int) (w : World) : Calls Tryd.prog 14 #[.int .u8 k] w fun e w' => e = .returned (.int .u8 (sBeaten k)) ∧ w.grownBy w' none := by
  rcases six_or k with h | h
  · rcases h with rfl | rfl | rfl | rfl | rfl | rfl
    · exact rbeaten1 w
    · exact rbeaten2 w
    · exact rbeaten3 w
    · exact rbeaten4 w
    · exact rbeaten5 w
    · exact rbeaten6 w
  · rw [(six_no k h).2.2.1]
    refine (rbeaten_no k h w).mono ?_
    rintro e w1 ⟨rfl, rfl⟩
    exact ⟨rfl, grown_refl _ _⟩
end Go.Proofs.YtmnkibnbnhjncaaDoor
