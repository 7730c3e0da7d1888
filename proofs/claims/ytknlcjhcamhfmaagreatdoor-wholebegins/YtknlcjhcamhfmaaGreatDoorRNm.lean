/-
  The document's Name of a trait.
-/
import Derived.Test.YtknlcjhcamhfmaaGreatDoorJ22
namespace Go.Proofs.YtknlcjhcamhfmaaGreatDoor.RN
open Go.RowKit

def tName (k : Int) : ByteArray := if k = 1 then ⟨#[102, 97, 115, 116]⟩ else if k = 2 then ⟨#[103, 117, 97, 114, 100]⟩ else if k = 3 then ⟨#[118, 101, 110, 111, 109]⟩ else if k = 4 then ⟨#[108, 111, 110, 101]⟩ else if k = 5 then ⟨#[100, 114, 97, 105, 110]⟩ else if k = 6 then ⟨#[109, 117, 116, 101]⟩ else if k = 7 then ⟨#[102, 105, 120, 101, 100]⟩ else if k = 8 then ⟨#[115, 119, 105, 102, 116]⟩ else ⟨#[]⟩
def tHome (k : Int) : Int := if k = 1 then 1 else if k = 2 then 2 else if k = 3 then 3 else if k = 4 then 4 else if k = 5 then 4 else if k = 6 then 5 else if k = 7 then 6 else if k = 8 then 1 else 0
def tRule (k : Int) : ByteArray := if k = 1 then ⟨#[109, 97, 121, 32, 115, 116, 114, 105, 107, 101, 32, 111, 110, 32, 116, 104, 101, 32, 116, 117, 114, 110, 32, 111, 110, 32, 119, 104, 105, 99, 104, 32, 105, 116, 32, 99, 97, 109, 101]⟩ else if k = 2 then ⟨#[105, 115, 32, 115, 116, 114, 117, 99, 107, 32, 97, 104, 101, 97, 100, 32, 111, 102, 32, 97, 108, 108, 32, 116, 104, 97, 116, 32, 105, 115, 32, 110, 111, 32, 103, 117, 97, 114, 100]⟩ else if k = 3 then ⟨#[119, 104, 97, 116, 101, 118, 101, 114, 32, 105, 116, 32, 104, 97, 114, 109, 115, 32, 98, 114, 101, 97, 107, 115]⟩ else if k = 4 then ⟨#[99, 97, 110, 110, 111, 116, 32, 98, 101, 32, 109, 101, 97, 110, 116, 32, 98, 121, 32, 116, 104, 101, 32, 102, 111, 101]⟩ else if k = 5 then ⟨#[119, 104, 97, 116, 32, 105, 116, 32, 104, 97, 114, 109, 115, 32, 109, 101, 110, 100, 115, 32, 105, 116, 115, 32, 104, 111, 108, 100, 101, 114]⟩ else if k = 6 then ⟨#[105, 116, 115, 32, 99, 97, 114, 100, 39, 115, 32, 112, 97, 114, 116, 115, 32, 99, 111, 117, 110, 116, 32, 102, 111, 114, 32, 110, 111, 116, 104, 105, 110, 103]⟩ else if k = 7 then ⟨#[99, 97, 110, 110, 111, 116, 32, 115, 116, 114, 105, 107, 101]⟩ else if k = 8 then ⟨#[115, 116, 114, 105, 107, 101, 115, 32, 97, 32, 115, 101, 99, 111, 110, 100, 32, 116, 105, 109, 101, 32, 101, 97, 99, 104, 32, 116, 117, 114, 110]⟩ else ⟨#[]⟩
def rT (k : Int) : Int := if k = 1 then 1 else if k = 2 then 2 else if k = 3 then 3 else if k = 4 then 4 else if k = 5 then 5 else if k = 6 then 6 else if k = 7 then 7 else if k = 8 then 8 else 0
def rB (k : Int) : Bool := if k = 1 then true else if k = 2 then true else if k = 3 then true else if k = 4 then true else if k = 5 then true else if k = 6 then true else if k = 7 then true else if k = 8 then true else false
theorem row_no (k : Int) (h : k < 1 ∨ 8 < k) : tName k = ⟨#[]⟩ ∧ tHome k = 0 ∧ tRule k = ⟨#[]⟩ ∧ rT k = 0 ∧ rB k = false := by
  have h1 : ¬ k = 1 := by omega
  have h2 : ¬ k = 2 := by omega
  have h3 : ¬ k = 3 := by omega
  have h4 : ¬ k = 4 := by omega
  have h5 : ¬ k = 5 := by omega
  have h6 : ¬ k = 6 := by omega
  have h7 : ¬ k = 7 := by omega
  have h8 : ¬ k = 8 := by omega
  simp [tName, tHome, tRule, rT, rB, h1, h2, h3, h4, h5, h6, h7, h8]
/-- A trait's row, as a value. -/
def rowV (k : Int) : Value := .agg #[.int .u8 (rT k), .string (tName k), .int .u8 (tHome k), .string (tRule k)]
/-- The table's cells, one row behind the other. -/
def rowCells : Array Value := #[.int .u8 1, .string ⟨#[102, 97, 115, 116]⟩, .int .u8 1, .string ⟨#[109, 97, 121, 32, 115, 116, 114, 105, 107, 101, 32, 111, 110, 32, 116, 104, 101, 32, 116, 117, 114, 110, 32, 111, 110, 32, 119, 104, 105, 99, 104, 32, 105, 116, 32, 99, 97, 109, 101]⟩, .int .u8 2, .string ⟨#[103, 117, 97, 114, 100]⟩, .int .u8 2, .string ⟨#[105, 115, 32, 115, 116, 114, 117, 99, 107, 32, 97, 104, 101, 97, 100, 32, 111, 102, 32, 97, 108, 108, 32, 116, 104, 97, 116, 32, 105, 115, 32, 110, 111, 32, 103, 117, 97, 114, 100]⟩, .int .u8 3, .string ⟨#[118, 101, 110, 111, 109]⟩, .int .u8 3, .string ⟨#[119, 104, 97, 116, 101, 118, 101, 114, 32, 105, 116, 32, 104, 97, 114, 109, 115, 32, 98, 114, 101, 97, 107, 115]⟩, .int .u8 4, .string ⟨#[108, 111, 110, 101]⟩, .int .u8 4, .string ⟨#[99, 97, 110, 110, 111, 116, 32, 98, 101, 32, 109, 101, 97, 110, 116, 32, 98, 121, 32, 116, 104, 101, 32, 102, 111, 101]⟩, .int .u8 5, .string ⟨#[100, 114, 97, 105, 110]⟩, .int .u8 4, .string ⟨#[119, 104, 97, 116, 32, 105, 116, 32, 104, 97, 114, 109, 115, 32, 109, 101, 110, 100, 115, 32, 105, 116, 115, 32, 104, 111, 108, 100, 101, 114]⟩, .int .u8 6, .string ⟨#[109, 117, 116, 101]⟩, .int .u8 5, .string ⟨#[105, 116, 115, 32, 99, 97, 114, 100, 39, 115, 32, 112, 97, 114, 116, 115, 32, 99, 111, 117, 110, 116, 32, 102, 111, 114, 32, 110, 111, 116, 104, 105, 110, 103]⟩, .int .u8 7, .string ⟨#[102, 105, 120, 101, 100]⟩, .int .u8 6, .string ⟨#[99, 97, 110, 110, 111, 116, 32, 115, 116, 114, 105, 107, 101]⟩, .int .u8 8, .string ⟨#[115, 119, 105, 102, 116]⟩, .int .u8 1, .string ⟨#[115, 116, 114, 105, 107, 101, 115, 32, 97, 32, 115, 101, 99, 111, 110, 100, 32, 116, 105, 109, 101, 32, 101, 97, 99, 104, 32, 116, 117, 114, 110]⟩]
def RowsAt (w : World) (b : Nat) : Prop := w.heap[b]? = some (.cells rowCells 169 (0, 0))
theorem RowsAt.keep {w w' : World} {b : Nat} (h : RowsAt w b) (g : w.grownBy w' none) : RowsAt w' b := grown_keep g h (by simp)
set_option maxRecDepth 100000 in
set_option maxHeartbeats 4000000 in
theorem rows_any (w : World) : Calls Tryz.prog 245 #[] w fun e w' => e = .returned (.slice (some ⟨w.heap.size, 0, none⟩) 8 8) ∧ RowsAt w' w.heap.size ∧ w.grownBy w' none := by
  go_enter Tryz.func245, Tryz.ntmps245
  go_wp2
  go_ret
  exact ⟨rfl, alloc_at _ _ _, World.grownBy_alloc _ _ _⟩
/-- A row's cell that is not written yet. -/
def Raw (w : World) (s : Nat) : Prop := w.heap[s]? = some (.cells #[.int .u8 0, .string ⟨#[]⟩, .int .u8 0, .string ⟨#[]⟩] 169 (0, 0))
theorem Raw.keep {w w' : World} {s : Nat} (h : Raw w s) (g : w.grownBy w' none) : Raw w' s := grown_keep g h (by simp)
theorem Raw.new (w : World) : Raw (w.alloc (.cells #[.int .u8 0, .string ⟨#[]⟩, .int .u8 0, .string ⟨#[]⟩] 169)) w.heap.size := alloc_at _ _ _
theorem grown_st4 {a b : World} {s : Nat} (h : a.grownBy b none) (hs : a.heap.size ≤ s) (i j k l : Nat) (x y u v : Value) : a.grownBy ((((b.setCell ⟨s, i, none⟩ x).setCell ⟨s, j, none⟩ y).setCell ⟨s, k, none⟩ u).setCell ⟨s, l, none⟩ v) none :=
  grown_own (r := some s) h (grown_trans (grown_trans (grown_trans (grown_set _ _ _ _) (grown_set _ _ _ _)) (grown_set _ _ _ _)) (grown_set _ _ _ _)) (fun _ hx => by cases hx; exact hs)
set_option maxRecDepth 100000 in
set_option maxHeartbeats 8000000 in
theorem row_any (t : Int) (w : World) : Calls Tryz.prog 195 #[.int .u8 t] w fun e w' => e = .returned (.tuple #[rowV t, .bool (rB t)]) ∧ w.grownBy w' none := by
  go_enter Tryz.func195, Tryz.ntmps195
  go_wp2_with fail
  refine (rows_any _).mono ?_
  rintro e w1 ⟨rfl, R, g1⟩
  have hsz : (w.alloc (.cells #[.int .u8 0, .string ⟨#[]⟩, .int .u8 0, .string ⟨#[]⟩] 169)).heap.size = w.heap.size + 1 := World.size_alloc _ _
  rw [hsz] at R ⊢
  have Z := (Raw.new w).keep g1
  have G1 := grown_trans (World.grownBy_alloc w _ none) g1
  clear g1 hsz
  go_wp2_with fail
  go_loopw [5] (fun i wr => wr = w1 ∧ ∃ (k : Nat), k ≤ 8 ∧ i = .int .i64 k ∧ ∀ j : Nat, j < k → ¬ t = (j : Int) + 1)
    (fun i _ => 8 - (intOf i).toNat)
  case atStart => exact ⟨rfl, 0, by omega, rfl, fun j hj => absurd hj (by omega)⟩
  case round =>
    obtain ⟨rfl, k, hk, rfl, hm⟩ := hrel
    have HM : Hid (∀ j : Nat, j < k → ¬ t = (j : Int) + 1) := hm
    clear hm
    have z0 : wr.cell? ⟨w.heap.size, 0, none⟩ = some (.int .u8 0) := block_cell Z 0
    have z1 : wr.cell? ⟨w.heap.size, 1, none⟩ = some (.string ⟨#[]⟩) := block_cell Z 1
    have z2 : wr.cell? ⟨w.heap.size, 2, none⟩ = some (.int .u8 0) := block_cell Z 2
    have z3 : wr.cell? ⟨w.heap.size, 3, none⟩ = some (.string ⟨#[]⟩) := block_cell Z 3
    have zf : ∀ i, wr.frozen? ⟨w.heap.size, i, none⟩ = false := block_free Z
    rcases (show k = 0 ∨ k = 1 ∨ k = 2 ∨ k = 3 ∨ k = 4 ∨ k = 5 ∨ k = 6 ∨ k = 7 ∨ k = 8 from by omega) with rfl | rfl | rfl | rfl | rfl | rfl | rfl | rfl | rfl
    · have c0 : wr.cell? ⟨w.heap.size + 1, 0, none⟩ = some (.int .u8 1) := block_cell R 0
      by_cases he : t = 1
      · subst he
        have c1 : wr.cell? ⟨w.heap.size + 1, 1, none⟩ = some (.string ⟨#[102, 97, 115, 116]⟩) := block_cell R 1
        have c2 : wr.cell? ⟨w.heap.size + 1, 2, none⟩ = some (.int .u8 1) := block_cell R 2
        have c3 : wr.cell? ⟨w.heap.size + 1, 3, none⟩ = some (.string ⟨#[109, 97, 121, 32, 115, 116, 114, 105, 107, 101, 32, 111, 110, 32, 116, 104, 101, 32, 116, 117, 114, 110, 32, 111, 110, 32, 119, 104, 105, 99, 104, 32, 105, 116, 32, 99, 97, 109, 101]⟩) := block_cell R 3
        go_wp2
        refine bodyPost_ret (v := .tuple #[.agg #[.int .u8 1, .string ⟨#[102, 97, 115, 116]⟩, .int .u8 1, .string ⟨#[109, 97, 121, 32, 115, 116, 114, 105, 107, 101, 32, 111, 110, 32, 116, 104, 101, 32, 116, 117, 114, 110, 32, 111, 110, 32, 119, 104, 105, 99, 104, 32, 105, 116, 32, 99, 97, 109, 101]⟩], .bool true]) (by simp [results, Tryz.results195, go_sem, z0, z1, z2, z3]) rfl ⟨rfl, ?_⟩
        exact grown_st4 G1 (Nat.le_refl _) _ _ _ _ _ _ _ _
      · have hd : ¬ (1 : Int) = t := fun e => he e.symm
        have hd' : ((1 : Int) == t) = false := by simpa using hd
        have HE : Hid (¬ t = ((0 : Nat) : Int) + 1) := he
        clear he
        go_wp2
        go_roundw
        case rel => exact ⟨trivial, 1, by omega, by go_num, fun j hj => by
          rcases (show j < 0 ∨ j = 0 from by omega) with h' | rfl
          · exact HM.out j h'
          · exact HE.out⟩
        case measure => simp [intOf]
    · have c0 : wr.cell? ⟨w.heap.size + 1, 4, none⟩ = some (.int .u8 2) := block_cell R 4
      by_cases he : t = 2
      · subst he
        have c1 : wr.cell? ⟨w.heap.size + 1, 5, none⟩ = some (.string ⟨#[103, 117, 97, 114, 100]⟩) := block_cell R 5
        have c2 : wr.cell? ⟨w.heap.size + 1, 6, none⟩ = some (.int .u8 2) := block_cell R 6
        have c3 : wr.cell? ⟨w.heap.size + 1, 7, none⟩ = some (.string ⟨#[105, 115, 32, 115, 116, 114, 117, 99, 107, 32, 97, 104, 101, 97, 100, 32, 111, 102, 32, 97, 108, 108, 32, 116, 104, 97, 116, 32, 105, 115, 32, 110, 111, 32, 103, 117, 97, 114, 100]⟩) := block_cell R 7
        go_wp2
        refine bodyPost_ret (v := .tuple #[.agg #[.int .u8 2, .string ⟨#[103, 117, 97, 114, 100]⟩, .int .u8 2, .string ⟨#[105, 115, 32, 115, 116, 114, 117, 99, 107, 32, 97, 104, 101, 97, 100, 32, 111, 102, 32, 97, 108, 108, 32, 116, 104, 97, 116, 32, 105, 115, 32, 110, 111, 32, 103, 117, 97, 114, 100]⟩], .bool true]) (by simp [results, Tryz.results195, go_sem, z0, z1, z2, z3]) rfl ⟨rfl, ?_⟩
        exact grown_st4 G1 (Nat.le_refl _) _ _ _ _ _ _ _ _
      · have hd : ¬ (2 : Int) = t := fun e => he e.symm
        have hd' : ((2 : Int) == t) = false := by simpa using hd
        have HE : Hid (¬ t = ((1 : Nat) : Int) + 1) := he
        clear he
        go_wp2
        go_roundw
        case rel => exact ⟨trivial, 2, by omega, by go_num, fun j hj => by
          rcases (show j < 1 ∨ j = 1 from by omega) with h' | rfl
          · exact HM.out j h'
          · exact HE.out⟩
        case measure => simp [intOf]
    · have c0 : wr.cell? ⟨w.heap.size + 1, 8, none⟩ = some (.int .u8 3) := block_cell R 8
      by_cases he : t = 3
      · subst he
        have c1 : wr.cell? ⟨w.heap.size + 1, 9, none⟩ = some (.string ⟨#[118, 101, 110, 111, 109]⟩) := block_cell R 9
        have c2 : wr.cell? ⟨w.heap.size + 1, 10, none⟩ = some (.int .u8 3) := block_cell R 10
        have c3 : wr.cell? ⟨w.heap.size + 1, 11, none⟩ = some (.string ⟨#[119, 104, 97, 116, 101, 118, 101, 114, 32, 105, 116, 32, 104, 97, 114, 109, 115, 32, 98, 114, 101, 97, 107, 115]⟩) := block_cell R 11
        go_wp2
        refine bodyPost_ret (v := .tuple #[.agg #[.int .u8 3, .string ⟨#[118, 101, 110, 111, 109]⟩, .int .u8 3, .string ⟨#[119, 104, 97, 116, 101, 118, 101, 114, 32, 105, 116, 32, 104, 97, 114, 109, 115, 32, 98, 114, 101, 97, 107, 115]⟩], .bool true]) (by simp [results, Tryz.results195, go_sem, z0, z1, z2, z3]) rfl ⟨rfl, ?_⟩
        exact grown_st4 G1 (Nat.le_refl _) _ _ _ _ _ _ _ _
      · have hd : ¬ (3 : Int) = t := fun e => he e.symm
        have hd' : ((3 : Int) == t) = false := by simpa using hd
        have HE : Hid (¬ t = ((2 : Nat) : Int) + 1) := he
        clear he
        go_wp2
        go_roundw
        case rel => exact ⟨trivial, 3, by omega, by go_num, fun j hj => by
          rcases (show j < 2 ∨ j = 2 from by omega) with h' | rfl
          · exact HM.out j h'
          · exact HE.out⟩
        case measure => simp [intOf]
    · have c0 : wr.cell? ⟨w.heap.size + 1, 12, none⟩ = some (.int .u8 4) := block_cell R 12
      by_cases he : t = 4
      · subst he
        have c1 : wr.cell? ⟨w.heap.size + 1, 13, none⟩ = some (.string ⟨#[108, 111, 110, 101]⟩) := block_cell R 13
        have c2 : wr.cell? ⟨w.heap.size + 1, 14, none⟩ = some (.int .u8 4) := block_cell R 14
        have c3 : wr.cell? ⟨w.heap.size + 1, 15, none⟩ = some (.string ⟨#[99, 97, 110, 110, 111, 116, 32, 98, 101, 32, 109, 101, 97, 110, 116, 32, 98, 121, 32, 116, 104, 101, 32, 102, 111, 101]⟩) := block_cell R 15
        go_wp2
        refine bodyPost_ret (v := .tuple #[.agg #[.int .u8 4, .string ⟨#[108, 111, 110, 101]⟩, .int .u8 4, .string ⟨#[99, 97, 110, 110, 111, 116, 32, 98, 101, 32, 109, 101, 97, 110, 116, 32, 98, 121, 32, 116, 104, 101, 32, 102, 111, 101]⟩], .bool true]) (by simp [results, Tryz.results195, go_sem, z0, z1, z2, z3]) rfl ⟨rfl, ?_⟩
        exact grown_st4 G1 (Nat.le_refl _) _ _ _ _ _ _ _ _
      · have hd : ¬ (4 : Int) = t := fun e => he e.symm
        have hd' : ((4 : Int) == t) = false := by simpa using hd
        have HE : Hid (¬ t = ((3 : Nat) : Int) + 1) := he
        clear he
        go_wp2
        go_roundw
        case rel => exact ⟨trivial, 4, by omega, by go_num, fun j hj => by
          rcases (show j < 3 ∨ j = 3 from by omega) with h' | rfl
          · exact HM.out j h'
          · exact HE.out⟩
        case measure => simp [intOf]
    · have c0 : wr.cell? ⟨w.heap.size + 1, 16, none⟩ = some (.int .u8 5) := block_cell R 16
      by_cases he : t = 5
      · subst he
        have c1 : wr.cell? ⟨w.heap.size + 1, 17, none⟩ = some (.string ⟨#[100, 114, 97, 105, 110]⟩) := block_cell R 17
        have c2 : wr.cell? ⟨w.heap.size + 1, 18, none⟩ = some (.int .u8 4) := block_cell R 18
        have c3 : wr.cell? ⟨w.heap.size + 1, 19, none⟩ = some (.string ⟨#[119, 104, 97, 116, 32, 105, 116, 32, 104, 97, 114, 109, 115, 32, 109, 101, 110, 100, 115, 32, 105, 116, 115, 32, 104, 111, 108, 100, 101, 114]⟩) := block_cell R 19
        go_wp2
        refine bodyPost_ret (v := .tuple #[.agg #[.int .u8 5, .string ⟨#[100, 114, 97, 105, 110]⟩, .int .u8 4, .string ⟨#[119, 104, 97, 116, 32, 105, 116, 32, 104, 97, 114, 109, 115, 32, 109, 101, 110, 100, 115, 32, 105, 116, 115, 32, 104, 111, 108, 100, 101, 114]⟩], .bool true]) (by simp [results, Tryz.results195, go_sem, z0, z1, z2, z3]) rfl ⟨rfl, ?_⟩
        exact grown_st4 G1 (Nat.le_refl _) _ _ _ _ _ _ _ _
      · have hd : ¬ (5 : Int) = t := fun e => he e.symm
        have hd' : ((5 : Int) == t) = false := by simpa using hd
        have HE : Hid (¬ t = ((4 : Nat) : Int) + 1) := he
        clear he
        go_wp2
        go_roundw
        case rel => exact ⟨trivial, 5, by omega, by go_num, fun j hj => by
          rcases (show j < 4 ∨ j = 4 from by omega) with h' | rfl
          · exact HM.out j h'
          · exact HE.out⟩
        case measure => simp [intOf]
    · have c0 : wr.cell? ⟨w.heap.size + 1, 20, none⟩ = some (.int .u8 6) := block_cell R 20
      by_cases he : t = 6
      · subst he
        have c1 : wr.cell? ⟨w.heap.size + 1, 21, none⟩ = some (.string ⟨#[109, 117, 116, 101]⟩) := block_cell R 21
        have c2 : wr.cell? ⟨w.heap.size + 1, 22, none⟩ = some (.int .u8 5) := block_cell R 22
        have c3 : wr.cell? ⟨w.heap.size + 1, 23, none⟩ = some (.string ⟨#[105, 116, 115, 32, 99, 97, 114, 100, 39, 115, 32, 112, 97, 114, 116, 115, 32, 99, 111, 117, 110, 116, 32, 102, 111, 114, 32, 110, 111, 116, 104, 105, 110, 103]⟩) := block_cell R 23
        go_wp2
        refine bodyPost_ret (v := .tuple #[.agg #[.int .u8 6, .string ⟨#[109, 117, 116, 101]⟩, .int .u8 5, .string ⟨#[105, 116, 115, 32, 99, 97, 114, 100, 39, 115, 32, 112, 97, 114, 116, 115, 32, 99, 111, 117, 110, 116, 32, 102, 111, 114, 32, 110, 111, 116, 104, 105, 110, 103]⟩], .bool true]) (by simp [results, Tryz.results195, go_sem, z0, z1, z2, z3]) rfl ⟨rfl, ?_⟩
        exact grown_st4 G1 (Nat.le_refl _) _ _ _ _ _ _ _ _
      · have hd : ¬ (6 : Int) = t := fun e => he e.symm
        have hd' : ((6 : Int) == t) = false := by simpa using hd
        have HE : Hid (¬ t = ((5 : Nat) : Int) + 1) := he
        clear he
        go_wp2
        go_roundw
        case rel => exact ⟨trivial, 6, by omega, by go_num, fun j hj => by
          rcases (show j < 5 ∨ j = 5 from by omega) with h' | rfl
          · exact HM.out j h'
          · exact HE.out⟩
        case measure => simp [intOf]
    · have c0 : wr.cell? ⟨w.heap.size + 1, 24, none⟩ = some (.int .u8 7) := block_cell R 24
      by_cases he : t = 7
      · subst he
        have c1 : wr.cell? ⟨w.heap.size + 1, 25, none⟩ = some (.string ⟨#[102, 105, 120, 101, 100]⟩) := block_cell R 25
        have c2 : wr.cell? ⟨w.heap.size + 1, 26, none⟩ = some (.int .u8 6) := block_cell R 26
        have c3 : wr.cell? ⟨w.heap.size + 1, 27, none⟩ = some (.string ⟨#[99, 97, 110, 110, 111, 116, 32, 115, 116, 114, 105, 107, 101]⟩) := block_cell R 27
        go_wp2
        refine bodyPost_ret (v := .tuple #[.agg #[.int .u8 7, .string ⟨#[102, 105, 120, 101, 100]⟩, .int .u8 6, .string ⟨#[99, 97, 110, 110, 111, 116, 32, 115, 116, 114, 105, 107, 101]⟩], .bool true]) (by simp [results, Tryz.results195, go_sem, z0, z1, z2, z3]) rfl ⟨rfl, ?_⟩
        exact grown_st4 G1 (Nat.le_refl _) _ _ _ _ _ _ _ _
      · have hd : ¬ (7 : Int) = t := fun e => he e.symm
        have hd' : ((7 : Int) == t) = false := by simpa using hd
        have HE : Hid (¬ t = ((6 : Nat) : Int) + 1) := he
        clear he
        go_wp2
        go_roundw
        case rel => exact ⟨trivial, 7, by omega, by go_num, fun j hj => by
          rcases (show j < 6 ∨ j = 6 from by omega) with h' | rfl
          · exact HM.out j h'
          · exact HE.out⟩
        case measure => simp [intOf]
    · have c0 : wr.cell? ⟨w.heap.size + 1, 28, none⟩ = some (.int .u8 8) := block_cell R 28
      by_cases he : t = 8
      · subst he
        have c1 : wr.cell? ⟨w.heap.size + 1, 29, none⟩ = some (.string ⟨#[115, 119, 105, 102, 116]⟩) := block_cell R 29
        have c2 : wr.cell? ⟨w.heap.size + 1, 30, none⟩ = some (.int .u8 1) := block_cell R 30
        have c3 : wr.cell? ⟨w.heap.size + 1, 31, none⟩ = some (.string ⟨#[115, 116, 114, 105, 107, 101, 115, 32, 97, 32, 115, 101, 99, 111, 110, 100, 32, 116, 105, 109, 101, 32, 101, 97, 99, 104, 32, 116, 117, 114, 110]⟩) := block_cell R 31
        go_wp2
        refine bodyPost_ret (v := .tuple #[.agg #[.int .u8 8, .string ⟨#[115, 119, 105, 102, 116]⟩, .int .u8 1, .string ⟨#[115, 116, 114, 105, 107, 101, 115, 32, 97, 32, 115, 101, 99, 111, 110, 100, 32, 116, 105, 109, 101, 32, 101, 97, 99, 104, 32, 116, 117, 114, 110]⟩], .bool true]) (by simp [results, Tryz.results195, go_sem, z0, z1, z2, z3]) rfl ⟨rfl, ?_⟩
        exact grown_st4 G1 (Nat.le_refl _) _ _ _ _ _ _ _ _
      · have hd : ¬ (8 : Int) = t := fun e => he e.symm
        have hd' : ((8 : Int) == t) = false := by simpa using hd
        have HE : Hid (¬ t = ((7 : Nat) : Int) + 1) := he
        clear he
        go_wp2
        go_roundw
        case rel => exact ⟨trivial, 8, by omega, by go_num, fun j hj => by
          rcases (show j < 7 ∨ j = 7 from by omega) with h' | rfl
          · exact HM.out j h'
          · exact HE.out⟩
        case measure => simp [intOf]
    · have hno : t < 1 ∨ 8 < t := by
        have h0 := HM.out 0 (by decide)
        have h1 := HM.out 1 (by decide)
        have h2 := HM.out 2 (by decide)
        have h3 := HM.out 3 (by decide)
        have h4 := HM.out 4 (by decide)
        have h5 := HM.out 5 (by decide)
        have h6 := HM.out 6 (by decide)
        have h7 := HM.out 7 (by decide)
        omega
      obtain ⟨e1, e2, e3, e4, e5⟩ := row_no t hno
      have HV : Hid (rowV t = .agg #[.int .u8 0, .string ⟨#[]⟩, .int .u8 0, .string ⟨#[]⟩] ∧ rB t = false) := by
        unfold rowV
        rw [e1, e2, e3, e4, e5]
        exact ⟨rfl, rfl⟩
      clear e1 e2 e3 e4 e5 hno
      go_wp2
      refine bodyPost_ret (v := .tuple #[.agg #[.int .u8 0, .string ⟨#[]⟩, .int .u8 0, .string ⟨#[]⟩], .bool false]) (by simp [results, Tryz.results195, go_sem, z0, z1, z2, z3]) rfl ⟨by rw [HV.out.1, HV.out.2], ?_⟩
      exact grown_st4 G1 (Nat.le_refl _) _ _ _ _ _ _ _ _
set_option maxRecDepth 100000 in
set_option maxHeartbeats 2000000 in
theorem rname_any (t : Int) (w : World) : Calls Tryz.prog 140 #[.int .u8 t] w fun e w' => e = .returned (.string (tName t)) ∧ w.grownBy w' none := by
  go_enter Tryz.func140, Tryz.ntmps140
  go_wp2_with fail
  refine (row_any _ _).mono ?_
  rintro e w1 ⟨rfl, g1⟩
  rw [rowV]
  go_wp2
  go_ret
  exact ⟨rfl, grown_push g1 _⟩
end Go.Proofs.YtknlcjhcamhfmaaGreatDoor.RN
namespace Go.Proofs.YtknlcjhcamhfmaaGreatDoor
open Go.RowKit
theorem r4name_any (t : Int) (ht : 1 ≤ t ∧ t ≤ 8) (w : World) : Calls Tryz.prog 140 #[.int .u8 t] w fun e w' => e = .returned (.string (tName t)) ∧ w.grownBy w' none := by
  have h := RN.rname_any t w
  rcases (show t = 1 ∨ t = 2 ∨ t = 3 ∨ t = 4 ∨ t = 5 ∨ t = 6 ∨ t = 7 ∨ t = 8 from by omega) with rfl | rfl | rfl | rfl | rfl | rfl | rfl | rfl <;> exact h
end Go.Proofs.YtknlcjhcamhfmaaGreatDoor
