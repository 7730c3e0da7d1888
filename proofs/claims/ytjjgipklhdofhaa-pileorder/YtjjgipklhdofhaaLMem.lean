/-
  Memory of a log of package start, as the proofs of this seat see it: one block of 259 cells (256 notes, the count, closed, made).
-/
import Derived.Test.YtjjgipklhdofhaaLBase
namespace Go.Proofs.Ytjjgipklhdofhaa.L
open Go.RowKit
/-- A log's block. -/
def logCells (Z : List Int) (n : Nat) (c m : Bool) : Array Value := (ints Z ++ [Value.int .i64 n, Value.bool c, Value.bool m]).toArray
def newCells : Array Value := logCells (List.replicate 256 0) 0 false true
def noCells : Array Value := logCells (List.replicate 256 0) 0 false false

theorem size_logCells (Z : List Int) (n : Nat) (c m : Bool) (h : Z.length = 256) : (logCells Z n c m).size = 259 := by simp [logCells, length_ints, h]
theorem log_note (Z : List Int) (n : Nat) (c m : Bool) (h : Z.length = 256) (i : Nat) (hi : i < 256) : (logCells Z n c m)[i]? = some (.int .i64 (Z.getD i 0)) := by
  simp only [logCells, List.getElem?_toArray]
  rw [List.getElem?_append_left (by rw [length_ints]; omega)]
  exact ints_at Z i (by omega)
theorem log_count (Z : List Int) (n : Nat) (c m : Bool) (h : Z.length = 256) : (logCells Z n c m)[256]? = some (.int .i64 n) := by
  simp only [logCells, List.getElem?_toArray]
  rw [List.getElem?_append_right (by rw [length_ints]; omega)]
  simp [length_ints, h]
theorem log_closed (Z : List Int) (n : Nat) (c m : Bool) (h : Z.length = 256) : (logCells Z n c m)[257]? = some (.bool c) := by
  simp only [logCells, List.getElem?_toArray]
  rw [List.getElem?_append_right (by rw [length_ints]; omega)]
  simp [length_ints, h]
theorem log_made (Z : List Int) (n : Nat) (c m : Bool) (h : Z.length = 256) : (logCells Z n c m)[258]? = some (.bool m) := by
  simp only [logCells, List.getElem?_toArray]
  rw [List.getElem?_append_right (by rw [length_ints]; omega)]
  simp [length_ints, h]
theorem set_note (Z : List Int) (n : Nat) (c m : Bool) (h : Z.length = 256) (i : Nat) (hi : i < 256) (v : Int) : (logCells Z n c m).setIfInBounds i (.int .i64 v) = logCells (Z.set i v) n c m := by
  simp only [logCells, List.setIfInBounds_toArray]
  rw [List.set_append_left _ _ (by rw [length_ints]; omega)]
  simp [ints, List.map_set]
theorem set_count (Z : List Int) (n n' : Nat) (c m : Bool) (h : Z.length = 256) : (logCells Z n c m).setIfInBounds 256 (.int .i64 n') = logCells Z n' c m := by
  simp only [logCells, List.setIfInBounds_toArray]
  rw [List.set_append_right _ _ (by rw [length_ints]; omega)]
  simp [length_ints, h]
theorem set_closed (Z : List Int) (n : Nat) (c c' m : Bool) (h : Z.length = 256) : (logCells Z n c m).setIfInBounds 257 (.bool c') = logCells Z n c' m := by
  simp only [logCells, List.setIfInBounds_toArray]
  rw [List.set_append_right _ _ (by rw [length_ints]; omega)]
  simp [length_ints, h]

theorem take_set_snoc (Z l : List Int) (n : Int) (h1 : l.length < Z.length) (h : Z.take l.length = l) : (Z.set l.length n).take (l ++ [n]).length = l ++ [n] := by
  rw [List.length_append, List.length_singleton, List.take_succ_eq_append_getElem (by simpa using h1)]
  simp [List.take_set_of_le, h]

end Go.Proofs.Ytjjgipklhdofhaa.L
