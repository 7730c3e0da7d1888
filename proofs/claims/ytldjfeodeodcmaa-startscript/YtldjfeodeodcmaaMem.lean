/-
  Memory of a log of package start, as the proofs of this seat see it: one block of 259 cells (256 notes, the count, closed, made); what reading and writing one cell of it does.
-/
import Derived.Test.YtldjfeodeodcmaaRows
import Derived.WalkKit
import Derived.WalkSpells
import Derived.WalkLawsBesides
namespace Go.Proofs.Ytldjfeodeodcmaa
open Go.RowKit

theorem wpl_build {P : Program} {w w1 : World} {ops : Array Oper} {rest : List Oper} {o : Oper} {a : Act} {Q : Exit → Act → World → Prop} (hgd : o.guard = none) (t : TypeId) (parts : Array (Nat × Operand))
    (ho : o.op = .build t parts) (vs : Array (Nat × Value)) (hv : (parts.map fun (i, x) => (i, a.eval x)) = vs) (v : Value) (hrun : (Instr.build t vs).run P w = .ok v w1) (h : wpList P ops Q rest (a.put o.dst v) w1) : wpList P ops Q (o :: rest) a w := by
  refine wpList_plain hgd fun K hK => ?_
  unfold Oper.wp
  simp only [execOp, ho, Sem.run_bind, hv, hrun, Result.andThen_ok]
  exact hK _ _ h
theorem wpl_box {P : Program} {w w1 : World} {ops : Array Oper} {rest : List Oper} {o : Oper} {a : Act} {Q : Exit → Act → World → Prop} (hgd : o.guard = none) (t : TypeId) (x : Operand)
    (ho : o.op = .box t x) (y : Value) (hy : a.eval x = y) (v : Value) (hrun : (Instr.box t y).run P w = .ok v w1) (h : wpList P ops Q rest (a.put o.dst v) w1) : wpList P ops Q (o :: rest) a w := by
  refine wpList_plain hgd fun K hK => ?_
  unfold Oper.wp
  simp only [execOp, ho, Sem.run_bind, hy, hrun, Result.andThen_ok]
  exact hK _ _ h

/-- The numbers of a list, as cells. -/
def ints (l : List Int) : List Value := l.map fun z => Value.int .i64 z
theorem length_ints (l : List Int) : (ints l).length = l.length := by simp [ints]
theorem ints_at (l : List Int) (i : Nat) (h : i < l.length) : (ints l)[i]? = some (.int .i64 (l.getD i 0)) := by
  simp [ints, List.getD, List.getElem?_eq_getElem h]
theorem ints_snoc (l : List Int) (n : Int) : ints (l ++ [n]) = ints l ++ [Value.int .i64 n] := by simp [ints]
theorem ints_take (l : List Int) (n : Nat) : ints (l.take n) = (ints l).take n := by simp [ints, List.map_take]

/-- A log's block. -/
def logCells (Z : List Int) (n : Nat) (c m : Bool) : Array Value := (ints Z ++ [Value.int .i64 n, Value.bool c, Value.bool m]).toArray
def newCells : Array Value := logCells (List.replicate 256 0) 0 false true
def noCells : Array Value := logCells (List.replicate 256 0) 0 false false

theorem size_logCells (Z : List Int) (n : Nat) (c m : Bool) (h : Z.length = 256) : (logCells Z n c m).size = 259 := by simp [logCells, length_ints, h]
theorem log_note (Z : List Int) (n : Nat) (c m : Bool) (h : Z.length = 256) (i : Nat) (hi : i < 256) : (logCells Z n c m)[i]? = some (.int .i64 (Z.getD i 0)) := by
  simp only [logCells, List.getElem?_toArray]
  rw [List.getElem?_append_left (by rw [length_ints]; omega)]
  exact ints_at Z i (by omega)
theorem log_count (Z : List Int) (n : Nat) (c m : Bool) (h : Z.length = 256) : (logCells Z n c m)[256]? = some (.int .i64 n) := by
  simp only [logCells, List.getElem?_toArray]
  rw [List.getElem?_append_right (by rw [length_ints]; omega)]
  simp [length_ints, h]
theorem log_closed (Z : List Int) (n : Nat) (c m : Bool) (h : Z.length = 256) : (logCells Z n c m)[257]? = some (.bool c) := by
  simp only [logCells, List.getElem?_toArray]
  rw [List.getElem?_append_right (by rw [length_ints]; omega)]
  simp [length_ints, h]
theorem log_made (Z : List Int) (n : Nat) (c m : Bool) (h : Z.length = 256) : (logCells Z n c m)[258]? = some (.bool m) := by
  simp only [logCells, List.getElem?_toArray]
  rw [List.getElem?_append_right (by rw [length_ints]; omega)]
  simp [length_ints, h]
theorem set_note (Z : List Int) (n : Nat) (c m : Bool) (h : Z.length = 256) (i : Nat) (hi : i < 256) (v : Int) : (logCells Z n c m).setIfInBounds i (.int .i64 v) = logCells (Z.set i v) n c m := by
  simp only [logCells, List.setIfInBounds_toArray]
  rw [List.set_append_left _ _ (by rw [length_ints]; omega)]
  simp [ints, List.map_set]
theorem set_count (Z : List Int) (n n' : Nat) (c m : Bool) (h : Z.length = 256) : (logCells Z n c m).setIfInBounds 256 (.int .i64 n') = logCells Z n' c m := by
  simp only [logCells, List.setIfInBounds_toArray]
  rw [List.set_append_right _ _ (by rw [length_ints]; omega)]
  simp [length_ints, h]
theorem set_closed (Z : List Int) (n : Nat) (c c' m : Bool) (h : Z.length = 256) : (logCells Z n c m).setIfInBounds 257 (.bool c') = logCells Z n c' m := by
  simp only [logCells, List.setIfInBounds_toArray]
  rw [List.set_append_right _ _ (by rw [length_ints]; omega)]
  simp [length_ints, h]

theorem block_cell {w : World} {b : Nat} {cs : Array Value} {t : TypeId} (h : w.heap[b]? = some (.cells cs t (0, 0))) (i : Nat) : w.cell? ⟨b, i, none⟩ = cs[i]? := by simp [World.cell?, h]
theorem block_free {w : World} {b : Nat} {cs : Array Value} {t : TypeId} (h : w.heap[b]? = some (.cells cs t (0, 0))) (i : Nat) : w.frozen? ⟨b, i, none⟩ = false := by simp [World.frozen?, h]
theorem block_set {w : World} {b : Nat} {cs : Array Value} {t : TypeId} (h : w.heap[b]? = some (.cells cs t (0, 0))) (i : Nat) (v : Value) : (w.setCell ⟨b, i, none⟩ v).heap[b]? = some (.cells (cs.setIfInBounds i v) t (0, 0)) := by
  simp [World.setCell, Array.getElem?_modify, h]
theorem block_lt {w : World} {b : Nat} {o : Obj} (h : w.heap[b]? = some o) : b < w.heap.size := (Array.getElem?_eq_some_iff.1 h).1
theorem grown_refl (w : World) (r : Option Nat) : w.grownBy w r := ⟨rfl, rfl, rfl, Nat.le_refl _, fun _ _ _ => rfl⟩
theorem grown_set (w : World) (b i : Nat) (v : Value) : w.grownBy (w.setCell ⟨b, i, none⟩ v) (some b) :=
  ⟨rfl, rfl, rfl, by simp [World.setCell], fun k _ hk => Below.heap_setCell _ _ _ _ (by simpa using hk)⟩
theorem grown_trans {a b c : World} {r : Option Nat} (h : a.grownBy b r) (k : b.grownBy c r) : a.grownBy c r :=
  ⟨k.os.trans h.os, k.tape.trans h.tape, k.output.trans h.output, Nat.le_trans h.size k.size, fun i hi hr => (k.block i (Nat.lt_of_lt_of_le hi h.size) hr).trans (h.block i hi hr)⟩
theorem grown_keep {a b : World} {r : Option Nat} (h : a.grownBy b r) {k : Nat} {o : Obj} (hk : a.heap[k]? = some o) (hr : some k ≠ r) : b.heap[k]? = some o := by
  rw [h.block k (block_lt hk) hr]; exact hk
theorem grown_drewN (w : World) (n : Nat) (r : Option Nat) : w.grownBy (w.drewN n) r := ⟨rfl, rfl, rfl, Nat.le_refl _, fun _ _ _ => rfl⟩

/-- A log at block b: its notes are l; whether it is closed. -/
def LogAt (w : World) (b : Nat) (l : List Int) (c : Bool) : Prop :=
  ∃ Z : List Int, l.length ≤ 256 ∧ Z.length = 256 ∧ Z.take l.length = l ∧ w.heap[b]? = some (.cells (logCells Z l.length c true) 43 (0, 0))
theorem LogAt.keep {w w' : World} {b : Nat} {l : List Int} {c : Bool} {r : Option Nat} (h : LogAt w b l c) (hg : w.grownBy w' r) (hr : some b ≠ r) : LogAt w' b l c := by
  obtain ⟨Z, h1, h2, h3, h4⟩ := h
  exact ⟨Z, h1, h2, h3, grown_keep hg h4 hr⟩
theorem LogAt.len {w : World} {b : Nat} {l : List Int} {c : Bool} (h : LogAt w b l c) : l.length ≤ 256 := by
  obtain ⟨Z, h1, h2, h3, h4⟩ := h; exact h1
theorem LogAt.lt {w : World} {b : Nat} {l : List Int} {c : Bool} (h : LogAt w b l c) : b < w.heap.size := by
  obtain ⟨Z, h1, h2, h3, h4⟩ := h; exact block_lt h4
theorem take_set_snoc (Z l : List Int) (n : Int) (h1 : l.length < Z.length) (h : Z.take l.length = l) : (Z.set l.length n).take (l ++ [n]).length = l ++ [n] := by
  rw [List.length_append, List.length_singleton, List.take_succ_eq_append_getElem (by simpa using h1)]
  simp [List.take_set_of_le, h]

end Go.Proofs.Ytldjfeodeodcmaa
