/-
  Memory, as the proofs of this seat see it: what reading and writing one cell of a block does; that a call touches nothing that was there.
  Memory of a log of package start, as the proofs of this seat see it: one block of 259 cells (256 notes, the count, closed, made).
  What the functions of package start answer, one contract a function: New, Note, Close, Closed, over the log's block of YtogpgldbbegniaaMem.
-/
import Derived.Test.YtogpgldbbegniaaRows
import Derived.WalkKit
import Derived.WalkSpells
import Derived.WalkLawsBesides
import Derived.Deep.RegionHeld3
import Derived.BigQuiet
namespace Go.Proofs.Ytogpgldbbegniaa.L
open Go.RowKit

theorem wpl_build {P : Program} {w w1 : World} {ops : Array Oper} {rest : List Oper} {o : Oper} {a : Act} {Q : Exit → Act → World → Prop} (hgd : o.guard = none) (t : TypeId) (parts : Array (Nat × Operand))
    (ho : o.op = .build t parts) (vs : Array (Nat × Value)) (hv : (parts.map fun (i, x) => (i, a.eval x)) = vs) (v : Value) (hrun : (Instr.build t vs).run P w = .ok v w1) (h : wpList P ops Q rest (a.put o.dst v) w1) : wpList P ops Q (o :: rest) a w := by
  refine wpList_plain hgd fun K hK => ?_
  unfold Oper.wp
  simp only [execOp, ho, Sem.run_bind, hv, hrun, Result.andThen_ok]
  exact hK _ _ h
theorem wpl_box {P : Program} {w w1 : World} {ops : Array Oper} {rest : List Oper} {o : Oper} {a : Act} {Q : Exit → Act → World → Prop} (hgd : o.guard = none) (t : TypeId) (x : Operand)
    (ho : o.op = .box t x) (y : Value) (hy : a.eval x = y) (v : Value) (hrun : (Instr.box t y).run P w = .ok v w1) (h : wpList P ops Q rest (a.put o.dst v) w1) : wpList P ops Q (o :: rest) a w := by
  refine wpList_plain hgd fun K hK => ?_
  unfold Oper.wp
  simp only [execOp, ho, Sem.run_bind, hy, hrun, Result.andThen_ok]
  exact hK _ _ h

/-- The numbers of a list, as cells. -/
def ints (l : List Int) : List Value := l.map fun z => Value.int .i64 z
theorem length_ints (l : List Int) : (ints l).length = l.length := by simp [ints]
theorem ints_at (l : List Int) (i : Nat) (h : i < l.length) : (ints l)[i]? = some (.int .i64 (l.getD i 0)) := by
  simp [ints, List.getD, List.getElem?_eq_getElem h]
theorem ints_snoc (l : List Int) (n : Int) : ints (l ++ [n]) = ints l ++ [Value.int .i64 n] := by simp [ints]
theorem ints_take (l : List Int) (n : Nat) : ints (l.take n) = (ints l).take n := by simp [ints, List.map_take]

theorem block_cell {w : World} {b : Nat} {cs : Array Value} {t : TypeId} (h : w.heap[b]? = some (.cells cs t (0, 0))) (i : Nat) : w.cell? ⟨b, i, none⟩ = cs[i]? := by simp [World.cell?, h]
theorem block_free {w : World} {b : Nat} {cs : Array Value} {t : TypeId} (h : w.heap[b]? = some (.cells cs t (0, 0))) (i : Nat) : w.frozen? ⟨b, i, none⟩ = false := by simp [World.frozen?, h]
theorem block_set {w : World} {b : Nat} {cs : Array Value} {t : TypeId} (h : w.heap[b]? = some (.cells cs t (0, 0))) (i : Nat) (v : Value) : (w.setCell ⟨b, i, none⟩ v).heap[b]? = some (.cells (cs.setIfInBounds i v) t (0, 0)) := by
  simp [World.setCell, Array.getElem?_modify, h]
theorem block_lt {w : World} {b : Nat} {o : Obj} (h : w.heap[b]? = some o) : b < w.heap.size := (Array.getElem?_eq_some_iff.1 h).1
theorem grown_refl (w : World) (r : Option Nat) : w.grownBy w r := ⟨rfl, rfl, rfl, Nat.le_refl _, fun _ _ _ => rfl⟩
theorem grown_set (w : World) (b i : Nat) (v : Value) : w.grownBy (w.setCell ⟨b, i, none⟩ v) (some b) :=
  ⟨rfl, rfl, rfl, by simp [World.setCell], fun k _ hk => Below.heap_setCell _ _ _ _ (by simpa using hk)⟩
theorem grown_trans {a b c : World} {r : Option Nat} (h : a.grownBy b r) (k : b.grownBy c r) : a.grownBy c r :=
  ⟨k.os.trans h.os, k.tape.trans h.tape, k.output.trans h.output, Nat.le_trans h.size k.size, fun i hi hr => (k.block i (Nat.lt_of_lt_of_le hi h.size) hr).trans (h.block i hi hr)⟩
theorem grown_keep {a b : World} {r : Option Nat} (h : a.grownBy b r) {k : Nat} {o : Obj} (hk : a.heap[k]? = some o) (hr : some k ≠ r) : b.heap[k]? = some o := by
  rw [h.block k (block_lt hk) hr]; exact hk
theorem grown_drewN (w : World) (n : Nat) (r : Option Nat) : w.grownBy (w.drewN n) r := ⟨rfl, rfl, rfl, Nat.le_refl _, fun _ _ _ => rfl⟩

theorem grown_own {a b c : World} {r : Option Nat} (h : a.grownBy b none) (k : b.grownBy c r) (hr : ∀ x, r = some x → a.heap.size ≤ x) : a.grownBy c none :=
  ⟨k.os.trans h.os, k.tape.trans h.tape, k.output.trans h.output, Nat.le_trans h.size k.size, fun i hi _ => (k.block i (Nat.lt_of_lt_of_le hi h.size) (fun e => by have := hr i e.symm; omega)).trans (h.block i hi (by simp))⟩
theorem getD_lt (l : List Int) (k : Nat) (h : k < l.length) : l.getD k 0 = l[k] := by simp [List.getD, h]
theorem ret_int {k : IntKind} {a b : Int} (h : a = b) : Ending.returned (.int k a) = .returned (.int k b) := by rw [h]
theorem grown_below {w w' : World} (h : w.grownBy w' none) : Below w.heap.size w w' := ⟨h.os, h.tape, h.output, h.size, fun k hk => h.block k hk (by simp)⟩
theorem grown_push {a b : World} (h : a.grownBy b none) (o : Obj) : a.grownBy (b.alloc o) none := grown_own (r := none) h (World.grownBy_alloc _ _ _) (by simp)
theorem alloc_at (w : World) (cs : Array Value) (t : TypeId) : (w.alloc (.cells cs t)).heap[w.heap.size]? = some (.cells cs t (0, 0)) := by
  show (w.heap.push _)[w.heap.size]? = _
  rw [Array.getElem?_push_size]

end Go.Proofs.Ytogpgldbbegniaa.L
namespace Go.Proofs.Ytogpgldbbegniaa.L
open Go.RowKit
/-- A log's block. -/
def logCells (Z : List Int) (n : Nat) (c m : Bool) : Array Value := (ints Z ++ [Value.int .i64 n, Value.bool c, Value.bool m]).toArray
def newCells : Array Value := logCells (List.replicate 256 0) 0 false true
def noCells : Array Value := logCells (List.replicate 256 0) 0 false false

theorem size_logCells (Z : List Int) (n : Nat) (c m : Bool) (h : Z.length = 256) : (logCells Z n c m).size = 259 := by simp [logCells, length_ints, h]
theorem log_note (Z : List Int) (n : Nat) (c m : Bool) (h : Z.length = 256) (i : Nat) (hi : i < 256) : (logCells Z n c m)[i]? = some (.int .i64 (Z.getD i 0)) := by
  simp only [logCells, List.getElem?_toArray]
  rw [List.getElem?_append_left (by rw [length_ints]; omega)]
  exact ints_at Z i (by omega)
theorem log_count (Z : List Int) (n : Nat) (c m : Bool) (h : Z.length = 256) : (logCells Z n c m)[256]? = some (.int .i64 n) := by
  simp only [logCells, List.getElem?_toArray]
  rw [List.getElem?_append_right (by rw [length_ints]; omega)]
  simp [length_ints, h]
theorem log_closed (Z : List Int) (n : Nat) (c m : Bool) (h : Z.length = 256) : (logCells Z n c m)[257]? = some (.bool c) := by
  simp only [logCells, List.getElem?_toArray]
  rw [List.getElem?_append_right (by rw [length_ints]; omega)]
  simp [length_ints, h]
theorem log_made (Z : List Int) (n : Nat) (c m : Bool) (h : Z.length = 256) : (logCells Z n c m)[258]? = some (.bool m) := by
  simp only [logCells, List.getElem?_toArray]
  rw [List.getElem?_append_right (by rw [length_ints]; omega)]
  simp [length_ints, h]
theorem set_note (Z : List Int) (n : Nat) (c m : Bool) (h : Z.length = 256) (i : Nat) (hi : i < 256) (v : Int) : (logCells Z n c m).setIfInBounds i (.int .i64 v) = logCells (Z.set i v) n c m := by
  simp only [logCells, List.setIfInBounds_toArray]
  rw [List.set_append_left _ _ (by rw [length_ints]; omega)]
  simp [ints, List.map_set]
theorem set_count (Z : List Int) (n n' : Nat) (c m : Bool) (h : Z.length = 256) : (logCells Z n c m).setIfInBounds 256 (.int .i64 n') = logCells Z n' c m := by
  simp only [logCells, List.setIfInBounds_toArray]
  rw [List.set_append_right _ _ (by rw [length_ints]; omega)]
  simp [length_ints, h]
theorem set_closed (Z : List Int) (n : Nat) (c c' m : Bool) (h : Z.length = 256) : (logCells Z n c m).setIfInBounds 257 (.bool c') = logCells Z n c' m := by
  simp only [logCells, List.setIfInBounds_toArray]
  rw [List.set_append_right _ _ (by rw [length_ints]; omega)]
  simp [length_ints, h]

theorem take_set_snoc (Z l : List Int) (n : Int) (h1 : l.length < Z.length) (h : Z.take l.length = l) : (Z.set l.length n).take (l ++ [n]).length = l ++ [n] := by
  rw [List.length_append, List.length_singleton, List.take_succ_eq_append_getElem (by simpa using h1)]
  simp [List.take_set_of_le, h]

end Go.Proofs.Ytogpgldbbegniaa.L
namespace Go.Proofs.Ytogpgldbbegniaa.L
open Go.RowKit

/-- What is no log: nil, or a block that New did not make. -/
def NoLog (w : World) (p : Option Addr) : Prop := p = none ∨ ∃ b, p = some ⟨b, 0, none⟩ ∧ w.cell? ⟨b, 258, none⟩ = some (.bool false)

theorem getD_take (Z l : List Int) (h : Z.take l.length = l) (k : Nat) (hk : k < l.length) : Z.getD k 0 = l.getD k 0 := by
  have e : (Z.take l.length).getD k 0 = l.getD k 0 := by rw [h]
  rw [← e]
  simp [List.getD, hk]
end Go.Proofs.Ytogpgldbbegniaa.L
