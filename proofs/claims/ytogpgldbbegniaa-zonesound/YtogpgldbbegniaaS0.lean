/-
  Memory, as the proofs of this seat see it: what reading and writing one cell of a block does; that a call touches nothing that was there.
  Memory of a log of package start, as the proofs of this seat see it: one block of 259 cells (256 notes, the count, closed, made).
  What the functions of package start answer, one contract a function: New, Note, Close, Closed, over the log's block of YtogpgldbbegniaaMem.
  What List answers of a log (its notes, in memory of its own), and what SameInts answers of two lists: whether they are the same.
  A list of numbers that the call itself grows.
  Piles, plainly: lists of numbers, exchanged, shuffled by a stream of places, dealt; what changes is the order alone.
  The generator's next number: of the program and of the document.
  Memory, as lists of numbers see it: what a call has kept, lists and their blocks, small lengths. (Gathered out of elder texts, for seats without cards.)
  LentInts, CopyInts, KeptInts: a list of numbers lent, copied, as it was.
  A list in memory of its own; the document's Shuffle.
  The document's Draw, Under, Cut, Without.
  The document's Cut.
  Two lists, one behind the other, in new memory: the program's joined.
  The program's Draw, Under, Cut.
  Lists of numbers where they can be cut: nothing at all, or a plain place with room.
  slices.Index of numbers; Without, of the program and of the document: the list without the first x.
  Draw, Under, Without, Cut of every list, of the program and of the document: the same answers.
  The program's Shuffle.
-/
import Derived.Test.YtogpgldbbegniaaRows
import Derived.WalkKit
import Derived.WalkSpells
import Derived.WalkLawsBesides
import Derived.Deep.RegionHeld3
import Derived.BigQuiet
import Derived.Laws.CopyOwn
import Derived.Deep.RegionLaw
import Derived.Deep.QuietTactic
import Derived.Test.YtogpgldbbegniaaM0
import Derived.Laws.Bits64
import Derived.Laws.MakeOwn
import Derived.Laws.AppendOwnNone
import Derived.Laws.OwnMore
import Derived.OwnWalk
import Derived.Maps.AppendAt
import Derived.Deep.AppendLies
import Derived.Maps.RangeWalk
import Derived.Deep.RegionWith
import Derived.Deep.CutRange
import Derived.Deep.RegionHeld
namespace Go.Proofs.Ytogpgldbbegniaa.L
open Go.RowKit

theorem wpl_build {P : Program} {w w1 : World} {ops : Array Oper} {rest : List Oper} {o : Oper} {a : Act} {Q : Exit → Act → World → Prop} (hgd : o.guard = none) (t : TypeId) (parts : Array (Nat × Operand))
    (ho : o.op = .build t parts) (vs : Array (Nat × Value)) (hv : (parts.map fun (i, x) => (i, a.eval x)) = vs) (v : Value) (hrun : (Instr.build t vs).run P w = .ok v w1) (h : wpList P ops Q rest (a.put o.dst v) w1) : wpList P ops Q (o :: rest) a w := by
  refine wpList_plain hgd fun K hK => ?_
  unfold Oper.wp
  simp only [execOp, ho, Sem.run_bind, hv, hrun, Result.andThen_ok]
  exact hK _ _ h
theorem wpl_box {P : Program} {w w1 : World} {ops : Array Oper} {rest : List Oper} {o : Oper} {a : Act} {Q : Exit → Act → World → Prop} (hgd : o.guard = none) (t : TypeId) (x : Operand)
    (ho : o.op = .box t x) (y : Value) (hy : a.eval x = y) (v : Value) (hrun : (Instr.box t y).run P w = .ok v w1) (h : wpList P ops Q rest (a.put o.dst v) w1) : wpList P ops Q (o :: rest) a w := by
  refine wpList_plain hgd fun K hK => ?_
  unfold Oper.wp
  simp only [execOp, ho, Sem.run_bind, hy, hrun, Result.andThen_ok]
  exact hK _ _ h

/-- The numbers of a list, as cells. -/
def ints (l : List Int) : List Value := l.map fun z => Value.int .i64 z
theorem length_ints (l : List Int) : (ints l).length = l.length := by simp [ints]
theorem ints_at (l : List Int) (i : Nat) (h : i < l.length) : (ints l)[i]? = some (.int .i64 (l.getD i 0)) := by
  simp [ints, List.getD, List.getElem?_eq_getElem h]
theorem ints_snoc (l : List Int) (n : Int) : ints (l ++ [n]) = ints l ++ [Value.int .i64 n] := by simp [ints]
theorem ints_take (l : List Int) (n : Nat) : ints (l.take n) = (ints l).take n := by simp [ints, List.map_take]

theorem block_cell {w : World} {b : Nat} {cs : Array Value} {t : TypeId} (h : w.heap[b]? = some (.cells cs t (0, 0))) (i : Nat) : w.cell? ⟨b, i, none⟩ = cs[i]? := by simp [World.cell?, h]
theorem block_free {w : World} {b : Nat} {cs : Array Value} {t : TypeId} (h : w.heap[b]? = some (.cells cs t (0, 0))) (i : Nat) : w.frozen? ⟨b, i, none⟩ = false := by simp [World.frozen?, h]
theorem block_set {w : World} {b : Nat} {cs : Array Value} {t : TypeId} (h : w.heap[b]? = some (.cells cs t (0, 0))) (i : Nat) (v : Value) : (w.setCell ⟨b, i, none⟩ v).heap[b]? = some (.cells (cs.setIfInBounds i v) t (0, 0)) := by
  simp [World.setCell, Array.getElem?_modify, h]
theorem block_lt {w : World} {b : Nat} {o : Obj} (h : w.heap[b]? = some o) : b < w.heap.size := (Array.getElem?_eq_some_iff.1 h).1
theorem grown_refl (w : World) (r : Option Nat) : w.grownBy w r := ⟨rfl, rfl, rfl, Nat.le_refl _, fun _ _ _ => rfl⟩
theorem grown_set (w : World) (b i : Nat) (v : Value) : w.grownBy (w.setCell ⟨b, i, none⟩ v) (some b) :=
  ⟨rfl, rfl, rfl, by simp [World.setCell], fun k _ hk => Below.heap_setCell _ _ _ _ (by simpa using hk)⟩
theorem grown_trans {a b c : World} {r : Option Nat} (h : a.grownBy b r) (k : b.grownBy c r) : a.grownBy c r :=
  ⟨k.os.trans h.os, k.tape.trans h.tape, k.output.trans h.output, Nat.le_trans h.size k.size, fun i hi hr => (k.block i (Nat.lt_of_lt_of_le hi h.size) hr).trans (h.block i hi hr)⟩
theorem grown_keep {a b : World} {r : Option Nat} (h : a.grownBy b r) {k : Nat} {o : Obj} (hk : a.heap[k]? = some o) (hr : some k ≠ r) : b.heap[k]? = some o := by
  rw [h.block k (block_lt hk) hr]; exact hk
theorem grown_drewN (w : World) (n : Nat) (r : Option Nat) : w.grownBy (w.drewN n) r := ⟨rfl, rfl, rfl, Nat.le_refl _, fun _ _ _ => rfl⟩

theorem grown_own {a b c : World} {r : Option Nat} (h : a.grownBy b none) (k : b.grownBy c r) (hr : ∀ x, r = some x → a.heap.size ≤ x) : a.grownBy c none :=
  ⟨k.os.trans h.os, k.tape.trans h.tape, k.output.trans h.output, Nat.le_trans h.size k.size, fun i hi _ => (k.block i (Nat.lt_of_lt_of_le hi h.size) (fun e => by have := hr i e.symm; omega)).trans (h.block i hi (by simp))⟩
theorem getD_lt (l : List Int) (k : Nat) (h : k < l.length) : l.getD k 0 = l[k] := by simp [List.getD, h]
theorem ret_int {k : IntKind} {a b : Int} (h : a = b) : Ending.returned (.int k a) = .returned (.int k b) := by rw [h]
theorem grown_below {w w' : World} (h : w.grownBy w' none) : Below w.heap.size w w' := ⟨h.os, h.tape, h.output, h.size, fun k hk => h.block k hk (by simp)⟩
theorem grown_push {a b : World} (h : a.grownBy b none) (o : Obj) : a.grownBy (b.alloc o) none := grown_own (r := none) h (World.grownBy_alloc _ _ _) (by simp)
theorem alloc_at (w : World) (cs : Array Value) (t : TypeId) : (w.alloc (.cells cs t)).heap[w.heap.size]? = some (.cells cs t (0, 0)) := by
  show (w.heap.push _)[w.heap.size]? = _
  rw [Array.getElem?_push_size]

end Go.Proofs.Ytogpgldbbegniaa.L
namespace Go.Proofs.Ytogpgldbbegniaa.L
open Go.RowKit
/-- A log's block. -/
def logCells (Z : List Int) (n : Nat) (c m : Bool) : Array Value := (ints Z ++ [Value.int .i64 n, Value.bool c, Value.bool m]).toArray
def newCells : Array Value := logCells (List.replicate 256 0) 0 false true
def noCells : Array Value := logCells (List.replicate 256 0) 0 false false

theorem size_logCells (Z : List Int) (n : Nat) (c m : Bool) (h : Z.length = 256) : (logCells Z n c m).size = 259 := by simp [logCells, length_ints, h]
theorem log_note (Z : List Int) (n : Nat) (c m : Bool) (h : Z.length = 256) (i : Nat) (hi : i < 256) : (logCells Z n c m)[i]? = some (.int .i64 (Z.getD i 0)) := by
  simp only [logCells, List.getElem?_toArray]
  rw [List.getElem?_append_left (by rw [length_ints]; omega)]
  exact ints_at Z i (by omega)
theorem log_count (Z : List Int) (n : Nat) (c m : Bool) (h : Z.length = 256) : (logCells Z n c m)[256]? = some (.int .i64 n) := by
  simp only [logCells, List.getElem?_toArray]
  rw [List.getElem?_append_right (by rw [length_ints]; omega)]
  simp [length_ints, h]
theorem log_closed (Z : List Int) (n : Nat) (c m : Bool) (h : Z.length = 256) : (logCells Z n c m)[257]? = some (.bool c) := by
  simp only [logCells, List.getElem?_toArray]
  rw [List.getElem?_append_right (by rw [length_ints]; omega)]
  simp [length_ints, h]
theorem log_made (Z : List Int) (n : Nat) (c m : Bool) (h : Z.length = 256) : (logCells Z n c m)[258]? = some (.bool m) := by
  simp only [logCells, List.getElem?_toArray]
  rw [List.getElem?_append_right (by rw [length_ints]; omega)]
  simp [length_ints, h]
theorem set_note (Z : List Int) (n : Nat) (c m : Bool) (h : Z.length = 256) (i : Nat) (hi : i < 256) (v : Int) : (logCells Z n c m).setIfInBounds i (.int .i64 v) = logCells (Z.set i v) n c m := by
  simp only [logCells, List.setIfInBounds_toArray]
  rw [List.set_append_left _ _ (by rw [length_ints]; omega)]
  simp [ints, List.map_set]
theorem set_count (Z : List Int) (n n' : Nat) (c m : Bool) (h : Z.length = 256) : (logCells Z n c m).setIfInBounds 256 (.int .i64 n') = logCells Z n' c m := by
  simp only [logCells, List.setIfInBounds_toArray]
  rw [List.set_append_right _ _ (by rw [length_ints]; omega)]
  simp [length_ints, h]
theorem set_closed (Z : List Int) (n : Nat) (c c' m : Bool) (h : Z.length = 256) : (logCells Z n c m).setIfInBounds 257 (.bool c') = logCells Z n c' m := by
  simp only [logCells, List.setIfInBounds_toArray]
  rw [List.set_append_right _ _ (by rw [length_ints]; omega)]
  simp [length_ints, h]

theorem take_set_snoc (Z l : List Int) (n : Int) (h1 : l.length < Z.length) (h : Z.take l.length = l) : (Z.set l.length n).take (l ++ [n]).length = l ++ [n] := by
  rw [List.length_append, List.length_singleton, List.take_succ_eq_append_getElem (by simpa using h1)]
  simp [List.take_set_of_le, h]

end Go.Proofs.Ytogpgldbbegniaa.L
namespace Go.Proofs.Ytogpgldbbegniaa.L
open Go.RowKit

/-- What is no log: nil, or a block that New did not make. -/
def NoLog (w : World) (p : Option Addr) : Prop := p = none ∨ ∃ b, p = some ⟨b, 0, none⟩ ∧ w.cell? ⟨b, 258, none⟩ = some (.bool false)

theorem getD_take (Z l : List Int) (h : Z.take l.length = l) (k : Nat) (hk : k < l.length) : Z.getD k 0 = l.getD k 0 := by
  have e : (Z.take l.length).getD k 0 = l.getD k 0 := by rw [h]
  rw [← e]
  simp [List.getD, hk]
end Go.Proofs.Ytogpgldbbegniaa.L
namespace Go.Proofs.Ytogpgldbbegniaa.L
open Go.RowKit

def zeros (n : Nat) : Array Value := (ints (List.replicate n 0)).toArray
theorem zeros_eq (n : Nat) : madeCells #[Value.int .i64 0] n = zeros n := by
  apply Array.ext
  · simp [size_madeCells, zeros, length_ints]
  · intro i h1 h2
    simp [madeCells, zeros, ints, Nat.mod_one]
theorem run_make35 (n : Nat) (hn : n ≤ 256) (w : World) : (Instr.makeSlice 22 (.int .i64 n) (.int .i64 n)).run Try.prog w = .ok (.slice (some ⟨w.heap.size, 0, none⟩) n n) (w.alloc (.cells (zeros n) 3)) := by
  have h := run_make (P := Try.prog) w 22 3 Try.t3 (.int .i64 0) Try.underlying22 (by kernel_rfl) (by kernel_rfl) .i64 .i64 n n (by omega) (by omega) (by show ((8 : Nat) : Int) * n ≤ _; omega) (by omega)
  rw [h]
  show Result.ok (Value.slice (some ⟨w.heap.size, 0, none⟩) n n) (w.alloc (Obj.cells (madeCells #[Value.int .i64 0] (n * 1)) 3)) = _
  rw [Nat.mul_one, zeros_eq]
/-- A slice that reads as the numbers l. -/
def IntsAt (w : World) (v : Value) (l : List Int) : Prop := ∃ p cap, v = .slice p l.length cap ∧ l.length ≤ maxLen ∧ (0 < l.length → ∃ g off, p = some ⟨g, off, none⟩ ∧ ∀ j, j < l.length → w.cell? ⟨g, off + j, none⟩ = some (.int .i64 (l.getD j 0)))
theorem ret_false {p : Prop} [Decidable p] (h : ¬ p) : Ending.returned (.bool false) = .returned (.bool (decide p)) := by simp [h]
theorem ret_true {p : Prop} [Decidable p] (h : p) : Ending.returned (.bool true) = .returned (.bool (decide p)) := by simp [h]
theorem ext_getD (l r : List Int) (hl : l.length = r.length) (h : ∀ j, j < l.length → l.getD j 0 = r.getD j 0) : l = r := by
  apply List.ext_getElem hl
  intro j h1 h2
  have := h j h1
  rwa [getD_lt _ _ h1, getD_lt _ _ h2] at this
set_option maxHeartbeats 400000 in
theorem same_len (p q : Option Addr) (n m c d : Nat) (w : World) (h : n ≠ m) : Calls Try.prog 24 #[.slice p n c, .slice q m d] w fun e w' => e = .returned (.bool false) ∧ w' = w := by
  have hb : ((n : Int) == (m : Int)) = false := by simpa using (show ¬ ((n : Int) = m) by omega)
  go_enter Try.func24, Try.ntmps24
  go_wp2
  go_ret
  exact ⟨rfl, rfl⟩
set_option maxHeartbeats 400000 in
theorem same_nil (p q : Option Addr) (c d : Nat) (w : World) : Calls Try.prog 24 #[.slice p 0 c, .slice q 0 d] w fun e w' => e = .returned (.bool true) ∧ w' = w := by
  go_enter Try.func24, Try.ntmps24
  go_wp2
  go_loop [5] (fun i => i = .int .i64 0) (fun _ => 0)
  case atStart => rfl
  case round =>
    subst hrel
    go_wp2
    go_ret
    exact ⟨rfl, rfl⟩
set_option maxHeartbeats 400000 in
theorem same_run (l r : List Int) (g off c g' off' c' : Nat) (w : World) (hl : l.length = r.length) (hm : l.length ≤ maxLen)
    (ha : ∀ j, j < l.length → w.cell? ⟨g, off + j, none⟩ = some (.int .i64 (l.getD j 0))) (hb : ∀ j, j < l.length → w.cell? ⟨g', off' + j, none⟩ = some (.int .i64 (r.getD j 0))) :
    Calls Try.prog 24 #[.slice (some ⟨g, off, none⟩) l.length c, .slice (some ⟨g', off', none⟩) l.length c'] w fun e w' => e = .returned (.bool (decide (l = r))) ∧ ∃ n, w' = w.drewN n := by
  unfold maxLen at hm
  have HL : Hid (l.length = r.length) := hl
  clear hl
  go_enter Try.func24, Try.ntmps24
  go_wp2
  go_loopw [5] (fun i wr => ∃ k n : Nat, k ≤ l.length ∧ i = .int .i64 k ∧ wr = w.drewN n ∧ ∀ j, j < k → l.getD j 0 = r.getD j 0) (fun i _ => l.length - (intOf i).toNat)
  case atStart => exact ⟨0, 0, Nat.zero_le _, rfl, rfl, fun j hj => absurd hj (Nat.not_lt_zero _)⟩
  case round =>
    obtain ⟨k, n, hk, rfl, rfl, hall⟩ := hrel
    have HA : Hid (∀ j, j < k → l.getD j 0 = r.getD j 0) := hall
    clear hall
    by_cases hlt : k < l.length
    · have ck := ha k hlt
      have dk := hb k hlt
      clear ha hb
      generalize hv : l.getD k 0 = v at *
      generalize hu : r.getD k 0 = u at *
      have HV : Hid (l.getD k 0 = v) := hv
      have HU : Hid (r.getD k 0 = u) := hu
      clear hv hu
      by_cases he : v = u
      · have hb : (v == u) = true := by simpa using he
        have HE : Hid (v = u) := he
        clear he
        go_wp2
        go_quiet (fail)
        go_wp2
        go_roundw
        case rel =>
          refine ⟨k + 1, n + nq, by omega, by go_num, rfl, fun j hj => ?_⟩
          by_cases ej : j = k
          · subst ej; rw [HV.out, HU.out]; exact HE.out
          · exact HA.out j (by omega)
        case measure => simp [intOf]; omega
      · have hb : (v == u) = false := by simpa using he
        have HE : Hid (¬ v = u) := he
        clear he
        go_wp2
        go_quiet (fail)
        go_wp2
        go_ret
        exact ⟨ret_false (fun e => HE.out (by rw [← HV.out, ← HU.out, e])), n + nq, by simp [World.drewN, Nat.add_assoc]⟩
    · clear ha hb
      go_wp2
      go_ret
      exact ⟨ret_true (ext_getD l r HL.out (fun j hj => HA.out j (by omega))), _, rfl⟩

theorem same_ints (a b : Value) (l r : List Int) (w : World) (ha : IntsAt w a l) (hb : IntsAt w b r) : Calls Try.prog 24 #[a, b] w fun e w' => e = .returned (.bool (decide (l = r))) ∧ ∃ n, w' = w.drewN n := by
  obtain ⟨p, c, rfl, hm, hp⟩ := ha
  obtain ⟨q, d, rfl, hm', hq⟩ := hb
  by_cases hl : l.length = r.length
  · by_cases h0 : l.length = 0
    · have e1 : l = [] := List.eq_nil_of_length_eq_zero h0
      have e2 : r = [] := List.eq_nil_of_length_eq_zero (by omega)
      subst e1; subst e2
      refine (same_nil p q c d w).mono ?_
      rintro e w' ⟨rfl, rfl⟩
      exact ⟨rfl, 0, rfl⟩
    · obtain ⟨g, off, rfl, ca⟩ := hp (by omega)
      obtain ⟨g', off', rfl, cb⟩ := hq (by omega)
      rw [← hl]
      exact same_run l r g off c g' off' d w hl hm ca (fun j hj => cb j (by omega))
  · refine (same_len p q _ _ c d w hl).mono ?_
    rintro e w' ⟨rfl, rfl⟩
    exact ⟨ret_false (fun e => hl (by rw [e])), 0, rfl⟩
theorem IntsAt.block {w : World} {g cap : Nat} {cs : Array Value} {t : TypeId} {l : List Int} (h : w.heap[g]? = some (.cells cs t (0, 0))) (hl : l.length ≤ maxLen) (hc : ∀ j, j < l.length → cs[j]? = some (.int .i64 (l.getD j 0))) : IntsAt w (.slice (some ⟨g, 0, none⟩) l.length cap) l :=
  ⟨_, cap, rfl, hl, fun _ => ⟨g, 0, rfl, fun j hj => by rw [Nat.zero_add, block_cell h]; exact hc j hj⟩⟩
theorem IntsAt.whole {w : World} {g cap : Nat} {t : TypeId} {l : List Int} (h : w.heap[g]? = some (.cells (ints l).toArray t (0, 0))) (hl : l.length ≤ maxLen) : IntsAt w (.slice (some ⟨g, 0, none⟩) l.length cap) l :=
  IntsAt.block h hl (fun j hj => by simpa using ints_at l j hj)
theorem small_maxLen {n : Nat} (h : n ≤ 4294967296) : n ≤ maxLen := by unfold maxLen; omega
theorem IntsAt.keep {w w' : World} {v : Value} {l : List Int} {r : Option Nat} (h : IntsAt w v l) (hg : w.grownBy w' r) (hr : ∀ x, r = some x → v.ownBlock ≠ some x) : IntsAt w' v l := by
  obtain ⟨p, cap, rfl, hm, hp⟩ := h
  refine ⟨p, cap, rfl, hm, fun h0 => ?_⟩
  obtain ⟨g, off, rfl, hc⟩ := hp h0
  exact ⟨g, off, rfl, fun j hj => hg.cell (hc j hj) (fun e => hr g e.symm rfl)⟩
theorem IntsAt.lit (w : World) (l : List Int) (hl : l.length ≤ 4294967296) : IntsAt (w.alloc (.cells (ints l).toArray 3)) (.slice (some ⟨w.heap.size, 0, none⟩) l.length l.length) l :=
  IntsAt.whole (by show (w.heap.push _)[w.heap.size]? = _; rw [Array.getElem?_push_size]) (small_maxLen hl)

end Go.Proofs.Ytogpgldbbegniaa.L
namespace Go.Proofs.Ytogpgldbbegniaa.L
open Go.RowKit

/-- A list that the call itself grows: v owns the numbers l, in a block from base on. -/
def Own (w : World) (base : Nat) (v : Value) (l : List Int) : Prop := w.ownsRow base 3 1 v l.length (ints l)
theorem Own.nil (w : World) (base : Nat) : Own w base (.slice none 0 0) [] := ⟨rfl, Or.inl ⟨rfl, rfl⟩⟩
theorem Own.keep {w w' : World} {base : Nat} {v : Value} {l : List Int} {r : Option Nat} (h : Own w base v l) (hg : w.grownBy w' r) (hr : ∀ x, r = some x → x < base) : Own w' base v l := by
  obtain ⟨h1, h2⟩ := h
  refine ⟨h1, ?_⟩
  rcases h2 with h2 | ⟨g, cap, cur, hv, hg0, hh, rest⟩
  · exact Or.inl h2
  · exact Or.inr ⟨g, cap, cur, hv, hg0, grown_keep hg hh (fun e => by have := hr g e.symm; omega), rest⟩
theorem Own.ints {w : World} {base : Nat} {v : Value} {l : List Int} (h : Own w base v l) : IntsAt w v l := by
  obtain ⟨h1, h2⟩ := h
  rcases h2 with ⟨rfl, h0⟩ | ⟨g, cap, cur, rfl, hg0, hh, hn, hm, hs, ht⟩
  · have : l = [] := List.eq_nil_of_length_eq_zero h0
    subst this
    exact ⟨none, 0, rfl, Nat.zero_le _, fun h => absurd h (by simp)⟩
  · refine ⟨_, cap, rfl, Nat.le_trans hn hm, fun h => ⟨g, 0, rfl, fun j hj => ?_⟩⟩
    rw [Nat.zero_add, block_cell hh, ← ints_at l j hj, ← ht, List.getElem?_take, if_pos (by omega)]
    simp
theorem Own.form {w : World} {base : Nat} {v : Value} {l : List Int} (h : Own w base v l) : ∃ p cap, v = .slice p l.length cap := by
  obtain ⟨p, cap, e, _⟩ := h.ints
  exact ⟨p, cap, e⟩
theorem Own.block {w : World} {base : Nat} {v : Value} {l : List Int} (h : Own w base v l) : ∀ k, v.ownBlock = some k → base ≤ k := by
  intro k hk
  obtain ⟨h1, h2⟩ := h
  rcases h2 with ⟨rfl, h0⟩ | ⟨g, cap, cur, rfl, hg0, _⟩
  · simp [Value.ownBlock] at hk
  · simp [Value.ownBlock] at hk; omega
theorem Try.info3' : (Try.prog.info? 3).map (fun i => (i.zero, i.size, i.bytes)) = some (some (.int .i64 0), 1, 8) := by kernel_rfl

end Go.Proofs.Ytogpgldbbegniaa.L
namespace Go.Proofs.Ytogpgldbbegniaa

/-- What stands at i and at r, exchanged. -/
def swp (l : List Int) (i r : Nat) : List Int := (l.set i (l.getD r 0)).set r (l.getD i 0)
theorem swp_len (l : List Int) (i r : Nat) : (swp l i r).length = l.length := by simp [swp]
theorem getD_at (l : List Int) (i : Nat) (h : i < l.length) : l.getD i 0 = l[i] := by simp [List.getD, h]
theorem swp_perm (l : List Int) (i r : Nat) (hi : i < l.length) (hr : r < l.length) : (swp l i r).Perm l := by
  unfold swp
  rw [getD_at l i hi, getD_at l r hr]
  exact List.set_set_perm hi hr
theorem swp_map (f : Int → Int) (l : List Int) (i r : Nat) (hi : i < l.length) (hr : r < l.length) : swp (l.map f) i r = (swp l i r).map f := by
  unfold swp
  rw [getD_at l i hi, getD_at l r hr, getD_at (l.map f) i (by simpa using hi), getD_at (l.map f) r (by simpa using hr)]
  simp [List.map_set]
/-- A generator: its number of a state, and its state then. -/
structure Gen where
  num : Int → Nat
  nxt : Int → Int
/-- From place i down to 1. -/
def shuf (g : Gen) : Nat → List Int → Int → List Int × Int
  | 0, l, s => (l, s)
  | i + 1, l, s => shuf g i (swp l (i + 1) (g.num s % (i + 2))) (g.nxt s)
theorem shuf_len (g : Gen) : ∀ (i : Nat) (l : List Int) (s : Int), (shuf g i l s).1.length = l.length
  | 0, _, _ => rfl
  | i + 1, l, s => by rw [shuf, shuf_len g i, swp_len]
theorem shuf_perm (g : Gen) : ∀ (i : Nat) (l : List Int) (s : Int), i < l.length → (shuf g i l s).1.Perm l
  | 0, l, _, _ => List.Perm.refl l
  | i + 1, l, s, h => by
    rw [shuf]
    have hr : g.num s % (i + 2) < l.length := Nat.lt_of_lt_of_le (Nat.mod_lt _ (by omega)) (by omega)
    exact (shuf_perm g i _ _ (by rw [swp_len]; omega)).trans (swp_perm l _ _ h hr)
theorem shuf_map (g : Gen) (f : Int → Int) : ∀ (i : Nat) (l : List Int) (s : Int), i < l.length → shuf g i (l.map f) s = ((shuf g i l s).1.map f, (shuf g i l s).2)
  | 0, _, _, _ => rfl
  | i + 1, l, s, h => by
    have hr : g.num s % (i + 2) < l.length := Nat.lt_of_lt_of_le (Nat.mod_lt _ (by omega)) (by omega)
    rw [shuf, shuf, swp_map f l _ _ h hr, shuf_map g f i _ _ (by rw [swp_len]; omega)]
/-- The state hangs on the length and the state alone. -/
theorem shuf_state (g : Gen) : ∀ (i : Nat) (l m : List Int) (s : Int), (shuf g i l s).2 = (shuf g i m s).2
  | 0, _, _, _ => rfl
  | i + 1, l, m, s => by rw [shuf, shuf]; exact shuf_state g i _ _ _
/-- 0, 1, .., n - 1. -/
def places (n : Nat) : List Int := (List.range n).map fun (i : Nat) => (i : Int)
theorem places_len (n : Nat) : (places n).length = n := by simp [places]
theorem places_succ (n : Nat) : places n ++ [(n : Int)] = places (n + 1) := by simp [places, List.range_succ]
theorem places_map (l : List Int) : (places l.length).map (fun p => l.getD p.toNat 0) = l := by
  apply List.ext_getElem (by simp [places])
  intro i h1 h2
  simp [places, h2]
/-- The places go the same ways, whatever stands there. -/
theorem shuf_places (g : Gen) (i : Nat) (l : List Int) (s : Int) (h : i < l.length) : (shuf g i l s).1 = (shuf g i (places l.length) s).1.map fun p => l.getD p.toNat 0 := by
  have := shuf_map g (fun p => l.getD p.toNat 0) i (places l.length) s (by rw [places_len]; exact h)
  rw [places_map] at this
  rw [this]
theorem places_mem {n : Nat} {x : Int} (h : x ∈ places n) : 0 ≤ x ∧ x < n := by
  obtain ⟨i, hi, rfl⟩ := List.mem_map.1 h
  have := List.mem_range.1 hi
  omega
/-- Hand h: what stands at h, h + hands, h + 2 hands, .. -/
def dealH (l : List Int) (hands each h : Nat) : List Int := (List.range each).map fun k => l.getD (h + k * hands) 0
def dealAll (l : List Int) (hands each : Nat) : List (List Int) := (List.range hands).map (dealH l hands each)
theorem dealH_len (l : List Int) (hands each h : Nat) : (dealH l hands each h).length = each := by simp [dealH]
theorem dealH_succ (l : List Int) (hands each h : Nat) : dealH l hands each h ++ [l.getD (h + each * hands) 0] = dealH l hands (each + 1) h := by simp [dealH, List.range_succ]
theorem flat_snoc {α : Type} (f : Nat → List α) (g : Nat → α) : ∀ L : List Nat, (L.map fun h => f h ++ [g h]).flatten.Perm ((L.map f).flatten ++ L.map g)
  | [] => List.Perm.refl _
  | a :: L => by
    simp only [List.map_cons, List.flatten_cons]
    have ih := flat_snoc f g L
    rw [List.append_assoc, List.append_assoc]
    refine List.Perm.append_left _ ?_
    exact (List.Perm.append_left _ ih).trans (by
      rw [← List.append_assoc]
      exact (List.Perm.append_right _ List.perm_append_comm).trans (by rw [List.append_assoc]; exact List.Perm.refl _))
theorem row_take (l : List Int) (a n : Nat) (h : a + n ≤ l.length) : ((List.range n).map fun i => l.getD (i + a) 0) = (l.drop a).take n := by
  apply List.ext_getElem
  · simp; omega
  · intro i h1 h2
    simp at h1 h2
    have hh : a + i < l.length := by omega
    simp [List.getD, Nat.add_comm, hh]
theorem dealt_perm (l : List Int) (hands : Nat) : ∀ each, hands * each ≤ l.length → (dealAll l hands each).flatten.Perm (l.take (hands * each))
  | 0, _ => by simp [dealAll, dealH]
  | each + 1, h => by
    have e : dealAll l hands (each + 1) = (List.range hands).map fun h => dealH l hands each h ++ [l.getD (h + each * hands) 0] := by
      unfold dealAll
      apply List.map_congr_left
      intro a _
      rw [dealH_succ]
    have h' : hands * each + hands ≤ l.length := by rw [Nat.mul_succ] at h; exact h
    rw [e]
    refine (flat_snoc _ _ _).trans ?_
    rw [row_take l (each * hands) hands (by rw [Nat.mul_comm each]; exact h'), Nat.mul_succ, List.take_add, Nat.mul_comm each hands]
    exact List.Perm.append_right _ (dealt_perm l hands each (by omega))
/-- The hands and the rest have just the list's numbers. -/
theorem deal_perm (l : List Int) (hands each : Nat) (h : hands * each ≤ l.length) : (l.drop (hands * each) ++ (dealAll l hands each).flatten).Perm l := by
  refine (List.Perm.append_left _ (dealt_perm l hands each h)).trans (List.perm_append_comm.trans ?_)
  rw [List.take_append_drop]
/-- Without the first x. -/
theorem erase_count (l : List Int) (x : Int) (h : x ∈ l) : (l.erase x).length = l.length - 1 ∧ (l.erase x).count x = l.count x - 1 := ⟨List.length_erase_of_mem h, List.count_erase_self⟩
theorem erase_at (l : List Int) (x : Int) (i : Nat) (hi : i < l.length) (hx : l[i] = x) (hn : ∀ j (_ : j < i), l[j]'(by omega) ≠ x) : l.erase x = l.take i ++ l.drop (i + 1) := by
  induction l generalizing i with
  | nil => simp at hi
  | cons a l ih =>
    rcases i with _ | i
    · simp at hx; subst hx; simp
    · have ha : a ≠ x := by simpa using hn 0 (by omega)
      have := ih i (by simpa using hi) (by simpa using hx) (fun j hj => by simpa using hn (j + 1) (by omega))
      rw [List.erase_cons_tail (by simpa using ha), this]
      simp
end Go.Proofs.Ytogpgldbbegniaa
namespace Go.Proofs.Ytogpgldbbegniaa
open Go.RowKit

def stp (s : Int) : Int := IntKind.u64.wrap (s + 11400714819323198485)
def mxA (z : Int) : Int := IntKind.u64.wrap (bits .xor .u64 z (z / 1073741824) * 13787848793156543929)
def mxB (z : Int) : Int := IntKind.u64.wrap (bits .xor .u64 z (z / 134217728) * 10723151780598845931)
def nx (s : Int) : Int := bits .xor .u64 (mxB (mxA (stp s))) (mxB (mxA (stp s)) / 2147483648)
def isU (z : Int) : Prop := 0 ≤ z ∧ z < 18446744073709551616
theorem wrap_isU (z : Int) : isU (IntKind.u64.wrap z) := by unfold isU; rw [IntKind.wrap_u64]; omega
theorem stp_isU (s : Int) : isU (stp s) := wrap_isU _
theorem bits_isU (a b : Int) : isU (bits .xor .u64 a b) := wrap_isU _
theorem nx_isU (s : Int) : isU (nx s) := bits_isU _ _
/-- The document's generator. -/
def gen : Gen := ⟨fun s => (nx s).toNat, stp⟩
end Go.Proofs.Ytogpgldbbegniaa
namespace Go.Proofs.Ytogpgldbbegniaa
open Go.RowKit

theorem grown_drew (w : World) : w.grownBy w.drew none := ⟨rfl, rfl, rfl, Nat.le_refl _, fun _ _ _ => rfl⟩
theorem addr_plain {w : World} {x : Addr} {v : Value} (h : w.cell? x = some v) : x = ⟨x.block, x.off, none⟩ := by
  cases x with
  | mk b o s =>
    cases s with
    | none => rfl
    | some s =>
      exfalso
      unfold World.cell? at h
      split at h <;> simp_all
theorem add_plain (b o j : Nat) : (⟨b, o, none⟩ : Addr).add j = ⟨b, o + j, none⟩ := by unfold Addr.add; split <;> simp_all
/-- A number that a machine's list has at most. -/
def Small (n : Nat) : Prop := n ≤ 140737488355328
theorem Small.wrap {n k : Nat} (h : Small n) (hk : k < n) : wrap64 ((k : Int) + 1) = (k : Int) + 1 := by unfold Small at h; unfold wrap64; omega
theorem meas_next {n k : Nat} (h : k < n) : n - (intOf (.int .i64 ((k : Int) + 1))).toNat < n - (intOf (.int .i64 (k : Int))).toNat := by simp [intOf]; omega
/-- Where a list of numbers lies. -/
def IntsIn (w : World) (v : Value) (os : List Int) : Prop := ∃ a k, v = .slice a os.length k ∧ (0 < os.length → ∃ g o, a = some ⟨g, o, none⟩ ∧ ∀ (j : Nat) x, os[j]? = some x → w.cell? ⟨g, o + j, none⟩ = some (.int .i64 x))
def lim (n : Nat) : Prop := n ≤ maxLen
theorem lim.wrap {n k : Nat} (h : lim n) (hk : k < n) : wrap64 ((k : Int) + 1) = (k : Int) + 1 := by unfold lim maxLen at h; unfold wrap64; omega
/-- Nothing old has turned but the blocks of S. -/
structure Kpt (S : List Nat) (w w' : World) : Prop where
  os : w'.os = w.os
  tape : w'.tape = w.tape
  output : w'.output = w.output
  size : w.heap.size ≤ w'.heap.size
  block : ∀ k, k < w.heap.size → k ∉ S → w'.heap[k]? = w.heap[k]?
theorem Kpt.refl (S : List Nat) (w : World) : Kpt S w w := ⟨rfl, rfl, rfl, Nat.le_refl _, fun _ _ _ => rfl⟩
theorem Kpt.trans {S T : List Nat} {a b c : World} (h : Kpt S a b) (k : Kpt T b c) (hT : ∀ x, x ∈ T → x ∈ S ∨ a.heap.size ≤ x) : Kpt S a c :=
  ⟨k.os.trans h.os, k.tape.trans h.tape, k.output.trans h.output, Nat.le_trans h.size k.size, fun i hi hs => (k.block i (Nat.lt_of_lt_of_le hi h.size) (fun e => by rcases hT i e with h1 | h1; exact hs h1; omega)).trans (h.block i hi hs)⟩
theorem Kpt.of_grown {w w' : World} {r : Option Nat} (h : w.grownBy w' r) : Kpt r.toList w w' :=
  ⟨h.os, h.tape, h.output, h.size, fun k hk hs => h.block k hk (fun e => hs (by rw [← e]; simp))⟩
theorem Kpt.mono {S T : List Nat} {a b : World} (h : Kpt S a b) (hS : ∀ x, x ∈ S → x ∈ T) : Kpt T a b :=
  ⟨h.os, h.tape, h.output, h.size, fun k hk hs => h.block k hk (fun e => hs (hS k e))⟩
theorem Kpt.cell {S : List Nat} {a b : World} (h : Kpt S a b) {p : Addr} {v : Value} (hc : a.cell? p = some v) (hp : p.block ∉ S) : b.cell? p = some v := by
  rw [World.cell?_of_block (h.block p.block (World.block_lt_of_cell? _ _ hc) hp)]; exact hc
theorem Kpt.grow {S : List Nat} {a b c : World} (h : Kpt S a b) (g : b.grownBy c none) : Kpt S a c := h.trans (Kpt.of_grown g) (by simp)
theorem Kpt.new {S : List Nat} {a b c : World} (g : a.grownBy b none) (h : Kpt S b c) (hS : ∀ x, x ∈ S → a.heap.size ≤ x) : a.grownBy c none :=
  ⟨h.os.trans g.os, h.tape.trans g.tape, h.output.trans g.output, Nat.le_trans g.size h.size, fun k hk _ => (h.block k (Nat.lt_of_lt_of_le hk g.size) (fun e => by have := hS k e; omega)).trans (g.block k hk (by simp))⟩
/-- A list: its block, its length, its room. -/
structure Lst where
  a : Option Nat
  n : Nat
  cap : Nat
def Lst.v (x : Lst) : Value := .slice (x.a.map fun g => ⟨g, 0, none⟩) x.n x.cap
def Lst.f (x : Lst) : Value := .slice (x.a.map fun g => ⟨g, 0, none⟩) x.cap x.cap
def blocks (T : List Lst) : List Nat := T.filterMap Lst.a
theorem mem_blocks {T : List Lst} {j g : Nat} {x : Lst} (h : T[j]? = some x) (hg : x.a = some g) : g ∈ blocks T := List.mem_filterMap.2 ⟨x, List.mem_of_getElem? h, hg⟩
/-- No two lie in one block. -/
def Diff (T : List Lst) : Prop := ∀ (i j : Nat) (x y : Lst) (g : Nat), T[i]? = some x → T[j]? = some y → x.a = some g → y.a = some g → i = j
def fcells (T : List Lst) : List Value := T.map Lst.f
theorem fcells_snoc {T : List Lst} {k : Nat} {x : Lst} (h : T[k]? = some x) : fcells (T.take (k + 1)) = fcells (T.take k) ++ [x.f] := by
  rw [List.take_add_one, h]
  simp [fcells]
theorem own_above {w : World} {base : Nat} {e : TypeId} {size n : Nat} {v : Value} {xs : List Value} (h : w.ownsRow base e size v n xs) : ∀ x, v.ownBlock = some x → base ≤ x := by
  obtain ⟨h1, h2⟩ := h
  intro x hx
  rcases h2 with ⟨rfl, _⟩ | ⟨g, cap, cur, rfl, hg0, _⟩
  · simp [Value.ownBlock] at hx
  · simp [Value.ownBlock] at hx; omega
theorem small_len {n : Nat} (h : n ≤ 4294967296) : n ≤ maxLen := by unfold maxLen; omega

end Go.Proofs.Ytogpgldbbegniaa
namespace Go.Proofs.Ytogpgldbbegniaa
open Go.RowKit

/-- Numbers that were handed in. -/
def IntsA (w : World) (v : Value) (os : List Int) : Prop := (v = .slice none 0 0 ∧ os = []) ∨ ∃ ad cap, v = .slice (some ad) os.length cap ∧ ∀ (j : Nat) u, (ints os)[j]? = some u → w.cell? (Addr.add ad j) = some u
theorem IntsA.keep {w w' : World} {v : Value} {os : List Int} (h : IntsA w v os) (g : w.grownBy w' none) : IntsA w' v os := by
  rcases h with h | ⟨ad, cap, e, h⟩
  · exact Or.inl h
  · exact Or.inr ⟨ad, cap, e, fun j u hu => g.cell (h j u hu) (by simp)⟩
theorem IntsA.in {w : World} {v : Value} {os : List Int} (h : IntsA w v os) : IntsIn w v os := by
  rcases h with ⟨rfl, rfl⟩ | ⟨ad, cap, rfl, h⟩
  · exact ⟨none, 0, rfl, fun h => absurd h (by decide)⟩
  · refine ⟨some ad, cap, rfl, fun h0 => ?_⟩
    have c0 := h 0 _ (ints_at os 0 h0)
    have ex : Addr.add ad 0 = ad := by simp [Addr.add]
    rw [ex] at c0
    have pl := addr_plain c0
    refine ⟨ad.block, ad.off, by rw [← pl], fun j x hx => ?_⟩
    have hj := (List.getElem?_eq_some_iff.1 hx).1
    have h9 := h j (.int .i64 x) (by unfold ints; rw [List.getElem?_map, hx]; rfl)
    rw [pl, add_plain] at h9
    exact h9
theorem ints_one (l : List Int) : ∀ u ∈ ints l, u.oneCell' = true := fun u hu => by
  obtain ⟨z, _, rfl⟩ := List.mem_map.1 hu
  rfl
theorem ints_app (a b : List Int) : ints (a ++ b) = ints a ++ ints b := by simp [ints]
theorem m77 {w : World} {g : Nat} (h : w.heap[g]? = some (.cells #[.int .i64 (-77), .int .i64 (-77)] 3 (0, 0))) : ∀ j u, (ints [-77, -77])[j]? = some u → w.cell? ((⟨g, 0, none⟩ : Addr).add j) = some u := fun j u hu => by
  rw [add_plain, Nat.zero_add, block_cell h]
  simpa [ints] using hu
theorem own_two {w : World} {base : Nat} {v : Value} {n : Nat} {xs : List Value} (h : w.ownsRow base 3 1 v (n + 2) xs) : ∃ g c, v = .slice (some ⟨g, 0, none⟩) (n + 2) c := by
  rcases h.2 with ⟨_, h0⟩ | ⟨g, cap, _, rfl, _⟩
  · omega
  · exact ⟨g, cap, rfl⟩
theorem Try.info3i : (Try.prog.info? 3).map (fun i => (i.zero, i.size, i.bytes)) = some (some (.int .i64 0), 1, 8) := by kernel_rfl
end Go.Proofs.Ytogpgldbbegniaa
namespace Go.Proofs.Ytogpgldbbegniaa
open Go.RowKit

/-- A list that is shuffled, in the call's own memory. -/
def ShAt (w wr : World) (g cap : Nat) (cur : List Int) : Prop := wr.ownsRow w.heap.size 3 1 (.slice (some ⟨g, 0, none⟩) cur.length cap) cur.length (ints cur) ∧ w.grownBy wr none
theorem ShAt.cell {w wr : World} {g cap i : Nat} {cur : List Int} (h : ShAt w wr g cap cur) (hi : i < cur.length) : wr.cell? ⟨g, i, none⟩ = some (.int .i64 (cur.getD i 0)) := by
  rw [World.ownsRow.cellAt h.1 i (by omega)]
  exact ints_at cur i hi
theorem ShAt.free {w wr : World} {g cap : Nat} {cur : List Int} (h : ShAt w wr g cap cur) (i : Nat) : wr.frozen? ⟨g, i, none⟩ = false := World.ownsRow.frozenAt h.1 i
theorem ints_set (l : List Int) (i : Nat) (z : Int) : (ints l).set i (.int .i64 z) = ints (l.set i z) := by simp [ints, List.map_set]
theorem rem_place (y : Int) (m : Nat) (h : 0 ≤ y) : ∃ r : Nat, y % ((m : Int) + 1 + 1) = (r : Int) ∧ r < m + 2 ∧ r = y.toNat % (m + 2) := by
  refine ⟨y.toNat % (m + 2), ?_, Nat.mod_lt _ (by omega), rfl⟩
  rw [Int.natCast_emod, Int.toNat_of_nonneg h]
  rfl
theorem own_ge {w : World} {base g n cap : Nat} {xs : List Value} (h : w.ownsRow base 3 1 (.slice (some ⟨g, 0, none⟩) n cap) n xs) : base ≤ g := by
  rcases h.2 with ⟨h', _⟩ | ⟨g', cap', cur, h', hb, _⟩
  · simp at h'
  · simp at h'; omega
theorem ShAt.put {w wr : World} {g cap i : Nat} {cur : List Int} {z : Int} (h : ShAt w wr g cap cur) : ShAt w (wr.setCell ⟨g, i, none⟩ (.int .i64 z)) g cap (cur.set i z) := by
  have := World.ownsRow.stored h.1 i (.int .i64 z)
  rw [ints_set] at this
  refine ⟨by rw [List.length_set]; exact this.1, grown_own h.2 this.2 (fun x e => by cases e; exact own_ge h.1)⟩
/-- The list shuffled, and the generator's state. -/
def shuffled (l : List Int) (s : Int) : List Int × Int := shuf gen (l.length - 1) l s
end Go.Proofs.Ytogpgldbbegniaa
namespace Go.Proofs.Ytogpgldbbegniaa
open Go.RowKit

theorem ints_from {w : World} {g off n cap : Nat} {x : Int} {l : List Int} (h : IntsA w (.slice (some ⟨g, off, none⟩) (n + 1) cap) (x :: l)) (hn : n = l.length) (hc : n + 1 ≤ cap) : IntsA w (.slice (if cap = 1 then some ⟨g, off, none⟩ else some ⟨g, off + 1, none⟩) l.length (cap - 1)) l := by
  rcases h with ⟨h, _⟩ | ⟨ad, c, h, hcell⟩
  · cases h
  · cases h
    by_cases e : cap = 1
    · obtain rfl : l = [] := List.length_eq_zero_iff.1 (by omega)
      rw [if_pos e]
      exact Or.inr ⟨_, _, rfl, fun j u hu => by simp [ints] at hu⟩
    · rw [if_neg e]
      refine Or.inr ⟨_, _, rfl, fun j u hu => ?_⟩
      have := hcell (j + 1) u (by simpa [ints] using hu)
      rw [add_plain] at this ⊢
      rw [show off + 1 + j = off + (j + 1) by omega]
      exact this
end Go.Proofs.Ytogpgldbbegniaa
namespace Go.Proofs.Ytogpgldbbegniaa
open Go.RowKit

theorem ints_upto {w : World} {g off n cap k : Nat} {l : List Int} (h : IntsA w (.slice (some ⟨g, off, none⟩) n cap) l) (hk : k ≤ n) : IntsA w (.slice (some ⟨g, off, none⟩) k cap) (l.take k) := by
  rcases h with ⟨h, _⟩ | ⟨ad, c, h, hcell⟩
  · cases h
  · cases h
    have hl : (l.take k).length = k := by rw [List.length_take]; omega
    refine Or.inr ⟨_, _, by rw [hl], fun j u hu => hcell j u ?_⟩
    have hj : j < k := by have := (List.getElem?_eq_some_iff.1 hu).1; rw [length_ints, hl] at this; exact this
    unfold ints at hu ⊢
    rw [List.getElem?_map, List.getElem?_take, if_pos hj] at hu
    rw [List.getElem?_map]
    exact hu
theorem ints_past {w : World} {g off n cap k : Nat} {l : List Int} (h : IntsA w (.slice (some ⟨g, off, none⟩) n cap) l) (hk : k ≤ n) (hc : n ≤ cap) : IntsA w (.slice (if cap = k then some ⟨g, off, none⟩ else some ⟨g, off + k, none⟩) (n - k) (cap - k)) (l.drop k) := by
  rcases h with ⟨h, _⟩ | ⟨ad, c, h, hcell⟩
  · cases h
  · cases h
    have hl : (l.drop k).length = l.length - k := List.length_drop
    by_cases e : cap = k
    · rw [if_pos e]
      have h0 : l.drop k = [] := List.length_eq_zero_iff.1 (by omega)
      rw [h0]
      exact Or.inr ⟨_, _, by rw [show l.length - k = 0 by omega]; rfl, fun j u hu => by simp [ints] at hu⟩
    · rw [if_neg e]
      refine Or.inr ⟨_, _, by rw [hl], fun j u hu => ?_⟩
      have := hcell (k + j) u (by unfold ints at hu ⊢; rw [List.getElem?_map, List.getElem?_drop] at hu; rw [List.getElem?_map]; exact hu)
      rw [add_plain] at this ⊢
      rw [show off + k + j = off + (k + j) by omega]
      exact this
theorem own_under {w : World} {base n : Nat} {v : Value} {xs : List Value} (h : w.ownsRow base 3 1 v n xs) : ∀ b, v.ownBlock = some b → b < w.heap.size := by
  intro b hb
  rcases h.2 with ⟨e, _⟩ | ⟨g, cap, cur, e, _, hh, _⟩
  · rw [e] at hb; simp [Value.ownBlock] at hb
  · rw [e] at hb; simp [Value.ownBlock] at hb; rw [← hb]; exact block_lt hh
theorem cut_fin {w w1 w2 : World} {u v : Value} {k j : Nat} {xs ys : List Value} (hd : w.grownBy w.drew none) (o1 : w1.ownsRow w.heap.size 3 1 u k xs) (g1 : w.drew.grownBy w1 none) (o2 : w2.ownsRow w1.heap.size 3 1 v j ys) (g2 : w1.grownBy w2 none) : (∃ m, w.heap.size ≤ m ∧ m ≤ w2.heap.size ∧ (∀ b, u.ownBlock = some b → b < m) ∧ w2.ownsRow w.heap.size 3 1 u k xs ∧ w2.ownsRow m 3 1 v j ys) ∧ w.grownBy w2 none :=
  ⟨⟨w1.heap.size, (grown_trans hd g1).size, g2.size, own_under o1, World.ownsRow.kept o1 g2 (Classical.em _), o2⟩, grown_trans (grown_trans hd g1) g2⟩
end Go.Proofs.Ytogpgldbbegniaa
namespace Go.Proofs.Ytogpgldbbegniaa
open Go.RowKit

/-- Numbers that were handed in: where they lie, if there are any. -/
theorem IntsA.src {w : World} {v : Value} {os : List Int} (h : IntsA w v os) : ∃ p c, v = .slice p os.length c ∧ (0 < os.length → ∃ ad, p = some ad ∧ ∀ j u, (ints os)[j]? = some u → w.cell? (Addr.add ad j) = some u) := by
  rcases h with ⟨rfl, rfl⟩ | ⟨ad, cap, rfl, h⟩
  · exact ⟨_, _, rfl, fun h => absurd h (by simp)⟩
  · exact ⟨_, _, rfl, fun _ => ⟨ad, rfl, h⟩⟩
theorem below_grown {w w' : World} (h : Below w.heap.size w w') : w.grownBy w' none := ⟨h.os, h.tape, h.output, h.size, fun k hk _ => h.block k hk⟩
theorem splice_two {α : Type} (Z A B : List α) (k : Nat) (hk : A.length = k) (hZ : Z.length = k + B.length) : splice (splice Z 0 A) k B = A ++ B := by
  subst hk
  have e1 : splice Z 0 A = A ++ Z.drop A.length := by simp [splice]
  rw [e1]
  unfold splice
  rw [List.take_left, List.drop_append]
  have e2 : List.drop (A.length + B.length) A = [] := List.drop_eq_nil_of_le (by omega)
  have e3 : List.drop (A.length + B.length - A.length) (List.drop A.length Z) = [] := List.drop_eq_nil_of_le (by simp; omega)
  rw [e2, e3]
  simp
/-- The new list, made: a block of so many cells. -/
theorem made_block {w V : World} {N : Nat} {xs : List Value} (h : V.ownsRow w.heap.size 3 1 (.slice (some ⟨w.heap.size, 0, none⟩) N N) N xs) : ∃ Z : List Value, Z.length = N ∧ V.heap[w.heap.size]? = some (.cells Z.toArray 3 (0, 0)) := by
  rcases h.2 with ⟨h', _⟩ | ⟨g, cap, cur, h', hb, hh, hn, hm, hs, ht⟩
  · simp at h'
  · simp at h'
    obtain ⟨rfl, rfl⟩ := h'
    exact ⟨cur.toList, by simp [hs], by simpa using hh⟩
theorem block_own {w V : World} {N : Nat} {l : List Int} (h : V.heap[w.heap.size]? = some (.cells (ints l).toArray 3 (0, 0))) (hl : l.length = N) (hN : N ≤ maxLen) : V.ownsRow w.heap.size 3 1 (.slice (some ⟨w.heap.size, 0, none⟩) N N) N (ints l) :=
  ⟨by rw [length_ints, Nat.mul_one, hl], Or.inr ⟨w.heap.size, N, _, rfl, Nat.le_refl _, h, Nat.le_refl _, hN, by simp [length_ints, hl], by simp [← hl, length_ints, List.take_of_length_le]⟩⟩
end Go.Proofs.Ytogpgldbbegniaa
namespace Go.Proofs.Ytogpgldbbegniaa
open Go.RowKit

theorem own_low {w : World} {b b' n : Nat} {v : Value} {xs : List Value} (h : w.ownsRow b' 3 1 v n xs) (hb : b ≤ b') : w.ownsRow b 3 1 v n xs := by
  refine ⟨h.1, ?_⟩
  rcases h.2 with h | ⟨g, cap, cur, e, hg, r⟩
  · exact Or.inl h
  · exact Or.inr ⟨g, cap, cur, e, Nat.le_trans hb hg, r⟩
theorem one_ints {w : World} {g : Nat} {x : Int} (h : w.heap[g]? = some (.cells #[.int .i64 x] 3 (0, 0))) : IntsA w (.slice (some ⟨g, 0, none⟩) 1 1) [x] := Or.inr ⟨_, _, rfl, fun j u hu => by
  rw [add_plain, Nat.zero_add, block_cell h]
  simpa [ints] using hu⟩
end Go.Proofs.Ytogpgldbbegniaa
namespace Go.Proofs.Ytogpgldbbegniaa
open Go.RowKit

def isI (z : Int) : Prop := -9223372036854775808 ≤ z ∧ z < 9223372036854775808
/-- Numbers in a list that may be cut. -/
def IntsB (w : World) (v : Value) (os : List Int) : Prop := (∃ a, v = .slice a 0 0 ∧ os = []) ∨ ∃ g off cap, v = .slice (some ⟨g, off, none⟩) os.length cap ∧ os.length ≤ cap ∧ ∀ (j : Nat) u, (ints os)[j]? = some u → w.cell? ⟨g, off + j, none⟩ = some u
theorem IntsB.a {w : World} {v : Value} {os : List Int} (h : IntsB w v os) : IntsA w v os := by
  rcases h with ⟨a, rfl, rfl⟩ | ⟨g, off, cap, rfl, _, h⟩
  · cases a with
    | none => exact Or.inl ⟨rfl, rfl⟩
    | some ad => exact Or.inr ⟨ad, 0, rfl, fun j u hu => by simp [ints] at hu⟩
  · exact Or.inr ⟨_, _, rfl, fun j u hu => by rw [add_plain]; exact h j u hu⟩
theorem IntsB.keep {w w' : World} {v : Value} {os : List Int} (h : IntsB w v os) (g : w.grownBy w' none) : IntsB w' v os := by
  rcases h with h | ⟨b, off, cap, e, hc, h⟩
  · exact Or.inl h
  · exact Or.inr ⟨b, off, cap, e, hc, fun j u hu => g.cell (h j u hu) (by simp)⟩
theorem IntsB.form {w : World} {v : Value} {l : List Int} (h : IntsB w v l) : ∃ a c, v = .slice a l.length c := by
  rcases h with ⟨a, rfl, rfl⟩ | ⟨g, off, cap, rfl, _, _⟩
  · exact ⟨_, _, rfl⟩
  · exact ⟨_, _, rfl⟩
/-- A list of the call's own may be cut. -/
theorem own_B {w : World} {base n : Nat} {v : Value} {l : List Int} (h : w.ownsRow base 3 1 v n (ints l)) (hn : l.length = n) : IntsB w v l := by
  subst hn
  rcases h.2 with ⟨e, h0⟩ | ⟨g, cap, cur, e, hb, hh, hc, hm, hs, ht⟩
  · exact Or.inl ⟨none, e, List.length_eq_zero_iff.1 h0⟩
  · subst e
    refine Or.inr ⟨g, 0, cap, rfl, hc, fun j u hu => ?_⟩
    have hj := (List.getElem?_eq_some_iff.1 hu).1
    rw [length_ints] at hj
    rw [Nat.zero_add, World.ownsRow.cellAt h j (by omega)]
    exact hu
end Go.Proofs.Ytogpgldbbegniaa
namespace Go.Proofs.Ytogpgldbbegniaa
open Go.RowKit

/-- None of the first k numbers is x. -/
def NonI (l : List Int) (x : Int) (k : Nat) : Prop := ∀ j, j < k → l.getD j 0 ≠ x
/-- x stands at k, and not ahead of it. -/
def FstI (l : List Int) (x : Int) (k : Nat) : Prop := k < l.length ∧ l.getD k 0 = x ∧ NonI l x k
theorem first_of {l : List Int} {x : Int} (h : x ∈ l) : ∃ k, FstI l x k := by
  induction l with
  | nil => simp at h
  | cons a l ih =>
    by_cases e : a = x
    · exact ⟨0, by simp, by simpa using e, fun j hj => by omega⟩
    · obtain ⟨k, h1, h2, h3⟩ := ih (by rcases List.mem_cons.1 h with h | h; exact absurd h.symm e; exact h)
      refine ⟨k + 1, by simpa using h1, by simpa using h2, fun j hj => ?_⟩
      cases j with
      | zero => simpa using e
      | succ j => simpa using h3 j (by omega)
theorem none_of {l : List Int} {x : Int} (h : x ∉ l) : NonI l x l.length := fun j hj e => h (by rw [← e, getD_at l j hj]; exact List.getElem_mem _)
theorem FstI.erase {l : List Int} {x : Int} {k : Nat} (h : FstI l x k) : l.erase x = l.take k ++ l.drop (k + 1) :=
  erase_at l x k h.1 (by rw [← getD_at l k h.1]; exact h.2.1) (fun j hj => by have := h.2.2 j hj; rw [getD_at l j (by have := h.1; omega)] at this; exact this)
theorem FstI.mem {l : List Int} {x : Int} {k : Nat} (h : FstI l x k) : x ∈ l := by rw [← h.2.1, getD_at l k h.1]; exact List.getElem_mem _
theorem NonI.next {l : List Int} {x : Int} {k : Nat} (h : NonI l x k) (hx : l.getD k 0 ≠ x) : NonI l x (k + 1) := fun j hj => by
  rcases (show j < k ∨ j = k from by omega) with h' | rfl
  · exact h j h'
  · exact hx
theorem own_len {w : World} {base n : Nat} {v : Value} {l : List Int} (h : w.ownsRow base 3 1 v n (ints l)) : l.length = n := by
  have := h.1
  rw [length_ints] at this
  omega
/-- The cells of a list that may be cut. -/
def CellsB (w : World) (g off : Nat) (l : List Int) : Prop := ∀ j, j < l.length → w.cell? ⟨g, off + j, none⟩ = some (.int .i64 (l.getD j 0))
theorem cells_of {w : World} {g off : Nat} {l : List Int} (h : ∀ (j : Nat) u, (ints l)[j]? = some u → w.cell? ⟨g, off + j, none⟩ = some u) : CellsB w g off l := fun j hj => h j _ (ints_at l j hj)
theorem CellsB.keep {w w' : World} {g off : Nat} {l : List Int} (h : CellsB w g off l) (k : w.grownBy w' none) : CellsB w' g off l := fun j hj => k.cell (h j hj) (by simp)
theorem CellsB.ints {w : World} {g off cap : Nat} {l : List Int} (h : CellsB w g off l) : IntsA w (.slice (some ⟨g, off, none⟩) l.length cap) l := Or.inr ⟨_, _, rfl, fun j u hu => by
  have hj := (List.getElem?_eq_some_iff.1 hu).1
  rw [length_ints] at hj
  rw [add_plain, h j hj, ← hu, ints_at l j hj]⟩
/-- What Without answers: the list without the first x and true, or nothing and false. -/
def WoPost (w : World) (l : List Int) (x : Int) (e : Ending) (w' : World) : Prop := ∃ u, e = .returned (.tuple #[u, .bool (decide (x ∈ l))]) ∧ (∃ m : List Int, m = (if x ∈ l then l.erase x else []) ∧ w'.ownsRow w.heap.size 3 1 u m.length (ints m)) ∧ w.grownBy w' none
theorem WoPost.yes {w w' : World} {l : List Int} {x : Int} {u : Value} {k n : Nat} (hF : FstI l x k) (ho : w'.ownsRow w.heap.size 3 1 u n (ints (l.take k ++ l.drop (k + 1)))) (hg : w.grownBy w' none) : WoPost w l x (.returned (.tuple #[u, .bool true])) w' :=
  ⟨u, by rw [decide_eq_true hF.mem], ⟨_, rfl, by rw [if_pos hF.mem, hF.erase, own_len ho]; exact ho⟩, hg⟩
theorem WoPost.no {w : World} {l : List Int} {x : Int} (hF : x ∉ l) : WoPost w l x (.returned (.tuple #[.slice none 0 0, .bool false])) w :=
  ⟨_, by rw [decide_eq_false hF], ⟨_, rfl, by rw [if_neg hF]; exact World.ownsRow_nil _ _ _ _⟩, grown_refl _ _⟩
theorem wo_drop {w : World} {base n k K : Nat} {v : Value} {l : List Int} (hK : K = k + 1) (h : w.ownsRow base 3 1 v n (ints (l.take k ++ l.drop K))) : w.ownsRow base 3 1 v n (ints (l.take k ++ l.drop (k + 1))) := by
  subst hK
  exact h
theorem wp_append_at {P : Program} {w : World} {o : Oper} {a : Act} {K : Act → World → Prop} {Q : Exit → Act → World → Prop} (s x : Operand) (t : TypeId)
    (ho : o.op = .call { callee := .builtin .append, args := #[s, x], argTypes := #[t, t] })
    (base : Nat) (e : TypeId) (i : TypeInfo) (z : Value) (size bytes : Nat) (ht : P.underlying t = some (.slice e)) (hi : P.info? e = some i) (hz : i.zero = some z)
    (hsize : i.size = size) (hby : i.bytes = bytes) (hzs : z.cells.size = size) (hsz : 0 < size)
    (v : Value) (n : Nat) (xs : List Value) (hs : a.eval s = v) (hown : w.ownsRow base e size v n xs)
    (ad : Addr) (m c : Nat) (news : List Value) (hx : a.eval x = .slice (some ad) m c) (hl : news.length = m * size) (hnews : ∀ j u, news[j]? = some u → w.cell? (ad.add j) = some u) (h1 : ∀ u ∈ news, u.oneCell' = true)
    (h63 : n + m ≤ maxLen) (hbytes : (n + m) * bytes ≤ 140737488355328) (hbase : base ≤ w.heap.size)
    (h : ∀ v' w', w'.ownsRow base e size v' (n + m) (xs ++ news) → w.grownBy w' v.ownBlock → (v'.ownBlock = v.ownBlock ∨ v'.ownBlock = some w.heap.size) → K (a.put o.dst v') w') : Oper.wp P o a w K Q := by
  obtain ⟨v', w', hr, h2, h3, _, h5⟩ := run_append_own_at (P := P) w base t o.type e i z size bytes ht hi hz hsize hby hzs hsz v n xs hown ad m c news hl hnews h1 h63 hbytes hbase
  unfold Oper.wp execOp
  simp only [ho, resolve, invoke, builtin, Sem.run_bind, Sem.run_pure, Result.andThen_ok, List.map_toArray, List.map_cons, List.map_nil, hs, hx, hr]
  exact h v' w' h2 h3 h5
end Go.Proofs.Ytogpgldbbegniaa
namespace Go.Proofs.Ytogpgldbbegniaa
open Go.RowKit

/-- What Draw answers: the first number, the others in new memory, and true; or 0, nothing and false. -/
def DrPost (w : World) (l : List Int) (e : Ending) (w' : World) : Prop := ∃ u, e = .returned (.tuple #[.int .i64 (l.headD 0), u, .bool (decide (l ≠ []))]) ∧ w'.ownsRow w.heap.size 3 1 u l.tail.length (ints l.tail) ∧ w.grownBy w' none
/-- What Cut answers. -/
def cutP (l : List Int) (k : Int) : List Int × List Int × Int := if 0 ≤ k ∧ k ≤ (l.length : Int) then (l.take k.toNat, l.drop k.toNat, 0) else ([], [], 2)
def CuPost (w : World) (l : List Int) (k : Int) (e : Ending) (w' : World) : Prop := ∃ u v, e = .returned (.tuple #[u, v, .int .i64 (cutP l k).2.2]) ∧ (∃ m, w.heap.size ≤ m ∧ m ≤ w'.heap.size ∧ (∀ b, u.ownBlock = some b → b < m) ∧ w'.ownsRow w.heap.size 3 1 u (cutP l k).1.length (ints (cutP l k).1) ∧ w'.ownsRow m 3 1 v (cutP l k).2.1.length (ints (cutP l k).2.1)) ∧ w.grownBy w' none
theorem CuPost.no {w : World} {l : List Int} {k : Int} (h : ¬ (0 ≤ k ∧ k ≤ (l.length : Int))) : CuPost w l k (.returned (.tuple #[.slice none 0 0, .slice none 0 0, .int .i64 2])) w := by
  unfold CuPost cutP
  rw [if_neg h]
  exact ⟨_, _, rfl, ⟨w.heap.size, Nat.le_refl _, Nat.le_refl _, fun b hb => by simp [Value.ownBlock] at hb, World.ownsRow_nil _ _ _ _, World.ownsRow_nil _ _ _ _⟩, grown_refl _ _⟩
theorem CuPost.yes {w w' : World} {l : List Int} {k : Nat} {u v : Value} {n1 n2 : Nat} (hk : k ≤ l.length) (h : (∃ m, w.heap.size ≤ m ∧ m ≤ w'.heap.size ∧ (∀ b, u.ownBlock = some b → b < m) ∧ w'.ownsRow w.heap.size 3 1 u n1 (ints (l.take k)) ∧ w'.ownsRow m 3 1 v n2 (ints (l.drop k))) ∧ w.grownBy w' none) : CuPost w l (k : Int) (.returned (.tuple #[u, v, .int .i64 0])) w' := by
  unfold CuPost cutP
  rw [if_pos ⟨by omega, by omega⟩]
  obtain ⟨⟨m, h1, h2, h3, h4, h5⟩, hg⟩ := h
  simp only [Int.toNat_natCast]
  exact ⟨_, _, rfl, ⟨m, h1, h2, h3, by rw [own_len h4]; exact h4, by rw [own_len h5]; exact h5⟩, hg⟩
end Go.Proofs.Ytogpgldbbegniaa
namespace Go.Proofs.Ytogpgldbbegniaa
open Go.RowKit

theorem ShAt.drew {w wr : World} {g cap : Nat} {cur : List Int} (h : ShAt w wr g cap cur) : ShAt w wr.drew g cap cur := ⟨h.1, ⟨h.2.os, h.2.tape, h.2.output, h.2.size, h.2.block⟩⟩
end Go.Proofs.Ytogpgldbbegniaa
