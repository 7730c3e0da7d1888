/-
  Memory, as the proofs of this seat see it: what reading and writing one cell of a block does; that a call touches nothing that was there.
  Memory of a log of package start, as the proofs of this seat see it: one block of 259 cells (256 notes, the count, closed, made).
  What the functions of package start answer, one contract a function: New, Note, Close, Closed, over the log's block of YtogpgldbbegniaaGreatMem.
  What List answers of a log (its notes, in memory of its own), and what SameInts answers of two lists: whether they are the same.
  A list of numbers that the call itself grows.
-/
import Derived.Test.YtogpgldbbegniaaGreatRows
import Derived.WalkKit
import Derived.WalkSpells
import Derived.WalkLawsBesides
import Derived.Deep.RegionHeld3
import Derived.BigQuiet
import Derived.Laws.CopyOwn
import Derived.Deep.RegionLaw
import Derived.Deep.QuietTactic
namespace Go.Proofs.YtogpgldbbegniaaGreat.L
open Go.RowKit

theorem wpl_build {P : Program} {w w1 : World} {ops : Array Oper} {rest : List Oper} {o : Oper} {a : Act} {Q : Exit → Act → World → Prop} (hgd : o.guard = none) (t : TypeId) (parts : Array (Nat × Operand))
    (ho : o.op = .build t parts) (vs : Array (Nat × Value)) (hv : (parts.map fun (i, x) => (i, a.eval x)) = vs) (v : Value) (hrun : (Instr.build t vs).run P w = .ok v w1) (h : wpList P ops Q rest (a.put o.dst v) w1) : wpList P ops Q (o :: rest) a w := by
  refine wpList_plain hgd fun K hK => ?_
  unfold Oper.wp
  simp only [execOp, ho, Sem.run_bind, hv, hrun, Result.andThen_ok]
  exact hK _ _ h
theorem wpl_box {P : Program} {w w1 : World} {ops : Array Oper} {rest : List Oper} {o : Oper} {a : Act} {Q : Exit → Act → World → Prop} (hgd : o.guard = none) (t : TypeId) (x : Operand)
    (ho : o.op = .box t x) (y : Value) (hy : a.eval x = y) (v : Value) (hrun : (Instr.box t y).run P w = .ok v w1) (h : wpList P ops Q rest (a.put o.dst v) w1) : wpList P ops Q (o :: rest) a w := by
  refine wpList_plain hgd fun K hK => ?_
  unfold Oper.wp
  simp only [execOp, ho, Sem.run_bind, hy, hrun, Result.andThen_ok]
  exact hK _ _ h

/-- The numbers of a list, as cells. -/
def ints (l : List Int) : List Value := l.map fun z => Value.int .i64 z
theorem length_ints (l : List Int) : (ints l).length = l.length := by simp [ints]
theorem ints_at (l : List Int) (i : Nat) (h : i < l.length) : (ints l)[i]? = some (.int .i64 (l.getD i 0)) := by
  simp [ints, List.getD, List.getElem?_eq_getElem h]
theorem ints_snoc (l : List Int) (n : Int) : ints (l ++ [n]) = ints l ++ [Value.int .i64 n] := by simp [ints]
theorem ints_take (l : List Int) (n : Nat) : ints (l.take n) = (ints l).take n := by simp [ints, List.map_take]

theorem block_cell {w : World} {b : Nat} {cs : Array Value} {t : TypeId} (h : w.heap[b]? = some (.cells cs t (0, 0))) (i : Nat) : w.cell? ⟨b, i, none⟩ = cs[i]? := by simp [World.cell?, h]
theorem block_free {w : World} {b : Nat} {cs : Array Value} {t : TypeId} (h : w.heap[b]? = some (.cells cs t (0, 0))) (i : Nat) : w.frozen? ⟨b, i, none⟩ = false := by simp [World.frozen?, h]
theorem block_set {w : World} {b : Nat} {cs : Array Value} {t : TypeId} (h : w.heap[b]? = some (.cells cs t (0, 0))) (i : Nat) (v : Value) : (w.setCell ⟨b, i, none⟩ v).heap[b]? = some (.cells (cs.setIfInBounds i v) t (0, 0)) := by
  simp [World.setCell, Array.getElem?_modify, h]
theorem block_lt {w : World} {b : Nat} {o : Obj} (h : w.heap[b]? = some o) : b < w.heap.size := (Array.getElem?_eq_some_iff.1 h).1
theorem grown_refl (w : World) (r : Option Nat) : w.grownBy w r := ⟨rfl, rfl, rfl, Nat.le_refl _, fun _ _ _ => rfl⟩
theorem grown_set (w : World) (b i : Nat) (v : Value) : w.grownBy (w.setCell ⟨b, i, none⟩ v) (some b) :=
  ⟨rfl, rfl, rfl, by simp [World.setCell], fun k _ hk => Below.heap_setCell _ _ _ _ (by simpa using hk)⟩
theorem grown_trans {a b c : World} {r : Option Nat} (h : a.grownBy b r) (k : b.grownBy c r) : a.grownBy c r :=
  ⟨k.os.trans h.os, k.tape.trans h.tape, k.output.trans h.output, Nat.le_trans h.size k.size, fun i hi hr => (k.block i (Nat.lt_of_lt_of_le hi h.size) hr).trans (h.block i hi hr)⟩
theorem grown_keep {a b : World} {r : Option Nat} (h : a.grownBy b r) {k : Nat} {o : Obj} (hk : a.heap[k]? = some o) (hr : some k ≠ r) : b.heap[k]? = some o := by
  rw [h.block k (block_lt hk) hr]; exact hk
theorem grown_drewN (w : World) (n : Nat) (r : Option Nat) : w.grownBy (w.drewN n) r := ⟨rfl, rfl, rfl, Nat.le_refl _, fun _ _ _ => rfl⟩

theorem grown_own {a b c : World} {r : Option Nat} (h : a.grownBy b none) (k : b.grownBy c r) (hr : ∀ x, r = some x → a.heap.size ≤ x) : a.grownBy c none :=
  ⟨k.os.trans h.os, k.tape.trans h.tape, k.output.trans h.output, Nat.le_trans h.size k.size, fun i hi _ => (k.block i (Nat.lt_of_lt_of_le hi h.size) (fun e => by have := hr i e.symm; omega)).trans (h.block i hi (by simp))⟩
theorem getD_lt (l : List Int) (k : Nat) (h : k < l.length) : l.getD k 0 = l[k] := by simp [List.getD, h]
theorem ret_int {k : IntKind} {a b : Int} (h : a = b) : Ending.returned (.int k a) = .returned (.int k b) := by rw [h]
theorem grown_below {w w' : World} (h : w.grownBy w' none) : Below w.heap.size w w' := ⟨h.os, h.tape, h.output, h.size, fun k hk => h.block k hk (by simp)⟩
theorem grown_push {a b : World} (h : a.grownBy b none) (o : Obj) : a.grownBy (b.alloc o) none := grown_own (r := none) h (World.grownBy_alloc _ _ _) (by simp)
theorem alloc_at (w : World) (cs : Array Value) (t : TypeId) : (w.alloc (.cells cs t)).heap[w.heap.size]? = some (.cells cs t (0, 0)) := by
  show (w.heap.push _)[w.heap.size]? = _
  rw [Array.getElem?_push_size]

end Go.Proofs.YtogpgldbbegniaaGreat.L
namespace Go.Proofs.YtogpgldbbegniaaGreat.L
open Go.RowKit
/-- A log's block. -/
def logCells (Z : List Int) (n : Nat) (c m : Bool) : Array Value := (ints Z ++ [Value.int .i64 n, Value.bool c, Value.bool m]).toArray
def newCells : Array Value := logCells (List.replicate 256 0) 0 false true
def noCells : Array Value := logCells (List.replicate 256 0) 0 false false

theorem size_logCells (Z : List Int) (n : Nat) (c m : Bool) (h : Z.length = 256) : (logCells Z n c m).size = 259 := by simp [logCells, length_ints, h]
theorem log_note (Z : List Int) (n : Nat) (c m : Bool) (h : Z.length = 256) (i : Nat) (hi : i < 256) : (logCells Z n c m)[i]? = some (.int .i64 (Z.getD i 0)) := by
  simp only [logCells, List.getElem?_toArray]
  rw [List.getElem?_append_left (by rw [length_ints]; omega)]
  exact ints_at Z i (by omega)
theorem log_count (Z : List Int) (n : Nat) (c m : Bool) (h : Z.length = 256) : (logCells Z n c m)[256]? = some (.int .i64 n) := by
  simp only [logCells, List.getElem?_toArray]
  rw [List.getElem?_append_right (by rw [length_ints]; omega)]
  simp [length_ints, h]
theorem log_closed (Z : List Int) (n : Nat) (c m : Bool) (h : Z.length = 256) : (logCells Z n c m)[257]? = some (.bool c) := by
  simp only [logCells, List.getElem?_toArray]
  rw [List.getElem?_append_right (by rw [length_ints]; omega)]
  simp [length_ints, h]
theorem log_made (Z : List Int) (n : Nat) (c m : Bool) (h : Z.length = 256) : (logCells Z n c m)[258]? = some (.bool m) := by
  simp only [logCells, List.getElem?_toArray]
  rw [List.getElem?_append_right (by rw [length_ints]; omega)]
  simp [length_ints, h]
theorem set_note (Z : List Int) (n : Nat) (c m : Bool) (h : Z.length = 256) (i : Nat) (hi : i < 256) (v : Int) : (logCells Z n c m).setIfInBounds i (.int .i64 v) = logCells (Z.set i v) n c m := by
  simp only [logCells, List.setIfInBounds_toArray]
  rw [List.set_append_left _ _ (by rw [length_ints]; omega)]
  simp [ints, List.map_set]
theorem set_count (Z : List Int) (n n' : Nat) (c m : Bool) (h : Z.length = 256) : (logCells Z n c m).setIfInBounds 256 (.int .i64 n') = logCells Z n' c m := by
  simp only [logCells, List.setIfInBounds_toArray]
  rw [List.set_append_right _ _ (by rw [length_ints]; omega)]
  simp [length_ints, h]
theorem set_closed (Z : List Int) (n : Nat) (c c' m : Bool) (h : Z.length = 256) : (logCells Z n c m).setIfInBounds 257 (.bool c') = logCells Z n c' m := by
  simp only [logCells, List.setIfInBounds_toArray]
  rw [List.set_append_right _ _ (by rw [length_ints]; omega)]
  simp [length_ints, h]

theorem take_set_snoc (Z l : List Int) (n : Int) (h1 : l.length < Z.length) (h : Z.take l.length = l) : (Z.set l.length n).take (l ++ [n]).length = l ++ [n] := by
  rw [List.length_append, List.length_singleton, List.take_succ_eq_append_getElem (by simpa using h1)]
  simp [List.take_set_of_le, h]

end Go.Proofs.YtogpgldbbegniaaGreat.L
namespace Go.Proofs.YtogpgldbbegniaaGreat.L
open Go.RowKit

/-- What is no log: nil, or a block that New did not make. -/
def NoLog (w : World) (p : Option Addr) : Prop := p = none ∨ ∃ b, p = some ⟨b, 0, none⟩ ∧ w.cell? ⟨b, 258, none⟩ = some (.bool false)

theorem getD_take (Z l : List Int) (h : Z.take l.length = l) (k : Nat) (hk : k < l.length) : Z.getD k 0 = l.getD k 0 := by
  have e : (Z.take l.length).getD k 0 = l.getD k 0 := by rw [h]
  rw [← e]
  simp [List.getD, hk]
end Go.Proofs.YtogpgldbbegniaaGreat.L
namespace Go.Proofs.YtogpgldbbegniaaGreat.L
open Go.RowKit

def zeros (n : Nat) : Array Value := (ints (List.replicate n 0)).toArray
theorem zeros_eq (n : Nat) : madeCells #[Value.int .i64 0] n = zeros n := by
  apply Array.ext
  · simp [size_madeCells, zeros, length_ints]
  · intro i h1 h2
    simp [madeCells, zeros, ints, Nat.mod_one]
theorem run_make35 (n : Nat) (hn : n ≤ 256) (w : World) : (Instr.makeSlice 22 (.int .i64 n) (.int .i64 n)).run Tryz.prog w = .ok (.slice (some ⟨w.heap.size, 0, none⟩) n n) (w.alloc (.cells (zeros n) 3)) := by
  have h := run_make (P := Tryz.prog) w 22 3 Tryz.t3 (.int .i64 0) Tryz.underlying22 (by kernel_rfl) (by kernel_rfl) .i64 .i64 n n (by omega) (by omega) (by show ((8 : Nat) : Int) * n ≤ _; omega) (by omega)
  rw [h]
  show Result.ok (Value.slice (some ⟨w.heap.size, 0, none⟩) n n) (w.alloc (Obj.cells (madeCells #[Value.int .i64 0] (n * 1)) 3)) = _
  rw [Nat.mul_one, zeros_eq]
/-- A slice that reads as the numbers l. -/
def IntsAt (w : World) (v : Value) (l : List Int) : Prop := ∃ p cap, v = .slice p l.length cap ∧ l.length ≤ maxLen ∧ (0 < l.length → ∃ g off, p = some ⟨g, off, none⟩ ∧ ∀ j, j < l.length → w.cell? ⟨g, off + j, none⟩ = some (.int .i64 (l.getD j 0)))
theorem ret_false {p : Prop} [Decidable p] (h : ¬ p) : Ending.returned (.bool false) = .returned (.bool (decide p)) := by simp [h]
theorem ret_true {p : Prop} [Decidable p] (h : p) : Ending.returned (.bool true) = .returned (.bool (decide p)) := by simp [h]
theorem ext_getD (l r : List Int) (hl : l.length = r.length) (h : ∀ j, j < l.length → l.getD j 0 = r.getD j 0) : l = r := by
  apply List.ext_getElem hl
  intro j h1 h2
  have := h j h1
  rwa [getD_lt _ _ h1, getD_lt _ _ h2] at this
set_option maxHeartbeats 400000 in
theorem same_len (p q : Option Addr) (n m c d : Nat) (w : World) (h : n ≠ m) : Calls Tryz.prog 31 #[.slice p n c, .slice q m d] w fun e w' => e = .returned (.bool false) ∧ w' = w := by
  have hb : ((n : Int) == (m : Int)) = false := by simpa using (show ¬ ((n : Int) = m) by omega)
  go_enter Tryz.func31, Tryz.ntmps31
  go_wp2
  go_ret
  exact ⟨rfl, rfl⟩
set_option maxHeartbeats 400000 in
theorem same_nil (p q : Option Addr) (c d : Nat) (w : World) : Calls Tryz.prog 31 #[.slice p 0 c, .slice q 0 d] w fun e w' => e = .returned (.bool true) ∧ w' = w := by
  go_enter Tryz.func31, Tryz.ntmps31
  go_wp2
  go_loop [5] (fun i => i = .int .i64 0) (fun _ => 0)
  case atStart => rfl
  case round =>
    subst hrel
    go_wp2
    go_ret
    exact ⟨rfl, rfl⟩
set_option maxHeartbeats 400000 in
theorem same_run (l r : List Int) (g off c g' off' c' : Nat) (w : World) (hl : l.length = r.length) (hm : l.length ≤ maxLen)
    (ha : ∀ j, j < l.length → w.cell? ⟨g, off + j, none⟩ = some (.int .i64 (l.getD j 0))) (hb : ∀ j, j < l.length → w.cell? ⟨g', off' + j, none⟩ = some (.int .i64 (r.getD j 0))) :
    Calls Tryz.prog 31 #[.slice (some ⟨g, off, none⟩) l.length c, .slice (some ⟨g', off', none⟩) l.length c'] w fun e w' => e = .returned (.bool (decide (l = r))) ∧ ∃ n, w' = w.drewN n := by
  unfold maxLen at hm
  have HL : Hid (l.length = r.length) := hl
  clear hl
  go_enter Tryz.func31, Tryz.ntmps31
  go_wp2
  go_loopw [5] (fun i wr => ∃ k n : Nat, k ≤ l.length ∧ i = .int .i64 k ∧ wr = w.drewN n ∧ ∀ j, j < k → l.getD j 0 = r.getD j 0) (fun i _ => l.length - (intOf i).toNat)
  case atStart => exact ⟨0, 0, Nat.zero_le _, rfl, rfl, fun j hj => absurd hj (Nat.not_lt_zero _)⟩
  case round =>
    obtain ⟨k, n, hk, rfl, rfl, hall⟩ := hrel
    have HA : Hid (∀ j, j < k → l.getD j 0 = r.getD j 0) := hall
    clear hall
    by_cases hlt : k < l.length
    · have ck := ha k hlt
      have dk := hb k hlt
      clear ha hb
      generalize hv : l.getD k 0 = v at *
      generalize hu : r.getD k 0 = u at *
      have HV : Hid (l.getD k 0 = v) := hv
      have HU : Hid (r.getD k 0 = u) := hu
      clear hv hu
      by_cases he : v = u
      · have hb : (v == u) = true := by simpa using he
        have HE : Hid (v = u) := he
        clear he
        go_wp2
        go_quiet (fail)
        go_wp2
        go_roundw
        case rel =>
          refine ⟨k + 1, n + nq, by omega, by go_num, rfl, fun j hj => ?_⟩
          by_cases ej : j = k
          · subst ej; rw [HV.out, HU.out]; exact HE.out
          · exact HA.out j (by omega)
        case measure => simp [intOf]; omega
      · have hb : (v == u) = false := by simpa using he
        have HE : Hid (¬ v = u) := he
        clear he
        go_wp2
        go_quiet (fail)
        go_wp2
        go_ret
        exact ⟨ret_false (fun e => HE.out (by rw [← HV.out, ← HU.out, e])), n + nq, by simp [World.drewN, Nat.add_assoc]⟩
    · clear ha hb
      go_wp2
      go_ret
      exact ⟨ret_true (ext_getD l r HL.out (fun j hj => HA.out j (by omega))), _, rfl⟩

theorem same_ints (a b : Value) (l r : List Int) (w : World) (ha : IntsAt w a l) (hb : IntsAt w b r) : Calls Tryz.prog 31 #[a, b] w fun e w' => e = .returned (.bool (decide (l = r))) ∧ ∃ n, w' = w.drewN n := by
  obtain ⟨p, c, rfl, hm, hp⟩ := ha
  obtain ⟨q, d, rfl, hm', hq⟩ := hb
  by_cases hl : l.length = r.length
  · by_cases h0 : l.length = 0
    · have e1 : l = [] := List.eq_nil_of_length_eq_zero h0
      have e2 : r = [] := List.eq_nil_of_length_eq_zero (by omega)
      subst e1; subst e2
      refine (same_nil p q c d w).mono ?_
      rintro e w' ⟨rfl, rfl⟩
      exact ⟨rfl, 0, rfl⟩
    · obtain ⟨g, off, rfl, ca⟩ := hp (by omega)
      obtain ⟨g', off', rfl, cb⟩ := hq (by omega)
      rw [← hl]
      exact same_run l r g off c g' off' d w hl hm ca (fun j hj => cb j (by omega))
  · refine (same_len p q _ _ c d w hl).mono ?_
    rintro e w' ⟨rfl, rfl⟩
    exact ⟨ret_false (fun e => hl (by rw [e])), 0, rfl⟩
theorem IntsAt.block {w : World} {g cap : Nat} {cs : Array Value} {t : TypeId} {l : List Int} (h : w.heap[g]? = some (.cells cs t (0, 0))) (hl : l.length ≤ maxLen) (hc : ∀ j, j < l.length → cs[j]? = some (.int .i64 (l.getD j 0))) : IntsAt w (.slice (some ⟨g, 0, none⟩) l.length cap) l :=
  ⟨_, cap, rfl, hl, fun _ => ⟨g, 0, rfl, fun j hj => by rw [Nat.zero_add, block_cell h]; exact hc j hj⟩⟩
theorem IntsAt.whole {w : World} {g cap : Nat} {t : TypeId} {l : List Int} (h : w.heap[g]? = some (.cells (ints l).toArray t (0, 0))) (hl : l.length ≤ maxLen) : IntsAt w (.slice (some ⟨g, 0, none⟩) l.length cap) l :=
  IntsAt.block h hl (fun j hj => by simpa using ints_at l j hj)
theorem small_maxLen {n : Nat} (h : n ≤ 4294967296) : n ≤ maxLen := by unfold maxLen; omega
theorem IntsAt.keep {w w' : World} {v : Value} {l : List Int} {r : Option Nat} (h : IntsAt w v l) (hg : w.grownBy w' r) (hr : ∀ x, r = some x → v.ownBlock ≠ some x) : IntsAt w' v l := by
  obtain ⟨p, cap, rfl, hm, hp⟩ := h
  refine ⟨p, cap, rfl, hm, fun h0 => ?_⟩
  obtain ⟨g, off, rfl, hc⟩ := hp h0
  exact ⟨g, off, rfl, fun j hj => hg.cell (hc j hj) (fun e => hr g e.symm rfl)⟩
theorem IntsAt.lit (w : World) (l : List Int) (hl : l.length ≤ 4294967296) : IntsAt (w.alloc (.cells (ints l).toArray 3)) (.slice (some ⟨w.heap.size, 0, none⟩) l.length l.length) l :=
  IntsAt.whole (by show (w.heap.push _)[w.heap.size]? = _; rw [Array.getElem?_push_size]) (small_maxLen hl)

end Go.Proofs.YtogpgldbbegniaaGreat.L
namespace Go.Proofs.YtogpgldbbegniaaGreat.L
open Go.RowKit

/-- A list that the call itself grows: v owns the numbers l, in a block from base on. -/
def Own (w : World) (base : Nat) (v : Value) (l : List Int) : Prop := w.ownsRow base 3 1 v l.length (ints l)
theorem Own.nil (w : World) (base : Nat) : Own w base (.slice none 0 0) [] := ⟨rfl, Or.inl ⟨rfl, rfl⟩⟩
theorem Own.keep {w w' : World} {base : Nat} {v : Value} {l : List Int} {r : Option Nat} (h : Own w base v l) (hg : w.grownBy w' r) (hr : ∀ x, r = some x → x < base) : Own w' base v l := by
  obtain ⟨h1, h2⟩ := h
  refine ⟨h1, ?_⟩
  rcases h2 with h2 | ⟨g, cap, cur, hv, hg0, hh, rest⟩
  · exact Or.inl h2
  · exact Or.inr ⟨g, cap, cur, hv, hg0, grown_keep hg hh (fun e => by have := hr g e.symm; omega), rest⟩
theorem Own.ints {w : World} {base : Nat} {v : Value} {l : List Int} (h : Own w base v l) : IntsAt w v l := by
  obtain ⟨h1, h2⟩ := h
  rcases h2 with ⟨rfl, h0⟩ | ⟨g, cap, cur, rfl, hg0, hh, hn, hm, hs, ht⟩
  · have : l = [] := List.eq_nil_of_length_eq_zero h0
    subst this
    exact ⟨none, 0, rfl, Nat.zero_le _, fun h => absurd h (by simp)⟩
  · refine ⟨_, cap, rfl, Nat.le_trans hn hm, fun h => ⟨g, 0, rfl, fun j hj => ?_⟩⟩
    rw [Nat.zero_add, block_cell hh, ← ints_at l j hj, ← ht, List.getElem?_take, if_pos (by omega)]
    simp
theorem Own.form {w : World} {base : Nat} {v : Value} {l : List Int} (h : Own w base v l) : ∃ p cap, v = .slice p l.length cap := by
  obtain ⟨p, cap, e, _⟩ := h.ints
  exact ⟨p, cap, e⟩
theorem Own.block {w : World} {base : Nat} {v : Value} {l : List Int} (h : Own w base v l) : ∀ k, v.ownBlock = some k → base ≤ k := by
  intro k hk
  obtain ⟨h1, h2⟩ := h
  rcases h2 with ⟨rfl, h0⟩ | ⟨g, cap, cur, rfl, hg0, _⟩
  · simp [Value.ownBlock] at hk
  · simp [Value.ownBlock] at hk; omega
theorem Tryz.info3' : (Tryz.prog.info? 3).map (fun i => (i.zero, i.size, i.bytes)) = some (some (.int .i64 0), 1, 8) := by kernel_rfl

end Go.Proofs.YtogpgldbbegniaaGreat.L
