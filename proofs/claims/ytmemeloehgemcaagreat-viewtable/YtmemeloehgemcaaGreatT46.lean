/-
  Memory, as the proofs of this seat see it: what reading and writing one cell of a block does; that a call touches nothing that was there.
  Memory of a log of package start, as the proofs of this seat see it: one block of 259 cells (256 notes, the count, closed, made).
  What the functions of package start answer, one contract a function: New, Note, Close, Closed, over the log's block of YtmemeloehgemcaaGreatMem.
  What List answers of a log (its notes, in memory of its own), and what SameInts answers of two lists: whether they are the same.
  A list of numbers that the call itself grows.
  Piles, plainly: lists of numbers, exchanged, shuffled by a stream of places, dealt; what changes is the order alone.
  The generator's next number: of the program and of the document.
  ApartParts of lists that lie in blocks of their own answers true: each place holds what was written there.
  Memory, as lists of numbers see it, in a seat that has cards too: what the card texts tell already, and lists of numbers.
  LentInts, CopyInts, KeptInts: a list of numbers lent, copied, as it was.
  A list in memory of its own; the document's Shuffle.
  Lists of numbers where they can be cut: nothing at all, or a plain place with room.
  ViewPlain: printed ones, Raises, the layers' order.
  ViewTable, helpers: numbers that are made, exchanged, and read; what Of and Steps tell of a turned table.
-/
import Derived.Test.YtmemeloehgemcaaGreatRows
import Derived.WalkKit
import Derived.WalkSpells
import Derived.WalkLawsBesides
import Derived.Deep.RegionHeld3
import Derived.BigQuiet
import Derived.Laws.CopyOwn
import Derived.Deep.RegionLaw
import Derived.Deep.QuietTactic
import Derived.Test.YtmemeloehgemcaaGreatT0
import Derived.Laws.Bits64
import Derived.Test.YtmemeloehgemcaaGreatT25
import Derived.Deep.AppendLies
import Derived.Maps.RangeWalk
import Derived.Laws.MakeOwn
import Derived.Laws.AppendOwnNone
import Derived.Laws.OwnMore
import Derived.OwnWalk
import Derived.Maps.AppendAt
import Derived.Test.YtmemeloehgemcaaGreatT44
import Derived.Test.YtmemeloehgemcaaGreatVtA
import Derived.Test.YtmemeloehgemcaaGreatT34
namespace Go.Proofs.YtmemeloehgemcaaGreat.L
open Go.RowKit

theorem wpl_build {P : Program} {w w1 : World} {ops : Array Oper} {rest : List Oper} {o : Oper} {a : Act} {Q : Exit → Act → World → Prop} (hgd : o.guard = none) (t : TypeId) (parts : Array (Nat × Operand))
    (ho : o.op = .build t parts) (vs : Array (Nat × Value)) (hv : (parts.map fun (i, x) => (i, a.eval x)) = vs) (v : Value) (hrun : (Instr.build t vs).run P w = .ok v w1) (h : wpList P ops Q rest (a.put o.dst v) w1) : wpList P ops Q (o :: rest) a w := by
  refine wpList_plain hgd fun K hK => ?_
  unfold Oper.wp
  simp only [execOp, ho, Sem.run_bind, hv, hrun, Result.andThen_ok]
  exact hK _ _ h
theorem wpl_box {P : Program} {w w1 : World} {ops : Array Oper} {rest : List Oper} {o : Oper} {a : Act} {Q : Exit → Act → World → Prop} (hgd : o.guard = none) (t : TypeId) (x : Operand)
    (ho : o.op = .box t x) (y : Value) (hy : a.eval x = y) (v : Value) (hrun : (Instr.box t y).run P w = .ok v w1) (h : wpList P ops Q rest (a.put o.dst v) w1) : wpList P ops Q (o :: rest) a w := by
  refine wpList_plain hgd fun K hK => ?_
  unfold Oper.wp
  simp only [execOp, ho, Sem.run_bind, hy, hrun, Result.andThen_ok]
  exact hK _ _ h

def ints (l : List Int) : List Value := l.map fun z => Value.int .i64 z
theorem length_ints (l : List Int) : (ints l).length = l.length := by simp [ints]
theorem ints_at (l : List Int) (i : Nat) (h : i < l.length) : (ints l)[i]? = some (.int .i64 (l.getD i 0)) := by
  simp [ints, List.getD, List.getElem?_eq_getElem h]
theorem block_cell {w : World} {b : Nat} {cs : Array Value} {t : TypeId} (h : w.heap[b]? = some (.cells cs t (0, 0))) (i : Nat) : w.cell? ⟨b, i, none⟩ = cs[i]? := by simp [World.cell?, h]
theorem block_free {w : World} {b : Nat} {cs : Array Value} {t : TypeId} (h : w.heap[b]? = some (.cells cs t (0, 0))) (i : Nat) : w.frozen? ⟨b, i, none⟩ = false := by simp [World.frozen?, h]
theorem block_set {w : World} {b : Nat} {cs : Array Value} {t : TypeId} (h : w.heap[b]? = some (.cells cs t (0, 0))) (i : Nat) (v : Value) : (w.setCell ⟨b, i, none⟩ v).heap[b]? = some (.cells (cs.setIfInBounds i v) t (0, 0)) := by
  simp [World.setCell, Array.getElem?_modify, h]
theorem block_lt {w : World} {b : Nat} {o : Obj} (h : w.heap[b]? = some o) : b < w.heap.size := (Array.getElem?_eq_some_iff.1 h).1
theorem grown_refl (w : World) (r : Option Nat) : w.grownBy w r := ⟨rfl, rfl, rfl, Nat.le_refl _, fun _ _ _ => rfl⟩
theorem grown_set (w : World) (b i : Nat) (v : Value) : w.grownBy (w.setCell ⟨b, i, none⟩ v) (some b) :=
  ⟨rfl, rfl, rfl, by simp [World.setCell], fun k _ hk => Below.heap_setCell _ _ _ _ (by simpa using hk)⟩
theorem grown_trans {a b c : World} {r : Option Nat} (h : a.grownBy b r) (k : b.grownBy c r) : a.grownBy c r :=
  ⟨k.os.trans h.os, k.tape.trans h.tape, k.output.trans h.output, Nat.le_trans h.size k.size, fun i hi hr => (k.block i (Nat.lt_of_lt_of_le hi h.size) hr).trans (h.block i hi hr)⟩
theorem grown_keep {a b : World} {r : Option Nat} (h : a.grownBy b r) {k : Nat} {o : Obj} (hk : a.heap[k]? = some o) (hr : some k ≠ r) : b.heap[k]? = some o := by
  rw [h.block k (block_lt hk) hr]; exact hk
theorem grown_drewN (w : World) (n : Nat) (r : Option Nat) : w.grownBy (w.drewN n) r := ⟨rfl, rfl, rfl, Nat.le_refl _, fun _ _ _ => rfl⟩

theorem grown_own {a b c : World} {r : Option Nat} (h : a.grownBy b none) (k : b.grownBy c r) (hr : ∀ x, r = some x → a.heap.size ≤ x) : a.grownBy c none :=
  ⟨k.os.trans h.os, k.tape.trans h.tape, k.output.trans h.output, Nat.le_trans h.size k.size, fun i hi _ => (k.block i (Nat.lt_of_lt_of_le hi h.size) (fun e => by have := hr i e.symm; omega)).trans (h.block i hi (by simp))⟩
theorem ret_int {k : IntKind} {a b : Int} (h : a = b) : Ending.returned (.int k a) = .returned (.int k b) := by rw [h]
theorem grown_below {w w' : World} (h : w.grownBy w' none) : Below w.heap.size w w' := ⟨h.os, h.tape, h.output, h.size, fun k hk => h.block k hk (by simp)⟩
theorem grown_push {a b : World} (h : a.grownBy b none) (o : Obj) : a.grownBy (b.alloc o) none := grown_own (r := none) h (World.grownBy_alloc _ _ _) (by simp)
theorem alloc_at (w : World) (cs : Array Value) (t : TypeId) : (w.alloc (.cells cs t)).heap[w.heap.size]? = some (.cells cs t (0, 0)) := by
  show (w.heap.push _)[w.heap.size]? = _
  rw [Array.getElem?_push_size]

end Go.Proofs.YtmemeloehgemcaaGreat.L
namespace Go.Proofs.YtmemeloehgemcaaGreat.L
open Go.RowKit
end Go.Proofs.YtmemeloehgemcaaGreat.L
namespace Go.Proofs.YtmemeloehgemcaaGreat.L
open Go.RowKit

end Go.Proofs.YtmemeloehgemcaaGreat.L
namespace Go.Proofs.YtmemeloehgemcaaGreat.L
open Go.RowKit

def IntsAt (w : World) (v : Value) (l : List Int) : Prop := ∃ p cap, v = .slice p l.length cap ∧ l.length ≤ maxLen ∧ (0 < l.length → ∃ g off, p = some ⟨g, off, none⟩ ∧ ∀ j, j < l.length → w.cell? ⟨g, off + j, none⟩ = some (.int .i64 (l.getD j 0)))
theorem IntsAt.block {w : World} {g cap : Nat} {cs : Array Value} {t : TypeId} {l : List Int} (h : w.heap[g]? = some (.cells cs t (0, 0))) (hl : l.length ≤ maxLen) (hc : ∀ j, j < l.length → cs[j]? = some (.int .i64 (l.getD j 0))) : IntsAt w (.slice (some ⟨g, 0, none⟩) l.length cap) l :=
  ⟨_, cap, rfl, hl, fun _ => ⟨g, 0, rfl, fun j hj => by rw [Nat.zero_add, block_cell h]; exact hc j hj⟩⟩
theorem IntsAt.whole {w : World} {g cap : Nat} {t : TypeId} {l : List Int} (h : w.heap[g]? = some (.cells (ints l).toArray t (0, 0))) (hl : l.length ≤ maxLen) : IntsAt w (.slice (some ⟨g, 0, none⟩) l.length cap) l :=
  IntsAt.block h hl (fun j hj => by simpa using ints_at l j hj)
theorem IntsAt.keep {w w' : World} {v : Value} {l : List Int} {r : Option Nat} (h : IntsAt w v l) (hg : w.grownBy w' r) (hr : ∀ x, r = some x → v.ownBlock ≠ some x) : IntsAt w' v l := by
  obtain ⟨p, cap, rfl, hm, hp⟩ := h
  refine ⟨p, cap, rfl, hm, fun h0 => ?_⟩
  obtain ⟨g, off, rfl, hc⟩ := hp h0
  exact ⟨g, off, rfl, fun j hj => hg.cell (hc j hj) (fun e => hr g e.symm rfl)⟩
end Go.Proofs.YtmemeloehgemcaaGreat.L
namespace Go.Proofs.YtmemeloehgemcaaGreat.L
open Go.RowKit

def Own (w : World) (base : Nat) (v : Value) (l : List Int) : Prop := w.ownsRow base 3 1 v l.length (ints l)
theorem Own.nil (w : World) (base : Nat) : Own w base (.slice none 0 0) [] := ⟨rfl, Or.inl ⟨rfl, rfl⟩⟩
theorem Own.keep {w w' : World} {base : Nat} {v : Value} {l : List Int} {r : Option Nat} (h : Own w base v l) (hg : w.grownBy w' r) (hr : ∀ x, r = some x → x < base) : Own w' base v l := by
  obtain ⟨h1, h2⟩ := h
  refine ⟨h1, ?_⟩
  rcases h2 with h2 | ⟨g, cap, cur, hv, hg0, hh, rest⟩
  · exact Or.inl h2
  · exact Or.inr ⟨g, cap, cur, hv, hg0, grown_keep hg hh (fun e => by have := hr g e.symm; omega), rest⟩
theorem Own.ints {w : World} {base : Nat} {v : Value} {l : List Int} (h : Own w base v l) : IntsAt w v l := by
  obtain ⟨h1, h2⟩ := h
  rcases h2 with ⟨rfl, h0⟩ | ⟨g, cap, cur, rfl, hg0, hh, hn, hm, hs, ht⟩
  · have : l = [] := List.eq_nil_of_length_eq_zero h0
    subst this
    exact ⟨none, 0, rfl, Nat.zero_le _, fun h => absurd h (by simp)⟩
  · refine ⟨_, cap, rfl, Nat.le_trans hn hm, fun h => ⟨g, 0, rfl, fun j hj => ?_⟩⟩
    rw [Nat.zero_add, block_cell hh, ← ints_at l j hj, ← ht, List.getElem?_take, if_pos (by omega)]
    simp
theorem Own.form {w : World} {base : Nat} {v : Value} {l : List Int} (h : Own w base v l) : ∃ p cap, v = .slice p l.length cap := by
  obtain ⟨p, cap, e, _⟩ := h.ints
  exact ⟨p, cap, e⟩
theorem Own.block {w : World} {base : Nat} {v : Value} {l : List Int} (h : Own w base v l) : ∀ k, v.ownBlock = some k → base ≤ k := by
  intro k hk
  obtain ⟨h1, h2⟩ := h
  rcases h2 with ⟨rfl, h0⟩ | ⟨g, cap, cur, rfl, hg0, _⟩
  · simp [Value.ownBlock] at hk
  · simp [Value.ownBlock] at hk; omega
end Go.Proofs.YtmemeloehgemcaaGreat.L
namespace Go.Proofs.YtmemeloehgemcaaGreat

def places (n : Nat) : List Int := (List.range n).map fun (i : Nat) => (i : Int)
end Go.Proofs.YtmemeloehgemcaaGreat
namespace Go.Proofs.YtmemeloehgemcaaGreat
open Go.RowKit

def stp (s : Int) : Int := IntKind.u64.wrap (s + 11400714819323198485)
def mxA (z : Int) : Int := IntKind.u64.wrap (bits .xor .u64 z (z / 1073741824) * 13787848793156543929)
def mxB (z : Int) : Int := IntKind.u64.wrap (bits .xor .u64 z (z / 134217728) * 10723151780598845931)
def nx (s : Int) : Int := bits .xor .u64 (mxB (mxA (stp s))) (mxB (mxA (stp s)) / 2147483648)
end Go.Proofs.YtmemeloehgemcaaGreat
namespace Go.Proofs.YtmemeloehgemcaaGreat
open Go.RowKit

end Go.Proofs.YtmemeloehgemcaaGreat
namespace Go.Proofs.YtmemeloehgemcaaGreat
open Go.RowKit

def IntsIn (w : World) (v : Value) (os : List Int) : Prop := ∃ a k, v = .slice a os.length k ∧ (0 < os.length → ∃ g o, a = some ⟨g, o, none⟩ ∧ ∀ (j : Nat) x, os[j]? = some x → w.cell? ⟨g, o + j, none⟩ = some (.int .i64 x))
end Go.Proofs.YtmemeloehgemcaaGreat
namespace Go.Proofs.YtmemeloehgemcaaGreat
open Go.RowKit

def IntsA (w : World) (v : Value) (os : List Int) : Prop := (v = .slice none 0 0 ∧ os = []) ∨ ∃ ad cap, v = .slice (some ad) os.length cap ∧ ∀ (j : Nat) u, (ints os)[j]? = some u → w.cell? (Addr.add ad j) = some u
theorem IntsA.keep {w w' : World} {v : Value} {os : List Int} (h : IntsA w v os) (g : w.grownBy w' none) : IntsA w' v os := by
  rcases h with h | ⟨ad, cap, e, h⟩
  · exact Or.inl h
  · exact Or.inr ⟨ad, cap, e, fun j u hu => g.cell (h j u hu) (by simp)⟩
theorem IntsA.in {w : World} {v : Value} {os : List Int} (h : IntsA w v os) : IntsIn w v os := by
  rcases h with ⟨rfl, rfl⟩ | ⟨ad, cap, rfl, h⟩
  · exact ⟨none, 0, rfl, fun h => absurd h (by decide)⟩
  · refine ⟨some ad, cap, rfl, fun h0 => ?_⟩
    have c0 := h 0 _ (ints_at os 0 h0)
    have ex : Addr.add ad 0 = ad := by simp [Addr.add]
    rw [ex] at c0
    have pl := addr_plain c0
    refine ⟨ad.block, ad.off, by rw [← pl], fun j x hx => ?_⟩
    have hj := (List.getElem?_eq_some_iff.1 hx).1
    have h9 := h j (.int .i64 x) (by unfold ints; rw [List.getElem?_map, hx]; rfl)
    rw [pl, add_plain] at h9
    exact h9
end Go.Proofs.YtmemeloehgemcaaGreat
namespace Go.Proofs.YtmemeloehgemcaaGreat
open Go.RowKit

end Go.Proofs.YtmemeloehgemcaaGreat
namespace Go.Proofs.YtmemeloehgemcaaGreat
open Go.RowKit

def IntsB (w : World) (v : Value) (os : List Int) : Prop := (∃ a, v = .slice a 0 0 ∧ os = []) ∨ ∃ g off cap, v = .slice (some ⟨g, off, none⟩) os.length cap ∧ os.length ≤ cap ∧ ∀ (j : Nat) u, (ints os)[j]? = some u → w.cell? ⟨g, off + j, none⟩ = some u
theorem IntsB.a {w : World} {v : Value} {os : List Int} (h : IntsB w v os) : IntsA w v os := by
  rcases h with ⟨a, rfl, rfl⟩ | ⟨g, off, cap, rfl, _, h⟩
  · cases a with
    | none => exact Or.inl ⟨rfl, rfl⟩
    | some ad => exact Or.inr ⟨ad, 0, rfl, fun j u hu => by simp [ints] at hu⟩
  · exact Or.inr ⟨_, _, rfl, fun j u hu => by rw [add_plain]; exact h j u hu⟩
theorem IntsB.keep {w w' : World} {v : Value} {os : List Int} (h : IntsB w v os) (g : w.grownBy w' none) : IntsB w' v os := by
  rcases h with h | ⟨b, off, cap, e, hc, h⟩
  · exact Or.inl h
  · exact Or.inr ⟨b, off, cap, e, hc, fun j u hu => g.cell (h j u hu) (by simp)⟩
theorem IntsB.form {w : World} {v : Value} {l : List Int} (h : IntsB w v l) : ∃ a c, v = .slice a l.length c := by
  rcases h with ⟨a, rfl, rfl⟩ | ⟨g, off, cap, rfl, _, _⟩
  · exact ⟨_, _, rfl⟩
  · exact ⟨_, _, rfl⟩
end Go.Proofs.YtmemeloehgemcaaGreat
namespace Go.Proofs.YtmemeloehgemcaaGreat
open Go.RowKit Go.Shelf

theorem sd_next {w : World} {g off n c : Nat} {X : List Sd} (h : sdR.At w (.slice (some ⟨g, off, none⟩) n c) X) {i : Nat} (hi : i < X.length) : w.rangeAt g (off + i * 10) (sdc X[i]) := by
  obtain ⟨g', off', cap, e, r⟩ := sd_there h hi
  injection e with e1 _ _
  injection e1 with e1
  injection e1 with ea eb
  rw [ea, eb]
  exact r
end Go.Proofs.YtmemeloehgemcaaGreat
namespace Go.Proofs.YtmemeloehgemcaaGreat
open Go.RowKit Go.Shelf

def nats (A : List Nat) : List Int := A.map fun (a : Nat) => (a : Int)
theorem nats_len (A : List Nat) : (nats A).length = A.length := List.length_map _
theorem nats_at {A : List Nat} {i a : Nat} (h : A[i]? = some a) : (nats A)[i]? = some (a : Int) := by
  unfold nats
  rw [List.getElem?_map, h]
  rfl
theorem nats_set (A : List Nat) (i a : Nat) : (nats A).set i (a : Int) = nats (A.set i a) := by
  unfold nats
  rw [List.map_set]
def NmL (w : World) (d n : Nat) (l : List Int) : Prop := w.ownsRow d 3 1 (.slice (some ⟨d, 0, none⟩) n n) n (ints l)
theorem nml_made {w : World} {d n : Nat} (h : w.ownsRow d 3 1 (.slice (some ⟨d, 0, none⟩) n n) n (madeCells (Value.int .i64 0).cells (n * 1)).toList) : NmL w d n (nats (List.replicate n 0)) := by
  unfold NmL nats ints
  rw [List.map_replicate, List.map_replicate]
  rw [Nat.mul_one] at h
  rw [← toList_madeCells_one]
  exact h
theorem NmL.grow {w w' : World} {d n : Nat} {l : List Int} (h : NmL w d n l) (g : w.grownBy w' none) : NmL w' d n l := own_grow h g
theorem NmL.cell {w : World} {d n k : Nat} {l : List Int} {x : Int} (h : NmL w d n l) (hx : l[k]? = some x) (hk : k < n) : w.cell? ⟨d, k, none⟩ = some (.int .i64 x) := by
  rw [World.ownsRow.cellAt h k (by omega)]
  unfold ints
  rw [List.getElem?_map, hx]
  rfl
theorem NmL.free {w : World} {d n : Nat} {l : List Int} (h : NmL w d n l) (i : Nat) : w.frozen? ⟨d, i, none⟩ = false := World.ownsRow.frozenAt h i
theorem NmL.set {w : World} {d n : Nat} {l : List Int} (h : NmL w d n l) (k : Nat) (x : Int) : NmL (w.setCell ⟨d, k, none⟩ (.int .i64 x)) d n (l.set k x) ∧ w.grownBy (w.setCell ⟨d, k, none⟩ (.int .i64 x)) (some d) := by
  have := World.ownsRow.stored h k (.int .i64 x)
  refine ⟨?_, this.2⟩
  unfold NmL
  rw [show ints (l.set k x) = (ints l).set k (.int .i64 x) from by unfold ints; rw [List.map_set]]
  exact this.1
theorem IntsB.there {w : World} {p : Option Addr} {c : Nat} {os : List Int} (h : IntsB w (.slice p os.length c) os) {i : Nat} (hi : i < os.length) : ∃ g off, p = some ⟨g, off, none⟩ ∧ w.cell? ⟨g, off + i, none⟩ = some (.int .i64 os[i]) := by
  rcases h with ⟨a, e, h0⟩ | ⟨g, off, cap, e, _, hc⟩
  · subst h0
    exact absurd hi (Nat.not_lt_zero _)
  · injection e with e1 _ _
    refine ⟨g, off, e1, hc i _ ?_⟩
    unfold ints
    rw [List.getElem?_map, List.getElem?_eq_getElem hi]
    rfl
theorem range_of {A : List Nat} {n : Nat} (hl : A.length = n) (h : ∀ j, j < n → A[j]? = some j) : A = List.range n := by
  refine List.ext_getElem? fun j => ?_
  by_cases hj : j < n
  · rw [h j hj, List.getElem?_range hj]
  · rw [List.getElem?_eq_none (by omega), List.getElem?_eq_none (by rw [List.length_range]; omega)]
theorem upto_set {A : List Nat} {n i : Nat} (hl : A.length = n) (hi : i < n) (h : ∀ j, j < i → A[j]? = some j) : ∀ j, j < i + 1 → (A.set i i)[j]? = some j := fun j hj => by
  by_cases q : i = j
  · subst q
    exact List.getElem?_set_self (by omega)
  · rw [List.getElem?_set_ne q]
    exact h j (by omega)
theorem perm_at {A : List Nat} {n i : Nat} (h : A.Perm (List.range n)) (hi : i < n) : ∃ a, A[i]? = some a ∧ a < n := by
  have hl : A.length = n := by rw [h.length_eq, List.length_range]
  exact ⟨A[i]'(by omega), List.getElem?_eq_getElem _, List.mem_range.1 (h.mem_iff.1 (List.getElem_mem _))⟩
theorem perm_swap {A : List Nat} {n a k x y : Nat} (h : A.Perm (List.range n)) (ha : A[a]? = some x) (hk : A[k]? = some y) : ((A.set a y).set k x).Perm (List.range n) := by
  obtain ⟨h1, e1⟩ := List.getElem?_eq_some_iff.1 ha
  obtain ⟨h2, e2⟩ := List.getElem?_eq_some_iff.1 hk
  rw [← e1, ← e2]
  exact (List.set_set_perm h1 h2).trans h
def ToL (A : List Nat) (j n : Nat) (tl : List Int) : Prop := tl.length = n ∧ ∀ i a, i < j → A[i]? = some a → tl[a + 1]? = some ((i : Int) + 1)
theorem ToL.start (A : List Nat) (n : Nat) (tl : List Int) (h : tl.length = n) : ToL A 0 n tl := ⟨h, fun _ _ q => absurd q (Nat.not_lt_zero _)⟩
theorem ToL.step {A : List Nat} {j n a : Nat} {tl : List Int} (h : ToL A j n tl) (hn : A.Nodup) (ha : A[j]? = some a) (hl : a + 1 < n) : ToL A (j + 1) n (tl.set (a + 1) ((j : Int) + 1)) := by
  refine ⟨by rw [List.length_set]; exact h.1, fun i c hi hc => ?_⟩
  by_cases q : i = j
  · subst q
    rw [ha] at hc
    cases hc
    exact List.getElem?_set_self (by rw [h.1]; exact hl)
  · have hne : a ≠ c := fun e => by
      subst e
      obtain ⟨h1, e1⟩ := List.getElem?_eq_some_iff.1 hc
      obtain ⟨h2, e2⟩ := List.getElem?_eq_some_iff.1 ha
      exact q (by rw [← hn.idxOf_getElem i h1, ← hn.idxOf_getElem j h2, e1, e2])
    rw [List.getElem?_set_ne (by omega)]
    exact h.2 i c (by omega) hc
theorem ToL.is {A : List Nat} {n : Nat} {tl : List Int} (hA : A.Perm (List.range n)) (h : ToL A n (n + 1) tl) {x : Int} (h1 : 1 ≤ x) (h2 : x ≤ (n : Int)) : tl[x.toNat]? = some (uOf (fun j => A.idxOf j) x) := by
  obtain ⟨j, rfl⟩ : ∃ j : Nat, x = (j : Int) + 1 := ⟨(x - 1).toNat, by omega⟩
  have hj : j < n := by omega
  have hm : j ∈ A := hA.mem_iff.2 (List.mem_range.2 hj)
  have hq := List.idxOf_lt_length_of_mem hm
  have := h.2 (A.idxOf j) j (by rw [hA.length_eq, List.length_range] at hq; exact hq) (by rw [List.getElem?_eq_getElem hq, List.getElem_idxOf hq])
  rw [show ((j : Int) + 1).toNat = j + 1 by omega, this]
  unfold uOf
  rw [toN]
theorem idx_at {A : List Nat} {n i a : Nat} (hA : A.Perm (List.range n)) (ha : A[i]? = some a) : A.idxOf a = i := by
  obtain ⟨h1, e1⟩ := List.getElem?_eq_some_iff.1 ha
  have hn : A.Nodup := hA.nodup_iff.2 List.nodup_range
  rw [← e1]
  exact hn.idxOf_getElem i h1
def lsA (ts : List Th) (B : List Nat) (i : Nat) : List Th := (B.take i).map fun a => ts.getD a Th.none
theorem lsA_len {ts : List Th} {B : List Nat} {i : Nat} (h : i ≤ B.length) : (lsA ts B i).length = i := by
  unfold lsA
  rw [List.length_map, List.length_take, Nat.min_eq_left h]
theorem lsA_next {ts : List Th} {B : List Nat} {i a : Nat} {t : Th} (h : B[i]? = some a) (ht : ts.getD a Th.none = t) : lsA ts B (i + 1) = lsA ts B i ++ [t] := by
  unfold lsA
  rw [List.take_add_one, h, Option.toList_some, List.map_append, List.map_singleton, ht]
theorem lsA_all {ts : List Th} {B : List Nat} {n : Nat} (h : B.Perm (List.range n)) : lsA ts B n = B.map fun a => ts.getD a Th.none := by
  unfold lsA
  rw [List.take_of_length_le (by rw [h.length_eq, List.length_range]; exact Nat.le_refl _)]
structure TrS (p : Pl) (es : List Ent) (s : Nat → Nat) (ts us : List Th) (R Q : List Rw) : Prop where
  t : Turned (es.length : Int) s ts us
  r : Tab (es.length : Int) (atC p es) ts (prtF (pfB p es) ts) R
  q : Tab (es.length : Int) (atC p es) us (prtF (pfB p es) us) Q
  sm : SmQ (uOf s) R Q
  pk : pickF Q (prtF (pfB p es) us) = pickF R (prtF (pfB p es) ts)
  vk : vkE (refE p us.length) (es.length : Int) (atC p es) us (prtF (pfB p es) (us.take 2048)) meB = 0
theorem TrS.of {p : Pl} {es : List Ent} {s : Nat → Nat} {ts us : List Th} {R : List Rw} (t : Turned (es.length : Int) s ts us) (r : Tab (es.length : Int) (atC p es) ts (prtF (pfB p es) ts) R) (hl : ts.length ≤ 2048) (vk : vkE (refE p ts.length) (es.length : Int) (atC p es) ts (prtF (pfB p es) (ts.take 2048)) meB = 0) : ∃ Q, TrS p es s ts us R Q := by
  obtain ⟨Q, h1, h2, h3⟩ := t.tab (fun t u => pfB_same p es t u) r
  exact ⟨Q, t, r, h1, h2, h3, by rw [t.len]; exact t.vk r hl vk⟩
theorem TrS.feats {p : Pl} {es : List Ent} {s : Nat → Nat} {ts us : List Th} {R Q : List Rw} (h : TrS p es s ts us R Q) {j : Nat} (hj : j < ts.length) : (bhL Q (mfB p) us (prtF (pfB p es) us) 6).getD (s j) Fe.none = (bhL R (mfB p) ts (prtF (pfB p es) ts) 6).getD j Fe.none := h.t.bh h.r h.q h.sm h.pk hj
theorem TrS.same {p : Pl} {es : List Ent} {ts us : List Th} {R Q : List Rw} (h : TrS p es id ts us R Q) : bhL Q (mfB p) us (prtF (pfB p es) us) 6 = bhL R (mfB p) ts (prtF (pfB p es) ts) 6 := by
  refine List.ext_getElem (by rw [bhL_len, bhL_len, h.t.len]) fun j h1 h2 => ?_
  have hj : j < ts.length := by rw [bhL_len] at h2; exact h2
  have := h.feats hj
  rw [id, getD_in h1, getD_in h2] at this
  exact this
theorem TrS.steps {p : Pl} {es : List Ent} {s : Nat → Nat} {ts us : List Th} {R Q : List Rw} (h : TrS p es s ts us R Q) : (stU Q (prtF (pfB p es) us) 5).map Se.s = ((stU R (prtF (pfB p es) ts) 5).map Se.s).map (reS (uOf s)) := by
  rw [h.sm.st h.r h.q h.pk, List.map_map, List.map_map]
  rfl
theorem TrS.th {p : Pl} {es : List Ent} {s : Nat → Nat} {ts us : List Th} {R Q : List Rw} (h : TrS p es s ts us R Q) {e : Sd} (he : e ∈ (stU R (prtF (pfB p es) ts) 5).map Se.s) : 1 ≤ e.th ∧ e.th ≤ (ts.length : Int) := by
  obtain ⟨x, hx, rfl⟩ := List.mem_map.1 he
  obtain ⟨i, hi, e1⟩ := st_th 5 hx
  rw [e1, getD_in hi]
  have := h.r.nu _ (List.getElem_mem hi)
  rw [prtF_len] at this
  exact this
theorem TrS.stay {p : Pl} {es : List Ent} {ts us : List Th} {R Q : List Rw} (h : TrS p es id ts us R Q) : (stU Q (prtF (pfB p es) us) 5).map Se.s = (stU R (prtF (pfB p es) ts) 5).map Se.s := by
  rw [h.steps]
  refine (List.map_congr_left fun e he => ?_).trans (List.map_id _)
  have := (h.th he).1
  unfold reS
  rw [show uOf id e.th = e.th from by unfold uOf id; omega]
  rfl
theorem TrS.self {p : Pl} {es : List Ent} {ts : List Th} {R : List Rw} (r : Tab (es.length : Int) (atC p es) ts (prtF (pfB p es) ts) R) (vk : vkE (refE p ts.length) (es.length : Int) (atC p es) ts (prtF (pfB p es) (ts.take 2048)) meB = 0) : TrS p es id ts ts R R := by
  refine ⟨⟨rfl, fun j h => h, fun _ _ _ _ e => e, fun i h => ⟨i, h, rfl⟩, fun j t u a c => ?_, fun i j t t' u u' a b c d e f g => ?_⟩, r, r, ⟨rfl, fun i hi => ?_, fun _ => rfl, fun _ => rfl⟩, rfl, vk⟩
  · rw [id, a] at c
    cases c
    refine ⟨Iff.rfl, rfl, fun h4 => ⟨rfl, rfl, rfl, rfl, rfl, rfl, ?_⟩⟩
    have := ((r.mays a (prt_get _ a)).2 h4).1
    unfold mayLieB at this
    simp only [Bool.and_eq_true, decide_eq_true_eq] at this
    exact this.1.1
  · rw [id, a] at c
    rw [id, b] at d
    cases c
    cases d
    exact g
  · have := (r.nu (R.getD i Rw.none) (by rw [getD_in hi]; exact List.getElem_mem _)).1
    unfold uOf id
    omega
theorem neq_ptL (p : Pt) (w : World) : (binOp .neq 47 (.agg #[.int .u8 p.wn, .int .u8 p.vb, .int .u8 p.wm, .int .i64 p.ct, .int .u8 p.su, .int .u8 p.tr, .int .u8 p.mr, .string p.nm]) (.agg #[.int .u8 p.wn, .int .u8 p.vb, .int .u8 p.wm, .int .i64 p.ct, .int .u8 p.su, .int .u8 p.tr, .int .u8 p.mr, .string p.nm])).run Tryz.prog w = .ok (.bool false) w := by
  rw [neq_part, show samep (⟨p.wn, p.vb, p.wm, p.ct, p.su, p.tr, p.mr, p.nm⟩ : Pt) ⟨p.wn, p.vb, p.wm, p.ct, p.su, p.tr, p.mr, p.nm⟩ = true from samep_yes rfl]; rfl
theorem eqg_ptL (op : BinOp) (x y : Operand) (xs ys : Array Value) (w : World) : (eqGuard op 47 x y (.agg xs) (.agg ys)).run Tryz.prog w = .ok () w := run_eqGuard_agg w op 47 x y xs ys (by kernel_rfl)
theorem of_turned {w : World} {ok : Nat → Prop} {b n : Nat} {vu : Value} {s : Nat → Nat} {ts us : List Th} {es : List Ent} {p : Pl} {R Q : List Rw} (h : TrS p es s ts us R Q) (B : Book ok w b es p) (A : thR.At w vu us) (hn : us.length = n) (hc : ∃ q c, vu = .slice q n c ∧ n ≤ c) : Calls Tryz.prog 30 #[.pointer (some ⟨b, 0, none⟩), vu] w fun e w' => ∃ q c, e = .returned (.tuple #[.slice q n c, .int .i64 0]) ∧ w.grownBy w' none ∧ FOwn w' w.heap.size (.slice q n c) (bhL Q (mfB p) us (prtF (pfB p es) us) 6) := by
  subst hn
  have C := vof_any _ _ _ _ _ _ _ _ _ w (VIn.of B A hc)
  refine C.mono ?_
  rintro e w' ⟨v, rfl, g, o⟩
  rw [vBh_is h.vk (by decide) h.q] at o
  obtain ⟨q, c, ev⟩ := RecT.Own.form o
  subst ev
  rw [bhL_len] at o ⊢
  exact ⟨q, c, by rw [h.vk]; rfl, g, o⟩
theorem steps_turned {w : World} {ok : Nat → Prop} {b n m : Nat} {vu : Value} {s : Nat → Nat} {ts us : List Th} {es : List Ent} {p : Pl} {R Q : List Rw} {S : List Sd} (h : TrS p es s ts us R Q) (B : Book ok w b es p) (A : thR.At w vu us) (hn : us.length = n) (hc : ∃ q c, vu = .slice q n c ∧ n ≤ c) (hS : (stU Q (prtF (pfB p es) us) 5).map Se.s = S) (hm : S.length = m) : Calls Tryz.prog 27 #[.pointer (some ⟨b, 0, none⟩), vu] w fun e w' => ∃ q c, e = .returned (.tuple #[.slice q m c, .int .i64 0]) ∧ w.grownBy w' none ∧ sdR.At w' (.slice q m c) S := by
  subst hn hm
  have C := vsteps_any _ _ _ _ _ _ _ _ _ w (VIn.of B A hc)
  refine C.mono ?_
  rintro e w' ⟨v, rfl, g, o⟩
  rw [vSt_is h.vk h.q, hS] at o
  obtain ⟨q, c, ev⟩ := RecT.Own.form o
  subst ev
  exact ⟨q, c, by rw [h.vk], g, RecT.Own.at o⟩
theorem own_aboveV {w w' : World} {base e size n x : Nat} {v : Value} {xs : List Value} (h : w.ownsRow base e size v n xs) (k : w.grownBy w' (some x)) (hx : x < base) : w'.ownsRow base e size v n xs := by
  refine World.ownsRow.kept h k ?_
  cases hv : v.ownBlock with
  | none => exact Or.inl rfl
  | some y =>
    refine Or.inr fun q => ?_
    cases q
    have := (World.ownsRow.lt h _ hv).1
    omega
theorem mod_n {i n : Nat} (hn : 0 < n) : ∃ a : Nat, a < n ∧ (i : Int).tmod (n : Int) = (a : Int) := by
  refine ⟨i % n, Nat.mod_lt _ hn, ?_⟩
  rw [Int.tmod_eq_emod_of_nonneg (by omega)]
  omega
theorem sd_at' {w : World} {g off n c : Nat} {X : List Sd} (h : sdR.At w (.slice (some ⟨g, off, none⟩) n c) X) {i : Nat} {x : Sd} (hx : X[i]? = some x) : w.rangeAt g (off + i * 10) (sdc x) := by
  obtain ⟨hi, e⟩ := List.getElem?_eq_some_iff.1 hx
  rw [← e]
  exact sd_next h hi
end Go.Proofs.YtmemeloehgemcaaGreat
