/-
  Memory, as lists of numbers see it: what a call has kept, lists and their blocks, small lengths. (Gathered out of elder texts, for seats without cards.)
-/
import Derived.Test.YtjjgipklhdofhaaBase
import Derived.Test.YtjjgipklhdofhaaLOwn
import Derived.Laws.MakeOwn
import Derived.Laws.AppendOwnNone
import Derived.Laws.OwnMore
import Derived.OwnWalk
import Derived.Maps.AppendAt
import Derived.Deep.AppendLies
import Derived.Maps.RangeWalk
namespace Go.Proofs.Ytjjgipklhdofhaa
open Go.RowKit

theorem grown_drew (w : World) : w.grownBy w.drew none := ⟨rfl, rfl, rfl, Nat.le_refl _, fun _ _ _ => rfl⟩
theorem addr_plain {w : World} {x : Addr} {v : Value} (h : w.cell? x = some v) : x = ⟨x.block, x.off, none⟩ := by
  cases x with
  | mk b o s =>
    cases s with
    | none => rfl
    | some s =>
      exfalso
      unfold World.cell? at h
      split at h <;> simp_all
theorem add_plain (b o j : Nat) : (⟨b, o, none⟩ : Addr).add j = ⟨b, o + j, none⟩ := by unfold Addr.add; split <;> simp_all
/-- A number that a machine's list has at most. -/
def Small (n : Nat) : Prop := n ≤ 140737488355328
theorem Small.wrap {n k : Nat} (h : Small n) (hk : k < n) : wrap64 ((k : Int) + 1) = (k : Int) + 1 := by unfold Small at h; unfold wrap64; omega
theorem meas_next {n k : Nat} (h : k < n) : n - (intOf (.int .i64 ((k : Int) + 1))).toNat < n - (intOf (.int .i64 (k : Int))).toNat := by simp [intOf]; omega
/-- Where a list of numbers lies. -/
def IntsIn (w : World) (v : Value) (os : List Int) : Prop := ∃ a k, v = .slice a os.length k ∧ (0 < os.length → ∃ g o, a = some ⟨g, o, none⟩ ∧ ∀ (j : Nat) x, os[j]? = some x → w.cell? ⟨g, o + j, none⟩ = some (.int .i64 x))
def lim (n : Nat) : Prop := n ≤ maxLen
theorem lim.wrap {n k : Nat} (h : lim n) (hk : k < n) : wrap64 ((k : Int) + 1) = (k : Int) + 1 := by unfold lim maxLen at h; unfold wrap64; omega
/-- Nothing old has turned but the blocks of S. -/
structure Kpt (S : List Nat) (w w' : World) : Prop where
  os : w'.os = w.os
  tape : w'.tape = w.tape
  output : w'.output = w.output
  size : w.heap.size ≤ w'.heap.size
  block : ∀ k, k < w.heap.size → k ∉ S → w'.heap[k]? = w.heap[k]?
theorem Kpt.refl (S : List Nat) (w : World) : Kpt S w w := ⟨rfl, rfl, rfl, Nat.le_refl _, fun _ _ _ => rfl⟩
theorem Kpt.trans {S T : List Nat} {a b c : World} (h : Kpt S a b) (k : Kpt T b c) (hT : ∀ x, x ∈ T → x ∈ S ∨ a.heap.size ≤ x) : Kpt S a c :=
  ⟨k.os.trans h.os, k.tape.trans h.tape, k.output.trans h.output, Nat.le_trans h.size k.size, fun i hi hs => (k.block i (Nat.lt_of_lt_of_le hi h.size) (fun e => by rcases hT i e with h1 | h1; exact hs h1; omega)).trans (h.block i hi hs)⟩
theorem Kpt.of_grown {w w' : World} {r : Option Nat} (h : w.grownBy w' r) : Kpt r.toList w w' :=
  ⟨h.os, h.tape, h.output, h.size, fun k hk hs => h.block k hk (fun e => hs (by rw [← e]; simp))⟩
theorem Kpt.mono {S T : List Nat} {a b : World} (h : Kpt S a b) (hS : ∀ x, x ∈ S → x ∈ T) : Kpt T a b :=
  ⟨h.os, h.tape, h.output, h.size, fun k hk hs => h.block k hk (fun e => hs (hS k e))⟩
theorem Kpt.cell {S : List Nat} {a b : World} (h : Kpt S a b) {p : Addr} {v : Value} (hc : a.cell? p = some v) (hp : p.block ∉ S) : b.cell? p = some v := by
  rw [World.cell?_of_block (h.block p.block (World.block_lt_of_cell? _ _ hc) hp)]; exact hc
theorem Kpt.grow {S : List Nat} {a b c : World} (h : Kpt S a b) (g : b.grownBy c none) : Kpt S a c := h.trans (Kpt.of_grown g) (by simp)
theorem Kpt.new {S : List Nat} {a b c : World} (g : a.grownBy b none) (h : Kpt S b c) (hS : ∀ x, x ∈ S → a.heap.size ≤ x) : a.grownBy c none :=
  ⟨h.os.trans g.os, h.tape.trans g.tape, h.output.trans g.output, Nat.le_trans g.size h.size, fun k hk _ => (h.block k (Nat.lt_of_lt_of_le hk g.size) (fun e => by have := hS k e; omega)).trans (g.block k hk (by simp))⟩
/-- A list: its block, its length, its room. -/
structure Lst where
  a : Option Nat
  n : Nat
  cap : Nat
def Lst.v (x : Lst) : Value := .slice (x.a.map fun g => ⟨g, 0, none⟩) x.n x.cap
def Lst.f (x : Lst) : Value := .slice (x.a.map fun g => ⟨g, 0, none⟩) x.cap x.cap
def blocks (T : List Lst) : List Nat := T.filterMap Lst.a
theorem mem_blocks {T : List Lst} {j g : Nat} {x : Lst} (h : T[j]? = some x) (hg : x.a = some g) : g ∈ blocks T := List.mem_filterMap.2 ⟨x, List.mem_of_getElem? h, hg⟩
/-- No two lie in one block. -/
def Diff (T : List Lst) : Prop := ∀ (i j : Nat) (x y : Lst) (g : Nat), T[i]? = some x → T[j]? = some y → x.a = some g → y.a = some g → i = j
def fcells (T : List Lst) : List Value := T.map Lst.f
theorem fcells_snoc {T : List Lst} {k : Nat} {x : Lst} (h : T[k]? = some x) : fcells (T.take (k + 1)) = fcells (T.take k) ++ [x.f] := by
  rw [List.take_add_one, h]
  simp [fcells]
theorem own_above {w : World} {base : Nat} {e : TypeId} {size n : Nat} {v : Value} {xs : List Value} (h : w.ownsRow base e size v n xs) : ∀ x, v.ownBlock = some x → base ≤ x := by
  obtain ⟨h1, h2⟩ := h
  intro x hx
  rcases h2 with ⟨rfl, _⟩ | ⟨g, cap, cur, rfl, hg0, _⟩
  · simp [Value.ownBlock] at hx
  · simp [Value.ownBlock] at hx; omega
theorem small_len {n : Nat} (h : n ≤ 4294967296) : n ≤ maxLen := by unfold maxLen; omega

end Go.Proofs.Ytjjgipklhdofhaa
