/-
  What a call leaves alone but for the blocks of a list; rows of lists.
-/
import Derived.Test.YteigfndahedleaaDoorRank2
import Derived.Deep.AppendLies
import Derived.Deep.QuietTactic
import Derived.Maps.AppendAt
namespace Go.Proofs.YteigfndahedleaaDoor
open Go.RowKit

/-- Nothing old has turned but the blocks of S. -/
structure Kept (S : List Nat) (w w' : World) : Prop where
  os : w'.os = w.os
  tape : w'.tape = w.tape
  output : w'.output = w.output
  size : w.heap.size ≤ w'.heap.size
  block : ∀ k, k < w.heap.size → k ∉ S → w'.heap[k]? = w.heap[k]?
theorem Kept.refl (S : List Nat) (w : World) : Kept S w w := ⟨rfl, rfl, rfl, Nat.le_refl _, fun _ _ _ => rfl⟩
theorem Kept.trans {S T : List Nat} {a b c : World} (h : Kept S a b) (k : Kept T b c) (hT : ∀ x, x ∈ T → x ∈ S ∨ a.heap.size ≤ x) : Kept S a c :=
  ⟨k.os.trans h.os, k.tape.trans h.tape, k.output.trans h.output, Nat.le_trans h.size k.size, fun i hi hs => (k.block i (Nat.lt_of_lt_of_le hi h.size) (fun e => by rcases hT i e with h1 | h1; exact hs h1; omega)).trans (h.block i hi hs)⟩
theorem Kept.of_grown {w w' : World} {r : Option Nat} (h : w.grownBy w' r) : Kept r.toList w w' :=
  ⟨h.os, h.tape, h.output, h.size, fun k hk hs => h.block k hk (fun e => hs (by rw [← e]; simp))⟩
theorem Kept.mono {S T : List Nat} {a b : World} (h : Kept S a b) (hS : ∀ x, x ∈ S → x ∈ T) : Kept T a b :=
  ⟨h.os, h.tape, h.output, h.size, fun k hk hs => h.block k hk (fun e => hs (hS k e))⟩
theorem Kept.grown {w w' : World} (h : Kept [] w w') : w.grownBy w' none := ⟨h.os, h.tape, h.output, h.size, fun k hk _ => h.block k hk (by simp)⟩
theorem Kept.keep {S : List Nat} {a b : World} (h : Kept S a b) {k : Nat} {o : Obj} (hk : a.heap[k]? = some o) (hr : k ∉ S) : b.heap[k]? = some o := by
  rw [h.block k (block_lt hk) hr]; exact hk
theorem Kept.cell {S : List Nat} {a b : World} (h : Kept S a b) {p : Addr} {v : Value} (hc : a.cell? p = some v) (hp : p.block ∉ S) : b.cell? p = some v := by
  rw [World.cell?_of_block (h.block p.block (World.block_lt_of_cell? _ _ hc) hp)]; exact hc
theorem Kept.grow {S : List Nat} {a b c : World} (h : Kept S a b) (g : b.grownBy c none) : Kept S a c := h.trans (Kept.of_grown g) (by simp)
theorem Kept.drew {S : List Nat} {a b : World} (h : Kept S a b) : Kept S a b.drew := ⟨h.os, h.tape, h.output, h.size, h.block⟩
/-- The cells of a row of lists: block and length of each. -/
def toldCells (T : List (Nat × Nat)) : List Value := T.map fun x => .slice (some ⟨x.1, 0, none⟩) x.2 x.2
theorem grown_drew {a b : World} {r : Option Nat} (h : a.grownBy b r) : a.grownBy b.drew r := ⟨h.os, h.tape, h.output, h.size, h.block⟩
theorem own_above {w : World} {base : Nat} {e : TypeId} {size n : Nat} {v : Value} {xs : List Value} (h : w.ownsRow base e size v n xs) : ∀ x, v.ownBlock = some x → base ≤ x := by
  obtain ⟨h1, h2⟩ := h
  intro x hx
  rcases h2 with ⟨rfl, _⟩ | ⟨g, cap, cur, rfl, hg0, _⟩
  · simp [Value.ownBlock] at hx
  · simp [Value.ownBlock] at hx; omega
theorem getD_mem (T : List (Nat × Nat)) (j : Nat) (h : j < T.length) : T.getD j (0, 0) ∈ T := by simp [List.getD, List.getElem?_eq_getElem h]
theorem fst_mem (T : List (Nat × Nat)) (j : Nat) (h : j < T.length) : (T.getD j (0, 0)).1 ∈ T.map Prod.fst := List.mem_map.2 ⟨_, getD_mem T j h, rfl⟩
theorem single_mem {x y : Nat} {S : List Nat} (h : x ∈ (some y).toList) (hy : y ∈ S) : x ∈ S := by
  have : x = y := by simpa using h
  rw [this]; exact hy
theorem fst_inj (T : List (Nat × Nat)) (hT : (T.map Prod.fst).Nodup) (i j : Nat) (hi : i < T.length) (hj : j < T.length) (h : (T.getD i (0, 0)).1 = (T.getD j (0, 0)).1) : i = j := by
  have e1 : (T.map Prod.fst)[i]'(by simpa using hi) = (T.getD i (0, 0)).1 := by simp [List.getD, List.getElem?_eq_getElem hi]
  have e2 : (T.map Prod.fst)[j]'(by simpa using hj) = (T.getD j (0, 0)).1 := by simp [List.getD, List.getElem?_eq_getElem hj]
  have hp := List.pairwise_iff_getElem.1 hT
  rcases Nat.lt_trichotomy i j with hij | hij | hij
  · exact absurd (by rw [e1, e2, h]) (hp i j (by simpa using hi) (by simpa using hj) hij)
  · exact hij
  · exact absurd (by rw [e1, e2, h]) (hp j i (by simpa using hj) (by simpa using hi) hij)
/-- The row at block g begins with the lists T. -/
def RowAt (w : World) (g : Nat) (T : List (Nat × Nat)) : Prop := ∀ j, j < T.length → w.cell? ⟨g, j, none⟩ = some (.slice (some ⟨(T.getD j (0, 0)).1, 0, none⟩) (T.getD j (0, 0)).2 (T.getD j (0, 0)).2)
theorem toldCells_at (T : List (Nat × Nat)) (j : Nat) (h : j < T.length) : (toldCells T)[j]? = some (.slice (some ⟨(T.getD j (0, 0)).1, 0, none⟩) (T.getD j (0, 0)).2 (T.getD j (0, 0)).2) := by
  simp [toldCells, List.getD, List.getElem?_eq_getElem h]
theorem told_snoc (T : List (Nat × Nat)) (k : Nat) (h : k < T.length) : toldCells (T.take (k + 1)) = toldCells (T.take k) ++ [.slice (some ⟨(T.getD k (0, 0)).1, 0, none⟩) (T.getD k (0, 0)).2 (T.getD k (0, 0)).2] := by
  rw [List.take_succ_eq_append_getElem h]
  unfold toldCells
  rw [List.map_append]
  congr 1
  simp [List.getD, List.getElem?_eq_getElem h]
theorem small_len {n : Nat} (h : n ≤ 4294967296) : n ≤ maxLen := by unfold maxLen; omega
end Go.Proofs.YteigfndahedleaaDoor
