/-
  A list in memory of its own; the document's Shuffle.
  The document's Draw, Under, Cut, Without.
  The document's Cut.
  Two lists, one behind the other, in new memory: the program's joined.
  The program's Draw, Under, Cut.
  Lists of numbers where they can be cut: nothing at all, or a plain place with room.
  slices.Index of numbers; Without, of the program and of the document: the list without the first x.
  Draw, Under, Without, Cut of every list, of the program and of the document: the same answers.
  The program's Shuffle.
-/
import Derived.Test.YtogpgldbbegniaaGreatT31
import Derived.Laws.OwnMore
import Derived.Deep.RegionWith
import Derived.Deep.CutRange
import Derived.Laws.CopyOwn
import Derived.Deep.RegionHeld
namespace Go.Proofs.YtogpgldbbegniaaGreat
open Go.RowKit

/-- A list that is shuffled, in the call's own memory. -/
def ShAt (w wr : World) (g cap : Nat) (cur : List Int) : Prop := wr.ownsRow w.heap.size 3 1 (.slice (some ⟨g, 0, none⟩) cur.length cap) cur.length (ints cur) ∧ w.grownBy wr none
theorem ShAt.cell {w wr : World} {g cap i : Nat} {cur : List Int} (h : ShAt w wr g cap cur) (hi : i < cur.length) : wr.cell? ⟨g, i, none⟩ = some (.int .i64 (cur.getD i 0)) := by
  rw [World.ownsRow.cellAt h.1 i (by omega)]
  exact ints_at cur i hi
theorem ShAt.free {w wr : World} {g cap : Nat} {cur : List Int} (h : ShAt w wr g cap cur) (i : Nat) : wr.frozen? ⟨g, i, none⟩ = false := World.ownsRow.frozenAt h.1 i
theorem ints_set (l : List Int) (i : Nat) (z : Int) : (ints l).set i (.int .i64 z) = ints (l.set i z) := by simp [ints, List.map_set]
theorem rem_place (y : Int) (m : Nat) (h : 0 ≤ y) : ∃ r : Nat, y % ((m : Int) + 1 + 1) = (r : Int) ∧ r < m + 2 ∧ r = y.toNat % (m + 2) := by
  refine ⟨y.toNat % (m + 2), ?_, Nat.mod_lt _ (by omega), rfl⟩
  rw [Int.natCast_emod, Int.toNat_of_nonneg h]
  rfl
theorem own_ge {w : World} {base g n cap : Nat} {xs : List Value} (h : w.ownsRow base 3 1 (.slice (some ⟨g, 0, none⟩) n cap) n xs) : base ≤ g := by
  rcases h.2 with ⟨h', _⟩ | ⟨g', cap', cur, h', hb, _⟩
  · simp at h'
  · simp at h'; omega
theorem ShAt.put {w wr : World} {g cap i : Nat} {cur : List Int} {z : Int} (h : ShAt w wr g cap cur) : ShAt w (wr.setCell ⟨g, i, none⟩ (.int .i64 z)) g cap (cur.set i z) := by
  have := World.ownsRow.stored h.1 i (.int .i64 z)
  rw [ints_set] at this
  refine ⟨by rw [List.length_set]; exact this.1, grown_own h.2 this.2 (fun x e => by cases e; exact own_ge h.1)⟩
/-- The list shuffled, and the generator's state. -/
def shuffled (l : List Int) (s : Int) : List Int × Int := shuf gen (l.length - 1) l s
end Go.Proofs.YtogpgldbbegniaaGreat
namespace Go.Proofs.YtogpgldbbegniaaGreat
open Go.RowKit

theorem ints_from {w : World} {g off n cap : Nat} {x : Int} {l : List Int} (h : IntsA w (.slice (some ⟨g, off, none⟩) (n + 1) cap) (x :: l)) (hn : n = l.length) (hc : n + 1 ≤ cap) : IntsA w (.slice (if cap = 1 then some ⟨g, off, none⟩ else some ⟨g, off + 1, none⟩) l.length (cap - 1)) l := by
  rcases h with ⟨h, _⟩ | ⟨ad, c, h, hcell⟩
  · cases h
  · cases h
    by_cases e : cap = 1
    · obtain rfl : l = [] := List.length_eq_zero_iff.1 (by omega)
      rw [if_pos e]
      exact Or.inr ⟨_, _, rfl, fun j u hu => by simp [ints] at hu⟩
    · rw [if_neg e]
      refine Or.inr ⟨_, _, rfl, fun j u hu => ?_⟩
      have := hcell (j + 1) u (by simpa [ints] using hu)
      rw [add_plain] at this ⊢
      rw [show off + 1 + j = off + (j + 1) by omega]
      exact this
end Go.Proofs.YtogpgldbbegniaaGreat
namespace Go.Proofs.YtogpgldbbegniaaGreat
open Go.RowKit

theorem ints_upto {w : World} {g off n cap k : Nat} {l : List Int} (h : IntsA w (.slice (some ⟨g, off, none⟩) n cap) l) (hk : k ≤ n) : IntsA w (.slice (some ⟨g, off, none⟩) k cap) (l.take k) := by
  rcases h with ⟨h, _⟩ | ⟨ad, c, h, hcell⟩
  · cases h
  · cases h
    have hl : (l.take k).length = k := by rw [List.length_take]; omega
    refine Or.inr ⟨_, _, by rw [hl], fun j u hu => hcell j u ?_⟩
    have hj : j < k := by have := (List.getElem?_eq_some_iff.1 hu).1; rw [length_ints, hl] at this; exact this
    unfold ints at hu ⊢
    rw [List.getElem?_map, List.getElem?_take, if_pos hj] at hu
    rw [List.getElem?_map]
    exact hu
theorem ints_past {w : World} {g off n cap k : Nat} {l : List Int} (h : IntsA w (.slice (some ⟨g, off, none⟩) n cap) l) (hk : k ≤ n) (hc : n ≤ cap) : IntsA w (.slice (if cap = k then some ⟨g, off, none⟩ else some ⟨g, off + k, none⟩) (n - k) (cap - k)) (l.drop k) := by
  rcases h with ⟨h, _⟩ | ⟨ad, c, h, hcell⟩
  · cases h
  · cases h
    have hl : (l.drop k).length = l.length - k := List.length_drop
    by_cases e : cap = k
    · rw [if_pos e]
      have h0 : l.drop k = [] := List.length_eq_zero_iff.1 (by omega)
      rw [h0]
      exact Or.inr ⟨_, _, by rw [show l.length - k = 0 by omega]; rfl, fun j u hu => by simp [ints] at hu⟩
    · rw [if_neg e]
      refine Or.inr ⟨_, _, by rw [hl], fun j u hu => ?_⟩
      have := hcell (k + j) u (by unfold ints at hu ⊢; rw [List.getElem?_map, List.getElem?_drop] at hu; rw [List.getElem?_map]; exact hu)
      rw [add_plain] at this ⊢
      rw [show off + k + j = off + (k + j) by omega]
      exact this
theorem own_under {w : World} {base n : Nat} {v : Value} {xs : List Value} (h : w.ownsRow base 3 1 v n xs) : ∀ b, v.ownBlock = some b → b < w.heap.size := by
  intro b hb
  rcases h.2 with ⟨e, _⟩ | ⟨g, cap, cur, e, _, hh, _⟩
  · rw [e] at hb; simp [Value.ownBlock] at hb
  · rw [e] at hb; simp [Value.ownBlock] at hb; rw [← hb]; exact block_lt hh
theorem cut_fin {w w1 w2 : World} {u v : Value} {k j : Nat} {xs ys : List Value} (hd : w.grownBy w.drew none) (o1 : w1.ownsRow w.heap.size 3 1 u k xs) (g1 : w.drew.grownBy w1 none) (o2 : w2.ownsRow w1.heap.size 3 1 v j ys) (g2 : w1.grownBy w2 none) : (∃ m, w.heap.size ≤ m ∧ m ≤ w2.heap.size ∧ (∀ b, u.ownBlock = some b → b < m) ∧ w2.ownsRow w.heap.size 3 1 u k xs ∧ w2.ownsRow m 3 1 v j ys) ∧ w.grownBy w2 none :=
  ⟨⟨w1.heap.size, (grown_trans hd g1).size, g2.size, own_under o1, World.ownsRow.kept o1 g2 (Classical.em _), o2⟩, grown_trans (grown_trans hd g1) g2⟩
end Go.Proofs.YtogpgldbbegniaaGreat
namespace Go.Proofs.YtogpgldbbegniaaGreat
open Go.RowKit

/-- Numbers that were handed in: where they lie, if there are any. -/
theorem IntsA.src {w : World} {v : Value} {os : List Int} (h : IntsA w v os) : ∃ p c, v = .slice p os.length c ∧ (0 < os.length → ∃ ad, p = some ad ∧ ∀ j u, (ints os)[j]? = some u → w.cell? (Addr.add ad j) = some u) := by
  rcases h with ⟨rfl, rfl⟩ | ⟨ad, cap, rfl, h⟩
  · exact ⟨_, _, rfl, fun h => absurd h (by simp)⟩
  · exact ⟨_, _, rfl, fun _ => ⟨ad, rfl, h⟩⟩
theorem splice_two {α : Type} (Z A B : List α) (k : Nat) (hk : A.length = k) (hZ : Z.length = k + B.length) : splice (splice Z 0 A) k B = A ++ B := by
  subst hk
  have e1 : splice Z 0 A = A ++ Z.drop A.length := by simp [splice]
  rw [e1]
  unfold splice
  rw [List.take_left, List.drop_append]
  have e2 : List.drop (A.length + B.length) A = [] := List.drop_eq_nil_of_le (by omega)
  have e3 : List.drop (A.length + B.length - A.length) (List.drop A.length Z) = [] := List.drop_eq_nil_of_le (by simp; omega)
  rw [e2, e3]
  simp
/-- The new list, made: a block of so many cells. -/
theorem made_block {w V : World} {N : Nat} {xs : List Value} (h : V.ownsRow w.heap.size 3 1 (.slice (some ⟨w.heap.size, 0, none⟩) N N) N xs) : ∃ Z : List Value, Z.length = N ∧ V.heap[w.heap.size]? = some (.cells Z.toArray 3 (0, 0)) := by
  rcases h.2 with ⟨h', _⟩ | ⟨g, cap, cur, h', hb, hh, hn, hm, hs, ht⟩
  · simp at h'
  · simp at h'
    obtain ⟨rfl, rfl⟩ := h'
    exact ⟨cur.toList, by simp [hs], by simpa using hh⟩
theorem block_own {w V : World} {N : Nat} {l : List Int} (h : V.heap[w.heap.size]? = some (.cells (ints l).toArray 3 (0, 0))) (hl : l.length = N) (hN : N ≤ maxLen) : V.ownsRow w.heap.size 3 1 (.slice (some ⟨w.heap.size, 0, none⟩) N N) N (ints l) :=
  ⟨by rw [length_ints, Nat.mul_one, hl], Or.inr ⟨w.heap.size, N, _, rfl, Nat.le_refl _, h, Nat.le_refl _, hN, by simp [length_ints, hl], by simp [← hl, length_ints, List.take_of_length_le]⟩⟩
end Go.Proofs.YtogpgldbbegniaaGreat
namespace Go.Proofs.YtogpgldbbegniaaGreat
open Go.RowKit

theorem own_low {w : World} {b b' n : Nat} {v : Value} {xs : List Value} (h : w.ownsRow b' 3 1 v n xs) (hb : b ≤ b') : w.ownsRow b 3 1 v n xs := by
  refine ⟨h.1, ?_⟩
  rcases h.2 with h | ⟨g, cap, cur, e, hg, r⟩
  · exact Or.inl h
  · exact Or.inr ⟨g, cap, cur, e, Nat.le_trans hb hg, r⟩
theorem one_ints {w : World} {g : Nat} {x : Int} (h : w.heap[g]? = some (.cells #[.int .i64 x] 3 (0, 0))) : IntsA w (.slice (some ⟨g, 0, none⟩) 1 1) [x] := Or.inr ⟨_, _, rfl, fun j u hu => by
  rw [add_plain, Nat.zero_add, block_cell h]
  simpa [ints] using hu⟩
end Go.Proofs.YtogpgldbbegniaaGreat
namespace Go.Proofs.YtogpgldbbegniaaGreat
open Go.RowKit

def isI (z : Int) : Prop := -9223372036854775808 ≤ z ∧ z < 9223372036854775808
/-- Numbers in a list that may be cut. -/
def IntsB (w : World) (v : Value) (os : List Int) : Prop := (∃ a, v = .slice a 0 0 ∧ os = []) ∨ ∃ g off cap, v = .slice (some ⟨g, off, none⟩) os.length cap ∧ os.length ≤ cap ∧ ∀ (j : Nat) u, (ints os)[j]? = some u → w.cell? ⟨g, off + j, none⟩ = some u
theorem IntsB.a {w : World} {v : Value} {os : List Int} (h : IntsB w v os) : IntsA w v os := by
  rcases h with ⟨a, rfl, rfl⟩ | ⟨g, off, cap, rfl, _, h⟩
  · cases a with
    | none => exact Or.inl ⟨rfl, rfl⟩
    | some ad => exact Or.inr ⟨ad, 0, rfl, fun j u hu => by simp [ints] at hu⟩
  · exact Or.inr ⟨_, _, rfl, fun j u hu => by rw [add_plain]; exact h j u hu⟩
theorem IntsB.keep {w w' : World} {v : Value} {os : List Int} (h : IntsB w v os) (g : w.grownBy w' none) : IntsB w' v os := by
  rcases h with h | ⟨b, off, cap, e, hc, h⟩
  · exact Or.inl h
  · exact Or.inr ⟨b, off, cap, e, hc, fun j u hu => g.cell (h j u hu) (by simp)⟩
theorem IntsB.form {w : World} {v : Value} {l : List Int} (h : IntsB w v l) : ∃ a c, v = .slice a l.length c := by
  rcases h with ⟨a, rfl, rfl⟩ | ⟨g, off, cap, rfl, _, _⟩
  · exact ⟨_, _, rfl⟩
  · exact ⟨_, _, rfl⟩
/-- A list of the call's own may be cut. -/
theorem own_B {w : World} {base n : Nat} {v : Value} {l : List Int} (h : w.ownsRow base 3 1 v n (ints l)) (hn : l.length = n) : IntsB w v l := by
  subst hn
  rcases h.2 with ⟨e, h0⟩ | ⟨g, cap, cur, e, hb, hh, hc, hm, hs, ht⟩
  · exact Or.inl ⟨none, e, List.length_eq_zero_iff.1 h0⟩
  · subst e
    refine Or.inr ⟨g, 0, cap, rfl, hc, fun j u hu => ?_⟩
    have hj := (List.getElem?_eq_some_iff.1 hu).1
    rw [length_ints] at hj
    rw [Nat.zero_add, World.ownsRow.cellAt h j (by omega)]
    exact hu
end Go.Proofs.YtogpgldbbegniaaGreat
namespace Go.Proofs.YtogpgldbbegniaaGreat
open Go.RowKit

/-- None of the first k numbers is x. -/
def NonI (l : List Int) (x : Int) (k : Nat) : Prop := ∀ j, j < k → l.getD j 0 ≠ x
/-- x stands at k, and not ahead of it. -/
def FstI (l : List Int) (x : Int) (k : Nat) : Prop := k < l.length ∧ l.getD k 0 = x ∧ NonI l x k
theorem first_of {l : List Int} {x : Int} (h : x ∈ l) : ∃ k, FstI l x k := by
  induction l with
  | nil => simp at h
  | cons a l ih =>
    by_cases e : a = x
    · exact ⟨0, by simp, by simpa using e, fun j hj => by omega⟩
    · obtain ⟨k, h1, h2, h3⟩ := ih (by rcases List.mem_cons.1 h with h | h; exact absurd h.symm e; exact h)
      refine ⟨k + 1, by simpa using h1, by simpa using h2, fun j hj => ?_⟩
      cases j with
      | zero => simpa using e
      | succ j => simpa using h3 j (by omega)
theorem none_of {l : List Int} {x : Int} (h : x ∉ l) : NonI l x l.length := fun j hj e => h (by rw [← e, getD_at l j hj]; exact List.getElem_mem _)
theorem FstI.erase {l : List Int} {x : Int} {k : Nat} (h : FstI l x k) : l.erase x = l.take k ++ l.drop (k + 1) :=
  erase_at l x k h.1 (by rw [← getD_at l k h.1]; exact h.2.1) (fun j hj => by have := h.2.2 j hj; rw [getD_at l j (by have := h.1; omega)] at this; exact this)
theorem FstI.mem {l : List Int} {x : Int} {k : Nat} (h : FstI l x k) : x ∈ l := by rw [← h.2.1, getD_at l k h.1]; exact List.getElem_mem _
theorem NonI.next {l : List Int} {x : Int} {k : Nat} (h : NonI l x k) (hx : l.getD k 0 ≠ x) : NonI l x (k + 1) := fun j hj => by
  rcases (show j < k ∨ j = k from by omega) with h' | rfl
  · exact h j h'
  · exact hx
theorem own_len {w : World} {base n : Nat} {v : Value} {l : List Int} (h : w.ownsRow base 3 1 v n (ints l)) : l.length = n := by
  have := h.1
  rw [length_ints] at this
  omega
/-- The cells of a list that may be cut. -/
def CellsB (w : World) (g off : Nat) (l : List Int) : Prop := ∀ j, j < l.length → w.cell? ⟨g, off + j, none⟩ = some (.int .i64 (l.getD j 0))
theorem cells_of {w : World} {g off : Nat} {l : List Int} (h : ∀ (j : Nat) u, (ints l)[j]? = some u → w.cell? ⟨g, off + j, none⟩ = some u) : CellsB w g off l := fun j hj => h j _ (ints_at l j hj)
theorem CellsB.keep {w w' : World} {g off : Nat} {l : List Int} (h : CellsB w g off l) (k : w.grownBy w' none) : CellsB w' g off l := fun j hj => k.cell (h j hj) (by simp)
theorem CellsB.ints {w : World} {g off cap : Nat} {l : List Int} (h : CellsB w g off l) : IntsA w (.slice (some ⟨g, off, none⟩) l.length cap) l := Or.inr ⟨_, _, rfl, fun j u hu => by
  have hj := (List.getElem?_eq_some_iff.1 hu).1
  rw [length_ints] at hj
  rw [add_plain, h j hj, ← hu, ints_at l j hj]⟩
/-- What Without answers: the list without the first x and true, or nothing and false. -/
def WoPost (w : World) (l : List Int) (x : Int) (e : Ending) (w' : World) : Prop := ∃ u, e = .returned (.tuple #[u, .bool (decide (x ∈ l))]) ∧ (∃ m : List Int, m = (if x ∈ l then l.erase x else []) ∧ w'.ownsRow w.heap.size 3 1 u m.length (ints m)) ∧ w.grownBy w' none
theorem WoPost.yes {w w' : World} {l : List Int} {x : Int} {u : Value} {k n : Nat} (hF : FstI l x k) (ho : w'.ownsRow w.heap.size 3 1 u n (ints (l.take k ++ l.drop (k + 1)))) (hg : w.grownBy w' none) : WoPost w l x (.returned (.tuple #[u, .bool true])) w' :=
  ⟨u, by rw [decide_eq_true hF.mem], ⟨_, rfl, by rw [if_pos hF.mem, hF.erase, own_len ho]; exact ho⟩, hg⟩
theorem WoPost.no {w : World} {l : List Int} {x : Int} (hF : x ∉ l) : WoPost w l x (.returned (.tuple #[.slice none 0 0, .bool false])) w :=
  ⟨_, by rw [decide_eq_false hF], ⟨_, rfl, by rw [if_neg hF]; exact World.ownsRow_nil _ _ _ _⟩, grown_refl _ _⟩
theorem wo_drop {w : World} {base n k K : Nat} {v : Value} {l : List Int} (hK : K = k + 1) (h : w.ownsRow base 3 1 v n (ints (l.take k ++ l.drop K))) : w.ownsRow base 3 1 v n (ints (l.take k ++ l.drop (k + 1))) := by
  subst hK
  exact h
theorem wp_append_at {P : Program} {w : World} {o : Oper} {a : Act} {K : Act → World → Prop} {Q : Exit → Act → World → Prop} (s x : Operand) (t : TypeId)
    (ho : o.op = .call { callee := .builtin .append, args := #[s, x], argTypes := #[t, t] })
    (base : Nat) (e : TypeId) (i : TypeInfo) (z : Value) (size bytes : Nat) (ht : P.underlying t = some (.slice e)) (hi : P.info? e = some i) (hz : i.zero = some z)
    (hsize : i.size = size) (hby : i.bytes = bytes) (hzs : z.cells.size = size) (hsz : 0 < size)
    (v : Value) (n : Nat) (xs : List Value) (hs : a.eval s = v) (hown : w.ownsRow base e size v n xs)
    (ad : Addr) (m c : Nat) (news : List Value) (hx : a.eval x = .slice (some ad) m c) (hl : news.length = m * size) (hnews : ∀ j u, news[j]? = some u → w.cell? (ad.add j) = some u) (h1 : ∀ u ∈ news, u.oneCell' = true)
    (h63 : n + m ≤ maxLen) (hbytes : (n + m) * bytes ≤ 140737488355328) (hbase : base ≤ w.heap.size)
    (h : ∀ v' w', w'.ownsRow base e size v' (n + m) (xs ++ news) → w.grownBy w' v.ownBlock → (v'.ownBlock = v.ownBlock ∨ v'.ownBlock = some w.heap.size) → K (a.put o.dst v') w') : Oper.wp P o a w K Q := by
  obtain ⟨v', w', hr, h2, h3, _, h5⟩ := run_append_own_at (P := P) w base t o.type e i z size bytes ht hi hz hsize hby hzs hsz v n xs hown ad m c news hl hnews h1 h63 hbytes hbase
  unfold Oper.wp execOp
  simp only [ho, resolve, invoke, builtin, Sem.run_bind, Sem.run_pure, Result.andThen_ok, List.map_toArray, List.map_cons, List.map_nil, hs, hx, hr]
  exact h v' w' h2 h3 h5
end Go.Proofs.YtogpgldbbegniaaGreat
namespace Go.Proofs.YtogpgldbbegniaaGreat
open Go.RowKit

/-- What Draw answers: the first number, the others in new memory, and true; or 0, nothing and false. -/
def DrPost (w : World) (l : List Int) (e : Ending) (w' : World) : Prop := ∃ u, e = .returned (.tuple #[.int .i64 (l.headD 0), u, .bool (decide (l ≠ []))]) ∧ w'.ownsRow w.heap.size 3 1 u l.tail.length (ints l.tail) ∧ w.grownBy w' none
/-- What Cut answers. -/
def cutP (l : List Int) (k : Int) : List Int × List Int × Int := if 0 ≤ k ∧ k ≤ (l.length : Int) then (l.take k.toNat, l.drop k.toNat, 0) else ([], [], 2)
def CuPost (w : World) (l : List Int) (k : Int) (e : Ending) (w' : World) : Prop := ∃ u v, e = .returned (.tuple #[u, v, .int .i64 (cutP l k).2.2]) ∧ (∃ m, w.heap.size ≤ m ∧ m ≤ w'.heap.size ∧ (∀ b, u.ownBlock = some b → b < m) ∧ w'.ownsRow w.heap.size 3 1 u (cutP l k).1.length (ints (cutP l k).1) ∧ w'.ownsRow m 3 1 v (cutP l k).2.1.length (ints (cutP l k).2.1)) ∧ w.grownBy w' none
theorem CuPost.no {w : World} {l : List Int} {k : Int} (h : ¬ (0 ≤ k ∧ k ≤ (l.length : Int))) : CuPost w l k (.returned (.tuple #[.slice none 0 0, .slice none 0 0, .int .i64 2])) w := by
  unfold CuPost cutP
  rw [if_neg h]
  exact ⟨_, _, rfl, ⟨w.heap.size, Nat.le_refl _, Nat.le_refl _, fun b hb => by simp [Value.ownBlock] at hb, World.ownsRow_nil _ _ _ _, World.ownsRow_nil _ _ _ _⟩, grown_refl _ _⟩
theorem CuPost.yes {w w' : World} {l : List Int} {k : Nat} {u v : Value} {n1 n2 : Nat} (hk : k ≤ l.length) (h : (∃ m, w.heap.size ≤ m ∧ m ≤ w'.heap.size ∧ (∀ b, u.ownBlock = some b → b < m) ∧ w'.ownsRow w.heap.size 3 1 u n1 (ints (l.take k)) ∧ w'.ownsRow m 3 1 v n2 (ints (l.drop k))) ∧ w.grownBy w' none) : CuPost w l (k : Int) (.returned (.tuple #[u, v, .int .i64 0])) w' := by
  unfold CuPost cutP
  rw [if_pos ⟨by omega, by omega⟩]
  obtain ⟨⟨m, h1, h2, h3, h4, h5⟩, hg⟩ := h
  simp only [Int.toNat_natCast]
  exact ⟨_, _, rfl, ⟨m, h1, h2, h3, by rw [own_len h4]; exact h4, by rw [own_len h5]; exact h5⟩, hg⟩
end Go.Proofs.YtogpgldbbegniaaGreat
namespace Go.Proofs.YtogpgldbbegniaaGreat
open Go.RowKit

theorem ShAt.drew {w wr : World} {g cap : Nat} {cur : List Int} (h : ShAt w wr g cap cur) : ShAt w wr.drew g cap cur := ⟨h.1, ⟨h.2.os, h.2.tape, h.2.output, h.2.size, h.2.block⟩⟩
end Go.Proofs.YtogpgldbbegniaaGreat
