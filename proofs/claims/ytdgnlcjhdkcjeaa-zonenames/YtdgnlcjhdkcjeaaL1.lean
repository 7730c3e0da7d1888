/-
  The document's Cut.
  Two lists, one behind the other, in new memory: the program's joined.
  The program's Draw, Under, Cut.
  Lists of numbers where they can be cut: nothing at all, or a plain place with room.
  slices.Index of numbers; Without, of the program and of the document: the list without the first x.
  Draw, Under, Without, Cut of every list, of the program and of the document: the same answers.
  The program's Shuffle.
  ApartInts of lists that lie in blocks of their own answers true: each place holds what was written there.
  OverInts; lists of the call's own as ApartInts takes them.
  PileShuffles, walked: Next and Shuffle are the document's, of every list and state; what was handed in stays; the answers lie in memory of their own. (The program's Shuffle: pshuf_any, as rshuf_any.)
  Which numbers may be dealt; one hand: what stands at h, h + hands, h + 2 hands, ..
-/
import Derived.Test.YtdgnlcjhdkcjeaaL0
import Derived.Laws.CopyOwn
import Derived.Deep.CutRange
import Derived.Deep.RegionHeld
namespace Go.Proofs.Ytdgnlcjhdkcjeaa
open Go.RowKit

theorem ints_upto {w : World} {g off n cap k : Nat} {l : List Int} (h : IntsA w (.slice (some ⟨g, off, none⟩) n cap) l) (hk : k ≤ n) : IntsA w (.slice (some ⟨g, off, none⟩) k cap) (l.take k) := by
  rcases h with ⟨h, _⟩ | ⟨ad, c, h, hcell⟩
  · cases h
  · cases h
    have hl : (l.take k).length = k := by rw [List.length_take]; omega
    refine Or.inr ⟨_, _, by rw [hl], fun j u hu => hcell j u ?_⟩
    have hj : j < k := by have := (List.getElem?_eq_some_iff.1 hu).1; rw [length_ints, hl] at this; exact this
    unfold ints at hu ⊢
    rw [List.getElem?_map, List.getElem?_take, if_pos hj] at hu
    rw [List.getElem?_map]
    exact hu
theorem ints_past {w : World} {g off n cap k : Nat} {l : List Int} (h : IntsA w (.slice (some ⟨g, off, none⟩) n cap) l) (hk : k ≤ n) (hc : n ≤ cap) : IntsA w (.slice (if cap = k then some ⟨g, off, none⟩ else some ⟨g, off + k, none⟩) (n - k) (cap - k)) (l.drop k) := by
  rcases h with ⟨h, _⟩ | ⟨ad, c, h, hcell⟩
  · cases h
  · cases h
    have hl : (l.drop k).length = l.length - k := List.length_drop
    by_cases e : cap = k
    · rw [if_pos e]
      have h0 : l.drop k = [] := List.length_eq_zero_iff.1 (by omega)
      rw [h0]
      exact Or.inr ⟨_, _, by rw [show l.length - k = 0 by omega]; rfl, fun j u hu => by simp [ints] at hu⟩
    · rw [if_neg e]
      refine Or.inr ⟨_, _, by rw [hl], fun j u hu => ?_⟩
      have := hcell (k + j) u (by unfold ints at hu ⊢; rw [List.getElem?_map, List.getElem?_drop] at hu; rw [List.getElem?_map]; exact hu)
      rw [add_plain] at this ⊢
      rw [show off + k + j = off + (k + j) by omega]
      exact this
theorem own_under {w : World} {base n : Nat} {v : Value} {xs : List Value} (h : w.ownsRow base 3 1 v n xs) : ∀ b, v.ownBlock = some b → b < w.heap.size := by
  intro b hb
  rcases h.2 with ⟨e, _⟩ | ⟨g, cap, cur, e, _, hh, _⟩
  · rw [e] at hb; simp [Value.ownBlock] at hb
  · rw [e] at hb; simp [Value.ownBlock] at hb; rw [← hb]; exact block_lt hh
theorem cut_fin {w w1 w2 : World} {u v : Value} {k j : Nat} {xs ys : List Value} (hd : w.grownBy w.drew none) (o1 : w1.ownsRow w.heap.size 3 1 u k xs) (g1 : w.drew.grownBy w1 none) (o2 : w2.ownsRow w1.heap.size 3 1 v j ys) (g2 : w1.grownBy w2 none) : (∃ m, w.heap.size ≤ m ∧ m ≤ w2.heap.size ∧ (∀ b, u.ownBlock = some b → b < m) ∧ w2.ownsRow w.heap.size 3 1 u k xs ∧ w2.ownsRow m 3 1 v j ys) ∧ w.grownBy w2 none :=
  ⟨⟨w1.heap.size, (grown_trans hd g1).size, g2.size, own_under o1, World.ownsRow.kept o1 g2 (Classical.em _), o2⟩, grown_trans (grown_trans hd g1) g2⟩
end Go.Proofs.Ytdgnlcjhdkcjeaa
namespace Go.Proofs.Ytdgnlcjhdkcjeaa
open Go.RowKit

/-- Numbers that were handed in: where they lie, if there are any. -/
theorem IntsA.src {w : World} {v : Value} {os : List Int} (h : IntsA w v os) : ∃ p c, v = .slice p os.length c ∧ (0 < os.length → ∃ ad, p = some ad ∧ ∀ j u, (ints os)[j]? = some u → w.cell? (Addr.add ad j) = some u) := by
  rcases h with ⟨rfl, rfl⟩ | ⟨ad, cap, rfl, h⟩
  · exact ⟨_, _, rfl, fun h => absurd h (by simp)⟩
  · exact ⟨_, _, rfl, fun _ => ⟨ad, rfl, h⟩⟩
theorem below_grown {w w' : World} (h : Below w.heap.size w w') : w.grownBy w' none := ⟨h.os, h.tape, h.output, h.size, fun k hk _ => h.block k hk⟩
theorem splice_two {α : Type} (Z A B : List α) (k : Nat) (hk : A.length = k) (hZ : Z.length = k + B.length) : splice (splice Z 0 A) k B = A ++ B := by
  subst hk
  have e1 : splice Z 0 A = A ++ Z.drop A.length := by simp [splice]
  rw [e1]
  unfold splice
  rw [List.take_left, List.drop_append]
  have e2 : List.drop (A.length + B.length) A = [] := List.drop_eq_nil_of_le (by omega)
  have e3 : List.drop (A.length + B.length - A.length) (List.drop A.length Z) = [] := List.drop_eq_nil_of_le (by simp; omega)
  rw [e2, e3]
  simp
/-- The new list, made: a block of so many cells. -/
theorem made_block {w V : World} {N : Nat} {xs : List Value} (h : V.ownsRow w.heap.size 3 1 (.slice (some ⟨w.heap.size, 0, none⟩) N N) N xs) : ∃ Z : List Value, Z.length = N ∧ V.heap[w.heap.size]? = some (.cells Z.toArray 3 (0, 0)) := by
  rcases h.2 with ⟨h', _⟩ | ⟨g, cap, cur, h', hb, hh, hn, hm, hs, ht⟩
  · simp at h'
  · simp at h'
    obtain ⟨rfl, rfl⟩ := h'
    exact ⟨cur.toList, by simp [hs], by simpa using hh⟩
theorem block_own {w V : World} {N : Nat} {l : List Int} (h : V.heap[w.heap.size]? = some (.cells (ints l).toArray 3 (0, 0))) (hl : l.length = N) (hN : N ≤ maxLen) : V.ownsRow w.heap.size 3 1 (.slice (some ⟨w.heap.size, 0, none⟩) N N) N (ints l) :=
  ⟨by rw [length_ints, Nat.mul_one, hl], Or.inr ⟨w.heap.size, N, _, rfl, Nat.le_refl _, h, Nat.le_refl _, hN, by simp [length_ints, hl], by simp [← hl, length_ints, List.take_of_length_le]⟩⟩
end Go.Proofs.Ytdgnlcjhdkcjeaa
namespace Go.Proofs.Ytdgnlcjhdkcjeaa
open Go.RowKit

theorem own_low {w : World} {b b' n : Nat} {v : Value} {xs : List Value} (h : w.ownsRow b' 3 1 v n xs) (hb : b ≤ b') : w.ownsRow b 3 1 v n xs := by
  refine ⟨h.1, ?_⟩
  rcases h.2 with h | ⟨g, cap, cur, e, hg, r⟩
  · exact Or.inl h
  · exact Or.inr ⟨g, cap, cur, e, Nat.le_trans hb hg, r⟩
theorem one_ints {w : World} {g : Nat} {x : Int} (h : w.heap[g]? = some (.cells #[.int .i64 x] 3 (0, 0))) : IntsA w (.slice (some ⟨g, 0, none⟩) 1 1) [x] := Or.inr ⟨_, _, rfl, fun j u hu => by
  rw [add_plain, Nat.zero_add, block_cell h]
  simpa [ints] using hu⟩
end Go.Proofs.Ytdgnlcjhdkcjeaa
namespace Go.Proofs.Ytdgnlcjhdkcjeaa
open Go.RowKit

def isI (z : Int) : Prop := -9223372036854775808 ≤ z ∧ z < 9223372036854775808
/-- Numbers in a list that may be cut. -/
def IntsB (w : World) (v : Value) (os : List Int) : Prop := (∃ a, v = .slice a 0 0 ∧ os = []) ∨ ∃ g off cap, v = .slice (some ⟨g, off, none⟩) os.length cap ∧ os.length ≤ cap ∧ ∀ (j : Nat) u, (ints os)[j]? = some u → w.cell? ⟨g, off + j, none⟩ = some u
theorem IntsB.a {w : World} {v : Value} {os : List Int} (h : IntsB w v os) : IntsA w v os := by
  rcases h with ⟨a, rfl, rfl⟩ | ⟨g, off, cap, rfl, _, h⟩
  · cases a with
    | none => exact Or.inl ⟨rfl, rfl⟩
    | some ad => exact Or.inr ⟨ad, 0, rfl, fun j u hu => by simp [ints] at hu⟩
  · exact Or.inr ⟨_, _, rfl, fun j u hu => by rw [add_plain]; exact h j u hu⟩
theorem IntsB.keep {w w' : World} {v : Value} {os : List Int} (h : IntsB w v os) (g : w.grownBy w' none) : IntsB w' v os := by
  rcases h with h | ⟨b, off, cap, e, hc, h⟩
  · exact Or.inl h
  · exact Or.inr ⟨b, off, cap, e, hc, fun j u hu => g.cell (h j u hu) (by simp)⟩
theorem IntsB.form {w : World} {v : Value} {l : List Int} (h : IntsB w v l) : ∃ a c, v = .slice a l.length c := by
  rcases h with ⟨a, rfl, rfl⟩ | ⟨g, off, cap, rfl, _, _⟩
  · exact ⟨_, _, rfl⟩
  · exact ⟨_, _, rfl⟩
/-- A list of the call's own may be cut. -/
theorem own_B {w : World} {base n : Nat} {v : Value} {l : List Int} (h : w.ownsRow base 3 1 v n (ints l)) (hn : l.length = n) : IntsB w v l := by
  subst hn
  rcases h.2 with ⟨e, h0⟩ | ⟨g, cap, cur, e, hb, hh, hc, hm, hs, ht⟩
  · exact Or.inl ⟨none, e, List.length_eq_zero_iff.1 h0⟩
  · subst e
    refine Or.inr ⟨g, 0, cap, rfl, hc, fun j u hu => ?_⟩
    have hj := (List.getElem?_eq_some_iff.1 hu).1
    rw [length_ints] at hj
    rw [Nat.zero_add, World.ownsRow.cellAt h j (by omega)]
    exact hu
end Go.Proofs.Ytdgnlcjhdkcjeaa
namespace Go.Proofs.Ytdgnlcjhdkcjeaa
open Go.RowKit

/-- None of the first k numbers is x. -/
def NonI (l : List Int) (x : Int) (k : Nat) : Prop := ∀ j, j < k → l.getD j 0 ≠ x
/-- x stands at k, and not ahead of it. -/
def FstI (l : List Int) (x : Int) (k : Nat) : Prop := k < l.length ∧ l.getD k 0 = x ∧ NonI l x k
theorem first_of {l : List Int} {x : Int} (h : x ∈ l) : ∃ k, FstI l x k := by
  induction l with
  | nil => simp at h
  | cons a l ih =>
    by_cases e : a = x
    · exact ⟨0, by simp, by simpa using e, fun j hj => by omega⟩
    · obtain ⟨k, h1, h2, h3⟩ := ih (by rcases List.mem_cons.1 h with h | h; exact absurd h.symm e; exact h)
      refine ⟨k + 1, by simpa using h1, by simpa using h2, fun j hj => ?_⟩
      cases j with
      | zero => simpa using e
      | succ j => simpa using h3 j (by omega)
theorem none_of {l : List Int} {x : Int} (h : x ∉ l) : NonI l x l.length := fun j hj e => h (by rw [← e, getD_at l j hj]; exact List.getElem_mem _)
theorem FstI.erase {l : List Int} {x : Int} {k : Nat} (h : FstI l x k) : l.erase x = l.take k ++ l.drop (k + 1) :=
  erase_at l x k h.1 (by rw [← getD_at l k h.1]; exact h.2.1) (fun j hj => by have := h.2.2 j hj; rw [getD_at l j (by have := h.1; omega)] at this; exact this)
theorem FstI.mem {l : List Int} {x : Int} {k : Nat} (h : FstI l x k) : x ∈ l := by rw [← h.2.1, getD_at l k h.1]; exact List.getElem_mem _
theorem NonI.next {l : List Int} {x : Int} {k : Nat} (h : NonI l x k) (hx : l.getD k 0 ≠ x) : NonI l x (k + 1) := fun j hj => by
  rcases (show j < k ∨ j = k from by omega) with h' | rfl
  · exact h j h'
  · exact hx
theorem own_len {w : World} {base n : Nat} {v : Value} {l : List Int} (h : w.ownsRow base 3 1 v n (ints l)) : l.length = n := by
  have := h.1
  rw [length_ints] at this
  omega
/-- The cells of a list that may be cut. -/
def CellsB (w : World) (g off : Nat) (l : List Int) : Prop := ∀ j, j < l.length → w.cell? ⟨g, off + j, none⟩ = some (.int .i64 (l.getD j 0))
theorem cells_of {w : World} {g off : Nat} {l : List Int} (h : ∀ (j : Nat) u, (ints l)[j]? = some u → w.cell? ⟨g, off + j, none⟩ = some u) : CellsB w g off l := fun j hj => h j _ (ints_at l j hj)
theorem CellsB.keep {w w' : World} {g off : Nat} {l : List Int} (h : CellsB w g off l) (k : w.grownBy w' none) : CellsB w' g off l := fun j hj => k.cell (h j hj) (by simp)
theorem CellsB.ints {w : World} {g off cap : Nat} {l : List Int} (h : CellsB w g off l) : IntsA w (.slice (some ⟨g, off, none⟩) l.length cap) l := Or.inr ⟨_, _, rfl, fun j u hu => by
  have hj := (List.getElem?_eq_some_iff.1 hu).1
  rw [length_ints] at hj
  rw [add_plain, h j hj, ← hu, ints_at l j hj]⟩
/-- What Without answers: the list without the first x and true, or nothing and false. -/
def WoPost (w : World) (l : List Int) (x : Int) (e : Ending) (w' : World) : Prop := ∃ u, e = .returned (.tuple #[u, .bool (decide (x ∈ l))]) ∧ (∃ m : List Int, m = (if x ∈ l then l.erase x else []) ∧ w'.ownsRow w.heap.size 3 1 u m.length (ints m)) ∧ w.grownBy w' none
theorem WoPost.yes {w w' : World} {l : List Int} {x : Int} {u : Value} {k n : Nat} (hF : FstI l x k) (ho : w'.ownsRow w.heap.size 3 1 u n (ints (l.take k ++ l.drop (k + 1)))) (hg : w.grownBy w' none) : WoPost w l x (.returned (.tuple #[u, .bool true])) w' :=
  ⟨u, by rw [decide_eq_true hF.mem], ⟨_, rfl, by rw [if_pos hF.mem, hF.erase, own_len ho]; exact ho⟩, hg⟩
theorem WoPost.no {w : World} {l : List Int} {x : Int} (hF : x ∉ l) : WoPost w l x (.returned (.tuple #[.slice none 0 0, .bool false])) w :=
  ⟨_, by rw [decide_eq_false hF], ⟨_, rfl, by rw [if_neg hF]; exact World.ownsRow_nil _ _ _ _⟩, grown_refl _ _⟩
theorem wo_drop {w : World} {base n k K : Nat} {v : Value} {l : List Int} (hK : K = k + 1) (h : w.ownsRow base 3 1 v n (ints (l.take k ++ l.drop K))) : w.ownsRow base 3 1 v n (ints (l.take k ++ l.drop (k + 1))) := by
  subst hK
  exact h
theorem wp_append_at {P : Program} {w : World} {o : Oper} {a : Act} {K : Act → World → Prop} {Q : Exit → Act → World → Prop} (s x : Operand) (t : TypeId)
    (ho : o.op = .call { callee := .builtin .append, args := #[s, x], argTypes := #[t, t] })
    (base : Nat) (e : TypeId) (i : TypeInfo) (z : Value) (size bytes : Nat) (ht : P.underlying t = some (.slice e)) (hi : P.info? e = some i) (hz : i.zero = some z)
    (hsize : i.size = size) (hby : i.bytes = bytes) (hzs : z.cells.size = size) (hsz : 0 < size)
    (v : Value) (n : Nat) (xs : List Value) (hs : a.eval s = v) (hown : w.ownsRow base e size v n xs)
    (ad : Addr) (m c : Nat) (news : List Value) (hx : a.eval x = .slice (some ad) m c) (hl : news.length = m * size) (hnews : ∀ j u, news[j]? = some u → w.cell? (ad.add j) = some u) (h1 : ∀ u ∈ news, u.oneCell' = true)
    (h63 : n + m ≤ maxLen) (hbytes : (n + m) * bytes ≤ 140737488355328) (hbase : base ≤ w.heap.size)
    (h : ∀ v' w', w'.ownsRow base e size v' (n + m) (xs ++ news) → w.grownBy w' v.ownBlock → (v'.ownBlock = v.ownBlock ∨ v'.ownBlock = some w.heap.size) → K (a.put o.dst v') w') : Oper.wp P o a w K Q := by
  obtain ⟨v', w', hr, h2, h3, _, h5⟩ := run_append_own_at (P := P) w base t o.type e i z size bytes ht hi hz hsize hby hzs hsz v n xs hown ad m c news hl hnews h1 h63 hbytes hbase
  unfold Oper.wp execOp
  simp only [ho, resolve, invoke, builtin, Sem.run_bind, Sem.run_pure, Result.andThen_ok, List.map_toArray, List.map_cons, List.map_nil, hs, hx, hr]
  exact h v' w' h2 h3 h5
end Go.Proofs.Ytdgnlcjhdkcjeaa
namespace Go.Proofs.Ytdgnlcjhdkcjeaa
open Go.RowKit

/-- What Draw answers: the first number, the others in new memory, and true; or 0, nothing and false. -/
def DrPost (w : World) (l : List Int) (e : Ending) (w' : World) : Prop := ∃ u, e = .returned (.tuple #[.int .i64 (l.headD 0), u, .bool (decide (l ≠ []))]) ∧ w'.ownsRow w.heap.size 3 1 u l.tail.length (ints l.tail) ∧ w.grownBy w' none
/-- What Cut answers. -/
def cutP (l : List Int) (k : Int) : List Int × List Int × Int := if 0 ≤ k ∧ k ≤ (l.length : Int) then (l.take k.toNat, l.drop k.toNat, 0) else ([], [], 2)
def CuPost (w : World) (l : List Int) (k : Int) (e : Ending) (w' : World) : Prop := ∃ u v, e = .returned (.tuple #[u, v, .int .i64 (cutP l k).2.2]) ∧ (∃ m, w.heap.size ≤ m ∧ m ≤ w'.heap.size ∧ (∀ b, u.ownBlock = some b → b < m) ∧ w'.ownsRow w.heap.size 3 1 u (cutP l k).1.length (ints (cutP l k).1) ∧ w'.ownsRow m 3 1 v (cutP l k).2.1.length (ints (cutP l k).2.1)) ∧ w.grownBy w' none
theorem CuPost.no {w : World} {l : List Int} {k : Int} (h : ¬ (0 ≤ k ∧ k ≤ (l.length : Int))) : CuPost w l k (.returned (.tuple #[.slice none 0 0, .slice none 0 0, .int .i64 2])) w := by
  unfold CuPost cutP
  rw [if_neg h]
  exact ⟨_, _, rfl, ⟨w.heap.size, Nat.le_refl _, Nat.le_refl _, fun b hb => by simp [Value.ownBlock] at hb, World.ownsRow_nil _ _ _ _, World.ownsRow_nil _ _ _ _⟩, grown_refl _ _⟩
theorem CuPost.yes {w w' : World} {l : List Int} {k : Nat} {u v : Value} {n1 n2 : Nat} (hk : k ≤ l.length) (h : (∃ m, w.heap.size ≤ m ∧ m ≤ w'.heap.size ∧ (∀ b, u.ownBlock = some b → b < m) ∧ w'.ownsRow w.heap.size 3 1 u n1 (ints (l.take k)) ∧ w'.ownsRow m 3 1 v n2 (ints (l.drop k))) ∧ w.grownBy w' none) : CuPost w l (k : Int) (.returned (.tuple #[u, v, .int .i64 0])) w' := by
  unfold CuPost cutP
  rw [if_pos ⟨by omega, by omega⟩]
  obtain ⟨⟨m, h1, h2, h3, h4, h5⟩, hg⟩ := h
  simp only [Int.toNat_natCast]
  exact ⟨_, _, rfl, ⟨m, h1, h2, h3, by rw [own_len h4]; exact h4, by rw [own_len h5]; exact h5⟩, hg⟩
end Go.Proofs.Ytdgnlcjhdkcjeaa
namespace Go.Proofs.Ytdgnlcjhdkcjeaa
open Go.RowKit

theorem ShAt.drew {w wr : World} {g cap : Nat} {cur : List Int} (h : ShAt w wr g cap cur) : ShAt w wr.drew g cap cur := ⟨h.1, ⟨h.2.os, h.2.tape, h.2.output, h.2.size, h.2.block⟩⟩
end Go.Proofs.Ytdgnlcjhdkcjeaa
namespace Go.Proofs.Ytdgnlcjhdkcjeaa
open Go.RowKit

def RoomI (w : World) (g cap : Nat) : Prop := ∃ cs, w.heap[g]? = some (.cells cs 3 (0, 0)) ∧ cs.size = cap
theorem RoomI.cell {w : World} {g cap : Nat} (h : RoomI w g cap) {i : Nat} (hi : i < cap) : ∃ u, w.cell? ⟨g, i, none⟩ = some u := by
  obtain ⟨cs, h1, h2⟩ := h
  exact ⟨_, by rw [block_cell h1]; exact Array.getElem?_eq_getElem (by omega)⟩
theorem RoomI.free {w : World} {g cap : Nat} (h : RoomI w g cap) (i : Nat) : w.frozen? ⟨g, i, none⟩ = false := by
  obtain ⟨cs, h1, h2⟩ := h
  exact block_free h1 i
def mkI (i k : Int) : Int := wrap64 (wrap64 (wrap64 (-1000003 * i) - k) - 5)
def Lst.okI (w : World) (x : Lst) : Prop := (x.a = none ∧ x.n = 0 ∧ x.cap = 0) ∨ ∃ g, x.a = some g ∧ x.n ≤ x.cap ∧ lim x.cap ∧ RoomI w g x.cap
/-- The lists, marked so far: those before i, and of list i the first k places. -/
def MkI (w : World) (T : List Lst) (i k : Nat) : Prop := ∀ (j : Nat) (x : Lst) (g : Nat), T[j]? = some x → x.a = some g → ∃ cs, w.heap[g]? = some (.cells cs 3 (0, 0)) ∧ cs.size = x.cap ∧ ∀ m, m < x.cap → (j < i ∨ (j = i ∧ m < k)) → cs[m]? = some (.int .i64 (mkI j m))
theorem MkI.keep {w w' : World} {T : List Lst} {i k : Nat} (M : MkI w T i k) (g : w.grownBy w' none) : MkI w' T i k := fun j x b hj hb => by
  obtain ⟨cs, h1, h2⟩ := M j x b hj hb
  exact ⟨cs, grown_keep g h1 (by simp), h2⟩
theorem mkI_start {w w' : World} {T : List Lst} (D : ∀ x ∈ T, x.okI w) (g : w.grownBy w' none) : MkI w' T 0 0 := fun j x b hj hb => by
  rcases D x (List.mem_of_getElem? hj) with ⟨h, _⟩ | ⟨g', h, _, _, cs, h1, h2⟩
  · rw [h] at hb; cases hb
  · rw [h] at hb
    obtain rfl := Option.some.inj hb
    exact ⟨cs, grown_keep g h1 (by simp), h2, fun m _ h => by omega⟩
theorem MkI.room {w : World} {T : List Lst} {i k j g : Nat} {x : Lst} (M : MkI w T i k) (hj : T[j]? = some x) (hg : x.a = some g) : RoomI w g x.cap := by
  obtain ⟨cs, h1, h2, _⟩ := M j x g hj hg
  exact ⟨cs, h1, h2⟩
theorem MkI.read {w : World} {T : List Lst} {g : Nat} {j : Nat} {x : Lst} (M : MkI w T T.length 0) (hj : T[j]? = some x) (hg : x.a = some g) {m : Nat} (hm : m < x.cap) : w.cell? ⟨g, m, none⟩ = some (.int .i64 (mkI j m)) := by
  obtain ⟨cs, h1, h2, h3⟩ := M j x g hj hg
  rw [block_cell h1]
  exact h3 m hm (Or.inl (List.getElem?_eq_some_iff.1 hj).1)
/-- A trait is written at place m of block g. -/
def putI (w : World) (g o : Nat) (z : Int) : World := w.setCell ⟨g, o, none⟩ (.int .i64 z)
theorem putI_block {w : World} {g : Nat} {cs : Array Value} (h : w.heap[g]? = some (.cells cs 3 (0, 0))) (o : Nat) (z : Int) : (putI w g o z).heap[g]? = some (.cells (cs.setIfInBounds o (.int .i64 z)) 3 (0, 0)) := block_set h _ _
theorem putI_grown (w : World) (g o : Nat) (z : Int) : w.grownBy (putI w g o z) (some g) := grown_set _ _ _ _
theorem MkI.step {w : World} {T : List Lst} {i k g : Nat} {x : Lst} (M : MkI w T i k) (hD : Diff T) (hi : T[i]? = some x) (hg : x.a = some g) (hk : k < x.cap) : MkI (putI w g k (mkI i k)) T i (k + 1) := fun j y b hj hb => by
  obtain ⟨cs, h1, h2, h3⟩ := M j y b hj hb
  by_cases e : b = g
  · subst e
    obtain rfl := hD j i y x b hj hi hb hg
    obtain rfl : y = x := Option.some.inj (hj.symm.trans hi)
    refine ⟨_, putI_block h1 _ _, by simpa using h2, fun m hm h => ?_⟩
    rw [Array.getElem?_setIfInBounds]
    by_cases em : k = m
    · subst em
      rw [if_pos rfl, if_pos (by omega)]
    · rw [if_neg em]
      exact h3 m hm (by omega)
  · refine ⟨cs, grown_keep (putI_grown w g _ _) h1 (by simpa using e), h2, fun m hm h => h3 m hm ?_⟩
    by_cases ej : j = i
    · subst ej
      obtain rfl : y = x := Option.some.inj (hj.symm.trans hi)
      rw [hg] at hb
      exact absurd (Option.some.inj hb).symm e
    · omega
theorem MkI.next {w : World} {T : List Lst} {i k : Nat} {x : Lst} (M : MkI w T i k) (hi : T[i]? = some x) (hk : x.cap ≤ k) : MkI w T (i + 1) 0 := fun j y b hj hb => by
  obtain ⟨cs, h1, h2, h3⟩ := M j y b hj hb
  refine ⟨cs, h1, h2, fun m hm h => h3 m hm ?_⟩
  by_cases e : j = i
  · subst e
    obtain rfl : y = x := Option.some.inj (hj.symm.trans hi)
    omega
  · omega
theorem Try.infoI : (Try.prog.info? 26).map (fun i => (i.zero, i.size, i.bytes)) = some (some (.slice none 0 0), 1, 24) := by kernel_rfl
theorem rowI_of_own {w : World} {base : Nat} {v : Value} {T : List Lst} (h : w.ownsRow base 26 1 v T.length (fcells T)) (h0 : 0 < T.length) : ∃ g cap, v = .slice (some ⟨g, 0, none⟩) T.length cap ∧ base ≤ g ∧ (∀ (j : Nat) x, T[j]? = some x → w.cell? ⟨g, j, none⟩ = some x.f) ∧ ∃ cs, w.heap[g]? = some (.cells cs 26 (0, 0)) := by
  obtain ⟨h1, h2⟩ := h
  rcases h2 with ⟨rfl, e⟩ | ⟨g, cap, cur, rfl, hg0, hh, hn, hm, hs, ht⟩
  · omega
  · refine ⟨g, cap, rfl, hg0, fun j x hj => ?_, cur, hh⟩
    have hl := (List.getElem?_eq_some_iff.1 hj).1
    have e : (fcells T)[j]? = some x.f := by unfold fcells; rw [List.getElem?_map, hj]; rfl
    rw [block_cell hh, ← e, ← ht, List.getElem?_take, if_pos (by omega)]
    simp
def S12I (ga k g xc : Nat) (w : World) : Prop := w.cell? ⟨ga, k, none⟩ = some (.slice (some ⟨g, 0, none⟩) xc xc)
theorem S12I.c {ga k g xc : Nat} {w : World} (h : S12I ga k g xc w) : w.cell? ⟨ga, k, none⟩ = some (.slice (some ⟨g, 0, none⟩) xc xc) := h
def S19I (ga k g xc m : Nat) (w : World) : Prop := w.cell? ⟨ga, k, none⟩ = some (.slice (some ⟨g, 0, none⟩) xc xc) ∧ w.cell? ⟨g, m, none⟩ = some (.int .i64 (mkI k m))
theorem S19I.c {ga k g xc m : Nat} {w : World} (h : S19I ga k g xc m w) : w.cell? ⟨ga, k, none⟩ = some (.slice (some ⟨g, 0, none⟩) xc xc) := h.1
theorem S19I.p {ga k g xc m : Nat} {w : World} (h : S19I ga k g xc m w) : w.cell? ⟨g, m, none⟩ = some (.int .i64 (mkI k m)) := h.2
end Go.Proofs.Ytdgnlcjhdkcjeaa
namespace Go.Proofs.Ytdgnlcjhdkcjeaa
open Go.RowKit

/-- Blocks that rise are different ones. -/
theorem diff_rising {T : List Lst} (h : T.Pairwise fun x y => ∀ a b, x.a = some a → y.a = some b → a < b) : Diff T := fun i j x y g hi hj hx hy => by
  have hi' := List.getElem?_eq_some_iff.1 hi
  have hj' := List.getElem?_eq_some_iff.1 hj
  obtain ⟨li, ei⟩ := hi'
  obtain ⟨lj, ej⟩ := hj'
  rw [List.pairwise_iff_getElem] at h
  rcases Nat.lt_trichotomy i j with c | c | c
  · have := h i j li lj c g g (by rw [ei]; exact hx) (by rw [ej]; exact hy)
    omega
  · exact c
  · have := h j i lj li c g g (by rw [ej]; exact hy) (by rw [ei]; exact hx)
    omega
/-- A list of the call's own, as ApartInts takes it: behind base, ahead of the heap's end. -/
theorem own_lstI {w : World} {base n : Nat} {v : Value} {xs : List Value} (h : w.ownsRow base 3 1 v n xs) : ∃ x : Lst, v = x.v ∧ x.n = n ∧ x.okI w ∧ ∀ g, x.a = some g → base ≤ g ∧ g < w.heap.size := by
  rcases h.2 with ⟨e, h0⟩ | ⟨g, cap, cur, e, hb, hh, hn, hm, hs, ht⟩
  · exact ⟨⟨none, 0, 0⟩, e, h0.symm, Or.inl ⟨rfl, rfl, rfl⟩, fun g hg => by cases hg⟩
  · exact ⟨⟨some g, n, cap⟩, e, rfl, Or.inr ⟨g, rfl, hn, hm, cur, hh, by rw [hs, Nat.mul_one]⟩, fun g' hg => by cases hg; exact ⟨hb, block_lt hh⟩⟩
theorem okI_keep {w w' : World} {x : Lst} {r : Option Nat} (h : x.okI w) (k : w.grownBy w' r) (hr : ∀ g, x.a = some g → some g ≠ r) : x.okI w' := by
  rcases h with h | ⟨g, h1, h2, h3, cs, h4, h5⟩
  · exact Or.inl h
  · exact Or.inr ⟨g, h1, h2, h3, cs, grown_keep k h4 (hr g h1), h5⟩
end Go.Proofs.Ytdgnlcjhdkcjeaa
namespace Go.Proofs.Ytdgnlcjhdkcjeaa
open Go.RowKit

/-- The lent list, as far as it was handed in. -/
theorem lent_in {w : World} {g n : Nat} {l : List Int} (h : w.ownsRow g 3 1 (.slice (some ⟨g, 0, none⟩) (n + 2) (n + 2)) (n + 2) (ints (l ++ [-77, -77]))) (hn : l.length = n) : IntsA w (.slice (some ⟨g, 0, none⟩) n (n + 2)) l := by
  subst hn
  refine Or.inr ⟨_, _, rfl, fun j u hu => ?_⟩
  have hj : j < l.length := by have := (List.getElem?_eq_some_iff.1 hu).1; rwa [length_ints] at this
  rw [add_plain, Nat.zero_add, World.ownsRow.cellAt h j (by omega), ints_app, List.getElem?_append_left (by rw [length_ints]; exact hj)]
  exact hu
theorem same_own {w : World} {a b : Value} {p q n : Nat} {l : List Int} (ha : w.ownsRow p 3 1 a n (ints l)) (hb : w.ownsRow q 3 1 b n (ints l)) (hl : l.length = n) : Calls Try.prog 8 #[a, b] w fun e w' => e = .returned (.bool true) ∧ w.grownBy w' none := by
  subst hl
  refine (L.same_ints a b l l w (L.Own.ints ha) (L.Own.ints hb)).mono ?_
  rintro e w' ⟨rfl, n, rfl⟩
  exact ⟨by rw [decide_eq_true rfl], grown_drewN _ _ _⟩
theorem IntsA.form {w : World} {v : Value} {l : List Int} (h : IntsA w v l) : ∃ a c, v = .slice a l.length c := by
  rcases h with ⟨rfl, rfl⟩ | ⟨ad, cap, rfl, _⟩
  · exact ⟨_, _, rfl⟩
  · exact ⟨_, _, rfl⟩
theorem own_form {w : World} {base n : Nat} {v : Value} {xs : List Value} (h : w.ownsRow base 3 1 v n xs) : ∃ a c, v = .slice a n c := by
  rcases h.2 with ⟨e, h0⟩ | ⟨g, cap, cur, e, _⟩
  · exact ⟨_, _, by rw [e, h0]⟩
  · exact ⟨_, _, e⟩
theorem own_keepN {w w' : World} {base n : Nat} {v : Value} {xs : List Value} (h : w.ownsRow base 3 1 v n xs) (g : w.grownBy w' none) : w'.ownsRow base 3 1 v n xs := World.ownsRow.kept h g (Classical.em (v.ownBlock = none))
theorem own_blt {w : World} {base g n cap : Nat} {xs : List Value} (h : w.ownsRow base 3 1 (.slice (some ⟨g, 0, none⟩) n cap) n xs) : g < w.heap.size := by
  rcases h.2 with ⟨h', _⟩ | ⟨g', cap', cur, h', hb, hh, _⟩
  · simp at h'
  · simp at h'
    rw [h'.1]
    exact block_lt hh
theorem L_keep {w w' : World} {base n f : Nat} {v : Value} {xs : List Value} (h : w.ownsRow base 3 1 v n xs) (g : w.grownBy w' (some f)) (hf : f < base) : w'.ownsRow base 3 1 v n xs := World.ownsRow.kept h g (by
  rcases h.2 with ⟨e, _⟩ | ⟨g', cap', cur, e, hb, _⟩
  · exact Or.inl (by rw [e]; rfl)
  · refine Or.inr ?_
    rw [e]
    intro h9
    simp [Value.ownBlock] at h9
    omega)
theorem own_app {w : World} {base : Nat} {v : Value} {l : List Int} (h : w.ownsRow base 3 1 v (l.length + 2) (ints (l ++ [-77, -77]))) : L.Own w base v (l ++ [-77, -77]) := by
  unfold L.Own
  rw [List.length_append]
  exact h
theorem lst_of {x : Lst} {g n c : Nat} (h : Value.slice (some ⟨g, 0, none⟩) n c = x.v) : x.a = some g := by
  obtain ⟨a, m, d⟩ := x
  unfold Lst.v at h
  injection h with h1
  cases a with
  | none => simp at h1
  | some y => simp at h1; rw [h1]
theorem shuffled_len (l : List Int) (s : Int) : (shuffled l s).1.length = l.length := shuf_len _ _ _ _
end Go.Proofs.Ytdgnlcjhdkcjeaa
namespace Go.Proofs.Ytdgnlcjhdkcjeaa
open Go.RowKit

/-- So many numbers are enough. -/
def dealOk (n : Nat) (h e : Int) : Prop := 1 ≤ h ∧ h ≤ 64 ∧ 0 ≤ e ∧ e * h ≤ (n : Int)
theorem quo_wrap (n H : Nat) (hn : n ≤ 17592186044416) : wrap64 ((n : Int) / (H : Int)) = ((n / H : Nat) : Int) := by
  have hl : (n / H : Nat) ≤ n := Nat.div_le_self _ _
  have e : (n : Int) / (H : Int) = ((n / H : Nat) : Int) := rfl
  rw [e]
  obtain ⟨q, hq⟩ : ∃ q, q = n / H := ⟨_, rfl⟩
  rw [← hq] at hl ⊢
  clear hq e
  unfold wrap64
  omega
theorem quo_le {n H : Nat} {e : Int} (hH : 1 ≤ H) (h0 : 0 ≤ e) : e ≤ ((n / H : Nat) : Int) ↔ e * (H : Int) ≤ (n : Int) := by
  obtain ⟨E, rfl⟩ : ∃ E : Nat, e = (E : Int) := ⟨e.toNat, by omega⟩
  rw [← Int.natCast_mul, Int.ofNat_le, Int.ofNat_le]
  exact Nat.le_div_iff_mul_le (by omega)
/-- A hand, so far: the first k of it; noughts behind them. -/
def dz (l : List Int) (H E h k : Nat) : List Int := (List.range E).map fun j => if j < k then l.getD (h + j * H) 0 else 0
theorem dz_len (l : List Int) (H E h k : Nat) : (dz l H E h k).length = E := by simp [dz]
theorem dz_zero (l : List Int) (H E h : Nat) : dz l H E h 0 = List.replicate E 0 := by
  apply List.ext_getElem (by simp [dz])
  intro i h1 h2
  simp [dz]
theorem dz_full (l : List Int) (H E h : Nat) : dz l H E h E = dealH l H E h := by
  apply List.ext_getElem (by simp [dz, dealH])
  intro i h1 h2
  have : i < E := by simpa [dz] using h1
  simp [dz, dealH, this]
theorem dz_next (l : List Int) (H E h k : Nat) : (dz l H E h k).set k (l.getD (h + k * H) 0) = dz l H E h (k + 1) := by
  apply List.ext_getElem (by simp [dz])
  intro i h1 h2
  rw [List.getElem_set]
  by_cases e : k = i
  · subst e
    simp [dz]
  · simp only [dz, List.getElem_map, List.getElem_range, if_neg e]
    by_cases h9 : i < k
    · rw [if_pos h9, if_pos (by omega)]
    · rw [if_neg h9, if_neg (by omega)]
theorem made_zeros (E : Nat) : (madeCells (Value.int .i64 0).cells (E * 1)).toList = ints (List.replicate E 0) := by
  rw [Nat.mul_one]
  have := L.zeros_eq E
  unfold L.zeros at this
  show (madeCells #[Value.int .i64 0] E).toList = _
  rw [this]
  rfl
/-- Hands in memory of their own: in blocks that rise, from base on, ahead of m. -/
def HandsAt (w : World) (base : Nat) (vs : List Value) (hs : List (List Int)) (m : Nat) : Prop :=
  vs.length = hs.length ∧ (∀ (i : Nat) v l, vs[i]? = some v → hs[i]? = some l → w.ownsRow base 3 1 v l.length (ints l)) ∧
  (∀ (i j : Nat) v v' a b, i < j → vs[i]? = some v → vs[j]? = some v' → v.ownBlock = some a → v'.ownBlock = some b → a < b) ∧ ∀ (i : Nat) v a, vs[i]? = some v → v.ownBlock = some a → a < m
theorem HandsAt.nil (w : World) (base m : Nat) : HandsAt w base [] [] m := ⟨rfl, fun i v l h => by simp at h, fun i j v v' a b _ h => by simp at h, fun i v a h => by simp at h⟩
theorem HandsAt.snoc {w w' : World} {base m m' : Nat} {vs : List Value} {hs : List (List Int)} {v : Value} {l : List Int} (h : HandsAt w base vs hs m) (hk : ∀ (i : Nat) u x, vs[i]? = some u → hs[i]? = some x → w.ownsRow base 3 1 u x.length (ints x) → w'.ownsRow base 3 1 u x.length (ints x)) (hb : base ≤ m) (ho : w'.ownsRow m 3 1 v l.length (ints l)) (hm : ∀ a, v.ownBlock = some a → a < m') (hmm : m ≤ m') : HandsAt w' base (vs ++ [v]) (hs ++ [l]) m' := by
  obtain ⟨h1, h2, h3, h4⟩ := h
  have hlast : ∀ {i : Nat} {u : Value}, (vs ++ [v])[i]? = some u → (i < vs.length ∧ vs[i]? = some u) ∨ (i = vs.length ∧ u = v) := fun {i u} hu => by
    by_cases hi : i < vs.length
    · rw [List.getElem?_append_left hi] at hu
      exact Or.inl ⟨hi, hu⟩
    · rw [List.getElem?_append_right (by omega)] at hu
      have hi2 := (List.getElem?_eq_some_iff.1 hu).1
      have hi3 : i - vs.length = 0 := by simpa using hi2
      rw [hi3] at hu
      exact Or.inr ⟨by omega, by simpa using hu.symm⟩
  refine ⟨by simp [h1], fun i u x hu hx => ?_, fun i j u u' a b hij hu hu' ha hb' => ?_, fun i u a hu ha => ?_⟩
  · rcases hlast hu with ⟨hi, hu⟩ | ⟨hi, rfl⟩
    · rw [List.getElem?_append_left (by omega)] at hx
      exact hk i u x hu hx (h2 i u x hu hx)
    · rw [hi, h1, List.getElem?_append_right (by omega)] at hx
      simp at hx
      subst hx
      exact own_low ho hb
  · rcases hlast hu with ⟨hi, hu1⟩ | ⟨hi, rfl⟩
    · rcases hlast hu' with ⟨hj, hu2⟩ | ⟨hj, e9⟩
      · exact h3 i j u u' a b hij hu1 hu2 ha hb'
      · rw [e9] at hb'
        exact Nat.lt_of_lt_of_le (h4 i u a hu1 ha) (World.ownsRow.lt ho b hb').1
    · rcases hlast hu' with ⟨hj, _⟩ | ⟨hj, _⟩ <;> omega
  · rcases hlast hu with ⟨hi, hu1⟩ | ⟨hi, rfl⟩
    · exact Nat.lt_of_lt_of_le (h4 i u a hu1 ha) hmm
    · exact hm a ha
theorem HandsAt.keep {w w' : World} {base m : Nat} {vs : List Value} {hs : List (List Int)} (h : HandsAt w base vs hs m) (g : w.grownBy w' none) : HandsAt w' base vs hs m :=
  ⟨h.1, fun i v l hv hl => own_keepN (h.2.1 i v l hv hl) g, h.2.2⟩
/-- A list of numbers and a list of hands lie in unlike blocks. -/
theorem own_unlike {w : World} {base b n1 n2 : Nat} {v u : Value} {xs ys : List Value} (h : w.ownsRow base 3 1 v n1 xs) (k : w.ownsRow b 26 1 u n2 ys) : v.ownBlock = none ∨ v.ownBlock ≠ u.ownBlock := by
  rcases h.2 with ⟨e, _⟩ | ⟨g, cap, cur, e, _, hh, _⟩
  · exact Or.inl (by rw [e]; rfl)
  · rcases k.2 with ⟨e2, _⟩ | ⟨g2, cap2, cur2, e2, _, hh2, _⟩
    · exact Or.inr (by rw [e, e2]; simp [Value.ownBlock])
    · refine Or.inr (fun h9 => ?_)
      rw [e, e2] at h9
      simp [Value.ownBlock] at h9
      subst h9
      rw [hh] at hh2
      simp at hh2
/-- What Deal answers. -/
def dealP (l : List Int) (h e : Int) : List (List Int) × List Int × Int := if 1 ≤ h ∧ h ≤ 64 ∧ 0 ≤ e ∧ e * h ≤ (l.length : Int) then (dealAll l h.toNat e.toNat, l.drop (h.toNat * e.toNat), 0) else ([], [], 2)
def DePost (w : World) (l : List Int) (h e : Int) (r : Ending) (w' : World) : Prop := ∃ u v, r = .returned (.tuple #[u, v, .int .i64 (dealP l h e).2.2]) ∧
  (∃ vs m, w'.ownsRow w.heap.size 26 1 u (dealP l h e).1.length vs ∧ HandsAt w' w.heap.size vs (dealP l h e).1 m ∧ w.heap.size ≤ m ∧ m ≤ w'.heap.size ∧ w'.ownsRow m 3 1 v (dealP l h e).2.1.length (ints (dealP l h e).2.1)) ∧ w.grownBy w' none
theorem DePost.no {w : World} {l : List Int} {h e : Int} (hno : ¬ dealOk l.length h e) : DePost w l h e (.returned (.tuple #[.slice none 0 0, .slice none 0 0, .int .i64 2])) w := by
  have hno' : ¬ (1 ≤ h ∧ h ≤ 64 ∧ 0 ≤ e ∧ e * h ≤ (l.length : Int)) := hno
  unfold DePost dealP
  rw [if_neg hno']
  exact ⟨_, _, rfl, ⟨[], w.heap.size, World.ownsRow_nil _ _ _ _, HandsAt.nil _ _ _, Nat.le_refl _, Nat.le_refl _, World.ownsRow_nil _ _ _ _⟩, grown_refl _ _⟩
theorem dealAll_len (l : List Int) (H E : Nat) : (dealAll l H E).length = H := by simp [dealAll]
theorem DePost.yes {w w' : World} {l : List Int} {H E n1 m : Nat} {u v : Value} {vs : List Value} (h1 : 1 ≤ H) (h2 : H ≤ 64) (h3 : E * H ≤ l.length) (hu : w'.ownsRow w.heap.size 26 1 u H vs) (hh : HandsAt w' w.heap.size vs (dealAll l H E) m) (hm : w.heap.size ≤ m) (hm2 : m ≤ w'.heap.size) (hv : w'.ownsRow m 3 1 v n1 (ints (l.drop (H * E)))) (hg : w.grownBy w' none) : DePost w l (H : Int) (E : Int) (.returned (.tuple #[u, v, .int .i64 0])) w' := by
  have hok : 1 ≤ (H : Int) ∧ (H : Int) ≤ 64 ∧ 0 ≤ (E : Int) ∧ (E : Int) * (H : Int) ≤ (l.length : Int) := ⟨by omega, by omega, by omega, by rw [← Int.natCast_mul]; exact Int.ofNat_le.2 h3⟩
  unfold DePost dealP
  rw [if_pos hok]
  simp only [Int.toNat_natCast]
  exact ⟨_, _, rfl, ⟨vs, m, by rw [dealAll_len]; exact hu, hh, hm, hm2, by rw [own_len hv]; exact hv⟩, hg⟩
theorem dealAll_snoc (l : List Int) (H E k : Nat) : (List.range k).map (dealH l H E) ++ [dealH l H E k] = (List.range (k + 1)).map (dealH l H E) := by simp [List.range_succ]
end Go.Proofs.Ytdgnlcjhdkcjeaa
