/-
  slices.Index of numbers; Without, of the program and of the document: the list without the first x.
  Draw, Under, Without, Cut of every list, of the program and of the document: the same answers.
  The program's Shuffle.
-/
import Derived.Test.YtogpgldbbegniaaS5
import Derived.Deep.RegionHeld
namespace Go.Proofs.Ytogpgldbbegniaa
open Go.RowKit

/-- None of the first k numbers is x. -/
def NonI (l : List Int) (x : Int) (k : Nat) : Prop := ∀ j, j < k → l.getD j 0 ≠ x
/-- x stands at k, and not ahead of it. -/
def FstI (l : List Int) (x : Int) (k : Nat) : Prop := k < l.length ∧ l.getD k 0 = x ∧ NonI l x k
theorem first_of {l : List Int} {x : Int} (h : x ∈ l) : ∃ k, FstI l x k := by
  induction l with
  | nil => simp at h
  | cons a l ih =>
    by_cases e : a = x
    · exact ⟨0, by simp, by simpa using e, fun j hj => by omega⟩
    · obtain ⟨k, h1, h2, h3⟩ := ih (by rcases List.mem_cons.1 h with h | h; exact absurd h.symm e; exact h)
      refine ⟨k + 1, by simpa using h1, by simpa using h2, fun j hj => ?_⟩
      cases j with
      | zero => simpa using e
      | succ j => simpa using h3 j (by omega)
theorem none_of {l : List Int} {x : Int} (h : x ∉ l) : NonI l x l.length := fun j hj e => h (by rw [← e, getD_at l j hj]; exact List.getElem_mem _)
theorem FstI.erase {l : List Int} {x : Int} {k : Nat} (h : FstI l x k) : l.erase x = l.take k ++ l.drop (k + 1) :=
  erase_at l x k h.1 (by rw [← getD_at l k h.1]; exact h.2.1) (fun j hj => by have := h.2.2 j hj; rw [getD_at l j (by have := h.1; omega)] at this; exact this)
theorem FstI.mem {l : List Int} {x : Int} {k : Nat} (h : FstI l x k) : x ∈ l := by rw [← h.2.1, getD_at l k h.1]; exact List.getElem_mem _
theorem NonI.next {l : List Int} {x : Int} {k : Nat} (h : NonI l x k) (hx : l.getD k 0 ≠ x) : NonI l x (k + 1) := fun j hj => by
  rcases (show j < k ∨ j = k from by omega) with h' | rfl
  · exact h j h'
  · exact hx
theorem own_len {w : World} {base n : Nat} {v : Value} {l : List Int} (h : w.ownsRow base 3 1 v n (ints l)) : l.length = n := by
  have := h.1
  rw [length_ints] at this
  omega
/-- The cells of a list that may be cut. -/
def CellsB (w : World) (g off : Nat) (l : List Int) : Prop := ∀ j, j < l.length → w.cell? ⟨g, off + j, none⟩ = some (.int .i64 (l.getD j 0))
theorem cells_of {w : World} {g off : Nat} {l : List Int} (h : ∀ (j : Nat) u, (ints l)[j]? = some u → w.cell? ⟨g, off + j, none⟩ = some u) : CellsB w g off l := fun j hj => h j _ (ints_at l j hj)
theorem CellsB.keep {w w' : World} {g off : Nat} {l : List Int} (h : CellsB w g off l) (k : w.grownBy w' none) : CellsB w' g off l := fun j hj => k.cell (h j hj) (by simp)
theorem CellsB.ints {w : World} {g off cap : Nat} {l : List Int} (h : CellsB w g off l) : IntsA w (.slice (some ⟨g, off, none⟩) l.length cap) l := Or.inr ⟨_, _, rfl, fun j u hu => by
  have hj := (List.getElem?_eq_some_iff.1 hu).1
  rw [length_ints] at hj
  rw [add_plain, h j hj, ← hu, ints_at l j hj]⟩
/-- What Without answers: the list without the first x and true, or nothing and false. -/
def WoPost (w : World) (l : List Int) (x : Int) (e : Ending) (w' : World) : Prop := ∃ u, e = .returned (.tuple #[u, .bool (decide (x ∈ l))]) ∧ (∃ m : List Int, m = (if x ∈ l then l.erase x else []) ∧ w'.ownsRow w.heap.size 3 1 u m.length (ints m)) ∧ w.grownBy w' none
theorem WoPost.yes {w w' : World} {l : List Int} {x : Int} {u : Value} {k n : Nat} (hF : FstI l x k) (ho : w'.ownsRow w.heap.size 3 1 u n (ints (l.take k ++ l.drop (k + 1)))) (hg : w.grownBy w' none) : WoPost w l x (.returned (.tuple #[u, .bool true])) w' :=
  ⟨u, by rw [decide_eq_true hF.mem], ⟨_, rfl, by rw [if_pos hF.mem, hF.erase, own_len ho]; exact ho⟩, hg⟩
theorem WoPost.no {w : World} {l : List Int} {x : Int} (hF : x ∉ l) : WoPost w l x (.returned (.tuple #[.slice none 0 0, .bool false])) w :=
  ⟨_, by rw [decide_eq_false hF], ⟨_, rfl, by rw [if_neg hF]; exact World.ownsRow_nil _ _ _ _⟩, grown_refl _ _⟩
theorem wo_drop {w : World} {base n k K : Nat} {v : Value} {l : List Int} (hK : K = k + 1) (h : w.ownsRow base 3 1 v n (ints (l.take k ++ l.drop K))) : w.ownsRow base 3 1 v n (ints (l.take k ++ l.drop (k + 1))) := by
  subst hK
  exact h
theorem wp_append_at {P : Program} {w : World} {o : Oper} {a : Act} {K : Act → World → Prop} {Q : Exit → Act → World → Prop} (s x : Operand) (t : TypeId)
    (ho : o.op = .call { callee := .builtin .append, args := #[s, x], argTypes := #[t, t] })
    (base : Nat) (e : TypeId) (i : TypeInfo) (z : Value) (size bytes : Nat) (ht : P.underlying t = some (.slice e)) (hi : P.info? e = some i) (hz : i.zero = some z)
    (hsize : i.size = size) (hby : i.bytes = bytes) (hzs : z.cells.size = size) (hsz : 0 < size)
    (v : Value) (n : Nat) (xs : List Value) (hs : a.eval s = v) (hown : w.ownsRow base e size v n xs)
    (ad : Addr) (m c : Nat) (news : List Value) (hx : a.eval x = .slice (some ad) m c) (hl : news.length = m * size) (hnews : ∀ j u, news[j]? = some u → w.cell? (ad.add j) = some u) (h1 : ∀ u ∈ news, u.oneCell' = true)
    (h63 : n + m ≤ maxLen) (hbytes : (n + m) * bytes ≤ 140737488355328) (hbase : base ≤ w.heap.size)
    (h : ∀ v' w', w'.ownsRow base e size v' (n + m) (xs ++ news) → w.grownBy w' v.ownBlock → (v'.ownBlock = v.ownBlock ∨ v'.ownBlock = some w.heap.size) → K (a.put o.dst v') w') : Oper.wp P o a w K Q := by
  obtain ⟨v', w', hr, h2, h3, _, h5⟩ := run_append_own_at (P := P) w base t o.type e i z size bytes ht hi hz hsize hby hzs hsz v n xs hown ad m c news hl hnews h1 h63 hbytes hbase
  unfold Oper.wp execOp
  simp only [ho, resolve, invoke, builtin, Sem.run_bind, Sem.run_pure, Result.andThen_ok, List.map_toArray, List.map_cons, List.map_nil, hs, hx, hr]
  exact h v' w' h2 h3 h5
end Go.Proofs.Ytogpgldbbegniaa
namespace Go.Proofs.Ytogpgldbbegniaa
open Go.RowKit

/-- What Draw answers: the first number, the others in new memory, and true; or 0, nothing and false. -/
def DrPost (w : World) (l : List Int) (e : Ending) (w' : World) : Prop := ∃ u, e = .returned (.tuple #[.int .i64 (l.headD 0), u, .bool (decide (l ≠ []))]) ∧ w'.ownsRow w.heap.size 3 1 u l.tail.length (ints l.tail) ∧ w.grownBy w' none
/-- What Cut answers. -/
def cutP (l : List Int) (k : Int) : List Int × List Int × Int := if 0 ≤ k ∧ k ≤ (l.length : Int) then (l.take k.toNat, l.drop k.toNat, 0) else ([], [], 2)
def CuPost (w : World) (l : List Int) (k : Int) (e : Ending) (w' : World) : Prop := ∃ u v, e = .returned (.tuple #[u, v, .int .i64 (cutP l k).2.2]) ∧ (∃ m, w.heap.size ≤ m ∧ m ≤ w'.heap.size ∧ (∀ b, u.ownBlock = some b → b < m) ∧ w'.ownsRow w.heap.size 3 1 u (cutP l k).1.length (ints (cutP l k).1) ∧ w'.ownsRow m 3 1 v (cutP l k).2.1.length (ints (cutP l k).2.1)) ∧ w.grownBy w' none
theorem CuPost.no {w : World} {l : List Int} {k : Int} (h : ¬ (0 ≤ k ∧ k ≤ (l.length : Int))) : CuPost w l k (.returned (.tuple #[.slice none 0 0, .slice none 0 0, .int .i64 2])) w := by
  unfold CuPost cutP
  rw [if_neg h]
  exact ⟨_, _, rfl, ⟨w.heap.size, Nat.le_refl _, Nat.le_refl _, fun b hb => by simp [Value.ownBlock] at hb, World.ownsRow_nil _ _ _ _, World.ownsRow_nil _ _ _ _⟩, grown_refl _ _⟩
theorem CuPost.yes {w w' : World} {l : List Int} {k : Nat} {u v : Value} {n1 n2 : Nat} (hk : k ≤ l.length) (h : (∃ m, w.heap.size ≤ m ∧ m ≤ w'.heap.size ∧ (∀ b, u.ownBlock = some b → b < m) ∧ w'.ownsRow w.heap.size 3 1 u n1 (ints (l.take k)) ∧ w'.ownsRow m 3 1 v n2 (ints (l.drop k))) ∧ w.grownBy w' none) : CuPost w l (k : Int) (.returned (.tuple #[u, v, .int .i64 0])) w' := by
  unfold CuPost cutP
  rw [if_pos ⟨by omega, by omega⟩]
  obtain ⟨⟨m, h1, h2, h3, h4, h5⟩, hg⟩ := h
  simp only [Int.toNat_natCast]
  exact ⟨_, _, rfl, ⟨m, h1, h2, h3, by rw [own_len h4]; exact h4, by rw [own_len h5]; exact h5⟩, hg⟩
end Go.Proofs.Ytogpgldbbegniaa
namespace Go.Proofs.Ytogpgldbbegniaa
open Go.RowKit

theorem ShAt.drew {w wr : World} {g cap : Nat} {cur : List Int} (h : ShAt w wr g cap cur) : ShAt w wr.drew g cap cur := ⟨h.1, ⟨h.2.os, h.2.tape, h.2.output, h.2.size, h.2.block⟩⟩
end Go.Proofs.Ytogpgldbbegniaa
