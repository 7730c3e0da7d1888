/-
  Lists of records, each of k cells: read where they lie, of one's own, grown, written over at a place.
  A card that was handed in, read as data: its fields, and where its parts lie.
  CopyParts: the same parts, in new memory.
  LentParts, SameParts, KeptParts: a list is lent with two more behind it; two lists are held against each other; a lent list is as it was.
  KeptParts: is a lent list as it was? LentCard: a card with its parts lent.
  What a book is filled with (cards, marks, whether it stays open), read as data.
  A thing, features, four numbers of marks, read as data.
  Layers in memory: things, features, standing effects, rows; the table.
-/
import Derived.Test.YthfjgpjcepmnmaaGreatS0
import Derived.Deep.MidRow
import Derived.Test.YthfjgpjcepmnmaaGreatS12
import Derived.ProofKit
import Derived.OpenShut
import Derived.ChangeOld
import Derived.Deep.Slices
import Derived.SizedLaws
import Derived.Test.YthfjgpjcepmnmaaGreatS4
import Derived.Test.YthfjgpjcepmnmaaGreatS7
import Derived.ChangeSlices
import Derived.Laws.IdiomArrays
import Derived.ChangeAt
namespace Go.Proofs.YthfjgpjcepmnmaaGreat
open Go.RowKit

theorem alloc2_b (w : World) (o : Obj) (cs : Array Value) (t : TypeId) : ((w.alloc o).alloc (.cells cs t)).heap[w.heap.size + 1]? = some (.cells cs t (0, 0)) := by have := alloc_at (w.alloc o) cs t; rwa [World.size_alloc] at this
structure RecT (α : Type) where
  k : Nat
  enc : α → List Value
  hk : ∀ x, (enc x).length = k
  h1 : ∀ x, ∀ v ∈ enc x, v.oneCell' = true
  hp : 0 < k
def RecT.cs {α : Type} (R : RecT α) : List α → List Value
  | [] => []
  | x :: l => R.enc x ++ R.cs l
theorem RecT.len {α : Type} (R : RecT α) : ∀ l : List α, (R.cs l).length = l.length * R.k
  | [] => by simp [RecT.cs]
  | x :: l => by
    show (R.enc x ++ R.cs l).length = _
    rw [List.length_append, R.hk, R.len l, List.length_cons, Nat.succ_mul]
    omega
theorem RecT.app {α : Type} (R : RecT α) : ∀ a b : List α, R.cs (a ++ b) = R.cs a ++ R.cs b
  | [], b => rfl
  | x :: a, b => by
    show R.enc x ++ R.cs (a ++ b) = (R.enc x ++ R.cs a) ++ R.cs b
    rw [R.app a b, List.append_assoc]
theorem RecT.one {α : Type} (R : RecT α) (x : α) : R.cs [x] = R.enc x := List.append_nil _
theorem RecT.at' {α : Type} (R : RecT α) : ∀ {l : List α} {j : Nat} {x : α}, l[j]? = some x → ∀ i, i < R.k → (R.cs l)[j * R.k + i]? = (R.enc x)[i]?
  | [], j, x, h, i, hi => by simp at h
  | y :: l, 0, x, h, i, hi => by
    simp at h
    subst h
    show (R.enc y ++ R.cs l)[0 * R.k + i]? = _
    rw [Nat.zero_mul, Nat.zero_add, List.getElem?_append_left (by rw [R.hk]; exact hi)]
  | y :: l, j + 1, x, h, i, hi => by
    show (R.enc y ++ R.cs l)[(j + 1) * R.k + i]? = _
    rw [List.getElem?_append_right (by rw [R.hk, Nat.succ_mul]; omega), R.hk, show (j + 1) * R.k + i - R.k = j * R.k + i from by rw [Nat.succ_mul]; omega]
    exact R.at' (by simpa using h) i hi
theorem RecT.ones {α : Type} (R : RecT α) : ∀ l : List α, ∀ u ∈ R.cs l, u.oneCell' = true
  | [], u, h => by cases h
  | x :: l, u, h => by
    rcases List.mem_append.1 h with h | h
    · exact R.h1 x u h
    · exact R.ones l u h
theorem RecT.take {α : Type} (R : RecT α) : ∀ (l : List α) (j : Nat), (R.cs l).take (j * R.k) = R.cs (l.take j)
  | [], j => by simp [RecT.cs]
  | x :: l, 0 => by simp [RecT.cs]
  | x :: l, j + 1 => by
    show (R.enc x ++ R.cs l).take ((j + 1) * R.k) = R.enc x ++ R.cs (l.take j)
    rw [List.take_append, R.hk, List.take_of_length_le (by rw [R.hk, Nat.succ_mul]; omega), show (j + 1) * R.k - R.k = j * R.k from by rw [Nat.succ_mul]; omega, R.take l j]
theorem RecT.drop {α : Type} (R : RecT α) : ∀ (l : List α) (j : Nat), (R.cs l).drop (j * R.k) = R.cs (l.drop j)
  | [], j => by simp [RecT.cs]
  | x :: l, 0 => by simp [RecT.cs]
  | x :: l, j + 1 => by
    show (R.enc x ++ R.cs l).drop ((j + 1) * R.k) = R.cs (l.drop j)
    rw [List.drop_append, R.hk, List.drop_eq_nil_of_le (by rw [R.hk, Nat.succ_mul]; omega), show (j + 1) * R.k - R.k = j * R.k from by rw [Nat.succ_mul]; omega, R.drop l j, List.nil_append]
def setFrom : List Value → Nat → List Value → List Value
  | xs, _, [] => xs
  | xs, o, v :: vs => setFrom (xs.set o v) (o + 1) vs
theorem setFrom_eq : ∀ (vs xs : List Value) (o : Nat), o + vs.length ≤ xs.length → setFrom xs o vs = xs.take o ++ (vs ++ xs.drop (o + vs.length))
  | [], xs, o, h => by simp [setFrom]
  | v :: vs, xs, o, h => by
    rw [List.length_cons] at h
    show setFrom (xs.set o v) (o + 1) vs = _
    rw [setFrom_eq vs (xs.set o v) (o + 1) (by rw [List.length_set]; omega), List.take_add_one, List.getElem?_set_self (by omega), List.take_set_of_le (by omega), List.drop_set_of_lt (by omega), List.length_cons]
    simp [Nat.add_assoc, Nat.add_comm 1]
theorem setFrom_all {xs vs : List Value} (h : vs.length = xs.length) : setFrom xs 0 vs = vs := by
  rw [setFrom_eq vs xs 0 (by omega), List.take_zero, List.nil_append, List.drop_eq_nil_of_le (by omega), List.append_nil]
theorem own_setCells {base e size g n cap : Nat} : ∀ (vs xs : List Value) (o : Nat) (w : World), w.ownsRow base e size (.slice (some ⟨g, 0, none⟩) n cap) n xs → (w.setCells g o vs).ownsRow base e size (.slice (some ⟨g, 0, none⟩) n cap) n (setFrom xs o vs) ∧ w.grownBy (w.setCells g o vs) (some g)
  | [], xs, o, w, h => ⟨h, grown_refl _ _⟩
  | v :: vs, xs, o, w, h => by
    obtain ⟨h1, h2⟩ := World.ownsRow.stored h o v
    obtain ⟨h3, h4⟩ := own_setCells vs (xs.set o v) (o + 1) _ h1
    exact ⟨h3, grown_trans h2 h4⟩
theorem RecT.set {α : Type} (R : RecT α) {l : List α} {j : Nat} (x : α) (h : j < l.length) : setFrom (R.cs l) (j * R.k) (R.enc x) = R.cs (l.set j x) := by
  have h2 : (j + 1) * R.k ≤ l.length * R.k := Nat.mul_le_mul_right _ h
  rw [setFrom_eq _ _ _ (by rw [R.len, R.hk]; rw [Nat.succ_mul] at h2; exact h2), R.take, R.hk, show j * R.k + R.k = (j + 1) * R.k from by rw [Nat.succ_mul], R.drop, List.set_eq_take_append_cons_drop, if_pos h, R.app]
  rfl
def RecT.At {α : Type} (R : RecT α) (w : World) (v : Value) (l : List α) : Prop := ∃ p cap, v = .slice p l.length cap ∧ l.length ≤ maxLen ∧ (0 < l.length → ∃ g off, p = some ⟨g, off, none⟩ ∧ ∀ (j : Nat) x, l[j]? = some x → w.rangeAt g (off + j * R.k) (R.enc x))
theorem rangeAt_keep {w w' : World} {g off : Nat} {cs : List Value} (h : w.rangeAt g off cs) (k : w.grownBy w' none) : w'.rangeAt g off cs := fun i u hu => k.cell (h i u hu) (by simp)
theorem RecT.At.keep {α : Type} {R : RecT α} {w w' : World} {v : Value} {l : List α} (h : R.At w v l) (k : w.grownBy w' none) : R.At w' v l := by
  obtain ⟨p, cap, e, hm, h⟩ := h
  refine ⟨p, cap, e, hm, fun h0 => ?_⟩
  obtain ⟨g, off, e2, h2⟩ := h h0
  exact ⟨g, off, e2, fun j t ht => rangeAt_keep (h2 j t ht) k⟩
theorem RecT.At.nil {α : Type} (R : RecT α) (w : World) : R.At w (.slice none 0 0) [] := ⟨none, 0, rfl, Nat.zero_le _, fun h => absurd h (Nat.lt_irrefl _)⟩
theorem RecT.At.form {α : Type} {R : RecT α} {w : World} {v : Value} {l : List α} (h : R.At w v l) : ∃ p cap, v = .slice p l.length cap := by
  obtain ⟨p, cap, e, _⟩ := h
  exact ⟨p, cap, e⟩
theorem RecT.At.there {α : Type} {R : RecT α} {w : World} {v : Value} {l : List α} (h : R.At w v l) {j : Nat} (hj : j < l.length) : ∃ g off cap, v = .slice (some ⟨g, off, none⟩) l.length cap ∧ w.rangeAt g (off + j * R.k) (R.enc l[j]) := by
  obtain ⟨p, cap, e, _, h⟩ := h
  obtain ⟨g, off, e2, h2⟩ := h (by omega)
  subst e2
  exact ⟨g, off, cap, e, h2 j _ (List.getElem?_eq_getElem hj)⟩
def RecT.Own {α : Type} (R : RecT α) (T : TypeId) (w : World) (base : Nat) (v : Value) (l : List α) : Prop := w.ownsRow base T R.k v l.length (R.cs l)
theorem own_cell {w : World} {base e size n : Nat} {v : Value} {xs : List Value} (h : w.ownsRow base e size v n xs) (h0 : 0 < n) : ∃ g cap, v = .slice (some ⟨g, 0, none⟩) n cap ∧ base ≤ g ∧ g < w.heap.size ∧ n ≤ cap ∧ cap ≤ maxLen ∧ ∀ (j : Nat), j < n * size → w.cell? ⟨g, j, none⟩ = xs[j]? ∧ w.frozen? ⟨g, j, none⟩ = false := by
  rcases h.2 with ⟨_, h1⟩ | ⟨g, cap, cur, e, hb, hh, hc, hm, hs, ht⟩
  · omega
  · refine ⟨g, cap, e, hb, block_lt hh, hc, hm, fun j hj => ⟨?_, block_free hh j⟩⟩
    rw [block_cell hh, ← ht, List.getElem?_take, if_pos hj]
    simp
theorem own_slice {w : World} {base e size n : Nat} {v : Value} {xs : List Value} (h : w.ownsRow base e size v n xs) : ∃ p cap, v = .slice p n cap ∧ n ≤ maxLen := by
  rcases h.2 with ⟨e1, h1⟩ | ⟨g, cap, cur, e1, hb, hh, hc, hm, hs, ht⟩
  · exact ⟨none, 0, by rw [e1, h1], by rw [h1]; exact Nat.zero_le _⟩
  · exact ⟨_, _, e1, Nat.le_trans hc hm⟩
theorem own_grow {w w' : World} {base e size n : Nat} {v : Value} {xs : List Value} (h : w.ownsRow base e size v n xs) (g : w.grownBy w' none) : w'.ownsRow base e size v n xs := by
  refine World.ownsRow.kept h g ?_
  cases hv : v.ownBlock with
  | none => exact Or.inl rfl
  | some x => exact Or.inr (by simp)
theorem own_big {w : World} {base base' e size n : Nat} {v : Value} {xs : List Value} (h : w.ownsRow base e size v n xs) (hb : base' ≤ base) : w.ownsRow base' e size v n xs := by
  refine ⟨h.1, ?_⟩
  rcases h.2 with h1 | ⟨g, cap, cur, e1, hg, rest⟩
  · exact Or.inl h1
  · exact Or.inr ⟨g, cap, cur, e1, Nat.le_trans hb hg, rest⟩
theorem RecT.Own.nil {α : Type} (R : RecT α) (T : TypeId) (w : World) (base : Nat) : R.Own T w base (.slice none 0 0) [] := ⟨by simp [RecT.cs], Or.inl ⟨rfl, rfl⟩⟩
theorem RecT.Own.grow {α : Type} {R : RecT α} {T : TypeId} {w w' : World} {base : Nat} {v : Value} {l : List α} (h : R.Own T w base v l) (g : w.grownBy w' none) : R.Own T w' base v l := own_grow h g
theorem RecT.Own.big {α : Type} {R : RecT α} {T : TypeId} {w : World} {base base' : Nat} {v : Value} {l : List α} (h : R.Own T w base v l) (hb : base' ≤ base) : R.Own T w base' v l := own_big h hb
theorem RecT.Own.form {α : Type} {R : RecT α} {T : TypeId} {w : World} {base : Nat} {v : Value} {l : List α} (h : R.Own T w base v l) : ∃ p c, v = .slice p l.length c := by
  obtain ⟨p, c, e, _⟩ := own_slice h
  exact ⟨p, c, e⟩
theorem RecT.Own.at {α : Type} {R : RecT α} {T : TypeId} {w : World} {base : Nat} {v : Value} {l : List α} (h : R.Own T w base v l) : R.At w v l := by
  obtain ⟨p, cap, e, hm⟩ := own_slice h
  refine ⟨p, cap, e, hm, fun h0 => ?_⟩
  obtain ⟨g, cap', e', _, _, _, _, hc⟩ := own_cell h h0
  rw [e] at e'
  cases e'
  refine ⟨g, 0, rfl, fun j t ht i u hu => ?_⟩
  have hi : i < R.k := by have := (List.getElem?_eq_some_iff.1 hu).1; rwa [R.hk] at this
  have hj := (List.getElem?_eq_some_iff.1 ht).1
  have h2 : (j + 1) * R.k ≤ l.length * R.k := Nat.mul_le_mul_right _ hj
  rw [Nat.succ_mul] at h2
  rw [Nat.zero_add, (hc (j * R.k + i) (by omega)).1, R.at' ht i hi]
  exact hu
theorem add_plain' (g o j : Nat) : (⟨g, o, none⟩ : Addr).add j = ⟨g, o + j, none⟩ := Addr.add_mid g o j
def Src (w : World) (vx : Value) (m size : Nat) (ys : List Value) : Prop := ∃ p c, vx = .slice p m c ∧ ys.length = m * size ∧ (0 < m → ∃ ad, p = some ad ∧ ∀ j u, ys[j]? = some u → w.cell? (Addr.add ad j) = some u)
theorem Src.keep {w w' : World} {vx : Value} {m size : Nat} {ys : List Value} (h : Src w vx m size ys) (k : w.grownBy w' none) : Src w' vx m size ys := by
  obtain ⟨p, c, e, hl, h⟩ := h
  refine ⟨p, c, e, hl, fun h0 => ?_⟩
  obtain ⟨ad, e2, h2⟩ := h h0
  exact ⟨ad, e2, fun j u hu => k.cell (h2 j u hu) (by simp)⟩
theorem RecT.At.src {α : Type} {R : RecT α} {w : World} {v : Value} {l : List α} (h : R.At w v l) : Src w v l.length R.k (R.cs l) := by
  obtain ⟨p, c, e, _, h⟩ := h
  refine ⟨p, c, e, R.len l, fun h0 => ?_⟩
  obtain ⟨g, off, e2, h2⟩ := h h0
  refine ⟨_, e2, fun j u hu => ?_⟩
  have hj : j < l.length * R.k := by have := (List.getElem?_eq_some_iff.1 hu).1; rwa [R.len] at this
  have hq : j / R.k < l.length := Nat.div_lt_of_lt_mul (by rw [Nat.mul_comm]; exact hj)
  have hr : j % R.k < R.k := Nat.mod_lt _ R.hp
  have e3 : j = j / R.k * R.k + j % R.k := by rw [Nat.mul_comm]; exact (Nat.div_add_mod _ _).symm
  have h4 := h2 (j / R.k) l[j / R.k] (List.getElem?_eq_getElem hq) (j % R.k) u (by
    rw [← R.at' (List.getElem?_eq_getElem hq) (j % R.k) hr, ← e3]
    exact hu)
  rw [add_plain', show off + j = off + j / R.k * R.k + j % R.k from by omega]
  exact h4
theorem lit_Src {w : World} {g e m size : Nat} {cs : Array Value} (h : w.heap[g]? = some (.cells cs e (0, 0))) (hs : cs.size = m * size) (c : Nat) : Src w (.slice (some ⟨g, 0, none⟩) m c) m size cs.toList :=
  ⟨_, c, rfl, by simp [hs], fun _ => ⟨_, rfl, fun j u hu => by rw [add_plain', Nat.zero_add, block_cell h]; simpa using hu⟩⟩
theorem RecT.more {α : Type} {R : RecT α} {T : TypeId} {w : World} {base n : Nat} {v : Value} {l : List α} {x : α} (h : w.ownsRow base T R.k v (n + 1) (R.cs l ++ R.enc x)) (hn : n = l.length) : R.Own T w base v (l ++ [x]) := by
  unfold RecT.Own
  rw [List.length_append, List.length_singleton, R.app, R.one, ← hn]
  exact h
theorem RecT.Own.set {α : Type} {R : RecT α} {T : TypeId} {w : World} {base g n cap j : Nat} {l : List α} (h : R.Own T w base (.slice (some ⟨g, 0, none⟩) n cap) l) (hn : l.length = n) (hj : j < n) (x : α) : R.Own T (w.setCells g (j * R.k) (R.enc x)) base (.slice (some ⟨g, 0, none⟩) n cap) (l.set j x) ∧ w.grownBy (w.setCells g (j * R.k) (R.enc x)) (some g) := by
  unfold RecT.Own at h ⊢
  rw [hn] at h
  obtain ⟨h1, h2⟩ := own_setCells (R.enc x) (R.cs l) (j * R.k) w h
  rw [R.set x (by omega)] at h1
  rw [List.length_set, hn]
  exact ⟨h1, h2⟩
theorem RecT.Own.there {α : Type} {R : RecT α} {T : TypeId} {w : World} {base g n cap j : Nat} {l : List α} (h : R.Own T w base (.slice (some ⟨g, 0, none⟩) n cap) l) (hn : l.length = n) (hj : j < n) : w.there g (j * R.k) R.k := by
  unfold RecT.Own at h
  rw [hn] at h
  have h2 : (j + 1) * R.k ≤ n * R.k := Nat.mul_le_mul_right _ hj
  rw [Nat.succ_mul] at h2
  intro i hi
  refine ⟨?_, World.ownsRow.frozenAt h _⟩
  rw [World.ownsRow.cellAt h (j * R.k + i) (by omega), List.getElem?_eq_getElem (by rw [R.len, hn]; omega)]
  rfl
theorem RecT.Own.lt {α : Type} {R : RecT α} {T : TypeId} {w : World} {base : Nat} {v : Value} {l : List α} (h : R.Own T w base v l) : ∀ x, v.ownBlock = some x → base ≤ x ∧ x < w.heap.size := fun x hx => World.ownsRow.lt h x hx
end Go.Proofs.YthfjgpjcepmnmaaGreat
namespace Go.Proofs.YthfjgpjcepmnmaaGreat
open Go.ChangeShapes Go.WideShapes Go.ChangeAt Go.RowKit Go.Deep

end Go.Proofs.YthfjgpjcepmnmaaGreat
namespace Go.Proofs.YthfjgpjcepmnmaaGreat
open Go.RowKit

end Go.Proofs.YthfjgpjcepmnmaaGreat
namespace Go.Proofs.YthfjgpjcepmnmaaGreat
open Go.RowKit

end Go.Proofs.YthfjgpjcepmnmaaGreat
namespace Go.Proofs.YthfjgpjcepmnmaaGreat
open Go.RowKit

end Go.Proofs.YthfjgpjcepmnmaaGreat
namespace Go.Proofs.YthfjgpjcepmnmaaGreat
open Go.ChangeShapes Go.WideShapes Go.ChangeAt Go.RowKit Go.Deep

end Go.Proofs.YthfjgpjcepmnmaaGreat
namespace Go.Proofs.YthfjgpjcepmnmaaGreat
open Go.ChangeShapes Go.WideShapes Go.ChangeAt Go.RowKit Go.Deep

theorem Tryz.own : ownKnob Tryz.prog.godebug = none := by kernel_rfl
def thv (t : Th) : Value := .agg #[.int .i64 t.card, .int .i64 t.owner, .int .u8 t.place, .int .i64 t.stamp, .int .i64 t.hurt, .int .i64 t.m0, .int .i64 t.m1, .int .i64 t.m2, .int .i64 t.m3, .int .i64 t.done, .bool t.fresh]
end Go.Proofs.YthfjgpjcepmnmaaGreat
namespace Go.Proofs.YthfjgpjcepmnmaaGreat
open Go.RowKit

structure Rv where
  r : Rw
  pa : Option Addr
  ca : Nat
def Rv.u (x : Rv) : Value := .slice x.pa x.r.ps.length x.ca
def rws (X : List Rv) : List Rw := X.map Rv.r
theorem rws_len (X : List Rv) : (rws X).length = X.length := List.length_map _
theorem rws_get {X : List Rv} {i : Nat} (h : i < X.length) : (rws X).getD i Rw.none = X[i].r := by
  unfold rws
  rw [List.getD_eq_getElem?_getD, List.getElem?_map, List.getElem?_eq_getElem h]
  rfl
def thc (t : Th) : List Value := [.int .i64 t.card, .int .i64 t.owner, .int .u8 t.place, .int .i64 t.stamp, .int .i64 t.hurt, .int .i64 t.m0, .int .i64 t.m1, .int .i64 t.m2, .int .i64 t.m3, .int .i64 t.done, .bool t.fresh]
theorem thc_ones (t : Th) : ∀ v ∈ thc t, v.oneCell' = true := fun v h => by
  simp only [thc, List.mem_cons, List.not_mem_nil, or_false] at h
  rcases h with h | h | h | h | h | h | h | h | h | h | h <;> (subst h; rfl)
def thR : RecT Th := ⟨11, thc, fun _ => rfl, thc_ones, by decide⟩
theorem th_cells {w : World} {g o : Nat} {t : Th} (h : w.rangeAt g o (thc t)) : w.cell? ⟨g, o, none⟩ = some (.int .i64 t.card) ∧ w.cell? ⟨g, o + 1, none⟩ = some (.int .i64 t.owner) ∧ w.cell? ⟨g, o + 2, none⟩ = some (.int .u8 t.place) ∧ w.cell? ⟨g, o + 3, none⟩ = some (.int .i64 t.stamp) ∧ w.cell? ⟨g, o + 4, none⟩ = some (.int .i64 t.hurt) ∧ w.cell? ⟨g, o + 5, none⟩ = some (.int .i64 t.m0) ∧ w.cell? ⟨g, o + 6, none⟩ = some (.int .i64 t.m1) ∧ w.cell? ⟨g, o + 7, none⟩ = some (.int .i64 t.m2) ∧ w.cell? ⟨g, o + 8, none⟩ = some (.int .i64 t.m3) ∧ w.cell? ⟨g, o + 9, none⟩ = some (.int .i64 t.done) ∧ w.cell? ⟨g, o + 10, none⟩ = some (.bool t.fresh) :=
  ⟨h 0 _ rfl, h 1 _ rfl, h 2 _ rfl, h 3 _ rfl, h 4 _ rfl, h 5 _ rfl, h 6 _ rfl, h 7 _ rfl, h 8 _ rfl, h 9 _ rfl, h 10 _ rfl⟩
def ThB (w : World) (g : Nat) (t : Th) : Prop := w.heap[g]? = some (.cells #[.int .i64 t.card, .int .i64 t.owner, .int .u8 t.place, .int .i64 t.stamp, .int .i64 t.hurt, .int .i64 t.m0, .int .i64 t.m1, .int .i64 t.m2, .int .i64 t.m3, .int .i64 t.done, .bool t.fresh] 100 (0, 0))
theorem th_box {w : World} {g : Nat} {t : Th} (h : ThB w g t) : w.cell? ⟨g, 0, none⟩ = some (.int .i64 t.card) ∧ w.cell? ⟨g, 1, none⟩ = some (.int .i64 t.owner) ∧ w.cell? ⟨g, 2, none⟩ = some (.int .u8 t.place) ∧ w.cell? ⟨g, 3, none⟩ = some (.int .i64 t.stamp) ∧ w.cell? ⟨g, 4, none⟩ = some (.int .i64 t.hurt) ∧ w.cell? ⟨g, 5, none⟩ = some (.int .i64 t.m0) ∧ w.cell? ⟨g, 6, none⟩ = some (.int .i64 t.m1) ∧ w.cell? ⟨g, 7, none⟩ = some (.int .i64 t.m2) ∧ w.cell? ⟨g, 8, none⟩ = some (.int .i64 t.m3) ∧ w.cell? ⟨g, 9, none⟩ = some (.int .i64 t.done) ∧ w.cell? ⟨g, 10, none⟩ = some (.bool t.fresh) :=
  ⟨(block_cell h 0).trans rfl, (block_cell h 1).trans rfl, (block_cell h 2).trans rfl, (block_cell h 3).trans rfl, (block_cell h 4).trans rfl, (block_cell h 5).trans rfl, (block_cell h 6).trans rfl, (block_cell h 7).trans rfl, (block_cell h 8).trans rfl, (block_cell h 9).trans rfl, (block_cell h 10).trans rfl⟩
def fec (f : Fe) : List Value := [.int .i64 f.ho, .int .u8 f.su, .int .u16 f.tr, .int .i64 f.po, .int .i64 f.he]
theorem fec_ones (f : Fe) : ∀ v ∈ fec f, v.oneCell' = true := fun v h => by
  simp only [fec, List.mem_cons, List.not_mem_nil, or_false] at h
  rcases h with h | h | h | h | h <;> (subst h; rfl)
def feR : RecT Fe := ⟨5, fec, fun _ => rfl, fec_ones, by decide⟩
theorem fe_cells {w : World} {g o : Nat} {f : Fe} (h : w.rangeAt g o (fec f)) : w.cell? ⟨g, o, none⟩ = some (.int .i64 f.ho) ∧ w.cell? ⟨g, o + 1, none⟩ = some (.int .u8 f.su) ∧ w.cell? ⟨g, o + 2, none⟩ = some (.int .u16 f.tr) ∧ w.cell? ⟨g, o + 3, none⟩ = some (.int .i64 f.po) ∧ w.cell? ⟨g, o + 4, none⟩ = some (.int .i64 f.he) :=
  ⟨h 0 _ rfl, h 1 _ rfl, h 2 _ rfl, h 3 _ rfl, h 4 _ rfl⟩
def FeB (w : World) (g : Nat) (f : Fe) : Prop := w.heap[g]? = some (.cells #[.int .i64 f.ho, .int .u8 f.su, .int .u16 f.tr, .int .i64 f.po, .int .i64 f.he] 65 (0, 0))
theorem fe_box {w : World} {g : Nat} {f : Fe} (h : FeB w g f) : w.cell? ⟨g, 0, none⟩ = some (.int .i64 f.ho) ∧ w.cell? ⟨g, 1, none⟩ = some (.int .u8 f.su) ∧ w.cell? ⟨g, 2, none⟩ = some (.int .u16 f.tr) ∧ w.cell? ⟨g, 3, none⟩ = some (.int .i64 f.po) ∧ w.cell? ⟨g, 4, none⟩ = some (.int .i64 f.he) :=
  ⟨(block_cell h 0).trans rfl, (block_cell h 1).trans rfl, (block_cell h 2).trans rfl, (block_cell h 3).trans rfl, (block_cell h 4).trans rfl⟩
def sdc (s : Sd) : List Value := [.int .i64 s.th, .int .i64 s.pl, .int .u8 s.wh.wn, .int .u8 s.wh.vb, .int .u8 s.wh.wm, .int .i64 s.wh.ct, .int .u8 s.wh.su, .int .u8 s.wh.tr, .int .u8 s.wh.mr, .string s.wh.nm]
def sdv (s : Sd) : Value := .agg #[.int .i64 s.th, .int .i64 s.pl, .int .u8 s.wh.wn, .int .u8 s.wh.vb, .int .u8 s.wh.wm, .int .i64 s.wh.ct, .int .u8 s.wh.su, .int .u8 s.wh.tr, .int .u8 s.wh.mr, .string s.wh.nm]
theorem sdc_ones (s : Sd) : ∀ v ∈ sdc s, v.oneCell' = true := fun v h => by
  simp only [sdc, List.mem_cons, List.not_mem_nil, or_false] at h
  rcases h with h | h | h | h | h | h | h | h | h | h <;> (subst h; rfl)
def sdR : RecT Sd := ⟨10, sdc, fun _ => rfl, sdc_ones, by decide⟩
theorem sd_cells {w : World} {g o : Nat} {s : Sd} (h : w.rangeAt g o (sdc s)) : w.cell? ⟨g, o, none⟩ = some (.int .i64 s.th) ∧ w.cell? ⟨g, o + 1, none⟩ = some (.int .i64 s.pl) ∧ w.cell? ⟨g, o + 2, none⟩ = some (.int .u8 s.wh.wn) ∧ w.cell? ⟨g, o + 3, none⟩ = some (.int .u8 s.wh.vb) ∧ w.cell? ⟨g, o + 4, none⟩ = some (.int .u8 s.wh.wm) ∧ w.cell? ⟨g, o + 5, none⟩ = some (.int .i64 s.wh.ct) ∧ w.cell? ⟨g, o + 6, none⟩ = some (.int .u8 s.wh.su) ∧ w.cell? ⟨g, o + 7, none⟩ = some (.int .u8 s.wh.tr) ∧ w.cell? ⟨g, o + 8, none⟩ = some (.int .u8 s.wh.mr) ∧ w.cell? ⟨g, o + 9, none⟩ = some (.string s.wh.nm) :=
  ⟨h 0 _ rfl, h 1 _ rfl, h 2 _ rfl, h 3 _ rfl, h 4 _ rfl, h 5 _ rfl, h 6 _ rfl, h 7 _ rfl, h 8 _ rfl, h 9 _ rfl⟩
def SdB (w : World) (g : Nat) (s : Sd) : Prop := w.heap[g]? = some (.cells #[.int .i64 s.th, .int .i64 s.pl, .int .u8 s.wh.wn, .int .u8 s.wh.vb, .int .u8 s.wh.wm, .int .i64 s.wh.ct, .int .u8 s.wh.su, .int .u8 s.wh.tr, .int .u8 s.wh.mr, .string s.wh.nm] 40 (0, 0))
theorem sd_box {w : World} {g : Nat} {s : Sd} (h : SdB w g s) : w.cell? ⟨g, 0, none⟩ = some (.int .i64 s.th) ∧ w.cell? ⟨g, 1, none⟩ = some (.int .i64 s.pl) ∧ w.cell? ⟨g, 2, none⟩ = some (.int .u8 s.wh.wn) ∧ w.cell? ⟨g, 3, none⟩ = some (.int .u8 s.wh.vb) ∧ w.cell? ⟨g, 4, none⟩ = some (.int .u8 s.wh.wm) ∧ w.cell? ⟨g, 5, none⟩ = some (.int .i64 s.wh.ct) ∧ w.cell? ⟨g, 6, none⟩ = some (.int .u8 s.wh.su) ∧ w.cell? ⟨g, 7, none⟩ = some (.int .u8 s.wh.tr) ∧ w.cell? ⟨g, 8, none⟩ = some (.int .u8 s.wh.mr) ∧ w.cell? ⟨g, 9, none⟩ = some (.string s.wh.nm) :=
  ⟨(block_cell h 0).trans rfl, (block_cell h 1).trans rfl, (block_cell h 2).trans rfl, (block_cell h 3).trans rfl, (block_cell h 4).trans rfl, (block_cell h 5).trans rfl, (block_cell h 6).trans rfl, (block_cell h 7).trans rfl, (block_cell h 8).trans rfl, (block_cell h 9).trans rfl⟩
def sec (e : Se) : List Value := [.int .i64 e.s.th, .int .i64 e.s.pl, .int .u8 e.s.wh.wn, .int .u8 e.s.wh.vb, .int .u8 e.s.wh.wm, .int .i64 e.s.wh.ct, .int .u8 e.s.wh.su, .int .u8 e.s.wh.tr, .int .u8 e.s.wh.mr, .string e.s.wh.nm, .int .i64 (e.ro : Int)]
def sev (e : Se) : Value := .agg #[.int .i64 e.s.th, .int .i64 e.s.pl, .int .u8 e.s.wh.wn, .int .u8 e.s.wh.vb, .int .u8 e.s.wh.wm, .int .i64 e.s.wh.ct, .int .u8 e.s.wh.su, .int .u8 e.s.wh.tr, .int .u8 e.s.wh.mr, .string e.s.wh.nm, .int .i64 (e.ro : Int)]
theorem sec_ones (e : Se) : ∀ v ∈ sec e, v.oneCell' = true := fun v h => by
  simp only [sec, List.mem_cons, List.not_mem_nil, or_false] at h
  rcases h with h | h | h | h | h | h | h | h | h | h | h <;> (subst h; rfl)
def seR : RecT Se := ⟨11, sec, fun _ => rfl, sec_ones, by decide⟩
theorem se_cells {w : World} {g o : Nat} {e : Se} (h : w.rangeAt g o (sec e)) : w.cell? ⟨g, o, none⟩ = some (.int .i64 e.s.th) ∧ w.cell? ⟨g, o + 1, none⟩ = some (.int .i64 e.s.pl) ∧ w.cell? ⟨g, o + 2, none⟩ = some (.int .u8 e.s.wh.wn) ∧ w.cell? ⟨g, o + 3, none⟩ = some (.int .u8 e.s.wh.vb) ∧ w.cell? ⟨g, o + 4, none⟩ = some (.int .u8 e.s.wh.wm) ∧ w.cell? ⟨g, o + 5, none⟩ = some (.int .i64 e.s.wh.ct) ∧ w.cell? ⟨g, o + 6, none⟩ = some (.int .u8 e.s.wh.su) ∧ w.cell? ⟨g, o + 7, none⟩ = some (.int .u8 e.s.wh.tr) ∧ w.cell? ⟨g, o + 8, none⟩ = some (.int .u8 e.s.wh.mr) ∧ w.cell? ⟨g, o + 9, none⟩ = some (.string e.s.wh.nm) ∧ w.cell? ⟨g, o + 10, none⟩ = some (.int .i64 (e.ro : Int)) :=
  ⟨h 0 _ rfl, h 1 _ rfl, h 2 _ rfl, h 3 _ rfl, h 4 _ rfl, h 5 _ rfl, h 6 _ rfl, h 7 _ rfl, h 8 _ rfl, h 9 _ rfl, h 10 _ rfl⟩
def SeB (w : World) (g : Nat) (e : Se) : Prop := w.heap[g]? = some (.cells #[.int .i64 e.s.th, .int .i64 e.s.pl, .int .u8 e.s.wh.wn, .int .u8 e.s.wh.vb, .int .u8 e.s.wh.wm, .int .i64 e.s.wh.ct, .int .u8 e.s.wh.su, .int .u8 e.s.wh.tr, .int .u8 e.s.wh.mr, .string e.s.wh.nm, .int .i64 (e.ro : Int)] 167 (0, 0))
theorem se_box {w : World} {g : Nat} {e : Se} (h : SeB w g e) : w.cell? ⟨g, 0, none⟩ = some (.int .i64 e.s.th) ∧ w.cell? ⟨g, 1, none⟩ = some (.int .i64 e.s.pl) ∧ w.cell? ⟨g, 2, none⟩ = some (.int .u8 e.s.wh.wn) ∧ w.cell? ⟨g, 3, none⟩ = some (.int .u8 e.s.wh.vb) ∧ w.cell? ⟨g, 4, none⟩ = some (.int .u8 e.s.wh.wm) ∧ w.cell? ⟨g, 5, none⟩ = some (.int .i64 e.s.wh.ct) ∧ w.cell? ⟨g, 6, none⟩ = some (.int .u8 e.s.wh.su) ∧ w.cell? ⟨g, 7, none⟩ = some (.int .u8 e.s.wh.tr) ∧ w.cell? ⟨g, 8, none⟩ = some (.int .u8 e.s.wh.mr) ∧ w.cell? ⟨g, 9, none⟩ = some (.string e.s.wh.nm) ∧ w.cell? ⟨g, 10, none⟩ = some (.int .i64 (e.ro : Int)) :=
  ⟨(block_cell h 0).trans rfl, (block_cell h 1).trans rfl, (block_cell h 2).trans rfl, (block_cell h 3).trans rfl, (block_cell h 4).trans rfl, (block_cell h 5).trans rfl, (block_cell h 6).trans rfl, (block_cell h 7).trans rfl, (block_cell h 8).trans rfl, (block_cell h 9).trans rfl, (block_cell h 10).trans rfl⟩
def rvc (x : Rv) : List Value := [.int .i64 x.r.nu, .int .i64 x.r.st, .string x.r.h.nm, .int .u8 x.r.h.su, .int .u8 x.r.h.kd, .int .i64 x.r.h.co, .int .i64 x.r.h.po, .int .i64 x.r.h.he, .int .u16 x.r.h.tr, .bool x.r.h.tk, x.u]
theorem rvc_ones (x : Rv) : ∀ v ∈ rvc x, v.oneCell' = true := fun v h => by
  simp only [rvc, List.mem_cons, List.not_mem_nil, or_false] at h
  rcases h with h | h | h | h | h | h | h | h | h | h | h <;> (subst h; rfl)
def rvR : RecT Rv := ⟨11, rvc, fun _ => rfl, rvc_ones, by decide⟩
theorem rv_cells {w : World} {g o : Nat} {x : Rv} (h : w.rangeAt g o (rvc x)) : w.cell? ⟨g, o, none⟩ = some (.int .i64 x.r.nu) ∧ w.cell? ⟨g, o + 1, none⟩ = some (.int .i64 x.r.st) ∧ w.cell? ⟨g, o + 2, none⟩ = some (.string x.r.h.nm) ∧ w.cell? ⟨g, o + 3, none⟩ = some (.int .u8 x.r.h.su) ∧ w.cell? ⟨g, o + 4, none⟩ = some (.int .u8 x.r.h.kd) ∧ w.cell? ⟨g, o + 5, none⟩ = some (.int .i64 x.r.h.co) ∧ w.cell? ⟨g, o + 6, none⟩ = some (.int .i64 x.r.h.po) ∧ w.cell? ⟨g, o + 7, none⟩ = some (.int .i64 x.r.h.he) ∧ w.cell? ⟨g, o + 8, none⟩ = some (.int .u16 x.r.h.tr) ∧ w.cell? ⟨g, o + 9, none⟩ = some (.bool x.r.h.tk) ∧ w.cell? ⟨g, o + 10, none⟩ = some (x.u) :=
  ⟨h 0 _ rfl, h 1 _ rfl, h 2 _ rfl, h 3 _ rfl, h 4 _ rfl, h 5 _ rfl, h 6 _ rfl, h 7 _ rfl, h 8 _ rfl, h 9 _ rfl, h 10 _ rfl⟩
def tbv (vr vf : Value) : Value := .agg #[vr, vf]
def TbB (w : World) (g : Nat) (vr vf : Value) : Prop := w.heap[g]? = some (.cells #[vr, vf] 161 (0, 0))
theorem tb_box {w : World} {g : Nat} {vr vf : Value} (h : TbB w g vr vf) : w.cell? ⟨g, 0, none⟩ = some vr ∧ w.cell? ⟨g, 1, none⟩ = some vf := ⟨(block_cell h 0).trans rfl, (block_cell h 1).trans rfl⟩
structure TbAt (w : World) (vr vf : Value) (X : List Rv) (F : List Fe) : Prop where
  rows : rvR.At w vr X
  parts : ∀ x ∈ X, PsAt w x.u x.r.ps ∧ x.r.ps.length ≤ 4
  fs : feR.At w vf F
  len : F.length = X.length
  few : X.length ≤ 16
theorem TbAt.keep {w w' : World} {vr vf : Value} {X : List Rv} {F : List Fe} (h : TbAt w vr vf X F) (g : w.grownBy w' none) : TbAt w' vr vf X F := ⟨h.rows.keep g, fun x hx => ⟨(h.parts x hx).1.keep g, (h.parts x hx).2⟩, h.fs.keep g, h.len, h.few⟩
theorem TbAt.row {w : World} {vr vf : Value} {X : List Rv} {F : List Fe} (h : TbAt w vr vf X F) {i : Nat} (hi : i < X.length) : ∃ g off cap, vr = .slice (some ⟨g, off, none⟩) X.length cap ∧ w.rangeAt g (off + i * 11) (rvc X[i]) := h.rows.there hi
theorem TbAt.fe {w : World} {vr vf : Value} {X : List Rv} {F : List Fe} (h : TbAt w vr vf X F) {i : Nat} (hi : i < X.length) : ∃ g off cap, vf = .slice (some ⟨g, off, none⟩) F.length cap ∧ w.rangeAt g (off + i * 5) (fec (F.getD i Fe.none)) := by
  have hi' : i < F.length := by rw [h.len]; exact hi
  have := h.fs.there hi'
  rw [show F.getD i Fe.none = F[i] from by rw [List.getD_eq_getElem?_getD, List.getElem?_eq_getElem hi']; rfl]
  exact this
end Go.Proofs.YthfjgpjcepmnmaaGreat
