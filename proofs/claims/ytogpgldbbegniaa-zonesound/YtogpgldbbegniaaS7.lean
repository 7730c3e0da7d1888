/-
  ApartInts of lists that lie in blocks of their own answers true: each place holds what was written there.
  OverInts; lists of the call's own as ApartInts takes them.
  PileShuffles, walked: Next and Shuffle are the document's, of every list and state; what was handed in stays; the answers lie in memory of their own. (The program's Shuffle: pshuf_any, as rshuf_any.)
-/
import Derived.Test.YtogpgldbbegniaaS4
import Derived.Test.YtogpgldbbegniaaS6
namespace Go.Proofs.Ytogpgldbbegniaa
open Go.RowKit

def RoomI (w : World) (g cap : Nat) : Prop := ∃ cs, w.heap[g]? = some (.cells cs 3 (0, 0)) ∧ cs.size = cap
theorem RoomI.cell {w : World} {g cap : Nat} (h : RoomI w g cap) {i : Nat} (hi : i < cap) : ∃ u, w.cell? ⟨g, i, none⟩ = some u := by
  obtain ⟨cs, h1, h2⟩ := h
  exact ⟨_, by rw [block_cell h1]; exact Array.getElem?_eq_getElem (by omega)⟩
theorem RoomI.free {w : World} {g cap : Nat} (h : RoomI w g cap) (i : Nat) : w.frozen? ⟨g, i, none⟩ = false := by
  obtain ⟨cs, h1, h2⟩ := h
  exact block_free h1 i
def mkI (i k : Int) : Int := wrap64 (wrap64 (wrap64 (-1000003 * i) - k) - 5)
def Lst.okI (w : World) (x : Lst) : Prop := (x.a = none ∧ x.n = 0 ∧ x.cap = 0) ∨ ∃ g, x.a = some g ∧ x.n ≤ x.cap ∧ lim x.cap ∧ RoomI w g x.cap
/-- The lists, marked so far: those before i, and of list i the first k places. -/
def MkI (w : World) (T : List Lst) (i k : Nat) : Prop := ∀ (j : Nat) (x : Lst) (g : Nat), T[j]? = some x → x.a = some g → ∃ cs, w.heap[g]? = some (.cells cs 3 (0, 0)) ∧ cs.size = x.cap ∧ ∀ m, m < x.cap → (j < i ∨ (j = i ∧ m < k)) → cs[m]? = some (.int .i64 (mkI j m))
theorem MkI.keep {w w' : World} {T : List Lst} {i k : Nat} (M : MkI w T i k) (g : w.grownBy w' none) : MkI w' T i k := fun j x b hj hb => by
  obtain ⟨cs, h1, h2⟩ := M j x b hj hb
  exact ⟨cs, grown_keep g h1 (by simp), h2⟩
theorem mkI_start {w w' : World} {T : List Lst} (D : ∀ x ∈ T, x.okI w) (g : w.grownBy w' none) : MkI w' T 0 0 := fun j x b hj hb => by
  rcases D x (List.mem_of_getElem? hj) with ⟨h, _⟩ | ⟨g', h, _, _, cs, h1, h2⟩
  · rw [h] at hb; cases hb
  · rw [h] at hb
    obtain rfl := Option.some.inj hb
    exact ⟨cs, grown_keep g h1 (by simp), h2, fun m _ h => by omega⟩
theorem MkI.room {w : World} {T : List Lst} {i k j g : Nat} {x : Lst} (M : MkI w T i k) (hj : T[j]? = some x) (hg : x.a = some g) : RoomI w g x.cap := by
  obtain ⟨cs, h1, h2, _⟩ := M j x g hj hg
  exact ⟨cs, h1, h2⟩
theorem MkI.read {w : World} {T : List Lst} {g : Nat} {j : Nat} {x : Lst} (M : MkI w T T.length 0) (hj : T[j]? = some x) (hg : x.a = some g) {m : Nat} (hm : m < x.cap) : w.cell? ⟨g, m, none⟩ = some (.int .i64 (mkI j m)) := by
  obtain ⟨cs, h1, h2, h3⟩ := M j x g hj hg
  rw [block_cell h1]
  exact h3 m hm (Or.inl (List.getElem?_eq_some_iff.1 hj).1)
/-- A trait is written at place m of block g. -/
def putI (w : World) (g o : Nat) (z : Int) : World := w.setCell ⟨g, o, none⟩ (.int .i64 z)
theorem putI_block {w : World} {g : Nat} {cs : Array Value} (h : w.heap[g]? = some (.cells cs 3 (0, 0))) (o : Nat) (z : Int) : (putI w g o z).heap[g]? = some (.cells (cs.setIfInBounds o (.int .i64 z)) 3 (0, 0)) := block_set h _ _
theorem putI_grown (w : World) (g o : Nat) (z : Int) : w.grownBy (putI w g o z) (some g) := grown_set _ _ _ _
theorem MkI.step {w : World} {T : List Lst} {i k g : Nat} {x : Lst} (M : MkI w T i k) (hD : Diff T) (hi : T[i]? = some x) (hg : x.a = some g) (hk : k < x.cap) : MkI (putI w g k (mkI i k)) T i (k + 1) := fun j y b hj hb => by
  obtain ⟨cs, h1, h2, h3⟩ := M j y b hj hb
  by_cases e : b = g
  · subst e
    obtain rfl := hD j i y x b hj hi hb hg
    obtain rfl : y = x := Option.some.inj (hj.symm.trans hi)
    refine ⟨_, putI_block h1 _ _, by simpa using h2, fun m hm h => ?_⟩
    rw [Array.getElem?_setIfInBounds]
    by_cases em : k = m
    · subst em
      rw [if_pos rfl, if_pos (by omega)]
    · rw [if_neg em]
      exact h3 m hm (by omega)
  · refine ⟨cs, grown_keep (putI_grown w g _ _) h1 (by simpa using e), h2, fun m hm h => h3 m hm ?_⟩
    by_cases ej : j = i
    · subst ej
      obtain rfl : y = x := Option.some.inj (hj.symm.trans hi)
      rw [hg] at hb
      exact absurd (Option.some.inj hb).symm e
    · omega
theorem MkI.next {w : World} {T : List Lst} {i k : Nat} {x : Lst} (M : MkI w T i k) (hi : T[i]? = some x) (hk : x.cap ≤ k) : MkI w T (i + 1) 0 := fun j y b hj hb => by
  obtain ⟨cs, h1, h2, h3⟩ := M j y b hj hb
  refine ⟨cs, h1, h2, fun m hm h => h3 m hm ?_⟩
  by_cases e : j = i
  · subst e
    obtain rfl : y = x := Option.some.inj (hj.symm.trans hi)
    omega
  · omega
theorem Try.infoI : (Try.prog.info? 22).map (fun i => (i.zero, i.size, i.bytes)) = some (some (.slice none 0 0), 1, 24) := by kernel_rfl
theorem rowI_of_own {w : World} {base : Nat} {v : Value} {T : List Lst} (h : w.ownsRow base 22 1 v T.length (fcells T)) (h0 : 0 < T.length) : ∃ g cap, v = .slice (some ⟨g, 0, none⟩) T.length cap ∧ base ≤ g ∧ (∀ (j : Nat) x, T[j]? = some x → w.cell? ⟨g, j, none⟩ = some x.f) ∧ ∃ cs, w.heap[g]? = some (.cells cs 22 (0, 0)) := by
  obtain ⟨h1, h2⟩ := h
  rcases h2 with ⟨rfl, e⟩ | ⟨g, cap, cur, rfl, hg0, hh, hn, hm, hs, ht⟩
  · omega
  · refine ⟨g, cap, rfl, hg0, fun j x hj => ?_, cur, hh⟩
    have hl := (List.getElem?_eq_some_iff.1 hj).1
    have e : (fcells T)[j]? = some x.f := by unfold fcells; rw [List.getElem?_map, hj]; rfl
    rw [block_cell hh, ← e, ← ht, List.getElem?_take, if_pos (by omega)]
    simp
def S12I (ga k g xc : Nat) (w : World) : Prop := w.cell? ⟨ga, k, none⟩ = some (.slice (some ⟨g, 0, none⟩) xc xc)
theorem S12I.c {ga k g xc : Nat} {w : World} (h : S12I ga k g xc w) : w.cell? ⟨ga, k, none⟩ = some (.slice (some ⟨g, 0, none⟩) xc xc) := h
def S19I (ga k g xc m : Nat) (w : World) : Prop := w.cell? ⟨ga, k, none⟩ = some (.slice (some ⟨g, 0, none⟩) xc xc) ∧ w.cell? ⟨g, m, none⟩ = some (.int .i64 (mkI k m))
theorem S19I.c {ga k g xc m : Nat} {w : World} (h : S19I ga k g xc m w) : w.cell? ⟨ga, k, none⟩ = some (.slice (some ⟨g, 0, none⟩) xc xc) := h.1
theorem S19I.p {ga k g xc m : Nat} {w : World} (h : S19I ga k g xc m w) : w.cell? ⟨g, m, none⟩ = some (.int .i64 (mkI k m)) := h.2
end Go.Proofs.Ytogpgldbbegniaa
namespace Go.Proofs.Ytogpgldbbegniaa
open Go.RowKit

/-- Blocks that rise are different ones. -/
theorem diff_rising {T : List Lst} (h : T.Pairwise fun x y => ∀ a b, x.a = some a → y.a = some b → a < b) : Diff T := fun i j x y g hi hj hx hy => by
  have hi' := List.getElem?_eq_some_iff.1 hi
  have hj' := List.getElem?_eq_some_iff.1 hj
  obtain ⟨li, ei⟩ := hi'
  obtain ⟨lj, ej⟩ := hj'
  rw [List.pairwise_iff_getElem] at h
  rcases Nat.lt_trichotomy i j with c | c | c
  · have := h i j li lj c g g (by rw [ei]; exact hx) (by rw [ej]; exact hy)
    omega
  · exact c
  · have := h j i lj li c g g (by rw [ej]; exact hy) (by rw [ei]; exact hx)
    omega
/-- A list of the call's own, as ApartInts takes it: behind base, ahead of the heap's end. -/
theorem own_lstI {w : World} {base n : Nat} {v : Value} {xs : List Value} (h : w.ownsRow base 3 1 v n xs) : ∃ x : Lst, v = x.v ∧ x.n = n ∧ x.okI w ∧ ∀ g, x.a = some g → base ≤ g ∧ g < w.heap.size := by
  rcases h.2 with ⟨e, h0⟩ | ⟨g, cap, cur, e, hb, hh, hn, hm, hs, ht⟩
  · exact ⟨⟨none, 0, 0⟩, e, h0.symm, Or.inl ⟨rfl, rfl, rfl⟩, fun g hg => by cases hg⟩
  · exact ⟨⟨some g, n, cap⟩, e, rfl, Or.inr ⟨g, rfl, hn, hm, cur, hh, by rw [hs, Nat.mul_one]⟩, fun g' hg => by cases hg; exact ⟨hb, block_lt hh⟩⟩
theorem okI_keep {w w' : World} {x : Lst} {r : Option Nat} (h : x.okI w) (k : w.grownBy w' r) (hr : ∀ g, x.a = some g → some g ≠ r) : x.okI w' := by
  rcases h with h | ⟨g, h1, h2, h3, cs, h4, h5⟩
  · exact Or.inl h
  · exact Or.inr ⟨g, h1, h2, h3, cs, grown_keep k h4 (hr g h1), h5⟩
end Go.Proofs.Ytogpgldbbegniaa
namespace Go.Proofs.Ytogpgldbbegniaa
open Go.RowKit

/-- The lent list, as far as it was handed in. -/
theorem lent_in {w : World} {g n : Nat} {l : List Int} (h : w.ownsRow g 3 1 (.slice (some ⟨g, 0, none⟩) (n + 2) (n + 2)) (n + 2) (ints (l ++ [-77, -77]))) (hn : l.length = n) : IntsA w (.slice (some ⟨g, 0, none⟩) n (n + 2)) l := by
  subst hn
  refine Or.inr ⟨_, _, rfl, fun j u hu => ?_⟩
  have hj : j < l.length := by have := (List.getElem?_eq_some_iff.1 hu).1; rwa [length_ints] at this
  rw [add_plain, Nat.zero_add, World.ownsRow.cellAt h j (by omega), ints_app, List.getElem?_append_left (by rw [length_ints]; exact hj)]
  exact hu
theorem same_own {w : World} {a b : Value} {p q n : Nat} {l : List Int} (ha : w.ownsRow p 3 1 a n (ints l)) (hb : w.ownsRow q 3 1 b n (ints l)) (hl : l.length = n) : Calls Try.prog 24 #[a, b] w fun e w' => e = .returned (.bool true) ∧ w.grownBy w' none := by
  subst hl
  refine (L.same_ints a b l l w (L.Own.ints ha) (L.Own.ints hb)).mono ?_
  rintro e w' ⟨rfl, n, rfl⟩
  exact ⟨by rw [decide_eq_true rfl], grown_drewN _ _ _⟩
theorem IntsA.form {w : World} {v : Value} {l : List Int} (h : IntsA w v l) : ∃ a c, v = .slice a l.length c := by
  rcases h with ⟨rfl, rfl⟩ | ⟨ad, cap, rfl, _⟩
  · exact ⟨_, _, rfl⟩
  · exact ⟨_, _, rfl⟩
theorem own_form {w : World} {base n : Nat} {v : Value} {xs : List Value} (h : w.ownsRow base 3 1 v n xs) : ∃ a c, v = .slice a n c := by
  rcases h.2 with ⟨e, h0⟩ | ⟨g, cap, cur, e, _⟩
  · exact ⟨_, _, by rw [e, h0]⟩
  · exact ⟨_, _, e⟩
theorem own_keepN {w w' : World} {base n : Nat} {v : Value} {xs : List Value} (h : w.ownsRow base 3 1 v n xs) (g : w.grownBy w' none) : w'.ownsRow base 3 1 v n xs := World.ownsRow.kept h g (Classical.em (v.ownBlock = none))
theorem own_blt {w : World} {base g n cap : Nat} {xs : List Value} (h : w.ownsRow base 3 1 (.slice (some ⟨g, 0, none⟩) n cap) n xs) : g < w.heap.size := by
  rcases h.2 with ⟨h', _⟩ | ⟨g', cap', cur, h', hb, hh, _⟩
  · simp at h'
  · simp at h'
    rw [h'.1]
    exact block_lt hh
theorem L_keep {w w' : World} {base n f : Nat} {v : Value} {xs : List Value} (h : w.ownsRow base 3 1 v n xs) (g : w.grownBy w' (some f)) (hf : f < base) : w'.ownsRow base 3 1 v n xs := World.ownsRow.kept h g (by
  rcases h.2 with ⟨e, _⟩ | ⟨g', cap', cur, e, hb, _⟩
  · exact Or.inl (by rw [e]; rfl)
  · refine Or.inr ?_
    rw [e]
    intro h9
    simp [Value.ownBlock] at h9
    omega)
theorem own_app {w : World} {base : Nat} {v : Value} {l : List Int} (h : w.ownsRow base 3 1 v (l.length + 2) (ints (l ++ [-77, -77]))) : L.Own w base v (l ++ [-77, -77]) := by
  unfold L.Own
  rw [List.length_append]
  exact h
theorem lst_of {x : Lst} {g n c : Nat} (h : Value.slice (some ⟨g, 0, none⟩) n c = x.v) : x.a = some g := by
  obtain ⟨a, m, d⟩ := x
  unfold Lst.v at h
  injection h with h1
  cases a with
  | none => simp at h1
  | some y => simp at h1; rw [h1]
theorem shuffled_len (l : List Int) (s : Int) : (shuffled l s).1.length = l.length := shuf_len _ _ _ _
end Go.Proofs.Ytogpgldbbegniaa
