/-
  ApartInts of lists that lie in blocks of their own answers true: each place holds what was written there.
  OverInts; lists of the call's own as ApartInts takes them.
  PileShuffles, walked: Next and Shuffle are the document's, of every list and state; what was handed in stays; the answers lie in memory of their own. (The program's Shuffle: pshuf_any, as rshuf_any.)
  Which numbers may be dealt; one hand: what stands at h, h + hands, h + 2 hands, ..
  The program's Deal, of every list and every two numbers.
  The document's Deal, of every list and every two numbers.
  Deal of every list and every two numbers, of the program and of the document: the same answers.
  Many lists of the call's own, as ApartInts takes them; the lent list, where it may be cut.
  The calls of zones, plainly: Move, Make, Write, Arrange, New; each keeps zones sound.
  Zones, plainly: new ones; the table by stamp rising: one list and no other; how often a number stands in a list.
  Zones, plainly: how it is found whether a list holds each of an owner's things once, whether zones are sound; how many lie on the table; what each list tells.
  Zones that are sound, plainly: each thing stands in just one place, its own; New refuses what it should.
-/
import Derived.Test.YtogpgldbbegniaaS0
import Derived.Test.YtogpgldbbegniaaM24
namespace Go.Proofs.Ytogpgldbbegniaa
open Go.RowKit

def RoomI (w : World) (g cap : Nat) : Prop := ∃ cs, w.heap[g]? = some (.cells cs 3 (0, 0)) ∧ cs.size = cap
theorem RoomI.cell {w : World} {g cap : Nat} (h : RoomI w g cap) {i : Nat} (hi : i < cap) : ∃ u, w.cell? ⟨g, i, none⟩ = some u := by
  obtain ⟨cs, h1, h2⟩ := h
  exact ⟨_, by rw [block_cell h1]; exact Array.getElem?_eq_getElem (by omega)⟩
theorem RoomI.free {w : World} {g cap : Nat} (h : RoomI w g cap) (i : Nat) : w.frozen? ⟨g, i, none⟩ = false := by
  obtain ⟨cs, h1, h2⟩ := h
  exact block_free h1 i
def mkI (i k : Int) : Int := wrap64 (wrap64 (wrap64 (-1000003 * i) - k) - 5)
def Lst.okI (w : World) (x : Lst) : Prop := (x.a = none ∧ x.n = 0 ∧ x.cap = 0) ∨ ∃ g, x.a = some g ∧ x.n ≤ x.cap ∧ lim x.cap ∧ RoomI w g x.cap
/-- The lists, marked so far: those before i, and of list i the first k places. -/
def MkI (w : World) (T : List Lst) (i k : Nat) : Prop := ∀ (j : Nat) (x : Lst) (g : Nat), T[j]? = some x → x.a = some g → ∃ cs, w.heap[g]? = some (.cells cs 3 (0, 0)) ∧ cs.size = x.cap ∧ ∀ m, m < x.cap → (j < i ∨ (j = i ∧ m < k)) → cs[m]? = some (.int .i64 (mkI j m))
theorem MkI.keep {w w' : World} {T : List Lst} {i k : Nat} (M : MkI w T i k) (g : w.grownBy w' none) : MkI w' T i k := fun j x b hj hb => by
  obtain ⟨cs, h1, h2⟩ := M j x b hj hb
  exact ⟨cs, grown_keep g h1 (by simp), h2⟩
theorem mkI_start {w w' : World} {T : List Lst} (D : ∀ x ∈ T, x.okI w) (g : w.grownBy w' none) : MkI w' T 0 0 := fun j x b hj hb => by
  rcases D x (List.mem_of_getElem? hj) with ⟨h, _⟩ | ⟨g', h, _, _, cs, h1, h2⟩
  · rw [h] at hb; cases hb
  · rw [h] at hb
    obtain rfl := Option.some.inj hb
    exact ⟨cs, grown_keep g h1 (by simp), h2, fun m _ h => by omega⟩
theorem MkI.room {w : World} {T : List Lst} {i k j g : Nat} {x : Lst} (M : MkI w T i k) (hj : T[j]? = some x) (hg : x.a = some g) : RoomI w g x.cap := by
  obtain ⟨cs, h1, h2, _⟩ := M j x g hj hg
  exact ⟨cs, h1, h2⟩
theorem MkI.read {w : World} {T : List Lst} {g : Nat} {j : Nat} {x : Lst} (M : MkI w T T.length 0) (hj : T[j]? = some x) (hg : x.a = some g) {m : Nat} (hm : m < x.cap) : w.cell? ⟨g, m, none⟩ = some (.int .i64 (mkI j m)) := by
  obtain ⟨cs, h1, h2, h3⟩ := M j x g hj hg
  rw [block_cell h1]
  exact h3 m hm (Or.inl (List.getElem?_eq_some_iff.1 hj).1)
/-- A trait is written at place m of block g. -/
def putI (w : World) (g o : Nat) (z : Int) : World := w.setCell ⟨g, o, none⟩ (.int .i64 z)
theorem putI_block {w : World} {g : Nat} {cs : Array Value} (h : w.heap[g]? = some (.cells cs 3 (0, 0))) (o : Nat) (z : Int) : (putI w g o z).heap[g]? = some (.cells (cs.setIfInBounds o (.int .i64 z)) 3 (0, 0)) := block_set h _ _
theorem putI_grown (w : World) (g o : Nat) (z : Int) : w.grownBy (putI w g o z) (some g) := grown_set _ _ _ _
theorem MkI.step {w : World} {T : List Lst} {i k g : Nat} {x : Lst} (M : MkI w T i k) (hD : Diff T) (hi : T[i]? = some x) (hg : x.a = some g) (hk : k < x.cap) : MkI (putI w g k (mkI i k)) T i (k + 1) := fun j y b hj hb => by
  obtain ⟨cs, h1, h2, h3⟩ := M j y b hj hb
  by_cases e : b = g
  · subst e
    obtain rfl := hD j i y x b hj hi hb hg
    obtain rfl : y = x := Option.some.inj (hj.symm.trans hi)
    refine ⟨_, putI_block h1 _ _, by simpa using h2, fun m hm h => ?_⟩
    rw [Array.getElem?_setIfInBounds]
    by_cases em : k = m
    · subst em
      rw [if_pos rfl, if_pos (by omega)]
    · rw [if_neg em]
      exact h3 m hm (by omega)
  · refine ⟨cs, grown_keep (putI_grown w g _ _) h1 (by simpa using e), h2, fun m hm h => h3 m hm ?_⟩
    by_cases ej : j = i
    · subst ej
      obtain rfl : y = x := Option.some.inj (hj.symm.trans hi)
      rw [hg] at hb
      exact absurd (Option.some.inj hb).symm e
    · omega
theorem MkI.next {w : World} {T : List Lst} {i k : Nat} {x : Lst} (M : MkI w T i k) (hi : T[i]? = some x) (hk : x.cap ≤ k) : MkI w T (i + 1) 0 := fun j y b hj hb => by
  obtain ⟨cs, h1, h2, h3⟩ := M j y b hj hb
  refine ⟨cs, h1, h2, fun m hm h => h3 m hm ?_⟩
  by_cases e : j = i
  · subst e
    obtain rfl : y = x := Option.some.inj (hj.symm.trans hi)
    omega
  · omega
theorem Try.infoI : (Try.prog.info? 22).map (fun i => (i.zero, i.size, i.bytes)) = some (some (.slice none 0 0), 1, 24) := by kernel_rfl
theorem rowI_of_own {w : World} {base : Nat} {v : Value} {T : List Lst} (h : w.ownsRow base 22 1 v T.length (fcells T)) (h0 : 0 < T.length) : ∃ g cap, v = .slice (some ⟨g, 0, none⟩) T.length cap ∧ base ≤ g ∧ (∀ (j : Nat) x, T[j]? = some x → w.cell? ⟨g, j, none⟩ = some x.f) ∧ ∃ cs, w.heap[g]? = some (.cells cs 22 (0, 0)) := by
  obtain ⟨h1, h2⟩ := h
  rcases h2 with ⟨rfl, e⟩ | ⟨g, cap, cur, rfl, hg0, hh, hn, hm, hs, ht⟩
  · omega
  · refine ⟨g, cap, rfl, hg0, fun j x hj => ?_, cur, hh⟩
    have hl := (List.getElem?_eq_some_iff.1 hj).1
    have e : (fcells T)[j]? = some x.f := by unfold fcells; rw [List.getElem?_map, hj]; rfl
    rw [block_cell hh, ← e, ← ht, List.getElem?_take, if_pos (by omega)]
    simp
def S12I (ga k g xc : Nat) (w : World) : Prop := w.cell? ⟨ga, k, none⟩ = some (.slice (some ⟨g, 0, none⟩) xc xc)
theorem S12I.c {ga k g xc : Nat} {w : World} (h : S12I ga k g xc w) : w.cell? ⟨ga, k, none⟩ = some (.slice (some ⟨g, 0, none⟩) xc xc) := h
def S19I (ga k g xc m : Nat) (w : World) : Prop := w.cell? ⟨ga, k, none⟩ = some (.slice (some ⟨g, 0, none⟩) xc xc) ∧ w.cell? ⟨g, m, none⟩ = some (.int .i64 (mkI k m))
theorem S19I.c {ga k g xc m : Nat} {w : World} (h : S19I ga k g xc m w) : w.cell? ⟨ga, k, none⟩ = some (.slice (some ⟨g, 0, none⟩) xc xc) := h.1
theorem S19I.p {ga k g xc m : Nat} {w : World} (h : S19I ga k g xc m w) : w.cell? ⟨g, m, none⟩ = some (.int .i64 (mkI k m)) := h.2
end Go.Proofs.Ytogpgldbbegniaa
namespace Go.Proofs.Ytogpgldbbegniaa
open Go.RowKit

/-- Blocks that rise are different ones. -/
theorem diff_rising {T : List Lst} (h : T.Pairwise fun x y => ∀ a b, x.a = some a → y.a = some b → a < b) : Diff T := fun i j x y g hi hj hx hy => by
  have hi' := List.getElem?_eq_some_iff.1 hi
  have hj' := List.getElem?_eq_some_iff.1 hj
  obtain ⟨li, ei⟩ := hi'
  obtain ⟨lj, ej⟩ := hj'
  rw [List.pairwise_iff_getElem] at h
  rcases Nat.lt_trichotomy i j with c | c | c
  · have := h i j li lj c g g (by rw [ei]; exact hx) (by rw [ej]; exact hy)
    omega
  · exact c
  · have := h j i lj li c g g (by rw [ej]; exact hy) (by rw [ei]; exact hx)
    omega
/-- A list of the call's own, as ApartInts takes it: behind base, ahead of the heap's end. -/
theorem own_lstI {w : World} {base n : Nat} {v : Value} {xs : List Value} (h : w.ownsRow base 3 1 v n xs) : ∃ x : Lst, v = x.v ∧ x.n = n ∧ x.okI w ∧ ∀ g, x.a = some g → base ≤ g ∧ g < w.heap.size := by
  rcases h.2 with ⟨e, h0⟩ | ⟨g, cap, cur, e, hb, hh, hn, hm, hs, ht⟩
  · exact ⟨⟨none, 0, 0⟩, e, h0.symm, Or.inl ⟨rfl, rfl, rfl⟩, fun g hg => by cases hg⟩
  · exact ⟨⟨some g, n, cap⟩, e, rfl, Or.inr ⟨g, rfl, hn, hm, cur, hh, by rw [hs, Nat.mul_one]⟩, fun g' hg => by cases hg; exact ⟨hb, block_lt hh⟩⟩
theorem okI_keep {w w' : World} {x : Lst} {r : Option Nat} (h : x.okI w) (k : w.grownBy w' r) (hr : ∀ g, x.a = some g → some g ≠ r) : x.okI w' := by
  rcases h with h | ⟨g, h1, h2, h3, cs, h4, h5⟩
  · exact Or.inl h
  · exact Or.inr ⟨g, h1, h2, h3, cs, grown_keep k h4 (hr g h1), h5⟩
end Go.Proofs.Ytogpgldbbegniaa
namespace Go.Proofs.Ytogpgldbbegniaa
open Go.RowKit

/-- The lent list, as far as it was handed in. -/
theorem lent_in {w : World} {g n : Nat} {l : List Int} (h : w.ownsRow g 3 1 (.slice (some ⟨g, 0, none⟩) (n + 2) (n + 2)) (n + 2) (ints (l ++ [-77, -77]))) (hn : l.length = n) : IntsA w (.slice (some ⟨g, 0, none⟩) n (n + 2)) l := by
  subst hn
  refine Or.inr ⟨_, _, rfl, fun j u hu => ?_⟩
  have hj : j < l.length := by have := (List.getElem?_eq_some_iff.1 hu).1; rwa [length_ints] at this
  rw [add_plain, Nat.zero_add, World.ownsRow.cellAt h j (by omega), ints_app, List.getElem?_append_left (by rw [length_ints]; exact hj)]
  exact hu
theorem same_own {w : World} {a b : Value} {p q n : Nat} {l : List Int} (ha : w.ownsRow p 3 1 a n (ints l)) (hb : w.ownsRow q 3 1 b n (ints l)) (hl : l.length = n) : Calls Try.prog 24 #[a, b] w fun e w' => e = .returned (.bool true) ∧ w.grownBy w' none := by
  subst hl
  refine (L.same_ints a b l l w (L.Own.ints ha) (L.Own.ints hb)).mono ?_
  rintro e w' ⟨rfl, n, rfl⟩
  exact ⟨by rw [decide_eq_true rfl], grown_drewN _ _ _⟩
theorem IntsA.form {w : World} {v : Value} {l : List Int} (h : IntsA w v l) : ∃ a c, v = .slice a l.length c := by
  rcases h with ⟨rfl, rfl⟩ | ⟨ad, cap, rfl, _⟩
  · exact ⟨_, _, rfl⟩
  · exact ⟨_, _, rfl⟩
theorem own_form {w : World} {base n : Nat} {v : Value} {xs : List Value} (h : w.ownsRow base 3 1 v n xs) : ∃ a c, v = .slice a n c := by
  rcases h.2 with ⟨e, h0⟩ | ⟨g, cap, cur, e, _⟩
  · exact ⟨_, _, by rw [e, h0]⟩
  · exact ⟨_, _, e⟩
theorem own_keepN {w w' : World} {base n : Nat} {v : Value} {xs : List Value} (h : w.ownsRow base 3 1 v n xs) (g : w.grownBy w' none) : w'.ownsRow base 3 1 v n xs := World.ownsRow.kept h g (Classical.em (v.ownBlock = none))
theorem own_blt {w : World} {base g n cap : Nat} {xs : List Value} (h : w.ownsRow base 3 1 (.slice (some ⟨g, 0, none⟩) n cap) n xs) : g < w.heap.size := by
  rcases h.2 with ⟨h', _⟩ | ⟨g', cap', cur, h', hb, hh, _⟩
  · simp at h'
  · simp at h'
    rw [h'.1]
    exact block_lt hh
theorem L_keep {w w' : World} {base n f : Nat} {v : Value} {xs : List Value} (h : w.ownsRow base 3 1 v n xs) (g : w.grownBy w' (some f)) (hf : f < base) : w'.ownsRow base 3 1 v n xs := World.ownsRow.kept h g (by
  rcases h.2 with ⟨e, _⟩ | ⟨g', cap', cur, e, hb, _⟩
  · exact Or.inl (by rw [e]; rfl)
  · refine Or.inr ?_
    rw [e]
    intro h9
    simp [Value.ownBlock] at h9
    omega)
theorem own_app {w : World} {base : Nat} {v : Value} {l : List Int} (h : w.ownsRow base 3 1 v (l.length + 2) (ints (l ++ [-77, -77]))) : L.Own w base v (l ++ [-77, -77]) := by
  unfold L.Own
  rw [List.length_append]
  exact h
theorem lst_of {x : Lst} {g n c : Nat} (h : Value.slice (some ⟨g, 0, none⟩) n c = x.v) : x.a = some g := by
  obtain ⟨a, m, d⟩ := x
  unfold Lst.v at h
  injection h with h1
  cases a with
  | none => simp at h1
  | some y => simp at h1; rw [h1]
theorem shuffled_len (l : List Int) (s : Int) : (shuffled l s).1.length = l.length := shuf_len _ _ _ _
end Go.Proofs.Ytogpgldbbegniaa
namespace Go.Proofs.Ytogpgldbbegniaa
open Go.RowKit

/-- So many numbers are enough. -/
def dealOk (n : Nat) (h e : Int) : Prop := 1 ≤ h ∧ h ≤ 64 ∧ 0 ≤ e ∧ e * h ≤ (n : Int)
theorem quo_wrap (n H : Nat) (hn : n ≤ 17592186044416) : wrap64 ((n : Int) / (H : Int)) = ((n / H : Nat) : Int) := by
  have hl : (n / H : Nat) ≤ n := Nat.div_le_self _ _
  have e : (n : Int) / (H : Int) = ((n / H : Nat) : Int) := rfl
  rw [e]
  obtain ⟨q, hq⟩ : ∃ q, q = n / H := ⟨_, rfl⟩
  rw [← hq] at hl ⊢
  clear hq e
  unfold wrap64
  omega
theorem quo_le {n H : Nat} {e : Int} (hH : 1 ≤ H) (h0 : 0 ≤ e) : e ≤ ((n / H : Nat) : Int) ↔ e * (H : Int) ≤ (n : Int) := by
  obtain ⟨E, rfl⟩ : ∃ E : Nat, e = (E : Int) := ⟨e.toNat, by omega⟩
  rw [← Int.natCast_mul, Int.ofNat_le, Int.ofNat_le]
  exact Nat.le_div_iff_mul_le (by omega)
/-- A hand, so far: the first k of it; noughts behind them. -/
def dz (l : List Int) (H E h k : Nat) : List Int := (List.range E).map fun j => if j < k then l.getD (h + j * H) 0 else 0
theorem dz_len (l : List Int) (H E h k : Nat) : (dz l H E h k).length = E := by simp [dz]
theorem dz_zero (l : List Int) (H E h : Nat) : dz l H E h 0 = List.replicate E 0 := by
  apply List.ext_getElem (by simp [dz])
  intro i h1 h2
  simp [dz]
theorem dz_full (l : List Int) (H E h : Nat) : dz l H E h E = dealH l H E h := by
  apply List.ext_getElem (by simp [dz, dealH])
  intro i h1 h2
  have : i < E := by simpa [dz] using h1
  simp [dz, dealH, this]
theorem dz_next (l : List Int) (H E h k : Nat) : (dz l H E h k).set k (l.getD (h + k * H) 0) = dz l H E h (k + 1) := by
  apply List.ext_getElem (by simp [dz])
  intro i h1 h2
  rw [List.getElem_set]
  by_cases e : k = i
  · subst e
    simp [dz]
  · simp only [dz, List.getElem_map, List.getElem_range, if_neg e]
    by_cases h9 : i < k
    · rw [if_pos h9, if_pos (by omega)]
    · rw [if_neg h9, if_neg (by omega)]
theorem made_zeros (E : Nat) : (madeCells (Value.int .i64 0).cells (E * 1)).toList = ints (List.replicate E 0) := by
  rw [Nat.mul_one]
  have := L.zeros_eq E
  unfold L.zeros at this
  show (madeCells #[Value.int .i64 0] E).toList = _
  rw [this]
  rfl
/-- Hands in memory of their own: in blocks that rise, from base on, ahead of m. -/
def HandsAt (w : World) (base : Nat) (vs : List Value) (hs : List (List Int)) (m : Nat) : Prop :=
  vs.length = hs.length ∧ (∀ (i : Nat) v l, vs[i]? = some v → hs[i]? = some l → w.ownsRow base 3 1 v l.length (ints l)) ∧
  (∀ (i j : Nat) v v' a b, i < j → vs[i]? = some v → vs[j]? = some v' → v.ownBlock = some a → v'.ownBlock = some b → a < b) ∧ ∀ (i : Nat) v a, vs[i]? = some v → v.ownBlock = some a → a < m
theorem HandsAt.nil (w : World) (base m : Nat) : HandsAt w base [] [] m := ⟨rfl, fun i v l h => by simp at h, fun i j v v' a b _ h => by simp at h, fun i v a h => by simp at h⟩
theorem HandsAt.snoc {w w' : World} {base m m' : Nat} {vs : List Value} {hs : List (List Int)} {v : Value} {l : List Int} (h : HandsAt w base vs hs m) (hk : ∀ (i : Nat) u x, vs[i]? = some u → hs[i]? = some x → w.ownsRow base 3 1 u x.length (ints x) → w'.ownsRow base 3 1 u x.length (ints x)) (hb : base ≤ m) (ho : w'.ownsRow m 3 1 v l.length (ints l)) (hm : ∀ a, v.ownBlock = some a → a < m') (hmm : m ≤ m') : HandsAt w' base (vs ++ [v]) (hs ++ [l]) m' := by
  obtain ⟨h1, h2, h3, h4⟩ := h
  have hlast : ∀ {i : Nat} {u : Value}, (vs ++ [v])[i]? = some u → (i < vs.length ∧ vs[i]? = some u) ∨ (i = vs.length ∧ u = v) := fun {i u} hu => by
    by_cases hi : i < vs.length
    · rw [List.getElem?_append_left hi] at hu
      exact Or.inl ⟨hi, hu⟩
    · rw [List.getElem?_append_right (by omega)] at hu
      have hi2 := (List.getElem?_eq_some_iff.1 hu).1
      have hi3 : i - vs.length = 0 := by simpa using hi2
      rw [hi3] at hu
      exact Or.inr ⟨by omega, by simpa using hu.symm⟩
  refine ⟨by simp [h1], fun i u x hu hx => ?_, fun i j u u' a b hij hu hu' ha hb' => ?_, fun i u a hu ha => ?_⟩
  · rcases hlast hu with ⟨hi, hu⟩ | ⟨hi, rfl⟩
    · rw [List.getElem?_append_left (by omega)] at hx
      exact hk i u x hu hx (h2 i u x hu hx)
    · rw [hi, h1, List.getElem?_append_right (by omega)] at hx
      simp at hx
      subst hx
      exact own_low ho hb
  · rcases hlast hu with ⟨hi, hu1⟩ | ⟨hi, rfl⟩
    · rcases hlast hu' with ⟨hj, hu2⟩ | ⟨hj, e9⟩
      · exact h3 i j u u' a b hij hu1 hu2 ha hb'
      · rw [e9] at hb'
        exact Nat.lt_of_lt_of_le (h4 i u a hu1 ha) (World.ownsRow.lt ho b hb').1
    · rcases hlast hu' with ⟨hj, _⟩ | ⟨hj, _⟩ <;> omega
  · rcases hlast hu with ⟨hi, hu1⟩ | ⟨hi, rfl⟩
    · exact Nat.lt_of_lt_of_le (h4 i u a hu1 ha) hmm
    · exact hm a ha
theorem HandsAt.keep {w w' : World} {base m : Nat} {vs : List Value} {hs : List (List Int)} (h : HandsAt w base vs hs m) (g : w.grownBy w' none) : HandsAt w' base vs hs m :=
  ⟨h.1, fun i v l hv hl => own_keepN (h.2.1 i v l hv hl) g, h.2.2⟩
/-- A list of numbers and a list of hands lie in unlike blocks. -/
theorem own_unlike {w : World} {base b n1 n2 : Nat} {v u : Value} {xs ys : List Value} (h : w.ownsRow base 3 1 v n1 xs) (k : w.ownsRow b 22 1 u n2 ys) : v.ownBlock = none ∨ v.ownBlock ≠ u.ownBlock := by
  rcases h.2 with ⟨e, _⟩ | ⟨g, cap, cur, e, _, hh, _⟩
  · exact Or.inl (by rw [e]; rfl)
  · rcases k.2 with ⟨e2, _⟩ | ⟨g2, cap2, cur2, e2, _, hh2, _⟩
    · exact Or.inr (by rw [e, e2]; simp [Value.ownBlock])
    · refine Or.inr (fun h9 => ?_)
      rw [e, e2] at h9
      simp [Value.ownBlock] at h9
      subst h9
      rw [hh] at hh2
      simp at hh2
/-- What Deal answers. -/
def dealP (l : List Int) (h e : Int) : List (List Int) × List Int × Int := if 1 ≤ h ∧ h ≤ 64 ∧ 0 ≤ e ∧ e * h ≤ (l.length : Int) then (dealAll l h.toNat e.toNat, l.drop (h.toNat * e.toNat), 0) else ([], [], 2)
def DePost (w : World) (l : List Int) (h e : Int) (r : Ending) (w' : World) : Prop := ∃ u v, r = .returned (.tuple #[u, v, .int .i64 (dealP l h e).2.2]) ∧
  (∃ vs m, w'.ownsRow w.heap.size 22 1 u (dealP l h e).1.length vs ∧ HandsAt w' w.heap.size vs (dealP l h e).1 m ∧ w.heap.size ≤ m ∧ m ≤ w'.heap.size ∧ w'.ownsRow m 3 1 v (dealP l h e).2.1.length (ints (dealP l h e).2.1)) ∧ w.grownBy w' none
theorem DePost.no {w : World} {l : List Int} {h e : Int} (hno : ¬ dealOk l.length h e) : DePost w l h e (.returned (.tuple #[.slice none 0 0, .slice none 0 0, .int .i64 2])) w := by
  have hno' : ¬ (1 ≤ h ∧ h ≤ 64 ∧ 0 ≤ e ∧ e * h ≤ (l.length : Int)) := hno
  unfold DePost dealP
  rw [if_neg hno']
  exact ⟨_, _, rfl, ⟨[], w.heap.size, World.ownsRow_nil _ _ _ _, HandsAt.nil _ _ _, Nat.le_refl _, Nat.le_refl _, World.ownsRow_nil _ _ _ _⟩, grown_refl _ _⟩
theorem dealAll_len (l : List Int) (H E : Nat) : (dealAll l H E).length = H := by simp [dealAll]
theorem DePost.yes {w w' : World} {l : List Int} {H E n1 m : Nat} {u v : Value} {vs : List Value} (h1 : 1 ≤ H) (h2 : H ≤ 64) (h3 : E * H ≤ l.length) (hu : w'.ownsRow w.heap.size 22 1 u H vs) (hh : HandsAt w' w.heap.size vs (dealAll l H E) m) (hm : w.heap.size ≤ m) (hm2 : m ≤ w'.heap.size) (hv : w'.ownsRow m 3 1 v n1 (ints (l.drop (H * E)))) (hg : w.grownBy w' none) : DePost w l (H : Int) (E : Int) (.returned (.tuple #[u, v, .int .i64 0])) w' := by
  have hok : 1 ≤ (H : Int) ∧ (H : Int) ≤ 64 ∧ 0 ≤ (E : Int) ∧ (E : Int) * (H : Int) ≤ (l.length : Int) := ⟨by omega, by omega, by omega, by rw [← Int.natCast_mul]; exact Int.ofNat_le.2 h3⟩
  unfold DePost dealP
  rw [if_pos hok]
  simp only [Int.toNat_natCast]
  exact ⟨_, _, rfl, ⟨vs, m, by rw [dealAll_len]; exact hu, hh, hm, hm2, by rw [own_len hv]; exact hv⟩, hg⟩
theorem dealAll_snoc (l : List Int) (H E k : Nat) : (List.range k).map (dealH l H E) ++ [dealH l H E k] = (List.range (k + 1)).map (dealH l H E) := by simp [List.range_succ]
end Go.Proofs.Ytogpgldbbegniaa
namespace Go.Proofs.Ytogpgldbbegniaa
open Go.RowKit

theorem Try.info22 : (Try.prog.info? 22).map (fun i => (i.zero, i.size, i.bytes)) = some (some (.slice none 0 0), 1, 24) := by kernel_rfl
def nils (k : Nat) : List Value := List.replicate k (.slice none 0 0)
theorem made_nils (H : Nat) : (madeCells (Value.slice none 0 0).cells (H * 1)).toList = nils H := by
  rw [Nat.mul_one]
  show (madeCells #[Value.slice none 0 0] H).toList = _
  apply List.ext_getElem
  · simp [size_madeCells, nils]
  · intro i h1 h2
    simp [madeCells, nils, Nat.mod_one]
theorem nils_set {vs : List Value} {H k : Nat} (v : Value) (hk : vs.length = k) (hlt : k < H) : (vs ++ nils (H - k)).set k v = (vs ++ [v]) ++ nils (H - (k + 1)) := by
  subst hk
  rw [List.set_append_right _ _ (Nat.le_refl _), Nat.sub_self]
  have : nils (H - vs.length) = .slice none 0 0 :: nils (H - (vs.length + 1)) := by
    unfold nils
    rw [show H - vs.length = (H - (vs.length + 1)) + 1 by omega, List.replicate_succ]
  rw [this]
  simp
theorem nils_at {vs : List Value} {H k : Nat} (hk : vs.length = k) (hlt : k < H) : (vs ++ nils (H - k))[k]? = some (.slice none 0 0) := by
  subst hk
  rw [List.getElem?_append_right (Nat.le_refl _), Nat.sub_self]
  unfold nils
  rw [show H - vs.length = (H - (vs.length + 1)) + 1 by omega, List.replicate_succ]
  rfl
/-- Hands dealt so far. -/
def DlAt (w wr : World) (l : List Int) (H E k : Nat) : Prop := ∃ vs : List Value, vs.length = k ∧ wr.ownsRow w.heap.size 22 1 (.slice (some ⟨w.heap.size, 0, none⟩) H H) H (vs ++ nils (H - k)) ∧ HandsAt wr w.heap.size vs ((List.range k).map (dealH l H E)) wr.heap.size ∧ w.grownBy wr none
theorem DlAt.cell {w wr : World} {l : List Int} {H E k : Nat} (h : DlAt w wr l H E k) (hk : k < H) : wr.cell? ⟨w.heap.size, k, none⟩ = some (.slice none 0 0) ∧ wr.frozen? ⟨w.heap.size, k, none⟩ = false := by
  obtain ⟨vs, hl, ho, _, _⟩ := h
  exact ⟨by rw [World.ownsRow.cellAt ho k (by omega)]; exact nils_at hl hk, World.ownsRow.frozenAt ho k⟩
theorem own_put {w : World} {base b n1 n2 k : Nat} {v x : Value} {xs ys : List Value} (h : w.ownsRow base 3 1 v n1 xs) (k2 : w.ownsRow b 22 1 (.slice (some ⟨b, 0, none⟩) n2 n2) n2 ys) : (w.setCell ⟨b, k, none⟩ x).ownsRow base 3 1 v n1 xs := World.ownsRow.kept h (grown_set w b k x) (own_unlike h k2)
theorem DlAt.next {w U U1 : World} {l : List Int} {H E k : Nat} (h : DlAt w U l H E k) (hk : k < H) (g1 : U.grownBy U1 none) (o1 : U1.ownsRow U.heap.size 3 1 (.slice (some ⟨U.heap.size, 0, none⟩) E E) E (ints (dealH l H E k))) : DlAt w (U1.setCell ⟨w.heap.size, k, none⟩ (.slice (some ⟨U.heap.size, 0, none⟩) E E)) l H E (k + 1) := by
  obtain ⟨vs, hl, ho, hh, hg⟩ := h
  have ho1 : U1.ownsRow w.heap.size 22 1 (.slice (some ⟨w.heap.size, 0, none⟩) H H) H (vs ++ nils (H - k)) := World.ownsRow.kept ho g1 (Classical.em _)
  have hst := World.ownsRow.stored ho1 k (.slice (some ⟨U.heap.size, 0, none⟩) E E)
  rw [nils_set _ hl hk] at hst
  have hsz : (U1.setCell ⟨w.heap.size, k, none⟩ (.slice (some ⟨U.heap.size, 0, none⟩) E E)).heap.size = U1.heap.size := by simp [World.setCell]
  have hlt := (World.ownsRow.lt o1 U.heap.size rfl).2
  refine ⟨vs ++ [.slice (some ⟨U.heap.size, 0, none⟩) E E], by simp [hl], hst.1, ?_, grown_own (grown_trans hg g1) hst.2 (fun x e => by cases e; exact Nat.le_refl _)⟩
  rw [← dealAll_snoc, hsz]
  refine hh.snoc (fun i u x _ _ h9 => own_put (own_keepN h9 g1) ho1) hg.size ?_ (fun a ha => ?_) g1.size
  · rw [dealH_len]
    exact own_put o1 ho1
  · simp [Value.ownBlock] at ha
    omega
theorem DlAt.full {w U : World} {l : List Int} {H E : Nat} (h : DlAt w U l H E H) : ∃ vs, U.ownsRow w.heap.size 22 1 (.slice (some ⟨w.heap.size, 0, none⟩) H H) H vs ∧ HandsAt U w.heap.size vs (dealAll l H E) U.heap.size ∧ w.grownBy U none := by
  obtain ⟨vs, hl, ho, hh, hg⟩ := h
  rw [Nat.sub_self, show nils 0 = [] from rfl, List.append_nil] at ho
  exact ⟨vs, ho, hh, hg⟩
end Go.Proofs.Ytogpgldbbegniaa
namespace Go.Proofs.Ytogpgldbbegniaa
open Go.RowKit

/-- Hands dealt so far, in a list that grows. -/
def DgAt (w wr : World) (l : List Int) (H E k : Nat) (u : Value) : Prop := ∃ vs : List Value, wr.ownsRow w.heap.size 22 1 u k vs ∧ HandsAt wr w.heap.size vs ((List.range k).map (dealH l H E)) wr.heap.size ∧ w.grownBy wr none
theorem own22_block {w : World} {base n : Nat} {v : Value} {xs : List Value} (h : w.ownsRow base 22 1 v n xs) : ∀ x, v.ownBlock = some x → base ≤ x := fun x hx => (World.ownsRow.lt h x hx).1
theorem own22_keep {w w' : World} {base n : Nat} {v : Value} {xs : List Value} (h : w.ownsRow base 22 1 v n xs) (g : w.grownBy w' none) : w'.ownsRow base 22 1 v n xs := World.ownsRow.kept h g (Classical.em (v.ownBlock = none))
theorem DgAt.next {w U X w7 : World} {l : List Int} {H E k : Nat} {u hv v' : Value} {vs : List Value} (ho : U.ownsRow w.heap.size 22 1 u k vs) (hh : HandsAt U w.heap.size vs ((List.range k).map (dealH l H E)) U.heap.size) (hg : w.grownBy U none) (g1 : U.grownBy X none) (o1 : X.ownsRow U.heap.size 3 1 hv E (ints (dealH l H E k))) (o7 : w7.ownsRow w.heap.size 22 1 v' (k + 1) (vs ++ [hv])) (g7 : X.grownBy w7 u.ownBlock) : DgAt w w7 l H E (k + 1) v' := by
  have hx := own22_keep ho g1
  refine ⟨vs ++ [hv], o7, ?_, grown_own (grown_trans hg g1) g7 (own22_block ho)⟩
  rw [← dealAll_snoc]
  refine hh.snoc (fun i y x _ _ h9 => World.ownsRow.kept (own_keepN h9 g1) g7 (own_unlike (own_keepN h9 g1) hx)) hg.size ?_ (fun a ha => Nat.lt_of_lt_of_le (World.ownsRow.lt o1 a ha).2 g7.size) (Nat.le_trans g1.size g7.size)
  rw [dealH_len]
  exact World.ownsRow.kept o1 g7 (own_unlike o1 hx)
theorem cell22_one (W : World) (v : Value) : ∀ j u, [v][j]? = some u → (W.alloc (.cells #[v] 22)).cell? ((⟨W.heap.size, 0, none⟩ : Addr).add j) = some u := fun j u hu => by
  rw [add_plain, Nat.zero_add, block_cell (alloc_at _ _ _)]
  simpa using hu
theorem own22_form {w : World} {base n : Nat} {v : Value} {xs : List Value} (h : w.ownsRow base 22 1 v n xs) : ∃ a c, v = .slice a n c := by
  rcases h.2 with ⟨e, h0⟩ | ⟨g, cap, cur, e, _⟩
  · exact ⟨_, _, by rw [e, h0]⟩
  · exact ⟨_, _, e⟩
end Go.Proofs.Ytogpgldbbegniaa
namespace Go.Proofs.Ytogpgldbbegniaa
open Go.RowKit

theorem deal_nats {n : Nat} {h e : Int} (hok : dealOk n h e) : ∃ H E : Nat, h = (H : Int) ∧ e = (E : Int) ∧ 1 ≤ H ∧ H ≤ 64 ∧ E * H ≤ n := by
  obtain ⟨h1, h2, h3, h4⟩ := hok
  obtain ⟨H, rfl⟩ : ∃ H : Nat, h = (H : Int) := ⟨h.toNat, by omega⟩
  obtain ⟨E, rfl⟩ : ∃ E : Nat, e = (E : Int) := ⟨e.toNat, by omega⟩
  rw [← Int.natCast_mul] at h4
  exact ⟨H, E, rfl, rfl, by omega, by omega, Int.ofNat_le.1 h4⟩
theorem drop_zero_ints {w w' : World} {u : Value} {H : Nat} (h : w'.ownsRow w.heap.size 3 1 u 0 (ints [])) : w'.ownsRow w.heap.size 3 1 u 0 (ints (([] : List Int).drop (H * 0))) := by
  rw [List.drop_nil]
  exact h
end Go.Proofs.Ytogpgldbbegniaa
namespace Go.Proofs.Ytogpgldbbegniaa
open Go.RowKit

theorem lst_block (x : Lst) : x.v.ownBlock = x.a := by
  obtain ⟨a, n, c⟩ := x
  cases a <;> rfl
theorem lsts_of {w : World} {V : List Value} (h : ∀ v ∈ V, ∃ (lo k : Nat) (xs : List Value), w.ownsRow lo 3 1 v k xs) : ∃ T : List Lst, V = T.map Lst.v ∧ ∀ x ∈ T, x.okI w := by
  induction V with
  | nil => exact ⟨[], rfl, fun x hx => by simp at hx⟩
  | cons v V ih =>
    obtain ⟨T, e, hT⟩ := ih (fun u hu => h u (List.mem_cons_of_mem _ hu))
    obtain ⟨lo, k, xs, ho⟩ := h v List.mem_cons_self
    obtain ⟨x, ex, _, hx, _⟩ := own_lstI ho
    refine ⟨x :: T, by rw [ex, e]; rfl, fun y hy => ?_⟩
    rcases List.mem_cons.1 hy with rfl | hy
    · exact hx
    · exact hT y hy
theorem diff_apart {T : List Lst} (h : (T.map Lst.v).Pairwise fun x y => ∀ a, x.ownBlock = some a → y.ownBlock ≠ some a) : Diff T := fun i j x y g hi hj hx hy => by
  obtain ⟨li, ei⟩ := List.getElem?_eq_some_iff.1 hi
  obtain ⟨lj, ej⟩ := List.getElem?_eq_some_iff.1 hj
  rw [List.pairwise_map, List.pairwise_iff_getElem] at h
  rcases Nat.lt_trichotomy i j with c | c | c
  · exact absurd (by rw [lst_block, ej]; exact hy) (h i j li lj c g (by rw [lst_block, ei]; exact hx))
  · exact c
  · exact absurd (by rw [lst_block, ei]; exact hx) (h j i lj li c g (by rw [lst_block, ej]; exact hy))
theorem blocks_vals (T : List Lst) : blocks T = (T.map Lst.v).filterMap Value.ownBlock := by
  unfold blocks
  rw [List.filterMap_map]
  congr 1
  funext x
  exact (lst_block x).symm
/-- The lent list, as far as it was handed in, may be cut. -/
theorem lent_B {w : World} {g n : Nat} {l : List Int} (h : w.ownsRow g 3 1 (.slice (some ⟨g, 0, none⟩) (n + 2) (n + 2)) (n + 2) (ints (l ++ [-77, -77]))) (hn : l.length = n) : IntsB w (.slice (some ⟨g, 0, none⟩) n (n + 2)) l := by
  subst hn
  refine Or.inr ⟨g, 0, _, rfl, by omega, fun j u hu => ?_⟩
  have hj : j < l.length := by have := (List.getElem?_eq_some_iff.1 hu).1; rwa [length_ints] at this
  rw [Nat.zero_add, World.ownsRow.cellAt h j (by omega), ints_app, List.getElem?_append_left (by rw [length_ints]; exact hj)]
  exact hu
theorem own22_over {w w' : World} {base n f : Nat} {v : Value} {xs : List Value} (h : w.ownsRow base 22 1 v n xs) (g : w.grownBy w' (some f)) (hf : f < base) : w'.ownsRow base 22 1 v n xs := World.ownsRow.kept h g (by
  rcases h.2 with ⟨e, _⟩ | ⟨g', cap', cur, e, hb, _⟩
  · exact Or.inl (by rw [e]; rfl)
  · refine Or.inr ?_
    rw [e]
    intro h9
    simp [Value.ownBlock] at h9
    omega)
theorem HandsAt.over {w w' : World} {base m f : Nat} {vs : List Value} {hs : List (List Int)} (h : HandsAt w base vs hs m) (g : w.grownBy w' (some f)) (hf : f < base) : HandsAt w' base vs hs m :=
  ⟨h.1, fun i v l hv hl => L_keep (h.2.1 i v l hv hl) g hf, h.2.2⟩
theorem HandsAt.at {w : World} {base m i : Nat} {vs : List Value} {hs : List (List Int)} (h : HandsAt w base vs hs m) (hi : i < hs.length) : ∃ v l, vs[i]? = some v ∧ hs[i]? = some l ∧ w.ownsRow base 3 1 v l.length (ints l) := by
  have h1 : i < vs.length := by rw [h.1]; exact hi
  exact ⟨vs[i], hs[i], List.getElem?_eq_getElem h1, List.getElem?_eq_getElem hi, h.2.1 i _ _ (List.getElem?_eq_getElem h1) (List.getElem?_eq_getElem hi)⟩
theorem HandsAt.vals {w : World} {base m : Nat} {vs : List Value} {hs : List (List Int)} (h : HandsAt w base vs hs m) : ∀ v ∈ vs, ∃ (lo k : Nat) (xs : List Value), w.ownsRow lo 3 1 v k xs := fun v hv => by
  obtain ⟨i, hi, e⟩ := List.mem_iff_getElem.1 hv
  obtain ⟨u, l, h1, _, h3⟩ := h.at (i := i) (by rw [← h.1]; exact hi)
  rw [List.getElem?_eq_getElem hi, e] at h1
  cases h1
  exact ⟨_, _, _, h3⟩
theorem HandsAt.blk {w : World} {base m : Nat} {vs : List Value} {hs : List (List Int)} (h : HandsAt w base vs hs m) : ∀ v ∈ vs, ∀ b, v.ownBlock = some b → base ≤ b ∧ b < m := fun v hv b hb => by
  obtain ⟨i, hi, e⟩ := List.mem_iff_getElem.1 hv
  obtain ⟨u, l, h1, _, h3⟩ := h.at (i := i) (by rw [← h.1]; exact hi)
  rw [List.getElem?_eq_getElem hi, e] at h1
  cases h1
  exact ⟨(World.ownsRow.lt h3 b hb).1, h.2.2.2 i _ b (by rw [List.getElem?_eq_getElem hi, e]) hb⟩
theorem HandsAt.pair {w : World} {base m : Nat} {vs : List Value} {hs : List (List Int)} (h : HandsAt w base vs hs m) : vs.Pairwise fun x y => ∀ a, x.ownBlock = some a → y.ownBlock ≠ some a := by
  rw [List.pairwise_iff_getElem]
  intro i j hi hj hij a ha hb
  have := h.2.2.1 i j vs[i] vs[j] a a hij (List.getElem?_eq_getElem hi) (List.getElem?_eq_getElem hj) ha hb
  omega
/-- Values whose blocks lie in rows that rise. -/
theorem pair_in {V : List Value} (S : List (Nat × Nat)) (hl : V.length = S.length) (hb : ∀ (i : Nat) v s, V[i]? = some v → S[i]? = some s → ∀ b, v.ownBlock = some b → s.1 ≤ b ∧ b < s.2) (hs : S.Pairwise fun x y => x.2 ≤ y.1) : V.Pairwise fun x y => ∀ a, x.ownBlock = some a → y.ownBlock ≠ some a := by
  rw [List.pairwise_iff_getElem] at hs ⊢
  intro i j hi hj hij a ha hb'
  have h1 := hb i V[i] S[i] (List.getElem?_eq_getElem hi) (List.getElem?_eq_getElem (by omega)) a ha
  have h2 := hb j V[j] S[j] (List.getElem?_eq_getElem hj) (List.getElem?_eq_getElem (by omega)) a hb'
  have h3 := hs i j (by omega) (by omega) hij
  omega
end Go.Proofs.Ytogpgldbbegniaa
namespace Go.Proofs.Ytogpgldbbegniaa

/-- What Move answers. -/
def Zs.moveE (z : Zs) (n tp : Int) : Int :=
  if ¬ (1 ≤ n ∧ n ≤ (z.ts.length : Int)) then 6
  else if tp < 1 ∨ 5 < tp then 2
  else if tp = 2 ∧ (thAt z.ts n).place ≠ 2 ∧ 10 ≤ (z.hd (thAt z.ts n).owner).length then 14
  else if tp = 4 ∧ (((thAt z.ts n).place ≠ 4 ∧ 8 ≤ owned z.ts (thAt z.ts n).owner) ∨ 1099511627776 ≤ z.nx) then 14
  else 0
def Zs.move (z : Zs) (n tp : Int) : Zs := if z.moveE n tp = 0 then z.come n tp else z
theorem moveE_may {z : Zs} {n tp : Int} (h : z.moveE n tp = 0) : z.May n tp := by
  unfold Zs.moveE at h
  split at h
  · cases h
  next h1 =>
  split at h
  · cases h
  next h2 =>
  split at h
  · cases h
  next h3 =>
  split at h
  · cases h
  next h4 =>
  exact ⟨Classical.not_not.1 h1, by omega, by omega, fun e q => Nat.lt_of_not_le fun r => h3 ⟨e, q, r⟩, fun e q => Nat.lt_of_not_le fun r => h4 ⟨e, Or.inl ⟨q, r⟩⟩, fun e => Int.lt_of_not_ge fun r => h4 ⟨e, Or.inr r⟩⟩
theorem Zs.Sound.move {z : Zs} (S : z.Sound) (n tp : Int) : (z.move n tp).Sound := by
  unfold Zs.move
  split
  · next h => exact S.come (moveE_may h)
  · exact S

/-- A thing that is nowhere yet: in the grave. -/
def newTh (card p : Int) : Th := ⟨card, p, 5, 0, 0, 0, 0, 0, 0, 0, false⟩
def Zs.more (z : Zs) (card p : Int) : Zs := { z with ts := z.ts ++ [newTh card p] }
theorem more_there {z : Zs} {card p n : Int} : there (z.more card p).ts n ↔ there z.ts n ∨ n = (z.ts.length : Int) + 1 := by
  unfold there Zs.more
  rw [List.length_append, List.length_singleton]
  omega
theorem more_old {z : Zs} {card p n : Int} (h : there z.ts n) : thAt (z.more card p).ts n = thAt z.ts n := by
  unfold there at h
  unfold thAt Zs.more
  rw [List.getD_eq_getElem?_getD, List.getD_eq_getElem?_getD, List.getElem?_append_left (by omega)]
theorem more_new {z : Zs} {card p : Int} : thAt (z.more card p).ts ((z.ts.length : Int) + 1) = newTh card p := by
  unfold thAt Zs.more
  rw [List.getD_eq_getElem?_getD, show ((z.ts.length : Int) + 1 - 1).toNat = z.ts.length from by omega, List.getElem?_append_right (Nat.le_refl _), Nat.sub_self]
  rfl
theorem more_inn {z : Zs} {card p q pl n : Int} (hpl : pl ≠ 5) : inn (z.more card p).ts q pl n ↔ inn z.ts q pl n := by
  unfold inn
  rw [more_there]
  constructor
  · rintro ⟨h | rfl, h2, h3⟩
    · rw [more_old h] at h2 h3
      exact ⟨h, h2, h3⟩
    · rw [more_new] at h3
      exact absurd h3.symm hpl
  · rintro ⟨h, h2, h3⟩
    rw [more_old h]
    exact ⟨Or.inl h, h2, h3⟩
theorem more_owned {z : Zs} {card p q : Int} : owned (z.more card p).ts q = owned z.ts q := by
  unfold owned Zs.more
  rw [List.countP_append, List.countP_singleton, if_neg (fun h => by have := (onTab_iff.1 h).2; cases this)]
  rfl
theorem Zs.Sound.more {z : Zs} (S : z.Sound) {card p : Int} (hc : 1 ≤ card) (hp : p = 0 ∨ p = 1) (hl : z.ts.length < 2048) : (z.more card p).Sound := by
  refine ⟨?_, S.nx1, S.nx2, ?_, fun q hq => by rw [more_owned]; exact S.tab q hq, S.hand, fun q hq => ⟨(S.dks q hq).1, fun n => by rw [more_inn (by decide)]; exact (S.dks q hq).2 n⟩, fun q hq => ⟨(S.hds q hq).1, fun n => by rw [more_inn (by decide)]; exact (S.hds q hq).2 n⟩, ?_⟩
  · show (z.ts ++ [newTh card p]).length ≤ 2048
    rw [List.length_append, List.length_singleton]
    omega
  · intro t ht
    rcases List.mem_append.1 ht with h | h
    · exact S.each t h
    · rw [List.mem_singleton.1 h]
      exact ⟨hc, hp, ⟨by show (1 : Int) ≤ 5; decide, Int.le_refl _⟩, fun _ => rfl, fun q => by cases q⟩
  · intro a b ha hb pa pb hs
    rw [more_there] at ha hb
    rcases ha with ha | rfl
    · rcases hb with hb | rfl
      · rw [more_old ha] at pa hs
        rw [more_old hb] at pb hs
        exact S.stamps a b ha hb pa pb hs
      · rw [more_new] at pb
        cases pb
    · rw [more_new] at pa
      cases pa
/-- What Make answers. -/
def Zs.makeE (z : Zs) (card p : Int) : Int :=
  if card < 1 ∨ ¬ (p = 0 ∨ p = 1) then 2
  else if 2048 ≤ z.ts.length ∨ 8 ≤ owned z.ts p ∨ 1099511627776 ≤ z.nx then 14
  else 0
def Zs.make (z : Zs) (card p : Int) : Zs := if z.makeE card p = 0 then (z.more card p).come ((z.ts.length : Int) + 1) 4 else z
theorem Zs.Sound.make {z : Zs} (S : z.Sound) (card p : Int) : (z.make card p).Sound := by
  unfold Zs.make
  split
  · next h =>
    unfold Zs.makeE at h
    split at h
    · cases h
    next h1 =>
    split at h
    · cases h
    next h2 =>
    refine (S.more (by omega) (Decidable.not_not.1 fun q => h1 (Or.inr q)) (by omega)).come ⟨more_there.2 (Or.inr rfl), by decide, by decide, fun e => (by cases e), fun _ _ => ?_, fun _ => by show z.nx < _; omega⟩
    rw [more_new, more_owned]
    show owned z.ts p < 8
    omega
  · exact S

/-- What Write answers. -/
def Zs.writeE (z : Zs) (n : Int) (t : Th) : Int :=
  if ¬ (1 ≤ n ∧ n ≤ (z.ts.length : Int)) then 6
  else if (thAt z.ts n).place ≠ 4 ∨ t.card ≠ (thAt z.ts n).card ∨ t.owner ≠ (thAt z.ts n).owner ∨ t.place ≠ (thAt z.ts n).place ∨ t.stamp ≠ (thAt z.ts n).stamp ∨ t.hurt < 0 ∨ t.done < 0 ∨ ¬ ((0 ≤ t.m0 ∧ t.m0 ≤ 99) ∧ (0 ≤ t.m1 ∧ t.m1 ≤ 99) ∧ (0 ≤ t.m2 ∧ t.m2 ≤ 99) ∧ (0 ≤ t.m3 ∧ t.m3 ≤ 99)) then 2
  else 0
def Zs.write (z : Zs) (n : Int) (t : Th) : Zs := if z.writeE n t = 0 then { z with ts := z.ts.set (n - 1).toNat t } else z
theorem Zs.Sound.write {z : Zs} (S : z.Sound) (n : Int) (t : Th) : (z.write n t).Sound := by
  unfold Zs.write
  split
  · next h =>
    unfold Zs.writeE at h
    split at h
    · cases h
    next h1 =>
    split at h
    · cases h
    next h2 =>
    have hn : there z.ts n := Classical.not_not.1 h1
    have e4 : (thAt z.ts n).place = 4 := Decidable.not_not.1 fun q => h2 (Or.inl q)
    have ec : t.card = (thAt z.ts n).card := Decidable.not_not.1 fun q => h2 (Or.inr (Or.inl q))
    have eo : t.owner = (thAt z.ts n).owner := Decidable.not_not.1 fun q => h2 (Or.inr (Or.inr (Or.inl q)))
    have ep : t.place = (thAt z.ts n).place := Decidable.not_not.1 fun q => h2 (Or.inr (Or.inr (Or.inr (Or.inl q))))
    have es : t.stamp = (thAt z.ts n).stamp := Decidable.not_not.1 fun q => h2 (Or.inr (Or.inr (Or.inr (Or.inr (Or.inl q)))))
    have eh : 0 ≤ t.hurt := Int.not_lt.1 fun q => h2 (Or.inr (Or.inr (Or.inr (Or.inr (Or.inr (Or.inl q))))))
    have ed : 0 ≤ t.done := Int.not_lt.1 fun q => h2 (Or.inr (Or.inr (Or.inr (Or.inr (Or.inr (Or.inr (Or.inl q)))))))
    have em : t.marked := Classical.not_not.1 fun q => h2 (Or.inr (Or.inr (Or.inr (Or.inr (Or.inr (Or.inr (Or.inr q)))))))
    have A := S.each _ (there_mem hn)
    have at_ : ∀ m, there z.ts m → (thAt (z.ts.set (n - 1).toNat t) m).owner = (thAt z.ts m).owner ∧ (thAt (z.ts.set (n - 1).toNat t) m).place = (thAt z.ts m).place ∧ (thAt (z.ts.set (n - 1).toNat t) m).stamp = (thAt z.ts m).stamp := fun m hm => by
      rw [thAt_set hn hm]
      split
      · next e => subst e; exact ⟨eo, ep, es⟩
      · exact ⟨rfl, rfl, rfl⟩
    have inn_ : ∀ p pl m, inn (z.ts.set (n - 1).toNat t) p pl m ↔ inn z.ts p pl m := fun p pl m => by
      unfold inn
      rw [there_set]
      constructor
      · rintro ⟨h3, h4, h5⟩
        rw [(at_ m h3).1] at h4
        rw [(at_ m h3).2.1] at h5
        exact ⟨h3, h4, h5⟩
      · rintro ⟨h3, h4, h5⟩
        rw [(at_ m h3).1, (at_ m h3).2.1]
        exact ⟨h3, h4, h5⟩
    refine ⟨by show (z.ts.set _ _).length ≤ _; rw [List.length_set]; exact S.few, S.nx1, S.nx2, ?_, ?_, S.hand, fun p hp => ⟨(S.dks p hp).1, fun m => by rw [inn_]; exact (S.dks p hp).2 m⟩, fun p hp => ⟨(S.hds p hp).1, fun m => by rw [inn_]; exact (S.hds p hp).2 m⟩, ?_⟩
    · intro x hx
      rcases List.mem_or_eq_of_mem_set hx with h | h
      · exact S.each x h
      · rw [h]
        refine ⟨by rw [ec]; exact A.1, by rw [eo]; exact A.2.1, by rw [ep]; exact A.2.2.1, fun q => absurd (ep.trans e4) q, fun _ => ⟨by rw [es]; exact (A.2.2.2.2 e4).1, by rw [es]; exact (A.2.2.2.2 e4).2.1, eh, ed, em⟩⟩
    · intro p hp
      have e := owned_set hn t p
      have h8 := S.tab p hp
      have e2 : onTab p t = onTab p (thAt z.ts n) := by unfold onTab; rw [eo, ep]
      rw [e2] at e
      show owned (z.ts.set (n - 1).toNat t) p ≤ 8
      omega
    · intro a b ha hb pa pb hs
      rw [there_set] at ha hb
      rw [(at_ a ha).2.1] at pa
      rw [(at_ b hb).2.1] at pb
      rw [(at_ a ha).2.2, (at_ b hb).2.2] at hs
      exact S.stamps a b ha hb pa pb hs
  · exact S

/-- Another order of a deck. -/
def Zs.arrange (z : Zs) (p : Int) (l : List Int) : Zs := { z with dk := fun q => if q = p then l else z.dk q }
theorem Zs.Sound.arrange {z : Zs} (S : z.Sound) {p : Int} {l : List Int} (h : Holds z.ts l p 1) : (z.arrange p l).Sound := by
  refine ⟨S.few, S.nx1, S.nx2, S.each, S.tab, S.hand, fun q hq => ?_, S.hds, S.stamps⟩
  show Holds z.ts (if q = p then l else z.dk q) q 1
  split
  · next e => rw [e]; exact h
  · exact S.dks q hq
#print axioms Zs.Sound.make
#print axioms Zs.Sound.come
end Go.Proofs.Ytogpgldbbegniaa
namespace Go.Proofs.Ytogpgldbbegniaa

def nums (a k : Nat) : List Int := (List.range k).map fun (i : Nat) => (a : Int) + (i : Int) + 1
theorem nums_mem {a k : Nat} {n : Int} : n ∈ nums a k ↔ (a : Int) + 1 ≤ n ∧ n ≤ (a : Int) + (k : Int) := by
  unfold nums
  rw [List.mem_map]
  constructor
  · rintro ⟨i, hi, rfl⟩
    have := List.mem_range.1 hi
    omega
  · rintro ⟨h1, h2⟩
    exact ⟨(n - a - 1).toNat, List.mem_range.2 (by omega), by omega⟩
theorem nums_nodup (a k : Nat) : (nums a k).Nodup := by
  unfold nums
  refine List.Pairwise.map _ (fun x y h => ?_) List.nodup_range
  intro e
  exact h (by omega)
def newT (p c : Int) : Th := ⟨c, p, 1, 0, 0, 0, 0, 0, 0, 0, false⟩
def newZ (one two : List Int) : Zs where
  ts := one.map (newT 0) ++ two.map (newT 1)
  dk := fun p => if p = 0 then nums 0 one.length else if p = 1 then nums one.length two.length else []
  hd := fun _ => []
  nx := 1
theorem newZ_len (one two : List Int) : (newZ one two).ts.length = one.length + two.length := by simp [newZ]
theorem newZ_at {one two : List Int} {n : Int} (h : there (newZ one two).ts n) : (thAt (newZ one two).ts n).place = 1 ∧ (thAt (newZ one two).ts n).owner = (if n ≤ (one.length : Int) then 0 else 1) := by
  have e := there_at h
  unfold there at h
  rw [newZ_len] at h
  by_cases h1 : n ≤ (one.length : Int)
  · rw [if_pos h1]
    have : (newZ one two).ts[(n - 1).toNat]? = some (newT 0 (one.getD (n - 1).toNat 0)) := by
      show (one.map (newT 0) ++ two.map (newT 1))[(n - 1).toNat]? = _
      have hl : (n - 1).toNat < one.length := by omega
      rw [List.getElem?_append_left (by rw [List.length_map]; exact hl), List.getElem?_map, List.getElem?_eq_getElem hl, List.getD_eq_getElem?_getD, List.getElem?_eq_getElem hl]
      rfl
    rw [this] at e
    rw [← Option.some.inj e]
    exact ⟨rfl, rfl⟩
  · rw [if_neg h1]
    have : (newZ one two).ts[(n - 1).toNat]? = some (newT 1 (two.getD ((n - 1).toNat - one.length) 0)) := by
      show (one.map (newT 0) ++ two.map (newT 1))[(n - 1).toNat]? = _
      have hl : (n - 1).toNat - one.length < two.length := by omega
      rw [List.getElem?_append_right (by rw [List.length_map]; omega), List.length_map, List.getElem?_map, List.getElem?_eq_getElem hl, List.getD_eq_getElem?_getD, List.getElem?_eq_getElem hl]
      rfl
    rw [this] at e
    rw [← Option.some.inj e]
    exact ⟨rfl, rfl⟩
theorem newZ_sound {one two : List Int} (hl : one.length + two.length ≤ 2048) (h1 : ∀ c ∈ one, 1 ≤ c) (h2 : ∀ c ∈ two, 1 ≤ c) : (newZ one two).Sound := by
  have own : ∀ p, owned (newZ one two).ts p = 0 := fun p => by
    unfold owned
    rw [List.countP_eq_zero]
    intro t ht q
    have := (onTab_iff.1 q).2
    rcases List.mem_append.1 ht with h | h
    · obtain ⟨c, _, rfl⟩ := List.mem_map.1 h
      cases this
    · obtain ⟨c, _, rfl⟩ := List.mem_map.1 h
      cases this
  refine ⟨by rw [newZ_len]; exact hl, Int.le_refl _, by show (1 : Int) ≤ 1099511627776; decide, ?_, fun p _ => by rw [own]; exact Nat.zero_le _, fun p _ => Nat.zero_le _, ?_, ?_, ?_⟩
  · intro t ht
    rcases List.mem_append.1 ht with h | h
    · obtain ⟨c, hc, rfl⟩ := List.mem_map.1 h
      exact ⟨h1 c hc, Or.inl rfl, ⟨Int.le_refl _, by show (1 : Int) ≤ 5; decide⟩, fun _ => rfl, fun q => by cases q⟩
    · obtain ⟨c, hc, rfl⟩ := List.mem_map.1 h
      exact ⟨h2 c hc, Or.inr rfl, ⟨Int.le_refl _, by show (1 : Int) ≤ 5; decide⟩, fun _ => rfl, fun q => by cases q⟩
  · rintro p (rfl | rfl)
    · refine ⟨nums_nodup _ _, fun n => ?_⟩
      show n ∈ nums 0 one.length ↔ _
      rw [nums_mem]
      constructor
      · intro h
        have ht : there (newZ one two).ts n := by unfold there; rw [newZ_len]; omega
        have := newZ_at ht
        rw [if_pos (by omega)] at this
        exact ⟨ht, this.2, this.1⟩
      · rintro ⟨ht, ho, _⟩
        have h3 := (newZ_at ht).2
        rw [ho] at h3
        unfold there at ht
        by_cases q : n ≤ (one.length : Int)
        · omega
        · rw [if_neg q] at h3
          cases h3
    · refine ⟨nums_nodup _ _, fun n => ?_⟩
      show n ∈ nums one.length two.length ↔ _
      rw [nums_mem]
      constructor
      · intro h
        have ht : there (newZ one two).ts n := by unfold there; rw [newZ_len]; omega
        have := newZ_at ht
        rw [if_neg (by omega)] at this
        exact ⟨ht, this.2, this.1⟩
      · rintro ⟨ht, ho, _⟩
        have h3 := (newZ_at ht).2
        rw [ho] at h3
        unfold there at ht
        rw [newZ_len] at ht
        by_cases q : n ≤ (one.length : Int)
        · rw [if_pos q] at h3
          cases h3
        · omega
  · intro p _
    refine ⟨List.nodup_nil, fun n => ?_⟩
    constructor
    · intro h
      cases h
    · rintro ⟨ht, _, hp⟩
      rw [(newZ_at ht).1] at hp
      cases hp
  · intro a b ha _ pa
    rw [(newZ_at ha).1] at pa
    cases pa

/-- Two lists that rise by the same order, with the same members, are one. -/
theorem rise_one {r : Int → Int → Prop} (irr : ∀ a, ¬ r a a) (asy : ∀ a b, r a b → ¬ r b a) : ∀ (l m : List Int), l.Pairwise r → m.Pairwise r → (∀ n, n ∈ l ↔ n ∈ m) → l = m
  | [], m, _, _, h => by
    cases m with
    | nil => rfl
    | cons b m => exact absurd ((h b).2 (List.mem_cons_self)) (by simp)
  | a :: l, m, hl, hm, h => by
    cases m with
    | nil => exact absurd ((h a).1 (List.mem_cons_self)) (by simp)
    | cons b m =>
      rw [List.pairwise_cons] at hl hm
      have e : a = b := by
        rcases List.mem_cons.1 ((h a).1 List.mem_cons_self) with q | q
        · exact q
        · rcases List.mem_cons.1 ((h b).2 List.mem_cons_self) with q2 | q2
          · exact q2.symm
          · exact absurd (hm.1 a q) (asy _ _ (hl.1 b q2))
      subst e
      rw [rise_one irr asy l m hl.2 hm.2 fun n => ?_]
      constructor
      · intro hn
        rcases List.mem_cons.1 ((h n).1 (List.mem_cons_of_mem _ hn)) with q | q
        · subst q; exact absurd (hl.1 n hn) (irr n)
        · exact q
      · intro hn
        rcases List.mem_cons.1 ((h n).2 (List.mem_cons_of_mem _ hn)) with q | q
        · subst q; exact absurd (hm.1 n hn) (irr n)
        · exact q
def stOf (ts : List Th) (n : Int) : Int := (thAt ts n).stamp
/-- The table, by stamp rising. -/
def IsTab (ts : List Th) (l : List Int) : Prop := (∀ n, n ∈ l ↔ there ts n ∧ (thAt ts n).place = 4) ∧ l.Pairwise fun a b => stOf ts a < stOf ts b
theorem tab_one {ts : List Th} {l m : List Int} (h1 : IsTab ts l) (h2 : IsTab ts m) : l = m := rise_one (r := fun a b => stOf ts a < stOf ts b) (fun a h => by omega) (fun a b h q => by omega) l m h1.2 h2.2 (fun n => (h1.1 n).trans (h2.1 n).symm)
/-- The table of the first k things, by stamp rising, where stamps may be the same. -/
structure TabUp (ts : List Th) (k : Nat) (l : List Int) : Prop where
  mem : ∀ n, n ∈ l ↔ (1 ≤ n ∧ n ≤ (k : Int)) ∧ (thAt ts n).place = 4
  nd : l.Nodup
  up : l.Pairwise fun a b => stOf ts a ≤ stOf ts b
theorem TabUp.nil (ts : List Th) : TabUp ts 0 [] := ⟨fun n => ⟨fun h => (by cases h), fun h => (by omega)⟩, List.nodup_nil, List.Pairwise.nil⟩
theorem TabUp.skip {ts : List Th} {k : Nat} {l : List Int} (h : TabUp ts k l) (hp : (thAt ts ((k : Int) + 1)).place ≠ 4) : TabUp ts (k + 1) l := ⟨fun n => by
  rw [h.mem]
  constructor
  · rintro ⟨h1, h2⟩
    exact ⟨by omega, h2⟩
  · rintro ⟨h1, h2⟩
    rcases (show n ≤ (k : Int) ∨ n = (k : Int) + 1 from by omega) with q | q
    · exact ⟨by omega, h2⟩
    · rw [q] at h2
      exact absurd h2 hp, h.nd, h.up⟩
theorem TabUp.put {ts : List Th} {k i : Nat} {l : List Int} (h : TabUp ts k l) (hp : (thAt ts ((k : Int) + 1)).place = 4) (hr : ∀ x ∈ l.drop i, stOf ts ((k : Int) + 1) ≤ stOf ts x) (hl : ∀ x ∈ l.take i, stOf ts x ≤ stOf ts ((k : Int) + 1)) : TabUp ts (k + 1) (l.take i ++ ((k : Int) + 1) :: l.drop i) := by
  have hk : ¬ ((k : Int) + 1) ∈ l := fun q => by have := ((h.mem _).1 q).1; omega
  have sp : ∀ n, n ∈ l ↔ n ∈ l.take i ∨ n ∈ l.drop i := fun n => by rw [← List.mem_append, List.take_append_drop]
  have hnd : (l.take i ++ l.drop i).Nodup := by rw [List.take_append_drop]; exact h.nd
  have hup : (l.take i ++ l.drop i).Pairwise fun a b => stOf ts a ≤ stOf ts b := by rw [List.take_append_drop]; exact h.up
  rw [List.nodup_append] at hnd
  rw [List.pairwise_append] at hup
  refine ⟨fun n => ?_, ?_, ?_⟩
  · rw [List.mem_append, List.mem_cons]
    constructor
    · rintro (q | q | q)
      · have := (h.mem n).1 ((sp n).2 (Or.inl q))
        exact ⟨by omega, this.2⟩
      · rw [q]; exact ⟨by omega, hp⟩
      · have := (h.mem n).1 ((sp n).2 (Or.inr q))
        exact ⟨by omega, this.2⟩
    · rintro ⟨h1, h2⟩
      rcases (show n ≤ (k : Int) ∨ n = (k : Int) + 1 from by omega) with q | q
      · rcases (sp n).1 ((h.mem n).2 ⟨by omega, h2⟩) with r | r
        · exact Or.inl r
        · exact Or.inr (Or.inr r)
      · exact Or.inr (Or.inl q)
  · rw [List.nodup_append]
    refine ⟨hnd.1, List.nodup_cons.2 ⟨fun q => hk ((sp _).2 (Or.inr q)), hnd.2.1⟩, fun a ha b hb => ?_⟩
    rcases List.mem_cons.1 hb with q | q
    · rw [q]
      intro e
      rw [e] at ha
      exact hk ((sp _).2 (Or.inl ha))
    · exact hnd.2.2 a ha b q
  · rw [List.pairwise_append]
    refine ⟨hup.1, List.pairwise_cons.2 ⟨hr, hup.2.1⟩, fun a ha b hb => ?_⟩
    rcases List.mem_cons.1 hb with q | q
    · rw [q]; exact hl a ha
    · exact hup.2.2 a ha b q
theorem TabUp.done {z : Zs} (S : z.Sound) {l : List Int} (h : TabUp z.ts z.ts.length l) : IsTab z.ts l := by
  refine ⟨fun n => h.mem n, ?_⟩
  refine List.Pairwise.imp_of_mem ?_ (h.up.and h.nd)
  intro a b ha hb ⟨q1, q2⟩
  have a1 := (h.mem a).1 ha
  have b1 := (h.mem b).1 hb
  exact Int.lt_iff_le_and_ne.2 ⟨q1, fun e => q2 (S.stamps a b a1.1 b1.1 a1.2 b1.2 e)⟩
theorem cnt_nodup {l : List Int} (h : l.Nodup) (n : Int) : l.count n = if n ∈ l then 1 else 0 := by
  split
  · next q => exact h.count.trans (if_pos q)
  · next q => exact List.count_eq_zero.2 q
/-- How many there are on the table: the owner's of the list. -/
theorem IsTab.nodup {ts : List Th} {l : List Int} (h : IsTab ts l) : l.Nodup := h.2.imp fun q e => by rw [e] at q; exact absurd q (Int.lt_irrefl _)
end Go.Proofs.Ytogpgldbbegniaa
namespace Go.Proofs.Ytogpgldbbegniaa

theorem getD_mem {l : List Int} {i : Nat} (h : i < l.length) : l.getD i 0 ∈ l := by
  rw [List.getD_eq_getElem?_getD, List.getElem?_eq_getElem h]
  exact List.getElem_mem h
theorem mem_getD {l : List Int} {n : Int} (h : n ∈ l) : ∃ i, i < l.length ∧ l.getD i 0 = n := by
  obtain ⟨i, hi, e⟩ := List.getElem_of_mem h
  exact ⟨i, hi, by rw [List.getD_eq_getElem?_getD, List.getElem?_eq_getElem hi]; exact e⟩
theorem take_next {l : List Int} {i : Nat} (h : i < l.length) : l.take (i + 1) = l.take i ++ [l.getD i 0] := by
  rw [List.take_add_one, List.getD_eq_getElem?_getD, List.getElem?_eq_getElem h]
  rfl
theorem nodup_take {l : List Int} (h : ∀ i, i < l.length → ¬ l.getD i 0 ∈ l.take i) : ∀ k, k ≤ l.length → (l.take k).Nodup
  | 0, _ => by simp
  | k + 1, hk => by
    rw [take_next (by omega), List.nodup_append]
    refine ⟨nodup_take h k (by omega), by simp, fun a ha b hb => ?_⟩
    rw [List.mem_singleton.1 hb]
    intro e
    rw [e] at ha
    exact h k (by omega) ha
theorem take_nodup {l : List Int} (h : l.Nodup) {i : Nat} (hi : i < l.length) : ¬ l.getD i 0 ∈ l.take i := fun q => by
  have h1 : (l.take (i + 1)).Nodup := h.sublist (List.take_sublist _ _)
  rw [take_next hi, List.nodup_append] at h1
  exact h1.2.2 _ q _ (List.mem_singleton.2 rfl) rfl
/-- May the number at place i stand there? -/
def HoldAt (ts : List Th) (l : List Int) (p pl : Int) (i : Nat) : Prop := inn ts p pl (l.getD i 0) ∧ ¬ l.getD i 0 ∈ l.take i
theorem Holds.at {ts : List Th} {l : List Int} {p pl : Int} (h : Holds ts l p pl) {i : Nat} (hi : i < l.length) : HoldAt ts l p pl i := ⟨(h.2 _).1 (getD_mem hi), take_nodup h.1 hi⟩
theorem Holds.of {ts : List Th} {l : List Int} {p pl : Int} (h1 : ∀ i, i < l.length → HoldAt ts l p pl i) (h2 : ∀ n, inn ts p pl n → n ∈ l) : Holds ts l p pl := by
  refine ⟨?_, fun n => ⟨fun q => ?_, h2 n⟩⟩
  · have := nodup_take (fun i hi => (h1 i hi).2) l.length (Nat.le_refl _)
    rwa [List.take_length] at this
  · obtain ⟨i, hi, rfl⟩ := mem_getD q
    exact (h1 i hi).1
/-- Rising, and no two neighbours the same: then no two at all. -/
theorem rise_strict {f : Int → Int} : ∀ {l : List Int}, l.Pairwise (fun a b => f a ≤ f b) → (∀ i, i + 1 < l.length → f (l.getD i 0) ≠ f (l.getD (i + 1) 0)) → l.Pairwise fun a b => f a < f b
  | [], _, _ => List.Pairwise.nil
  | [a], _, _ => List.pairwise_singleton _ _
  | a :: b :: l, h, hn => by
    rw [List.pairwise_cons] at h
    have ih := rise_strict h.2 (fun i hi => by
      have := hn (i + 1) (by simp at hi ⊢; omega)
      simpa using this)
    refine List.pairwise_cons.2 ⟨fun x hx => ?_, ih⟩
    have h1 : f a ≠ f b := by simpa using hn 0 (by simp)
    have h2 := h.1 b List.mem_cons_self
    rcases List.mem_cons.1 hx with q | q
    · rw [q]; omega
    · have h3 := (List.pairwise_cons.1 h.2).1 x q
      omega
theorem rise_apart {f : Int → Int} {l : List Int} (h : l.Pairwise fun a b => f a < f b) {i : Nat} (hi : i + 1 < l.length) : f (l.getD i 0) ≠ f (l.getD (i + 1) 0) := by
  have := List.pairwise_iff_getElem.1 h i (i + 1) (by omega) hi (by omega)
  rw [List.getD_eq_getElem?_getD, List.getD_eq_getElem?_getD, List.getElem?_eq_getElem hi, List.getElem?_eq_getElem (show i < l.length by omega)]
  show f l[i] ≠ f l[i + 1]
  omega
theorem stamps_of {ts : List Th} {l : List Int} (h : TabUp ts ts.length l) (hs : l.Pairwise fun a b => stOf ts a < stOf ts b) : ∀ n m, there ts n → there ts m → (thAt ts n).place = 4 → (thAt ts m).place = 4 → (thAt ts n).stamp = (thAt ts m).stamp → n = m := by
  intro n m hn hm pn pm e
  obtain ⟨i, hi, rfl⟩ := List.getElem_of_mem ((h.mem n).2 ⟨hn, pn⟩)
  obtain ⟨j, hj, rfl⟩ := List.getElem_of_mem ((h.mem m).2 ⟨hm, pm⟩)
  have e' : stOf ts l[i] = stOf ts l[j] := e
  rcases Nat.lt_trichotomy i j with q | q | q
  · have := List.pairwise_iff_getElem.1 hs i j hi hj q
    omega
  · subst q; rfl
  · have := List.pairwise_iff_getElem.1 hs j i hj hi q
    omega
theorem nums_next (a k : Nat) : nums a (k + 1) = nums a k ++ [(a : Int) + (k : Int) + 1] := by
  unfold nums
  rw [List.range_succ, List.map_append]
  rfl
theorem owned_nums (ts : List Th) (p : Int) : ∀ k, k ≤ ts.length → ((nums 0 k).filter fun n => onTab p (thAt ts n)).length = (ts.take k).countP (onTab p)
  | 0, _ => by simp [nums]
  | k + 1, hk => by
    have hl : k < ts.length := by omega
    have e : thAt ts (((0 : Nat) : Int) + (k : Int) + 1) = ts[k] := by
      unfold thAt
      rw [show (((0 : Nat) : Int) + (k : Int) + 1 - 1).toNat = k from by omega, List.getD_eq_getElem?_getD, List.getElem?_eq_getElem hl]
      rfl
    rw [nums_next, List.filter_append, List.length_append, owned_nums ts p k (by omega), List.take_add_one, List.getElem?_eq_getElem hl, Option.toList_some, List.countP_append, List.countP_singleton, List.filter_cons, List.filter_nil, e]
    split <;> rfl
theorem IsTab.owned {ts : List Th} {l : List Int} (h : IsTab ts l) (p : Int) : (l.filter fun n => decide ((thAt ts n).owner = p)).length = owned ts p := by
  have e := owned_nums ts p ts.length (Nat.le_refl _)
  rw [List.take_length] at e
  unfold Go.Proofs.Ytogpgldbbegniaa.owned
  rw [← e]
  refine List.Perm.length_eq ((List.perm_ext_iff_of_nodup (h.nodup.filter _) ((nums_nodup _ _).filter _)).2 fun n => ?_)
  rw [List.mem_filter, List.mem_filter, h.1, nums_mem, onTab_iff]
  unfold there
  simp
  constructor
  · rintro ⟨⟨h1, h2⟩, h3⟩; exact ⟨by omega, h3, h2⟩
  · rintro ⟨h1, h2, h3⟩; exact ⟨⟨by omega, h3⟩, h2⟩
/-- The numbers of an owner's things in a place. -/
def inL (z : Zs) (tab : List Int) (p pl : Int) : List Int := if pl = 1 then z.dk p else if pl = 2 then z.hd p else (if pl = 4 then tab else nums 0 z.ts.length).filter fun n => decide ((thAt z.ts n).owner = p) && decide ((thAt z.ts n).place = pl)
end Go.Proofs.Ytogpgldbbegniaa
namespace Go.Proofs.Ytogpgldbbegniaa

theorem Zs.Sound.inDeck {z : Zs} (S : z.Sound) {n : Int} (hn : there z.ts n) {p : Int} (hp : p = 0 ∨ p = 1) : (z.dk p).count n = if (thAt z.ts n).owner = p ∧ (thAt z.ts n).place = 1 then 1 else 0 := by
  rw [cnt_nodup (S.dks p hp).1]
  by_cases h : (thAt z.ts n).owner = p ∧ (thAt z.ts n).place = 1
  · rw [if_pos h, if_pos (((S.dks p hp).2 n).2 ⟨hn, h⟩)]
  · rw [if_neg h, if_neg (fun q => h (((S.dks p hp).2 n).1 q).2)]
theorem Zs.Sound.inHand {z : Zs} (S : z.Sound) {n : Int} (hn : there z.ts n) {p : Int} (hp : p = 0 ∨ p = 1) : (z.hd p).count n = if (thAt z.ts n).owner = p ∧ (thAt z.ts n).place = 2 then 1 else 0 := by
  rw [cnt_nodup (S.hds p hp).1]
  by_cases h : (thAt z.ts n).owner = p ∧ (thAt z.ts n).place = 2
  · rw [if_pos h, if_pos (((S.hds p hp).2 n).2 ⟨hn, h⟩)]
  · rw [if_neg h, if_neg (fun q => h (((S.hds p hp).2 n).1 q).2)]
theorem IsTab.cnt {ts : List Th} {l : List Int} (h : IsTab ts l) {n : Int} (hn : there ts n) : l.count n = if (thAt ts n).place = 4 then 1 else 0 := by
  rw [cnt_nodup h.nodup]
  by_cases q : (thAt ts n).place = 4
  · rw [if_pos q, if_pos ((h.1 n).2 ⟨hn, q⟩)]
  · rw [if_neg q, if_neg (fun r => q ((h.1 n).1 r).2)]
/-- EACH IN ONE PLACE. -/
theorem Zs.Sound.placed {z : Zs} (S : z.Sound) {tab : List Int} (T : IsTab z.ts tab) {n : Int} (hn : there z.ts n) {o : Int} (ho : (thAt z.ts n).owner = o) :
    ((z.dk o).count n = if (thAt z.ts n).place = 1 then 1 else 0) ∧ ((z.hd o).count n = if (thAt z.ts n).place = 2 then 1 else 0) ∧ (tab.count n = if (thAt z.ts n).place = 4 then 1 else 0) ∧ (z.dk (1 - o)).count n = 0 ∧ (z.hd (1 - o)).count n = 0 := by
  have h01 := S.own hn
  rw [ho] at h01
  have h10 : 1 - o = 0 ∨ 1 - o = 1 := by omega
  refine ⟨?_, ?_, T.cnt hn, ?_, ?_⟩
  · rw [S.inDeck hn h01]; simp [ho]
  · rw [S.inHand hn h01]; simp [ho]
  · rw [S.inDeck hn h10, if_neg (fun q => by have := q.1; omega)]
  · rw [S.inHand hn h10, if_neg (fun q => by have := q.1; omega)]
/-- The table's stamps rise, and lie below the next one. -/
theorem IsTab.stamps {z : Zs} (S : z.Sound) {tab : List Int} (T : IsTab z.ts tab) {i : Nat} (hi : i < tab.length) : there z.ts (tab.getD i 0) ∧ (thAt z.ts (tab.getD i 0)).place = 4 ∧ 1 ≤ stOf z.ts (tab.getD i 0) ∧ stOf z.ts (tab.getD i 0) < z.nx ∧ ∀ j, j < i → stOf z.ts (tab.getD j 0) < stOf z.ts (tab.getD i 0) := by
  obtain ⟨h1, h2⟩ := (T.1 _).1 (getD_mem hi)
  have A := (S.each _ (there_mem h1)).2.2.2.2 h2
  refine ⟨h1, h2, A.1, A.2.1, fun j hj => ?_⟩
  have := List.pairwise_iff_getElem.1 T.2 j i (by omega) hi hj
  rw [List.getD_eq_getElem?_getD, List.getD_eq_getElem?_getD, List.getElem?_eq_getElem hi, List.getElem?_eq_getElem (show j < tab.length by omega)]
  exact this
/-- What New answers. -/
def newE (one two : List Int) : Int := if 2048 < one.length + two.length then 3 else if (one ++ two).any (fun c => decide (c < 1)) = true then 2 else 0
theorem newE_ok {one two : List Int} (h : newE one two = 0) : (newZ one two).Sound := by
  unfold newE at h
  split at h
  · cases h
  next h1 =>
  split at h
  · cases h
  next h2 =>
  have h3 : ∀ c ∈ one ++ two, 1 ≤ c := fun c hc => by
    refine Int.not_lt.1 fun q => h2 (List.any_eq_true.2 ⟨c, hc, ?_⟩)
    simp only [decide_eq_true_eq]
    omega
  exact newZ_sound (by omega) (fun c hc => h3 c (List.mem_append_left _ hc)) (fun c hc => h3 c (List.mem_append_right _ hc))
/-- What From answers of zones that are told: they themselves, where they are sound. -/
structure Told (z : Zs) (ts : List Th) (d h : Int → List Int) (nx : Int) : Prop where
  ts : z.ts = ts
  nx : z.nx = nx
  dk : ∀ p, p = 0 ∨ p = 1 → z.dk p = d p
  hd : ∀ p, p = 0 ∨ p = 1 → z.hd p = h p
theorem Told.sound {z y : Zs} (h : Told y z.ts z.dk z.hd z.nx) (S : z.Sound) : y.Sound := by
  refine ⟨by rw [h.ts]; exact S.few, by rw [h.nx]; exact S.nx1, by rw [h.nx]; exact S.nx2, by rw [h.ts, h.nx]; exact S.each, by rw [h.ts]; exact S.tab, fun p hp => by rw [h.hd p hp]; exact S.hand p hp, fun p hp => by rw [h.ts, h.dk p hp]; exact S.dks p hp, fun p hp => by rw [h.ts, h.hd p hp]; exact S.hds p hp, by rw [h.ts]; exact S.stamps⟩
/-- A list without a number twice, all of them from 1 to N, has at most N. -/
theorem nodup_few {l : List Int} {N : Nat} (h : l.Nodup) (hm : ∀ n ∈ l, 1 ≤ n ∧ n ≤ (N : Int)) : l.length ≤ N := by
  have e : l.Perm ((nums 0 N).filter fun n => decide (n ∈ l)) := (List.perm_ext_iff_of_nodup h ((nums_nodup _ _).filter _)).2 fun n => by
    rw [List.mem_filter, nums_mem]
    simp only [decide_eq_true_eq]
    exact ⟨fun q => ⟨by have := hm n q; omega, q⟩, fun q => q.2⟩
  rw [e.length_eq]
  refine Nat.le_trans (List.length_filter_le _ _) ?_
  simp [nums]
theorem Zs.Sound.deckFew {z : Zs} (S : z.Sound) {p : Int} (hp : p = 0 ∨ p = 1) : (z.dk p).length ≤ z.ts.length := nodup_few (S.dks p hp).1 fun n hn => (((S.dks p hp).2 n).1 hn).1
theorem Zs.Sound.handFew {z : Zs} (S : z.Sound) {p : Int} (hp : p = 0 ∨ p = 1) : (z.hd p).length ≤ z.ts.length := nodup_few (S.hds p hp).1 fun n hn => (((S.hds p hp).2 n).1 hn).1
theorem IsTab.few {ts : List Th} {l : List Int} (h : IsTab ts l) : l.length ≤ ts.length := nodup_few h.nodup fun n hn => ((h.1 n).1 hn).1
end Go.Proofs.Ytogpgldbbegniaa
