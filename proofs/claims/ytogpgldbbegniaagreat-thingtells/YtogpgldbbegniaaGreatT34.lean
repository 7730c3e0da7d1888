/-
  OverInts; lists of the call's own as ApartInts takes them.
  PileShuffles, walked: Next and Shuffle are the document's, of every list and state; what was handed in stays; the answers lie in memory of their own. (The program's Shuffle: pshuf_any, as rshuf_any.)
  Which numbers may be dealt; one hand: what stands at h, h + hands, h + 2 hands, ..
  The program's Deal, of every list and every two numbers.
  The document's Deal, of every list and every two numbers.
  Deal of every list and every two numbers, of the program and of the document: the same answers.
  Many lists of the call's own, as ApartInts takes them; the lent list, where it may be cut.
-/
import Derived.Test.YtogpgldbbegniaaGreatT32
import Derived.Test.YtogpgldbbegniaaGreatApartI
namespace Go.Proofs.YtogpgldbbegniaaGreat
open Go.RowKit

set_option maxRecDepth 100000 in
set_option maxHeartbeats 2000000 in
theorem overI_any (base g n cap : Nat) (xs : List Int) (w : World) (h : w.ownsRow base 3 1 (.slice (some ⟨g, 0, none⟩) n cap) n (ints xs)) (hx : xs.length = n) (hn : n ≤ 35184372088832) : Calls Tryz.prog 11 #[.slice (some ⟨g, 0, none⟩) n cap] w fun e w' => e = .returned (.tuple #[]) ∧ (∃ ys : List Int, ys.length = n ∧ w'.ownsRow base 3 1 (.slice (some ⟨g, 0, none⟩) n cap) n (ints ys)) ∧ w.grownBy w' (some g) := by
  have HS : Hid (w.ownsRow base 3 1 (.slice (some ⟨g, 0, none⟩) n cap) n (ints xs) ∧ xs.length = n) := ⟨h, hx⟩
  clear h hx
  go_enter Tryz.func11, Tryz.ntmps11
  go_wp2_with fail
  go_loopw [2] (fun i wr => ∃ (k : Nat) (ys : List Int), k ≤ n ∧ i = .int .i64 (k : Int) ∧ ys.length = n ∧ wr.ownsRow base 3 1 (.slice (some ⟨g, 0, none⟩) n cap) n (ints ys) ∧ w.grownBy wr (some g)) (fun i _ => n - (intOf i).toNat)
  case atStart => exact ⟨0, xs, Nat.zero_le _, rfl, HS.out.2, HS.out.1, grown_refl _ _⟩
  case round =>
    clear HS
    obtain ⟨k, ys, hk, rfl, hy, O, G⟩ := hrel
    obtain ⟨U, hU⟩ : ∃ U, U = wr := ⟨_, rfl⟩
    subst hU
    by_cases hlt : k < n
    · have hlt' : (k : Int) < n := by omega
      have c1 : U.cell? ⟨g, k, none⟩ = some (.int .i64 (ys.getD k 0)) := by rw [World.ownsRow.cellAt O k (by omega)]; exact ints_at ys k (by omega)
      have f1 : U.frozen? ⟨g, k, none⟩ = false := World.ownsRow.frozenAt O k
      have hst := World.ownsRow.stored O k (.int .i64 (-99))
      rw [ints_set] at hst
      have HP : Hid ((U.setCell ⟨g, k, none⟩ (.int .i64 (-99))).ownsRow base 3 1 (.slice (some ⟨g, 0, none⟩) n cap) n (ints (ys.set k (-99))) ∧ w.grownBy (U.setCell ⟨g, k, none⟩ (.int .i64 (-99))) (some g)) := ⟨hst.1, grown_trans G hst.2⟩
      have hwk : wrap64 ((k : Int) + 1) = (k : Int) + 1 := by unfold wrap64; omega
      clear O G hst
      go_wp2
      go_roundw
      case rel => exact ⟨k + 1, ys.set k (-99), hlt, by first | rfl | (rw [hwk]; rfl) | go_num, by rw [List.length_set]; exact hy, HP.out.1, HP.out.2⟩
      case measure => simp [intOf]; omega
    · have hlt' : ¬ (k : Int) < n := by omega
      have HF : Hid ((∃ ys : List Int, ys.length = n ∧ U.ownsRow base 3 1 (.slice (some ⟨g, 0, none⟩) n cap) n (ints ys)) ∧ w.grownBy U (some g)) := ⟨⟨ys, hy, O⟩, G⟩
      clear O G
      go_wp2
      go_end0
      exact ⟨rfl, HF.out⟩
/-- Blocks that rise are different ones. -/
theorem diff_rising {T : List Lst} (h : T.Pairwise fun x y => ∀ a b, x.a = some a → y.a = some b → a < b) : Diff T := fun i j x y g hi hj hx hy => by
  have hi' := List.getElem?_eq_some_iff.1 hi
  have hj' := List.getElem?_eq_some_iff.1 hj
  obtain ⟨li, ei⟩ := hi'
  obtain ⟨lj, ej⟩ := hj'
  rw [List.pairwise_iff_getElem] at h
  rcases Nat.lt_trichotomy i j with c | c | c
  · have := h i j li lj c g g (by rw [ei]; exact hx) (by rw [ej]; exact hy)
    omega
  · exact c
  · have := h j i lj li c g g (by rw [ej]; exact hy) (by rw [ei]; exact hx)
    omega
/-- A list of the call's own, as ApartInts takes it: behind base, ahead of the heap's end. -/
theorem own_lstI {w : World} {base n : Nat} {v : Value} {xs : List Value} (h : w.ownsRow base 3 1 v n xs) : ∃ x : Lst, v = x.v ∧ x.n = n ∧ x.okI w ∧ ∀ g, x.a = some g → base ≤ g ∧ g < w.heap.size := by
  rcases h.2 with ⟨e, h0⟩ | ⟨g, cap, cur, e, hb, hh, hn, hm, hs, ht⟩
  · exact ⟨⟨none, 0, 0⟩, e, h0.symm, Or.inl ⟨rfl, rfl, rfl⟩, fun g hg => by cases hg⟩
  · exact ⟨⟨some g, n, cap⟩, e, rfl, Or.inr ⟨g, rfl, hn, hm, cur, hh, by rw [hs, Nat.mul_one]⟩, fun g' hg => by cases hg; exact ⟨hb, block_lt hh⟩⟩
theorem okI_keep {w w' : World} {x : Lst} {r : Option Nat} (h : x.okI w) (k : w.grownBy w' r) (hr : ∀ g, x.a = some g → some g ≠ r) : x.okI w' := by
  rcases h with h | ⟨g, h1, h2, h3, cs, h4, h5⟩
  · exact Or.inl h
  · exact Or.inr ⟨g, h1, h2, h3, cs, grown_keep k h4 (hr g h1), h5⟩
end Go.Proofs.YtogpgldbbegniaaGreat
namespace Go.Proofs.YtogpgldbbegniaaGreat
open Go.RowKit

theorem lstI3 {a b c : Lst} {w : World} {g : Nat} (Z : w.heap[g]? = some (.cells #[a.v, b.v, c.v] 22 (0, 0))) (A : a.okI w) (B : b.okI w) (C : c.okI w) (hab : ∀ x y, a.a = some x → b.a = some y → x < y) (hac : ∀ x y, a.a = some x → c.a = some y → x < y) (hbc : ∀ x y, b.a = some x → c.a = some y → x < y) : Calls Tryz.prog 34 #[.slice (some ⟨g, 0, none⟩) 3 3] w fun e w' => e = .returned (.bool true) ∧ Kpt (blocks [a, b, c]) w w' :=
  apartI_any g 3 [a, b, c] w (Nat.zero_lt_succ _) (by simp)
    (fun j x hx => by
      rcases j with _ | _ | _ | j
      · obtain rfl : a = x := by simpa using hx
        exact block_cell Z 0
      · obtain rfl : b = x := by simpa using hx
        exact block_cell Z 1
      · obtain rfl : c = x := by simpa using hx
        exact block_cell Z 2
      · simp at hx)
    (fun x hx => by
      simp only [List.mem_cons, List.not_mem_nil, or_false] at hx
      rcases hx with rfl | rfl | rfl
      · exact A
      · exact B
      · exact C)
    (diff_rising (by
      simp only [List.pairwise_cons, List.mem_cons, List.not_mem_nil, or_false, List.Pairwise.nil, and_true]
      exact ⟨fun y hy => by
        rcases hy with rfl | rfl
        · exact hab
        · exact hac, fun y hy => by subst hy; exact hbc, fun y hy => hy.elim⟩))
/-- The lent list, as far as it was handed in. -/
theorem lent_in {w : World} {g n : Nat} {l : List Int} (h : w.ownsRow g 3 1 (.slice (some ⟨g, 0, none⟩) (n + 2) (n + 2)) (n + 2) (ints (l ++ [-77, -77]))) (hn : l.length = n) : IntsA w (.slice (some ⟨g, 0, none⟩) n (n + 2)) l := by
  subst hn
  refine Or.inr ⟨_, _, rfl, fun j u hu => ?_⟩
  have hj : j < l.length := by have := (List.getElem?_eq_some_iff.1 hu).1; rwa [length_ints] at this
  rw [add_plain, Nat.zero_add, World.ownsRow.cellAt h j (by omega), ints_app, List.getElem?_append_left (by rw [length_ints]; exact hj)]
  exact hu
theorem same_own {w : World} {a b : Value} {p q n : Nat} {l : List Int} (ha : w.ownsRow p 3 1 a n (ints l)) (hb : w.ownsRow q 3 1 b n (ints l)) (hl : l.length = n) : Calls Tryz.prog 31 #[a, b] w fun e w' => e = .returned (.bool true) ∧ w.grownBy w' none := by
  subst hl
  refine (L.same_ints a b l l w (L.Own.ints ha) (L.Own.ints hb)).mono ?_
  rintro e w' ⟨rfl, n, rfl⟩
  exact ⟨by rw [decide_eq_true rfl], grown_drewN _ _ _⟩
theorem IntsA.form {w : World} {v : Value} {l : List Int} (h : IntsA w v l) : ∃ a c, v = .slice a l.length c := by
  rcases h with ⟨rfl, rfl⟩ | ⟨ad, cap, rfl, _⟩
  · exact ⟨_, _, rfl⟩
  · exact ⟨_, _, rfl⟩
theorem own_form {w : World} {base n : Nat} {v : Value} {xs : List Value} (h : w.ownsRow base 3 1 v n xs) : ∃ a c, v = .slice a n c := by
  rcases h.2 with ⟨e, h0⟩ | ⟨g, cap, cur, e, _⟩
  · exact ⟨_, _, by rw [e, h0]⟩
  · exact ⟨_, _, e⟩
theorem own_keepN {w w' : World} {base n : Nat} {v : Value} {xs : List Value} (h : w.ownsRow base 3 1 v n xs) (g : w.grownBy w' none) : w'.ownsRow base 3 1 v n xs := World.ownsRow.kept h g (Classical.em (v.ownBlock = none))
theorem own_blt {w : World} {base g n cap : Nat} {xs : List Value} (h : w.ownsRow base 3 1 (.slice (some ⟨g, 0, none⟩) n cap) n xs) : g < w.heap.size := by
  rcases h.2 with ⟨h', _⟩ | ⟨g', cap', cur, h', hb, hh, _⟩
  · simp at h'
  · simp at h'
    rw [h'.1]
    exact block_lt hh
theorem L_keep {w w' : World} {base n f : Nat} {v : Value} {xs : List Value} (h : w.ownsRow base 3 1 v n xs) (g : w.grownBy w' (some f)) (hf : f < base) : w'.ownsRow base 3 1 v n xs := World.ownsRow.kept h g (by
  rcases h.2 with ⟨e, _⟩ | ⟨g', cap', cur, e, hb, _⟩
  · exact Or.inl (by rw [e]; rfl)
  · refine Or.inr ?_
    rw [e]
    intro h9
    simp [Value.ownBlock] at h9
    omega)
theorem own_appZq {w : World} {base : Nat} {v : Value} {l : List Int} (h : w.ownsRow base 3 1 v (l.length + 2) (ints (l ++ [-77, -77]))) : L.Own w base v (l ++ [-77, -77]) := by
  unfold L.Own
  rw [List.length_append]
  exact h
theorem lst_of {x : Lst} {g n c : Nat} (h : Value.slice (some ⟨g, 0, none⟩) n c = x.v) : x.a = some g := by
  obtain ⟨a, m, d⟩ := x
  unfold Lst.v at h
  injection h with h1
  cases a with
  | none => simp at h1
  | some y => simp at h1; rw [h1]
theorem shuffled_len (l : List Int) (s : Int) : (shuffled l s).1.length = l.length := shuf_len _ _ _ _
end Go.Proofs.YtogpgldbbegniaaGreat
namespace Go.Proofs.YtogpgldbbegniaaGreat
open Go.RowKit

/-- So many numbers are enough. -/
def dealOk (n : Nat) (h e : Int) : Prop := 1 ≤ h ∧ h ≤ 64 ∧ 0 ≤ e ∧ e * h ≤ (n : Int)
theorem quo_wrap (n H : Nat) (hn : n ≤ 17592186044416) : wrap64 ((n : Int) / (H : Int)) = ((n / H : Nat) : Int) := by
  have hl : (n / H : Nat) ≤ n := Nat.div_le_self _ _
  have e : (n : Int) / (H : Int) = ((n / H : Nat) : Int) := rfl
  rw [e]
  obtain ⟨q, hq⟩ : ∃ q, q = n / H := ⟨_, rfl⟩
  rw [← hq] at hl ⊢
  clear hq e
  unfold wrap64
  omega
theorem quo_le {n H : Nat} {e : Int} (hH : 1 ≤ H) (h0 : 0 ≤ e) : e ≤ ((n / H : Nat) : Int) ↔ e * (H : Int) ≤ (n : Int) := by
  obtain ⟨E, rfl⟩ : ∃ E : Nat, e = (E : Int) := ⟨e.toNat, by omega⟩
  rw [← Int.natCast_mul, Int.ofNat_le, Int.ofNat_le]
  exact Nat.le_div_iff_mul_le (by omega)
/-- A hand, so far: the first k of it; noughts behind them. -/
def dz (l : List Int) (H E h k : Nat) : List Int := (List.range E).map fun j => if j < k then l.getD (h + j * H) 0 else 0
theorem dz_len (l : List Int) (H E h k : Nat) : (dz l H E h k).length = E := by simp [dz]
theorem dz_zero (l : List Int) (H E h : Nat) : dz l H E h 0 = List.replicate E 0 := by
  apply List.ext_getElem (by simp [dz])
  intro i h1 h2
  simp [dz]
theorem dz_full (l : List Int) (H E h : Nat) : dz l H E h E = dealH l H E h := by
  apply List.ext_getElem (by simp [dz, dealH])
  intro i h1 h2
  have : i < E := by simpa [dz] using h1
  simp [dz, dealH, this]
theorem dz_next (l : List Int) (H E h k : Nat) : (dz l H E h k).set k (l.getD (h + k * H) 0) = dz l H E h (k + 1) := by
  apply List.ext_getElem (by simp [dz])
  intro i h1 h2
  rw [List.getElem_set]
  by_cases e : k = i
  · subst e
    simp [dz]
  · simp only [dz, List.getElem_map, List.getElem_range, if_neg e]
    by_cases h9 : i < k
    · rw [if_pos h9, if_pos (by omega)]
    · rw [if_neg h9, if_neg (by omega)]
theorem made_zeros (E : Nat) : (madeCells (Value.int .i64 0).cells (E * 1)).toList = ints (List.replicate E 0) := by
  rw [Nat.mul_one]
  have := L.zeros_eq E
  unfold L.zeros at this
  show (madeCells #[Value.int .i64 0] E).toList = _
  rw [this]
  rfl
/-- Hands in memory of their own: in blocks that rise, from base on, ahead of m. -/
def HandsAt (w : World) (base : Nat) (vs : List Value) (hs : List (List Int)) (m : Nat) : Prop :=
  vs.length = hs.length ∧ (∀ (i : Nat) v l, vs[i]? = some v → hs[i]? = some l → w.ownsRow base 3 1 v l.length (ints l)) ∧
  (∀ (i j : Nat) v v' a b, i < j → vs[i]? = some v → vs[j]? = some v' → v.ownBlock = some a → v'.ownBlock = some b → a < b) ∧ ∀ (i : Nat) v a, vs[i]? = some v → v.ownBlock = some a → a < m
theorem HandsAt.nil (w : World) (base m : Nat) : HandsAt w base [] [] m := ⟨rfl, fun i v l h => by simp at h, fun i j v v' a b _ h => by simp at h, fun i v a h => by simp at h⟩
theorem HandsAt.snoc {w w' : World} {base m m' : Nat} {vs : List Value} {hs : List (List Int)} {v : Value} {l : List Int} (h : HandsAt w base vs hs m) (hk : ∀ (i : Nat) u x, vs[i]? = some u → hs[i]? = some x → w.ownsRow base 3 1 u x.length (ints x) → w'.ownsRow base 3 1 u x.length (ints x)) (hb : base ≤ m) (ho : w'.ownsRow m 3 1 v l.length (ints l)) (hm : ∀ a, v.ownBlock = some a → a < m') (hmm : m ≤ m') : HandsAt w' base (vs ++ [v]) (hs ++ [l]) m' := by
  obtain ⟨h1, h2, h3, h4⟩ := h
  have hlast : ∀ {i : Nat} {u : Value}, (vs ++ [v])[i]? = some u → (i < vs.length ∧ vs[i]? = some u) ∨ (i = vs.length ∧ u = v) := fun {i u} hu => by
    by_cases hi : i < vs.length
    · rw [List.getElem?_append_left hi] at hu
      exact Or.inl ⟨hi, hu⟩
    · rw [List.getElem?_append_right (by omega)] at hu
      have hi2 := (List.getElem?_eq_some_iff.1 hu).1
      have hi3 : i - vs.length = 0 := by simpa using hi2
      rw [hi3] at hu
      exact Or.inr ⟨by omega, by simpa using hu.symm⟩
  refine ⟨by simp [h1], fun i u x hu hx => ?_, fun i j u u' a b hij hu hu' ha hb' => ?_, fun i u a hu ha => ?_⟩
  · rcases hlast hu with ⟨hi, hu⟩ | ⟨hi, rfl⟩
    · rw [List.getElem?_append_left (by omega)] at hx
      exact hk i u x hu hx (h2 i u x hu hx)
    · rw [hi, h1, List.getElem?_append_right (by omega)] at hx
      simp at hx
      subst hx
      exact own_low ho hb
  · rcases hlast hu with ⟨hi, hu1⟩ | ⟨hi, rfl⟩
    · rcases hlast hu' with ⟨hj, hu2⟩ | ⟨hj, e9⟩
      · exact h3 i j u u' a b hij hu1 hu2 ha hb'
      · rw [e9] at hb'
        exact Nat.lt_of_lt_of_le (h4 i u a hu1 ha) (World.ownsRow.lt ho b hb').1
    · rcases hlast hu' with ⟨hj, _⟩ | ⟨hj, _⟩ <;> omega
  · rcases hlast hu with ⟨hi, hu1⟩ | ⟨hi, rfl⟩
    · exact Nat.lt_of_lt_of_le (h4 i u a hu1 ha) hmm
    · exact hm a ha
theorem HandsAt.keep {w w' : World} {base m : Nat} {vs : List Value} {hs : List (List Int)} (h : HandsAt w base vs hs m) (g : w.grownBy w' none) : HandsAt w' base vs hs m :=
  ⟨h.1, fun i v l hv hl => own_keepN (h.2.1 i v l hv hl) g, h.2.2⟩
/-- A list of numbers and a list of hands lie in unlike blocks. -/
theorem own_unlike {w : World} {base b n1 n2 : Nat} {v u : Value} {xs ys : List Value} (h : w.ownsRow base 3 1 v n1 xs) (k : w.ownsRow b 22 1 u n2 ys) : v.ownBlock = none ∨ v.ownBlock ≠ u.ownBlock := by
  rcases h.2 with ⟨e, _⟩ | ⟨g, cap, cur, e, _, hh, _⟩
  · exact Or.inl (by rw [e]; rfl)
  · rcases k.2 with ⟨e2, _⟩ | ⟨g2, cap2, cur2, e2, _, hh2, _⟩
    · exact Or.inr (by rw [e, e2]; simp [Value.ownBlock])
    · refine Or.inr (fun h9 => ?_)
      rw [e, e2] at h9
      simp [Value.ownBlock] at h9
      subst h9
      rw [hh] at hh2
      simp at hh2
/-- What Deal answers. -/
def dealP (l : List Int) (h e : Int) : List (List Int) × List Int × Int := if 1 ≤ h ∧ h ≤ 64 ∧ 0 ≤ e ∧ e * h ≤ (l.length : Int) then (dealAll l h.toNat e.toNat, l.drop (h.toNat * e.toNat), 0) else ([], [], 2)
def DePost (w : World) (l : List Int) (h e : Int) (r : Ending) (w' : World) : Prop := ∃ u v, r = .returned (.tuple #[u, v, .int .i64 (dealP l h e).2.2]) ∧
  (∃ vs m, w'.ownsRow w.heap.size 22 1 u (dealP l h e).1.length vs ∧ HandsAt w' w.heap.size vs (dealP l h e).1 m ∧ w.heap.size ≤ m ∧ m ≤ w'.heap.size ∧ w'.ownsRow m 3 1 v (dealP l h e).2.1.length (ints (dealP l h e).2.1)) ∧ w.grownBy w' none
theorem DePost.no {w : World} {l : List Int} {h e : Int} (hno : ¬ dealOk l.length h e) : DePost w l h e (.returned (.tuple #[.slice none 0 0, .slice none 0 0, .int .i64 2])) w := by
  have hno' : ¬ (1 ≤ h ∧ h ≤ 64 ∧ 0 ≤ e ∧ e * h ≤ (l.length : Int)) := hno
  unfold DePost dealP
  rw [if_neg hno']
  exact ⟨_, _, rfl, ⟨[], w.heap.size, World.ownsRow_nil _ _ _ _, HandsAt.nil _ _ _, Nat.le_refl _, Nat.le_refl _, World.ownsRow_nil _ _ _ _⟩, grown_refl _ _⟩
theorem dealAll_len (l : List Int) (H E : Nat) : (dealAll l H E).length = H := by simp [dealAll]
theorem DePost.yes {w w' : World} {l : List Int} {H E n1 m : Nat} {u v : Value} {vs : List Value} (h1 : 1 ≤ H) (h2 : H ≤ 64) (h3 : E * H ≤ l.length) (hu : w'.ownsRow w.heap.size 22 1 u H vs) (hh : HandsAt w' w.heap.size vs (dealAll l H E) m) (hm : w.heap.size ≤ m) (hm2 : m ≤ w'.heap.size) (hv : w'.ownsRow m 3 1 v n1 (ints (l.drop (H * E)))) (hg : w.grownBy w' none) : DePost w l (H : Int) (E : Int) (.returned (.tuple #[u, v, .int .i64 0])) w' := by
  have hok : 1 ≤ (H : Int) ∧ (H : Int) ≤ 64 ∧ 0 ≤ (E : Int) ∧ (E : Int) * (H : Int) ≤ (l.length : Int) := ⟨by omega, by omega, by omega, by rw [← Int.natCast_mul]; exact Int.ofNat_le.2 h3⟩
  unfold DePost dealP
  rw [if_pos hok]
  simp only [Int.toNat_natCast]
  exact ⟨_, _, rfl, ⟨vs, m, by rw [dealAll_len]; exact hu, hh, hm, hm2, by rw [own_len hv]; exact hv⟩, hg⟩
theorem dealAll_snoc (l : List Int) (H E k : Nat) : (List.range k).map (dealH l H E) ++ [dealH l H E k] = (List.range (k + 1)).map (dealH l H E) := by simp [List.range_succ]
end Go.Proofs.YtogpgldbbegniaaGreat
namespace Go.Proofs.YtogpgldbbegniaaGreat
open Go.RowKit

theorem Tryz.info22 : (Tryz.prog.info? 22).map (fun i => (i.zero, i.size, i.bytes)) = some (some (.slice none 0 0), 1, 24) := by kernel_rfl
def nils (k : Nat) : List Value := List.replicate k (.slice none 0 0)
theorem made_nils (H : Nat) : (madeCells (Value.slice none 0 0).cells (H * 1)).toList = nils H := by
  rw [Nat.mul_one]
  show (madeCells #[Value.slice none 0 0] H).toList = _
  apply List.ext_getElem
  · simp [size_madeCells, nils]
  · intro i h1 h2
    simp [madeCells, nils, Nat.mod_one]
theorem nils_set {vs : List Value} {H k : Nat} (v : Value) (hk : vs.length = k) (hlt : k < H) : (vs ++ nils (H - k)).set k v = (vs ++ [v]) ++ nils (H - (k + 1)) := by
  subst hk
  rw [List.set_append_right _ _ (Nat.le_refl _), Nat.sub_self]
  have : nils (H - vs.length) = .slice none 0 0 :: nils (H - (vs.length + 1)) := by
    unfold nils
    rw [show H - vs.length = (H - (vs.length + 1)) + 1 by omega, List.replicate_succ]
  rw [this]
  simp
theorem nils_at {vs : List Value} {H k : Nat} (hk : vs.length = k) (hlt : k < H) : (vs ++ nils (H - k))[k]? = some (.slice none 0 0) := by
  subst hk
  rw [List.getElem?_append_right (Nat.le_refl _), Nat.sub_self]
  unfold nils
  rw [show H - vs.length = (H - (vs.length + 1)) + 1 by omega, List.replicate_succ]
  rfl
/-- Hands dealt so far. -/
def DlAt (w wr : World) (l : List Int) (H E k : Nat) : Prop := ∃ vs : List Value, vs.length = k ∧ wr.ownsRow w.heap.size 22 1 (.slice (some ⟨w.heap.size, 0, none⟩) H H) H (vs ++ nils (H - k)) ∧ HandsAt wr w.heap.size vs ((List.range k).map (dealH l H E)) wr.heap.size ∧ w.grownBy wr none
theorem DlAt.cell {w wr : World} {l : List Int} {H E k : Nat} (h : DlAt w wr l H E k) (hk : k < H) : wr.cell? ⟨w.heap.size, k, none⟩ = some (.slice none 0 0) ∧ wr.frozen? ⟨w.heap.size, k, none⟩ = false := by
  obtain ⟨vs, hl, ho, _, _⟩ := h
  exact ⟨by rw [World.ownsRow.cellAt ho k (by omega)]; exact nils_at hl hk, World.ownsRow.frozenAt ho k⟩
theorem own_put {w : World} {base b n1 n2 k : Nat} {v x : Value} {xs ys : List Value} (h : w.ownsRow base 3 1 v n1 xs) (k2 : w.ownsRow b 22 1 (.slice (some ⟨b, 0, none⟩) n2 n2) n2 ys) : (w.setCell ⟨b, k, none⟩ x).ownsRow base 3 1 v n1 xs := World.ownsRow.kept h (grown_set w b k x) (own_unlike h k2)
theorem DlAt.next {w U U1 : World} {l : List Int} {H E k : Nat} (h : DlAt w U l H E k) (hk : k < H) (g1 : U.grownBy U1 none) (o1 : U1.ownsRow U.heap.size 3 1 (.slice (some ⟨U.heap.size, 0, none⟩) E E) E (ints (dealH l H E k))) : DlAt w (U1.setCell ⟨w.heap.size, k, none⟩ (.slice (some ⟨U.heap.size, 0, none⟩) E E)) l H E (k + 1) := by
  obtain ⟨vs, hl, ho, hh, hg⟩ := h
  have ho1 : U1.ownsRow w.heap.size 22 1 (.slice (some ⟨w.heap.size, 0, none⟩) H H) H (vs ++ nils (H - k)) := World.ownsRow.kept ho g1 (Classical.em _)
  have hst := World.ownsRow.stored ho1 k (.slice (some ⟨U.heap.size, 0, none⟩) E E)
  rw [nils_set _ hl hk] at hst
  have hsz : (U1.setCell ⟨w.heap.size, k, none⟩ (.slice (some ⟨U.heap.size, 0, none⟩) E E)).heap.size = U1.heap.size := by simp [World.setCell]
  have hlt := (World.ownsRow.lt o1 U.heap.size rfl).2
  refine ⟨vs ++ [.slice (some ⟨U.heap.size, 0, none⟩) E E], by simp [hl], hst.1, ?_, grown_own (grown_trans hg g1) hst.2 (fun x e => by cases e; exact Nat.le_refl _)⟩
  rw [← dealAll_snoc, hsz]
  refine hh.snoc (fun i u x _ _ h9 => own_put (own_keepN h9 g1) ho1) hg.size ?_ (fun a ha => ?_) g1.size
  · rw [dealH_len]
    exact own_put o1 ho1
  · simp [Value.ownBlock] at ha
    omega
theorem DlAt.full {w U : World} {l : List Int} {H E : Nat} (h : DlAt w U l H E H) : ∃ vs, U.ownsRow w.heap.size 22 1 (.slice (some ⟨w.heap.size, 0, none⟩) H H) H vs ∧ HandsAt U w.heap.size vs (dealAll l H E) U.heap.size ∧ w.grownBy U none := by
  obtain ⟨vs, hl, ho, hh, hg⟩ := h
  rw [Nat.sub_self, show nils 0 = [] from rfl, List.append_nil] at ho
  exact ⟨vs, ho, hh, hg⟩
end Go.Proofs.YtogpgldbbegniaaGreat
namespace Go.Proofs.YtogpgldbbegniaaGreat
open Go.RowKit

/-- Hands dealt so far, in a list that grows. -/
def DgAt (w wr : World) (l : List Int) (H E k : Nat) (u : Value) : Prop := ∃ vs : List Value, wr.ownsRow w.heap.size 22 1 u k vs ∧ HandsAt wr w.heap.size vs ((List.range k).map (dealH l H E)) wr.heap.size ∧ w.grownBy wr none
theorem own22_block {w : World} {base n : Nat} {v : Value} {xs : List Value} (h : w.ownsRow base 22 1 v n xs) : ∀ x, v.ownBlock = some x → base ≤ x := fun x hx => (World.ownsRow.lt h x hx).1
theorem own22_keep {w w' : World} {base n : Nat} {v : Value} {xs : List Value} (h : w.ownsRow base 22 1 v n xs) (g : w.grownBy w' none) : w'.ownsRow base 22 1 v n xs := World.ownsRow.kept h g (Classical.em (v.ownBlock = none))
theorem DgAt.next {w U X w7 : World} {l : List Int} {H E k : Nat} {u hv v' : Value} {vs : List Value} (ho : U.ownsRow w.heap.size 22 1 u k vs) (hh : HandsAt U w.heap.size vs ((List.range k).map (dealH l H E)) U.heap.size) (hg : w.grownBy U none) (g1 : U.grownBy X none) (o1 : X.ownsRow U.heap.size 3 1 hv E (ints (dealH l H E k))) (o7 : w7.ownsRow w.heap.size 22 1 v' (k + 1) (vs ++ [hv])) (g7 : X.grownBy w7 u.ownBlock) : DgAt w w7 l H E (k + 1) v' := by
  have hx := own22_keep ho g1
  refine ⟨vs ++ [hv], o7, ?_, grown_own (grown_trans hg g1) g7 (own22_block ho)⟩
  rw [← dealAll_snoc]
  refine hh.snoc (fun i y x _ _ h9 => World.ownsRow.kept (own_keepN h9 g1) g7 (own_unlike (own_keepN h9 g1) hx)) hg.size ?_ (fun a ha => Nat.lt_of_lt_of_le (World.ownsRow.lt o1 a ha).2 g7.size) (Nat.le_trans g1.size g7.size)
  rw [dealH_len]
  exact World.ownsRow.kept o1 g7 (own_unlike o1 hx)
theorem cell22_one (W : World) (v : Value) : ∀ j u, [v][j]? = some u → (W.alloc (.cells #[v] 22)).cell? ((⟨W.heap.size, 0, none⟩ : Addr).add j) = some u := fun j u hu => by
  rw [add_plain, Nat.zero_add, block_cell (alloc_at _ _ _)]
  simpa using hu
theorem own22_form {w : World} {base n : Nat} {v : Value} {xs : List Value} (h : w.ownsRow base 22 1 v n xs) : ∃ a c, v = .slice a n c := by
  rcases h.2 with ⟨e, h0⟩ | ⟨g, cap, cur, e, _⟩
  · exact ⟨_, _, by rw [e, h0]⟩
  · exact ⟨_, _, e⟩
end Go.Proofs.YtogpgldbbegniaaGreat
namespace Go.Proofs.YtogpgldbbegniaaGreat
open Go.RowKit

theorem deal_nats {n : Nat} {h e : Int} (hok : dealOk n h e) : ∃ H E : Nat, h = (H : Int) ∧ e = (E : Int) ∧ 1 ≤ H ∧ H ≤ 64 ∧ E * H ≤ n := by
  obtain ⟨h1, h2, h3, h4⟩ := hok
  obtain ⟨H, rfl⟩ : ∃ H : Nat, h = (H : Int) := ⟨h.toNat, by omega⟩
  obtain ⟨E, rfl⟩ : ∃ E : Nat, e = (E : Int) := ⟨e.toNat, by omega⟩
  rw [← Int.natCast_mul] at h4
  exact ⟨H, E, rfl, rfl, by omega, by omega, Int.ofNat_le.1 h4⟩
theorem drop_zero_ints {w w' : World} {u : Value} {H : Nat} (h : w'.ownsRow w.heap.size 3 1 u 0 (ints [])) : w'.ownsRow w.heap.size 3 1 u 0 (ints (([] : List Int).drop (H * 0))) := by
  rw [List.drop_nil]
  exact h
end Go.Proofs.YtogpgldbbegniaaGreat
namespace Go.Proofs.YtogpgldbbegniaaGreat
open Go.RowKit

theorem lst_block (x : Lst) : x.v.ownBlock = x.a := by
  obtain ⟨a, n, c⟩ := x
  cases a <;> rfl
theorem lsts_of {w : World} {V : List Value} (h : ∀ v ∈ V, ∃ (lo k : Nat) (xs : List Value), w.ownsRow lo 3 1 v k xs) : ∃ T : List Lst, V = T.map Lst.v ∧ ∀ x ∈ T, x.okI w := by
  induction V with
  | nil => exact ⟨[], rfl, fun x hx => by simp at hx⟩
  | cons v V ih =>
    obtain ⟨T, e, hT⟩ := ih (fun u hu => h u (List.mem_cons_of_mem _ hu))
    obtain ⟨lo, k, xs, ho⟩ := h v List.mem_cons_self
    obtain ⟨x, ex, _, hx, _⟩ := own_lstI ho
    refine ⟨x :: T, by rw [ex, e]; rfl, fun y hy => ?_⟩
    rcases List.mem_cons.1 hy with rfl | hy
    · exact hx
    · exact hT y hy
theorem diff_apart {T : List Lst} (h : (T.map Lst.v).Pairwise fun x y => ∀ a, x.ownBlock = some a → y.ownBlock ≠ some a) : Diff T := fun i j x y g hi hj hx hy => by
  obtain ⟨li, ei⟩ := List.getElem?_eq_some_iff.1 hi
  obtain ⟨lj, ej⟩ := List.getElem?_eq_some_iff.1 hj
  rw [List.pairwise_map, List.pairwise_iff_getElem] at h
  rcases Nat.lt_trichotomy i j with c | c | c
  · exact absurd (by rw [lst_block, ej]; exact hy) (h i j li lj c g (by rw [lst_block, ei]; exact hx))
  · exact c
  · exact absurd (by rw [lst_block, ei]; exact hx) (h j i lj li c g (by rw [lst_block, ej]; exact hy))
theorem blocks_vals (T : List Lst) : blocks T = (T.map Lst.v).filterMap Value.ownBlock := by
  unfold blocks
  rw [List.filterMap_map]
  congr 1
  funext x
  exact (lst_block x).symm
theorem apart_vals (base gt ct n : Nat) (V : List Value) (w : World) (hrow : w.ownsRow base 22 1 (.slice (some ⟨gt, 0, none⟩) n ct) n V) (h0 : 0 < n) (h3 : n ≤ 100) (hV : ∀ v ∈ V, ∃ (lo k : Nat) (xs : List Value), w.ownsRow lo 3 1 v k xs) (hP : V.Pairwise fun x y => ∀ a, x.ownBlock = some a → y.ownBlock ≠ some a) : Calls Tryz.prog 34 #[.slice (some ⟨gt, 0, none⟩) n ct] w fun e w' => e = .returned (.bool true) ∧ Kpt (V.filterMap Value.ownBlock) w w' := by
  obtain ⟨T, e, hT⟩ := lsts_of hV
  have hl : T.length = n := by have := hrow.1; rw [e, List.length_map] at this; omega
  have hD : Diff T := diff_apart (by rw [← e]; exact hP)
  have := apartI_any gt ct T w (by omega) (by omega) (fun j x hx => by
    have hj := (List.getElem?_eq_some_iff.1 hx).1
    rw [World.ownsRow.cellAt hrow j (by omega), e, List.getElem?_map, hx]
    rfl) hT hD
  rw [hl, blocks_vals, ← e] at this
  exact this
/-- The lent list, as far as it was handed in, may be cut. -/
theorem lent_B {w : World} {g n : Nat} {l : List Int} (h : w.ownsRow g 3 1 (.slice (some ⟨g, 0, none⟩) (n + 2) (n + 2)) (n + 2) (ints (l ++ [-77, -77]))) (hn : l.length = n) : IntsB w (.slice (some ⟨g, 0, none⟩) n (n + 2)) l := by
  subst hn
  refine Or.inr ⟨g, 0, _, rfl, by omega, fun j u hu => ?_⟩
  have hj : j < l.length := by have := (List.getElem?_eq_some_iff.1 hu).1; rwa [length_ints] at this
  rw [Nat.zero_add, World.ownsRow.cellAt h j (by omega), ints_app, List.getElem?_append_left (by rw [length_ints]; exact hj)]
  exact hu
theorem own22_over {w w' : World} {base n f : Nat} {v : Value} {xs : List Value} (h : w.ownsRow base 22 1 v n xs) (g : w.grownBy w' (some f)) (hf : f < base) : w'.ownsRow base 22 1 v n xs := World.ownsRow.kept h g (by
  rcases h.2 with ⟨e, _⟩ | ⟨g', cap', cur, e, hb, _⟩
  · exact Or.inl (by rw [e]; rfl)
  · refine Or.inr ?_
    rw [e]
    intro h9
    simp [Value.ownBlock] at h9
    omega)
theorem HandsAt.over {w w' : World} {base m f : Nat} {vs : List Value} {hs : List (List Int)} (h : HandsAt w base vs hs m) (g : w.grownBy w' (some f)) (hf : f < base) : HandsAt w' base vs hs m :=
  ⟨h.1, fun i v l hv hl => L_keep (h.2.1 i v l hv hl) g hf, h.2.2⟩
theorem HandsAt.at {w : World} {base m i : Nat} {vs : List Value} {hs : List (List Int)} (h : HandsAt w base vs hs m) (hi : i < hs.length) : ∃ v l, vs[i]? = some v ∧ hs[i]? = some l ∧ w.ownsRow base 3 1 v l.length (ints l) := by
  have h1 : i < vs.length := by rw [h.1]; exact hi
  exact ⟨vs[i], hs[i], List.getElem?_eq_getElem h1, List.getElem?_eq_getElem hi, h.2.1 i _ _ (List.getElem?_eq_getElem h1) (List.getElem?_eq_getElem hi)⟩
theorem HandsAt.vals {w : World} {base m : Nat} {vs : List Value} {hs : List (List Int)} (h : HandsAt w base vs hs m) : ∀ v ∈ vs, ∃ (lo k : Nat) (xs : List Value), w.ownsRow lo 3 1 v k xs := fun v hv => by
  obtain ⟨i, hi, e⟩ := List.mem_iff_getElem.1 hv
  obtain ⟨u, l, h1, _, h3⟩ := h.at (i := i) (by rw [← h.1]; exact hi)
  rw [List.getElem?_eq_getElem hi, e] at h1
  cases h1
  exact ⟨_, _, _, h3⟩
theorem HandsAt.blk {w : World} {base m : Nat} {vs : List Value} {hs : List (List Int)} (h : HandsAt w base vs hs m) : ∀ v ∈ vs, ∀ b, v.ownBlock = some b → base ≤ b ∧ b < m := fun v hv b hb => by
  obtain ⟨i, hi, e⟩ := List.mem_iff_getElem.1 hv
  obtain ⟨u, l, h1, _, h3⟩ := h.at (i := i) (by rw [← h.1]; exact hi)
  rw [List.getElem?_eq_getElem hi, e] at h1
  cases h1
  exact ⟨(World.ownsRow.lt h3 b hb).1, h.2.2.2 i _ b (by rw [List.getElem?_eq_getElem hi, e]) hb⟩
theorem HandsAt.pair {w : World} {base m : Nat} {vs : List Value} {hs : List (List Int)} (h : HandsAt w base vs hs m) : vs.Pairwise fun x y => ∀ a, x.ownBlock = some a → y.ownBlock ≠ some a := by
  rw [List.pairwise_iff_getElem]
  intro i j hi hj hij a ha hb
  have := h.2.2.1 i j vs[i] vs[j] a a hij (List.getElem?_eq_getElem hi) (List.getElem?_eq_getElem hj) ha hb
  omega
/-- Values whose blocks lie in rows that rise. -/
theorem pair_in {V : List Value} (S : List (Nat × Nat)) (hl : V.length = S.length) (hb : ∀ (i : Nat) v s, V[i]? = some v → S[i]? = some s → ∀ b, v.ownBlock = some b → s.1 ≤ b ∧ b < s.2) (hs : S.Pairwise fun x y => x.2 ≤ y.1) : V.Pairwise fun x y => ∀ a, x.ownBlock = some a → y.ownBlock ≠ some a := by
  rw [List.pairwise_iff_getElem] at hs ⊢
  intro i j hi hj hij a ha hb'
  have h1 := hb i V[i] S[i] (List.getElem?_eq_getElem hi) (List.getElem?_eq_getElem (by omega)) a ha
  have h2 := hb j V[j] S[j] (List.getElem?_eq_getElem hj) (List.getElem?_eq_getElem (by omega)) a hb'
  have h3 := hs i j (by omega) (by omega) hij
  omega
end Go.Proofs.YtogpgldbbegniaaGreat
