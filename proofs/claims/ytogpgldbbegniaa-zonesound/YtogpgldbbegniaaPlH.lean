/-
  Which numbers may be dealt; one hand: what stands at h, h + hands, h + 2 hands, ..
-/
import Derived.Test.YtogpgldbbegniaaS6
import Derived.Test.YtogpgldbbegniaaS7
namespace Go.Proofs.Ytogpgldbbegniaa
open Go.RowKit

/-- So many numbers are enough. -/
def dealOk (n : Nat) (h e : Int) : Prop := 1 ≤ h ∧ h ≤ 64 ∧ 0 ≤ e ∧ e * h ≤ (n : Int)
theorem quo_wrap (n H : Nat) (hn : n ≤ 17592186044416) : wrap64 ((n : Int) / (H : Int)) = ((n / H : Nat) : Int) := by
  have hl : (n / H : Nat) ≤ n := Nat.div_le_self _ _
  have e : (n : Int) / (H : Int) = ((n / H : Nat) : Int) := rfl
  rw [e]
  obtain ⟨q, hq⟩ : ∃ q, q = n / H := ⟨_, rfl⟩
  rw [← hq] at hl ⊢
  clear hq e
  unfold wrap64
  omega
theorem quo_le {n H : Nat} {e : Int} (hH : 1 ≤ H) (h0 : 0 ≤ e) : e ≤ ((n / H : Nat) : Int) ↔ e * (H : Int) ≤ (n : Int) := by
  obtain ⟨E, rfl⟩ : ∃ E : Nat, e = (E : Int) := ⟨e.toNat, by omega⟩
  rw [← Int.natCast_mul, Int.ofNat_le, Int.ofNat_le]
  exact Nat.le_div_iff_mul_le (by omega)
/-- A hand, so far: the first k of it; noughts behind them. -/
def dz (l : List Int) (H E h k : Nat) : List Int := (List.range E).map fun j => if j < k then l.getD (h + j * H) 0 else 0
theorem dz_len (l : List Int) (H E h k : Nat) : (dz l H E h k).length = E := by simp [dz]
theorem dz_zero (l : List Int) (H E h : Nat) : dz l H E h 0 = List.replicate E 0 := by
  apply List.ext_getElem (by simp [dz])
  intro i h1 h2
  simp [dz]
theorem dz_full (l : List Int) (H E h : Nat) : dz l H E h E = dealH l H E h := by
  apply List.ext_getElem (by simp [dz, dealH])
  intro i h1 h2
  have : i < E := by simpa [dz] using h1
  simp [dz, dealH, this]
theorem dz_next (l : List Int) (H E h k : Nat) : (dz l H E h k).set k (l.getD (h + k * H) 0) = dz l H E h (k + 1) := by
  apply List.ext_getElem (by simp [dz])
  intro i h1 h2
  rw [List.getElem_set]
  by_cases e : k = i
  · subst e
    simp [dz]
  · simp only [dz, List.getElem_map, List.getElem_range, if_neg e]
    by_cases h9 : i < k
    · rw [if_pos h9, if_pos (by omega)]
    · rw [if_neg h9, if_neg (by omega)]
theorem made_zeros (E : Nat) : (madeCells (Value.int .i64 0).cells (E * 1)).toList = ints (List.replicate E 0) := by
  rw [Nat.mul_one]
  have := L.zeros_eq E
  unfold L.zeros at this
  show (madeCells #[Value.int .i64 0] E).toList = _
  rw [this]
  rfl
/-- Hands in memory of their own: in blocks that rise, from base on, ahead of m. -/
def HandsAt (w : World) (base : Nat) (vs : List Value) (hs : List (List Int)) (m : Nat) : Prop :=
  vs.length = hs.length ∧ (∀ (i : Nat) v l, vs[i]? = some v → hs[i]? = some l → w.ownsRow base 3 1 v l.length (ints l)) ∧
  (∀ (i j : Nat) v v' a b, i < j → vs[i]? = some v → vs[j]? = some v' → v.ownBlock = some a → v'.ownBlock = some b → a < b) ∧ ∀ (i : Nat) v a, vs[i]? = some v → v.ownBlock = some a → a < m
theorem HandsAt.nil (w : World) (base m : Nat) : HandsAt w base [] [] m := ⟨rfl, fun i v l h => by simp at h, fun i j v v' a b _ h => by simp at h, fun i v a h => by simp at h⟩
theorem HandsAt.snoc {w w' : World} {base m m' : Nat} {vs : List Value} {hs : List (List Int)} {v : Value} {l : List Int} (h : HandsAt w base vs hs m) (hk : ∀ (i : Nat) u x, vs[i]? = some u → hs[i]? = some x → w.ownsRow base 3 1 u x.length (ints x) → w'.ownsRow base 3 1 u x.length (ints x)) (hb : base ≤ m) (ho : w'.ownsRow m 3 1 v l.length (ints l)) (hm : ∀ a, v.ownBlock = some a → a < m') (hmm : m ≤ m') : HandsAt w' base (vs ++ [v]) (hs ++ [l]) m' := by
  obtain ⟨h1, h2, h3, h4⟩ := h
  have hlast : ∀ {i : Nat} {u : Value}, (vs ++ [v])[i]? = some u → (i < vs.length ∧ vs[i]? = some u) ∨ (i = vs.length ∧ u = v) := fun {i u} hu => by
    by_cases hi : i < vs.length
    · rw [List.getElem?_append_left hi] at hu
      exact Or.inl ⟨hi, hu⟩
    · rw [List.getElem?_append_right (by omega)] at hu
      have hi2 := (List.getElem?_eq_some_iff.1 hu).1
      have hi3 : i - vs.length = 0 := by simpa using hi2
      rw [hi3] at hu
      exact Or.inr ⟨by omega, by simpa using hu.symm⟩
  refine ⟨by simp [h1], fun i u x hu hx => ?_, fun i j u u' a b hij hu hu' ha hb' => ?_, fun i u a hu ha => ?_⟩
  · rcases hlast hu with ⟨hi, hu⟩ | ⟨hi, rfl⟩
    · rw [List.getElem?_append_left (by omega)] at hx
      exact hk i u x hu hx (h2 i u x hu hx)
    · rw [hi, h1, List.getElem?_append_right (by omega)] at hx
      simp at hx
      subst hx
      exact own_low ho hb
  · rcases hlast hu with ⟨hi, hu1⟩ | ⟨hi, rfl⟩
    · rcases hlast hu' with ⟨hj, hu2⟩ | ⟨hj, e9⟩
      · exact h3 i j u u' a b hij hu1 hu2 ha hb'
      · rw [e9] at hb'
        exact Nat.lt_of_lt_of_le (h4 i u a hu1 ha) (World.ownsRow.lt ho b hb').1
    · rcases hlast hu' with ⟨hj, _⟩ | ⟨hj, _⟩ <;> omega
  · rcases hlast hu with ⟨hi, hu1⟩ | ⟨hi, rfl⟩
    · exact Nat.lt_of_lt_of_le (h4 i u a hu1 ha) hmm
    · exact hm a ha
theorem HandsAt.keep {w w' : World} {base m : Nat} {vs : List Value} {hs : List (List Int)} (h : HandsAt w base vs hs m) (g : w.grownBy w' none) : HandsAt w' base vs hs m :=
  ⟨h.1, fun i v l hv hl => own_keepN (h.2.1 i v l hv hl) g, h.2.2⟩
/-- A list of numbers and a list of hands lie in unlike blocks. -/
theorem own_unlike {w : World} {base b n1 n2 : Nat} {v u : Value} {xs ys : List Value} (h : w.ownsRow base 3 1 v n1 xs) (k : w.ownsRow b 22 1 u n2 ys) : v.ownBlock = none ∨ v.ownBlock ≠ u.ownBlock := by
  rcases h.2 with ⟨e, _⟩ | ⟨g, cap, cur, e, _, hh, _⟩
  · exact Or.inl (by rw [e]; rfl)
  · rcases k.2 with ⟨e2, _⟩ | ⟨g2, cap2, cur2, e2, _, hh2, _⟩
    · exact Or.inr (by rw [e, e2]; simp [Value.ownBlock])
    · refine Or.inr (fun h9 => ?_)
      rw [e, e2] at h9
      simp [Value.ownBlock] at h9
      subst h9
      rw [hh] at hh2
      simp at hh2
/-- What Deal answers. -/
def dealP (l : List Int) (h e : Int) : List (List Int) × List Int × Int := if 1 ≤ h ∧ h ≤ 64 ∧ 0 ≤ e ∧ e * h ≤ (l.length : Int) then (dealAll l h.toNat e.toNat, l.drop (h.toNat * e.toNat), 0) else ([], [], 2)
def DePost (w : World) (l : List Int) (h e : Int) (r : Ending) (w' : World) : Prop := ∃ u v, r = .returned (.tuple #[u, v, .int .i64 (dealP l h e).2.2]) ∧
  (∃ vs m, w'.ownsRow w.heap.size 22 1 u (dealP l h e).1.length vs ∧ HandsAt w' w.heap.size vs (dealP l h e).1 m ∧ w.heap.size ≤ m ∧ m ≤ w'.heap.size ∧ w'.ownsRow m 3 1 v (dealP l h e).2.1.length (ints (dealP l h e).2.1)) ∧ w.grownBy w' none
theorem DePost.no {w : World} {l : List Int} {h e : Int} (hno : ¬ dealOk l.length h e) : DePost w l h e (.returned (.tuple #[.slice none 0 0, .slice none 0 0, .int .i64 2])) w := by
  have hno' : ¬ (1 ≤ h ∧ h ≤ 64 ∧ 0 ≤ e ∧ e * h ≤ (l.length : Int)) := hno
  unfold DePost dealP
  rw [if_neg hno']
  exact ⟨_, _, rfl, ⟨[], w.heap.size, World.ownsRow_nil _ _ _ _, HandsAt.nil _ _ _, Nat.le_refl _, Nat.le_refl _, World.ownsRow_nil _ _ _ _⟩, grown_refl _ _⟩
theorem dealAll_len (l : List Int) (H E : Nat) : (dealAll l H E).length = H := by simp [dealAll]
theorem DePost.yes {w w' : World} {l : List Int} {H E n1 m : Nat} {u v : Value} {vs : List Value} (h1 : 1 ≤ H) (h2 : H ≤ 64) (h3 : E * H ≤ l.length) (hu : w'.ownsRow w.heap.size 22 1 u H vs) (hh : HandsAt w' w.heap.size vs (dealAll l H E) m) (hm : w.heap.size ≤ m) (hm2 : m ≤ w'.heap.size) (hv : w'.ownsRow m 3 1 v n1 (ints (l.drop (H * E)))) (hg : w.grownBy w' none) : DePost w l (H : Int) (E : Int) (.returned (.tuple #[u, v, .int .i64 0])) w' := by
  have hok : 1 ≤ (H : Int) ∧ (H : Int) ≤ 64 ∧ 0 ≤ (E : Int) ∧ (E : Int) * (H : Int) ≤ (l.length : Int) := ⟨by omega, by omega, by omega, by rw [← Int.natCast_mul]; exact Int.ofNat_le.2 h3⟩
  unfold DePost dealP
  rw [if_pos hok]
  simp only [Int.toNat_natCast]
  exact ⟨_, _, rfl, ⟨vs, m, by rw [dealAll_len]; exact hu, hh, hm, hm2, by rw [own_len hv]; exact hv⟩, hg⟩
theorem dealAll_snoc (l : List Int) (H E k : Nat) : (List.range k).map (dealH l H E) ++ [dealH l H E k] = (List.range (k + 1)).map (dealH l H E) := by simp [List.range_succ]
end Go.Proofs.Ytogpgldbbegniaa
