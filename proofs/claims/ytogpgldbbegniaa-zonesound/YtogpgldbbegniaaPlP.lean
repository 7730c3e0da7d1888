/-
  Piles, plainly: lists of numbers, exchanged, shuffled by a stream of places, dealt; what changes is the order alone.
-/
import Derived.Test.YtogpgldbbegniaaS2
namespace Go.Proofs.Ytogpgldbbegniaa

/-- What stands at i and at r, exchanged. -/
def swp (l : List Int) (i r : Nat) : List Int := (l.set i (l.getD r 0)).set r (l.getD i 0)
theorem swp_len (l : List Int) (i r : Nat) : (swp l i r).length = l.length := by simp [swp]
theorem getD_at (l : List Int) (i : Nat) (h : i < l.length) : l.getD i 0 = l[i] := by simp [List.getD, h]
theorem swp_perm (l : List Int) (i r : Nat) (hi : i < l.length) (hr : r < l.length) : (swp l i r).Perm l := by
  unfold swp
  rw [getD_at l i hi, getD_at l r hr]
  exact List.set_set_perm hi hr
theorem swp_map (f : Int → Int) (l : List Int) (i r : Nat) (hi : i < l.length) (hr : r < l.length) : swp (l.map f) i r = (swp l i r).map f := by
  unfold swp
  rw [getD_at l i hi, getD_at l r hr, getD_at (l.map f) i (by simpa using hi), getD_at (l.map f) r (by simpa using hr)]
  simp [List.map_set]
/-- A generator: its number of a state, and its state then. -/
structure Gen where
  num : Int → Nat
  nxt : Int → Int
/-- From place i down to 1. -/
def shuf (g : Gen) : Nat → List Int → Int → List Int × Int
  | 0, l, s => (l, s)
  | i + 1, l, s => shuf g i (swp l (i + 1) (g.num s % (i + 2))) (g.nxt s)
theorem shuf_len (g : Gen) : ∀ (i : Nat) (l : List Int) (s : Int), (shuf g i l s).1.length = l.length
  | 0, _, _ => rfl
  | i + 1, l, s => by rw [shuf, shuf_len g i, swp_len]
theorem shuf_perm (g : Gen) : ∀ (i : Nat) (l : List Int) (s : Int), i < l.length → (shuf g i l s).1.Perm l
  | 0, l, _, _ => List.Perm.refl l
  | i + 1, l, s, h => by
    rw [shuf]
    have hr : g.num s % (i + 2) < l.length := Nat.lt_of_lt_of_le (Nat.mod_lt _ (by omega)) (by omega)
    exact (shuf_perm g i _ _ (by rw [swp_len]; omega)).trans (swp_perm l _ _ h hr)
theorem shuf_map (g : Gen) (f : Int → Int) : ∀ (i : Nat) (l : List Int) (s : Int), i < l.length → shuf g i (l.map f) s = ((shuf g i l s).1.map f, (shuf g i l s).2)
  | 0, _, _, _ => rfl
  | i + 1, l, s, h => by
    have hr : g.num s % (i + 2) < l.length := Nat.lt_of_lt_of_le (Nat.mod_lt _ (by omega)) (by omega)
    rw [shuf, shuf, swp_map f l _ _ h hr, shuf_map g f i _ _ (by rw [swp_len]; omega)]
/-- The state hangs on the length and the state alone. -/
theorem shuf_state (g : Gen) : ∀ (i : Nat) (l m : List Int) (s : Int), (shuf g i l s).2 = (shuf g i m s).2
  | 0, _, _, _ => rfl
  | i + 1, l, m, s => by rw [shuf, shuf]; exact shuf_state g i _ _ _
/-- 0, 1, .., n - 1. -/
def places (n : Nat) : List Int := (List.range n).map fun (i : Nat) => (i : Int)
theorem places_len (n : Nat) : (places n).length = n := by simp [places]
theorem places_succ (n : Nat) : places n ++ [(n : Int)] = places (n + 1) := by simp [places, List.range_succ]
theorem places_map (l : List Int) : (places l.length).map (fun p => l.getD p.toNat 0) = l := by
  apply List.ext_getElem (by simp [places])
  intro i h1 h2
  simp [places, h2]
/-- The places go the same ways, whatever stands there. -/
theorem shuf_places (g : Gen) (i : Nat) (l : List Int) (s : Int) (h : i < l.length) : (shuf g i l s).1 = (shuf g i (places l.length) s).1.map fun p => l.getD p.toNat 0 := by
  have := shuf_map g (fun p => l.getD p.toNat 0) i (places l.length) s (by rw [places_len]; exact h)
  rw [places_map] at this
  rw [this]
theorem places_mem {n : Nat} {x : Int} (h : x ∈ places n) : 0 ≤ x ∧ x < n := by
  obtain ⟨i, hi, rfl⟩ := List.mem_map.1 h
  have := List.mem_range.1 hi
  omega
/-- Hand h: what stands at h, h + hands, h + 2 hands, .. -/
def dealH (l : List Int) (hands each h : Nat) : List Int := (List.range each).map fun k => l.getD (h + k * hands) 0
def dealAll (l : List Int) (hands each : Nat) : List (List Int) := (List.range hands).map (dealH l hands each)
theorem dealH_len (l : List Int) (hands each h : Nat) : (dealH l hands each h).length = each := by simp [dealH]
theorem dealH_succ (l : List Int) (hands each h : Nat) : dealH l hands each h ++ [l.getD (h + each * hands) 0] = dealH l hands (each + 1) h := by simp [dealH, List.range_succ]
theorem flat_snoc {α : Type} (f : Nat → List α) (g : Nat → α) : ∀ L : List Nat, (L.map fun h => f h ++ [g h]).flatten.Perm ((L.map f).flatten ++ L.map g)
  | [] => List.Perm.refl _
  | a :: L => by
    simp only [List.map_cons, List.flatten_cons]
    have ih := flat_snoc f g L
    rw [List.append_assoc, List.append_assoc]
    refine List.Perm.append_left _ ?_
    exact (List.Perm.append_left _ ih).trans (by
      rw [← List.append_assoc]
      exact (List.Perm.append_right _ List.perm_append_comm).trans (by rw [List.append_assoc]; exact List.Perm.refl _))
theorem row_take (l : List Int) (a n : Nat) (h : a + n ≤ l.length) : ((List.range n).map fun i => l.getD (i + a) 0) = (l.drop a).take n := by
  apply List.ext_getElem
  · simp; omega
  · intro i h1 h2
    simp at h1 h2
    have hh : a + i < l.length := by omega
    simp [List.getD, Nat.add_comm, hh]
theorem dealt_perm (l : List Int) (hands : Nat) : ∀ each, hands * each ≤ l.length → (dealAll l hands each).flatten.Perm (l.take (hands * each))
  | 0, _ => by simp [dealAll, dealH]
  | each + 1, h => by
    have e : dealAll l hands (each + 1) = (List.range hands).map fun h => dealH l hands each h ++ [l.getD (h + each * hands) 0] := by
      unfold dealAll
      apply List.map_congr_left
      intro a _
      rw [dealH_succ]
    have h' : hands * each + hands ≤ l.length := by rw [Nat.mul_succ] at h; exact h
    rw [e]
    refine (flat_snoc _ _ _).trans ?_
    rw [row_take l (each * hands) hands (by rw [Nat.mul_comm each]; exact h'), Nat.mul_succ, List.take_add, Nat.mul_comm each hands]
    exact List.Perm.append_right _ (dealt_perm l hands each (by omega))
/-- The hands and the rest have just the list's numbers. -/
theorem deal_perm (l : List Int) (hands each : Nat) (h : hands * each ≤ l.length) : (l.drop (hands * each) ++ (dealAll l hands each).flatten).Perm l := by
  refine (List.Perm.append_left _ (dealt_perm l hands each h)).trans (List.perm_append_comm.trans ?_)
  rw [List.take_append_drop]
/-- Without the first x. -/
theorem erase_count (l : List Int) (x : Int) (h : x ∈ l) : (l.erase x).length = l.length - 1 ∧ (l.erase x).count x = l.count x - 1 := ⟨List.length_erase_of_mem h, List.count_erase_self⟩
theorem erase_at (l : List Int) (x : Int) (i : Nat) (hi : i < l.length) (hx : l[i] = x) (hn : ∀ j (_ : j < i), l[j]'(by omega) ≠ x) : l.erase x = l.take i ++ l.drop (i + 1) := by
  induction l generalizing i with
  | nil => simp at hi
  | cons a l ih =>
    rcases i with _ | i
    · simp at hx; subst hx; simp
    · have ha : a ≠ x := by simpa using hn 0 (by omega)
      have := ih i (by simpa using hi) (by simpa using hx) (fun j hj => by simpa using hn (j + 1) (by omega))
      rw [List.erase_cons_tail (by simpa using ha), this]
      simp
end Go.Proofs.Ytogpgldbbegniaa
