/-
  Where a name's card stands; Has, Find; TraitName, MarkOf.
-/
import Derived.Test.YtjjldjmcbmkkdaaB1
namespace Go.Proofs.Ytjjldjmcbmkkdaa
open Go.RowKit

/-- The place of a name: -1, if there is none. -/
def pos : List ByteArray → ByteArray → Int
  | [], _ => -1
  | x :: r, s => if x = s then 0 else if pos r s < 0 then -1 else pos r s + 1
theorem pos_low : ∀ (l : List ByteArray) (s : ByteArray), -1 ≤ pos l s ∧ pos l s < l.length
  | [], s => by simp [pos]
  | x :: r, s => by
    have := pos_low r s
    simp only [pos, List.length_cons]
    split
    · omega
    · split <;> omega
theorem pos_hit : ∀ (l : List ByteArray) (s : ByteArray) (k : Nat), l[k]? = some s → (∀ (j : Nat) x, j < k → l[j]? = some x → ¬ x = s) → pos l s = k
  | [], s, k, h, _ => by simp at h
  | x :: r, s, 0, h, _ => by
    obtain rfl : x = s := by simpa using h
    simp [pos]
  | x :: r, s, k + 1, h, hn => by
    have hx : ¬ x = s := hn 0 x (by omega) rfl
    have ih := pos_hit r s k (by simpa using h) (fun j y hj hy => hn (j + 1) y (by omega) (by simpa using hy))
    simp only [pos, if_neg hx, ih]
    rw [if_neg (by omega)]
    omega
theorem pos_miss : ∀ (l : List ByteArray) (s : ByteArray), (∀ (j : Nat) x, l[j]? = some x → ¬ x = s) → pos l s = -1
  | [], s, _ => rfl
  | x :: r, s, hn => by
    have ih := pos_miss r s (fun j y hy => hn (j + 1) y (by simpa using hy))
    simp only [pos, if_neg (hn 0 x rfl), ih]
    rfl
theorem pos_yes : ∀ (l : List ByteArray) (s : ByteArray), 0 ≤ pos l s → l[(pos l s).toNat]? = some s
  | [], s, h => by simp [pos] at h
  | x :: r, s, h => by
    simp only [pos] at h ⊢
    by_cases hx : x = s
    · simp [hx]
    · rw [if_neg hx] at h ⊢
      by_cases hp : pos r s < 0
      · rw [if_pos hp] at h; omega
      · rw [if_neg hp]
        have ih := pos_yes r s (by omega)
        rw [show (pos r s + 1).toNat = (pos r s).toNat + 1 by omega, List.getElem?_cons_succ]
        exact ih
theorem pos_no {l : List ByteArray} {s : ByteArray} (h : pos l s < 0) : s ∉ l := by
  induction l with
  | nil => simp
  | cons x r ih =>
    simp only [pos] at h
    by_cases hx : x = s
    · rw [if_pos hx] at h; omega
    · rw [if_neg hx] at h
      by_cases hp : pos r s < 0
      · intro hm
        rcases List.mem_cons.1 hm with e | e
        · exact hx e.symm
        · exact ih hp e
      · rw [if_neg hp] at h; omega
def names (es : List Ent) : List ByteArray := es.map fun e => e.h.nm
theorem names_at {es : List Ent} {k : Nat} {e : Ent} (h : es[k]? = some e) : (names es)[k]? = some e.h.nm := by simp [names, h]
theorem names_len (es : List Ent) : (names es).length = es.length := by simp [names]
theorem bytes_no {s t : ByteArray} (h : ¬ s = t) : (s.toList == t.toList) = false := list_no h
theorem bytes_yes {s t : ByteArray} (h : s = t) : (s.toList == t.toList) = true := by subst h; simp
/-- None of the first k has the name. -/
def NoneTo (es : List Ent) (s : ByteArray) (k : Nat) : Prop := ∀ (j : Nat) e, j < k → es[j]? = some e → ¬ e.h.nm = s
theorem noneTo_hit {es : List Ent} {s : ByteArray} {k : Nat} {e : Ent} (h : NoneTo es s k) (he : es[k]? = some e) (hs : e.h.nm = s) : pos (names es) s = k := by
  subst hs
  refine pos_hit _ _ _ (names_at he) fun j x hj hx => ?_
  simp only [names, List.getElem?_map, Option.map_eq_some_iff] at hx
  obtain ⟨a, ha, rfl⟩ := hx
  exact h j a hj ha
theorem noneTo_end {es : List Ent} {s : ByteArray} (h : NoneTo es s es.length) : pos (names es) s = -1 := by
  refine pos_miss _ _ fun j x hx => ?_
  simp only [names, List.getElem?_map, Option.map_eq_some_iff] at hx
  obtain ⟨a, ha, rfl⟩ := hx
  exact h j a (List.getElem?_eq_some_iff.1 ha).1 ha
theorem noneTo_next {es : List Ent} {s : ByteArray} {k : Nat} {e : Ent} (h : NoneTo es s k) (he : es[k]? = some e) (hs : ¬ e.h.nm = s) : NoneTo es s (k + 1) := fun j x hj hx => by
  rcases (show j < k ∨ j = k by omega) with hj | rfl
  · exact h j x hj hx
  · rw [he] at hx
    cases hx
    exact hs
/-- Each slice of parts is one. -/
def Slc (es : List Ent) : Prop := ∀ e ∈ es, ∃ a n c, e.v = .slice a n c
theorem Good.slc {ok : Nat → Prop} {w : World} {es : List Ent} (h : Good ok w es) : Slc es := fun e he => by
  obtain ⟨a, c, e1⟩ := (h e he).1.form
  exact ⟨a, _, c, e1⟩
/-- What Find tells. -/
def fndN (sh : Bool) (q : Int) : Int := if sh = true ∧ 0 ≤ q then q + 1 else 0
def fndE (sh : Bool) (q : Int) : Int := if sh = true ∧ 0 ≤ q then 0 else 6
end Go.Proofs.Ytjjldjmcbmkkdaa
