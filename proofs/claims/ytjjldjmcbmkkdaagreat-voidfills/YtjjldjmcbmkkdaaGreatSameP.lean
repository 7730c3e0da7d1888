/-
  SameParts: two lists of parts are held against each other.
-/
import Derived.Test.YtjjldjmcbmkkdaaGreatPs
namespace Go.Proofs.YtjjldjmcbmkkdaaGreat
open Go.RowKit

/-- A number that a machine's list has at most. -/
def Small (n : Nat) : Prop := n ≤ 140737488355328
theorem Small.wrap {n k : Nat} (h : Small n) (hk : k < n) : wrap64 ((k : Int) + 1) = (k : Int) + 1 := by unfold Small at h; unfold wrap64; omega
theorem meas_next {n k : Nat} (h : k < n) : n - (intOf (.int .i64 ((k : Int) + 1))).toNat < n - (intOf (.int .i64 (k : Int))).toNat := by simp [intOf]; omega
def samePs : List Pt → List Pt → Bool
  | [], [] => true
  | p :: r, q :: t => samep p q && samePs r t
  | _, _ => false
theorem samep_true {p q : Pt} (h : samep p q = true) : p = q := Classical.byContradiction fun e => by rw [samep_no e] at h; cases h
theorem samePs_yes : ∀ {a b : List Pt}, samePs a b = true → a = b
  | [], [], _ => rfl
  | p :: r, q :: t, h => by
    simp only [samePs, Bool.and_eq_true] at h
    rw [samep_true h.1, samePs_yes h.2]
  | [], q :: t, h => by cases h
  | p :: r, [], h => by cases h
theorem samePs_refl : ∀ a : List Pt, samePs a a = true
  | [] => rfl
  | p :: r => by simp only [samePs, samep_yes (rfl : p = p), samePs_refl r, Bool.and_self]
theorem samePs_len : ∀ {a b : List Pt}, ¬ a.length = b.length → samePs a b = false := fun {a b} h => by
  cases hs : samePs a b with
  | false => rfl
  | true => exact absurd (by rw [samePs_yes hs]) h
theorem samePs_at {a b : List Pt} {j : Nat} {p q : Pt} (ha : a[j]? = some p) (hb : b[j]? = some q) (h : samep p q = false) : samePs a b = false := by
  cases hs : samePs a b with
  | false => rfl
  | true =>
    rw [samePs_yes hs, hb] at ha
    obtain rfl := Option.some.inj ha
    rw [samep_yes rfl] at h
    cases h
theorem samePs_all : ∀ {a b : List Pt}, a.length = b.length → (∀ (j : Nat) p q, a[j]? = some p → b[j]? = some q → samep p q = true) → samePs a b = true
  | [], [], _, _ => rfl
  | p :: r, q :: t, h, k => by
    simp only [samePs, Bool.and_eq_true]
    exact ⟨k 0 p q rfl rfl, samePs_all (by simpa using h) (fun j x y hx hy => k (j + 1) x y (by simpa using hx) (by simpa using hy))⟩
  | [], q :: t, h, _ => by simp at h
  | p :: r, [], h, _ => by simp at h
end Go.Proofs.YtjjldjmcbmkkdaaGreat
