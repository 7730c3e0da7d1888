/-
  What a name is, and what Check tells of every part: naming.Is, effect's kindsFit, nameFits, Check. Each touches nothing that was there.
-/
import Derived.Test.YtjjldjmcbmkkdaaChk
namespace Go.Proofs.Ytjjldjmcbmkkdaa
open Go.RowKit

def okb (x : UInt8) : Bool := letter x || decide (x = 45)
theorem byte_at (s : ByteArray) (i : Nat) (h : i < s.size) : s.data.toList[i]? = some s[i] := by
  simp [ByteArray.getElem_eq_getElem_data]
theorem name_no_len {l : List UInt8} (h : 20 < l.length) : nameOk l = false := by
  cases l with
  | nil => rfl
  | cons c r =>
    simp only [List.length_cons] at h
    simp [nameOk, show ¬ r.length ≤ 19 by omega]
theorem name_no_first {l : List UInt8} {c : UInt8} (h : l[0]? = some c) (hc : letter c = false) : nameOk l = false := by
  cases l with
  | nil => rfl
  | cons d r =>
    simp at h
    subst h
    simp [nameOk, hc]
theorem name_no_at {l : List UInt8} {i : Nat} {x : UInt8} (h : l[i]? = some x) (hx : okb x = false) : nameOk l = false := by
  cases l with
  | nil => rfl
  | cons d r =>
    have hm : x ∈ d :: r := List.mem_of_getElem? h
    rcases List.mem_cons.1 hm with rfl | h'
    · have : letter x = false := by
        simp only [okb, Bool.or_eq_false_iff] at hx
        exact hx.1
      simp [nameOk, this]
    · have : (r.all fun x => letter x || decide (x = 45)) = false := by
        rw [List.all_eq_false]
        exact ⟨x, h', by simpa [okb] using hx⟩
      simp [nameOk, this]
theorem name_yes {l : List UInt8} {c : UInt8} (h0 : l[0]? = some c) (hc : letter c = true) (hl : l.length ≤ 20) (ha : ∀ (j : Nat) x, l[j]? = some x → okb x = true) : nameOk l = true := by
  cases l with
  | nil => simp at h0
  | cons d r =>
    simp at h0
    subst h0
    simp only [List.length_cons] at hl
    have : (r.all fun x => letter x || decide (x = 45)) = true := by
      rw [List.all_eq_true]
      intro x hx
      obtain ⟨j, hj, rfl⟩ := List.getElem_of_mem hx
      exact ha (j + 1) _ (by simp [hj])
    simp only [nameOk, hc, this, Bool.and_true]
    exact decide_eq_true (by omega)
theorem good_lo {x m : Int} (h : ¬ 1 ≤ x) : false = (decide (1 ≤ x) && decide (x ≤ m)) := by rw [decide_eq_false h]; rfl
theorem good_hi {x m : Int} (h : 1 ≤ x) : decide (x ≤ m) = (decide (1 ≤ x) && decide (x ≤ m)) := by rw [decide_eq_true h]; rfl
end Go.Proofs.Ytjjldjmcbmkkdaa
