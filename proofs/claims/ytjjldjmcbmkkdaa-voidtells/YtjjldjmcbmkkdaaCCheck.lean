/-
  card.Check of every card.
-/
import Derived.Test.YtjjldjmcbmkkdaaCChk
namespace Go.Proofs.Ytjjldjmcbmkkdaa
open Go.RowKit

theorem kName_yes {k : Int} (h : 1 ≤ k ∧ k ≤ 3) : ((kName k).toList == []) = false := by
  rcases (show k = 1 ∨ k = 2 ∨ k = 3 by omega) with rfl | rfl | rfl <;> rw [Lib.toList_data] <;> rfl
theorem kName_no {k : Int} (h : ¬ (1 ≤ k ∧ k ≤ 3)) : ((kName k).toList == []) = true := by
  have h1 : ¬ k = 1 := by omega
  have h2 : ¬ k = 2 := by omega
  have h3 : ¬ k = 3 := by omega
  rw [Lib.toList_data]
  simp [kName, h1, h2, h3]
theorem sB_yes {k : Int} (h : 1 ≤ k ∧ k ≤ 6) : sB k = true := by simp [sB, h]
theorem sB_no {k : Int} (h : ¬ (1 ≤ k ∧ k ≤ 6)) : sB k = false := by simp only [sB]; by_cases a : 1 ≤ k <;> by_cases b : k ≤ 6 <;> simp [a, b]; exact absurd ⟨a, b⟩ h
theorem wI_yes {k m : Int} (h : 0 ≤ k ∧ k ≤ m) : wI k m = true := by simp [wI, h]
theorem wI_no {k m : Int} (h : ¬ (0 ≤ k ∧ k ≤ m)) : wI k m = false := by simp only [wI]; by_cases a : 0 ≤ k <;> by_cases b : k ≤ m <;> simp [a, b]; exact absurd ⟨a, b⟩ h
def Two (c : Cd) : Prop := ¬ (1 ≤ c.su ∧ c.su ≤ 6) ∨ ¬ (1 ≤ c.kd ∧ c.kd ≤ 3)
def Thr (c : Cd) : Prop := ¬ (0 ≤ c.co ∧ c.co ≤ 10) ∨ ¬ (0 ≤ c.po ∧ c.po ≤ 99) ∨ ¬ (0 ≤ c.he ∧ c.he ≤ 99)
def Fit (c : Cd) : Prop := forceOk c = false ∨ tCheck c.tr = false ∨ (c.kd = 2 ∧ c.tk = true)
theorem cchk_name {c : Cd} (h : nameOk c.nm.data.toList = false) : cchk c = 4 := if_pos h
theorem cchk_two {c : Cd} (n1 : ¬ nameOk c.nm.data.toList = false) (h : Two c) : cchk c = 8 := (if_neg n1).trans (if_pos h)
theorem cchk_thr {c : Cd} (n1 : ¬ nameOk c.nm.data.toList = false) (n2 : ¬ Two c) (h : Thr c) : cchk c = 2 := (if_neg n1).trans ((if_neg n2).trans (if_pos h))
theorem cchk_fit {c : Cd} (n1 : ¬ nameOk c.nm.data.toList = false) (n2 : ¬ Two c) (n3 : ¬ Thr c) (h : Fit c) : cchk c = 8 := (if_neg n1).trans ((if_neg n2).trans ((if_neg n3).trans (if_pos h)))
theorem cchk_long {c : Cd} (n1 : ¬ nameOk c.nm.data.toList = false) (n2 : ¬ Two c) (n3 : ¬ Thr c) (n4 : ¬ Fit c) (h : 4 < c.ps.length) : cchk c = 3 := (if_neg n1).trans ((if_neg n2).trans ((if_neg n3).trans ((if_neg n4).trans (if_pos h))))
theorem cchk_parts {c : Cd} (n1 : ¬ nameOk c.nm.data.toList = false) (n2 : ¬ Two c) (n3 : ¬ Thr c) (n4 : ¬ Fit c) (n5 : ¬ 4 < c.ps.length) : cchk c = chkPs c.kd c.ps := (if_neg n1).trans ((if_neg n2).trans ((if_neg n3).trans ((if_neg n4).trans (if_neg n5))))
end Go.Proofs.Ytjjldjmcbmkkdaa
