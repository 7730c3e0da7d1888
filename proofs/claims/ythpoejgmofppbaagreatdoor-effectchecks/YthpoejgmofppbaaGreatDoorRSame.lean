/-
  What the document's own Same tells.
-/
import Derived.Test.YthpoejgmofppbaaGreatDoorEq
import Derived.Test.YthpoejgmofppbaaGreatDoorRChk
namespace Go.Proofs.YthpoejgmofppbaaGreatDoor
open Go.RowKit

theorem two_new (w : World) (a b : Obj) : w.grownBy ((w.alloc a).alloc b) none := grown_push (World.grownBy_alloc _ _ _) b
set_option maxHeartbeats 4000000 in
set_option maxRecDepth 100000 in
theorem rsame_any (p q : Pt) (w : World) : Calls Tryz.prog 22 #[pv p, pv q] w fun e w' => e = .returned (.bool (samep p q)) ∧ w.grownBy w' none := by
  unfold pv
  by_cases h0 : p.wn = q.wn
  case neg =>
    rw [show samep p q = false by simp [samep, h0]]
    have e0 := beq_no h0
    clear h0
    go_enter Tryz.func22, Tryz.ntmps22
    go_wp2
    go_ret
    exact ⟨ret_bool (by first | rfl | simp), two_new _ _ _⟩
  by_cases h1 : p.vb = q.vb
  case neg =>
    rw [show samep p q = false by simp [samep, h1]]
    have e0 := beq_yes h0
    have e1 := beq_no h1
    clear h0 h1
    go_enter Tryz.func22, Tryz.ntmps22
    go_wp2
    go_ret
    exact ⟨ret_bool (by first | rfl | simp), two_new _ _ _⟩
  by_cases h2 : p.wm = q.wm
  case neg =>
    rw [show samep p q = false by simp [samep, h2]]
    have e0 := beq_yes h0
    have e1 := beq_yes h1
    have e2 := beq_no h2
    clear h0 h1 h2
    go_enter Tryz.func22, Tryz.ntmps22
    go_wp2
    go_ret
    exact ⟨ret_bool (by first | rfl | simp), two_new _ _ _⟩
  by_cases h3 : p.ct = q.ct
  case neg =>
    rw [show samep p q = false by simp [samep, h3]]
    have e0 := beq_yes h0
    have e1 := beq_yes h1
    have e2 := beq_yes h2
    have e3 := beq_no h3
    clear h0 h1 h2 h3
    go_enter Tryz.func22, Tryz.ntmps22
    go_wp2
    go_ret
    exact ⟨ret_bool (by first | rfl | simp), two_new _ _ _⟩
  by_cases h4 : p.su = q.su
  case neg =>
    rw [show samep p q = false by simp [samep, h4]]
    have e0 := beq_yes h0
    have e1 := beq_yes h1
    have e2 := beq_yes h2
    have e3 := beq_yes h3
    have e4 := beq_no h4
    clear h0 h1 h2 h3 h4
    go_enter Tryz.func22, Tryz.ntmps22
    go_wp2
    go_ret
    exact ⟨ret_bool (by first | rfl | simp), two_new _ _ _⟩
  by_cases h5 : p.tr = q.tr
  case neg =>
    rw [show samep p q = false by simp [samep, h5]]
    have e0 := beq_yes h0
    have e1 := beq_yes h1
    have e2 := beq_yes h2
    have e3 := beq_yes h3
    have e4 := beq_yes h4
    have e5 := beq_no h5
    clear h0 h1 h2 h3 h4 h5
    go_enter Tryz.func22, Tryz.ntmps22
    go_wp2
    go_ret
    exact ⟨ret_bool (by first | rfl | simp), two_new _ _ _⟩
  by_cases h6 : p.mr = q.mr
  case neg =>
    rw [show samep p q = false by simp [samep, h6]]
    have e0 := beq_yes h0
    have e1 := beq_yes h1
    have e2 := beq_yes h2
    have e3 := beq_yes h3
    have e4 := beq_yes h4
    have e5 := beq_yes h5
    have e6 := beq_no h6
    clear h0 h1 h2 h3 h4 h5 h6
    go_enter Tryz.func22, Tryz.ntmps22
    go_wp2
    go_ret
    exact ⟨ret_bool (by first | rfl | simp), two_new _ _ _⟩
  by_cases h7 : p.nm = q.nm
  case neg =>
    rw [show samep p q = false by simp [samep, h7]]
    have e0 := beq_yes h0
    have e1 := beq_yes h1
    have e2 := beq_yes h2
    have e3 := beq_yes h3
    have e4 := beq_yes h4
    have e5 := beq_yes h5
    have e6 := beq_yes h6
    have e7 : (p.nm.toList == q.nm.toList) = false := by
      rw [Lib.toList_data, Lib.toList_data]
      have : ¬ p.nm.data.toList = q.nm.data.toList := fun e => h7 (ByteArray.ext (Array.toList_inj.1 e))
      simpa using this
    clear h0 h1 h2 h3 h4 h5 h6 h7
    go_enter Tryz.func22, Tryz.ntmps22
    go_wp2
    go_ret
    exact ⟨ret_bool (by first | rfl | exact e7 | simp), two_new _ _ _⟩
  rw [show samep p q = true by simp [samep, h0, h1, h2, h3, h4, h5, h6, h7]]
  have e0 := beq_yes h0
  have e1 := beq_yes h1
  have e2 := beq_yes h2
  have e3 := beq_yes h3
  have e4 := beq_yes h4
  have e5 := beq_yes h5
  have e6 := beq_yes h6
  have e7 : (p.nm.toList == q.nm.toList) = true := by simp [h7]
  clear h0 h1 h2 h3 h4 h5 h6 h7
  go_enter Tryz.func22, Tryz.ntmps22
  go_wp2
  go_ret
  exact ⟨ret_bool (by first | rfl | exact e7 | simp), two_new _ _ _⟩
end Go.Proofs.YthpoejgmofppbaaGreatDoor
