/-
  What trait.Parse tells of every text.
-/
import Derived.Test.YtpnbblimmkdaiaaDoorPrint
namespace Go.Proofs.YtpnbblimmkdaiaaDoor
open Go.RowKit

/-- The set that a text is, and the error. -/
def tParse (l : List UInt8) : Int × Int :=
  if l = [45] then (0, 0) else if (gat 0 (pieces l)).2 = false then (0, 4) else if prL (tList (gat 0 (pieces l)).1) = l then ((gat 0 (pieces l)).1, 0) else (0, 5)
theorem print_list (s : Int) : (tPrint s).toList = prL (tList s) := by
  rw [Lib.toList_data]
  rfl
set_option maxRecDepth 100000 in
set_option maxHeartbeats 2000000 in
theorem parse_any (s : ByteArray) (hs : s.size ≤ 9223372036854775807) (w : World) (N : NamesAt w) : Calls Tryd.prog 30 #[.string s] w fun e w' => e = .returned (.tuple #[.int .u16 (tParse s.data.toList).1, .int .i64 (tParse s.data.toList).2]) ∧ w.grownBy w' none := by
  by_cases h0 : s.toList = [45]
  · have h0' : s.data.toList = [45] := by rw [← Lib.toList_data]; exact h0
    have e : tParse s.data.toList = (0, 0) := by simp [tParse, h0']
    rw [e]
    have hd : (s.toList == [45]) = true := by simpa using h0
    clear h0 h0' e
    go_enter Tryd.func30, Tryd.ntmps30
    go_wp2
    go_ret2
    exact ⟨rfl, grown_refl _ _⟩
  · have h0' : ¬ s.data.toList = [45] := by rw [← Lib.toList_data]; exact h0
    have hd : (s.toList == [45]) = false := by simpa using h0
    have HG : Hid (Calls Tryd.prog 41 #[.string s] w fun e w' => e = .returned (.tuple #[.int .u16 (gat 0 (pieces s.data.toList)).1, .bool (gat 0 (pieces s.data.toList)).2]) ∧ w.grownBy w' none) := gather_any s hs w N
    obtain ⟨set, hset⟩ : ∃ set, set = (gat 0 (pieces s.data.toList)).1 := ⟨_, rfl⟩
    have HSet : Hid (set = (gat 0 (pieces s.data.toList)).1) := hset
    clear h0 hset
    cases hg : (gat 0 (pieces s.data.toList)).2 with
    | false =>
      have e : tParse s.data.toList = (0, 4) := by simp [tParse, h0', hg]
      rw [e]
      have HF : Hid ((gat 0 (pieces s.data.toList)).2 = false) := hg
      clear h0' e hg
      go_enter Tryd.func30, Tryd.ntmps30
      go_wp2_with fail
      refine HG.out.mono ?_
      rintro e w1 ⟨rfl, g1⟩
      rw [HF.out, ← HSet.out]
      go_wp2
      go_ret2
      exact ⟨rfl, g1⟩
    | true =>
      have HF : Hid ((gat 0 (pieces s.data.toList)).2 = true) := hg
      by_cases hp : prL (tList set) = s.data.toList
      · have e : tParse s.data.toList = (set, 0) := by
          rw [HSet.out] at hp ⊢
          simp [tParse, h0', hg, hp]
        rw [e]
        have hq : ((tPrint set).toList == s.toList) = true := by rw [print_list, Lib.toList_data]; simpa using hp
        clear h0' e hg hp
        go_enter Tryd.func30, Tryd.ntmps30
        go_wp2_with fail
        refine HG.out.mono ?_
        rintro e w1 ⟨rfl, g1⟩
        rw [HF.out, ← HSet.out]
        go_wp2_with fail
        refine (print_any _ _ (N.keep g1)).mono ?_
        rintro e w2 ⟨rfl, g2⟩
        go_wp2
        go_ret2
        exact ⟨rfl, grown_trans g1 g2⟩
      · have e : tParse s.data.toList = (0, 5) := by
          rw [HSet.out] at hp
          simp [tParse, h0', hg, hp]
        rw [e]
        have hq : ((tPrint set).toList == s.toList) = false := by rw [print_list, Lib.toList_data]; simpa using hp
        clear h0' e hg hp
        go_enter Tryd.func30, Tryd.ntmps30
        go_wp2_with fail
        refine HG.out.mono ?_
        rintro e w1 ⟨rfl, g1⟩
        rw [HF.out, ← HSet.out]
        go_wp2_with fail
        refine (print_any _ _ (N.keep g1)).mono ?_
        rintro e w2 ⟨rfl, g2⟩
        go_wp2
        go_ret2
        exact ⟨rfl, grown_trans g1 g2⟩
end Go.Proofs.YtpnbblimmkdaiaaDoor
