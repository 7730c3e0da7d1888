/-
  SuitNames, walked: the document's examples of suit.
-/
import Derived.Test.YtmnkibnbnhjncaaDoorOf
import Derived.Test.YtmnkibnbnhjncaaDoorBack
namespace Go.Proofs.YtmnkibnbnhjncaaDoor
open Go.RowKit

theorem tl_gold : (⟨#[103, 111, 108, 100]⟩ : ByteArray).toList = nmL 5 := by kernel_rfl
theorem tl_Gold : (⟨#[71, 111, 108, 100]⟩ : ByteArray).toList = [71, 111, 108, 100] := by kernel_rfl
theorem tl_no : (⟨#[]⟩ : ByteArray).toList = [] := by kernel_rfl
theorem at_gold : oI (⟨#[103, 111, 108, 100]⟩ : ByteArray).toList = 6 ∧ oB (⟨#[103, 111, 108, 100]⟩ : ByteArray).toList = true := by rw [tl_gold]; decide
theorem at_Gold : oI (⟨#[71, 111, 108, 100]⟩ : ByteArray).toList = 0 ∧ oB (⟨#[71, 111, 108, 100]⟩ : ByteArray).toList = false := by rw [tl_Gold]; decide
theorem at_no : oI (⟨#[]⟩ : ByteArray).toList = 0 ∧ oB (⟨#[]⟩ : ByteArray).toList = false := by rw [tl_no]; decide
set_option maxRecDepth 100000 in
set_option maxHeartbeats 2000000 in
theorem awake_any (w : World) (L : LaidAt w) : Calls Tryd.prog 17 #[] w fun e w' => e = .returned (.bool true) ∧ w.grownBy w' none := by
  go_enter Tryd.func17, Tryd.ntmps17
  go_wp2_with fail
  refine (sof_any _ _ L.1).mono ?_
  rintro e w1 ⟨rfl, g1⟩
  have L1 := L.keep g1
  rw [at_gold.1, at_gold.2]
  go_wp2_with fail
  refine (name_any _ _ L1.1).mono ?_
  rintro e w2 ⟨rfl, rfl⟩
  rw [show sName 3 = ⟨#[102, 105, 114, 101]⟩ from rfl]
  go_wp2_with fail
  refine (beats_any _ _ L1.2).mono ?_
  rintro e w3 ⟨rfl, rfl⟩
  rw [show sBeats 2 = 4 from rfl]
  go_wp2_with fail
  refine (beaten_any _ _ L1.2).mono ?_
  rintro e w4 ⟨rfl, g4⟩
  rw [show sBeaten 1 = 6 from rfl]
  have G4 := grown_trans g1 g4
  clear g1 g4 L1 L
  go_wp2_with fail
  refine (weight_any _ _).mono ?_
  rintro e w5 ⟨rfl, g5⟩
  rw [show sWeight 5 = 18 from rfl]
  go_wp2
  go_ret
  exact ⟨rfl, grown_trans G4 g5⟩
set_option maxRecDepth 100000 in
set_option maxHeartbeats 2000000 in
theorem names_any (w : World) (L : LaidAt w) : Calls Tryd.prog 4 #[] w fun e w' => e = .returned (.bool true) ∧ w.grownBy w' none := by
  go_enter Tryd.func4, Tryd.ntmps4
  go_wp2_with fail
  refine (sof_any _ _ L.1).mono ?_
  rintro e w1 ⟨rfl, g1⟩
  rw [at_Gold.1, at_Gold.2]
  have L1 := L.keep g1
  clear L
  go_wp2_with fail
  refine (sof_any _ _ L1.1).mono ?_
  rintro e w2 ⟨rfl, g2⟩
  rw [at_no.1, at_no.2]
  have L2 := L1.keep g2
  have G2 := grown_trans g1 g2
  clear g1 g2 L1
  go_wp2_with fail
  refine (awake_any _ L2).mono ?_
  rintro e w3 ⟨rfl, g3⟩
  have L3 := L2.keep g3
  have G3 := grown_trans G2 g3
  clear L2 G2 g3
  go_wp2_with fail
  refine (name_any _ _ L3.1).mono ?_
  rintro e w4 ⟨rfl, rfl⟩
  rw [show sName 0 = ⟨#[]⟩ from rfl]
  go_wp2_with fail
  refine (name_any _ _ L3.1).mono ?_
  rintro e w4 ⟨rfl, rfl⟩
  rw [show sName 7 = ⟨#[]⟩ from rfl]
  go_wp2_with fail
  refine (beats_any _ _ L3.2).mono ?_
  rintro e w4 ⟨rfl, rfl⟩
  rw [show sBeats 1 = 2 from rfl]
  go_wp2_with fail
  refine (beats_any _ _ L3.2).mono ?_
  rintro e w4 ⟨rfl, rfl⟩
  rw [show sBeats 6 = 1 from rfl]
  go_wp2_with fail
  refine (beats_any _ _ L3.2).mono ?_
  rintro e w4 ⟨rfl, rfl⟩
  rw [show sBeats 9 = 0 from rfl]
  go_wp2_with fail
  refine (beaten_any _ _ L3.2).mono ?_
  rintro e w4 ⟨rfl, g4⟩
  rw [show sBeaten 3 = 4 from rfl]
  have L4 := L3.keep g4
  have G4 := grown_trans G3 g4
  clear L3 G3 g4
  go_wp2_with fail
  refine (beaten_any _ _ L4.2).mono ?_
  rintro e w5 ⟨rfl, g5⟩
  rw [show sBeaten 0 = 0 from rfl]
  have G5 := grown_trans G4 g5
  clear L4 G4 g5
  go_wp2_with fail
  refine (weight_any _ _).mono ?_
  rintro e w6 ⟨rfl, g6⟩
  rw [show sWeight 0 = 0 from rfl]
  go_wp2
  go_ret
  exact ⟨rfl, grown_trans G5 g6⟩
end Go.Proofs.YtmnkibnbnhjncaaDoor
