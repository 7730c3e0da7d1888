/-
  TraitKnown, walked: the document's examples of trait.
-/
import Derived.Test.YtpnbblimmkdaiaaDoorParse
namespace Go.Proofs.YtpnbblimmkdaiaaDoor
open Go.RowKit

theorem kn1 : oI (⟨#[115, 119, 105, 102, 116]⟩ : ByteArray).toList = 8 ∧ oB (⟨#[115, 119, 105, 102, 116]⟩ : ByteArray).toList = true := by rw [Lib.toList_data]; decide +kernel
theorem kn2 : tParse (⟨#[102, 97, 115, 116, 32, 115, 119, 105, 102, 116]⟩ : ByteArray).data.toList = (129, 0) := by decide +kernel
theorem kn3 : oI (⟨#[83, 119, 105, 102, 116]⟩ : ByteArray).toList = 0 ∧ oB (⟨#[83, 119, 105, 102, 116]⟩ : ByteArray).toList = false := by rw [Lib.toList_data]; decide +kernel
theorem kn4 : tWith 0 1 = 1 := by decide +kernel
theorem kn5 : tWith 1 1 = 1 := by decide +kernel
theorem kn6 : tWithout 3 1 = 2 := by decide +kernel
theorem kn7 : tWith 0 9 = 0 := by decide +kernel
theorem kn8 : tHas 256 9 = false := by decide +kernel
theorem kn9 : tCheck 255 = true := by decide +kernel
theorem kn10 : tCheck 256 = false := by decide +kernel
theorem kn11 : tPrint 129 = ⟨#[102, 97, 115, 116, 32, 115, 119, 105, 102, 116]⟩ := by decide +kernel
theorem kn12 : tPrint 0 = ⟨#[45]⟩ := by decide +kernel
theorem kn13 : tPrint 256 = ⟨#[45]⟩ := by decide +kernel
theorem kn14 : tParse (⟨#[45]⟩ : ByteArray).data.toList = (0, 0) := by decide +kernel
theorem kn15 : tParse (⟨#[115, 119, 105, 102, 116, 32, 102, 97, 115, 116]⟩ : ByteArray).data.toList = (0, 5) := by decide +kernel
theorem kn16 : tParse (⟨#[102, 97, 115, 116, 32, 102, 97, 115, 116]⟩ : ByteArray).data.toList = (0, 5) := by decide +kernel
theorem kn17 : tParse (⟨#[102, 97, 115, 116, 32, 32, 115, 119, 105, 102, 116]⟩ : ByteArray).data.toList = (0, 4) := by decide +kernel
theorem kn18 : tParse (⟨#[]⟩ : ByteArray).data.toList = (0, 4) := by decide +kernel
set_option maxRecDepth 100000 in
set_option maxHeartbeats 4000000 in
theorem awake_any (w : World) (L0 : LaidAt w) : Calls Tryd.prog 32 #[] w fun e w' => e = .returned (.bool true) ∧ w.grownBy w' none := by
  have G0 := grown_refl w none
  go_enter Tryd.func32, Tryd.ntmps32
  go_wp2_with fail
  refine (of_any _ _ L0.1).mono ?_
  rintro e w1 ⟨rfl, rfl⟩
  rw [kn1.1, kn1.2]
  go_wp2_with fail
  refine (parse_any _ (by decide) _ L0.1).mono ?_
  rintro e w1 ⟨rfl, g1⟩
  rw [kn2]
  have L1 := L0.keep g1
  have G1 := grown_trans G0 g1
  clear L0 G0 g1
  go_wp2_with fail
  refine (name_any _ _ L1.1).mono ?_
  rintro e w1 ⟨rfl, rfl⟩
  rw [show tName 3 = ⟨#[118, 101, 110, 111, 109]⟩ from rfl]
  go_wp2_with fail
  refine (home_any _ _ L1.2.1).mono ?_
  rintro e w1 ⟨rfl, rfl⟩
  rw [show tHome 5 = 4 from rfl]
  go_wp2_with fail
  refine (text_any _ _ L1).mono ?_
  rintro e w1 ⟨rfl, g1⟩
  rw [show tText 7 = ⟨#[102, 105, 120, 101, 100, 58, 32, 99, 97, 110, 110, 111, 116, 32, 115, 116, 114, 105, 107, 101, 32, 40, 103, 111, 108, 100, 41]⟩ from rfl]
  have L2 := L1.keep g1
  have G2 := grown_trans G1 g1
  clear L1 G1 g1
  go_wp2
  go_ret
  exact ⟨rfl, G2⟩
set_option maxRecDepth 100000 in
set_option maxHeartbeats 4000000 in
theorem known_any (w : World) (L0 : LaidAt w) : Calls Tryd.prog 8 #[] w fun e w' => e = .returned (.bool true) ∧ w.grownBy w' none := by
  have G0 := grown_refl w none
  go_enter Tryd.func8, Tryd.ntmps8
  go_wp2_with fail
  refine (of_any _ _ L0.1).mono ?_
  rintro e w1 ⟨rfl, rfl⟩
  rw [kn3.1, kn3.2]
  go_wp2_with fail
  refine (with_any _ _ _).mono ?_
  rintro e w1 ⟨rfl, rfl⟩
  rw [kn4]
  go_wp2_with fail
  refine (with_any _ _ _).mono ?_
  rintro e w1 ⟨rfl, rfl⟩
  rw [kn5]
  go_wp2_with fail
  refine (without_any _ _ _).mono ?_
  rintro e w1 ⟨rfl, rfl⟩
  rw [kn6]
  go_wp2_with fail
  refine (with_any _ _ _).mono ?_
  rintro e w1 ⟨rfl, rfl⟩
  rw [kn7]
  go_wp2_with fail
  refine (has_any _ _ _).mono ?_
  rintro e w1 ⟨rfl, rfl⟩
  rw [kn8]
  go_wp2_with fail
  refine (check_any _ _).mono ?_
  rintro e w1 ⟨rfl, rfl⟩
  rw [kn9]
  go_wp2_with fail
  refine (check_any _ _).mono ?_
  rintro e w1 ⟨rfl, rfl⟩
  rw [kn10]
  go_wp2_with fail
  refine (print_any _ _ L0.1).mono ?_
  rintro e w1 ⟨rfl, g1⟩
  rw [kn11]
  have L1 := L0.keep g1
  have G1 := grown_trans G0 g1
  clear L0 G0 g1
  go_wp2_with fail
  refine (print_any _ _ L1.1).mono ?_
  rintro e w1 ⟨rfl, g1⟩
  rw [kn12]
  have L2 := L1.keep g1
  have G2 := grown_trans G1 g1
  clear L1 G1 g1
  go_wp2_with fail
  refine (print_any _ _ L2.1).mono ?_
  rintro e w1 ⟨rfl, g1⟩
  rw [kn13]
  have L3 := L2.keep g1
  have G3 := grown_trans G2 g1
  clear L2 G2 g1
  go_wp2_with fail
  refine (parse_any _ (by decide) _ L3.1).mono ?_
  rintro e w1 ⟨rfl, g1⟩
  rw [kn14]
  have L4 := L3.keep g1
  have G4 := grown_trans G3 g1
  clear L3 G3 g1
  go_wp2_with fail
  refine (parse_any _ (by decide) _ L4.1).mono ?_
  rintro e w1 ⟨rfl, g1⟩
  rw [kn15]
  have L5 := L4.keep g1
  have G5 := grown_trans G4 g1
  clear L4 G4 g1
  go_wp2_with fail
  refine (parse_any _ (by decide) _ L5.1).mono ?_
  rintro e w1 ⟨rfl, g1⟩
  rw [kn16]
  have L6 := L5.keep g1
  have G6 := grown_trans G5 g1
  clear L5 G5 g1
  go_wp2_with fail
  refine (parse_any _ (by decide) _ L6.1).mono ?_
  rintro e w1 ⟨rfl, g1⟩
  rw [kn17]
  have L7 := L6.keep g1
  have G7 := grown_trans G6 g1
  clear L6 G6 g1
  go_wp2_with fail
  refine (parse_any _ (by decide) _ L7.1).mono ?_
  rintro e w1 ⟨rfl, g1⟩
  rw [kn18]
  have L8 := L7.keep g1
  have G8 := grown_trans G7 g1
  clear L7 G7 g1
  go_wp2_with fail
  refine (awake_any _ L8).mono ?_
  rintro e w1 ⟨rfl, g1⟩
  have L9 := L8.keep g1
  have G9 := grown_trans G8 g1
  clear L8 G8 g1
  go_wp2
  go_ret
  exact ⟨rfl, G9⟩
end Go.Proofs.YtpnbblimmkdaiaaDoor
