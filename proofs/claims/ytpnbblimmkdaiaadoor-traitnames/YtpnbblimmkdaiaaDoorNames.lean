/-
  TraitNames, walked: eight traits, eight names, eight texts, all unlike; each text tells the name and the home; no other number has one.
-/
import Derived.Test.YtpnbblimmkdaiaaDoorKnown
namespace Go.Proofs.YtpnbblimmkdaiaaDoor
open Go.RowKit

theorem nm_at_1 : oI (⟨#[102, 97, 115, 116]⟩ : ByteArray).toList = 1 ∧ oB (⟨#[102, 97, 115, 116]⟩ : ByteArray).toList = true := by rw [Lib.toList_data]; decide +kernel
theorem nm_at_2 : oI (⟨#[103, 117, 97, 114, 100]⟩ : ByteArray).toList = 2 ∧ oB (⟨#[103, 117, 97, 114, 100]⟩ : ByteArray).toList = true := by rw [Lib.toList_data]; decide +kernel
theorem nm_at_3 : oI (⟨#[118, 101, 110, 111, 109]⟩ : ByteArray).toList = 3 ∧ oB (⟨#[118, 101, 110, 111, 109]⟩ : ByteArray).toList = true := by rw [Lib.toList_data]; decide +kernel
theorem nm_at_4 : oI (⟨#[108, 111, 110, 101]⟩ : ByteArray).toList = 4 ∧ oB (⟨#[108, 111, 110, 101]⟩ : ByteArray).toList = true := by rw [Lib.toList_data]; decide +kernel
theorem nm_at_5 : oI (⟨#[100, 114, 97, 105, 110]⟩ : ByteArray).toList = 5 ∧ oB (⟨#[100, 114, 97, 105, 110]⟩ : ByteArray).toList = true := by rw [Lib.toList_data]; decide +kernel
theorem nm_at_6 : oI (⟨#[109, 117, 116, 101]⟩ : ByteArray).toList = 6 ∧ oB (⟨#[109, 117, 116, 101]⟩ : ByteArray).toList = true := by rw [Lib.toList_data]; decide +kernel
theorem nm_at_7 : oI (⟨#[102, 105, 120, 101, 100]⟩ : ByteArray).toList = 7 ∧ oB (⟨#[102, 105, 120, 101, 100]⟩ : ByteArray).toList = true := by rw [Lib.toList_data]; decide +kernel
theorem nm_at_8 : oI (⟨#[115, 119, 105, 102, 116]⟩ : ByteArray).toList = 8 ∧ oB (⟨#[115, 119, 105, 102, 116]⟩ : ByteArray).toList = true := by rw [Lib.toList_data]; decide +kernel
theorem apart_2 (u : Nat) (h1 : 1 ≤ u) (h2 : u < 2) : ((tText (u : Int)).toList == [103, 117, 97, 114, 100, 58, 32, 105, 115, 32, 115, 116, 114, 117, 99, 107, 32, 97, 104, 101, 97, 100, 32, 111, 102, 32, 97, 108, 108, 32, 116, 104, 97, 116, 32, 105, 115, 32, 110, 111, 32, 103, 117, 97, 114, 100, 32, 40, 101, 97, 114, 116, 104, 41]) = false ∧ ((tName (u : Int)).toList == [103, 117, 97, 114, 100]) = false := by
  rw [Lib.toList_data, Lib.toList_data]
  rcases (show u = 1 from by omega) with rfl <;> decide +kernel
theorem apart_3 (u : Nat) (h1 : 1 ≤ u) (h2 : u < 3) : ((tText (u : Int)).toList == [118, 101, 110, 111, 109, 58, 32, 119, 104, 97, 116, 101, 118, 101, 114, 32, 105, 116, 32, 104, 97, 114, 109, 115, 32, 98, 114, 101, 97, 107, 115, 32, 40, 102, 105, 114, 101, 41]) = false ∧ ((tName (u : Int)).toList == [118, 101, 110, 111, 109]) = false := by
  rw [Lib.toList_data, Lib.toList_data]
  rcases (show u = 1 ∨ u = 2 from by omega) with rfl | rfl <;> decide +kernel
theorem apart_4 (u : Nat) (h1 : 1 ≤ u) (h2 : u < 4) : ((tText (u : Int)).toList == [108, 111, 110, 101, 58, 32, 99, 97, 110, 110, 111, 116, 32, 98, 101, 32, 109, 101, 97, 110, 116, 32, 98, 121, 32, 116, 104, 101, 32, 102, 111, 101, 32, 40, 119, 97, 116, 101, 114, 41]) = false ∧ ((tName (u : Int)).toList == [108, 111, 110, 101]) = false := by
  rw [Lib.toList_data, Lib.toList_data]
  rcases (show u = 1 ∨ u = 2 ∨ u = 3 from by omega) with rfl | rfl | rfl <;> decide +kernel
theorem apart_5 (u : Nat) (h1 : 1 ≤ u) (h2 : u < 5) : ((tText (u : Int)).toList == [100, 114, 97, 105, 110, 58, 32, 119, 104, 97, 116, 32, 105, 116, 32, 104, 97, 114, 109, 115, 32, 109, 101, 110, 100, 115, 32, 105, 116, 115, 32, 104, 111, 108, 100, 101, 114, 32, 40, 119, 97, 116, 101, 114, 41]) = false ∧ ((tName (u : Int)).toList == [100, 114, 97, 105, 110]) = false := by
  rw [Lib.toList_data, Lib.toList_data]
  rcases (show u = 1 ∨ u = 2 ∨ u = 3 ∨ u = 4 from by omega) with rfl | rfl | rfl | rfl <;> decide +kernel
theorem apart_6 (u : Nat) (h1 : 1 ≤ u) (h2 : u < 6) : ((tText (u : Int)).toList == [109, 117, 116, 101, 58, 32, 105, 116, 115, 32, 99, 97, 114, 100, 39, 115, 32, 112, 97, 114, 116, 115, 32, 99, 111, 117, 110, 116, 32, 102, 111, 114, 32, 110, 111, 116, 104, 105, 110, 103, 32, 40, 118, 111, 105, 100, 41]) = false ∧ ((tName (u : Int)).toList == [109, 117, 116, 101]) = false := by
  rw [Lib.toList_data, Lib.toList_data]
  rcases (show u = 1 ∨ u = 2 ∨ u = 3 ∨ u = 4 ∨ u = 5 from by omega) with rfl | rfl | rfl | rfl | rfl <;> decide +kernel
theorem apart_7 (u : Nat) (h1 : 1 ≤ u) (h2 : u < 7) : ((tText (u : Int)).toList == [102, 105, 120, 101, 100, 58, 32, 99, 97, 110, 110, 111, 116, 32, 115, 116, 114, 105, 107, 101, 32, 40, 103, 111, 108, 100, 41]) = false ∧ ((tName (u : Int)).toList == [102, 105, 120, 101, 100]) = false := by
  rw [Lib.toList_data, Lib.toList_data]
  rcases (show u = 1 ∨ u = 2 ∨ u = 3 ∨ u = 4 ∨ u = 5 ∨ u = 6 from by omega) with rfl | rfl | rfl | rfl | rfl | rfl <;> decide +kernel
theorem apart_8 (u : Nat) (h1 : 1 ≤ u) (h2 : u < 8) : ((tText (u : Int)).toList == [115, 119, 105, 102, 116, 58, 32, 115, 116, 114, 105, 107, 101, 115, 32, 97, 32, 115, 101, 99, 111, 110, 100, 32, 116, 105, 109, 101, 32, 101, 97, 99, 104, 32, 116, 117, 114, 110, 32, 40, 97, 105, 114, 41]) = false ∧ ((tName (u : Int)).toList == [115, 119, 105, 102, 116]) = false := by
  rw [Lib.toList_data, Lib.toList_data]
  rcases (show u = 1 ∨ u = 2 ∨ u = 3 ∨ u = 4 ∨ u = 5 ∨ u = 6 ∨ u = 7 from by omega) with rfl | rfl | rfl | rfl | rfl | rfl | rfl <;> decide +kernel
set_option maxRecDepth 100000 in
set_option maxHeartbeats 8000000 in
theorem names_any (w : World) (L : LaidAt w) : Calls Tryd.prog 7 #[] w fun e w' => e = .returned (.bool true) ∧ w.grownBy w' none := by
  go_enter Tryd.func7, Tryd.ntmps7
  go_wp2_with fail
  go_loopw [1] (fun v wr => ∃ (t : Nat), t ≤ 256 ∧ v = .int .i64 t ∧ w.grownBy wr none)
    (fun v _ => 256 - (intOf v).toNat)
  case atStart => exact ⟨0, by omega, rfl, grown_refl _ _⟩
  case round =>
    obtain ⟨t, ht, rfl, G⟩ := hrel
    have LR := L.keep G
    rcases (show t = 256 ∨ (t = 0 ∨ 8 < t) ∧ t < 256 ∨ t = 1 ∨ t = 2 ∨ t = 3 ∨ t = 4 ∨ t = 5 ∨ t = 6 ∨ t = 7 ∨ t = 8 from by omega) with rfl | ⟨h0, hlt⟩ | rfl | rfl | rfl | rfl | rfl | rfl | rfl | rfl
    · go_wp2_with fail
      refine (awake_any _ LR).mono ?_
      rintro e w1 ⟨rfl, g1⟩
      go_wp2
      go_ret
      exact ⟨rfl, grown_trans G g1⟩
    · have hlt' : (t : Int) < 256 := by omega
      have hw : IntKind.u8.wrap (t : Int) = (t : Int) := by rw [IntKind.wrap_u8]; omega
      have hw2 : wrap64 ((t : Int) + 1) = (t : Int) + 1 := by unfold wrap64; omega
      obtain ⟨en, eh, et, _⟩ := eight_no (t : Int) (by omega)
      have EN : Hid (tName (t : Int) = ⟨#[]⟩) := en
      have EH : Hid (tHome (t : Int) = 0) := eh
      have ET : Hid (tText (t : Int) = ⟨#[]⟩) := et
      clear en eh et
      go_wp2_with fail
      refine (name_any _ _ LR.1).mono ?_
      rintro e w1 ⟨rfl, rfl⟩
      rw [EN.out]
      go_wp2_with fail
      refine (text_any _ _ LR).mono ?_
      rintro e w2 ⟨rfl, g2⟩
      rw [ET.out]
      have L2 := LR.keep g2
      have G2 := grown_trans G g2
      clear LR g2 G
      rcases h0 with rfl | h8
      · go_wp2_with fail
        refine (home_any _ _ L2.2.1).mono ?_
        rintro e w3 ⟨rfl, rfl⟩
        rw [show tHome 0 = 0 from rfl]
        go_wp2_with fail
        go_roundw
        case rel => exact ⟨1, by omega, by go_num, G2⟩
        case measure => simp [intOf]
      · have h1 : ¬ (t : Int) < 1 := by omega
        have h8' : (8 : Int) < (t : Int) := by omega
        go_wp2_with fail
        refine (home_any _ _ L2.2.1).mono ?_
        rintro e w3 ⟨rfl, rfl⟩
        rw [EH.out]
        go_wp2_with fail
        go_roundw
        case rel => exact ⟨t + 1, by omega, by go_num, G2⟩
        case measure => simp [intOf]; omega
    · go_wp2_with fail
      refine (name_any _ _ LR.1).mono ?_
      rintro e w1 ⟨rfl, rfl⟩
      rw [show tName 1 = ⟨#[102, 97, 115, 116]⟩ from rfl]
      go_wp2_with fail
      refine (text_any _ _ LR).mono ?_
      rintro e w2 ⟨rfl, g2⟩
      rw [show tText 1 = ⟨#[102, 97, 115, 116, 58, 32, 109, 97, 121, 32, 115, 116, 114, 105, 107, 101, 32, 111, 110, 32, 116, 104, 101, 32, 116, 117, 114, 110, 32, 111, 110, 32, 119, 104, 105, 99, 104, 32, 105, 116, 32, 99, 97, 109, 101, 32, 40, 97, 105, 114, 41]⟩ from rfl]
      have L2 := LR.keep g2
      have G2 := grown_trans G g2
      clear LR g2 G
      go_wp2_with fail
      refine (of_any _ _ L2.1).mono ?_
      rintro e w3 ⟨rfl, rfl⟩
      rw [nm_at_1.1, nm_at_1.2]
      go_wp2_with fail
      refine (home_any _ _ L2.2.1).mono ?_
      rintro e w3 ⟨rfl, rfl⟩
      rw [show tHome 1 = 1 from rfl]
      go_wp2_with fail
      refine (suitName_six 1 _ L2.2.2.2 (by decide)).mono ?_
      rintro e w3 ⟨rfl, rfl⟩
      rw [show suitName 1 = ⟨#[97, 105, 114]⟩ from rfl]
      have hcat : (⟨#[32, 40]⟩ : ByteArray) ++ ⟨#[97, 105, 114]⟩ ++ ⟨#[41]⟩ = ⟨#[32, 40, 97, 105, 114, 41]⟩ := by kernel_rfl
      have hcol : (⟨#[102, 97, 115, 116]⟩ : ByteArray) ++ ⟨#[58, 32]⟩ = ⟨#[102, 97, 115, 116, 58, 32]⟩ := by kernel_rfl
      have hex1 : (⟨#[102, 97, 115, 116, 58, 32, 109, 97, 121, 32, 115, 116, 114, 105, 107, 101, 32, 111, 110, 32, 116, 104, 101, 32, 116, 117, 114, 110, 32, 111, 110, 32, 119, 104, 105, 99, 104, 32, 105, 116, 32, 99, 97, 109, 101, 32, 40, 97, 105, 114, 41]⟩ : ByteArray).extract 0 6 = ⟨#[102, 97, 115, 116, 58, 32]⟩ := by kernel_rfl
      have hex2 : (⟨#[102, 97, 115, 116, 58, 32, 109, 97, 121, 32, 115, 116, 114, 105, 107, 101, 32, 111, 110, 32, 116, 104, 101, 32, 116, 117, 114, 110, 32, 111, 110, 32, 119, 104, 105, 99, 104, 32, 105, 116, 32, 99, 97, 109, 101, 32, 40, 97, 105, 114, 41]⟩ : ByteArray).extract 45 51 = ⟨#[32, 40, 97, 105, 114, 41]⟩ := by kernel_rfl
      go_wp2_with fail
      go_loopw [8] (fun v wr => v = .int .i64 1 ∧ w.grownBy wr none) (fun _ _ => 0)
      case atStart => exact ⟨rfl, G2⟩
      case round =>
        obtain ⟨rfl, G3⟩ := hrel
        go_wp2_with fail
        go_roundw
        case rel => exact ⟨2, by omega, by go_num, G3⟩
        case measure => simp [intOf]
    · go_wp2_with fail
      refine (name_any _ _ LR.1).mono ?_
      rintro e w1 ⟨rfl, rfl⟩
      rw [show tName 2 = ⟨#[103, 117, 97, 114, 100]⟩ from rfl]
      go_wp2_with fail
      refine (text_any _ _ LR).mono ?_
      rintro e w2 ⟨rfl, g2⟩
      rw [show tText 2 = ⟨#[103, 117, 97, 114, 100, 58, 32, 105, 115, 32, 115, 116, 114, 117, 99, 107, 32, 97, 104, 101, 97, 100, 32, 111, 102, 32, 97, 108, 108, 32, 116, 104, 97, 116, 32, 105, 115, 32, 110, 111, 32, 103, 117, 97, 114, 100, 32, 40, 101, 97, 114, 116, 104, 41]⟩ from rfl]
      have L2 := LR.keep g2
      have G2 := grown_trans G g2
      clear LR g2 G
      go_wp2_with fail
      refine (of_any _ _ L2.1).mono ?_
      rintro e w3 ⟨rfl, rfl⟩
      rw [nm_at_2.1, nm_at_2.2]
      go_wp2_with fail
      refine (home_any _ _ L2.2.1).mono ?_
      rintro e w3 ⟨rfl, rfl⟩
      rw [show tHome 2 = 2 from rfl]
      go_wp2_with fail
      refine (suitName_six 2 _ L2.2.2.2 (by decide)).mono ?_
      rintro e w3 ⟨rfl, rfl⟩
      rw [show suitName 2 = ⟨#[101, 97, 114, 116, 104]⟩ from rfl]
      have hcat : (⟨#[32, 40]⟩ : ByteArray) ++ ⟨#[101, 97, 114, 116, 104]⟩ ++ ⟨#[41]⟩ = ⟨#[32, 40, 101, 97, 114, 116, 104, 41]⟩ := by kernel_rfl
      have hcol : (⟨#[103, 117, 97, 114, 100]⟩ : ByteArray) ++ ⟨#[58, 32]⟩ = ⟨#[103, 117, 97, 114, 100, 58, 32]⟩ := by kernel_rfl
      have hex1 : (⟨#[103, 117, 97, 114, 100, 58, 32, 105, 115, 32, 115, 116, 114, 117, 99, 107, 32, 97, 104, 101, 97, 100, 32, 111, 102, 32, 97, 108, 108, 32, 116, 104, 97, 116, 32, 105, 115, 32, 110, 111, 32, 103, 117, 97, 114, 100, 32, 40, 101, 97, 114, 116, 104, 41]⟩ : ByteArray).extract 0 7 = ⟨#[103, 117, 97, 114, 100, 58, 32]⟩ := by kernel_rfl
      have hex2 : (⟨#[103, 117, 97, 114, 100, 58, 32, 105, 115, 32, 115, 116, 114, 117, 99, 107, 32, 97, 104, 101, 97, 100, 32, 111, 102, 32, 97, 108, 108, 32, 116, 104, 97, 116, 32, 105, 115, 32, 110, 111, 32, 103, 117, 97, 114, 100, 32, 40, 101, 97, 114, 116, 104, 41]⟩ : ByteArray).extract 46 54 = ⟨#[32, 40, 101, 97, 114, 116, 104, 41]⟩ := by kernel_rfl
      go_wp2_with fail
      clear L2
      go_loopw [8] (fun v wr => ∃ (u : Nat), 1 ≤ u ∧ u ≤ 2 ∧ v = .int .i64 u ∧ w.grownBy wr none) (fun v _ => 2 - (intOf v).toNat)
      case atStart => exact ⟨1, by omega, by omega, rfl, G2⟩
      case round =>
        obtain ⟨u, hu1, hu2, rfl, G3⟩ := hrel
        rcases (show u = 2 ∨ u < 2 from by omega) with rfl | hlt
        · go_wp2_with fail
          go_roundw
          case rel => exact ⟨3, by omega, by go_num, G3⟩
          case measure => simp [intOf]
        · have hlt' : (u : Int) < 2 := by omega
          have hw : IntKind.u8.wrap (u : Int) = (u : Int) := by rw [IntKind.wrap_u8]; omega
          have hw2 : wrap64 ((u : Int) + 1) = (u : Int) + 1 := by unfold wrap64; omega
          obtain ⟨a1, a2⟩ := apart_2 u hu1 hlt
          have L3 := L.keep G3
          go_wp2_with fail
          refine (text_any _ _ L3).mono ?_
          rintro e w4 ⟨rfl, g4⟩
          have L4 := L3.keep g4
          have G4 := grown_trans G3 g4
          clear L3 g4 G3
          go_wp2_with fail
          refine (name_any _ _ L4.1).mono ?_
          rintro e w5 ⟨rfl, rfl⟩
          go_wp2_with fail
          go_roundw
          case rel => exact ⟨u + 1, by omega, by omega, by go_num, G4⟩
          case measure => simp [intOf]; omega
    · go_wp2_with fail
      refine (name_any _ _ LR.1).mono ?_
      rintro e w1 ⟨rfl, rfl⟩
      rw [show tName 3 = ⟨#[118, 101, 110, 111, 109]⟩ from rfl]
      go_wp2_with fail
      refine (text_any _ _ LR).mono ?_
      rintro e w2 ⟨rfl, g2⟩
      rw [show tText 3 = ⟨#[118, 101, 110, 111, 109, 58, 32, 119, 104, 97, 116, 101, 118, 101, 114, 32, 105, 116, 32, 104, 97, 114, 109, 115, 32, 98, 114, 101, 97, 107, 115, 32, 40, 102, 105, 114, 101, 41]⟩ from rfl]
      have L2 := LR.keep g2
      have G2 := grown_trans G g2
      clear LR g2 G
      go_wp2_with fail
      refine (of_any _ _ L2.1).mono ?_
      rintro e w3 ⟨rfl, rfl⟩
      rw [nm_at_3.1, nm_at_3.2]
      go_wp2_with fail
      refine (home_any _ _ L2.2.1).mono ?_
      rintro e w3 ⟨rfl, rfl⟩
      rw [show tHome 3 = 3 from rfl]
      go_wp2_with fail
      refine (suitName_six 3 _ L2.2.2.2 (by decide)).mono ?_
      rintro e w3 ⟨rfl, rfl⟩
      rw [show suitName 3 = ⟨#[102, 105, 114, 101]⟩ from rfl]
      have hcat : (⟨#[32, 40]⟩ : ByteArray) ++ ⟨#[102, 105, 114, 101]⟩ ++ ⟨#[41]⟩ = ⟨#[32, 40, 102, 105, 114, 101, 41]⟩ := by kernel_rfl
      have hcol : (⟨#[118, 101, 110, 111, 109]⟩ : ByteArray) ++ ⟨#[58, 32]⟩ = ⟨#[118, 101, 110, 111, 109, 58, 32]⟩ := by kernel_rfl
      have hex1 : (⟨#[118, 101, 110, 111, 109, 58, 32, 119, 104, 97, 116, 101, 118, 101, 114, 32, 105, 116, 32, 104, 97, 114, 109, 115, 32, 98, 114, 101, 97, 107, 115, 32, 40, 102, 105, 114, 101, 41]⟩ : ByteArray).extract 0 7 = ⟨#[118, 101, 110, 111, 109, 58, 32]⟩ := by kernel_rfl
      have hex2 : (⟨#[118, 101, 110, 111, 109, 58, 32, 119, 104, 97, 116, 101, 118, 101, 114, 32, 105, 116, 32, 104, 97, 114, 109, 115, 32, 98, 114, 101, 97, 107, 115, 32, 40, 102, 105, 114, 101, 41]⟩ : ByteArray).extract 31 38 = ⟨#[32, 40, 102, 105, 114, 101, 41]⟩ := by kernel_rfl
      go_wp2_with fail
      clear L2
      go_loopw [8] (fun v wr => ∃ (u : Nat), 1 ≤ u ∧ u ≤ 3 ∧ v = .int .i64 u ∧ w.grownBy wr none) (fun v _ => 3 - (intOf v).toNat)
      case atStart => exact ⟨1, by omega, by omega, rfl, G2⟩
      case round =>
        obtain ⟨u, hu1, hu2, rfl, G3⟩ := hrel
        rcases (show u = 3 ∨ u < 3 from by omega) with rfl | hlt
        · go_wp2_with fail
          go_roundw
          case rel => exact ⟨4, by omega, by go_num, G3⟩
          case measure => simp [intOf]
        · have hlt' : (u : Int) < 3 := by omega
          have hw : IntKind.u8.wrap (u : Int) = (u : Int) := by rw [IntKind.wrap_u8]; omega
          have hw2 : wrap64 ((u : Int) + 1) = (u : Int) + 1 := by unfold wrap64; omega
          obtain ⟨a1, a2⟩ := apart_3 u hu1 hlt
          have L3 := L.keep G3
          go_wp2_with fail
          refine (text_any _ _ L3).mono ?_
          rintro e w4 ⟨rfl, g4⟩
          have L4 := L3.keep g4
          have G4 := grown_trans G3 g4
          clear L3 g4 G3
          go_wp2_with fail
          refine (name_any _ _ L4.1).mono ?_
          rintro e w5 ⟨rfl, rfl⟩
          go_wp2_with fail
          go_roundw
          case rel => exact ⟨u + 1, by omega, by omega, by go_num, G4⟩
          case measure => simp [intOf]; omega
    · go_wp2_with fail
      refine (name_any _ _ LR.1).mono ?_
      rintro e w1 ⟨rfl, rfl⟩
      rw [show tName 4 = ⟨#[108, 111, 110, 101]⟩ from rfl]
      go_wp2_with fail
      refine (text_any _ _ LR).mono ?_
      rintro e w2 ⟨rfl, g2⟩
      rw [show tText 4 = ⟨#[108, 111, 110, 101, 58, 32, 99, 97, 110, 110, 111, 116, 32, 98, 101, 32, 109, 101, 97, 110, 116, 32, 98, 121, 32, 116, 104, 101, 32, 102, 111, 101, 32, 40, 119, 97, 116, 101, 114, 41]⟩ from rfl]
      have L2 := LR.keep g2
      have G2 := grown_trans G g2
      clear LR g2 G
      go_wp2_with fail
      refine (of_any _ _ L2.1).mono ?_
      rintro e w3 ⟨rfl, rfl⟩
      rw [nm_at_4.1, nm_at_4.2]
      go_wp2_with fail
      refine (home_any _ _ L2.2.1).mono ?_
      rintro e w3 ⟨rfl, rfl⟩
      rw [show tHome 4 = 4 from rfl]
      go_wp2_with fail
      refine (suitName_six 4 _ L2.2.2.2 (by decide)).mono ?_
      rintro e w3 ⟨rfl, rfl⟩
      rw [show suitName 4 = ⟨#[119, 97, 116, 101, 114]⟩ from rfl]
      have hcat : (⟨#[32, 40]⟩ : ByteArray) ++ ⟨#[119, 97, 116, 101, 114]⟩ ++ ⟨#[41]⟩ = ⟨#[32, 40, 119, 97, 116, 101, 114, 41]⟩ := by kernel_rfl
      have hcol : (⟨#[108, 111, 110, 101]⟩ : ByteArray) ++ ⟨#[58, 32]⟩ = ⟨#[108, 111, 110, 101, 58, 32]⟩ := by kernel_rfl
      have hex1 : (⟨#[108, 111, 110, 101, 58, 32, 99, 97, 110, 110, 111, 116, 32, 98, 101, 32, 109, 101, 97, 110, 116, 32, 98, 121, 32, 116, 104, 101, 32, 102, 111, 101, 32, 40, 119, 97, 116, 101, 114, 41]⟩ : ByteArray).extract 0 6 = ⟨#[108, 111, 110, 101, 58, 32]⟩ := by kernel_rfl
      have hex2 : (⟨#[108, 111, 110, 101, 58, 32, 99, 97, 110, 110, 111, 116, 32, 98, 101, 32, 109, 101, 97, 110, 116, 32, 98, 121, 32, 116, 104, 101, 32, 102, 111, 101, 32, 40, 119, 97, 116, 101, 114, 41]⟩ : ByteArray).extract 32 40 = ⟨#[32, 40, 119, 97, 116, 101, 114, 41]⟩ := by kernel_rfl
      go_wp2_with fail
      clear L2
      go_loopw [8] (fun v wr => ∃ (u : Nat), 1 ≤ u ∧ u ≤ 4 ∧ v = .int .i64 u ∧ w.grownBy wr none) (fun v _ => 4 - (intOf v).toNat)
      case atStart => exact ⟨1, by omega, by omega, rfl, G2⟩
      case round =>
        obtain ⟨u, hu1, hu2, rfl, G3⟩ := hrel
        rcases (show u = 4 ∨ u < 4 from by omega) with rfl | hlt
        · go_wp2_with fail
          go_roundw
          case rel => exact ⟨5, by omega, by go_num, G3⟩
          case measure => simp [intOf]
        · have hlt' : (u : Int) < 4 := by omega
          have hw : IntKind.u8.wrap (u : Int) = (u : Int) := by rw [IntKind.wrap_u8]; omega
          have hw2 : wrap64 ((u : Int) + 1) = (u : Int) + 1 := by unfold wrap64; omega
          obtain ⟨a1, a2⟩ := apart_4 u hu1 hlt
          have L3 := L.keep G3
          go_wp2_with fail
          refine (text_any _ _ L3).mono ?_
          rintro e w4 ⟨rfl, g4⟩
          have L4 := L3.keep g4
          have G4 := grown_trans G3 g4
          clear L3 g4 G3
          go_wp2_with fail
          refine (name_any _ _ L4.1).mono ?_
          rintro e w5 ⟨rfl, rfl⟩
          go_wp2_with fail
          go_roundw
          case rel => exact ⟨u + 1, by omega, by omega, by go_num, G4⟩
          case measure => simp [intOf]; omega
    · go_wp2_with fail
      refine (name_any _ _ LR.1).mono ?_
      rintro e w1 ⟨rfl, rfl⟩
      rw [show tName 5 = ⟨#[100, 114, 97, 105, 110]⟩ from rfl]
      go_wp2_with fail
      refine (text_any _ _ LR).mono ?_
      rintro e w2 ⟨rfl, g2⟩
      rw [show tText 5 = ⟨#[100, 114, 97, 105, 110, 58, 32, 119, 104, 97, 116, 32, 105, 116, 32, 104, 97, 114, 109, 115, 32, 109, 101, 110, 100, 115, 32, 105, 116, 115, 32, 104, 111, 108, 100, 101, 114, 32, 40, 119, 97, 116, 101, 114, 41]⟩ from rfl]
      have L2 := LR.keep g2
      have G2 := grown_trans G g2
      clear LR g2 G
      go_wp2_with fail
      refine (of_any _ _ L2.1).mono ?_
      rintro e w3 ⟨rfl, rfl⟩
      rw [nm_at_5.1, nm_at_5.2]
      go_wp2_with fail
      refine (home_any _ _ L2.2.1).mono ?_
      rintro e w3 ⟨rfl, rfl⟩
      rw [show tHome 5 = 4 from rfl]
      go_wp2_with fail
      refine (suitName_six 4 _ L2.2.2.2 (by decide)).mono ?_
      rintro e w3 ⟨rfl, rfl⟩
      rw [show suitName 4 = ⟨#[119, 97, 116, 101, 114]⟩ from rfl]
      have hcat : (⟨#[32, 40]⟩ : ByteArray) ++ ⟨#[119, 97, 116, 101, 114]⟩ ++ ⟨#[41]⟩ = ⟨#[32, 40, 119, 97, 116, 101, 114, 41]⟩ := by kernel_rfl
      have hcol : (⟨#[100, 114, 97, 105, 110]⟩ : ByteArray) ++ ⟨#[58, 32]⟩ = ⟨#[100, 114, 97, 105, 110, 58, 32]⟩ := by kernel_rfl
      have hex1 : (⟨#[100, 114, 97, 105, 110, 58, 32, 119, 104, 97, 116, 32, 105, 116, 32, 104, 97, 114, 109, 115, 32, 109, 101, 110, 100, 115, 32, 105, 116, 115, 32, 104, 111, 108, 100, 101, 114, 32, 40, 119, 97, 116, 101, 114, 41]⟩ : ByteArray).extract 0 7 = ⟨#[100, 114, 97, 105, 110, 58, 32]⟩ := by kernel_rfl
      have hex2 : (⟨#[100, 114, 97, 105, 110, 58, 32, 119, 104, 97, 116, 32, 105, 116, 32, 104, 97, 114, 109, 115, 32, 109, 101, 110, 100, 115, 32, 105, 116, 115, 32, 104, 111, 108, 100, 101, 114, 32, 40, 119, 97, 116, 101, 114, 41]⟩ : ByteArray).extract 37 45 = ⟨#[32, 40, 119, 97, 116, 101, 114, 41]⟩ := by kernel_rfl
      go_wp2_with fail
      clear L2
      go_loopw [8] (fun v wr => ∃ (u : Nat), 1 ≤ u ∧ u ≤ 5 ∧ v = .int .i64 u ∧ w.grownBy wr none) (fun v _ => 5 - (intOf v).toNat)
      case atStart => exact ⟨1, by omega, by omega, rfl, G2⟩
      case round =>
        obtain ⟨u, hu1, hu2, rfl, G3⟩ := hrel
        rcases (show u = 5 ∨ u < 5 from by omega) with rfl | hlt
        · go_wp2_with fail
          go_roundw
          case rel => exact ⟨6, by omega, by go_num, G3⟩
          case measure => simp [intOf]
        · have hlt' : (u : Int) < 5 := by omega
          have hw : IntKind.u8.wrap (u : Int) = (u : Int) := by rw [IntKind.wrap_u8]; omega
          have hw2 : wrap64 ((u : Int) + 1) = (u : Int) + 1 := by unfold wrap64; omega
          obtain ⟨a1, a2⟩ := apart_5 u hu1 hlt
          have L3 := L.keep G3
          go_wp2_with fail
          refine (text_any _ _ L3).mono ?_
          rintro e w4 ⟨rfl, g4⟩
          have L4 := L3.keep g4
          have G4 := grown_trans G3 g4
          clear L3 g4 G3
          go_wp2_with fail
          refine (name_any _ _ L4.1).mono ?_
          rintro e w5 ⟨rfl, rfl⟩
          go_wp2_with fail
          go_roundw
          case rel => exact ⟨u + 1, by omega, by omega, by go_num, G4⟩
          case measure => simp [intOf]; omega
    · go_wp2_with fail
      refine (name_any _ _ LR.1).mono ?_
      rintro e w1 ⟨rfl, rfl⟩
      rw [show tName 6 = ⟨#[109, 117, 116, 101]⟩ from rfl]
      go_wp2_with fail
      refine (text_any _ _ LR).mono ?_
      rintro e w2 ⟨rfl, g2⟩
      rw [show tText 6 = ⟨#[109, 117, 116, 101, 58, 32, 105, 116, 115, 32, 99, 97, 114, 100, 39, 115, 32, 112, 97, 114, 116, 115, 32, 99, 111, 117, 110, 116, 32, 102, 111, 114, 32, 110, 111, 116, 104, 105, 110, 103, 32, 40, 118, 111, 105, 100, 41]⟩ from rfl]
      have L2 := LR.keep g2
      have G2 := grown_trans G g2
      clear LR g2 G
      go_wp2_with fail
      refine (of_any _ _ L2.1).mono ?_
      rintro e w3 ⟨rfl, rfl⟩
      rw [nm_at_6.1, nm_at_6.2]
      go_wp2_with fail
      refine (home_any _ _ L2.2.1).mono ?_
      rintro e w3 ⟨rfl, rfl⟩
      rw [show tHome 6 = 5 from rfl]
      go_wp2_with fail
      refine (suitName_six 5 _ L2.2.2.2 (by decide)).mono ?_
      rintro e w3 ⟨rfl, rfl⟩
      rw [show suitName 5 = ⟨#[118, 111, 105, 100]⟩ from rfl]
      have hcat : (⟨#[32, 40]⟩ : ByteArray) ++ ⟨#[118, 111, 105, 100]⟩ ++ ⟨#[41]⟩ = ⟨#[32, 40, 118, 111, 105, 100, 41]⟩ := by kernel_rfl
      have hcol : (⟨#[109, 117, 116, 101]⟩ : ByteArray) ++ ⟨#[58, 32]⟩ = ⟨#[109, 117, 116, 101, 58, 32]⟩ := by kernel_rfl
      have hex1 : (⟨#[109, 117, 116, 101, 58, 32, 105, 116, 115, 32, 99, 97, 114, 100, 39, 115, 32, 112, 97, 114, 116, 115, 32, 99, 111, 117, 110, 116, 32, 102, 111, 114, 32, 110, 111, 116, 104, 105, 110, 103, 32, 40, 118, 111, 105, 100, 41]⟩ : ByteArray).extract 0 6 = ⟨#[109, 117, 116, 101, 58, 32]⟩ := by kernel_rfl
      have hex2 : (⟨#[109, 117, 116, 101, 58, 32, 105, 116, 115, 32, 99, 97, 114, 100, 39, 115, 32, 112, 97, 114, 116, 115, 32, 99, 111, 117, 110, 116, 32, 102, 111, 114, 32, 110, 111, 116, 104, 105, 110, 103, 32, 40, 118, 111, 105, 100, 41]⟩ : ByteArray).extract 40 47 = ⟨#[32, 40, 118, 111, 105, 100, 41]⟩ := by kernel_rfl
      go_wp2_with fail
      clear L2
      go_loopw [8] (fun v wr => ∃ (u : Nat), 1 ≤ u ∧ u ≤ 6 ∧ v = .int .i64 u ∧ w.grownBy wr none) (fun v _ => 6 - (intOf v).toNat)
      case atStart => exact ⟨1, by omega, by omega, rfl, G2⟩
      case round =>
        obtain ⟨u, hu1, hu2, rfl, G3⟩ := hrel
        rcases (show u = 6 ∨ u < 6 from by omega) with rfl | hlt
        · go_wp2_with fail
          go_roundw
          case rel => exact ⟨7, by omega, by go_num, G3⟩
          case measure => simp [intOf]
        · have hlt' : (u : Int) < 6 := by omega
          have hw : IntKind.u8.wrap (u : Int) = (u : Int) := by rw [IntKind.wrap_u8]; omega
          have hw2 : wrap64 ((u : Int) + 1) = (u : Int) + 1 := by unfold wrap64; omega
          obtain ⟨a1, a2⟩ := apart_6 u hu1 hlt
          have L3 := L.keep G3
          go_wp2_with fail
          refine (text_any _ _ L3).mono ?_
          rintro e w4 ⟨rfl, g4⟩
          have L4 := L3.keep g4
          have G4 := grown_trans G3 g4
          clear L3 g4 G3
          go_wp2_with fail
          refine (name_any _ _ L4.1).mono ?_
          rintro e w5 ⟨rfl, rfl⟩
          go_wp2_with fail
          go_roundw
          case rel => exact ⟨u + 1, by omega, by omega, by go_num, G4⟩
          case measure => simp [intOf]; omega
    · go_wp2_with fail
      refine (name_any _ _ LR.1).mono ?_
      rintro e w1 ⟨rfl, rfl⟩
      rw [show tName 7 = ⟨#[102, 105, 120, 101, 100]⟩ from rfl]
      go_wp2_with fail
      refine (text_any _ _ LR).mono ?_
      rintro e w2 ⟨rfl, g2⟩
      rw [show tText 7 = ⟨#[102, 105, 120, 101, 100, 58, 32, 99, 97, 110, 110, 111, 116, 32, 115, 116, 114, 105, 107, 101, 32, 40, 103, 111, 108, 100, 41]⟩ from rfl]
      have L2 := LR.keep g2
      have G2 := grown_trans G g2
      clear LR g2 G
      go_wp2_with fail
      refine (of_any _ _ L2.1).mono ?_
      rintro e w3 ⟨rfl, rfl⟩
      rw [nm_at_7.1, nm_at_7.2]
      go_wp2_with fail
      refine (home_any _ _ L2.2.1).mono ?_
      rintro e w3 ⟨rfl, rfl⟩
      rw [show tHome 7 = 6 from rfl]
      go_wp2_with fail
      refine (suitName_six 6 _ L2.2.2.2 (by decide)).mono ?_
      rintro e w3 ⟨rfl, rfl⟩
      rw [show suitName 6 = ⟨#[103, 111, 108, 100]⟩ from rfl]
      have hcat : (⟨#[32, 40]⟩ : ByteArray) ++ ⟨#[103, 111, 108, 100]⟩ ++ ⟨#[41]⟩ = ⟨#[32, 40, 103, 111, 108, 100, 41]⟩ := by kernel_rfl
      have hcol : (⟨#[102, 105, 120, 101, 100]⟩ : ByteArray) ++ ⟨#[58, 32]⟩ = ⟨#[102, 105, 120, 101, 100, 58, 32]⟩ := by kernel_rfl
      have hex1 : (⟨#[102, 105, 120, 101, 100, 58, 32, 99, 97, 110, 110, 111, 116, 32, 115, 116, 114, 105, 107, 101, 32, 40, 103, 111, 108, 100, 41]⟩ : ByteArray).extract 0 7 = ⟨#[102, 105, 120, 101, 100, 58, 32]⟩ := by kernel_rfl
      have hex2 : (⟨#[102, 105, 120, 101, 100, 58, 32, 99, 97, 110, 110, 111, 116, 32, 115, 116, 114, 105, 107, 101, 32, 40, 103, 111, 108, 100, 41]⟩ : ByteArray).extract 20 27 = ⟨#[32, 40, 103, 111, 108, 100, 41]⟩ := by kernel_rfl
      go_wp2_with fail
      clear L2
      go_loopw [8] (fun v wr => ∃ (u : Nat), 1 ≤ u ∧ u ≤ 7 ∧ v = .int .i64 u ∧ w.grownBy wr none) (fun v _ => 7 - (intOf v).toNat)
      case atStart => exact ⟨1, by omega, by omega, rfl, G2⟩
      case round =>
        obtain ⟨u, hu1, hu2, rfl, G3⟩ := hrel
        rcases (show u = 7 ∨ u < 7 from by omega) with rfl | hlt
        · go_wp2_with fail
          go_roundw
          case rel => exact ⟨8, by omega, by go_num, G3⟩
          case measure => simp [intOf]
        · have hlt' : (u : Int) < 7 := by omega
          have hw : IntKind.u8.wrap (u : Int) = (u : Int) := by rw [IntKind.wrap_u8]; omega
          have hw2 : wrap64 ((u : Int) + 1) = (u : Int) + 1 := by unfold wrap64; omega
          obtain ⟨a1, a2⟩ := apart_7 u hu1 hlt
          have L3 := L.keep G3
          go_wp2_with fail
          refine (text_any _ _ L3).mono ?_
          rintro e w4 ⟨rfl, g4⟩
          have L4 := L3.keep g4
          have G4 := grown_trans G3 g4
          clear L3 g4 G3
          go_wp2_with fail
          refine (name_any _ _ L4.1).mono ?_
          rintro e w5 ⟨rfl, rfl⟩
          go_wp2_with fail
          go_roundw
          case rel => exact ⟨u + 1, by omega, by omega, by go_num, G4⟩
          case measure => simp [intOf]; omega
    · go_wp2_with fail
      refine (name_any _ _ LR.1).mono ?_
      rintro e w1 ⟨rfl, rfl⟩
      rw [show tName 8 = ⟨#[115, 119, 105, 102, 116]⟩ from rfl]
      go_wp2_with fail
      refine (text_any _ _ LR).mono ?_
      rintro e w2 ⟨rfl, g2⟩
      rw [show tText 8 = ⟨#[115, 119, 105, 102, 116, 58, 32, 115, 116, 114, 105, 107, 101, 115, 32, 97, 32, 115, 101, 99, 111, 110, 100, 32, 116, 105, 109, 101, 32, 101, 97, 99, 104, 32, 116, 117, 114, 110, 32, 40, 97, 105, 114, 41]⟩ from rfl]
      have L2 := LR.keep g2
      have G2 := grown_trans G g2
      clear LR g2 G
      go_wp2_with fail
      refine (of_any _ _ L2.1).mono ?_
      rintro e w3 ⟨rfl, rfl⟩
      rw [nm_at_8.1, nm_at_8.2]
      go_wp2_with fail
      refine (home_any _ _ L2.2.1).mono ?_
      rintro e w3 ⟨rfl, rfl⟩
      rw [show tHome 8 = 1 from rfl]
      go_wp2_with fail
      refine (suitName_six 1 _ L2.2.2.2 (by decide)).mono ?_
      rintro e w3 ⟨rfl, rfl⟩
      rw [show suitName 1 = ⟨#[97, 105, 114]⟩ from rfl]
      have hcat : (⟨#[32, 40]⟩ : ByteArray) ++ ⟨#[97, 105, 114]⟩ ++ ⟨#[41]⟩ = ⟨#[32, 40, 97, 105, 114, 41]⟩ := by kernel_rfl
      have hcol : (⟨#[115, 119, 105, 102, 116]⟩ : ByteArray) ++ ⟨#[58, 32]⟩ = ⟨#[115, 119, 105, 102, 116, 58, 32]⟩ := by kernel_rfl
      have hex1 : (⟨#[115, 119, 105, 102, 116, 58, 32, 115, 116, 114, 105, 107, 101, 115, 32, 97, 32, 115, 101, 99, 111, 110, 100, 32, 116, 105, 109, 101, 32, 101, 97, 99, 104, 32, 116, 117, 114, 110, 32, 40, 97, 105, 114, 41]⟩ : ByteArray).extract 0 7 = ⟨#[115, 119, 105, 102, 116, 58, 32]⟩ := by kernel_rfl
      have hex2 : (⟨#[115, 119, 105, 102, 116, 58, 32, 115, 116, 114, 105, 107, 101, 115, 32, 97, 32, 115, 101, 99, 111, 110, 100, 32, 116, 105, 109, 101, 32, 101, 97, 99, 104, 32, 116, 117, 114, 110, 32, 40, 97, 105, 114, 41]⟩ : ByteArray).extract 38 44 = ⟨#[32, 40, 97, 105, 114, 41]⟩ := by kernel_rfl
      go_wp2_with fail
      clear L2
      go_loopw [8] (fun v wr => ∃ (u : Nat), 1 ≤ u ∧ u ≤ 8 ∧ v = .int .i64 u ∧ w.grownBy wr none) (fun v _ => 8 - (intOf v).toNat)
      case atStart => exact ⟨1, by omega, by omega, rfl, G2⟩
      case round =>
        obtain ⟨u, hu1, hu2, rfl, G3⟩ := hrel
        rcases (show u = 8 ∨ u < 8 from by omega) with rfl | hlt
        · go_wp2_with fail
          go_roundw
          case rel => exact ⟨9, by omega, by go_num, G3⟩
          case measure => simp [intOf]
        · have hlt' : (u : Int) < 8 := by omega
          have hw : IntKind.u8.wrap (u : Int) = (u : Int) := by rw [IntKind.wrap_u8]; omega
          have hw2 : wrap64 ((u : Int) + 1) = (u : Int) + 1 := by unfold wrap64; omega
          obtain ⟨a1, a2⟩ := apart_8 u hu1 hlt
          have L3 := L.keep G3
          go_wp2_with fail
          refine (text_any _ _ L3).mono ?_
          rintro e w4 ⟨rfl, g4⟩
          have L4 := L3.keep g4
          have G4 := grown_trans G3 g4
          clear L3 g4 G3
          go_wp2_with fail
          refine (name_any _ _ L4.1).mono ?_
          rintro e w5 ⟨rfl, rfl⟩
          go_wp2_with fail
          go_roundw
          case rel => exact ⟨u + 1, by omega, by omega, by go_num, G4⟩
          case measure => simp [intOf]; omega
end Go.Proofs.YtpnbblimmkdaiaaDoor
