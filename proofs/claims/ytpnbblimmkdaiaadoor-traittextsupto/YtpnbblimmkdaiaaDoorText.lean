/-
  What trait.Text tells of every number: the name, a colon, a blank, the rule, and the home's name in round brackets.
-/
import Derived.Test.YtpnbblimmkdaiaaDoorTrait
namespace Go.Proofs.YtpnbblimmkdaiaaDoor
open Go.RowKit

set_option maxRecDepth 100000 in
set_option maxHeartbeats 2000000 in
theorem text_1 (w : World) (L : LaidAt w) : Calls Tryd.prog 13 #[.int .u8 1] w fun e w' => e = .returned (.string (tText 1)) ∧ w.grownBy w' none := by
  have S : SuitsAt w := L.2.2.2
  have c0 : w.cell? ⟨0, 1, none⟩ = some (.string ⟨#[102, 97, 115, 116]⟩) := L.1.1
  have c1 : w.cell? ⟨1, 1, none⟩ = some (.int .u8 1) := L.2.1.1
  have c2 : w.cell? ⟨2, 1, none⟩ = some (.string ⟨#[109, 97, 121, 32, 115, 116, 114, 105, 107, 101, 32, 111, 110, 32, 116, 104, 101, 32, 116, 117, 114, 110, 32, 111, 110, 32, 119, 104, 105, 99, 104, 32, 105, 116, 32, 99, 97, 109, 101]⟩) := L.2.2.1.1
  clear L
  go_enter Tryd.func13, Tryd.ntmps13
  go_wp2_with fail
  refine (isTrait_yes _ (by omega) (by omega) _).mono ?_
  rintro e w1 ⟨rfl, rfl⟩
  go_wp2_with fail
  go_region_held3 (fun w' => w'.cell? ⟨0, 1, none⟩ = some (.string ⟨#[102, 97, 115, 116]⟩) ∧ w'.cell? ⟨1, 1, none⟩ = some (.int .u8 1) ∧ w'.cell? ⟨2, 1, none⟩ = some (.string ⟨#[109, 97, 121, 32, 115, 116, 114, 105, 107, 101, 32, 111, 110, 32, 116, 104, 101, 32, 116, 117, 114, 110, 32, 111, 110, 32, 119, 104, 105, 99, 104, 32, 105, 116, 32, 99, 97, 109, 101]⟩)) (first | exact ⟨c0, c1, c2⟩) ((go_at_call 33; refine (suitName_six 1 _ (by exact S) (by decide)).mono ?_; rintro e w3 ⟨rfl, rfl⟩; rw [show suitName 1 = ⟨#[97, 105, 114]⟩ from rfl]))
  go_wp2
  go_ret
  exact ⟨rfl, grown_drewN _ _ _⟩
set_option maxRecDepth 100000 in
set_option maxHeartbeats 2000000 in
theorem text_2 (w : World) (L : LaidAt w) : Calls Tryd.prog 13 #[.int .u8 2] w fun e w' => e = .returned (.string (tText 2)) ∧ w.grownBy w' none := by
  have S : SuitsAt w := L.2.2.2
  have c0 : w.cell? ⟨0, 2, none⟩ = some (.string ⟨#[103, 117, 97, 114, 100]⟩) := L.1.2.1
  have c1 : w.cell? ⟨1, 2, none⟩ = some (.int .u8 2) := L.2.1.2.1
  have c2 : w.cell? ⟨2, 2, none⟩ = some (.string ⟨#[105, 115, 32, 115, 116, 114, 117, 99, 107, 32, 97, 104, 101, 97, 100, 32, 111, 102, 32, 97, 108, 108, 32, 116, 104, 97, 116, 32, 105, 115, 32, 110, 111, 32, 103, 117, 97, 114, 100]⟩) := L.2.2.1.2.1
  clear L
  go_enter Tryd.func13, Tryd.ntmps13
  go_wp2_with fail
  refine (isTrait_yes _ (by omega) (by omega) _).mono ?_
  rintro e w1 ⟨rfl, rfl⟩
  go_wp2_with fail
  go_region_held3 (fun w' => w'.cell? ⟨0, 2, none⟩ = some (.string ⟨#[103, 117, 97, 114, 100]⟩) ∧ w'.cell? ⟨1, 2, none⟩ = some (.int .u8 2) ∧ w'.cell? ⟨2, 2, none⟩ = some (.string ⟨#[105, 115, 32, 115, 116, 114, 117, 99, 107, 32, 97, 104, 101, 97, 100, 32, 111, 102, 32, 97, 108, 108, 32, 116, 104, 97, 116, 32, 105, 115, 32, 110, 111, 32, 103, 117, 97, 114, 100]⟩)) (first | exact ⟨c0, c1, c2⟩) ((go_at_call 33; refine (suitName_six 2 _ (by exact S) (by decide)).mono ?_; rintro e w3 ⟨rfl, rfl⟩; rw [show suitName 2 = ⟨#[101, 97, 114, 116, 104]⟩ from rfl]))
  go_wp2
  go_ret
  exact ⟨rfl, grown_drewN _ _ _⟩
set_option maxRecDepth 100000 in
set_option maxHeartbeats 2000000 in
theorem text_3 (w : World) (L : LaidAt w) : Calls Tryd.prog 13 #[.int .u8 3] w fun e w' => e = .returned (.string (tText 3)) ∧ w.grownBy w' none := by
  have S : SuitsAt w := L.2.2.2
  have c0 : w.cell? ⟨0, 3, none⟩ = some (.string ⟨#[118, 101, 110, 111, 109]⟩) := L.1.2.2.1
  have c1 : w.cell? ⟨1, 3, none⟩ = some (.int .u8 3) := L.2.1.2.2.1
  have c2 : w.cell? ⟨2, 3, none⟩ = some (.string ⟨#[119, 104, 97, 116, 101, 118, 101, 114, 32, 105, 116, 32, 104, 97, 114, 109, 115, 32, 98, 114, 101, 97, 107, 115]⟩) := L.2.2.1.2.2.1
  clear L
  go_enter Tryd.func13, Tryd.ntmps13
  go_wp2_with fail
  refine (isTrait_yes _ (by omega) (by omega) _).mono ?_
  rintro e w1 ⟨rfl, rfl⟩
  go_wp2_with fail
  go_region_held3 (fun w' => w'.cell? ⟨0, 3, none⟩ = some (.string ⟨#[118, 101, 110, 111, 109]⟩) ∧ w'.cell? ⟨1, 3, none⟩ = some (.int .u8 3) ∧ w'.cell? ⟨2, 3, none⟩ = some (.string ⟨#[119, 104, 97, 116, 101, 118, 101, 114, 32, 105, 116, 32, 104, 97, 114, 109, 115, 32, 98, 114, 101, 97, 107, 115]⟩)) (first | exact ⟨c0, c1, c2⟩) ((go_at_call 33; refine (suitName_six 3 _ (by exact S) (by decide)).mono ?_; rintro e w3 ⟨rfl, rfl⟩; rw [show suitName 3 = ⟨#[102, 105, 114, 101]⟩ from rfl]))
  go_wp2
  go_ret
  exact ⟨rfl, grown_drewN _ _ _⟩
set_option maxRecDepth 100000 in
set_option maxHeartbeats 2000000 in
theorem text_4 (w : World) (L : LaidAt w) : Calls Tryd.prog 13 #[.int .u8 4] w fun e w' => e = .returned (.string (tText 4)) ∧ w.grownBy w' none := by
  have S : SuitsAt w := L.2.2.2
  have c0 : w.cell? ⟨0, 4, none⟩ = some (.string ⟨#[108, 111, 110, 101]⟩) := L.1.2.2.2.1
  have c1 : w.cell? ⟨1, 4, none⟩ = some (.int .u8 4) := L.2.1.2.2.2.1
  have c2 : w.cell? ⟨2, 4, none⟩ = some (.string ⟨#[99, 97, 110, 110, 111, 116, 32, 98, 101, 32, 109, 101, 97, 110, 116, 32, 98, 121, 32, 116, 104, 101, 32, 102, 111, 101]⟩) := L.2.2.1.2.2.2.1
  clear L
  go_enter Tryd.func13, Tryd.ntmps13
  go_wp2_with fail
  refine (isTrait_yes _ (by omega) (by omega) _).mono ?_
  rintro e w1 ⟨rfl, rfl⟩
  go_wp2_with fail
  go_region_held3 (fun w' => w'.cell? ⟨0, 4, none⟩ = some (.string ⟨#[108, 111, 110, 101]⟩) ∧ w'.cell? ⟨1, 4, none⟩ = some (.int .u8 4) ∧ w'.cell? ⟨2, 4, none⟩ = some (.string ⟨#[99, 97, 110, 110, 111, 116, 32, 98, 101, 32, 109, 101, 97, 110, 116, 32, 98, 121, 32, 116, 104, 101, 32, 102, 111, 101]⟩)) (first | exact ⟨c0, c1, c2⟩) ((go_at_call 33; refine (suitName_six 4 _ (by exact S) (by decide)).mono ?_; rintro e w3 ⟨rfl, rfl⟩; rw [show suitName 4 = ⟨#[119, 97, 116, 101, 114]⟩ from rfl]))
  go_wp2
  go_ret
  exact ⟨rfl, grown_drewN _ _ _⟩
set_option maxRecDepth 100000 in
set_option maxHeartbeats 2000000 in
theorem text_5 (w : World) (L : LaidAt w) : Calls Tryd.prog 13 #[.int .u8 5] w fun e w' => e = .returned (.string (tText 5)) ∧ w.grownBy w' none := by
  have S : SuitsAt w := L.2.2.2
  have c0 : w.cell? ⟨0, 5, none⟩ = some (.string ⟨#[100, 114, 97, 105, 110]⟩) := L.1.2.2.2.2.1
  have c1 : w.cell? ⟨1, 5, none⟩ = some (.int .u8 4) := L.2.1.2.2.2.2.1
  have c2 : w.cell? ⟨2, 5, none⟩ = some (.string ⟨#[119, 104, 97, 116, 32, 105, 116, 32, 104, 97, 114, 109, 115, 32, 109, 101, 110, 100, 115, 32, 105, 116, 115, 32, 104, 111, 108, 100, 101, 114]⟩) := L.2.2.1.2.2.2.2.1
  clear L
  go_enter Tryd.func13, Tryd.ntmps13
  go_wp2_with fail
  refine (isTrait_yes _ (by omega) (by omega) _).mono ?_
  rintro e w1 ⟨rfl, rfl⟩
  go_wp2_with fail
  go_region_held3 (fun w' => w'.cell? ⟨0, 5, none⟩ = some (.string ⟨#[100, 114, 97, 105, 110]⟩) ∧ w'.cell? ⟨1, 5, none⟩ = some (.int .u8 4) ∧ w'.cell? ⟨2, 5, none⟩ = some (.string ⟨#[119, 104, 97, 116, 32, 105, 116, 32, 104, 97, 114, 109, 115, 32, 109, 101, 110, 100, 115, 32, 105, 116, 115, 32, 104, 111, 108, 100, 101, 114]⟩)) (first | exact ⟨c0, c1, c2⟩) ((go_at_call 33; refine (suitName_six 4 _ (by exact S) (by decide)).mono ?_; rintro e w3 ⟨rfl, rfl⟩; rw [show suitName 4 = ⟨#[119, 97, 116, 101, 114]⟩ from rfl]))
  go_wp2
  go_ret
  exact ⟨rfl, grown_drewN _ _ _⟩
set_option maxRecDepth 100000 in
set_option maxHeartbeats 2000000 in
theorem text_6 (w : World) (L : LaidAt w) : Calls Tryd.prog 13 #[.int .u8 6] w fun e w' => e = .returned (.string (tText 6)) ∧ w.grownBy w' none := by
  have S : SuitsAt w := L.2.2.2
  have c0 : w.cell? ⟨0, 6, none⟩ = some (.string ⟨#[109, 117, 116, 101]⟩) := L.1.2.2.2.2.2.1
  have c1 : w.cell? ⟨1, 6, none⟩ = some (.int .u8 5) := L.2.1.2.2.2.2.2.1
  have c2 : w.cell? ⟨2, 6, none⟩ = some (.string ⟨#[105, 116, 115, 32, 99, 97, 114, 100, 39, 115, 32, 112, 97, 114, 116, 115, 32, 99, 111, 117, 110, 116, 32, 102, 111, 114, 32, 110, 111, 116, 104, 105, 110, 103]⟩) := L.2.2.1.2.2.2.2.2.1
  clear L
  go_enter Tryd.func13, Tryd.ntmps13
  go_wp2_with fail
  refine (isTrait_yes _ (by omega) (by omega) _).mono ?_
  rintro e w1 ⟨rfl, rfl⟩
  go_wp2_with fail
  go_region_held3 (fun w' => w'.cell? ⟨0, 6, none⟩ = some (.string ⟨#[109, 117, 116, 101]⟩) ∧ w'.cell? ⟨1, 6, none⟩ = some (.int .u8 5) ∧ w'.cell? ⟨2, 6, none⟩ = some (.string ⟨#[105, 116, 115, 32, 99, 97, 114, 100, 39, 115, 32, 112, 97, 114, 116, 115, 32, 99, 111, 117, 110, 116, 32, 102, 111, 114, 32, 110, 111, 116, 104, 105, 110, 103]⟩)) (first | exact ⟨c0, c1, c2⟩) ((go_at_call 33; refine (suitName_six 5 _ (by exact S) (by decide)).mono ?_; rintro e w3 ⟨rfl, rfl⟩; rw [show suitName 5 = ⟨#[118, 111, 105, 100]⟩ from rfl]))
  go_wp2
  go_ret
  exact ⟨rfl, grown_drewN _ _ _⟩
set_option maxRecDepth 100000 in
set_option maxHeartbeats 2000000 in
theorem text_7 (w : World) (L : LaidAt w) : Calls Tryd.prog 13 #[.int .u8 7] w fun e w' => e = .returned (.string (tText 7)) ∧ w.grownBy w' none := by
  have S : SuitsAt w := L.2.2.2
  have c0 : w.cell? ⟨0, 7, none⟩ = some (.string ⟨#[102, 105, 120, 101, 100]⟩) := L.1.2.2.2.2.2.2.1
  have c1 : w.cell? ⟨1, 7, none⟩ = some (.int .u8 6) := L.2.1.2.2.2.2.2.2.1
  have c2 : w.cell? ⟨2, 7, none⟩ = some (.string ⟨#[99, 97, 110, 110, 111, 116, 32, 115, 116, 114, 105, 107, 101]⟩) := L.2.2.1.2.2.2.2.2.2.1
  clear L
  go_enter Tryd.func13, Tryd.ntmps13
  go_wp2_with fail
  refine (isTrait_yes _ (by omega) (by omega) _).mono ?_
  rintro e w1 ⟨rfl, rfl⟩
  go_wp2_with fail
  go_region_held3 (fun w' => w'.cell? ⟨0, 7, none⟩ = some (.string ⟨#[102, 105, 120, 101, 100]⟩) ∧ w'.cell? ⟨1, 7, none⟩ = some (.int .u8 6) ∧ w'.cell? ⟨2, 7, none⟩ = some (.string ⟨#[99, 97, 110, 110, 111, 116, 32, 115, 116, 114, 105, 107, 101]⟩)) (first | exact ⟨c0, c1, c2⟩) ((go_at_call 33; refine (suitName_six 6 _ (by exact S) (by decide)).mono ?_; rintro e w3 ⟨rfl, rfl⟩; rw [show suitName 6 = ⟨#[103, 111, 108, 100]⟩ from rfl]))
  go_wp2
  go_ret
  exact ⟨rfl, grown_drewN _ _ _⟩
set_option maxRecDepth 100000 in
set_option maxHeartbeats 2000000 in
theorem text_8 (w : World) (L : LaidAt w) : Calls Tryd.prog 13 #[.int .u8 8] w fun e w' => e = .returned (.string (tText 8)) ∧ w.grownBy w' none := by
  have S : SuitsAt w := L.2.2.2
  have c0 : w.cell? ⟨0, 8, none⟩ = some (.string ⟨#[115, 119, 105, 102, 116]⟩) := L.1.2.2.2.2.2.2.2
  have c1 : w.cell? ⟨1, 8, none⟩ = some (.int .u8 1) := L.2.1.2.2.2.2.2.2.2
  have c2 : w.cell? ⟨2, 8, none⟩ = some (.string ⟨#[115, 116, 114, 105, 107, 101, 115, 32, 97, 32, 115, 101, 99, 111, 110, 100, 32, 116, 105, 109, 101, 32, 101, 97, 99, 104, 32, 116, 117, 114, 110]⟩) := L.2.2.1.2.2.2.2.2.2.2
  clear L
  go_enter Tryd.func13, Tryd.ntmps13
  go_wp2_with fail
  refine (isTrait_yes _ (by omega) (by omega) _).mono ?_
  rintro e w1 ⟨rfl, rfl⟩
  go_wp2_with fail
  go_region_held3 (fun w' => w'.cell? ⟨0, 8, none⟩ = some (.string ⟨#[115, 119, 105, 102, 116]⟩) ∧ w'.cell? ⟨1, 8, none⟩ = some (.int .u8 1) ∧ w'.cell? ⟨2, 8, none⟩ = some (.string ⟨#[115, 116, 114, 105, 107, 101, 115, 32, 97, 32, 115, 101, 99, 111, 110, 100, 32, 116, 105, 109, 101, 32, 101, 97, 99, 104, 32, 116, 117, 114, 110]⟩)) (first | exact ⟨c0, c1, c2⟩) ((go_at_call 33; refine (suitName_six 1 _ (by exact S) (by decide)).mono ?_; rintro e w3 ⟨rfl, rfl⟩; rw [show suitName 1 = ⟨#[97, 105, 114]⟩ from rfl]))
  go_wp2
  go_ret
  exact ⟨rfl, grown_drewN _ _ _⟩
set_option maxHeartbeats 1000000 in
theorem text_any (k : Int) (w : World) (L : LaidAt w) : Calls Tryd.prog 13 #[.int .u8 k] w fun e w' => e = .returned (.string (tText k)) ∧ w.grownBy w' none := by
  rcases eight_or k with h | h
  · rcases h with rfl | rfl | rfl | rfl | rfl | rfl | rfl | rfl
    · exact text_1 w L
    · exact text_2 w L
    · exact text_3 w L
    · exact text_4 w L
    · exact text_5 w L
    · exact text_6 w L
    · exact text_7 w L
    · exact text_8 w L
  · rw [(eight_no k h).2.2.1]
    go_enter Tryd.func13, Tryd.ntmps13
    go_wp2_with fail
    refine (isTrait_no _ h _).mono ?_
    rintro e w1 ⟨rfl, rfl⟩
    go_wp2
    go_ret
    exact ⟨rfl, grown_refl _ _⟩

end Go.Proofs.YtpnbblimmkdaiaaDoor
