/-
  What trait tells of every number: its name, its home, its text, its bit; what it does with a set of bits. The package's tables are as the program lays them, and each call touches nothing.
-/
import Derived.Test.YtpnbblimmkdaiaaDoorBase
namespace Go.Proofs.YtpnbblimmkdaiaaDoor
open Go.RowKit

/-- The names, in the package's table. -/
def NamesAt (w : World) : Prop := w.cell? ⟨0, 1, none⟩ = some (.string ⟨#[102, 97, 115, 116]⟩) ∧ w.cell? ⟨0, 2, none⟩ = some (.string ⟨#[103, 117, 97, 114, 100]⟩) ∧ w.cell? ⟨0, 3, none⟩ = some (.string ⟨#[118, 101, 110, 111, 109]⟩) ∧ w.cell? ⟨0, 4, none⟩ = some (.string ⟨#[108, 111, 110, 101]⟩) ∧ w.cell? ⟨0, 5, none⟩ = some (.string ⟨#[100, 114, 97, 105, 110]⟩) ∧ w.cell? ⟨0, 6, none⟩ = some (.string ⟨#[109, 117, 116, 101]⟩) ∧ w.cell? ⟨0, 7, none⟩ = some (.string ⟨#[102, 105, 120, 101, 100]⟩) ∧ w.cell? ⟨0, 8, none⟩ = some (.string ⟨#[115, 119, 105, 102, 116]⟩)
theorem NamesAt.keep {w w' : World} (h : NamesAt w) (g : w.grownBy w' none) : NamesAt w' := ⟨g.cell h.1 (by simp), g.cell h.2.1 (by simp), g.cell h.2.2.1 (by simp), g.cell h.2.2.2.1 (by simp), g.cell h.2.2.2.2.1 (by simp), g.cell h.2.2.2.2.2.1 (by simp), g.cell h.2.2.2.2.2.2.1 (by simp), g.cell h.2.2.2.2.2.2.2 (by simp)⟩
/-- The homes, in the package's table. -/
def HomesAt (w : World) : Prop := w.cell? ⟨1, 1, none⟩ = some (.int .u8 1) ∧ w.cell? ⟨1, 2, none⟩ = some (.int .u8 2) ∧ w.cell? ⟨1, 3, none⟩ = some (.int .u8 3) ∧ w.cell? ⟨1, 4, none⟩ = some (.int .u8 4) ∧ w.cell? ⟨1, 5, none⟩ = some (.int .u8 4) ∧ w.cell? ⟨1, 6, none⟩ = some (.int .u8 5) ∧ w.cell? ⟨1, 7, none⟩ = some (.int .u8 6) ∧ w.cell? ⟨1, 8, none⟩ = some (.int .u8 1)
theorem HomesAt.keep {w w' : World} (h : HomesAt w) (g : w.grownBy w' none) : HomesAt w' := ⟨g.cell h.1 (by simp), g.cell h.2.1 (by simp), g.cell h.2.2.1 (by simp), g.cell h.2.2.2.1 (by simp), g.cell h.2.2.2.2.1 (by simp), g.cell h.2.2.2.2.2.1 (by simp), g.cell h.2.2.2.2.2.2.1 (by simp), g.cell h.2.2.2.2.2.2.2 (by simp)⟩
/-- The rules, in the package's table. -/
def RulesAt (w : World) : Prop := w.cell? ⟨2, 1, none⟩ = some (.string ⟨#[109, 97, 121, 32, 115, 116, 114, 105, 107, 101, 32, 111, 110, 32, 116, 104, 101, 32, 116, 117, 114, 110, 32, 111, 110, 32, 119, 104, 105, 99, 104, 32, 105, 116, 32, 99, 97, 109, 101]⟩) ∧ w.cell? ⟨2, 2, none⟩ = some (.string ⟨#[105, 115, 32, 115, 116, 114, 117, 99, 107, 32, 97, 104, 101, 97, 100, 32, 111, 102, 32, 97, 108, 108, 32, 116, 104, 97, 116, 32, 105, 115, 32, 110, 111, 32, 103, 117, 97, 114, 100]⟩) ∧ w.cell? ⟨2, 3, none⟩ = some (.string ⟨#[119, 104, 97, 116, 101, 118, 101, 114, 32, 105, 116, 32, 104, 97, 114, 109, 115, 32, 98, 114, 101, 97, 107, 115]⟩) ∧ w.cell? ⟨2, 4, none⟩ = some (.string ⟨#[99, 97, 110, 110, 111, 116, 32, 98, 101, 32, 109, 101, 97, 110, 116, 32, 98, 121, 32, 116, 104, 101, 32, 102, 111, 101]⟩) ∧ w.cell? ⟨2, 5, none⟩ = some (.string ⟨#[119, 104, 97, 116, 32, 105, 116, 32, 104, 97, 114, 109, 115, 32, 109, 101, 110, 100, 115, 32, 105, 116, 115, 32, 104, 111, 108, 100, 101, 114]⟩) ∧ w.cell? ⟨2, 6, none⟩ = some (.string ⟨#[105, 116, 115, 32, 99, 97, 114, 100, 39, 115, 32, 112, 97, 114, 116, 115, 32, 99, 111, 117, 110, 116, 32, 102, 111, 114, 32, 110, 111, 116, 104, 105, 110, 103]⟩) ∧ w.cell? ⟨2, 7, none⟩ = some (.string ⟨#[99, 97, 110, 110, 111, 116, 32, 115, 116, 114, 105, 107, 101]⟩) ∧ w.cell? ⟨2, 8, none⟩ = some (.string ⟨#[115, 116, 114, 105, 107, 101, 115, 32, 97, 32, 115, 101, 99, 111, 110, 100, 32, 116, 105, 109, 101, 32, 101, 97, 99, 104, 32, 116, 117, 114, 110]⟩)
theorem RulesAt.keep {w w' : World} (h : RulesAt w) (g : w.grownBy w' none) : RulesAt w' := ⟨g.cell h.1 (by simp), g.cell h.2.1 (by simp), g.cell h.2.2.1 (by simp), g.cell h.2.2.2.1 (by simp), g.cell h.2.2.2.2.1 (by simp), g.cell h.2.2.2.2.2.1 (by simp), g.cell h.2.2.2.2.2.2.1 (by simp), g.cell h.2.2.2.2.2.2.2 (by simp)⟩
/-- The suits' names, in the table of package suit. -/
def SuitsAt (w : World) : Prop := w.cell? ⟨3, 1, none⟩ = some (.string ⟨#[97, 105, 114]⟩) ∧ w.cell? ⟨3, 2, none⟩ = some (.string ⟨#[101, 97, 114, 116, 104]⟩) ∧ w.cell? ⟨3, 3, none⟩ = some (.string ⟨#[102, 105, 114, 101]⟩) ∧ w.cell? ⟨3, 4, none⟩ = some (.string ⟨#[119, 97, 116, 101, 114]⟩) ∧ w.cell? ⟨3, 5, none⟩ = some (.string ⟨#[118, 111, 105, 100]⟩) ∧ w.cell? ⟨3, 6, none⟩ = some (.string ⟨#[103, 111, 108, 100]⟩)
theorem SuitsAt.keep {w w' : World} (h : SuitsAt w) (g : w.grownBy w' none) : SuitsAt w' := ⟨g.cell h.1 (by simp), g.cell h.2.1 (by simp), g.cell h.2.2.1 (by simp), g.cell h.2.2.2.1 (by simp), g.cell h.2.2.2.2.1 (by simp), g.cell h.2.2.2.2.2 (by simp)⟩
/-- All four tables. -/
def LaidAt (w : World) : Prop := NamesAt w ∧ HomesAt w ∧ RulesAt w ∧ SuitsAt w
theorem LaidAt.keep {w w' : World} (h : LaidAt w) (g : w.grownBy w' none) : LaidAt w' := ⟨h.1.keep g, h.2.1.keep g, h.2.2.1.keep g, h.2.2.2.keep g⟩

def tName (k : Int) : ByteArray := if k = 1 then ⟨#[102, 97, 115, 116]⟩ else if k = 2 then ⟨#[103, 117, 97, 114, 100]⟩ else if k = 3 then ⟨#[118, 101, 110, 111, 109]⟩ else if k = 4 then ⟨#[108, 111, 110, 101]⟩ else if k = 5 then ⟨#[100, 114, 97, 105, 110]⟩ else if k = 6 then ⟨#[109, 117, 116, 101]⟩ else if k = 7 then ⟨#[102, 105, 120, 101, 100]⟩ else if k = 8 then ⟨#[115, 119, 105, 102, 116]⟩ else ⟨#[]⟩
def tHome (k : Int) : Int := if k = 1 then 1 else if k = 2 then 2 else if k = 3 then 3 else if k = 4 then 4 else if k = 5 then 4 else if k = 6 then 5 else if k = 7 then 6 else if k = 8 then 1 else 0
def tText (k : Int) : ByteArray := if k = 1 then ⟨#[102, 97, 115, 116, 58, 32, 109, 97, 121, 32, 115, 116, 114, 105, 107, 101, 32, 111, 110, 32, 116, 104, 101, 32, 116, 117, 114, 110, 32, 111, 110, 32, 119, 104, 105, 99, 104, 32, 105, 116, 32, 99, 97, 109, 101, 32, 40, 97, 105, 114, 41]⟩ else if k = 2 then ⟨#[103, 117, 97, 114, 100, 58, 32, 105, 115, 32, 115, 116, 114, 117, 99, 107, 32, 97, 104, 101, 97, 100, 32, 111, 102, 32, 97, 108, 108, 32, 116, 104, 97, 116, 32, 105, 115, 32, 110, 111, 32, 103, 117, 97, 114, 100, 32, 40, 101, 97, 114, 116, 104, 41]⟩ else if k = 3 then ⟨#[118, 101, 110, 111, 109, 58, 32, 119, 104, 97, 116, 101, 118, 101, 114, 32, 105, 116, 32, 104, 97, 114, 109, 115, 32, 98, 114, 101, 97, 107, 115, 32, 40, 102, 105, 114, 101, 41]⟩ else if k = 4 then ⟨#[108, 111, 110, 101, 58, 32, 99, 97, 110, 110, 111, 116, 32, 98, 101, 32, 109, 101, 97, 110, 116, 32, 98, 121, 32, 116, 104, 101, 32, 102, 111, 101, 32, 40, 119, 97, 116, 101, 114, 41]⟩ else if k = 5 then ⟨#[100, 114, 97, 105, 110, 58, 32, 119, 104, 97, 116, 32, 105, 116, 32, 104, 97, 114, 109, 115, 32, 109, 101, 110, 100, 115, 32, 105, 116, 115, 32, 104, 111, 108, 100, 101, 114, 32, 40, 119, 97, 116, 101, 114, 41]⟩ else if k = 6 then ⟨#[109, 117, 116, 101, 58, 32, 105, 116, 115, 32, 99, 97, 114, 100, 39, 115, 32, 112, 97, 114, 116, 115, 32, 99, 111, 117, 110, 116, 32, 102, 111, 114, 32, 110, 111, 116, 104, 105, 110, 103, 32, 40, 118, 111, 105, 100, 41]⟩ else if k = 7 then ⟨#[102, 105, 120, 101, 100, 58, 32, 99, 97, 110, 110, 111, 116, 32, 115, 116, 114, 105, 107, 101, 32, 40, 103, 111, 108, 100, 41]⟩ else if k = 8 then ⟨#[115, 119, 105, 102, 116, 58, 32, 115, 116, 114, 105, 107, 101, 115, 32, 97, 32, 115, 101, 99, 111, 110, 100, 32, 116, 105, 109, 101, 32, 101, 97, 99, 104, 32, 116, 117, 114, 110, 32, 40, 97, 105, 114, 41]⟩ else ⟨#[]⟩
def tBit (k : Int) : Int := if k = 1 then 1 else if k = 2 then 2 else if k = 3 then 4 else if k = 4 then 8 else if k = 5 then 16 else if k = 6 then 32 else if k = 7 then 64 else if k = 8 then 128 else 0
def suitName (k : Int) : ByteArray := if k = 1 then ⟨#[97, 105, 114]⟩ else if k = 2 then ⟨#[101, 97, 114, 116, 104]⟩ else if k = 3 then ⟨#[102, 105, 114, 101]⟩ else if k = 4 then ⟨#[119, 97, 116, 101, 114]⟩ else if k = 5 then ⟨#[118, 111, 105, 100]⟩ else if k = 6 then ⟨#[103, 111, 108, 100]⟩ else ⟨#[]⟩
/-- One of the eight. -/
def Eight (k : Int) : Prop := k = 1 ∨ k = 2 ∨ k = 3 ∨ k = 4 ∨ k = 5 ∨ k = 6 ∨ k = 7 ∨ k = 8
theorem eight_or (k : Int) : Eight k ∨ (k < 1 ∨ 8 < k) := by unfold Eight; omega
theorem eight_no (k : Int) (h : k < 1 ∨ 8 < k) : tName k = ⟨#[]⟩ ∧ tHome k = 0 ∧ tText k = ⟨#[]⟩ ∧ tBit k = 0 := by
  have h1 : ¬ k = 1 := by omega
  have h2 : ¬ k = 2 := by omega
  have h3 : ¬ k = 3 := by omega
  have h4 : ¬ k = 4 := by omega
  have h5 : ¬ k = 5 := by omega
  have h6 : ¬ k = 6 := by omega
  have h7 : ¬ k = 7 := by omega
  have h8 : ¬ k = 8 := by omega
  simp [tName, tHome, tText, tBit, h1, h2, h3, h4, h5, h6, h7, h8]

set_option maxHeartbeats 1000000 in
theorem isTrait_yes (k : Int) (h : 1 ≤ k) (h' : k ≤ 8) (w : World) : Calls Tryd.prog 34 #[.int .u8 k] w fun e w' => e = .returned (.bool true) ∧ w' = w := by
  go_enter Tryd.func34, Tryd.ntmps34
  go_wp2
  go_ret
  exact ⟨rfl, rfl⟩
set_option maxHeartbeats 1000000 in
theorem isTrait_no (k : Int) (h : k < 1 ∨ 8 < k) (w : World) : Calls Tryd.prog 34 #[.int .u8 k] w fun e w' => e = .returned (.bool false) ∧ w' = w := by
  rcases h with h | h
  · have h0 : ¬ 1 ≤ k := by omega
    go_enter Tryd.func34, Tryd.ntmps34
    go_wp2
    go_ret
    exact ⟨rfl, rfl⟩
  · have h0 : 1 ≤ k := by omega
    have h1 : ¬ k ≤ 8 := by omega
    go_enter Tryd.func34, Tryd.ntmps34
    go_wp2
    go_ret
    exact ⟨rfl, rfl⟩
set_option maxHeartbeats 1000000 in
theorem isSuit_yes (k : Int) (h : 1 ≤ k) (h' : k ≤ 6) (w : World) : Calls Tryd.prog 43 #[.int .u8 k] w fun e w' => e = .returned (.bool true) ∧ w' = w := by
  go_enter Tryd.func43, Tryd.ntmps43
  go_wp2
  go_ret
  exact ⟨rfl, rfl⟩
set_option maxHeartbeats 1000000 in
theorem suitName_six (k : Int) (w : World) (N : SuitsAt w) (h : k = 1 ∨ k = 2 ∨ k = 3 ∨ k = 4 ∨ k = 5 ∨ k = 6) : Calls Tryd.prog 33 #[.int .u8 k] w fun e w' => e = .returned (.string (suitName k)) ∧ w' = w := by
  obtain ⟨c1, c2, c3, c4, c5, c6⟩ := N
  rcases h with rfl | rfl | rfl | rfl | rfl | rfl
  all_goals
    go_enter Tryd.func33, Tryd.ntmps33
    go_wp2_with fail
    refine (isSuit_yes _ (by omega) (by omega) _).mono ?_
    rintro e w1 ⟨rfl, rfl⟩
    go_wp2
    go_ret
    exact ⟨rfl, rfl⟩
set_option maxHeartbeats 1000000 in
theorem name_any (k : Int) (w : World) (N : NamesAt w) : Calls Tryd.prog 9 #[.int .u8 k] w fun e w' => e = .returned (.string (tName k)) ∧ w' = w := by
  obtain ⟨c1, c2, c3, c4, c5, c6, c7, c8⟩ := N
  rcases eight_or k with h | h
  · rcases h with rfl | rfl | rfl | rfl | rfl | rfl | rfl | rfl
    all_goals
      go_enter Tryd.func9, Tryd.ntmps9
      go_wp2_with fail
      refine (isTrait_yes _ (by omega) (by omega) _).mono ?_
      rintro e w1 ⟨rfl, rfl⟩
      go_wp2
      go_ret
      exact ⟨rfl, rfl⟩
  · rw [(eight_no k h).1]
    go_enter Tryd.func9, Tryd.ntmps9
    go_wp2_with fail
    refine (isTrait_no _ h _).mono ?_
    rintro e w1 ⟨rfl, rfl⟩
    go_wp2
    go_ret
    exact ⟨rfl, rfl⟩
set_option maxHeartbeats 1000000 in
theorem home_any (k : Int) (w : World) (N : HomesAt w) : Calls Tryd.prog 11 #[.int .u8 k] w fun e w' => e = .returned (.int .u8 (tHome k)) ∧ w' = w := by
  obtain ⟨c1, c2, c3, c4, c5, c6, c7, c8⟩ := N
  rcases eight_or k with h | h
  · rcases h with rfl | rfl | rfl | rfl | rfl | rfl | rfl | rfl
    all_goals
      go_enter Tryd.func11, Tryd.ntmps11
      go_wp2_with fail
      refine (isTrait_yes _ (by omega) (by omega) _).mono ?_
      rintro e w1 ⟨rfl, rfl⟩
      go_wp2
      go_ret
      exact ⟨rfl, rfl⟩
  · rw [(eight_no k h).2.1]
    go_enter Tryd.func11, Tryd.ntmps11
    go_wp2_with fail
    refine (isTrait_no _ h _).mono ?_
    rintro e w1 ⟨rfl, rfl⟩
    go_wp2
    go_ret
    exact ⟨rfl, rfl⟩
set_option maxHeartbeats 1000000 in
theorem bit_any (k : Int) (w : World) : Calls Tryd.prog 37 #[.int .u8 k] w fun e w' => e = .returned (.int .u16 (tBit k)) ∧ w' = w := by
  rcases eight_or k with h | h
  · rcases h with rfl | rfl | rfl | rfl | rfl | rfl | rfl | rfl
    all_goals
      go_enter Tryd.func37, Tryd.ntmps37
      go_wp2_with fail
      refine (isTrait_yes _ (by omega) (by omega) _).mono ?_
      rintro e w1 ⟨rfl, rfl⟩
      go_wp2
      go_ret
      exact ⟨rfl, rfl⟩
  · rw [(eight_no k h).2.2.2]
    go_enter Tryd.func37, Tryd.ntmps37
    go_wp2_with fail
    refine (isTrait_no _ h _).mono ?_
    rintro e w1 ⟨rfl, rfl⟩
    go_wp2
    go_ret
    exact ⟨rfl, rfl⟩
/-- What Has, With, Without tell of a set and a number. -/
def tHas (s k : Int) : Bool := bits .and .u16 s (tBit k) != 0
def tWith (s k : Int) : Int := bits .or .u16 s (tBit k)
def tWithout (s k : Int) : Int := bits .andNot .u16 s (tBit k)
def tCheck (s : Int) : Bool := bits .andNot .u16 s 255 == 0
set_option maxHeartbeats 1000000 in
theorem has_any (s k : Int) (w : World) : Calls Tryd.prog 15 #[.int .u16 s, .int .u8 k] w fun e w' => e = .returned (.bool (tHas s k)) ∧ w' = w := by
  go_enter Tryd.func15, Tryd.ntmps15
  go_wp2_with fail
  refine (bit_any _ _).mono ?_
  rintro e w1 ⟨rfl, rfl⟩
  go_wp2
  go_ret
  exact ⟨rfl, rfl⟩
set_option maxHeartbeats 1000000 in
theorem with_any (s k : Int) (w : World) : Calls Tryd.prog 17 #[.int .u16 s, .int .u8 k] w fun e w' => e = .returned (.int .u16 (tWith s k)) ∧ w' = w := by
  go_enter Tryd.func17, Tryd.ntmps17
  go_wp2_with fail
  refine (bit_any _ _).mono ?_
  rintro e w1 ⟨rfl, rfl⟩
  go_wp2
  go_ret
  exact ⟨rfl, rfl⟩
set_option maxHeartbeats 1000000 in
theorem without_any (s k : Int) (w : World) : Calls Tryd.prog 19 #[.int .u16 s, .int .u8 k] w fun e w' => e = .returned (.int .u16 (tWithout s k)) ∧ w' = w := by
  go_enter Tryd.func19, Tryd.ntmps19
  go_wp2_with fail
  refine (bit_any _ _).mono ?_
  rintro e w1 ⟨rfl, rfl⟩
  go_wp2
  go_ret
  exact ⟨rfl, rfl⟩
set_option maxHeartbeats 1000000 in
theorem check_any (s : Int) (w : World) : Calls Tryd.prog 21 #[.int .u16 s] w fun e w' => e = .returned (.bool (tCheck s)) ∧ w' = w := by
  go_enter Tryd.func21, Tryd.ntmps21
  go_wp2
  go_ret
  exact ⟨rfl, rfl⟩
end Go.Proofs.YtpnbblimmkdaiaaDoor
