/-
  What suit tells of every number and every text: Name, Beats, Of, Beaten, Weight; each touches nothing that was there. The package's tables of names and of who beats whom are as the program lays them.
-/
import Derived.Test.YtmnkibnbnhjncaaDoorSeq
import Derived.Test.YtmnkibnbnhjncaaDoorRank2
namespace Go.Proofs.YtmnkibnbnhjncaaDoor
open Go.RowKit Go.Shelf

attribute [local go_sem] Oper.semAt_some

/-- The names, in the package's table. -/
def NamesAt (w : World) : Prop := w.cell? ⟨0, 1, none⟩ = some (.string ⟨#[97, 105, 114]⟩) ∧ w.cell? ⟨0, 2, none⟩ = some (.string ⟨#[101, 97, 114, 116, 104]⟩) ∧ w.cell? ⟨0, 3, none⟩ = some (.string ⟨#[102, 105, 114, 101]⟩) ∧ w.cell? ⟨0, 4, none⟩ = some (.string ⟨#[119, 97, 116, 101, 114]⟩) ∧ w.cell? ⟨0, 5, none⟩ = some (.string ⟨#[118, 111, 105, 100]⟩) ∧ w.cell? ⟨0, 6, none⟩ = some (.string ⟨#[103, 111, 108, 100]⟩)
theorem NamesAt.keep {w w' : World} (h : NamesAt w) (g : w.grownBy w' none) : NamesAt w' := ⟨g.cell h.1 (by simp), g.cell h.2.1 (by simp), g.cell h.2.2.1 (by simp), g.cell h.2.2.2.1 (by simp), g.cell h.2.2.2.2.1 (by simp), g.cell h.2.2.2.2.2 (by simp)⟩
/-- The ring, in the package's table. -/
def RingAt (w : World) : Prop := w.cell? ⟨1, 1, none⟩ = some (.int .u8 2) ∧ w.cell? ⟨1, 2, none⟩ = some (.int .u8 4) ∧ w.cell? ⟨1, 3, none⟩ = some (.int .u8 5) ∧ w.cell? ⟨1, 4, none⟩ = some (.int .u8 3) ∧ w.cell? ⟨1, 5, none⟩ = some (.int .u8 6) ∧ w.cell? ⟨1, 6, none⟩ = some (.int .u8 1)
theorem RingAt.keep {w w' : World} (h : RingAt w) (g : w.grownBy w' none) : RingAt w' := ⟨g.cell h.1 (by simp), g.cell h.2.1 (by simp), g.cell h.2.2.1 (by simp), g.cell h.2.2.2.1 (by simp), g.cell h.2.2.2.2.1 (by simp), g.cell h.2.2.2.2.2 (by simp)⟩
/-- Both tables. -/
def LaidAt (w : World) : Prop := NamesAt w ∧ RingAt w
theorem LaidAt.keep {w w' : World} (h : LaidAt w) (g : w.grownBy w' none) : LaidAt w' := ⟨h.1.keep g, h.2.keep g⟩

def sName (k : Int) : ByteArray := if k = 1 then ⟨#[97, 105, 114]⟩ else if k = 2 then ⟨#[101, 97, 114, 116, 104]⟩ else if k = 3 then ⟨#[102, 105, 114, 101]⟩ else if k = 4 then ⟨#[119, 97, 116, 101, 114]⟩ else if k = 5 then ⟨#[118, 111, 105, 100]⟩ else if k = 6 then ⟨#[103, 111, 108, 100]⟩ else ⟨#[]⟩
def sBeats (k : Int) : Int := if k = 1 then 2 else if k = 2 then 4 else if k = 3 then 5 else if k = 4 then 3 else if k = 5 then 6 else if k = 6 then 1 else 0
def sBeaten (k : Int) : Int := if k = 1 then 6 else if k = 2 then 1 else if k = 3 then 4 else if k = 4 then 2 else if k = 5 then 3 else if k = 6 then 5 else 0
def sWeight (k : Int) : Int := if k = 1 then 3 else if k = 2 then 2 else if k = 3 then 7 else if k = 4 then 11 else if k = 5 then 18 else if k = 6 then 3 else 0
/-- One of the six. -/
def Six (k : Int) : Prop := k = 1 ∨ k = 2 ∨ k = 3 ∨ k = 4 ∨ k = 5 ∨ k = 6
theorem six_or (k : Int) : Six k ∨ (k < 1 ∨ 6 < k) := by unfold Six; omega
theorem six_no (k : Int) (h : k < 1 ∨ 6 < k) : sName k = ⟨#[]⟩ ∧ sBeats k = 0 ∧ sBeaten k = 0 ∧ sWeight k = 0 := by
  have h1 : ¬ k = 1 := by omega
  have h2 : ¬ k = 2 := by omega
  have h3 : ¬ k = 3 := by omega
  have h4 : ¬ k = 4 := by omega
  have h5 : ¬ k = 5 := by omega
  have h6 : ¬ k = 6 := by omega
  simp [sName, sBeats, sBeaten, sWeight, h1, h2, h3, h4, h5, h6]

set_option maxHeartbeats 1000000 in
theorem isSuit_yes (k : Int) (h : 1 ≤ k) (h' : k ≤ 6) (w : World) : Calls Tryd.prog 20 #[.int .u8 k] w fun e w' => e = .returned (.bool true) ∧ w' = w := by
  go_enter Tryd.func20, Tryd.ntmps20
  go_wp2
  go_ret
  exact ⟨rfl, rfl⟩
set_option maxHeartbeats 1000000 in
theorem isSuit_no (k : Int) (h : k < 1 ∨ 6 < k) (w : World) : Calls Tryd.prog 20 #[.int .u8 k] w fun e w' => e = .returned (.bool false) ∧ w' = w := by
  rcases h with h | h
  · have h0 : ¬ 1 ≤ k := by omega
    go_enter Tryd.func20, Tryd.ntmps20
    go_wp2
    go_ret
    exact ⟨rfl, rfl⟩
  · have h0 : 1 ≤ k := by omega
    have h1 : ¬ k ≤ 6 := by omega
    go_enter Tryd.func20, Tryd.ntmps20
    go_wp2
    go_ret
    exact ⟨rfl, rfl⟩
set_option maxHeartbeats 1000000 in
theorem name_any (k : Int) (w : World) (N : NamesAt w) : Calls Tryd.prog 9 #[.int .u8 k] w fun e w' => e = .returned (.string (sName k)) ∧ w' = w := by
  obtain ⟨c1, c2, c3, c4, c5, c6⟩ := N
  rcases six_or k with h | h
  · rcases h with rfl | rfl | rfl | rfl | rfl | rfl
    all_goals
      go_enter Tryd.func9, Tryd.ntmps9
      go_wp2_with fail
      refine (isSuit_yes _ (by omega) (by omega) _).mono ?_
      rintro e w1 ⟨rfl, rfl⟩
      go_wp2
      go_ret
      exact ⟨rfl, rfl⟩
  · rw [(six_no k h).1]
    go_enter Tryd.func9, Tryd.ntmps9
    go_wp2_with fail
    refine (isSuit_no _ h _).mono ?_
    rintro e w1 ⟨rfl, rfl⟩
    go_wp2
    go_ret
    exact ⟨rfl, rfl⟩
set_option maxHeartbeats 1000000 in
theorem beats_any (k : Int) (w : World) (N : RingAt w) : Calls Tryd.prog 11 #[.int .u8 k] w fun e w' => e = .returned (.int .u8 (sBeats k)) ∧ w' = w := by
  obtain ⟨c1, c2, c3, c4, c5, c6⟩ := N
  rcases six_or k with h | h
  · rcases h with rfl | rfl | rfl | rfl | rfl | rfl
    all_goals
      go_enter Tryd.func11, Tryd.ntmps11
      go_wp2_with fail
      refine (isSuit_yes _ (by omega) (by omega) _).mono ?_
      rintro e w1 ⟨rfl, rfl⟩
      go_wp2
      go_ret
      exact ⟨rfl, rfl⟩
  · rw [(six_no k h).2.1]
    go_enter Tryd.func11, Tryd.ntmps11
    go_wp2_with fail
    refine (isSuit_no _ h _).mono ?_
    rintro e w1 ⟨rfl, rfl⟩
    go_wp2
    go_ret
    exact ⟨rfl, rfl⟩
set_option maxHeartbeats 1000000 in
theorem weight_any (k : Int) (w : World) : Calls Tryd.prog 15 #[.int .u8 k] w fun e w' => e = .returned (.int .i64 (sWeight k)) ∧ w.grownBy w' none := by
  rcases six_or k with h | h
  · rcases h with rfl | rfl | rfl | rfl | rfl | rfl
    all_goals
      go_enter Tryd.func15, Tryd.ntmps15
      go_wp2_with fail
      refine (isSuit_yes _ (by omega) (by omega) _).mono ?_
      rintro e w1 ⟨rfl, rfl⟩
      go_wp2_with fail
      refine (of_any _ _).mono ?_
      rintro e w2 ⟨rfl, g2⟩
      go_wp2
      go_ret
      exact ⟨rfl, g2⟩
  · rw [(six_no k h).2.2.2]
    go_enter Tryd.func15, Tryd.ntmps15
    go_wp2_with fail
    refine (isSuit_no _ h _).mono ?_
    rintro e w1 ⟨rfl, rfl⟩
    go_wp2
    go_ret
    exact ⟨rfl, grown_refl _ _⟩
end Go.Proofs.YtmnkibnbnhjncaaDoor
