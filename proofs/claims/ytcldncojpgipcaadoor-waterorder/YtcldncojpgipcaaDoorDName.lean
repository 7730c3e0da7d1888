/-
  trait.Name of a trait, out of its table.
-/
import Derived.Test.YtcldncojpgipcaaDoorBase
namespace Go.Proofs.YtcldncojpgipcaaDoor
open Go.RowKit

def NamesAt (w : World) : Prop := w.cell? ⟨0, 1, none⟩ = some (.string ⟨#[102, 97, 115, 116]⟩) ∧ w.cell? ⟨0, 2, none⟩ = some (.string ⟨#[103, 117, 97, 114, 100]⟩) ∧ w.cell? ⟨0, 3, none⟩ = some (.string ⟨#[118, 101, 110, 111, 109]⟩) ∧ w.cell? ⟨0, 4, none⟩ = some (.string ⟨#[108, 111, 110, 101]⟩) ∧ w.cell? ⟨0, 5, none⟩ = some (.string ⟨#[100, 114, 97, 105, 110]⟩) ∧ w.cell? ⟨0, 6, none⟩ = some (.string ⟨#[109, 117, 116, 101]⟩) ∧ w.cell? ⟨0, 7, none⟩ = some (.string ⟨#[102, 105, 120, 101, 100]⟩) ∧ w.cell? ⟨0, 8, none⟩ = some (.string ⟨#[115, 119, 105, 102, 116]⟩)
theorem NamesAt.keep {w w' : World} (h : NamesAt w) (g : w.grownBy w' none) : NamesAt w' := ⟨g.cell h.1 (by simp), g.cell h.2.1 (by simp), g.cell h.2.2.1 (by simp), g.cell h.2.2.2.1 (by simp), g.cell h.2.2.2.2.1 (by simp), g.cell h.2.2.2.2.2.1 (by simp), g.cell h.2.2.2.2.2.2.1 (by simp), g.cell h.2.2.2.2.2.2.2 (by simp)⟩
def tName (k : Int) : ByteArray := if k = 1 then ⟨#[102, 97, 115, 116]⟩ else if k = 2 then ⟨#[103, 117, 97, 114, 100]⟩ else if k = 3 then ⟨#[118, 101, 110, 111, 109]⟩ else if k = 4 then ⟨#[108, 111, 110, 101]⟩ else if k = 5 then ⟨#[100, 114, 97, 105, 110]⟩ else if k = 6 then ⟨#[109, 117, 116, 101]⟩ else if k = 7 then ⟨#[102, 105, 120, 101, 100]⟩ else ⟨#[115, 119, 105, 102, 116]⟩
set_option maxHeartbeats 1000000 in
theorem isTrait_yes (k : Int) (h0 : 1 ≤ k) (h1 : k ≤ 8) (w : World) : Calls Tryd.prog 29 #[.int .u8 k] w fun e w' => e = .returned (.bool true) ∧ w' = w := by
  go_enter Tryd.func29, Tryd.ntmps29
  go_wp2
  go_ret
  exact ⟨rfl, rfl⟩
set_option maxHeartbeats 1000000 in
theorem tname_any (k : Int) (hk : 1 ≤ k ∧ k ≤ 8) (w : World) (N : NamesAt w) : Calls Tryd.prog 11 #[.int .u8 k] w fun e w' => e = .returned (.string (tName k)) ∧ w' = w := by
  obtain ⟨c1, c2, c3, c4, c5, c6, c7, c8⟩ := N
  rcases (show k = 1 ∨ k = 2 ∨ k = 3 ∨ k = 4 ∨ k = 5 ∨ k = 6 ∨ k = 7 ∨ k = 8 from by omega) with rfl | rfl | rfl | rfl | rfl | rfl | rfl | rfl
  all_goals
    go_enter Tryd.func11, Tryd.ntmps11
    go_wp2_with fail
    refine (isTrait_yes _ (by omega) (by omega) _).mono ?_
    rintro e w1 ⟨rfl, rfl⟩
    go_wp2
    go_ret
    exact ⟨rfl, rfl⟩
end Go.Proofs.YtcldncojpgipcaaDoor
