/-
  A card's value, and where its nine cells lie.
-/
import Derived.Test.YtpoicbefemjckaaSameP
namespace Go.Proofs.Ytpoicbefemjckaa
open Go.RowKit

/-- What is asked of a list's length: that it and two more are a list. -/
def Fits (n : Nat) : Prop := (n + 2) * 40 ≤ 140737488355328
theorem Fits.small {n : Nat} (h : Fits n) : Small n := by unfold Fits at h; unfold Small; omega
theorem Fits.small2 {n : Nat} (h : Fits n) : Small (n + 2) := by unfold Fits at h; unfold Small; omega
theorem Fits.copy {n : Nat} (h : Fits n) : n * 40 ≤ 140737488355328 := by unfold Fits at h; omega
/-- A card's value, its parts aside. -/
structure Hd where
  nm : ByteArray
  su : Int
  kd : Int
  co : Int
  po : Int
  he : Int
  tr : Int
  tk : Bool
def cv (h : Hd) (v : Value) : Value := .agg #[.string h.nm, .int .u8 h.su, .int .u8 h.kd, .int .i64 h.co, .int .i64 h.po, .int .i64 h.he, .int .u16 h.tr, .bool h.tk, v]
/-- A card's nine cells in a block of their own. -/
def ccs (h : Hd) (v : Value) : Array Value := #[.string h.nm, .int .u8 h.su, .int .u8 h.kd, .int .i64 h.co, .int .i64 h.po, .int .i64 h.he, .int .u16 h.tr, .bool h.tk, v]
def CAt (w : World) (b : Nat) (h : Hd) (v : Value) : Prop := w.heap[b]? = some (.cells (ccs h v) 47 (0, 0))
theorem CAt.keep {w w' : World} {b : Nat} {h : Hd} {v : Value} (k : CAt w b h v) (g : w.grownBy w' none) : CAt w' b h v := grown_keep g k (by simp)
theorem CAt.cells {w : World} {b : Nat} {h : Hd} {v : Value} (k : CAt w b h v) : w.cell? ⟨b, 0, none⟩ = some (.string h.nm) ∧ w.cell? ⟨b, 1, none⟩ = some (.int .u8 h.su) ∧ w.cell? ⟨b, 2, none⟩ = some (.int .u8 h.kd) ∧ w.cell? ⟨b, 3, none⟩ = some (.int .i64 h.co) ∧ w.cell? ⟨b, 4, none⟩ = some (.int .i64 h.po) ∧ w.cell? ⟨b, 5, none⟩ = some (.int .i64 h.he) ∧ w.cell? ⟨b, 6, none⟩ = some (.int .u16 h.tr) ∧ w.cell? ⟨b, 7, none⟩ = some (.bool h.tk) ∧ w.cell? ⟨b, 8, none⟩ = some v :=
  ⟨block_cell k 0, block_cell k 1, block_cell k 2, block_cell k 3, block_cell k 4, block_cell k 5, block_cell k 6, block_cell k 7, block_cell k 8⟩
theorem CAt.free {w : World} {b : Nat} {h : Hd} {v : Value} (k : CAt w b h v) (i : Nat) : w.frozen? ⟨b, i, none⟩ = false := block_free k i
def Hd.none : Hd := ⟨⟨#[]⟩, 0, 0, 0, 0, 0, 0, false⟩
theorem row_st9 (b : World) (s : Nat) (x0 x1 x2 x3 x4 x5 x6 x7 x8 : Value) : b.grownBy (((((((((b.setCell ⟨s, 0, none⟩ x0).setCell ⟨s, 1, none⟩ x1).setCell ⟨s, 2, none⟩ x2).setCell ⟨s, 3, none⟩ x3).setCell ⟨s, 4, none⟩ x4).setCell ⟨s, 5, none⟩ x5).setCell ⟨s, 6, none⟩ x6).setCell ⟨s, 7, none⟩ x7).setCell ⟨s, 8, none⟩ x8) (some s) :=
  (((((((((grown_set _ s 0 x0).trans (grown_set _ s 1 x1)).trans (grown_set _ s 2 x2)).trans (grown_set _ s 3 x3)).trans (grown_set _ s 4 x4)).trans (grown_set _ s 5 x5)).trans (grown_set _ s 6 x6)).trans (grown_set _ s 7 x7)).trans (grown_set _ s 8 x8))
theorem grown_st9 {a b : World} {s : Nat} (h : a.grownBy b none) (hs : a.heap.size ≤ s) (x0 x1 x2 x3 x4 x5 x6 x7 x8 : Value) : a.grownBy (((((((((b.setCell ⟨s, 0, none⟩ x0).setCell ⟨s, 1, none⟩ x1).setCell ⟨s, 2, none⟩ x2).setCell ⟨s, 3, none⟩ x3).setCell ⟨s, 4, none⟩ x4).setCell ⟨s, 5, none⟩ x5).setCell ⟨s, 6, none⟩ x6).setCell ⟨s, 7, none⟩ x7).setCell ⟨s, 8, none⟩ x8) none :=
  grown_own h (((((((((grown_set _ s 0 x0).trans (grown_set _ s 1 x1)).trans (grown_set _ s 2 x2)).trans (grown_set _ s 3 x3)).trans (grown_set _ s 4 x4)).trans (grown_set _ s 5 x5)).trans (grown_set _ s 6 x6)).trans (grown_set _ s 7 x7)).trans (grown_set _ s 8 x8)) (fun x e => by cases e; exact hs)
end Go.Proofs.Ytpoicbefemjckaa
