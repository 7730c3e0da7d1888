/-
  What Check and Same tell of every part. Each touches nothing that was there.
-/
import Derived.Test.YtjjldjmcbmkkdaaChk2
namespace Go.Proofs.Ytjjldjmcbmkkdaa
open Go.RowKit

theorem grown_out {a b c : World} (h : a.grownBy b none) (k : b.grownBy c none) : a.grownBy c none := grown_trans h k
theorem PAt.cells {w : World} {b : Nat} {p : Pt} (h : PAt w b p) : w.cell? ⟨b, 0, none⟩ = some (.int .u8 p.wn) ∧ w.cell? ⟨b, 1, none⟩ = some (.int .u8 p.vb) ∧ w.cell? ⟨b, 2, none⟩ = some (.int .u8 p.wm) ∧ w.cell? ⟨b, 3, none⟩ = some (.int .i64 p.ct) ∧ w.cell? ⟨b, 4, none⟩ = some (.int .u8 p.su) ∧ w.cell? ⟨b, 5, none⟩ = some (.int .u8 p.tr) ∧ w.cell? ⟨b, 6, none⟩ = some (.int .u8 p.mr) ∧ w.cell? ⟨b, 7, none⟩ = some (.string p.nm) :=
  ⟨block_cell h 0, block_cell h 1, block_cell h 2, block_cell h 3, block_cell h 4, block_cell h 5, block_cell h 6, block_cell h 7⟩
theorem grown_drew (w : World) : w.grownBy w.drew none := ⟨rfl, rfl, rfl, Nat.le_refl _, fun _ _ _ => rfl⟩
theorem box_start (w : World) (p : Pt) : ∃ W1, W1 = (w.alloc (.cells #[.int .u8 p.wn, .int .u8 p.vb, .int .u8 p.wm, .int .i64 p.ct, .int .u8 p.su, .int .u8 p.tr, .int .u8 p.mr, .string p.nm] 69)).drew ∧ PAt W1 w.heap.size p ∧ w.grownBy W1 none := ⟨_, rfl, PAt.new w p, grown_trans (World.grownBy_alloc _ _ _) (grown_drew _)⟩
end Go.Proofs.Ytjjldjmcbmkkdaa
