/-
  EffectChecks, walked: Uses, Print, Check, Layer and Same answer as the document's own.
-/
import Derived.Test.YthpoejgmofppbaaGreatDoorRPrt
import Derived.Test.YthpoejgmofppbaaGreatDoorRSame
import Derived.Test.YthpoejgmofppbaaGreatDoorLives
namespace Go.Proofs.YthpoejgmofppbaaGreatDoor
open Go.RowKit

structure Two (w : World) (b c : Nat) (p q : Pt) : Prop where
  one : PAt w b p
  two : PAt w c q
theorem Two.keep {w w' : World} {b c : Nat} {p q : Pt} (h : Two w b c p q) (g : w.grownBy w' none) : Two w' b c p q := ⟨h.one.keep g, h.two.keep g⟩
theorem Two.cells {w w' : World} {p q : Pt} (h : Two w' w.heap.size (w.heap.size + 1) p q) : w'.cell? ⟨w.heap.size, 0, none⟩ = some (.int .u8 p.wn) ∧ w'.cell? ⟨w.heap.size, 1, none⟩ = some (.int .u8 p.vb) ∧ w'.cell? ⟨w.heap.size, 2, none⟩ = some (.int .u8 p.wm) ∧ w'.cell? ⟨w.heap.size, 3, none⟩ = some (.int .i64 p.ct) ∧ w'.cell? ⟨w.heap.size, 4, none⟩ = some (.int .u8 p.su) ∧ w'.cell? ⟨w.heap.size, 5, none⟩ = some (.int .u8 p.tr) ∧ w'.cell? ⟨w.heap.size, 6, none⟩ = some (.int .u8 p.mr) ∧ w'.cell? ⟨w.heap.size, 7, none⟩ = some (.string p.nm) ∧ w'.cell? ⟨w.heap.size + 1, 0, none⟩ = some (.int .u8 q.wn) ∧ w'.cell? ⟨w.heap.size + 1, 1, none⟩ = some (.int .u8 q.vb) ∧ w'.cell? ⟨w.heap.size + 1, 2, none⟩ = some (.int .u8 q.wm) ∧ w'.cell? ⟨w.heap.size + 1, 3, none⟩ = some (.int .i64 q.ct) ∧ w'.cell? ⟨w.heap.size + 1, 4, none⟩ = some (.int .u8 q.su) ∧ w'.cell? ⟨w.heap.size + 1, 5, none⟩ = some (.int .u8 q.tr) ∧ w'.cell? ⟨w.heap.size + 1, 6, none⟩ = some (.int .u8 q.mr) ∧ w'.cell? ⟨w.heap.size + 1, 7, none⟩ = some (.string q.nm) :=
  ⟨block_cell h.one 0, block_cell h.one 1, block_cell h.one 2, block_cell h.one 3, block_cell h.one 4, block_cell h.one 5, block_cell h.one 6, block_cell h.one 7, block_cell h.two 0, block_cell h.two 1, block_cell h.two 2, block_cell h.two 3, block_cell h.two 4, block_cell h.two 5, block_cell h.two 6, block_cell h.two 7⟩
theorem Two.new (w : World) (p q : Pt) : Two ((w.alloc (.cells #[.int .u8 p.wn, .int .u8 p.vb, .int .u8 p.wm, .int .i64 p.ct, .int .u8 p.su, .int .u8 p.tr, .int .u8 p.mr, .string p.nm] 30)).alloc (.cells #[.int .u8 q.wn, .int .u8 q.vb, .int .u8 q.wm, .int .i64 q.ct, .int .u8 q.su, .int .u8 q.tr, .int .u8 q.mr, .string q.nm] 30)) w.heap.size (w.heap.size + 1) p q :=
  ⟨(PAt.new w p).keep (World.grownBy_alloc _ _ _), by
    have h := PAt.new (w.alloc (.cells #[.int .u8 p.wn, .int .u8 p.vb, .int .u8 p.wm, .int .i64 p.ct, .int .u8 p.su, .int .u8 p.tr, .int .u8 p.mr, .string p.nm] 30)) q
    rw [World.size_alloc] at h
    exact h⟩
set_option maxHeartbeats 16000000 in
set_option maxRecDepth 100000 in
theorem checks_any (p q : Pt) (hp : p.wf) (w : World) (L : LaidAt w) : Calls Tryz.prog 5 #[pv p, pv q] w fun e w' => e = .returned (.bool true) ∧ w.grownBy w' none := by
  have HL : Hid (LaidAt w) := L
  have HW : Hid p.wf := hp
  have T0 := Two.new w p q
  have G0 := two_new w (.cells #[.int .u8 p.wn, .int .u8 p.vb, .int .u8 p.wm, .int .i64 p.ct, .int .u8 p.su, .int .u8 p.tr, .int .u8 p.mr, .string p.nm] 30) (.cells #[.int .u8 q.wn, .int .u8 q.vb, .int .u8 q.wm, .int .i64 q.ct, .int .u8 q.su, .int .u8 q.tr, .int .u8 q.mr, .string q.nm] 30)
  have HT0 : Hid _ := T0
  have HG0 : Hid _ := G0
  clear L hp T0 G0
  unfold pv
  go_enter Tryz.func5, Tryz.ntmps5
  go_wp2_with (first | (go_at_call 15; refine (uses_any _ _ _).mono ?_; rintro e w1 ⟨rfl, rfl⟩; simp only [usesV]) | (go_at_call 17; refine (ruses_any _ _ _).mono ?_; rintro e w1 ⟨rfl, rfl⟩; simp only [usesV]) | fail)
  refine (print_any p _ (HL.out.keep HG0.out)).mono ?_
  rintro e W1 ⟨rfl, g1⟩
  have T1 : Hid (Two W1 w.heap.size (w.heap.size + 1) p q) := HT0.out.keep g1
  have G1 : Hid (w.grownBy W1 none) := grown_trans HG0.out g1
  clear HT0 HG0 g1
  obtain ⟨c0, c1, c2, c3, c4, c5, c6, c7, d0, d1, d2, d3, d4, d5, d6, d7⟩ := T1.out.cells
  go_wp2_with fail
  refine (rprint_any p HW.out _).mono ?_
  rintro e W2 ⟨rfl, g2⟩
  have T2 : Hid (Two W2 w.heap.size (w.heap.size + 1) p q) := T1.out.keep g2
  have G2 : Hid (w.grownBy W2 none) := grown_trans G1.out g2
  clear T1 G1 g2 c0 c1 c2 c3 c4 c5 c6 c7 d0 d1 d2 d3 d4 d5 d6 d7
  have S2 := (T2.out.keep (grown_drew W2)).cells
  obtain ⟨c0, c1, c2, c3, c4, c5, c6, c7, d0, d1, d2, d3, d4, d5, d6, d7⟩ := T2.out.cells
  go_wp2_with fail
  go_region_held3 (fun w' => w'.cell? ⟨w.heap.size, 0, none⟩ = some (.int .u8 p.wn) ∧ w'.cell? ⟨w.heap.size, 1, none⟩ = some (.int .u8 p.vb) ∧ w'.cell? ⟨w.heap.size, 2, none⟩ = some (.int .u8 p.wm) ∧ w'.cell? ⟨w.heap.size, 3, none⟩ = some (.int .i64 p.ct) ∧ w'.cell? ⟨w.heap.size, 4, none⟩ = some (.int .u8 p.su) ∧ w'.cell? ⟨w.heap.size, 5, none⟩ = some (.int .u8 p.tr) ∧ w'.cell? ⟨w.heap.size, 6, none⟩ = some (.int .u8 p.mr) ∧ w'.cell? ⟨w.heap.size, 7, none⟩ = some (.string p.nm) ∧ w'.cell? ⟨w.heap.size + 1, 0, none⟩ = some (.int .u8 q.wn) ∧ w'.cell? ⟨w.heap.size + 1, 1, none⟩ = some (.int .u8 q.vb) ∧ w'.cell? ⟨w.heap.size + 1, 2, none⟩ = some (.int .u8 q.wm) ∧ w'.cell? ⟨w.heap.size + 1, 3, none⟩ = some (.int .i64 q.ct) ∧ w'.cell? ⟨w.heap.size + 1, 4, none⟩ = some (.int .u8 q.su) ∧ w'.cell? ⟨w.heap.size + 1, 5, none⟩ = some (.int .u8 q.tr) ∧ w'.cell? ⟨w.heap.size + 1, 6, none⟩ = some (.int .u8 q.mr) ∧ w'.cell? ⟨w.heap.size + 1, 7, none⟩ = some (.string q.nm)) (first | with_reducible exact S2 | with_reducible exact S3 | with_reducible exact S4 | with_reducible exact S5 | with_reducible exact S6 | with_reducible exact S7 | with_reducible exact S8) (first
    | (go_at_call 13; refine (lives_any _ (HL.out.keep (grown_trans G2.out (grown_drew _)))).mono ?_; rintro e w3 ⟨rfl, g3⟩; have T3 : Hid (Two w3 w.heap.size (w.heap.size + 1) p q) := T2.out.keep (grown_trans (grown_drew _) g3); have G3 : Hid (w.grownBy w3 none) := grown_trans G2.out (grown_trans (grown_drew _) g3); have S3 := T3.out.cells)
    | (go_at_call 10; refine (check_any p _).mono ?_; rintro e w4 ⟨rfl, g4⟩; have T4 : Hid (Two w4 w.heap.size (w.heap.size + 1) p q) := T3.out.keep g4; have G4 : Hid (w.grownBy w4 none) := grown_trans G3.out g4; have S4 := T4.out.cells)
    | (go_at_call 19; refine (rcheck_any p HW.out _).mono ?_; rintro e w5 ⟨rfl, g5⟩; have T5 : Hid (Two w5 w.heap.size (w.heap.size + 1) p q) := T4.out.keep g5; have G5 : Hid (w.grownBy w5 none) := grown_trans G4.out g5; have S5 := T5.out.cells)
    | (go_at_call 14; refine (layer_any _ _).mono ?_; rintro e w9 ⟨rfl, hw⟩; obtain rfl : w5 = w9 := hw.symm)
    | (go_at_call 20; refine (rlayer_any _ _).mono ?_; rintro e w9 ⟨rfl, hw⟩; obtain rfl : w5 = w9 := hw.symm)
    | (go_at_call 21; refine (same_any p q _).mono ?_; rintro e w6 ⟨rfl, g6⟩; have T6 : Hid (Two w6 w.heap.size (w.heap.size + 1) p q) := T5.out.keep g6; have G6 : Hid (w.grownBy w6 none) := grown_trans G5.out g6; have S6 := T6.out.cells)
    | (go_at_call 22; refine (rsame_any p q _).mono ?_; rintro e w7 ⟨rfl, g7⟩; have T7 : Hid (Two w7 w.heap.size (w.heap.size + 1) p q) := T6.out.keep g7; have G7 : Hid (w.grownBy w7 none) := grown_trans G6.out g7; have S7 := T7.out.cells)
    | (go_at_call 21; refine (same_any p p _).mono ?_; rintro e w8 ⟨rfl, g8⟩; rw [samep_yes rfl]; have T8 : Hid (Two w8 w.heap.size (w.heap.size + 1) p q) := T7.out.keep g8; have G8 : Hid (w.grownBy w8 none) := grown_trans G7.out g8; have S8 := T8.out.cells))
  go_wp2_with fail
  go_ret
  exact ⟨rfl, G8.out⟩
end Go.Proofs.YthpoejgmofppbaaGreatDoor
