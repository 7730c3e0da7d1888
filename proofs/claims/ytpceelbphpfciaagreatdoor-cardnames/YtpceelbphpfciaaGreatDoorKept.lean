/-
  KeptParts: is a lent list as it was? LentCard: a card with its parts lent.
-/
import Derived.Test.YtpceelbphpfciaaGreatDoorSameP
namespace Go.Proofs.YtpceelbphpfciaaGreatDoor
open Go.RowKit

/-- What is asked of a list's length: that it and two more are a list. -/
def Fits (n : Nat) : Prop := (n + 2) * 40 ≤ 140737488355328
theorem Fits.small {n : Nat} (h : Fits n) : Small n := by unfold Fits at h; unfold Small; omega
theorem Fits.small2 {n : Nat} (h : Fits n) : Small (n + 2) := by unfold Fits at h; unfold Small; omega
theorem Fits.copy {n : Nat} (h : Fits n) : n * 40 ≤ 140737488355328 := by unfold Fits at h; omega
set_option maxRecDepth 100000 in
set_option maxHeartbeats 2000000 in
theorem kept_any (vf vl : Value) (full ps : List Pt) (w : World) (hf : PsAt w vf full) (hl : PsAt w vl ps) (hF : Small full.length) (hL : Fits ps.length) : Calls Tryz.prog 19 #[vf, vl] w fun e w' => e = .returned (.bool (samePs full (ps ++ [mkP, mkP]))) ∧ w.grownBy w' none := by
  obtain ⟨i0, hi, hz0, hz1, hz2⟩ := info_of Tryz.info29
  have HF : Hid (PsAt w vf full) := hf
  have HL : Hid (PsAt w vl ps) := hl
  obtain ⟨a, c, rfl⟩ := hf.form
  obtain ⟨b, d, rfl⟩ := hl.form
  clear hf hl
  go_enter Tryz.func19, Tryz.ntmps19
  go_wp2_with (first | (go_at_call 56; refine (copy_any _ ps _ HL.out hL.copy).mono ?_; rintro e w1 ⟨u, rfl, o1, g1⟩) | (at_builtin; refine wpList_append_own_at _ rfl (.tmp 7) (.tmp 10) 38 rfl w.heap.size 29 i0 _ 8 40 Tryz.underlying38 hi hz0 hz1 hz2 rfl (by decide) _ ps.length (pcells ps) rfl (World.ownsRow.alloc o1 _) ⟨w1.heap.size, 0, none⟩ 2 2 (pcells [mkP, mkP]) rfl rfl (mk_cells (alloc_at _ _ _)) (pcells_one _) (by unfold Fits at hL; unfold maxLen; omega) hL (Nat.le_trans g1.size (by rw [World.size_alloc]; exact Nat.le_succ _)) ?_; intro v3 w3 o3 g3 _ _; have G3 : w.grownBy w3 none := grown_own (grown_push g1 _) g3 (fun x e => POwn.block o1 x e); have O3 := own_app o3) | (go_at_call 55; refine (sameParts_any _ _ full (ps ++ [mkP, mkP]) _ (HF.out.keep G3) O3.at hF).mono ?_; rintro e w4 ⟨rfl, g4⟩) | fail)
  go_ret
  exact ⟨rfl, grown_trans G3 g4⟩

/-- A card's value, its parts aside. -/
structure Hd where
  nm : ByteArray
  su : Int
  kd : Int
  co : Int
  po : Int
  he : Int
  tr : Int
  tk : Bool
def cv (h : Hd) (v : Value) : Value := .agg #[.string h.nm, .int .u8 h.su, .int .u8 h.kd, .int .i64 h.co, .int .i64 h.po, .int .i64 h.he, .int .u16 h.tr, .bool h.tk, v]
/-- A card's nine cells in a block of their own. -/
def ccs (h : Hd) (v : Value) : Array Value := #[.string h.nm, .int .u8 h.su, .int .u8 h.kd, .int .i64 h.co, .int .i64 h.po, .int .i64 h.he, .int .u16 h.tr, .bool h.tk, v]
def CAt (w : World) (b : Nat) (h : Hd) (v : Value) : Prop := w.heap[b]? = some (.cells (ccs h v) 40 (0, 0))
theorem CAt.keep {w w' : World} {b : Nat} {h : Hd} {v : Value} (k : CAt w b h v) (g : w.grownBy w' none) : CAt w' b h v := grown_keep g k (by simp)
theorem CAt.cells {w : World} {b : Nat} {h : Hd} {v : Value} (k : CAt w b h v) : w.cell? ⟨b, 0, none⟩ = some (.string h.nm) ∧ w.cell? ⟨b, 1, none⟩ = some (.int .u8 h.su) ∧ w.cell? ⟨b, 2, none⟩ = some (.int .u8 h.kd) ∧ w.cell? ⟨b, 3, none⟩ = some (.int .i64 h.co) ∧ w.cell? ⟨b, 4, none⟩ = some (.int .i64 h.po) ∧ w.cell? ⟨b, 5, none⟩ = some (.int .i64 h.he) ∧ w.cell? ⟨b, 6, none⟩ = some (.int .u16 h.tr) ∧ w.cell? ⟨b, 7, none⟩ = some (.bool h.tk) ∧ w.cell? ⟨b, 8, none⟩ = some v :=
  ⟨block_cell k 0, block_cell k 1, block_cell k 2, block_cell k 3, block_cell k 4, block_cell k 5, block_cell k 6, block_cell k 7, block_cell k 8⟩
theorem CAt.free {w : World} {b : Nat} {h : Hd} {v : Value} (k : CAt w b h v) (i : Nat) : w.frozen? ⟨b, i, none⟩ = false := block_free k i
def Hd.none : Hd := ⟨⟨#[]⟩, 0, 0, 0, 0, 0, 0, false⟩
theorem row_st9 (b : World) (s : Nat) (x0 x1 x2 x3 x4 x5 x6 x7 x8 : Value) : b.grownBy (((((((((b.setCell ⟨s, 0, none⟩ x0).setCell ⟨s, 1, none⟩ x1).setCell ⟨s, 2, none⟩ x2).setCell ⟨s, 3, none⟩ x3).setCell ⟨s, 4, none⟩ x4).setCell ⟨s, 5, none⟩ x5).setCell ⟨s, 6, none⟩ x6).setCell ⟨s, 7, none⟩ x7).setCell ⟨s, 8, none⟩ x8) (some s) :=
  (((((((((grown_set _ s 0 x0).trans (grown_set _ s 1 x1)).trans (grown_set _ s 2 x2)).trans (grown_set _ s 3 x3)).trans (grown_set _ s 4 x4)).trans (grown_set _ s 5 x5)).trans (grown_set _ s 6 x6)).trans (grown_set _ s 7 x7)).trans (grown_set _ s 8 x8))
theorem grown_st9 {a b : World} {s : Nat} (h : a.grownBy b none) (hs : a.heap.size ≤ s) (x0 x1 x2 x3 x4 x5 x6 x7 x8 : Value) : a.grownBy (((((((((b.setCell ⟨s, 0, none⟩ x0).setCell ⟨s, 1, none⟩ x1).setCell ⟨s, 2, none⟩ x2).setCell ⟨s, 3, none⟩ x3).setCell ⟨s, 4, none⟩ x4).setCell ⟨s, 5, none⟩ x5).setCell ⟨s, 6, none⟩ x6).setCell ⟨s, 7, none⟩ x7).setCell ⟨s, 8, none⟩ x8) none :=
  grown_own h (((((((((grown_set _ s 0 x0).trans (grown_set _ s 1 x1)).trans (grown_set _ s 2 x2)).trans (grown_set _ s 3 x3)).trans (grown_set _ s 4 x4)).trans (grown_set _ s 5 x5)).trans (grown_set _ s 6 x6)).trans (grown_set _ s 7 x7)).trans (grown_set _ s 8 x8)) (fun x e => by cases e; exact hs)
set_option maxRecDepth 100000 in
set_option maxHeartbeats 2000000 in
theorem lentCard_any (h : Hd) (v : Value) (ps : List Pt) (w : World) (hp : PsAt w v ps) (hL : Fits ps.length) : Calls Tryz.prog 11 #[cv h v] w fun e w' => ∃ g, e = .returned (.tuple #[cv h (.slice (some ⟨g, 0, none⟩) ps.length (ps.length + 2)), .slice (some ⟨g, 0, none⟩) (ps.length + 2) (ps.length + 2)]) ∧ w.heap.size ≤ g ∧ POwn w' w.heap.size (.slice (some ⟨g, 0, none⟩) (ps.length + 2) (ps.length + 2)) (ps ++ [mkP, mkP]) ∧ w.grownBy w' none := by
  have HP : Hid (PsAt w v ps) := hp
  obtain ⟨nm, su, kd, co, po, he, tr, tk⟩ := h
  obtain ⟨a, c, rfl⟩ := hp.form
  have l0 : (0 : Int) ≤ (ps.length : Int) := by omega
  have l1 : (ps.length : Int) ≤ (ps.length : Int) + 2 := by omega
  clear hp
  unfold cv
  simp only
  go_enter Tryz.func11, Tryz.ntmps11
  go_wp2_with fail
  refine (lent_any _ ps _ (HP.out.keep (grown_push (World.grownBy_alloc _ _ none) _)) hL).mono ?_
  rintro e w1 ⟨rfl, o1, g1⟩
  rw [World.size_alloc, World.size_alloc] at o1
  have A2 : CAt w1 w.heap.size ⟨nm, su, kd, co, po, he, tr, tk⟩ (.slice a ps.length c) := by
    refine CAt.keep ?_ g1
    exact CAt.keep (alloc_at w (ccs ⟨nm, su, kd, co, po, he, tr, tk⟩ (.slice a ps.length c)) 40) (World.grownBy_alloc _ _ none)
  have Z2 : CAt w1 (w.heap.size + 1) Hd.none (.slice none 0 0) := by
    refine CAt.keep ?_ g1
    have := alloc_at (w.alloc (.cells (ccs ⟨nm, su, kd, co, po, he, tr, tk⟩ (.slice a ps.length c)) 40)) (ccs Hd.none (.slice none 0 0)) 40
    rw [World.size_alloc] at this
    exact this
  have G2 : w.grownBy w1 none := grown_trans (grown_push (World.grownBy_alloc _ _ none) _) g1
  clear g1
  obtain ⟨c0, c1, c2, c3, c4, c5, c6, c7, c8⟩ := A2.cells
  obtain ⟨z0, z1, z2, z3, z4, z5, z6, z7, z8⟩ := Z2.cells
  have f := A2.free 8
  have e0 := Z2.free 0; have e1 := Z2.free 1; have e2 := Z2.free 2; have e3 := Z2.free 3; have e4 := Z2.free 4; have e5 := Z2.free 5; have e6 := Z2.free 6; have e7 := Z2.free 7; have e8 := Z2.free 8
  simp only [Hd.none] at c0 c1 c2 c3 c4 c5 c6 c7 c8 z0 z1 z2 z3 z4 z5 z6 z7 z8
  have HO : Hid (POwn w1 (w.heap.size + 1 + 1) (.slice (some ⟨w.heap.size + 1 + 1, 0, none⟩) (ps.length + 2) (ps.length + 2)) (ps ++ [mkP, mkP])) := o1
  have HG : Hid (w.grownBy w1 none) := G2
  clear A2 Z2 G2 o1 HP
  go_wp2
  refine bodyPost_ret (v := .tuple #[.agg #[.string nm, .int .u8 su, .int .u8 kd, .int .i64 co, .int .i64 po, .int .i64 he, .int .u16 tr, .bool tk, .slice (some ⟨w.heap.size + 1 + 1, 0, none⟩) ps.length (ps.length + 2)], .slice (some ⟨w.heap.size + 1 + 1, 0, none⟩) (ps.length + 2) (ps.length + 2)]) (by simp [results, Tryz.results11, go_sem, z0, z1, z2, z3, z4, z5, z6, z7, z8]) rfl ⟨w.heap.size + 1 + 1, rfl, by omega, ?_, ?_⟩
  · exact ((HO.out.keep (grown_set _ _ 8 _) (fun x e => by cases e; omega)).keep (row_st9 _ (w.heap.size + 1) _ _ _ _ _ _ _ _ _) (fun x e => by cases e; omega)).big (by omega)
  · exact grown_own (grown_own HG.out (grown_set _ _ 8 _) (fun x e => by cases e; exact Nat.le_refl _)) (row_st9 _ (w.heap.size + 1) _ _ _ _ _ _ _ _ _) (fun x e => by cases e; omega)
end Go.Proofs.YtpceelbphpfciaaGreatDoor
