/-
  card.Copy: a card in memory of its own.
-/
import Derived.Test.YtpoicbefemjckaaHdr
import Derived.Deep.Cut
namespace Go.Proofs.Ytpoicbefemjckaa
open Go.RowKit

theorem CAt.keepR {w w' : World} {b : Nat} {h : Hd} {v : Value} {r : Option Nat} (k : CAt w b h v) (g : w.grownBy w' r) (hr : some b ≠ r) : CAt w' b h v := grown_keep g k hr
set_option maxRecDepth 100000 in
set_option maxHeartbeats 1000000 in
theorem ccopy_any (h : Hd) (v : Value) (ps : List Pt) (w : World) (hp : PsAt w v ps) (hb : ps.length * 40 ≤ 140737488355328) : Calls Try.prog 85 #[cv h v] w fun e w' => ∃ u, e = .returned (cv h u) ∧ POwn w' w.heap.size u ps ∧ w.grownBy w' none := by
  obtain ⟨i0, hi, hz0, hz1, hz2⟩ := info_of Try.info81
  obtain ⟨W2, hW2⟩ : ∃ W2, W2 = (w.alloc (.cells (ccs h v) 47)).alloc (.cells (ccs Hd.none (.slice none 0 0)) 47) := ⟨_, rfl⟩
  have G2 : w.grownBy W2 none := by rw [hW2]; exact grown_push (World.grownBy_alloc _ _ none) _
  have A2 : CAt W2 w.heap.size h v := by rw [hW2]; exact CAt.keep (alloc_at w _ _) (World.grownBy_alloc _ _ none)
  have Z2 : CAt W2 (w.heap.size + 1) Hd.none (.slice none 0 0) := by
    have := alloc_at (w.alloc (.cells (ccs h v) 47)) (ccs Hd.none (.slice none 0 0)) 47
    rw [World.size_alloc] at this
    rw [hW2]
    exact this
  have HA2 : Hid (CAt W2 w.heap.size h v) := A2
  have HZ2 : Hid (CAt W2 (w.heap.size + 1) Hd.none (.slice none 0 0)) := Z2
  have HG2 : Hid (w.grownBy W2 none) := G2
  have hs2 : w.heap.size + 2 ≤ W2.heap.size := by have := block_lt Z2; omega
  have HB : Hid (ps.length * 40 ≤ 140737488355328) := hb
  unfold ccs Hd.none at hW2
  clear G2 A2 Z2 hb
  rcases hp with ⟨rfl, rfl⟩ | ⟨ad, cap, rfl, hc, hcell⟩
  · unfold cv
    go_enter Try.func85, Try.ntmps85
    go_upto_region 1 with fail
    rw [← hW2]
    clear hW2
    obtain ⟨c0, c1, c2, c3, c4, c5, c6, c7, c8⟩ := HA2.out.cells
    have cf := fun i => HA2.out.free i
    obtain ⟨z0, z1, z2, z3, z4, z5, z6, z7, z8⟩ := HZ2.out.cells
    have zf := fun i => HZ2.out.free i
    simp only [Hd.none] at z0 z1 z2 z3 z4 z5 z6 z7 z8
    go_wp2_with fail
    refine bodyPost_ret (v := cv h (.slice none 0 0)) (by simp [results, Try.results85, go_sem, z0, z1, z2, z3, z4, z5, z6, z7, z8, cv]) rfl ⟨.slice none 0 0, rfl, POwn.nil _ _, ?_⟩
    exact grown_own (grown_own HG2.out (grown_set _ _ 8 _) (fun x e => by cases e; exact Nat.le_refl _)) (row_st9 _ (w.heap.size + 1) _ _ _ _ _ _ _ _ _) (fun x e => by cases e; omega)
  · have HS : Hid (∀ j u, (pcells ps)[j]? = some u → W2.cell? (ad.add j) = some u) := fun j u hu => HG2.out.cell (hcell j u hu) (by simp)
    clear hcell hc
    unfold cv
    go_enter Try.func85, Try.ntmps85
    go_upto_region 1 with fail
    rw [← hW2]
    clear hW2
    obtain ⟨c0, c1, c2, c3, c4, c5, c6, c7, c8⟩ := HA2.out.cells
    go_upto_region 2 with (at_builtin; refine wpList_append_own_at _ rfl (.const (.slice none 0 0)) (.tmp 4) 45 rfl W2.heap.size 81 i0 _ 8 40 Try.underlying45 hi hz0 hz1 hz2 rfl (by decide) _ 0 [] rfl (POwn.nil W2 _) ad ps.length cap (pcells ps) rfl (pcells_len ps) HS.out (pcells_one ps) (by have := HB.out; unfold maxLen; omega) (by rw [Nat.zero_add]; exact HB.out) (Nat.le_refl _) ?_; intro v5 w5 o5 g5 _ _; rw [Nat.zero_add, List.nil_append] at o5; have O5 : POwn w5 W2.heap.size v5 ps := o5; obtain ⟨a5, k5, rfl⟩ := O5.at.form; have HO5 : Hid (POwn w5 W2.heap.size (.slice a5 ps.length k5) ps) := O5; have A5 := HA2.out.keep g5; have Z5 := HZ2.out.keep g5; have af := fun i => A5.free i; have a8 := A5.cells.2.2.2.2.2.2.2.2; have HA5 : Hid (CAt w5 w.heap.size h (.slice (some ad) ps.length cap)) := A5; have HZ5 : Hid (CAt w5 (w.heap.size + 1) Hd.none (.slice none 0 0)) := Z5; have HG5 : Hid (w.grownBy w5 none) := grown_trans HG2.out g5; clear O5 A5 Z5 o5 c0 c1 c2 c3 c4 c5 c6 c7 c8)
    have A6 : CAt (w5.setCell ⟨w.heap.size, 8, none⟩ (.slice a5 ps.length k5)) w.heap.size h (.slice a5 ps.length k5) := block_set HA5.out 8 _
    have Z6 : CAt (w5.setCell ⟨w.heap.size, 8, none⟩ (.slice a5 ps.length k5)) (w.heap.size + 1) Hd.none (.slice none 0 0) := HZ5.out.keepR (grown_set _ _ _ _) (by simp)
    have HO6 : Hid (POwn (w5.setCell ⟨w.heap.size, 8, none⟩ (.slice a5 ps.length k5)) W2.heap.size (.slice a5 ps.length k5) ps) := HO5.out.keep (grown_set _ _ _ _) (fun x e => by cases e; omega)
    have HG6 : Hid (w.grownBy (w5.setCell ⟨w.heap.size, 8, none⟩ (.slice a5 ps.length k5)) none) := grown_own HG5.out (grown_set _ _ _ _) (fun x e => by cases e; exact Nat.le_refl _)
    clear HA5 HZ5 HO5 HG5 af a8
    obtain ⟨W6, hW6⟩ : ∃ W6, W6 = w5.setCell ⟨w.heap.size, 8, none⟩ (.slice a5 ps.length k5) := ⟨_, rfl⟩
    rw [← hW6] at A6 Z6 HO6 HG6 ⊢
    clear hW6
    obtain ⟨c0, c1, c2, c3, c4, c5, c6, c7, c8⟩ := A6.cells
    obtain ⟨z0, z1, z2, z3, z4, z5, z6, z7, z8⟩ := Z6.cells
    have zf := fun i => Z6.free i
    simp only [Hd.none] at z0 z1 z2 z3 z4 z5 z6 z7 z8
    have HF : Hid (POwn (((((((((W6.setCell ⟨w.heap.size + 1, 0, none⟩ (.string h.nm)).setCell ⟨w.heap.size + 1, 1, none⟩ (.int .u8 h.su)).setCell ⟨w.heap.size + 1, 2, none⟩ (.int .u8 h.kd)).setCell ⟨w.heap.size + 1, 3, none⟩ (.int .i64 h.co)).setCell ⟨w.heap.size + 1, 4, none⟩ (.int .i64 h.po)).setCell ⟨w.heap.size + 1, 5, none⟩ (.int .i64 h.he)).setCell ⟨w.heap.size + 1, 6, none⟩ (.int .u16 h.tr)).setCell ⟨w.heap.size + 1, 7, none⟩ (.bool h.tk)).setCell ⟨w.heap.size + 1, 8, none⟩ (.slice a5 ps.length k5)) w.heap.size (.slice a5 ps.length k5) ps) := (HO6.out.keep (row_st9 _ (w.heap.size + 1) _ _ _ _ _ _ _ _ _) (fun x e => by cases e; omega)).big (by omega)
    clear A6 Z6 HO6
    go_wp2
    refine bodyPost_ret (v := cv h (.slice a5 ps.length k5)) (by simp [results, Try.results85, go_sem, z0, z1, z2, z3, z4, z5, z6, z7, z8, cv]) rfl ⟨.slice a5 ps.length k5, rfl, HF.out, ?_⟩
    exact grown_own HG6.out (row_st9 _ (w.heap.size + 1) _ _ _ _ _ _ _ _ _) (fun x e => by cases e; omega)
end Go.Proofs.Ytpoicbefemjckaa
