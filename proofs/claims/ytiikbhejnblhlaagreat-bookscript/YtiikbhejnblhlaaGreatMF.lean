/-
  CopyParts: the same parts, in new memory.
  LentParts, SameParts, KeptParts: a list is lent with two more behind it; two lists are held against each other; a lent list is as it was.
  KeptParts: is a lent list as it was? LentCard: a card with its parts lent.
  Lists of parts that are written over: OverParts; markParts.
-/
import Derived.Test.YtiikbhejnblhlaaGreatMB
import Derived.Test.YtiikbhejnblhlaaGreatBok
import Derived.OwnWalk
namespace Go.Proofs.YtiikbhejnblhlaaGreat
open Go.RowKit

set_option maxHeartbeats 1000000 in
/-- CopyParts: the same parts, in new memory. -/
theorem copy_any (v : Value) (ps : List Pt) (w : World) (h : PsAt w v ps) (hb : ps.length * 40 ≤ 140737488355328) : Calls Tryz.prog 64 #[v] w fun e w' => ∃ u, e = .returned u ∧ POwn w' w.heap.size u ps ∧ w.grownBy w' none := by
  obtain ⟨i0, hi, hz0, hz1, hz2⟩ := info_of Tryz.info83
  go_enter Tryz.func64, Tryz.ntmps64
  rcases h with ⟨rfl, rfl⟩ | ⟨ad, cap, rfl, hc, h⟩
  · go_wp2
    go_ret
    exact ⟨_, rfl, POwn.nil _ _, grown_refl _ _⟩
  · go_wp2_with (at_builtin; refine wpList_append_own_at _ rfl _ _ 34 rfl w.heap.size 83 i0 _ 8 40 Tryz.underlying34 hi hz0 hz1 hz2 rfl (by decide) _ 0 [] rfl (POwn.nil w _) ad ps.length cap (pcells ps) rfl (pcells_len ps) h (pcells_one ps) (by unfold maxLen; omega) (by rw [Nat.zero_add]; exact hb) (Nat.le_refl _) ?_; intro v1 w1 o1 g1 _ _)
    go_ret
    refine ⟨_, rfl, ?_, g1⟩
    simpa [POwn] using o1
end Go.Proofs.YtiikbhejnblhlaaGreat
namespace Go.Proofs.YtiikbhejnblhlaaGreat
open Go.RowKit

def mkP : Pt := ⟨0, 0, 0, 0, 0, 0, 0, ⟨#[109, 97, 114, 107]⟩⟩
theorem mk_cells {w : World} {g : Nat} (h : w.heap[g]? = some (.cells #[.int .u8 0, .int .u8 0, .int .u8 0, .int .i64 0, .int .u8 0, .int .u8 0, .int .u8 0, .string ⟨#[109, 97, 114, 107]⟩, .int .u8 0, .int .u8 0, .int .u8 0, .int .i64 0, .int .u8 0, .int .u8 0, .int .u8 0, .string ⟨#[109, 97, 114, 107]⟩] 83 (0, 0))) : ∀ j u, (pcells [mkP, mkP])[j]? = some u → w.cell? ((⟨g, 0, none⟩ : Addr).add j) = some u := fun j u hu => by
  rw [add_plain, Nat.zero_add, block_cell h]
  simpa [pcells, pvs, mkP] using hu
theorem own_app {w : World} {base : Nat} {v : Value} {a b : List Pt} (h : w.ownsRow base 83 8 v (a.length + b.length) (pcells a ++ pcells b)) : POwn w base v (a ++ b) := by
  unfold POwn
  rw [List.length_append, pcells_app]
  exact h
set_option maxRecDepth 100000 in
set_option maxHeartbeats 2000000 in
theorem lent_any (v : Value) (ps : List Pt) (w : World) (h : PsAt w v ps) (hb : (ps.length + 2) * 40 ≤ 140737488355328) : Calls Tryz.prog 60 #[v] w fun e w' => e = .returned (.slice (some ⟨w.heap.size, 0, none⟩) (ps.length + 2) (ps.length + 2)) ∧ POwn w' w.heap.size (.slice (some ⟨w.heap.size, 0, none⟩) (ps.length + 2) (ps.length + 2)) (ps ++ [mkP, mkP]) ∧ w.grownBy w' none := by
  obtain ⟨i0, hi, hz0, hz1, hz2⟩ := info_of Tryz.info83
  have hw : wrap64 ((ps.length : Int) + 2) = (ps.length : Int) + 2 := by unfold wrap64; omega
  have hC : Hid (((ps.length : Int) + 2) = ((ps.length + 2 : Nat) : Int)) := by unfold Hid; omega
  have hB : Hid (i0.bytes * (ps.length + 2) ≤ 281474976710656) := by unfold Hid; rw [hz2]; omega
  have hM : Hid (ps.length + 2 ≤ maxLen) := by unfold Hid maxLen; omega
  have hb : Hid ((ps.length + 2) * 40 ≤ 140737488355328) := hb
  have hb : Hid ((ps.length + 2) * 40 ≤ 140737488355328) := hb
  rcases h with ⟨rfl, rfl⟩ | ⟨ad, cap, rfl, hc, h⟩
  · go_enter Tryz.func60, Tryz.ntmps60
    go_wp2_with (first | (at_make; refine wpList_make_own _ rfl _ _ 34 rfl w.heap.size 83 i0 _ 8 Tryz.underlying34 hi hz0 hz1 .i64 .i64 _ 2 rfl rfl rfl (by rw [hz2]; decide) (by decide) (Nat.le_refl _) ?_; intro w1 o1 g1) | (at_builtin; refine wpList_append_own_none rfl (.tmp 8) (.tmp 9) 34 rfl w.heap.size 83 i0 8 Tryz.underlying34 hi _ 0 [] rfl o1 rfl ?_) | (at_builtin; refine wpList_append_fits _ rfl (.tmp 11) (.tmp 14) 34 rfl w.heap.size 83 i0 8 Tryz.underlying34 hi hz1 w.heap.size 0 2 [] rfl (o1.alloc _) ⟨w1.heap.size, 0, none⟩ 2 2 (pcells [mkP, mkP]) rfl rfl (mk_cells (alloc_at _ _ _)) (pcells_one _) (by decide) ?_; intro w3 o3 g3) | fail)
    go_ret
    have G : w.grownBy w3 none := grown_own (grown_push g1 _) g3 (fun x e => by cases e; exact Nat.le_refl _)
    exact ⟨rfl, o3, G⟩
  · have HS : Hid (∀ j u, (pcells ps)[j]? = some u → w.cell? (ad.add j) = some u) := h
    clear h hc
    go_enter Tryz.func60, Tryz.ntmps60
    go_wp2_with (first | (at_make; refine wpList_make_own _ rfl _ _ 34 rfl w.heap.size 83 i0 _ 8 Tryz.underlying34 hi hz0 hz1 .i64 .i64 _ (ps.length + 2) rfl rfl hC.out hB.out hM.out (Nat.le_refl _) ?_; intro w1 o1 g1) | (at_builtin; refine wpList_append_fits _ rfl (.tmp 8) (.tmp 9) 34 rfl w.heap.size 83 i0 8 Tryz.underlying34 hi hz1 w.heap.size 0 (ps.length + 2) [] rfl o1 ad ps.length cap (pcells ps) rfl (pcells_len ps) (fun j u hu => g1.cell (HS.out j u hu) (by simp)) (pcells_one ps) (by omega) ?_; intro w2 o2 g2; rw [Nat.zero_add, List.nil_append] at o2) | (at_builtin; refine wpList_append_fits _ rfl (.tmp 11) (.tmp 14) 34 rfl w.heap.size 83 i0 8 Tryz.underlying34 hi hz1 w.heap.size ps.length (ps.length + 2) (pcells ps) rfl (o2.alloc _) ⟨w2.heap.size, 0, none⟩ 2 2 (pcells [mkP, mkP]) rfl rfl (mk_cells (alloc_at _ _ _)) (pcells_one _) (by omega) ?_; intro w3 o3 g3) | fail)
    go_ret
    have G : w.grownBy w3 none := grown_own (grown_push (grown_own g1 g2 (fun x e => by cases e; exact Nat.le_refl _)) _) g3 (fun x e => by cases e; exact Nat.le_refl _)
    exact ⟨rfl, own_app o3, G⟩
end Go.Proofs.YtiikbhejnblhlaaGreat
namespace Go.Proofs.YtiikbhejnblhlaaGreat
open Go.RowKit

set_option maxRecDepth 100000 in
set_option maxHeartbeats 2000000 in
theorem kept_any (vf vl : Value) (full ps : List Pt) (w : World) (hf : PsAt w vf full) (hl : PsAt w vl ps) (hF : Small full.length) (hL : Fits ps.length) : Calls Tryz.prog 24 #[vf, vl] w fun e w' => e = .returned (.bool (samePs full (ps ++ [mkP, mkP]))) ∧ w.grownBy w' none := by
  obtain ⟨i0, hi, hz0, hz1, hz2⟩ := info_of Tryz.info83
  have HF : Hid (PsAt w vf full) := hf
  have HL : Hid (PsAt w vl ps) := hl
  obtain ⟨a, c, rfl⟩ := hf.form
  obtain ⟨b, d, rfl⟩ := hl.form
  clear hf hl
  go_enter Tryz.func24, Tryz.ntmps24
  go_wp2_with (first | (go_at_call 64; refine (copy_any _ ps _ HL.out hL.copy).mono ?_; rintro e w1 ⟨u, rfl, o1, g1⟩) | (at_builtin; refine wpList_append_own_at _ rfl (.tmp 7) (.tmp 10) 34 rfl w.heap.size 83 i0 _ 8 40 Tryz.underlying34 hi hz0 hz1 hz2 rfl (by decide) _ ps.length (pcells ps) rfl (World.ownsRow.alloc o1 _) ⟨w1.heap.size, 0, none⟩ 2 2 (pcells [mkP, mkP]) rfl rfl (mk_cells (alloc_at _ _ _)) (pcells_one _) (by unfold Fits at hL; unfold maxLen; omega) hL (Nat.le_trans g1.size (by rw [World.size_alloc]; exact Nat.le_succ _)) ?_; intro v3 w3 o3 g3 _ _; have G3 : w.grownBy w3 none := grown_own (grown_push g1 _) g3 (fun x e => POwn.block o1 x e); have O3 := own_app o3) | (go_at_call 59; refine (sameParts_any _ _ full (ps ++ [mkP, mkP]) _ (HF.out.keep G3) O3.at hF).mono ?_; rintro e w4 ⟨rfl, g4⟩) | fail)
  go_ret
  exact ⟨rfl, grown_trans G3 g4⟩

set_option maxRecDepth 100000 in
set_option maxHeartbeats 2000000 in
theorem lentCard_any (h : Hd) (v : Value) (ps : List Pt) (w : World) (hp : PsAt w v ps) (hL : Fits ps.length) : Calls Tryz.prog 22 #[cv h v] w fun e w' => ∃ g, e = .returned (.tuple #[cv h (.slice (some ⟨g, 0, none⟩) ps.length (ps.length + 2)), .slice (some ⟨g, 0, none⟩) (ps.length + 2) (ps.length + 2)]) ∧ w.heap.size ≤ g ∧ POwn w' w.heap.size (.slice (some ⟨g, 0, none⟩) (ps.length + 2) (ps.length + 2)) (ps ++ [mkP, mkP]) ∧ w.grownBy w' none := by
  have HP : Hid (PsAt w v ps) := hp
  obtain ⟨nm, su, kd, co, po, he, tr, tk⟩ := h
  obtain ⟨a, c, rfl⟩ := hp.form
  have l0 : (0 : Int) ≤ (ps.length : Int) := by omega
  have l1 : (ps.length : Int) ≤ (ps.length : Int) + 2 := by omega
  clear hp
  unfold cv
  simp only
  go_enter Tryz.func22, Tryz.ntmps22
  go_wp2_with fail
  refine (lent_any _ ps _ (HP.out.keep (grown_push (World.grownBy_alloc _ _ none) _)) hL).mono ?_
  rintro e w1 ⟨rfl, o1, g1⟩
  rw [World.size_alloc, World.size_alloc] at o1
  have A2 : CAt w1 w.heap.size ⟨nm, su, kd, co, po, he, tr, tk⟩ (.slice a ps.length c) := by
    refine CAt.keep ?_ g1
    exact CAt.keep (alloc_at w (ccs ⟨nm, su, kd, co, po, he, tr, tk⟩ (.slice a ps.length c)) 36) (World.grownBy_alloc _ _ none)
  have Z2 : CAt w1 (w.heap.size + 1) Hd.none (.slice none 0 0) := by
    refine CAt.keep ?_ g1
    have := alloc_at (w.alloc (.cells (ccs ⟨nm, su, kd, co, po, he, tr, tk⟩ (.slice a ps.length c)) 36)) (ccs Hd.none (.slice none 0 0)) 36
    rw [World.size_alloc] at this
    exact this
  have G2 : w.grownBy w1 none := grown_trans (grown_push (World.grownBy_alloc _ _ none) _) g1
  clear g1
  obtain ⟨c0, c1, c2, c3, c4, c5, c6, c7, c8⟩ := A2.cells
  obtain ⟨z0, z1, z2, z3, z4, z5, z6, z7, z8⟩ := Z2.cells
  have f := A2.free 8
  have e0 := Z2.free 0; have e1 := Z2.free 1; have e2 := Z2.free 2; have e3 := Z2.free 3; have e4 := Z2.free 4; have e5 := Z2.free 5; have e6 := Z2.free 6; have e7 := Z2.free 7; have e8 := Z2.free 8
  simp only [Hd.none] at c0 c1 c2 c3 c4 c5 c6 c7 c8 z0 z1 z2 z3 z4 z5 z6 z7 z8
  have HO : Hid (POwn w1 (w.heap.size + 1 + 1) (.slice (some ⟨w.heap.size + 1 + 1, 0, none⟩) (ps.length + 2) (ps.length + 2)) (ps ++ [mkP, mkP])) := o1
  have HG : Hid (w.grownBy w1 none) := G2
  clear A2 Z2 G2 o1 HP
  go_wp2
  refine bodyPost_ret (v := .tuple #[.agg #[.string nm, .int .u8 su, .int .u8 kd, .int .i64 co, .int .i64 po, .int .i64 he, .int .u16 tr, .bool tk, .slice (some ⟨w.heap.size + 1 + 1, 0, none⟩) ps.length (ps.length + 2)], .slice (some ⟨w.heap.size + 1 + 1, 0, none⟩) (ps.length + 2) (ps.length + 2)]) (by simp [results, Tryz.results22, go_sem, z0, z1, z2, z3, z4, z5, z6, z7, z8]) rfl ⟨w.heap.size + 1 + 1, rfl, by omega, ?_, ?_⟩
  · exact ((HO.out.keep (grown_set _ _ 8 _) (fun x e => by cases e; omega)).keep (row_st9 _ (w.heap.size + 1) _ _ _ _ _ _ _ _ _) (fun x e => by cases e; omega)).big (by omega)
  · exact grown_own (grown_own HG.out (grown_set _ _ 8 _) (fun x e => by cases e; exact Nat.le_refl _)) (row_st9 _ (w.heap.size + 1) _ _ _ _ _ _ _ _ _) (fun x e => by cases e; omega)
end Go.Proofs.YtiikbhejnblhlaaGreat
namespace Go.Proofs.YtiikbhejnblhlaaGreat
open Go.RowKit

/-- A block that has room for so many parts. -/
def RoomAt (w : World) (g cap : Nat) : Prop := ∃ cs, w.heap[g]? = some (.cells cs 83 (0, 0)) ∧ cs.size = cap * 8
theorem RoomAt.keep {w w' : World} {g cap : Nat} {r : Option Nat} (h : RoomAt w g cap) (k : w.grownBy w' r) (hr : some g ≠ r) : RoomAt w' g cap := by
  obtain ⟨cs, h1, h2⟩ := h
  exact ⟨cs, grown_keep k h1 hr, h2⟩
theorem RoomAt.cell {w : World} {g cap : Nat} (h : RoomAt w g cap) {i : Nat} (hi : i < cap * 8) : ∃ u, w.cell? ⟨g, i, none⟩ = some u := by
  obtain ⟨cs, h1, h2⟩ := h
  exact ⟨cs[i]'(by omega), by rw [block_cell h1]; exact Array.getElem?_eq_getElem (by omega)⟩
theorem RoomAt.free {w : World} {g cap : Nat} (h : RoomAt w g cap) (i : Nat) : w.frozen? ⟨g, i, none⟩ = false := by
  obtain ⟨cs, h1, _⟩ := h
  exact block_free h1 i
theorem RoomAt.set {w : World} {g cap : Nat} (h : RoomAt w g cap) (i : Nat) (v : Value) : RoomAt (w.setCell ⟨g, i, none⟩ v) g cap := by
  obtain ⟨cs, h1, h2⟩ := h
  exact ⟨cs.setIfInBounds i v, block_set h1 i v, by simpa using h2⟩
theorem own_room {w : World} {base g n cap : Nat} {ps : List Pt} (h : POwn w base (.slice (some ⟨g, 0, none⟩) n cap) ps) : RoomAt w g cap ∧ cap ≤ maxLen ∧ base ≤ g := by
  obtain ⟨_, ⟨e, _⟩ | ⟨g', cap', cur, e, hb, hh, _, hc, hz, _⟩⟩ := h
  · cases e
  · injection e with e1 _ e3
    injection e1 with e1
    injection e1 with e1
    subst e1
    subst e3
    exact ⟨⟨cur, hh, hz⟩, hc, hb⟩
def lim (n : Nat) : Prop := n ≤ maxLen
theorem lim.wrap {n k : Nat} (h : lim n) (hk : k < n) : wrap64 ((k : Int) + 1) = (k : Int) + 1 := by unfold lim maxLen at h; unfold wrap64; omega
set_option maxRecDepth 100000 in
set_option maxHeartbeats 1000000 in
theorem over_any (g n cap : Nat) (w : World) (R : RoomAt w g cap) (hn : n ≤ cap) (hm : lim cap) : Calls Tryz.prog 21 #[.slice (some ⟨g, 0, none⟩) n cap] w fun e w' => (∃ v, e = .returned v) ∧ RoomAt w' g cap ∧ w.grownBy w' (some g) := by
  have HR : Hid (RoomAt w g cap) := R
  clear R
  go_enter Tryz.func21, Tryz.ntmps21
  go_wp2_with fail
  go_loopw [2] (fun i wr => ∃ k : Nat, k ≤ n ∧ i = .int .i64 k ∧ RoomAt wr g cap ∧ w.grownBy wr (some g)) (fun i _ => n - (intOf i).toNat)
  case atStart => exact ⟨0, Nat.zero_le _, rfl, HR.out, grown_refl _ _⟩
  case round =>
    clear HR
    obtain ⟨k, hk, rfl, R, G⟩ := hrel
    have HR : Hid (RoomAt wr g cap) := R
    have HG : Hid (w.grownBy wr (some g)) := G
    clear R G
    rcases (show k = n ∨ k < n from by omega) with rfl | hlt
    · clear hk hn hm
      go_wp2
      go_end0
      exact ⟨⟨_, rfl⟩, HR.out, HG.out⟩
    · have hlt' : (k : Int) < (n : Int) := by omega
      have hk0 : (0 : Int) ≤ (k : Int) := by omega
      have hw := hm.wrap (Nat.lt_of_lt_of_le hlt hn)
      obtain ⟨u0, c0⟩ := HR.out.cell (i := k * 8) (by omega)
      obtain ⟨u1, c1⟩ := HR.out.cell (i := k * 8 + 1) (by omega)
      obtain ⟨u2, c2⟩ := HR.out.cell (i := k * 8 + 2) (by omega)
      obtain ⟨u3, c3⟩ := HR.out.cell (i := k * 8 + 3) (by omega)
      obtain ⟨u4, c4⟩ := HR.out.cell (i := k * 8 + 4) (by omega)
      obtain ⟨u5, c5⟩ := HR.out.cell (i := k * 8 + 5) (by omega)
      obtain ⟨u6, c6⟩ := HR.out.cell (i := k * 8 + 6) (by omega)
      obtain ⟨u7, c7⟩ := HR.out.cell (i := k * 8 + 7) (by omega)
      have cf := fun i => HR.out.free i
      have HN : Hid (n ≤ cap) := hn
      clear hn hk
      go_wp2_with fail
      go_roundw
      case rel => exact ⟨k + 1, hlt, by go_num, (((((((HR.out.set _ _).set _ _).set _ _).set _ _).set _ _).set _ _).set _ _).set _ _, grown_trans HG.out (grown_trans (grown_trans (grown_trans (grown_trans (grown_trans (grown_trans (grown_trans (grown_set _ _ _ _) (grown_set _ _ _ _)) (grown_set _ _ _ _)) (grown_set _ _ _ _)) (grown_set _ _ _ _)) (grown_set _ _ _ _)) (grown_set _ _ _ _)) (grown_set _ _ _ _))⟩
      case measure => first | exact meas_next hlt | (rw [hw]; exact meas_next hlt)
/-- What is written at place k of list i. -/
def mkN (i k : Int) : Int := wrap64 (wrap64 (wrap64 (-1000003 * i) - k) - 5)
def mkM (i k : Int) : Pt := ⟨0, 0, 0, mkN i k, 0, 0, 0, ⟨#[]⟩⟩
end Go.Proofs.YtiikbhejnblhlaaGreat
