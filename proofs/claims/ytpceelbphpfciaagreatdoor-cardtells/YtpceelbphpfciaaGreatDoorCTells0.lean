/-
  card.Copy: a card in memory of its own; the document's own Means.
-/
import Derived.Test.YtpceelbphpfciaaGreatDoorCMeans
import Derived.Test.YtpceelbphpfciaaGreatDoorRHead
import Derived.Deep.Cut
namespace Go.Proofs.YtpceelbphpfciaaGreatDoor
open Go.RowKit

set_option maxRecDepth 100000 in
set_option maxHeartbeats 1000000 in
theorem ccopy_any (h : Hd) (v : Value) (ps : List Pt) (w : World) (hp : PsAt w v ps) (hb : ps.length * 40 ≤ 140737488355328) : Calls Tryz.prog 14 #[cv h v] w fun e w' => ∃ u, e = .returned (cv h u) ∧ POwn w' w.heap.size u ps ∧ w.grownBy w' none := by
  obtain ⟨i0, hi, hz0, hz1, hz2⟩ := info_of Tryz.info29
  obtain ⟨W2, hW2⟩ : ∃ W2, W2 = (w.alloc (.cells (ccs h v) 40)).alloc (.cells (ccs Hd.none (.slice none 0 0)) 40) := ⟨_, rfl⟩
  have G2 : w.grownBy W2 none := by rw [hW2]; exact grown_push (World.grownBy_alloc _ _ none) _
  have A2 : CAt W2 w.heap.size h v := by rw [hW2]; exact CAt.keep (alloc_at w _ _) (World.grownBy_alloc _ _ none)
  have Z2 : CAt W2 (w.heap.size + 1) Hd.none (.slice none 0 0) := by
    have := alloc_at (w.alloc (.cells (ccs h v) 40)) (ccs Hd.none (.slice none 0 0)) 40
    rw [World.size_alloc] at this
    rw [hW2]
    exact this
  have HA2 : Hid (CAt W2 w.heap.size h v) := A2
  have HZ2 : Hid (CAt W2 (w.heap.size + 1) Hd.none (.slice none 0 0)) := Z2
  have HG2 : Hid (w.grownBy W2 none) := G2
  have hs2 : w.heap.size + 2 ≤ W2.heap.size := by have := block_lt Z2; omega
  have HB : Hid (ps.length * 40 ≤ 140737488355328) := hb
  unfold ccs Hd.none at hW2
  clear G2 A2 Z2 hb
  rcases hp with ⟨rfl, rfl⟩ | ⟨ad, cap, rfl, hc, hcell⟩
  · unfold cv
    go_enter Tryz.func14, Tryz.ntmps14
    go_upto_region 1 with fail
    rw [← hW2]
    clear hW2
    obtain ⟨c0, c1, c2, c3, c4, c5, c6, c7, c8⟩ := HA2.out.cells
    have cf := fun i => HA2.out.free i
    obtain ⟨z0, z1, z2, z3, z4, z5, z6, z7, z8⟩ := HZ2.out.cells
    have zf := fun i => HZ2.out.free i
    simp only [Hd.none] at z0 z1 z2 z3 z4 z5 z6 z7 z8
    go_wp2_with fail
    refine bodyPost_ret (v := cv h (.slice none 0 0)) (by simp [results, Tryz.results14, go_sem, z0, z1, z2, z3, z4, z5, z6, z7, z8, cv]) rfl ⟨.slice none 0 0, rfl, POwn.nil _ _, ?_⟩
    exact grown_own (grown_own HG2.out (grown_set _ _ 8 _) (fun x e => by cases e; exact Nat.le_refl _)) (row_st9 _ (w.heap.size + 1) _ _ _ _ _ _ _ _ _) (fun x e => by cases e; omega)
  · have HS : Hid (∀ j u, (pcells ps)[j]? = some u → W2.cell? (ad.add j) = some u) := fun j u hu => HG2.out.cell (hcell j u hu) (by simp)
    clear hcell hc
    unfold cv
    go_enter Tryz.func14, Tryz.ntmps14
    go_upto_region 1 with fail
    rw [← hW2]
    clear hW2
    obtain ⟨c0, c1, c2, c3, c4, c5, c6, c7, c8⟩ := HA2.out.cells
    go_upto_region 2 with (at_builtin; refine wpList_append_own_at _ rfl (.const (.slice none 0 0)) (.tmp 4) 38 rfl W2.heap.size 29 i0 _ 8 40 Tryz.underlying38 hi hz0 hz1 hz2 rfl (by decide) _ 0 [] rfl (POwn.nil W2 _) ad ps.length cap (pcells ps) rfl (pcells_len ps) HS.out (pcells_one ps) (by have := HB.out; unfold maxLen; omega) (by rw [Nat.zero_add]; exact HB.out) (Nat.le_refl _) ?_; intro v5 w5 o5 g5 _ _; rw [Nat.zero_add, List.nil_append] at o5; have O5 : POwn w5 W2.heap.size v5 ps := o5; obtain ⟨a5, k5, rfl⟩ := O5.at.form; have HO5 : Hid (POwn w5 W2.heap.size (.slice a5 ps.length k5) ps) := O5; have A5 := HA2.out.keep g5; have Z5 := HZ2.out.keep g5; have af := fun i => A5.free i; have a8 := A5.cells.2.2.2.2.2.2.2.2; have HA5 : Hid (CAt w5 w.heap.size h (.slice (some ad) ps.length cap)) := A5; have HZ5 : Hid (CAt w5 (w.heap.size + 1) Hd.none (.slice none 0 0)) := Z5; have HG5 : Hid (w.grownBy w5 none) := grown_trans HG2.out g5; clear O5 A5 Z5 o5 c0 c1 c2 c3 c4 c5 c6 c7 c8)
    have A6 : CAt (w5.setCell ⟨w.heap.size, 8, none⟩ (.slice a5 ps.length k5)) w.heap.size h (.slice a5 ps.length k5) := block_set HA5.out 8 _
    have Z6 : CAt (w5.setCell ⟨w.heap.size, 8, none⟩ (.slice a5 ps.length k5)) (w.heap.size + 1) Hd.none (.slice none 0 0) := HZ5.out.keepR (grown_set _ _ _ _) (by simp)
    have HO6 : Hid (POwn (w5.setCell ⟨w.heap.size, 8, none⟩ (.slice a5 ps.length k5)) W2.heap.size (.slice a5 ps.length k5) ps) := HO5.out.keep (grown_set _ _ _ _) (fun x e => by cases e; omega)
    have HG6 : Hid (w.grownBy (w5.setCell ⟨w.heap.size, 8, none⟩ (.slice a5 ps.length k5)) none) := grown_own HG5.out (grown_set _ _ _ _) (fun x e => by cases e; exact Nat.le_refl _)
    clear HA5 HZ5 HO5 HG5 af a8
    obtain ⟨W6, hW6⟩ : ∃ W6, W6 = w5.setCell ⟨w.heap.size, 8, none⟩ (.slice a5 ps.length k5) := ⟨_, rfl⟩
    rw [← hW6] at A6 Z6 HO6 HG6 ⊢
    clear hW6
    obtain ⟨c0, c1, c2, c3, c4, c5, c6, c7, c8⟩ := A6.cells
    obtain ⟨z0, z1, z2, z3, z4, z5, z6, z7, z8⟩ := Z6.cells
    have zf := fun i => Z6.free i
    simp only [Hd.none] at z0 z1 z2 z3 z4 z5 z6 z7 z8
    have HF : Hid (POwn (((((((((W6.setCell ⟨w.heap.size + 1, 0, none⟩ (.string h.nm)).setCell ⟨w.heap.size + 1, 1, none⟩ (.int .u8 h.su)).setCell ⟨w.heap.size + 1, 2, none⟩ (.int .u8 h.kd)).setCell ⟨w.heap.size + 1, 3, none⟩ (.int .i64 h.co)).setCell ⟨w.heap.size + 1, 4, none⟩ (.int .i64 h.po)).setCell ⟨w.heap.size + 1, 5, none⟩ (.int .i64 h.he)).setCell ⟨w.heap.size + 1, 6, none⟩ (.int .u16 h.tr)).setCell ⟨w.heap.size + 1, 7, none⟩ (.bool h.tk)).setCell ⟨w.heap.size + 1, 8, none⟩ (.slice a5 ps.length k5)) w.heap.size (.slice a5 ps.length k5) ps) := (HO6.out.keep (row_st9 _ (w.heap.size + 1) _ _ _ _ _ _ _ _ _) (fun x e => by cases e; omega)).big (by omega)
    clear A6 Z6 HO6
    go_wp2
    refine bodyPost_ret (v := cv h (.slice a5 ps.length k5)) (by simp [results, Tryz.results14, go_sem, z0, z1, z2, z3, z4, z5, z6, z7, z8, cv]) rfl ⟨.slice a5 ps.length k5, rfl, HF.out, ?_⟩
    exact grown_own HG6.out (row_st9 _ (w.heap.size + 1) _ _ _ _ _ _ _ _ _) (fun x e => by cases e; omega)
set_option maxRecDepth 100000 in
set_option maxHeartbeats 1000000 in
/-- The document's own Means. -/
theorem rmeans_any (h : Hd) (v : Value) (ps : List Pt) (w : World) (hp : PsAt w v ps) (hm : Small ps.length) : Calls Tryz.prog 18 #[cv h v] w fun e w' => e = .returned (.bool (cmeans ps)) ∧ w.grownBy w' none := by
  have HP : Hid (PsAt w v ps) := hp
  obtain ⟨a, cap, rfl⟩ := hp.form
  have HC0 : Hid (CAt (w.alloc (.cells (ccs h (.slice a ps.length cap)) 40)) w.heap.size h (.slice a ps.length cap)) := alloc_at w _ _
  have HG0 : Hid (w.grownBy (w.alloc (.cells (ccs h (.slice a ps.length cap)) 40)) none) := World.grownBy_alloc _ _ none
  obtain ⟨res, hres⟩ : ∃ res, cmeans ps = res := ⟨_, rfl⟩
  have HR : Hid (AnyIs ps 0 res) := hres
  rw [hres]
  clear hp hres
  unfold ccs at HC0 HG0
  by_cases h0 : ps.length = 0
  · have e : res = false := by
      have := HR.out
      unfold AnyIs at this
      rw [List.eq_nil_of_length_eq_zero h0] at this
      exact this.symm
    subst e
    rw [h0] at HC0 HG0 ⊢
    clear HR
    unfold cv
    go_enter Tryz.func18, Tryz.ntmps18
    go_wp2_with fail
    obtain ⟨W0, hW0⟩ : ∃ W0, W0 = w.alloc (.cells #[.string h.nm, .int .u8 h.su, .int .u8 h.kd, .int .i64 h.co, .int .i64 h.po, .int .i64 h.he, .int .u16 h.tr, .bool h.tk, .slice a 0 cap] 40) := ⟨_, rfl⟩
    rw [← hW0] at HC0 HG0 ⊢
    clear hW0
    have c8 := HC0.out.cells.2.2.2.2.2.2.2.2
    go_loopw [3] (fun i wr => i = .int .i64 0 ∧ wr = W0) (fun _ _ => 0)
    case atStart => exact ⟨rfl, rfl⟩
    case round =>
      obtain ⟨rfl, rfl⟩ := hrel
      go_wp2
      go_ret
      exact ⟨rfl, HG0.out⟩
  · obtain ⟨g, o, cap2, ev, PA⟩ := HP.out.part (by omega)
    injection ev with e1 _ e3
    subst e1
    subst e3
    have HA : Hid (∀ j p, ps[j]? = some p → P8 w g (o + j * 8) p) := PA
    clear PA h0 HP
    unfold cv
    go_enter Tryz.func18, Tryz.ntmps18
    go_wp2_with fail
    go_loopw [3] (fun i wr => ∃ k : Nat, k ≤ ps.length ∧ i = .int .i64 k ∧ AnyIs ps k res ∧ CAt wr w.heap.size h (.slice (some ⟨g, o, none⟩) ps.length cap) ∧ w.grownBy wr none) (fun i _ => ps.length - (intOf i).toNat)
    case atStart => exact ⟨0, Nat.zero_le _, rfl, HR.out, HC0.out, HG0.out⟩
    case round =>
      obtain ⟨k, hk, rfl, R, C, G⟩ := hrel
      have HG : Hid (w.grownBy wr none) := G
      have HC : Hid (CAt wr w.heap.size h (.slice (some ⟨g, o, none⟩) ps.length cap)) := C
      have HQ : Hid (AnyIs ps k res) := R
      clear G C R HR HC0 HG0
      have c8 := HC.out.cells.2.2.2.2.2.2.2.2
      rcases (show k = ps.length ∨ k < ps.length from by omega) with rfl | hlt
      · have e : res = false := by
          have := HQ.out
          unfold AnyIs at this
          rw [List.drop_length] at this
          exact this.symm
        clear HQ hk hm
        subst e
        go_wp2
        go_ret
        exact ⟨rfl, HG.out⟩
      · have hlt' : (k : Int) < (ps.length : Int) := by omega
        have hk0 : (0 : Int) ≤ (k : Int) := by omega
        have hw := hm.wrap hlt
        obtain ⟨p, hp⟩ : ∃ p, ps[k]? = some p := ⟨_, List.getElem?_eq_getElem hlt⟩
        obtain ⟨p0, p1, p2, p3, p4, p5, p6, p7⟩ := (HA.out k p hp).keep HG.out
        have HD : Hid (cmeans (ps.drop k) = (mn1 p || cmeans (ps.drop (k + 1)))) := any_drop hp
        clear hp p1 p3 p4 p5 p6 p7
        obtain ⟨b1, hb1⟩ : ∃ b1, b1 = (p.wn == 1) := ⟨_, rfl⟩
        obtain ⟨b2, hb2⟩ : ∃ b2, b2 = (p.wm == 3) := ⟨_, rfl⟩
        have q1 := hb1.symm
        have q2 := hb2.symm
        have HM : Hid (mn1 p = (b1 && b2)) := by unfold Hid mn1; rw [hb1, hb2]
        clear hb1 hb2
        cases b1 with
        | true =>
          cases b2 with
          | true =>
            have e : res = true := by
              have := HQ.out
              unfold AnyIs at this
              rw [HD.out, HM.out] at this
              simpa using this.symm
            clear HD HQ HM
            subst e
            go_wp2
            go_ret
            exact ⟨rfl, HG.out⟩
          | false =>
            have HN : Hid (AnyIs ps (k + 1) res) := by
              have := HQ.out
              unfold AnyIs at this
              rw [HD.out, HM.out] at this
              simpa [Hid, AnyIs] using this
            clear HD HQ HM
            go_wp2_with fail
            go_roundw
            case rel => exact ⟨k + 1, hlt, by first | rfl | (rw [hw]; rfl), HN.out, HC.out, HG.out⟩
            case measure => first | exact meas_next hlt | (rw [hw]; exact meas_next hlt)
        | false =>
          have HN : Hid (AnyIs ps (k + 1) res) := by
            have := HQ.out
            unfold AnyIs at this
            rw [HD.out, HM.out] at this
            simpa [Hid, AnyIs] using this
          clear HD HQ HM
          go_wp2_with fail
          go_roundw
          case rel => exact ⟨k + 1, hlt, by first | rfl | (rw [hw]; rfl), HN.out, HC.out, HG.out⟩
          case measure => first | exact meas_next hlt | (rw [hw]; exact meas_next hlt)
end Go.Proofs.YtpceelbphpfciaaGreatDoor
