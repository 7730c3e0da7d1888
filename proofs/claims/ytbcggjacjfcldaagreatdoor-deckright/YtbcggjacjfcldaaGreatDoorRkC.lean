/-
  The document's own Check of a deck, of every book and list.
-/
import Derived.Test.YtbcggjacjfcldaaGreatDoorRkB
import Derived.Deep.RegionHeld3
import Derived.Maps.RangeWalk
namespace Go.Proofs.YtbcggjacjfcldaaGreatDoor
open Go.RowKit

set_option maxHeartbeats 4000000 in
set_option maxRecDepth 100000 in
theorem rcheck_open (ok : Nat → Prop) (r : Nat) (v : Value) (p : Pl) (fs : List Ent) (a : Option Addr) (n c : Nat) (w : World) (B : RB ok w r v p fs) (hp : p.shut = false) : Calls Tryz.prog 15 #[.pointer (some ⟨r, 0, none⟩), .slice a n c] w fun e w' => e = .returned (.agg #[.int .i64 2, .int .i64 (-1)]) ∧ w.grownBy w' none := by
  obtain ⟨W1, hW1⟩ : ∃ W1, W1 = w.alloc (.cells #[.int .i64 0, .int .i64 0] 34) := ⟨_, rfl⟩
  have HG1 : Hid (w.grownBy W1 none) := by rw [hW1]; exact World.grownBy_alloc _ _ none
  have HF1 : Hid (FAt W1 w.heap.size 0 0) := by rw [hW1]; exact alloc_at w _ _
  have HR := rfirst_no r v p hp W1 (B.rj.keep HG1.out)
  clear B hp
  go_enter Tryz.func15, Tryz.ntmps15
  go_upto_region 1 with fail
  rw [← hW1]
  clear hW1
  go_wp2_with fail
  refine HR.mono ?_
  rintro e w2 ⟨rfl, g2⟩
  obtain ⟨W3, hW3⟩ : ∃ W3, W3 = w2.alloc (.cells #[.int .i64 2, .int .i64 (-1)] 34) := ⟨_, rfl⟩
  have HG3 : Hid (w.grownBy W3 none) := by rw [hW3]; exact grown_push (grown_trans HG1.out g2) _
  have HF3 : Hid (FAt W3 w.heap.size 0 0 ∧ FAt W3 w2.heap.size 2 (-1)) := ⟨by rw [hW3]; exact (HF1.out.keep g2).keep (World.grownBy_alloc _ _ none), by rw [hW3]; exact alloc_at w2 _ _⟩
  clear HR g2 HG1 HF1
  go_upto_region 2 with fail
  rw [← hW3]
  clear hW3
  obtain ⟨q2, hq2⟩ : ∃ q2, q2 = w2.heap.size := ⟨_, rfl⟩
  rw [← hq2] at HF3 ⊢
  clear hq2
  obtain ⟨rr, hrr⟩ : ∃ rr, rr = w.heap.size := ⟨_, rfl⟩
  rw [← hrr] at HF3 ⊢
  have HRr : Hid (rr = w.heap.size) := hrr
  clear hrr
  have c0 := HF3.out.1.c0
  have c1 := HF3.out.1.c1
  have f0 := HF3.out.1.free 0
  have f1 := HF3.out.1.free 1
  have d0 := HF3.out.2.c0
  have d1 := HF3.out.2.c1
  go_wp2
  refine bodyPost_ret (v := .agg #[.int .i64 2, .int .i64 (-1)]) (by simp [results, Tryz.results15, go_sem, c0, c1]) rfl ⟨rfl, ?_⟩
  exact ret_f2 HG3.out _ _ (by rw [HRr.out]; exact Nat.le_refl _)
set_option maxHeartbeats 4000000 in
set_option maxRecDepth 100000 in
theorem rcheck_lo (ok : Nat → Prop) (r : Nat) (v : Value) (p : Pl) (fs : List Ent) (a : Option Addr) (n c : Nat) (w : World) (B : RB ok w r v p fs) (hp : p.shut = true) (hn : n < 12) : Calls Tryz.prog 15 #[.pointer (some ⟨r, 0, none⟩), .slice a n c] w fun e w' => e = .returned (.agg #[.int .i64 9, .int .i64 (-1)]) ∧ w.grownBy w' none := by
  obtain ⟨W1, hW1⟩ : ∃ W1, W1 = w.alloc (.cells #[.int .i64 0, .int .i64 0] 34) := ⟨_, rfl⟩
  have HG1 : Hid (w.grownBy W1 none) := by rw [hW1]; exact World.grownBy_alloc _ _ none
  have HF1 : Hid (FAt W1 w.heap.size 0 0) := by rw [hW1]; exact alloc_at w _ _
  have HR := rfirst_yes r v p hp W1 (B.rj.keep HG1.out)
  have n1 : (n : Int) < 12 := by omega
  clear B hp hn
  go_enter Tryz.func15, Tryz.ntmps15
  go_upto_region 1 with fail
  rw [← hW1]
  clear hW1
  go_wp2_with fail
  refine HR.mono ?_
  rintro e w2 ⟨rfl, g2⟩
  obtain ⟨W3, hW3⟩ : ∃ W3, W3 = w2.alloc (.cells #[.int .i64 0, .int .i64 (0)] 34) := ⟨_, rfl⟩
  have HG3 : Hid (w.grownBy W3 none) := by rw [hW3]; exact grown_push (grown_trans HG1.out g2) _
  have HF3 : Hid (FAt W3 w.heap.size 0 0 ∧ FAt W3 w2.heap.size 0 (0)) := ⟨by rw [hW3]; exact (HF1.out.keep g2).keep (World.grownBy_alloc _ _ none), by rw [hW3]; exact alloc_at w2 _ _⟩
  clear HR g2 HG1 HF1
  go_upto_region 2 with fail
  rw [← hW3]
  clear hW3
  obtain ⟨q2, hq2⟩ : ∃ q2, q2 = w2.heap.size := ⟨_, rfl⟩
  rw [← hq2] at HF3 ⊢
  clear hq2
  obtain ⟨rr, hrr⟩ : ∃ rr, rr = w.heap.size := ⟨_, rfl⟩
  rw [← hrr] at HF3 ⊢
  have HRr : Hid (rr = w.heap.size) := hrr
  clear hrr
  have c0 := HF3.out.1.c0
  have c1 := HF3.out.1.c1
  have f0 := HF3.out.1.free 0
  have f1 := HF3.out.1.free 1
  have d0 := HF3.out.2.c0
  have d1 := HF3.out.2.c1
  go_wp2
  refine bodyPost_ret (v := .agg #[.int .i64 9, .int .i64 (-1)]) (by simp [results, Tryz.results15, go_sem, c0, c1]) rfl ⟨rfl, ?_⟩
  exact ret_f2 HG3.out _ _ (by rw [HRr.out]; exact Nat.le_refl _)
set_option maxHeartbeats 4000000 in
set_option maxRecDepth 100000 in
theorem rcheck_hi (ok : Nat → Prop) (r : Nat) (v : Value) (p : Pl) (fs : List Ent) (a : Option Addr) (n c : Nat) (w : World) (B : RB ok w r v p fs) (hp : p.shut = true) (hn : 40 < n) : Calls Tryz.prog 15 #[.pointer (some ⟨r, 0, none⟩), .slice a n c] w fun e w' => e = .returned (.agg #[.int .i64 9, .int .i64 (-1)]) ∧ w.grownBy w' none := by
  obtain ⟨W1, hW1⟩ : ∃ W1, W1 = w.alloc (.cells #[.int .i64 0, .int .i64 0] 34) := ⟨_, rfl⟩
  have HG1 : Hid (w.grownBy W1 none) := by rw [hW1]; exact World.grownBy_alloc _ _ none
  have HF1 : Hid (FAt W1 w.heap.size 0 0) := by rw [hW1]; exact alloc_at w _ _
  have HR := rfirst_yes r v p hp W1 (B.rj.keep HG1.out)
  have n1 : ¬ (n : Int) < 12 := by omega
  have n2 : (40 : Int) < (n : Int) := by omega
  clear B hp hn
  go_enter Tryz.func15, Tryz.ntmps15
  go_upto_region 1 with fail
  rw [← hW1]
  clear hW1
  go_wp2_with fail
  refine HR.mono ?_
  rintro e w2 ⟨rfl, g2⟩
  obtain ⟨W3, hW3⟩ : ∃ W3, W3 = w2.alloc (.cells #[.int .i64 0, .int .i64 (0)] 34) := ⟨_, rfl⟩
  have HG3 : Hid (w.grownBy W3 none) := by rw [hW3]; exact grown_push (grown_trans HG1.out g2) _
  have HF3 : Hid (FAt W3 w.heap.size 0 0 ∧ FAt W3 w2.heap.size 0 (0)) := ⟨by rw [hW3]; exact (HF1.out.keep g2).keep (World.grownBy_alloc _ _ none), by rw [hW3]; exact alloc_at w2 _ _⟩
  clear HR g2 HG1 HF1
  go_upto_region 2 with fail
  rw [← hW3]
  clear hW3
  obtain ⟨q2, hq2⟩ : ∃ q2, q2 = w2.heap.size := ⟨_, rfl⟩
  rw [← hq2] at HF3 ⊢
  clear hq2
  obtain ⟨rr, hrr⟩ : ∃ rr, rr = w.heap.size := ⟨_, rfl⟩
  rw [← hrr] at HF3 ⊢
  have HRr : Hid (rr = w.heap.size) := hrr
  clear hrr
  have c0 := HF3.out.1.c0
  have c1 := HF3.out.1.c1
  have f0 := HF3.out.1.free 0
  have f1 := HF3.out.1.free 1
  have d0 := HF3.out.2.c0
  have d1 := HF3.out.2.c1
  go_wp2
  refine bodyPost_ret (v := .agg #[.int .i64 9, .int .i64 (-1)]) (by simp [results, Tryz.results15, go_sem, c0, c1]) rfl ⟨rfl, ?_⟩
  exact ret_f2 HG3.out _ _ (by rw [HRr.out]; exact Nat.le_refl _)
set_option maxHeartbeats 4000000 in
set_option maxRecDepth 100000 in
theorem rcheck_run (ok : Nat → Prop) (r : Nat) (v : Value) (p : Pl) (fs : List Ent) (a : Option Addr) (n c : Nat) (l : List Int) (w : World) (B : RB ok w r v p fs) (hp : p.shut = true) (hn1 : 12 ≤ n) (hn2 : n ≤ 40) (hnc : n ≤ c) (R : Rd w a n l) : Calls Tryz.prog 15 #[.pointer (some ⟨r, 0, none⟩), .slice a n c] w fun e w' => e = .returned (fv2 (dchk fs.length (tkOf fs) l)) ∧ w.grownBy w' none := by
  obtain ⟨W1, hW1⟩ : ∃ W1, W1 = w.alloc (.cells #[.int .i64 0, .int .i64 0] 34) := ⟨_, rfl⟩
  have HG1 : Hid (w.grownBy W1 none) := by rw [hW1]; exact World.grownBy_alloc _ _ none
  have HF1 : Hid (FAt W1 w.heap.size 0 0) := by rw [hW1]; exact alloc_at w _ _
  have HR := rfirst_yes r v p hp W1 (B.rj.keep HG1.out)
  have n1 : ¬ (n : Int) < 12 := by omega
  have n2 : ¬ (40 : Int) < (n : Int) := by omega
  have ncI : (n : Int) ≤ (c : Int) := by omega
  have HL : Hid (n = l.length ∧ 12 ≤ l.length ∧ l.length ≤ 40 ∧ n ≤ c) := ⟨R.1, by rw [← R.1]; exact hn1, by rw [← R.1]; exact hn2, hnc⟩
  obtain ⟨gl, ol, ea, hcl⟩ := R.2 (by omega)
  subst ea
  have HC : Hid (∀ j, j < n → w.cell? ⟨gl, ol + j, none⟩ = some (.int .i64 (l.getD j 0))) := hcl
  have HB : Hid (RB ok w r v p fs) := B
  have HP : Hid (p.shut = true) := hp
  have hsm : Small n := by unfold Small; omega
  obtain ⟨D, hD⟩ : ∃ D, D = dchk fs.length (tkOf fs) l := ⟨_, rfl⟩
  rw [← hD]
  have HD : Hid (D = dchk fs.length (tkOf fs) l) := hD
  clear B hp hn1 hn2 hnc R hcl hD
  go_enter Tryz.func15, Tryz.ntmps15
  go_upto_region 1 with fail
  rw [← hW1]
  clear hW1
  go_wp2_with fail
  refine HR.mono ?_
  rintro e w2 ⟨rfl, g2⟩
  obtain ⟨W3, hW3⟩ : ∃ W3, W3 = w2.alloc (.cells #[.int .i64 0, .int .i64 (0)] 34) := ⟨_, rfl⟩
  have HG3 : Hid (w.grownBy W3 none) := by rw [hW3]; exact grown_push (grown_trans HG1.out g2) _
  have HF3 : Hid (FAt W3 w.heap.size 0 0 ∧ FAt W3 w2.heap.size 0 (0)) := ⟨by rw [hW3]; exact (HF1.out.keep g2).keep (World.grownBy_alloc _ _ none), by rw [hW3]; exact alloc_at w2 _ _⟩
  clear HR g2 HG1 HF1
  go_upto_region 2 with fail
  rw [← hW3]
  clear hW3
  obtain ⟨q2, hq2⟩ : ∃ q2, q2 = w2.heap.size := ⟨_, rfl⟩
  rw [← hq2] at HF3 ⊢
  clear hq2
  obtain ⟨rr, hrr⟩ : ∃ rr, rr = w.heap.size := ⟨_, rfl⟩
  rw [← hrr] at HF3 ⊢
  have HRr : Hid (rr = w.heap.size) := hrr
  clear hrr
  have c0 := HF3.out.1.c0
  have c1 := HF3.out.1.c1
  have f0 := HF3.out.1.free 0
  have f1 := HF3.out.1.free 1
  have d0 := HF3.out.2.c0
  have d1 := HF3.out.2.c1
  have HFo : Hid (FAt W3 rr 0 0) := HF3.out.1
  clear f0 f1 c0 c1 HF3
  go_wp2_with fail
  clear d0 d1
  go_loopw [6, 7, 8] (fun i _ _ wr => ∃ k : Nat, k ≤ n ∧ i = .int .i64 (k : Int) ∧ Hid (w.grownBy wr none ∧ FAt wr rr 0 0 ∧ ∀ j, j < k → dbad fs.length (tkOf fs) l j = 0)) (fun i _ _ _ => n - (intOf i).toNat)
  case atStart => exact ⟨0, Nat.zero_le _, rfl, HG3.out, HFo.out, fun j hj => by omega⟩
  case round =>
    obtain ⟨k, hk, rfl, HI⟩ := hrel
    clear HG3 HFo
    rcases (show k = n ∨ k < n from by omega) with e | hlt
    · have hlt' : ¬ (k : Int) < (n : Int) := by omega
      have HX : Hid (D = (0, 0)) := by show _ = _; rw [HD.out]; exact dchk_ok HL.out.2.1 HL.out.2.2.1 (fun j hj => HI.out.2.2 j (by have := HL.out.1; omega))
      have c0 := HI.out.2.1.c0
      have c1 := HI.out.2.1.c1
      have f0 := HI.out.2.1.free 0
      have f1 := HI.out.2.1.free 1
      have HGo : Hid (w.grownBy wr none) := HI.out.1
      clear e HI
      go_wp2
      refine bodyPost_ret (v := .agg #[.int .i64 0, .int .i64 0]) (by simp [results, Tryz.results15, go_sem, c0, c1]) rfl ⟨by rw [HX.out]; rfl, ?_⟩
      exact ret_f2 HGo.out _ _ (by rw [HRr.out]; exact Nat.le_refl _)
    · have hlt' : (k : Int) < (n : Int) := by omega
      have hk0 : (0 : Int) ≤ (k : Int) := by omega
      have hkc : (k : Int) ≤ (c : Int) := by omega
      have hkl : k < l.length := by have := HL.out.1; omega
      obtain ⟨x, hx⟩ : ∃ x, x = l.getD k 0 := ⟨_, rfl⟩
      have D0 : wr.cell? ⟨gl, ol + k, none⟩ = some (.int .i64 x) := by rw [hx]; exact HI.out.1.cell (HC.out k hlt) (by simp)
      have HXk : Hid (x = l.getD k 0 ∧ k < l.length) := ⟨hx, hkl⟩
      have HAt := rpat_any ok r v p fs x wr (HB.out.keep HI.out.1)
      clear hx hkl
      go_wp2_with fail
      refine HAt.mono ?_
      rintro e w4 ⟨h, u, er, rfl, ⟨ua, um, uc, rfl⟩, hin, g4⟩
      obtain ⟨nm, su, kd, co, po, he, tr, tk⟩ := h
      obtain ⟨W5, hW5⟩ : ∃ W5, W5 = w4.alloc (.cells (ccs ⟨nm, su, kd, co, po, he, tr, tk⟩ (.slice ua um uc)) 55) := ⟨_, rfl⟩
      have HG5 : Hid (wr.grownBy W5 none) := by rw [hW5]; exact grown_push g4 _
      have HA5 : Hid (CAt W5 w4.heap.size ⟨nm, su, kd, co, po, he, tr, tk⟩ (.slice ua um uc)) := by rw [hW5]; exact alloc_at w4 _ _
      have HI5 : Hid (w.grownBy W5 none ∧ FAt W5 rr 0 0 ∧ ∀ j, j < k → dbad fs.length (tkOf fs) l j = 0) := ⟨grown_trans HI.out.1 HG5.out, HI.out.2.1.keep HG5.out, HI.out.2.2⟩
      have D5 : W5.cell? ⟨gl, ol + k, none⟩ = some (.int .i64 x) := HG5.out.cell D0 (by simp)
      unfold ccs at hW5
      unfold cv
      clear g4 HAt HI HG5 D0
      rcases hin with ⟨hno, rfl⟩ | ⟨hat, rfl, e0, he0, hh⟩
      · have HX : Hid (D = (6, (k : Int))) := by
          show _ = _
          have hb : dbad fs.length (tkOf fs) l k = 6 := by
            unfold dbad
            rw [if_pos]
            rw [← HXk.out.1]
            exact fun q => hno ⟨HP.out, q.1, q.2⟩
          rw [HD.out, dchk_at HL.out.2.1 HL.out.2.2.1 HXk.out.2 HI5.out.2.2 (by rw [hb]; decide), hb]
        have HGo : Hid (w.grownBy W5 none) := HI5.out.1
        have c0 := HI5.out.2.1.c0
        have c1 := HI5.out.2.1.c1
        have f0 := HI5.out.2.1.free 0
        have f1 := HI5.out.2.1.free 1
        clear hno HI5 HA5
        go_upto_region 10 with fail
        rw [← hW5]
        clear hW5
        go_wp2
        refine bodyPost_ret (v := .agg #[.int .i64 6, .int .i64 (k : Int)]) (by simp [results, Tryz.results15, go_sem, c0, c1]) rfl ⟨by rw [HX.out]; rfl, ?_⟩
        exact ret_f2 HGo.out _ _ (by rw [HRr.out]; exact Nat.le_refl _)
      · have htk : tkOf fs (l.getD k 0) = tk := by
          unfold tkOf
          rw [← HXk.out.1, he0]
          simp only [← hh]
        have d7 : W5.cell? ⟨w4.heap.size, 7, none⟩ = some (.bool tk) := HA5.out.cells.2.2.2.2.2.2.2.1
        obtain ⟨q, hq⟩ : ∃ q : Nat, q = (l.take k).count x := ⟨_, rfl⟩
        have hb : dbad fs.length (tkOf fs) l k = if tk = true ∨ 3 ≤ q then 9 else 0 := by
          unfold dbad
          rw [htk, ← HXk.out.1, ← hq, if_neg]
          exact fun q => q ⟨hat.2.1, hat.2.2⟩
        have HBd : Hid (dbad fs.length (tkOf fs) l k = if tk = true ∨ 3 ≤ q then 9 else 0) := hb
        have HCn := fun (W : World) (g : W5.grownBy W none) => rcount_any (some ⟨gl, ol, none⟩) k c (l.take k) x W ⟨by rw [List.length_take]; have := HXk.out.2; omega, fun _ => ⟨gl, ol, rfl, fun j hj => by
          have h1 := g.cell (HI5.out.1.cell (HC.out j (by omega)) (by simp)) (by simp)
          rw [h1]
          simp [List.getD, hj]⟩⟩ (by unfold Small; omega)
        rw [← hq] at HCn
        obtain ⟨b4, hb4⟩ : ∃ b4, b4 = w4.heap.size := ⟨_, rfl⟩
        clear hat he0 hh htk hb hq HA5
        go_upto_region 10 with fail
        rw [← hW5]
        clear hW5
        rw [← hb4] at d7 ⊢
        clear hb4
        have H0 : W5.grownBy W5.drew none := grown_drew _
        cases tk with
        | true =>
          have HX : Hid (D = (9, (k : Int))) := by
            show _ = _
            have hb : dbad fs.length (tkOf fs) l k = 9 := by rw [HBd.out]; simp
            rw [HD.out, dchk_at HL.out.2.1 HL.out.2.2.1 HXk.out.2 HI5.out.2.2 (by rw [hb]; decide), hb]
          go_upto_region 12 with fail
          refine wp_region_held_drew (S := fun w' => W5.grownBy w' none) (by kernel_rfl) H0 (fun hHeld => ?_)
          refine wpAnyH_take (i := 0) (v := ?_) rfl (by kernel_rfl) (by kernel_rfl) (by kernel_rfl) (fun _ _ _ h => h) (Or.inl ⟨by rfl, ?_⟩) (by assumption) ?_
          rotate_left 1
          · (intro w0 hSw; go_simp; try with_reducible rfl)
          simp only [List.getElem_toArray, List.getElem_cons_zero]
          go_frame
          refine wpAnyH_take (i := 1) (v := ?_) rfl (by kernel_rfl) (by kernel_rfl) (by kernel_rfl) (fun _ _ _ h => h) (Or.inl ⟨by rfl, ?_⟩) (by assumption) ?_
          rotate_left 1
          · (intro w0 hSw; have d7 := hSw.cell d7 (by simp); go_simp; try with_reducible rfl)
          simp only [List.getElem_toArray, List.getElem_cons_zero, List.getElem_cons_succ]
          go_frame
          refine wpAnyH_take (i := 2) (v := ?_) rfl (by kernel_rfl) (by kernel_rfl) (by kernel_rfl) (fun _ _ _ h => h) (Or.inl ⟨by rfl, ?_⟩) (by assumption) ?_
          rotate_left 1
          · (intro w0 hSw; go_simp; try with_reducible rfl)
          simp only [List.getElem_toArray, List.getElem_cons_zero, List.getElem_cons_succ]
          go_frame
          refine wpAnyH_take (i := 3) (v := undef) rfl (by kernel_rfl) (by kernel_rfl) (by kernel_rfl) (fun _ _ _ h => h) (Or.inr ⟨by rfl, rfl⟩) (by assumption) ?_
          simp only [List.getElem_toArray, List.getElem_cons_zero, List.getElem_cons_succ]
          go_frame
          refine wpAnyH_take (i := 4) (v := undef) rfl (by kernel_rfl) (by kernel_rfl) (by kernel_rfl) (fun _ _ _ h => h) (Or.inr ⟨by rfl, rfl⟩) (by assumption) ?_
          simp only [List.getElem_toArray, List.getElem_cons_zero, List.getElem_cons_succ]
          go_frame
          refine wpAnyH_take (i := 5) (v := undef) rfl (by kernel_rfl) (by kernel_rfl) (by kernel_rfl) (fun _ _ _ h => h) (Or.inr ⟨by rfl, rfl⟩) (by assumption) ?_
          simp only [List.getElem_toArray, List.getElem_cons_zero, List.getElem_cons_succ]
          go_frame
          refine wpAnyH_take (i := 6) (v := undef) rfl (by kernel_rfl) (by kernel_rfl) (by kernel_rfl) (fun _ _ _ h => h) (Or.inr ⟨by rfl, rfl⟩) (by assumption) ?_
          simp only [List.getElem_toArray, List.getElem_cons_zero, List.getElem_cons_succ]
          go_frame
          refine wpAnyH_take (i := 7) (v := undef) rfl (by kernel_rfl) (by kernel_rfl) (by kernel_rfl) (fun _ _ _ h => h) (Or.inr ⟨by rfl, rfl⟩) (by assumption) ?_
          simp only [List.getElem_toArray, List.getElem_cons_zero, List.getElem_cons_succ]
          go_frame
          refine wpAnyH_take (i := 8) (v := undef) rfl (by kernel_rfl) (by kernel_rfl) (by kernel_rfl) (fun _ _ _ h => h) (Or.inr ⟨by rfl, rfl⟩) (by assumption) ?_
          simp only [List.getElem_toArray, List.getElem_cons_zero, List.getElem_cons_succ]
          go_frame
          refine wpAnyH_take (i := 9) (v := undef) rfl (by kernel_rfl) (by kernel_rfl) (by kernel_rfl) (fun _ _ _ h => h) (Or.inr ⟨by rfl, rfl⟩) (by assumption) ?_
          simp only [List.getElem_toArray, List.getElem_cons_zero, List.getElem_cons_succ]
          go_frame
          refine wpAnyH_ready (rs := [10]) (by kernel_rfl) (by simp) ?_
          refine AllReadyH.cons rfl (fun K hK => ?_) AllReadyH.nil
          simp only [List.getElem_toArray, List.getElem_cons_zero, List.getElem_cons_succ]
          rw [if_neg (Bool.eq_false_iff.1 (by rfl))]
          refine hK.out _ _ (by assumption) (fun hHeld2 => ?_)
          clear hK K
          (try go_frame)
          refine wpAnyH_take (i := 11) (v := undef) rfl (by kernel_rfl) (by kernel_rfl) (by kernel_rfl) (fun _ _ _ h => h) (Or.inr ⟨by rfl, rfl⟩) (by assumption) ?_
          simp only [List.getElem_toArray, List.getElem_cons_zero, List.getElem_cons_succ]
          go_frame
          refine wpAnyH_take (i := 12) (v := ?_) rfl (by kernel_rfl) (by kernel_rfl) (by kernel_rfl) (fun _ _ _ h => h) (Or.inl ⟨by rfl, ?_⟩) (by assumption) ?_
          rotate_left 1
          · (intro w0 hSw; go_simp; try with_reducible rfl)
          simp only [List.getElem_toArray, List.getElem_cons_zero, List.getElem_cons_succ]
          go_frame
          refine wpAnyH_done (by kernel_rfl) ?_ _
          have F6 := HI5.out.2.1
          have c0 := F6.c0
          have c1 := F6.c1
          have f0 := F6.free 0
          have f1 := F6.free 1
          have HGo : Hid (w.grownBy W5.drew none) := grown_trans HI5.out.1 H0
          clear F6
          go_wp2
          refine bodyPost_ret (v := .agg #[.int .i64 9, .int .i64 (k : Int)]) (by simp [results, Tryz.results15, go_sem, c0, c1]) rfl ⟨by rw [HX.out]; rfl, ?_⟩
          exact ret_f2 HGo.out _ _ (by rw [HRr.out]; exact Nat.le_refl _)
        | false =>
          have hq3 : (3 ≤ q ∧ (3 : Int) ≤ (q : Int)) ∨ (q < 3 ∧ ¬ (3 : Int) ≤ (q : Int)) := by omega
          go_upto_region 12 with fail
          refine wp_region_held_drew (S := fun w' => W5.grownBy w' none) (by kernel_rfl) H0 (fun hHeld => ?_)
          refine wpAnyH_take (i := 0) (v := ?_) rfl (by kernel_rfl) (by kernel_rfl) (by kernel_rfl) (fun _ _ _ h => h) (Or.inl ⟨by rfl, ?_⟩) (by assumption) ?_
          rotate_left 1
          · (intro w0 hSw; go_simp; try with_reducible rfl)
          simp only [List.getElem_toArray, List.getElem_cons_zero]
          go_frame
          refine wpAnyH_take (i := 1) (v := ?_) rfl (by kernel_rfl) (by kernel_rfl) (by kernel_rfl) (fun _ _ _ h => h) (Or.inl ⟨by rfl, ?_⟩) (by assumption) ?_
          rotate_left 1
          · (intro w0 hSw; have d7 := hSw.cell d7 (by simp); go_simp; try with_reducible rfl)
          simp only [List.getElem_toArray, List.getElem_cons_zero, List.getElem_cons_succ]
          go_frame
          refine wpAnyH_take (i := 2) (v := ?_) rfl (by kernel_rfl) (by kernel_rfl) (by kernel_rfl) (fun _ _ _ h => h) (Or.inl ⟨by rfl, ?_⟩) (by assumption) ?_
          rotate_left 1
          · (intro w0 hSw; go_simp; try with_reducible rfl)
          simp only [List.getElem_toArray, List.getElem_cons_zero, List.getElem_cons_succ]
          go_frame
          refine wpAnyH_take (i := 3) (v := ?_) rfl (by kernel_rfl) (by kernel_rfl) (by kernel_rfl) (fun _ _ _ h => h) (Or.inl ⟨by rfl, ?_⟩) (by assumption) ?_
          rotate_left 1
          · (intro w0 hSw; go_simp; try with_reducible rfl)
          simp only [List.getElem_toArray, List.getElem_cons_zero, List.getElem_cons_succ]
          go_frame
          refine wpAnyH_take (i := 4) (v := ?_) rfl (by kernel_rfl) (by kernel_rfl) (by kernel_rfl) (fun _ _ _ h => h) (Or.inl ⟨by rfl, ?_⟩) (by assumption) ?_
          rotate_left 1
          · (intro w0 hSw; go_simp; try with_reducible rfl)
          simp only [List.getElem_toArray, List.getElem_cons_zero, List.getElem_cons_succ]
          go_frame
          refine wpAnyH_take (i := 5) (v := ?_) rfl (by kernel_rfl) (by kernel_rfl) (by kernel_rfl) (fun _ _ _ h => h) (Or.inl ⟨by rfl, ?_⟩) (by assumption) ?_
          rotate_left 1
          · (intro w0 hSw; go_simp; try with_reducible rfl)
          simp only [List.getElem_toArray, List.getElem_cons_zero, List.getElem_cons_succ]
          go_frame
          refine wpAnyH_take (i := 6) (v := ?_) rfl (by kernel_rfl) (by kernel_rfl) (by kernel_rfl) (fun _ _ _ h => h) (Or.inl ⟨by rfl, ?_⟩) (by assumption) ?_
          rotate_left 1
          · (intro w0 hSw; go_simp; try with_reducible rfl)
          simp only [List.getElem_toArray, List.getElem_cons_zero, List.getElem_cons_succ]
          go_frame
          refine wpAnyH_take (i := 7) (v := ?_) rfl (by kernel_rfl) (by kernel_rfl) (by kernel_rfl) (fun _ _ _ h => h) (Or.inl ⟨by rfl, ?_⟩) (by assumption) ?_
          rotate_left 1
          · (intro w0 hSw; go_simp; try with_reducible rfl)
          simp only [List.getElem_toArray, List.getElem_cons_zero, List.getElem_cons_succ]
          go_frame
          refine wpAnyH_take (i := 8) (v := ?_) rfl (by kernel_rfl) (by kernel_rfl) (by kernel_rfl) (fun _ _ _ h => h) (Or.inl ⟨by rfl, ?_⟩) (by assumption) ?_
          rotate_left 1
          · (intro w0 hSw; go_simp; try with_reducible rfl)
          simp only [List.getElem_toArray, List.getElem_cons_zero, List.getElem_cons_succ]
          go_frame
          refine wpAnyH_take (i := 9) (v := ?_) rfl (by kernel_rfl) (by kernel_rfl) (by kernel_rfl) (fun _ _ _ h => h) (Or.inl ⟨by rfl, ?_⟩) (by assumption) ?_
          rotate_left 1
          · (intro w0 hSw; have d8 := hSw.cell D5 (by simp); go_simp; try with_reducible rfl)
          simp only [List.getElem_toArray, List.getElem_cons_zero, List.getElem_cons_succ]
          go_frame
          refine wpAnyH_ready (rs := [10]) (by kernel_rfl) (by simp) ?_
          refine AllReadyH.cons rfl (fun K hK => ?_) AllReadyH.nil
          simp only [List.getElem_toArray, List.getElem_cons_zero, List.getElem_cons_succ]
          rw [if_pos (by rfl)]
          go_simp
          go_at_call 17
          refine (HCn _ hHeld).mono ?_
          rintro e w6 ⟨rfl, hw⟩
          obtain rfl : W5.drew = w6 := hw.symm
          refine hK.out _ _ (hHeld) (fun hHeld2 => ?_)
          clear hK K
          (try go_frame)
          refine wpAnyH_take (i := 11) (v := ?_) rfl (by kernel_rfl) (by kernel_rfl) (by kernel_rfl) (fun _ _ _ h => h) (Or.inl ⟨by rfl, ?_⟩) (by assumption) ?_
          rotate_left 1
          · (intro w0 hSw; go_simp; try with_reducible rfl)
          simp only [List.getElem_toArray, List.getElem_cons_zero, List.getElem_cons_succ]
          go_frame
          refine wpAnyH_take (i := 12) (v := ?_) rfl (by kernel_rfl) (by kernel_rfl) (by kernel_rfl) (fun _ _ _ h => h) (Or.inl ⟨by rfl, ?_⟩) (by assumption) ?_
          rotate_left 1
          · (intro w0 hSw; go_simp; try with_reducible rfl)
          simp only [List.getElem_toArray, List.getElem_cons_zero, List.getElem_cons_succ]
          go_frame
          refine wpAnyH_done (by kernel_rfl) ?_ _
          have HHd : Hid (W5.grownBy W5.drew none) := H0
          rcases hq3 with ⟨h3, h3'⟩ | ⟨h3, h3'⟩
          · have HX : Hid (D = (9, (k : Int))) := by
              show _ = _
              have hb : dbad fs.length (tkOf fs) l k = 9 := by rw [HBd.out, if_pos (Or.inr h3)]
              rw [HD.out, dchk_at HL.out.2.1 HL.out.2.2.1 HXk.out.2 HI5.out.2.2 (by rw [hb]; decide), hb]
            have F6 := HI5.out.2.1
            have c0 := F6.c0
            have c1 := F6.c1
            have f0 := F6.free 0
            have f1 := F6.free 1
            have HGo : Hid (w.grownBy W5.drew none) := grown_trans HI5.out.1 HHd.out
            clear F6 h3
            go_wp2
            refine bodyPost_ret (v := .agg #[.int .i64 9, .int .i64 (k : Int)]) (by simp [results, Tryz.results15, go_sem, c0, c1]) rfl ⟨by rw [HX.out]; rfl, ?_⟩
            exact ret_f2 HGo.out _ _ (by rw [HRr.out]; exact Nat.le_refl _)
          · have HN : Hid (dbad fs.length (tkOf fs) l k = 0) := by show _ = _; rw [HBd.out, if_neg (by simp; omega)]
            clear h3
            go_wp2_with fail
            go_roundw
            case rel =>
              refine ⟨k + 1, hlt, by first | rfl | (rw [hsm.wrap hlt]; rfl), grown_trans HI5.out.1 HHd.out, HI5.out.2.1.keep HHd.out, fun j hj => ?_⟩
              rcases (show j < k ∨ j = k from by omega) with h1 | h1
              · exact HI5.out.2.2 j h1
              · rw [h1]; exact HN.out
            case measure => first | exact meas_next hlt | (rw [hsm.wrap hlt]; exact meas_next hlt)
theorem rkcheck_any (ok : Nat → Prop) (r : Nat) (v : Value) (p : Pl) (fs : List Ent) (a : Option Addr) (n c : Nat) (l : List Int) (w : World) (B : RB ok w r v p fs) (hnc : n ≤ c) (R : Rd w a n l) : Calls Tryz.prog 15 #[.pointer (some ⟨r, 0, none⟩), .slice a n c] w fun e w' => e = .returned (fv2 (ckF p fs l)) ∧ w.grownBy w' none := by
  unfold ckF
  cases hp : p.shut with
  | false => exact rcheck_open ok r v p fs a n c w B hp
  | true =>
    rw [if_pos rfl]
    by_cases hn : n < 12 ∨ 40 < n
    · have e : dchk fs.length (tkOf fs) l = (9, -1) := by unfold dchk; rw [if_pos (by rw [← R.1]; exact hn)]
      rw [e]
      by_cases h1 : n < 12
      · exact rcheck_lo ok r v p fs a n c w B hp h1
      · exact rcheck_hi ok r v p fs a n c w B hp (by omega)
    · exact rcheck_run ok r v p fs a n c l w B hp (by omega) (by omega) hnc R
end Go.Proofs.YtbcggjacjfcldaaGreatDoor
