/-
  deck.Check, of every book and list.
-/
import Derived.Test.YtbcggjacjfcldaaGreatDoorD19
namespace Go.Proofs.YtbcggjacjfcldaaGreatDoor
open Go.RowKit

set_option maxHeartbeats 4000000 in
set_option maxRecDepth 100000 in
theorem pcheck_open (ok : Nat → Prop) (b : Nat) (es : List Ent) (p : Pl) (a : Option Addr) (n c : Nat) (w : World) (B : Book ok w b es p) (hp : p.shut = false) : Calls Tryz.prog 14 #[.pointer (some ⟨b, 0, none⟩), .slice a n c] w fun e w' => e = .returned (.agg #[.int .i64 2, .int .i64 (-1)]) ∧ w.grownBy w' none := by
  obtain ⟨W1, hW1⟩ : ∃ W1, W1 = w.alloc (.cells #[.int .i64 0, .int .i64 0] 34) := ⟨_, rfl⟩
  have HG1 : Hid (w.grownBy W1 none) := by rw [hW1]; exact World.grownBy_alloc _ _ none
  have HF1 : Hid (FAt W1 w.heap.size 0 0) := by rw [hW1]; exact alloc_at w _ _
  have HR := refusal_book ok b es p false hp W1 (B.keep HG1.out)
  clear B hp
  go_enter Tryz.func14, Tryz.ntmps14
  go_upto_region 1 with fail
  rw [← hW1]
  clear hW1
  go_wp2_with fail
  refine HR.mono ?_
  rintro e w2 ⟨rfl, g2⟩
  have HG2 : Hid (W1.grownBy w2 none) := g2
  have HN := nowhere_any 2 w2
  clear g2 HR
  go_wp2_with fail
  refine HN.mono ?_
  rintro e w3 ⟨rfl, g3⟩
  have HG3 : Hid (w.grownBy w3 none) := grown_trans HG1.out (grown_trans HG2.out g3)
  have F3 := HF1.out.keep (grown_trans HG2.out g3)
  have c0 := F3.c0
  have c1 := F3.c1
  have f0 := F3.free 0
  have f1 := F3.free 1
  clear g3 HN F3 HF1 HG1 HG2
  go_wp2
  refine bodyPost_ret (v := .agg #[.int .i64 2, .int .i64 (-1)]) (by simp [results, Tryz.results14, go_sem, c0, c1]) rfl ⟨rfl, ?_⟩
  exact ret_f2 HG3.out _ _ (Nat.le_refl _)
set_option maxHeartbeats 4000000 in
set_option maxRecDepth 100000 in
theorem pcheck_len (ok : Nat → Prop) (b : Nat) (es : List Ent) (p : Pl) (a : Option Addr) (n c : Nat) (w : World) (B : Book ok w b es p) (hp : p.shut = true) (hn : n < 12 ∨ 40 < n) : Calls Tryz.prog 14 #[.pointer (some ⟨b, 0, none⟩), .slice a n c] w fun e w' => e = .returned (.agg #[.int .i64 9, .int .i64 (-1)]) ∧ w.grownBy w' none := by
  obtain ⟨W1, hW1⟩ : ∃ W1, W1 = w.alloc (.cells #[.int .i64 0, .int .i64 0] 34) := ⟨_, rfl⟩
  have HG1 : Hid (w.grownBy W1 none) := by rw [hW1]; exact World.grownBy_alloc _ _ none
  have HF1 : Hid (FAt W1 w.heap.size 0 0) := by rw [hW1]; exact alloc_at w _ _
  have HR := refusal_book ok b es p true hp W1 (B.keep HG1.out)
  have HN := nowhere_any 9
  clear B hp
  by_cases h12 : n < 12
  · have n1 : (n : Int) < 12 := by omega
    clear hn h12
    go_enter Tryz.func14, Tryz.ntmps14
    go_upto_region 1 with fail
    rw [← hW1]
    clear hW1
    go_wp2_with fail
    refine HR.mono ?_
    rintro e w2 ⟨rfl, g2⟩
    have HG2 : Hid (W1.grownBy w2 none) := g2
    clear g2 HR
    go_wp2_with fail
    refine (HN w2).mono ?_
    rintro e w3 ⟨rfl, g3⟩
    have HG3 : Hid (w.grownBy w3 none) := grown_trans HG1.out (grown_trans HG2.out g3)
    have F3 := HF1.out.keep (grown_trans HG2.out g3)
    have c0 := F3.c0
    have c1 := F3.c1
    have f0 := F3.free 0
    have f1 := F3.free 1
    clear g3 HN F3 HF1 HG1 HG2
    go_wp2
    refine bodyPost_ret (v := .agg #[.int .i64 9, .int .i64 (-1)]) (by simp [results, Tryz.results14, go_sem, c0, c1]) rfl ⟨rfl, ?_⟩
    exact ret_f2 HG3.out _ _ (Nat.le_refl _)
  · have n1 : ¬ (n : Int) < 12 := by omega
    have n2 : (40 : Int) < (n : Int) := by omega
    clear hn h12
    go_enter Tryz.func14, Tryz.ntmps14
    go_upto_region 1 with fail
    rw [← hW1]
    clear hW1
    go_wp2_with fail
    refine HR.mono ?_
    rintro e w2 ⟨rfl, g2⟩
    have HG2 : Hid (W1.grownBy w2 none) := g2
    clear g2 HR
    go_wp2_with fail
    refine (HN w2).mono ?_
    rintro e w3 ⟨rfl, g3⟩
    have HG3 : Hid (w.grownBy w3 none) := grown_trans HG1.out (grown_trans HG2.out g3)
    have F3 := HF1.out.keep (grown_trans HG2.out g3)
    have c0 := F3.c0
    have c1 := F3.c1
    have f0 := F3.free 0
    have f1 := F3.free 1
    clear g3 HN F3 HF1 HG1 HG2
    go_wp2
    refine bodyPost_ret (v := .agg #[.int .i64 9, .int .i64 (-1)]) (by simp [results, Tryz.results14, go_sem, c0, c1]) rfl ⟨rfl, ?_⟩
    exact ret_f2 HG3.out _ _ (Nat.le_refl _)
theorem cnt_good {m : Nat} {tk : Int → Bool} {l : List Int} {k : Nat} (x : Int) (hk : k ≤ l.length) (h : ∀ j, j < k → dbad m tk l j = 0) : (l.take k).count x ≤ 3 := by
  apply cnt_three
  intro i hi
  rw [List.length_take] at hi
  have hik : i < k := by omega
  have hb := h i hik
  have e1 : (l.take k).take i = l.take i := by rw [List.take_take, Nat.min_eq_left (by omega)]
  have e2 : (l.take k).getD i 0 = l.getD i 0 := by simp [List.getD, hik]
  rw [e1, e2]
  unfold dbad at hb
  split at hb
  · simp at hb
  · split at hb
    · simp at hb
    · rename_i h2
      omega
theorem zero65 (l : List Int) : Tryz.zeroCells92 = (CtA l 0).toArray := by
  rw [CtA_zero]
  rfl
set_option maxHeartbeats 4000000 in
set_option maxRecDepth 100000 in
theorem pcheck_run (ok : Nat → Prop) (b : Nat) (es : List Ent) (p : Pl) (a : Option Addr) (n c : Nat) (l : List Int) (w : World) (B : Book ok w b es p) (hp : p.shut = true) (hn1 : 12 ≤ n) (hn2 : n ≤ 40) (R : Rd w a n l) : Calls Tryz.prog 14 #[.pointer (some ⟨b, 0, none⟩), .slice a n c] w fun e w' => e = .returned (fv2 (dchk es.length (tkOf es) l)) ∧ w.grownBy w' none := by
  obtain ⟨W1, hW1⟩ : ∃ W1, W1 = w.alloc (.cells #[.int .i64 0, .int .i64 0] 34) := ⟨_, rfl⟩
  have HG1 : Hid (w.grownBy W1 none) := by rw [hW1]; exact World.grownBy_alloc _ _ none
  have HF1 : Hid (FAt W1 w.heap.size 0 0) := by rw [hW1]; exact alloc_at w _ _
  have HR := refusal_book ok b es p true hp W1 (B.keep HG1.out)
  have n1 : ¬ (n : Int) < 12 := by omega
  have n2 : ¬ (40 : Int) < (n : Int) := by omega
  have HL : Hid (n = l.length ∧ 12 ≤ l.length ∧ l.length ≤ 40) := ⟨R.1, by rw [← R.1]; exact hn1, by rw [← R.1]; exact hn2⟩
  obtain ⟨gl, ol, ea, hcl⟩ := R.2 (by omega)
  subst ea
  have HC : Hid (∀ j, j < n → w.cell? ⟨gl, ol + j, none⟩ = some (.int .i64 (l.getD j 0))) := hcl
  have HB : Hid (Book ok w b es p) := B
  have HP : Hid (p.shut = true ∧ es.length ≤ 64) := ⟨hp, B.lies.len⟩
  have hsm : Small n := by unfold Small; omega
  obtain ⟨D, hD⟩ : ∃ D, D = dchk es.length (tkOf es) l := ⟨_, rfl⟩
  rw [← hD]
  have HD : Hid (D = dchk es.length (tkOf es) l) := hD
  clear B hp hn1 hn2 R hcl hD
  go_enter Tryz.func14, Tryz.ntmps14
  go_upto_region 1 with fail
  rw [← hW1]
  clear hW1
  go_wp2_with fail
  refine HR.mono ?_
  rintro e w2 ⟨rfl, g2⟩
  obtain ⟨W3, hW3⟩ : ∃ W3, W3 = w2.alloc (.cells Tryz.zeroCells92 92) := ⟨_, rfl⟩
  have HG3 : Hid (w.grownBy W3 none) := by rw [hW3]; exact grown_push (grown_trans HG1.out g2) _
  have HF3 : Hid (FAt W3 w.heap.size 0 0) := by rw [hW3]; exact (HF1.out.keep g2).keep (World.grownBy_alloc _ _ none)
  have HT3 : Hid (CtAt W3 w2.heap.size l 0) := by show _ = _; rw [hW3, ← zero65]; exact alloc_at w2 _ _
  have HS3 : Hid (w.heap.size < w2.heap.size) := block_lt (HF1.out.keep g2)
  clear HR g2 HG1 HF1
  go_upto_region 7 with fail
  rw [← hW3]
  clear hW3
  obtain ⟨G, hG⟩ : ∃ G, G = w2.heap.size := ⟨_, rfl⟩
  rw [← hG] at HT3 HS3 ⊢
  clear hG
  obtain ⟨r, hr⟩ : ∃ r, r = w.heap.size := ⟨_, rfl⟩
  rw [← hr] at HF3 HS3 ⊢
  have HRr : Hid (r = w.heap.size) := hr
  clear hr
  go_wp2_with fail
  go_loopw [7, 8, 9, 10, 28, 39, 45] (fun _ _ _ _ i _ _ wr => ∃ k : Nat, k ≤ n ∧ i = .int .i64 (k : Int) ∧ Hid (w.grownBy wr none ∧ FAt wr r 0 0 ∧ CtAt wr G l k ∧ ∀ j, j < k → dbad es.length (tkOf es) l j = 0)) (fun _ _ _ _ i _ _ _ => n - (intOf i).toNat)
  case atStart => exact ⟨0, Nat.zero_le _, rfl, HG3.out, HF3.out, HT3.out, fun j hj => by omega⟩
  case round =>
    obtain ⟨k, hk, rfl, HI⟩ := hrel
    clear HG3 HF3 HT3
    rcases (show k = n ∨ k < n from by omega) with e | hlt
    · have hlt' : ¬ (k : Int) < (n : Int) := by omega
      have HX : Hid (D = (0, 0)) := by show _ = _; rw [HD.out]; exact dchk_ok HL.out.2.1 HL.out.2.2 (fun j hj => HI.out.2.2.2 j (by have := HL.out.1; omega))
      have c0 := HI.out.2.1.c0
      have c1 := HI.out.2.1.c1
      have f0 := HI.out.2.1.free 0
      have f1 := HI.out.2.1.free 1
      have HGo : Hid (w.grownBy wr none) := HI.out.1
      clear e HI
      go_wp2
      refine bodyPost_ret (v := .agg #[.int .i64 0, .int .i64 0]) (by simp [results, Tryz.results14, go_sem, c0, c1]) rfl ⟨by rw [HX.out]; rfl, ?_⟩
      exact ret_f2 HGo.out _ _ (by rw [HRr.out]; exact Nat.le_refl _)
    · have hlt' : (k : Int) < (n : Int) := by omega
      have hk0 : (0 : Int) ≤ (k : Int) := by omega
      have hkl : k < l.length := by have := HL.out.1; omega
      obtain ⟨x, hx⟩ : ∃ x, x = l.getD k 0 := ⟨_, rfl⟩
      have D0 : wr.cell? ⟨gl, ol + k, none⟩ = some (.int .i64 x) := by rw [hx]; exact HI.out.1.cell (HC.out k hlt) (by simp)
      have HXk : Hid (x = l.getD k 0) := hx
      have HAt := pat_any ok b es p x wr (HB.out.keep HI.out.1)
      have HKl : Hid (k < l.length) := hkl
      clear hx hkl
      go_wp2_with fail
      refine HAt.mono ?_
      rintro e w4 ⟨h, u, er, rfl, ⟨ua, um, uc, rfl⟩, hin, g4⟩
      obtain ⟨nm, su, kd, co, po, he, tr, tk⟩ := h
      obtain ⟨W5, hW5⟩ : ∃ W5, W5 = w4.alloc (.cells (ccs ⟨nm, su, kd, co, po, he, tr, tk⟩ (.slice ua um uc)) 55) := ⟨_, rfl⟩
      have HG5 : Hid (wr.grownBy W5 none) := by rw [hW5]; exact grown_push g4 _
      have HA5 : Hid (CAt W5 w4.heap.size ⟨nm, su, kd, co, po, he, tr, tk⟩ (.slice ua um uc)) := by rw [hW5]; exact alloc_at w4 _ _
      have HI5 : Hid (w.grownBy W5 none ∧ FAt W5 r 0 0 ∧ CtAt W5 G l k ∧ ∀ j, j < k → dbad es.length (tkOf es) l j = 0) := ⟨grown_trans HI.out.1 HG5.out, HI.out.2.1.keep HG5.out, HI.out.2.2.1.keepR HG5.out (by simp), HI.out.2.2.2⟩
      have HW5s : Hid (wr.heap.size ≤ w4.heap.size) := g4.size
      unfold ccs at hW5
      unfold cv
      clear g4 HAt HI HG5
      have c0 := HI5.out.2.1.c0
      have c1 := HI5.out.2.1.c1
      have f0 := HI5.out.2.1.free 0
      have f1 := HI5.out.2.1.free 1
      rcases hin with ⟨hno, rfl⟩ | ⟨hat, rfl, e0, he0, hh⟩
      · have HX : Hid (D = (6, (k : Int))) := by
          show _ = _
          have hb : dbad es.length (tkOf es) l k = 6 := by
            unfold dbad
            rw [if_pos]
            rw [← HXk.out]
            exact fun q => hno ⟨HP.out.1, q.1, q.2⟩
          rw [HD.out, dchk_at HL.out.2.1 HL.out.2.2 HKl.out HI5.out.2.2.2 (by rw [hb]; decide), hb]
        have HGo : Hid (w.grownBy W5 none) := HI5.out.1
        clear hno HI5 HA5
        go_upto_region 11 with fail
        rw [← hW5]
        clear hW5
        go_wp2
        refine bodyPost_ret (v := .agg #[.int .i64 6, .int .i64 (k : Int)]) (by simp [results, Tryz.results14, go_sem, c0, c1]) rfl ⟨by rw [HX.out]; rfl, ?_⟩
        exact ret_f2 HGo.out _ _ (by rw [HRr.out]; exact Nat.le_refl _)
      · obtain ⟨i, hi⟩ : ∃ i : Nat, x = (i : Int) := ⟨x.toNat, by have := hat.2.1; omega⟩
        subst hi
        have hi64 : i < 65 := by have h1 := hat.2.2; have h2 := HP.out.2; omega
        have htk : tkOf es (l.getD k 0) = tk := by
          unfold tkOf
          rw [← HXk.out, he0]
          simp only [← hh]
        have d7 : W5.cell? ⟨w4.heap.size, 7, none⟩ = some (.bool tk) := HA5.out.cells.2.2.2.2.2.2.2.1
        obtain ⟨q, hq⟩ : ∃ q : Nat, q = (l.take k).count (i : Int) := ⟨_, rfl⟩
        have d8 : W5.cell? ⟨G, i, none⟩ = some (.int .i64 (q : Int)) := by rw [hq]; exact HI5.out.2.2.1.cell hi64
        have d9 := HI5.out.2.2.1.free i
        have hb : dbad es.length (tkOf es) l k = if tk = true ∨ 3 ≤ q then 9 else 0 := by
          unfold dbad
          rw [htk, ← HXk.out, ← hq, if_neg]
          exact fun q => q ⟨hat.2.1, hat.2.2⟩
        have hi0 : (0 : Int) ≤ (i : Int) := by omega
        have hi1 : (i : Int) < 65 := by omega
        have HGo : Hid (w.grownBy W5 none) := HI5.out.1
        have HQ : Hid (q = (l.take k).count (i : Int)) := hq
        have HBd : Hid (dbad es.length (tkOf es) l k = if tk = true ∨ 3 ≤ q then 9 else 0) := hb
        have hq40 : q ≤ 40 := by have h1 := cnt_small (l := l) (k := k) (i : Int); have h2 := HL.out.2.2; omega
        clear hat he0 hh htk hb hq HA5
        cases tk with
        | true =>
          have HX : Hid (D = (9, (k : Int))) := by
            show _ = _
            have hb : dbad es.length (tkOf es) l k = 9 := by rw [HBd.out]; simp
            rw [HD.out, dchk_at HL.out.2.1 HL.out.2.2 HKl.out HI5.out.2.2.2 (by rw [hb]; decide), hb]
          clear HI5 HBd HQ hq40 d9
          go_upto_region 11 with fail
          rw [← hW5]
          clear hW5
          go_wp2
          refine bodyPost_ret (v := .agg #[.int .i64 9, .int .i64 (k : Int)]) (by simp [results, Tryz.results14, go_sem, c0, c1]) rfl ⟨by rw [HX.out]; rfl, ?_⟩
          exact ret_f2 HGo.out _ _ (by rw [HRr.out]; exact Nat.le_refl _)
        | false =>
          by_cases h3 : q = 3
          · have HX : Hid (D = (9, (k : Int))) := by
              show _ = _
              have hb : dbad es.length (tkOf es) l k = 9 := by rw [HBd.out, if_pos (Or.inr (by omega))]
              rw [HD.out, dchk_at HL.out.2.1 HL.out.2.2 HKl.out HI5.out.2.2.2 (by rw [hb]; decide), hb]
            have hq3 : ((q : Int) == 3) = true := by simp; omega
            clear HI5 HBd HQ hq40 d9 h3
            go_upto_region 11 with fail
            rw [← hW5]
            clear hW5
            go_wp2
            refine bodyPost_ret (v := .agg #[.int .i64 9, .int .i64 (k : Int)]) (by simp [results, Tryz.results14, go_sem, c0, c1]) rfl ⟨by rw [HX.out]; rfl, ?_⟩
            exact ret_f2 HGo.out _ _ (by rw [HRr.out]; exact Nat.le_refl _)
          · have hlt3 : q < 3 := by
              apply Classical.byContradiction
              intro hge
              have h9 := cnt_good (i : Int) (Nat.le_of_lt HKl.out) HI5.out.2.2.2
              rw [← HQ.out] at h9
              omega
            have hq3 : ((q : Int) == 3) = false := by simp; omega
            have HW : Hid (wrap64 ((q : Int) + 1) = (q : Int) + 1) := by show _ = _; unfold wrap64; omega
            have HN : Hid (CtAt (W5.setCell ⟨G, i, none⟩ (.int .i64 ((q : Int) + 1))) G l (k + 1) ∧ dbad es.length (tkOf es) l k = 0) := ⟨by rw [HQ.out]; exact HI5.out.2.2.1.next HKl.out HXk.out.symm, by rw [HBd.out, if_neg (by simp; omega)]⟩
            clear hq40 h3 hlt3 HBd HQ
            go_upto_region 11 with fail
            rw [← hW5]
            clear hW5
            go_wp2_with fail
            go_roundw
            case rel =>
              refine ⟨k + 1, hlt, by first | rfl | (rw [hsm.wrap hlt]; rfl), ?_⟩
              show w.grownBy _ none ∧ _
              rw [HW.out]
              refine ⟨grown_own HGo.out (grown_set _ _ _ _) (fun x e => by cases e; have h1 := HS3.out; have h2 := HRr.out; omega), HI5.out.2.1.keepR (grown_set _ _ _ _) (fun e => by cases e; have h1 := HS3.out; omega), HN.out.1, fun j hj => ?_⟩
              rcases (show j < k ∨ j = k from by omega) with h1 | h1
              · exact HI5.out.2.2.2 j h1
              · rw [h1]; exact HN.out.2
            case measure => first | exact meas_next hlt | (rw [hsm.wrap hlt]; exact meas_next hlt)
end Go.Proofs.YtbcggjacjfcldaaGreatDoor
