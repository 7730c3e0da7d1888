/-
  The document's own Print of a deck, of every book and list.
  The document's own line: of every text how many, and the name.
-/
import Derived.Test.YtbcggjacjfcldaaGreatDoorRkC
import Derived.Test.YtbcggjacjfcldaaGreatDoorRkA
import Derived.Test.YtbcggjacjfcldaaGreatDoorD23
import Derived.Test.YtbcggjacjfcldaaGreatDoorE2
import Derived.BigQuiet
namespace Go.Proofs.YtbcggjacjfcldaaGreatDoor
open Go.RowKit

theorem RunTo.drop {l : List Int} {k K : Nat} (h : RunTo l k K) : RunTo (l.drop k) 0 (K - k) := by
  have hget : ∀ j, (l.drop k).getD j 0 = l.getD (k + j) 0 := fun j => by simp [List.getD]
  have h1 := h.lt
  have h2 := h.le
  refine ⟨by omega, by rw [List.length_drop]; omega, fun j _ hj => ?_, fun hq => ?_⟩
  · rw [hget, hget, Nat.add_zero]
    exact h.all (k + j) (by omega) (by omega)
  · rw [hget, hget, Nat.add_zero, show k + (K - k) = K by omega]
    rw [List.length_drop] at hq
    exact h.nxt (by omega)
theorem ty_data (T z nm : ByteArray) : (T ++ z ++ ⟨#[32]⟩ ++ nm ++ ⟨#[10]⟩).data.toList = T.data.toList ++ (z.data.toList ++ [32] ++ nm.data.toList ++ [10]) := by
  rw [app_data, app_data, app_data, app_data]
  simp
set_option maxHeartbeats 4000000 in
set_option maxRecDepth 100000 in
theorem rprint_open (ok : Nat → Prop) (r : Nat) (v : Value) (p : Pl) (fs : List Ent) (a : Option Addr) (n c : Nat) (w : World) (B : RB ok w r v p fs) (hp : p.shut = false) : Calls Tryz.prog 11 #[.pointer (some ⟨r, 0, none⟩), .slice a n c] w fun e w' => e = .returned (.tuple #[.string ⟨#[]⟩, .agg #[.int .i64 2, .int .i64 (-1)]]) ∧ w.grownBy w' none := by
  obtain ⟨W1, hW1⟩ : ∃ W1, W1 = w.alloc (.cells #[.int .i64 0, .int .i64 0] 34) := ⟨_, rfl⟩
  have HG1 : Hid (w.grownBy W1 none) := by rw [hW1]; exact World.grownBy_alloc _ _ none
  have HF1 : Hid (FAt W1 w.heap.size 0 0) := by rw [hW1]; exact alloc_at w _ _
  have HR := rfirst_no r v p hp W1 (B.rj.keep HG1.out)
  clear B hp
  go_enter Tryz.func11, Tryz.ntmps11
  go_upto_region 1 with fail
  rw [← hW1]
  clear hW1
  go_wp2_with fail
  refine HR.mono ?_
  rintro e w2 ⟨rfl, g2⟩
  obtain ⟨W3, hW3⟩ : ∃ W3, W3 = w2.alloc (.cells #[.int .i64 2, .int .i64 (-1)] 34) := ⟨_, rfl⟩
  have HG3 : Hid (w.grownBy W3 none) := by rw [hW3]; exact grown_push (grown_trans HG1.out g2) _
  have HF3 : Hid (FAt W3 w.heap.size 0 0 ∧ FAt W3 w2.heap.size 2 (-1)) := ⟨by rw [hW3]; exact (HF1.out.keep g2).keep (World.grownBy_alloc _ _ none), by rw [hW3]; exact alloc_at w2 _ _⟩
  clear HR g2 HG1 HF1
  go_upto_region 2 with fail
  rw [← hW3]
  clear hW3
  obtain ⟨q2, hq2⟩ : ∃ q2, q2 = w2.heap.size := ⟨_, rfl⟩
  rw [← hq2] at HF3 ⊢
  clear hq2
  obtain ⟨rr, hrr⟩ : ∃ rr, rr = w.heap.size := ⟨_, rfl⟩
  rw [← hrr] at HF3 ⊢
  have HRr : Hid (rr = w.heap.size) := hrr
  clear hrr
  have c0 := HF3.out.1.c0
  have c1 := HF3.out.1.c1
  have f0 := HF3.out.1.free 0
  have f1 := HF3.out.1.free 1
  have d0 := HF3.out.2.c0
  have d1 := HF3.out.2.c1
  go_upto_region 3 with fail
  go_region
  all_goals (go_wp2; refine bodyPost_ret (v := .tuple #[.string ⟨#[]⟩, .agg #[.int .i64 2, .int .i64 (-1)]]) (by simp [results, Tryz.results11, go_sem, c0, c1]) rfl ⟨rfl, ?_⟩; exact ret_f2 (grown_trans HG3.out (grown_drewN _ 1 none)) _ _ (by rw [HRr.out]; exact Nat.le_refl _))
set_option maxHeartbeats 4000000 in
set_option maxRecDepth 100000 in
theorem rprint_len (ok : Nat → Prop) (r : Nat) (v : Value) (p : Pl) (fs : List Ent) (a : Option Addr) (n c : Nat) (w : World) (B : RB ok w r v p fs) (hp : p.shut = true) (hn : 40 < n) : Calls Tryz.prog 11 #[.pointer (some ⟨r, 0, none⟩), .slice a n c] w fun e w' => e = .returned (.tuple #[.string ⟨#[]⟩, .agg #[.int .i64 9, .int .i64 (-1)]]) ∧ w.grownBy w' none := by
  obtain ⟨W1, hW1⟩ : ∃ W1, W1 = w.alloc (.cells #[.int .i64 0, .int .i64 0] 34) := ⟨_, rfl⟩
  have HG1 : Hid (w.grownBy W1 none) := by rw [hW1]; exact World.grownBy_alloc _ _ none
  have HF1 : Hid (FAt W1 w.heap.size 0 0) := by rw [hW1]; exact alloc_at w _ _
  have HR := rfirst_yes r v p hp W1 (B.rj.keep HG1.out)
  have n2 : (40 : Int) < (n : Int) := by omega
  clear B hp hn
  go_enter Tryz.func11, Tryz.ntmps11
  go_upto_region 1 with fail
  rw [← hW1]
  clear hW1
  go_wp2_with fail
  refine HR.mono ?_
  rintro e w2 ⟨rfl, g2⟩
  obtain ⟨W3, hW3⟩ : ∃ W3, W3 = w2.alloc (.cells #[.int .i64 0, .int .i64 (0)] 34) := ⟨_, rfl⟩
  have HG3 : Hid (w.grownBy W3 none) := by rw [hW3]; exact grown_push (grown_trans HG1.out g2) _
  have HF3 : Hid (FAt W3 w.heap.size 0 0 ∧ FAt W3 w2.heap.size 0 (0)) := ⟨by rw [hW3]; exact (HF1.out.keep g2).keep (World.grownBy_alloc _ _ none), by rw [hW3]; exact alloc_at w2 _ _⟩
  clear HR g2 HG1 HF1
  go_upto_region 2 with fail
  rw [← hW3]
  clear hW3
  obtain ⟨q2, hq2⟩ : ∃ q2, q2 = w2.heap.size := ⟨_, rfl⟩
  rw [← hq2] at HF3 ⊢
  clear hq2
  obtain ⟨rr, hrr⟩ : ∃ rr, rr = w.heap.size := ⟨_, rfl⟩
  rw [← hrr] at HF3 ⊢
  have HRr : Hid (rr = w.heap.size) := hrr
  clear hrr
  have c0 := HF3.out.1.c0
  have c1 := HF3.out.1.c1
  have f0 := HF3.out.1.free 0
  have f1 := HF3.out.1.free 1
  have d0 := HF3.out.2.c0
  have d1 := HF3.out.2.c1
  go_wp2
  refine bodyPost_ret (v := .tuple #[.string ⟨#[]⟩, .agg #[.int .i64 9, .int .i64 (-1)]]) (by simp [results, Tryz.results11, go_sem, c0, c1]) rfl ⟨rfl, ?_⟩
  exact ret_f2 HG3.out _ _ (by rw [HRr.out]; exact Nat.le_refl _)
set_option maxHeartbeats 4000000 in
set_option maxRecDepth 100000 in
theorem rprint_run (ok : Nat → Prop) (r : Nat) (v : Value) (p : Pl) (fs : List Ent) (a : Option Addr) (n c : Nat) (l : List Int) (w : World) (B : RB ok w r v p fs) (hp : p.shut = true) (hn2 : n ≤ 40) (R : Rd w a n l) : Calls Tryz.prog 11 #[.pointer (some ⟨r, 0, none⟩), .slice a n c] w fun e w' => e = .returned (.tuple #[.string ⟨(ptxt (names fs) l).toArray⟩, fv2 (pchk fs.length l)]) ∧ w.grownBy w' none := by
  obtain ⟨W1, hW1⟩ : ∃ W1, W1 = w.alloc (.cells #[.int .i64 0, .int .i64 0] 34) := ⟨_, rfl⟩
  have HG1 : Hid (w.grownBy W1 none) := by rw [hW1]; exact World.grownBy_alloc _ _ none
  have HF1 : Hid (FAt W1 w.heap.size 0 0) := by rw [hW1]; exact alloc_at w _ _
  have HR := rfirst_yes r v p hp W1 (B.rj.keep HG1.out)
  have n2 : ¬ (40 : Int) < (n : Int) := by omega
  have HL : Hid (n = l.length ∧ l.length ≤ 40) := ⟨R.1, by rw [← R.1]; exact hn2⟩
  have HC : Hid (Rd w a n l) := R
  have HB : Hid (RB ok w r v p fs) := B
  have HP : Hid (p.shut = true ∧ (names fs).length = fs.length) := ⟨hp, names_len fs⟩
  have hsm : Small n := by unfold Small; omega
  obtain ⟨D, hD⟩ : ∃ D, D = pchk fs.length l := ⟨_, rfl⟩
  obtain ⟨X, hX⟩ : ∃ X : ByteArray, X = ⟨(ptxt (names fs) l).toArray⟩ := ⟨_, rfl⟩
  rw [← hD, ← hX]
  have HD : Hid (D = pchk (names fs).length l ∧ X = ⟨(ptxt (names fs) l).toArray⟩) := ⟨by rw [names_len]; exact hD, hX⟩
  clear B hp hn2 R hD hX
  go_enter Tryz.func11, Tryz.ntmps11
  go_upto_region 1 with fail
  rw [← hW1]
  clear hW1
  go_wp2_with fail
  refine HR.mono ?_
  rintro e w2 ⟨rfl, g2⟩
  obtain ⟨W3, hW3⟩ : ∃ W3, W3 = w2.alloc (.cells #[.int .i64 0, .int .i64 (0)] 34) := ⟨_, rfl⟩
  have HG3 : Hid (w.grownBy W3 none) := by rw [hW3]; exact grown_push (grown_trans HG1.out g2) _
  have HF3 : Hid (FAt W3 w.heap.size 0 0 ∧ FAt W3 w2.heap.size 0 (0)) := ⟨by rw [hW3]; exact (HF1.out.keep g2).keep (World.grownBy_alloc _ _ none), by rw [hW3]; exact alloc_at w2 _ _⟩
  clear HR g2 HG1 HF1
  go_upto_region 2 with fail
  rw [← hW3]
  clear hW3
  obtain ⟨q2, hq2⟩ : ∃ q2, q2 = w2.heap.size := ⟨_, rfl⟩
  rw [← hq2] at HF3 ⊢
  clear hq2
  obtain ⟨rr, hrr⟩ : ∃ rr, rr = w.heap.size := ⟨_, rfl⟩
  rw [← hrr] at HF3 ⊢
  have HRr : Hid (rr = w.heap.size) := hrr
  clear hrr
  have c0 := HF3.out.1.c0
  have c1 := HF3.out.1.c1
  have f0 := HF3.out.1.free 0
  have f1 := HF3.out.1.free 1
  have d0 := HF3.out.2.c0
  have d1 := HF3.out.2.c1
  have HFo : Hid (FAt W3 rr 0 0) := HF3.out.1
  clear f0 f1 c0 c1 HF3
  go_wp2_with fail
  clear d0 d1
  go_loopw [7, 8, 9, 10, 11] (fun t i _ _ _ wr => ∃ (k : Nat) (T : ByteArray), k ≤ n ∧ i = .int .i64 (k : Int) ∧ t = .string T ∧ Hid (w.grownBy wr none ∧ FAt wr rr 0 0 ∧ PrIn (names fs) l k T)) (fun _ i _ _ _ _ => n - (intOf i).toNat)
  case atStart => exact ⟨0, ⟨#[]⟩, Nat.zero_le _, rfl, rfl, HG3.out, HFo.out, PrIn.start _ _⟩
  case round =>
    obtain ⟨k, T, hk, rfl, rfl, HI⟩ := hrel
    clear HG3 HFo
    rcases (show k = n ∨ k < n from by omega) with e | hlt
    · have hlt' : ¬ (k : Int) < (n : Int) := by omega
      have HX : Hid (D = (0, 0) ∧ X = T) := by
        have h1 := HI.out.2.2
        rw [e, HL.out.1] at h1
        have h2 := h1.done HL.out.2
        exact ⟨by rw [HD.out.1, h2.1], by rw [HD.out.2, h2.2, bytes_mk]⟩
      have c0 := HI.out.2.1.c0
      have c1 := HI.out.2.1.c1
      have f0 := HI.out.2.1.free 0
      have f1 := HI.out.2.1.free 1
      have HGo : Hid (w.grownBy wr none) := HI.out.1
      clear e HI
      go_wp2
      refine bodyPost_ret (v := .tuple #[.string T, .agg #[.int .i64 0, .int .i64 0]]) (by simp [results, Tryz.results11, go_sem, c0, c1]) rfl ⟨by rw [HX.out.1, HX.out.2]; rfl, ?_⟩
      exact ret_f2 HGo.out _ _ (by rw [HRr.out]; exact Nat.le_refl _)
    · have hlt' : (k : Int) < (n : Int) := by omega
      have hk0 : (0 : Int) ≤ (k : Int) := by omega
      have hkl : k < l.length := by have := HL.out.1; omega
      obtain ⟨gl, ol, ea, hcl⟩ := HC.out.2 (by omega)
      obtain ⟨x, hx⟩ : ∃ x, x = l.getD k 0 := ⟨_, rfl⟩
      have D0 : wr.cell? ⟨gl, ol + k, none⟩ = some (.int .i64 x) := by rw [hx]; exact HI.out.1.cell (hcl k hlt) (by simp)
      have HXk : Hid (x = l.getD k 0 ∧ k < l.length) := ⟨hx, hkl⟩
      have HCl : Hid (∀ j, j < n → w.cell? ⟨gl, ol + j, none⟩ = some (.int .i64 (l.getD j 0))) := hcl
      have HAt := rpat_any ok r v p fs x wr (HB.out.keep HI.out.1)
      subst ea
      clear hx hkl hcl
      go_wp2_with fail
      refine HAt.mono ?_
      rintro e w4 ⟨h, u, er, rfl, ⟨ua, um, uc, rfl⟩, hin, g4⟩
      obtain ⟨nm, su, kd, co, po, he, tr, tk⟩ := h
      obtain ⟨W5, hW5⟩ : ∃ W5, W5 = w4.alloc (.cells (ccs ⟨nm, su, kd, co, po, he, tr, tk⟩ (.slice ua um uc)) 55) := ⟨_, rfl⟩
      have HG5 : Hid (wr.grownBy W5 none) := by rw [hW5]; exact grown_push g4 _
      have HA5 : Hid (CAt W5 w4.heap.size ⟨nm, su, kd, co, po, he, tr, tk⟩ (.slice ua um uc)) := by rw [hW5]; exact alloc_at w4 _ _
      have HI5 : Hid (w.grownBy W5 none ∧ FAt W5 rr 0 0 ∧ PrIn (names fs) l k T) := ⟨grown_trans HI.out.1 HG5.out, HI.out.2.1.keep HG5.out, HI.out.2.2⟩
      unfold ccs at hW5
      unfold cv
      clear g4 HAt HI HG5 D0
      rcases hin with ⟨hno, rfl⟩ | ⟨hat, rfl, e0, he0, hh⟩
      · have HX : Hid (D = (6, (k : Int)) ∧ X = ⟨#[]⟩) := by
          have h2 := HI5.out.2.2.bad HL.out.2 HXk.out.2 (by rw [← HXk.out.1]; exact fun q => hno ⟨HP.out.1, q.1, by have := q.2; rw [HP.out.2] at this; exact this⟩)
          exact ⟨by rw [HD.out.1, h2.1], by rw [HD.out.2, h2.2]⟩
        have HGo : Hid (w.grownBy W5 none) := HI5.out.1
        have c0 := HI5.out.2.1.c0
        have c1 := HI5.out.2.1.c1
        have f0 := HI5.out.2.1.free 0
        have f1 := HI5.out.2.1.free 1
        clear hno HI5 HA5
        go_upto_region 10 with fail
        rw [← hW5]
        clear hW5
        go_wp2
        refine bodyPost_ret (v := .tuple #[.string ⟨#[]⟩, .agg #[.int .i64 6, .int .i64 (k : Int)]]) (by simp [results, Tryz.results11, go_sem, c0, c1]) rfl ⟨by rw [HX.out.1, HX.out.2]; rfl, ?_⟩
        exact ret_f2 HGo.out _ _ (by rw [HRr.out]; exact Nat.le_refl _)
      · have HNm : Hid (nm.data.toList = nmb (names fs) (l.getD k 0) ∧ nm.size ≤ 20 ∧ nIn (names fs).length (l.getD k 0)) := by
          refine ⟨?_, ?_, ?_⟩
          · unfold nmb
            rw [← HXk.out.1]
            have : (names fs)[(x - 1).toNat]? = some nm := by rw [names_at he0, ← hh]
            rw [List.getD_eq_getElem?_getD, this]
            rfl
          · have := (HB.out.nm e0 (List.mem_of_getElem? he0)).2
            rw [← hh] at this
            exact this
          · rw [← HXk.out.1, HP.out.2]
            exact ⟨hat.2.1, hat.2.2⟩
        clear hat he0 hh
        go_upto_region 10 with fail
        rw [← hW5]
        clear hW5
        obtain ⟨b4, hb4⟩ : ∃ b4, b4 = w4.heap.size := ⟨_, rfl⟩
        rw [← hb4] at HA5 ⊢
        clear hb4
        obtain ⟨wz, hwz⟩ : ∃ wz, wz = wr := ⟨_, rfl⟩
        subst hwz
        go_wp2_with fail
        go_loopw [11] (fun i wr => Hid (W5.grownBy wr none) ∧ ∃ K : Nat, k ≤ K ∧ K ≤ n ∧ i = .int .i64 (K : Int) ∧ Hid (∀ j, k ≤ j → j < K → l.getD j 0 = l.getD k 0)) (fun i _ => n - (intOf i).toNat)
        case atStart => exact ⟨grown_refl _ _, k, Nat.le_refl _, hk, rfl, fun j h1 h2 => absurd h2 (by omega)⟩
        case round =>
          obtain ⟨HG, K, hkK, hKn, rfl, HA⟩ := hrel
          have fin : ∀ W, W5.grownBy W none → RunTo l k K → True := fun _ _ _ => trivial
          by_cases hgo : K < n ∧ l.getD K 0 = x
          · obtain ⟨hlt2, hd⟩ := hgo
            have hlt2' : (K : Int) < (n : Int) := by omega
            have hK0 : (0 : Int) ≤ (K : Int) := by omega
            have E1 : wr.cell? ⟨gl, ol + K, none⟩ = some (.int .i64 x) := by rw [← hd]; exact HG.out.cell (HI5.out.1.cell (HCl.out K hlt2) (by simp)) (by simp)
            have E2 : wr.cell? ⟨gl, ol + k, none⟩ = some (.int .i64 x) := by rw [HXk.out.1]; exact HG.out.cell (HI5.out.1.cell (HCl.out k hlt) (by simp)) (by simp)
            have HA2 : Hid (∀ j, k ≤ j → j < K + 1 → l.getD j 0 = l.getD k 0) := by
              show ∀ j, k ≤ j → j < K + 1 → l.getD j 0 = l.getD k 0
              intro j h1 h2
              rcases (show j < K ∨ j = K from by omega) with h3 | h3
              · exact HA.out j h1 h3
              · rw [h3, hd, HXk.out.1]
            clear hd HA fin
            go_wp2_with fail
            go_quiet (fail)
            go_wp2_with fail
            go_roundw
            case rel => exact ⟨grown_trans HG.out (grown_drewN _ _ _), K + 1, by omega, hlt2, by first | rfl | (rw [hsm.wrap hlt2]; rfl), HA2⟩
            case measure => first | exact meas_next hlt2 | (rw [hsm.wrap hlt2]; exact meas_next hlt2)
          · have hRun : RunTo l k K := by
              have hkK' : k < K := by
                rcases (show k < K ∨ k = K from by omega) with h1 | h1
                · exact h1
                · exfalso
                  apply hgo
                  rw [← h1]
                  exact ⟨hlt, HXk.out.1.symm⟩
              refine ⟨hkK', by have := HL.out.1; omega, fun j h1 h2 => HA.out j h1 h2, fun h1 h2 => hgo ⟨by have := HL.out.1; omega, by rw [h2, HXk.out.1]⟩⟩
            have HRn : Hid (RunTo l k K) := hRun
            obtain ⟨q, hqd⟩ : ∃ q, q = K - k := ⟨_, rfl⟩
            have hlt3 := hRun.lt
            have hq40 : q ≤ 40 := by have h1 := hRun.le; have h2 := HL.out.2; omega
            obtain ⟨z, hz⟩ : ∃ z : ByteArray, z = ⟨(dec q).toArray⟩ := ⟨_, rfl⟩
            have HIt := fun (W : World) => decl_any q hq40 W
            rw [← hz] at HIt
            have hzs : z.size ≤ 2 := by rw [hz]; exact dec_two q hq40
            have hns := HNm.out.2.1
            have hTs : T.size ≤ 960 := by have h1 := HI5.out.2.2.sz; have h2 := HL.out; omega
            have b1 : ¬ 9223372036854775807 < T.size + z.size := by omega
            have b2 : ¬ 9223372036854775807 < T.size + z.size + 1 := by omega
            have b3 : ¬ 9223372036854775807 < T.size + z.size + 1 + nm.size := by omega
            have b4' : ¬ 9223372036854775807 < T.size + z.size + 1 + nm.size + 1 := by omega
            have HI6 : Hid (w.grownBy wr none ∧ FAt wr rr 0 0 ∧ PrIn (names fs) l k T) := ⟨grown_trans HI5.out.1 HG.out, HI5.out.2.1.keep HG.out, HI5.out.2.2⟩
            have d0 : wr.cell? ⟨b4, 0, none⟩ = some (.string nm) := (HA5.out.keep HG.out).cells.1
            have HZ : Hid (z.data.toList = dec q) := by rw [hz]; exact rfl
            have HKQ : Hid (K = k + q ∧ k + q ≤ n ∧ 0 < q) := ⟨by omega, by omega, by omega⟩
            have hsb : (K : Int) - (k : Int) = (q : Int) := by omega
            have hsw : IntKind.i64.wrap (q : Int) = (q : Int) := by rw [IntKind.wrap_i64]; omega
            have hK0 : (0 : Int) ≤ (K : Int) := by omega
            have HPN : Hid (∀ T' : ByteArray, T'.data.toList = T.data.toList ++ (z.data.toList ++ [32] ++ nm.data.toList ++ [10]) → PrIn (names fs) l (k + q) T') := fun T' hT => HI6.out.2.2.next HL.out.2 (by rw [hqd]; exact hRun.drop) HNm.out.2.2 HNm.out.1 HZ.out HNm.out.2.1 T' hT
            by_cases hKn2 : K < n
            · have hlt2' : (K : Int) < (n : Int) := by omega
              obtain ⟨y, hy⟩ : ∃ y, y = l.getD K 0 := ⟨_, rfl⟩
              have E1 : wr.cell? ⟨gl, ol + K, none⟩ = some (.int .i64 y) := by rw [hy]; exact HG.out.cell (HI5.out.1.cell (HCl.out K hKn2) (by simp)) (by simp)
              have E2 : wr.cell? ⟨gl, ol + k, none⟩ = some (.int .i64 x) := by rw [HXk.out.1]; exact HG.out.cell (HI5.out.1.cell (HCl.out k hlt) (by simp)) (by simp)
              have hd2 : (y == x) = false := by simp only [beq_eq_false_iff_ne]; rw [hy]; exact fun e => hgo ⟨hKn2, e⟩
              clear hRun hqd hlt3 hq40 hz hzs hns hTs hgo HA HG hkK hKn fin hy
              go_wp2_with fail
              go_quiet (fail)
              go_upto_region 15 with fail
              go_region_with (go_at_call 42; refine (HIt _).mono ?_; rintro e w7 ⟨rfl, g7⟩; have d7 : w7.cell? ⟨b4, 0, none⟩ = some (.string nm) := g7.cell d0 (by simp); have HG7 : Hid (wr.grownBy w7 none) := grown_trans (grown_drewN wr _ none) g7; clear g7)
              all_goals go_wp2_with fail
              all_goals (refine ⟨⟨k + q, _, HKQ.out.2.1, by rw [HKQ.out.1], rfl, grown_trans HI6.out.1 HG7.out, HI6.out.2.1.keep HG7.out, HPN.out _ (ty_data _ _ _)⟩, ?_⟩; rw [HKQ.out.1]; exact meas_add HKQ.out.2.1 HKQ.out.2.2)
            · have hlt2' : ¬ (K : Int) < (n : Int) := by omega
              have hlt2n : ¬ K < n := hKn2
              clear hRun hqd hlt3 hq40 hz hzs hns hTs hgo HA HG hkK hKn fin
              go_wp2_with fail
              go_quiet (fail)
              go_upto_region 15 with fail
              go_region_with (go_at_call 42; refine (HIt _).mono ?_; rintro e w7 ⟨rfl, g7⟩; have d7 : w7.cell? ⟨b4, 0, none⟩ = some (.string nm) := g7.cell d0 (by simp); have HG7 : Hid (wr.grownBy w7 none) := grown_trans (grown_drewN wr _ none) g7; clear g7)
              all_goals go_wp2_with fail
              all_goals (refine ⟨⟨k + q, _, HKQ.out.2.1, by rw [HKQ.out.1], rfl, grown_trans HI6.out.1 HG7.out, HI6.out.2.1.keep HG7.out, HPN.out _ (ty_data _ _ _)⟩, ?_⟩; rw [HKQ.out.1]; exact meas_add HKQ.out.2.1 HKQ.out.2.2)
theorem rkprint_any (ok : Nat → Prop) (r : Nat) (v : Value) (p : Pl) (fs : List Ent) (a : Option Addr) (n c : Nat) (l : List Int) (w : World) (B : RB ok w r v p fs) (R : Rd w a n l) : Calls Tryz.prog 11 #[.pointer (some ⟨r, 0, none⟩), .slice a n c] w fun e w' => e = .returned (.tuple #[.string ⟨(prX p fs l).toArray⟩, fv2 (prF p fs l)]) ∧ w.grownBy w' none := by
  unfold prX prF
  cases hp : p.shut with
  | false => exact rprint_open ok r v p fs a n c w B hp
  | true =>
    rw [if_pos rfl, if_pos rfl]
    by_cases hn : 40 < n
    · have e : pchk fs.length l = (9, -1) := by unfold pchk; rw [if_pos (by rw [← R.1]; exact hn)]
      have e2 : ptxt (names fs) l = [] := by unfold ptxt; rw [names_len, e, if_neg (by simp)]
      rw [e, e2]
      exact rprint_len ok r v p fs a n c w B hp hn
    · exact rprint_run ok r v p fs a n c l w B hp (by omega) R
end Go.Proofs.YtbcggjacjfcldaaGreatDoor
namespace Go.Proofs.YtbcggjacjfcldaaGreatDoor
open Go.RowKit

theorem ext_take (s : ByteArray) (n : Nat) : (s.extract 0 n).data.toList = s.data.toList.take n := by
  rw [ByteArray.data_extract, Array.toList_extract]
  simp [List.extract]
theorem ext_drop (s : ByteArray) (n : Nat) : (s.extract n s.size).data.toList = s.data.toList.drop n := by
  rw [ByteArray.data_extract, Array.toList_extract]
  have : s.data.toList.length = s.size := rfl
  simp only [List.extract]
  rw [List.take_of_length_le]
  rw [List.length_drop, this]
  exact Nat.le_refl _
/-- The line begins with this number. -/
def LnAt (e : List UInt8) (i : Nat) : Prop := (dec i ++ [32]).isPrefixOf e = true ∧ nameOk (e.drop ((dec i).length + 1)) = true
theorem lineP_at {e : List UInt8} {i : Nat} (h1 : 1 ≤ i) (h2 : i ≤ 40) (h : LnAt e i) : lineP e = some (i, e.drop ((dec i).length + 1)) := by
  obtain ⟨t, ht⟩ := List.isPrefixOf_iff_prefix.1 h.1
  have hd : e.drop ((dec i).length + 1) = t := by rw [← ht, List.drop_append]; simp
  have he : e = lineT i t := by rw [← ht]; unfold lineT; simp
  have hn := h.2
  rw [hd] at hn ⊢
  rw [he]
  exact lineP_of h1 h2 hn
theorem lineP_no {e : List UInt8} (h : ∀ i, 1 ≤ i → i < 41 → ¬ LnAt e i) : lineP e = none := by
  unfold lineP
  rw [List.findSome?_eq_none_iff]
  intro i hi
  rw [List.mem_range] at hi
  rw [if_neg]
  intro hc
  rw [Bool.and_eq_true] at hc
  exact h (i + 1) (by omega) (by omega) ⟨hc.1, hc.2⟩
/-- What the document's tests say of a line's head. -/
theorem lnAt_iff {s hd : ByteArray} {i : Nat} (hh : hd.data.toList = dec i ++ [32]) : LnAt s.data.toList i ↔ (hd.size < s.size ∧ (s.extract 0 hd.size).toList = hd.toList ∧ nameOk (s.extract hd.size s.size).data.toList = true) := by
  have hsz : hd.size = (dec i).length + 1 := by have : hd.data.toList.length = hd.size := rfl; rw [← this, hh]; simp
  rw [Lib.toList_data, Lib.toList_data, ext_take, ext_drop, hh, hsz]
  have hsl : s.data.toList.length = s.size := rfl
  constructor
  · rintro ⟨h1, h2⟩
    obtain ⟨t, ht⟩ := List.isPrefixOf_iff_prefix.1 h1
    have ht2 : s.data.toList.take ((dec i).length + 1) = dec i ++ [32] := by
      rw [← ht, List.take_append_of_le_length (by simp)]
      rw [List.take_of_length_le (by simp)]
    refine ⟨?_, ht2, h2⟩
    rw [← hsl]
    rcases Nat.lt_or_ge ((dec i).length + 1) s.data.toList.length with h3 | h3
    · exact h3
    · rw [List.drop_eq_nil_of_le h3] at h2
      simp [nameOk] at h2
  · rintro ⟨_, h2, h3⟩
    refine ⟨List.isPrefixOf_iff_prefix.2 ⟨s.data.toList.drop ((dec i).length + 1), ?_⟩, h3⟩
    rw [← h2, List.take_append_drop]
theorem meas_k {k : Nat} (h : k ≤ 40) : 41 - (intOf (.int .i64 ((k : Int) + 1))).toNat < 41 - (intOf (.int .i64 (k : Int))).toNat := by simp [intOf]; omega
set_option maxHeartbeats 4000000 in
set_option maxRecDepth 100000 in
theorem rline_any (s : ByteArray) (hs : s.size ≤ 140737488355328) (w : World) : Calls Tryz.prog 46 #[.string s] w (RlPost s w) := by
  have HS : Hid (s.size ≤ 140737488355328) := hs
  clear hs
  go_enter Tryz.func46, Tryz.ntmps46
  go_wp2_with fail
  go_loopw [5, 6] (fun i _ wr => ∃ k : Nat, 1 ≤ k ∧ k ≤ 41 ∧ i = .int .i64 (k : Int) ∧ Hid (w.grownBy wr none ∧ ∀ j, 1 ≤ j → j < k → ¬ LnAt s.data.toList j)) (fun i _ _ => 41 - (intOf i).toNat)
  case atStart => exact ⟨1, by omega, by omega, rfl, grown_refl _ _, fun j h1 h2 => by omega⟩
  case round =>
    obtain ⟨k, hk1, hk2, rfl, HI⟩ := hrel
    rcases (show k = 41 ∨ k ≤ 40 from by omega) with e | hle
    · have hno : lineP s.data.toList = none := lineP_no (fun i h1 h2 => HI.out.2 i h1 (by omega))
      have HX : Hid (lineP s.data.toList = none ∧ w.grownBy wr none) := ⟨hno, HI.out.1⟩
      subst e
      clear hno HI hk1 hk2
      go_wp2
      go_ret3
      exact ⟨0, ⟨#[]⟩, false, rfl, by rw [HX.out.1]; rfl, (fun k x h => by rw [HX.out.1] at h; cases h), HX.out.2⟩
    · have hle' : (k : Int) ≤ 40 := by omega
      have HD := decl_any k hle wr
      have hzs := dec_two k hle
      obtain ⟨z, hz⟩ : ∃ z : ByteArray, z = ⟨(dec k).toArray⟩ := ⟨_, rfl⟩
      have hzl : z.size ≤ 2 := by rw [hz]; exact hzs
      have b1 : ¬ 9223372036854775807 < z.size + 1 := by omega
      obtain ⟨hd, hhd⟩ : ∃ hd : ByteArray, hd = z ++ ⟨#[32]⟩ := ⟨_, rfl⟩
      have hdd : hd.data.toList = dec k ++ [32] := by rw [hhd, app_data, hz]
      have HIff : Hid (LnAt s.data.toList k ↔ (hd.size < s.size ∧ (s.extract 0 hd.size).toList = hd.toList ∧ nameOk (s.extract hd.size s.size).data.toList = true)) := lnAt_iff hdd
      have hdz : hd.size = (dec k).length + 1 := by have : hd.data.toList.length = hd.size := rfl; rw [← this, hdd]; simp
      have HDz : Hid (hd.size = (dec k).length + 1 ∧ 1 ≤ k ∧ k ≤ 40) := ⟨hdz, hk1, hle⟩
      have HWk : Hid (wrap64 ((k : Int) + 1) = ((k + 1 : Nat) : Int)) := by show _ = _; unfold wrap64; omega
      rw [← hz] at HD
      have hd3 : hd.size ≤ 3 := by omega
      clear hzs hz hdd hdz hk1 hk2
      go_wp2_with fail
      refine HD.mono ?_
      rintro e w2 ⟨rfl, g2⟩
      have HG2 : Hid (w.grownBy w2 none) := grown_trans HI.out.1 g2
      have HNm := fun (W : World) => r7name_any (s.extract hd.size s.size) W
      clear g2 HD hzl
      go_upto_region 5 with fail
      rw [← hhd]
      clear hhd b1
      have HNext : Hid (¬ LnAt s.data.toList k → ∀ j, 1 ≤ j → j < k + 1 → ¬ LnAt s.data.toList j) := fun hn j h1 h2 => by
        rcases (show j < k ∨ j = k from by omega) with h3 | h3
        · exact HI.out.2 j h1 h3
        · rw [h3]; exact hn
      clear HI
      by_cases h1 : hd.size < s.size
      · have h1' : (hd.size : Int) < (s.size : Int) := by omega
        have h0 : (0 : Int) ≤ (hd.size : Int) := by omega
        have h1l : (hd.size : Int) ≤ (s.size : Int) := by omega
        by_cases h2 : (s.extract 0 hd.size).toList = hd.toList
        · have h2b : ((s.extract 0 hd.size).toList == hd.toList) = true := by rw [h2]; simp
          obtain ⟨P, hP⟩ : ∃ P, P = s.extract 0 hd.size := ⟨_, rfl⟩
          obtain ⟨nb, hnb⟩ : ∃ nb, nb = nameOk (s.extract hd.size s.size).data.toList := ⟨_, rfl⟩
          rw [← hnb] at HNm
          have HNb : Hid (nb = nameOk (s.extract hd.size s.size).data.toList) := hnb
          have HH2 : Hid ((s.extract 0 hd.size).toList = hd.toList ∧ hd.size < s.size) := ⟨h2, h1⟩
          clear hP hnb h2
          go_wp2_with fail
          refine (HNm _).mono ?_
          rintro e w3 ⟨rfl, hw⟩
          obtain rfl : w2 = w3 := hw.symm
          clear HNm
          cases nb with
          | true =>
            have HLp : Hid (lineP s.data.toList = some (k, s.data.toList.drop hd.size)) := by
              have := lineP_at HDz.out.2.1 HDz.out.2.2 (HIff.out.2 ⟨HH2.out.2, HH2.out.1, HNb.out.symm⟩)
              show _ = _
              rw [this, HDz.out.1]
            clear HIff HNb HNext
            go_wp2_with fail
            go_quiet (fail)
            go_wp2_with fail
            go_ret3
            refine ⟨(k : Int), s.extract hd.size s.size, true, rfl, by rw [HLp.out]; rfl, fun i x h => ?_, grown_trans HG2.out (grown_drewN _ _ _)⟩
            rw [HLp.out] at h
            injection h with h
            injection h with h3 h4
            subst h3
            refine ⟨rfl, ?_⟩
            rw [← h4, ← ext_drop, bytes_mk]
          | false =>
            have HN2 : Hid (∀ j, 1 ≤ j → j < k + 1 → ¬ LnAt s.data.toList j) := HNext.out (fun h => by have := (HIff.out.1 h).2.2; rw [← HNb.out] at this; cases this)
            clear HIff HNb HNext
            go_wp2_with fail
            go_roundw
            case rel => exact ⟨k + 1, by omega, by omega, by first | rfl | (rw [HWk.out]), HG2.out, HN2.out⟩
            case measure => first | exact meas_k hle | (rw [HWk.out]; exact meas_k hle)
        · have h2b : ((s.extract 0 hd.size).toList == hd.toList) = false := by simpa using h2
          have HN2 : Hid (∀ j, 1 ≤ j → j < k + 1 → ¬ LnAt s.data.toList j) := HNext.out (fun h => h2 (HIff.out.1 h).2.1)
          clear HIff HNext h2 HNm
          go_wp2_with fail
          go_roundw
          case rel => exact ⟨k + 1, by omega, by omega, by first | rfl | (rw [HWk.out]), HG2.out, HN2.out⟩
          case measure => first | exact meas_k hle | (rw [HWk.out]; exact meas_k hle)
      · have h1' : ¬ (hd.size : Int) < (s.size : Int) := by omega
        have HN2 : Hid (∀ j, 1 ≤ j → j < k + 1 → ¬ LnAt s.data.toList j) := HNext.out (fun h => h1 (HIff.out.1 h).1)
        clear HIff HNext HNm
        go_wp2_with fail
        go_roundw
        case rel => exact ⟨k + 1, by omega, by omega, by first | rfl | (rw [HWk.out]), HG2.out, HN2.out⟩
        case measure => first | exact meas_k hle | (rw [HWk.out]; exact meas_k hle)
end Go.Proofs.YtbcggjacjfcldaaGreatDoor
