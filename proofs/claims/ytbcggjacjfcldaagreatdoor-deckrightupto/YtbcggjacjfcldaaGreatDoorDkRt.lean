/-
  DeckRight, of every fill and list.
-/
import Derived.Test.YtbcggjacjfcldaaGreatDoorDkBk
import Derived.Test.YtbcggjacjfcldaaGreatDoorRkF
namespace Go.Proofs.YtbcggjacjfcldaaGreatDoor
open Go.RowKit

theorem take_rev {l : List Int} {i d : Nat} (h : i + d + 1 = l.length) : l.reverse.take i ++ [l.getD d 0] = l.reverse.take (i + 1) := by
  have hi : i < l.reverse.length := by rw [List.length_reverse]; omega
  rw [List.take_add_one, List.getElem?_eq_getElem hi]
  simp only [Option.toList_some, List.append_cancel_left_eq, List.cons.injEq, and_true]
  rw [List.getElem_reverse]
  have hd : d < l.length := by omega
  rw [show l.getD d 0 = l[d] by simp [List.getD, hd]]
  congr 1
  omega
set_option maxHeartbeats 8000000 in
set_option maxRecDepth 100000 in
theorem dright_big1 (ca ma : Option Addr) (ck mk : Nat) (op : Bool) (cs : List Ent) (ms : List Mk) (a : Option Addr) (n c : Nat) (w : World) (LB : LibAt w) (h1 : 80 < cs.length) : Calls Tryz.prog 6 #[.agg #[.slice ca cs.length ck, .slice ma ms.length mk, .bool op], .slice a n c] w fun e w' => e = .returned (.bool true) ∧ w.grownBy w' none := by
  obtain ⟨W1, hW1⟩ : ∃ W1, W1 = w.alloc (.cells #[.slice ca cs.length ck, .slice ma ms.length mk, .bool op] 25) := ⟨_, rfl⟩
  have HG1 : Hid (w.grownBy W1 none) := by rw [hW1]; exact World.grownBy_alloc _ _ none
  have HBx : Hid (FbAt W1 w.heap.size (.slice ca cs.length ck) (.slice ma ms.length mk) op) := by rw [hW1]; exact alloc_at w _ _
  have HAw := awake_any W1 (LB.keep HG1.out)
  have t1 : (80 : Int) < (cs.length : Int) := by omega
  clear LB h1
  obtain ⟨f0, hf0⟩ : ∃ f0, f0 = w.heap.size := ⟨_, rfl⟩
  go_enter Tryz.func6, Tryz.ntmps6
  go_upto_region 1 with fail
  rw [← hW1, ← hf0]
  rw [← hf0] at HBx
  clear hW1 hf0
  go_wp2_with fail
  refine HAw.mono ?_
  rintro e w2 ⟨rfl, g2⟩
  have HG2 : Hid (w.grownBy w2 none) := grown_trans HG1.out g2
  have HB2 : Hid (FbAt w2 f0 (.slice ca cs.length ck) (.slice ma ms.length mk) op) := HBx.out.keep g2
  have x0 := block_cell HB2.out 0
  have x1 := block_cell HB2.out 1
  have x2 := block_cell HB2.out 2
  clear HAw g2 HBx
  go_wp2_with fail
  go_ret
  exact ⟨rfl, HG2.out⟩
set_option maxHeartbeats 8000000 in
set_option maxRecDepth 100000 in
theorem dright_big2 (ca ma : Option Addr) (ck mk : Nat) (op : Bool) (cs : List Ent) (ms : List Mk) (a : Option Addr) (n c : Nat) (w : World) (LB : LibAt w) (h1 : ¬ 80 < cs.length) (h2 : 20 < ms.length) : Calls Tryz.prog 6 #[.agg #[.slice ca cs.length ck, .slice ma ms.length mk, .bool op], .slice a n c] w fun e w' => e = .returned (.bool true) ∧ w.grownBy w' none := by
  obtain ⟨W1, hW1⟩ : ∃ W1, W1 = w.alloc (.cells #[.slice ca cs.length ck, .slice ma ms.length mk, .bool op] 25) := ⟨_, rfl⟩
  have HG1 : Hid (w.grownBy W1 none) := by rw [hW1]; exact World.grownBy_alloc _ _ none
  have HBx : Hid (FbAt W1 w.heap.size (.slice ca cs.length ck) (.slice ma ms.length mk) op) := by rw [hW1]; exact alloc_at w _ _
  have HAw := awake_any W1 (LB.keep HG1.out)
  have t1 : ¬ (80 : Int) < (cs.length : Int) := by omega
  have t2 : (20 : Int) < (ms.length : Int) := by omega
  clear LB h1 h2
  obtain ⟨f0, hf0⟩ : ∃ f0, f0 = w.heap.size := ⟨_, rfl⟩
  go_enter Tryz.func6, Tryz.ntmps6
  go_upto_region 1 with fail
  rw [← hW1, ← hf0]
  rw [← hf0] at HBx
  clear hW1 hf0
  go_wp2_with fail
  refine HAw.mono ?_
  rintro e w2 ⟨rfl, g2⟩
  have HG2 : Hid (w.grownBy w2 none) := grown_trans HG1.out g2
  have HB2 : Hid (FbAt w2 f0 (.slice ca cs.length ck) (.slice ma ms.length mk) op) := HBx.out.keep g2
  have x0 := block_cell HB2.out 0
  have x1 := block_cell HB2.out 1
  have x2 := block_cell HB2.out 2
  clear HAw g2 HBx
  go_wp2_with fail
  go_ret
  exact ⟨rfl, HG2.out⟩
set_option maxHeartbeats 8000000 in
set_option maxRecDepth 100000 in
theorem dright_big3 (ca ma : Option Addr) (ck mk : Nat) (op : Bool) (cs : List Ent) (ms : List Mk) (a : Option Addr) (n c : Nat) (w : World) (LB : LibAt w) (h1 : ¬ 80 < cs.length) (h2 : ¬ 20 < ms.length) (h3 : 300 < n) : Calls Tryz.prog 6 #[.agg #[.slice ca cs.length ck, .slice ma ms.length mk, .bool op], .slice a n c] w fun e w' => e = .returned (.bool true) ∧ w.grownBy w' none := by
  obtain ⟨W1, hW1⟩ : ∃ W1, W1 = w.alloc (.cells #[.slice ca cs.length ck, .slice ma ms.length mk, .bool op] 25) := ⟨_, rfl⟩
  have HG1 : Hid (w.grownBy W1 none) := by rw [hW1]; exact World.grownBy_alloc _ _ none
  have HBx : Hid (FbAt W1 w.heap.size (.slice ca cs.length ck) (.slice ma ms.length mk) op) := by rw [hW1]; exact alloc_at w _ _
  have HAw := awake_any W1 (LB.keep HG1.out)
  have t1 : ¬ (80 : Int) < (cs.length : Int) := by omega
  have t2 : ¬ (20 : Int) < (ms.length : Int) := by omega
  have t3 : (300 : Int) < (n : Int) := by omega
  clear LB h1 h2 h3
  obtain ⟨f0, hf0⟩ : ∃ f0, f0 = w.heap.size := ⟨_, rfl⟩
  go_enter Tryz.func6, Tryz.ntmps6
  go_upto_region 1 with fail
  rw [← hW1, ← hf0]
  rw [← hf0] at HBx
  clear hW1 hf0
  go_wp2_with fail
  refine HAw.mono ?_
  rintro e w2 ⟨rfl, g2⟩
  have HG2 : Hid (w.grownBy w2 none) := grown_trans HG1.out g2
  have HB2 : Hid (FbAt w2 f0 (.slice ca cs.length ck) (.slice ma ms.length mk) op) := HBx.out.keep g2
  have x0 := block_cell HB2.out 0
  have x1 := block_cell HB2.out 1
  have x2 := block_cell HB2.out 2
  clear HAw g2 HBx
  go_wp2_with fail
  go_ret
  exact ⟨rfl, HG2.out⟩
set_option maxHeartbeats 8000000 in
set_option maxRecDepth 100000 in
theorem dright_main (ca ma : Option Addr) (ck mk : Nat) (op : Bool) (cs : List Ent) (ms : List Mk) (a : Option Addr) (n c : Nat) (l : List Int) (w : World) (F : FiA w (.slice ca cs.length ck) (.slice ma ms.length mk) cs ms) (R : Rd w a n l) (hnc : n ≤ c) (LB : LibAt w) (h1 : ¬ 80 < cs.length) (h2 : ¬ 20 < ms.length) (h3 : ¬ 300 < n) : Calls Tryz.prog 6 #[.agg #[.slice ca cs.length ck, .slice ma ms.length mk, .bool op], .slice a n c] w fun e w' => e = .returned (.bool true) ∧ w.grownBy w' none := by
  obtain ⟨W1, hW1⟩ : ∃ W1, W1 = w.alloc (.cells #[.slice ca cs.length ck, .slice ma ms.length mk, .bool op] 25) := ⟨_, rfl⟩
  have HG1 : Hid (w.grownBy W1 none) := by rw [hW1]; exact World.grownBy_alloc _ _ none
  have HBx : Hid (FbAt W1 w.heap.size (.slice ca cs.length ck) (.slice ma ms.length mk) op) := by rw [hW1]; exact alloc_at w _ _
  have HAw := awake_any W1 (LB.keep HG1.out)
  have t1 : ¬ (80 : Int) < (cs.length : Int) := by omega
  have t2 : ¬ (20 : Int) < (ms.length : Int) := by omega
  have t3 : ¬ (300 : Int) < (n : Int) := by omega
  have HFi : Hid (FiA w (.slice ca cs.length ck) (.slice ma ms.length mk) cs ms) := F
  have HRd : Hid (Rd w a n l ∧ n ≤ c) := ⟨R, hnc⟩
  have HLe : Hid (cs.length ≤ 80 ∧ ms.length ≤ 20 ∧ n ≤ 300) := ⟨by omega, by omega, by omega⟩
  clear F R hnc LB h1 h2 h3
  obtain ⟨f0, hf0⟩ : ∃ f0, f0 = w.heap.size := ⟨_, rfl⟩
  go_enter Tryz.func6, Tryz.ntmps6
  go_upto_region 1 with fail
  rw [← hW1, ← hf0]
  rw [← hf0] at HBx
  clear hW1 hf0
  go_wp2_with fail
  refine HAw.mono ?_
  rintro e w2 ⟨rfl, g2⟩
  have HG2 : Hid (w.grownBy w2 none) := grown_trans HG1.out g2
  have HB2 : Hid (FbAt w2 f0 (.slice ca cs.length ck) (.slice ma ms.length mk) op) := HBx.out.keep g2
  have x0 := block_cell HB2.out 0
  have x1 := block_cell HB2.out 1
  have x2 := block_cell HB2.out 2
  clear HAw g2 HBx
  have HBk := books_any (.slice ca cs.length ck) (.slice ma ms.length mk) op cs ms w2 (HFi.out.keep HG2.out) HLe.out.1 HLe.out.2.1
  obtain ⟨nb, hnb⟩ : ∃ nb, nb = w2.heap.size + 1 := ⟨_, rfl⟩
  rw [← hnb] at HBk
  clear hnb
  go_wp2_with fail
  refine HBk.mono ?_
  intro e w3 Q3
  obtain ⟨vv, es, fs, p, rfl, P3, -, g3⟩ := Q3
  have HG3 : Hid (w.grownBy w3 none) := grown_trans HG2.out g3
  have HB3 : Hid (Book (okB nb) w3 nb es p) := P3.book
  have HCk := pcheck_any (okB nb) nb es p a n c l w3 P3.book (HRd.out.1.keep HG3.out)
  obtain ⟨k1, hk1⟩ : ∃ k1, k1 = (ckF p es l).1 := ⟨_, rfl⟩
  obtain ⟨k2, hk2⟩ : ∃ k2, k2 = (ckF p es l).2 := ⟨_, rfl⟩
  unfold fv2 at HCk
  rw [← hk1, ← hk2] at HCk
  have HK : Hid (ckF p es l = (k1, k2)) := by show _ = _; rw [hk1, hk2]
  clear HBk P3 g3 hk1 hk2 x0 x1 x2 HB2
  go_wp2_with fail
  refine HCk.mono ?_
  rintro e w4 ⟨rfl, g4⟩
  obtain ⟨V0, hV0⟩ : ∃ V0, V0 = w4.alloc (.cells #[.int .i64 k1, .int .i64 k2] 34) := ⟨_, rfl⟩
  have HG5 : Hid (w.grownBy V0 none) := by rw [hV0]; exact grown_push (grown_trans HG3.out g4) _
  have HF5 : Hid (FAt V0 w4.heap.size k1 k2) := by rw [hV0]; exact alloc_at w4 _ _
  have HB5 : Hid (Book (okB nb) V0 nb es p) := by rw [hV0]; exact (HB3.out.keep g4).keep (World.grownBy_alloc _ _ none)
  clear HCk g4 HB3
  go_upto_region 6 with fail
  rw [← hV0]
  clear hV0
  obtain ⟨b9, hb9⟩ : ∃ b9, b9 = w4.heap.size := ⟨_, rfl⟩
  rw [← hb9] at HF5 ⊢
  clear hb9
  have HSl := sealed_yes nb es.length p V0 HB5.out.lies.flags
  have c0 := HF5.out.c0
  have c1 := HF5.out.c1
  cases hp : p.shut with
  | false =>
    have hk : k1 = 2 ∧ k2 = -1 := by
      have h := HK.out
      unfold ckF at h
      rw [hp, if_neg (by simp)] at h
      exact ⟨(congrArg Prod.fst h).symm, (congrArg Prod.snd h).symm⟩
    obtain ⟨hka, hkb⟩ := hk
    rw [hp] at HSl
    subst hka
    subst hkb
    clear hp HK
    go_wp2_with fail
    refine HSl.mono ?_
    rintro e w6 ⟨rfl, hw⟩
    obtain rfl : V0 = w6 := hw.symm
    clear HSl
    go_wp2_with fail
    go_ret
    exact ⟨rfl, HG5.out⟩
  | true =>
    have hck : dchk es.length (tkOf es) l = (k1, k2) := by
      have h := HK.out
      unfold ckF at h
      rw [hp, if_pos rfl] at h
      exact h
    rw [hp] at HSl
    have HP : Hid (p.shut = true) := hp
    clear hp HK
    by_cases hn1 : n < 12
    · have hk : k1 = 9 ∧ k2 = -1 := by
        unfold dchk at hck
        rw [if_pos (Or.inl (by rw [← HRd.out.1.1]; exact hn1))] at hck
        exact ⟨(congrArg Prod.fst hck).symm, (congrArg Prod.snd hck).symm⟩
      obtain ⟨hka, hkb⟩ := hk
      have q1 : (n : Int) < 12 := by omega
      subst hka
      subst hkb
      clear hck
      go_wp2_with fail
      refine HSl.mono ?_
      rintro e w6 ⟨rfl, hw⟩
      obtain rfl : V0 = w6 := hw.symm
      clear HSl
      go_wp2_with fail
      go_ret
      exact ⟨rfl, HG5.out⟩
    by_cases hn2 : 40 < n
    · have hk : k1 = 9 ∧ k2 = -1 := by
        unfold dchk at hck
        rw [if_pos (Or.inr (by rw [← HRd.out.1.1]; exact hn2))] at hck
        exact ⟨(congrArg Prod.fst hck).symm, (congrArg Prod.snd hck).symm⟩
      obtain ⟨hka, hkb⟩ := hk
      have q1 : ¬ (n : Int) < 12 := by omega
      have q2 : (40 : Int) < (n : Int) := by omega
      subst hka
      subst hkb
      clear hck
      go_wp2_with fail
      refine HSl.mono ?_
      rintro e w6 ⟨rfl, hw⟩
      obtain rfl : V0 = w6 := hw.symm
      clear HSl
      go_wp2_with fail
      go_ret
      exact ⟨rfl, HG5.out⟩
    obtain ⟨i0, hi, hz0, hz1, hz2⟩ := info_parts Tryz.info3r
    have q1 : ¬ (n : Int) < 12 := by omega
    have q2 : ¬ (40 : Int) < (n : Int) := by omega
    have HCk : Hid (dchk es.length (tkOf es) l = (k1, k2)) := hck
    have HL : Hid (n = l.length ∧ 12 ≤ l.length ∧ l.length ≤ 40) := ⟨HRd.out.1.1, by rw [← HRd.out.1.1]; omega, by rw [← HRd.out.1.1]; omega⟩
    obtain ⟨gl, ol, ea, hcl⟩ := HRd.out.1.2 (by omega)
    have HCl : Hid (∀ j, j < n → w.cell? ⟨gl, ol + j, none⟩ = some (.int .i64 (l.getD j 0))) := hcl
    have hsm : Small n := by unfold Small; omega
    have HBz : Hid (b9 < V0.heap.size) := block_lt HF5.out
    obtain ⟨Z, hZ⟩ : ∃ Z, Z = V0.heap.size := ⟨_, rfl⟩
    have HZ : Hid (Z = V0.heap.size) := hZ
    subst ea
    clear hck hcl hn1 hn2 hZ c0 c1
    go_wp2_with fail
    refine HSl.mono ?_
    rintro e w6 ⟨rfl, hw⟩
    obtain rfl : V0 = w6 := hw.symm
    clear HSl
    go_wp2_with fail
    go_loopw [10, 11, 12, 13, 14, 15] (fun x10 x11 _ _ _ _ wr => ∃ (i : Nat) (vb : Option Addr) (vd : Nat), i ≤ n ∧ x11 = .int .i64 (i : Int) ∧ x10 = .slice vb i vd ∧ Hid (V0.grownBy wr none ∧ wr.ownsRow Z 3 1 (.slice vb i vd) i (ints (l.reverse.take i)) ∧ ∀ j, j < i → dbad es.length (tkOf es) l j = 0)) (fun _ x11 _ _ _ _ _ => n - (intOf x11).toNat)
    case atStart => exact ⟨0, none, 0, Nat.zero_le _, rfl, rfl, grown_refl _ _, ⟨rfl, Or.inl ⟨rfl, rfl⟩⟩, fun j hj => by omega⟩
    case round =>
      obtain ⟨i, vb, vd, hin, rfl, rfl, HI⟩ := hrel
      rcases (show i = n ∨ i < n from by omega) with e | hlt
      · have hlt' : ¬ (i : Int) < (n : Int) := by omega
        subst e
        have hall : ∀ j, j < l.length → dbad es.length (tkOf es) l j = 0 := fun j hj => HI.out.2.2 j (by have := HL.out.1; omega)
        have hk := HCk.out
        rw [dchk_ok HL.out.2.1 HL.out.2.2 hall] at hk
        have hka : k1 = 0 := (congrArg Prod.fst hk).symm
        have hkb : k2 = 0 := (congrArg Prod.snd hk).symm
        have hrev : l.reverse.take i = l.reverse := by rw [List.take_of_length_le]; rw [List.length_reverse, HL.out.1]; exact Nat.le_refl _
        have ho := HI.out.2.1
        rw [hrev] at ho
        obtain ⟨za, zc, ez, RR, _, _⟩ := own_rd ho
        injection ez with ez1 _ ez2
        subst ez1
        subst ez2
        have HC2 := pcheck_any (okB nb) nb es p vb i vd l.reverse wr (HB5.out.keep HI.out.1) RR
        rw [show ckF p es l.reverse = (0, 0) from by unfold ckF; rw [HP.out, if_pos rfl]; exact dchk_turned (List.reverse_perm l) HL.out.2.1 HL.out.2.2 hall] at HC2
        unfold fv2 at HC2
        have F6 := HF5.out.keep HI.out.1
        rw [hka, hkb] at F6
        have c0 := F6.c0
        have c1 := F6.c1
        have HGe : Hid (w.grownBy wr none) := grown_trans HG5.out HI.out.1
        clear hall hk hka hkb hrev ho RR F6 HI hin
        go_wp2_with fail
        refine HC2.mono ?_
        rintro e w7 ⟨rfl, g7⟩
        have HG7 : Hid (w.grownBy w7 none) := grown_trans HGe.out g7
        clear HC2 g7 c0 c1
        go_wp2_with fail
        go_ret
        exact ⟨rfl, HG7.out⟩
      · have hlt' : (i : Int) < (n : Int) := by omega
        have hi0 : (0 : Int) ≤ (i : Int) := by omega
        obtain ⟨d, hd⟩ : ∃ d : Nat, i + d + 1 = n := ⟨n - 1 - i, by omega⟩
        have hdI : (n : Int) - 1 - (i : Int) = (d : Int) := by omega
        have hd0 : (0 : Int) ≤ (d : Int) := by omega
        have hdn : (d : Int) < (n : Int) := by omega
        obtain ⟨y, hy⟩ : ∃ y, y = l.getD d 0 := ⟨_, rfl⟩
        have D1 : wr.cell? ⟨gl, ol + d, none⟩ = some (.int .i64 y) := by rw [hy]; exact HI.out.1.cell (HG5.out.cell (HCl.out d (by omega)) (by simp)) (by simp)
        have HY : Hid (l.reverse.take i ++ [y] = l.reverse.take (i + 1)) := by show _ = _; rw [hy]; exact take_rev (by have := HL.out.1; omega)
        have HB1 : Hid (i + 1 ≤ maxLen ∧ (i + 1) * 8 ≤ 140737488355328) := ⟨by unfold maxLen; have := HL.out; omega, by have := HL.out; omega⟩
        have HZw : Hid (Z ≤ (wr.alloc (.cells #[.int .i64 y] 3)).heap.size) := by show Z ≤ _; rw [World.size_alloc]; have h1 := HI.out.1.size; have h2 := HZ.out; omega
        have HO : Hid (wr.ownsRow Z 3 1 (.slice vb i vd) i (ints (l.reverse.take i))) := HI.out.2.1
        obtain ⟨x, hx⟩ : ∃ x, x = l.getD i 0 := ⟨_, rfl⟩
        have HX : Hid (x = l.getD i 0 ∧ i < l.length) := ⟨hx, by have := HL.out.1; omega⟩
        have D0 : Hid (V0.cell? ⟨gl, ol + i, none⟩ = some (.int .i64 x)) := by show _ = _; rw [hx]; exact HG5.out.cell (HCl.out i hlt) (by simp)
        clear hy hx hd
        go_upto_region 15 with (at_builtin; refine wpList_append_own_at _ rfl (.tmp 71) (.tmp 80) 26 rfl Z 3 i0 (.int .i64 0) 1 8 Tryz.underlying26 hi hz0 hz1 hz2 rfl (by decide) (.slice vb i vd) i (ints (l.reverse.take i)) rfl (World.ownsRow.alloc HO.out _) ⟨wr.heap.size, 0, none⟩ 1 1 [.int .i64 y] rfl rfl (one_newI wr _) (fun x hx => by simp at hx; subst hx; rfl) HB1.out.1 HB1.out.2 HZw.out ?_; intro v1 V o1 g1 _ _; obtain ⟨vb2, vd2, rfl⟩ := own_fm o1; have HO1' : Hid (V.ownsRow Z 3 1 (.slice vb2 (i + 1) vd2) (i + 1) (ints (l.reverse.take i) ++ [.int .i64 y])) := o1; have HGV' : Hid ((wr.alloc (.cells #[.int .i64 y] 3)).grownBy V (Value.slice vb i vd).ownBlock) := g1; clear o1 g1)
        have HO1 : Hid (V.ownsRow Z 3 1 (.slice vb2 (i + 1) vd2) (i + 1) (ints (l.reverse.take (i + 1)))) := by
          have h1 := HO1'.out
          rw [show ints (l.reverse.take i) ++ [Value.int .i64 y] = ints (l.reverse.take (i + 1)) from by rw [← HY.out]; simp [ints]] at h1
          exact h1
        have HGV : Hid (V0.grownBy V none) := grown_own (grown_push HI.out.1 _) HGV'.out (fun x e => by have h1 := own_blk HO.out x e; have h2 := HZ.out; omega)
        clear HO1' HGV'
        have D2 : V.cell? ⟨gl, ol + i, none⟩ = some (.int .i64 x) := HGV.out.cell D0.out (by simp)
        have HAt := pat_any (okB nb) nb es p x V (HB5.out.keep HGV.out)
        clear D1
        go_wp2_with fail
        refine HAt.mono ?_
        rintro e w4' ⟨h, u, er, rfl, ⟨ua, um, uc, rfl⟩, hin4, g4⟩
        obtain ⟨nm, su, kd, co, po, he, tr, tk⟩ := h
        obtain ⟨W5, hW5⟩ : ∃ W5, W5 = w4'.alloc (.cells (ccs ⟨nm, su, kd, co, po, he, tr, tk⟩ (.slice ua um uc)) 55) := ⟨_, rfl⟩
        have HGW : Hid (V0.grownBy W5 none ∧ V.grownBy W5 none) := ⟨by rw [hW5]; exact grown_push (grown_trans HGV.out g4) _, by rw [hW5]; exact grown_push g4 _⟩
        have HA5 : Hid (CAt W5 w4'.heap.size ⟨nm, su, kd, co, po, he, tr, tk⟩ (.slice ua um uc)) := by rw [hW5]; exact alloc_at w4' _ _
        have HBad : Hid (∀ j, j < i → dbad es.length (tkOf es) l j = 0) := HI.out.2.2
        have HO5 : Hid (W5.ownsRow Z 3 1 (.slice vb2 (i + 1) vd2) (i + 1) (ints (l.reverse.take (i + 1)))) := own_kp HO1.out HGW.out.2
        have HIn : Hid ((¬ atIn p es x ∧ er = 6) ∨ (atIn p es x ∧ er = 0 ∧ ∃ e0, es[(x - 1).toNat]? = some e0 ∧ (⟨nm, su, kd, co, po, he, tr, tk⟩ : Hd) = e0.h)) := hin4
        unfold ccs at hW5
        unfold cv
        clear g4 HAt HI HO1 HGV D2 hin4 HO
        go_upto_region 16 with fail
        rw [← hW5]
        clear hW5
        obtain ⟨b4, hb4⟩ : ∃ b4, b4 = w4'.heap.size := ⟨_, rfl⟩
        rw [← hb4] at HA5 ⊢
        clear hb4
        obtain ⟨wz, hwz⟩ : ∃ wz, wz = wr := ⟨_, rfl⟩
        subst hwz
        go_wp2_with fail
        go_loopw [14, 15] (fun x14 x15 wr => ∃ (k q : Nat), k ≤ i ∧ x15 = .int .i64 (k : Int) ∧ x14 = .int .i64 (q : Int) ∧ Hid (W5.grownBy wr none ∧ q = (l.take k).count x)) (fun _ x15 _ => i - (intOf x15).toNat)
        case atStart => exact ⟨0, 0, Nat.zero_le _, rfl, rfl, grown_refl _ _, by simp⟩
        case round =>
          obtain ⟨k, q, hki, rfl, rfl, HQ⟩ := hrel
          rcases (show k = i ∨ k < i from by omega) with e | hlt2
          · have hlt2' : ¬ (k : Int) < (i : Int) := by omega
            subst e
            have HGq : Hid (V0.grownBy wr none) := grown_trans HGW.out.1 HQ.out.1
            have HGf : Hid (w.grownBy wr none) := grown_trans HG5.out HGq.out
            have F6 := HF5.out.keep HGq.out
            have c0 := F6.c0
            have c1 := F6.c1
            have d7 : wr.cell? ⟨b4, 7, none⟩ = some (.bool tk) := (HA5.out.keep HQ.out.1).cells.2.2.2.2.2.2.2.1
            have HQq : Hid (q = (l.take k).count x) := HQ.out.2
            clear F6
            rcases HIn.out with ⟨hno, rfl⟩ | ⟨hat, rfl, e0, he0, hh⟩
            · have hb : dbad es.length (tkOf es) l k = 6 := by
                unfold dbad
                rw [if_pos]
                rw [← HX.out.1]
                exact fun q => hno ⟨HP.out, q.1, q.2⟩
              have hk := HCk.out
              rw [dchk_at HL.out.2.1 HL.out.2.2 HX.out.2 HBad.out (by rw [hb]; decide), hb] at hk
              have hka : k1 = 6 := (congrArg Prod.fst hk).symm
              have hkb : k2 = (k : Int) := (congrArg Prod.snd hk).symm
              rw [hka] at c0
              rw [hkb] at c1
              clear hno hb hk hka hkb HIn HQ
              go_wp2_with fail
              go_ret
              exact ⟨rfl, HGf.out⟩
            · have htk : tkOf es (l.getD k 0) = tk := by
                unfold tkOf
                rw [← HX.out.1, he0]
                simp only [← hh]
              have hb : dbad es.length (tkOf es) l k = if tk = true ∨ 3 ≤ q then 9 else 0 := by
                unfold dbad
                rw [htk, ← HX.out.1, ← HQq.out, if_neg]
                exact fun q => q ⟨hat.2.1, hat.2.2⟩
              by_cases hbad : tk = true ∨ 3 ≤ q
              · rw [if_pos hbad] at hb
                have hk := HCk.out
                rw [dchk_at HL.out.2.1 HL.out.2.2 HX.out.2 HBad.out (by rw [hb]; decide), hb] at hk
                have hka : k1 = 9 := (congrArg Prod.fst hk).symm
                have hkb : k2 = (k : Int) := (congrArg Prod.snd hk).symm
                rw [hka] at c0
                rw [hkb] at c1
                have hbb : tk = true ∨ (tk = false ∧ (3 : Int) ≤ (q : Int)) := by
                  cases tk with
                  | true => exact Or.inl rfl
                  | false => exact Or.inr ⟨rfl, by rcases hbad with h1 | h1; cases h1; omega⟩
                clear hat he0 hh htk hb hk hka hkb hbad HIn HQ
                rcases hbb with rfl | ⟨rfl, h3⟩
                · go_wp2_with fail
                  go_ret
                  exact ⟨rfl, HGf.out⟩
                · go_wp2_with fail
                  go_ret
                  exact ⟨rfl, HGf.out⟩
              · rw [if_neg hbad] at hb
                have htf : tk = false := by cases tk with
                  | true => exact absurd (Or.inl rfl) hbad
                  | false => rfl
                have h3 : ¬ (3 : Int) ≤ (q : Int) := by omega
                have HNb : Hid (dbad es.length (tkOf es) l k = 0) := hb
                have HOw : Hid (wr.ownsRow Z 3 1 (.slice vb2 (k + 1) vd2) (k + 1) (ints (l.reverse.take (k + 1)))) := own_kp HO5.out HQ.out.1
                subst htf
                clear hat he0 hh htk hb hbad HIn HQ c0 c1
                go_wp2_with fail
                refine ⟨⟨k + 1, vb2, vd2, hlt, by first | rfl | (rw [hsm.wrap hlt]; rfl), rfl, HGq.out, HOw.out, fun j hj => ?_⟩, ?_⟩
                · rcases (show j < k ∨ j = k from by omega) with h1 | h1
                  · exact HBad.out j h1
                  · rw [h1]; exact HNb.out
                · first | exact meas_next hlt | (rw [hsm.wrap hlt]; exact meas_next hlt)
          · have hlt2' : (k : Int) < (i : Int) := by omega
            have hk0 : (0 : Int) ≤ (k : Int) := by omega
            have hkn : (k : Int) < (n : Int) := by omega
            obtain ⟨z, hz⟩ : ∃ z, z = l.getD k 0 := ⟨_, rfl⟩
            have E1 : wr.cell? ⟨gl, ol + k, none⟩ = some (.int .i64 z) := by rw [hz]; exact HQ.out.1.cell (HGW.out.1.cell (HG5.out.cell (HCl.out k (by omega)) (by simp)) (by simp)) (by simp)
            have E2 : wr.cell? ⟨gl, ol + i, none⟩ = some (.int .i64 x) := HQ.out.1.cell (HGW.out.1.cell D0.out (by simp)) (by simp)
            have HNx : Hid ((l.take (k + 1)).count x = q + (if z = x then 1 else 0)) := by show _ = _; rw [hz, HQ.out.2]; exact cnt_next x (by have := HL.out.1; omega)
            have hsi : Small i := by unfold Small; have := HL.out; omega
            have hq40 : (q : Int) ≤ 40 := by have h1 := cnt_small (l := l) (k := k) x; have h2 := HL.out.2.2; have h3 := HQ.out.2; omega
            have HWq : Hid (wrap64 ((q : Int) + 1) = ((q + 1 : Nat) : Int)) := by show _ = _; unfold wrap64; omega
            have HGr : Hid (W5.grownBy wr none) := HQ.out.1
            clear hz HQ
            by_cases hd2 : z = x
            · have hdb : (z == x) = true := by simpa using hd2
              have HT : Hid (q + 1 = (l.take (k + 1)).count x) := by show _ = _; rw [HNx.out, if_pos hd2]
              clear hd2 HNx
              go_wp2_with fail
              go_quiet (fail)
              go_wp2_with fail
              go_roundw
              case rel => exact ⟨k + 1, q + 1, hlt2, by first | rfl | (rw [hsi.wrap hlt2]; rfl), by first | rfl | (rw [HWq.out]), grown_trans HGr.out (grown_drewN _ _ _), HT.out⟩
              case measure => first | exact meas_next hlt2 | (rw [hsi.wrap hlt2]; exact meas_next hlt2)
            · have hdb : (z == x) = false := by simpa using hd2
              have HT : Hid (q = (l.take (k + 1)).count x) := by show _ = _; rw [HNx.out, if_neg hd2]; rfl
              clear hd2 HNx
              go_wp2_with fail
              go_quiet (fail)
              go_wp2_with fail
              go_roundw
              case rel => exact ⟨k + 1, q, hlt2, by first | rfl | (rw [hsi.wrap hlt2]; rfl), rfl, grown_trans HGr.out (grown_drewN _ _ _), HT.out⟩
              case measure => first | exact meas_next hlt2 | (rw [hsi.wrap hlt2]; exact meas_next hlt2)
theorem deckRight_any (vc vm : Value) (op : Bool) (cs : List Ent) (ms : List Mk) (a : Option Addr) (n c : Nat) (l : List Int) (w : World) (F : FiA w vc vm cs ms) (O : IntsB w (.slice a n c) l) (LB : LibAt w) : Calls Tryz.prog 6 #[.agg #[vc, vm, .bool op], .slice a n c] w fun e w' => e = .returned (.bool true) ∧ w.grownBy w' none := by
  obtain ⟨ca, ck, rfl, _⟩ := F.c
  obtain ⟨ma, mk, rfl, _⟩ := F.m
  obtain ⟨R, hnc⟩ := intsB_rd O
  by_cases h1 : 80 < cs.length
  · exact dright_big1 ca ma ck mk op cs ms a n c w LB h1
  by_cases h2 : 20 < ms.length
  · exact dright_big2 ca ma ck mk op cs ms a n c w LB h1 h2
  by_cases h3 : 300 < n
  · exact dright_big3 ca ma ck mk op cs ms a n c w LB h1 h2 h3
  exact dright_main ca ma ck mk op cs ms a n c l w F R hnc LB h1 h2 h3
end Go.Proofs.YtbcggjacjfcldaaGreatDoor
