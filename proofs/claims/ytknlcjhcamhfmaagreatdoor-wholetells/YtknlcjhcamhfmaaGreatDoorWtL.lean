/-
  WholeTells, walked.
-/
import Derived.Test.YtknlcjhcamhfmaaGreatDoorRwN
import Derived.Test.YtknlcjhcamhfmaaGreatDoorK1
import Derived.Test.YtknlcjhcamhfmaaGreatDoorApartS
namespace Go.Proofs.YtknlcjhcamhfmaaGreatDoor
open Go.RowKit Go.Maps

set_option maxRecDepth 100000 in
theorem num_look_ok {w : World} {m : Nat} (M : NumAt w m) {k : Nat} (hk : k < 6) : (Instr.lookup 22 (.map (some m)) (.string (sNm k)) true).run Tryz.prog w = .ok (.tuple #[.int .i64 (sNo k), .bool true]) w := by
  obtain ⟨v, ps, hrun, hv⟩ := World.ownsMap.look_ok M keyK Tryz.underlying22 (zero3 w) (plainElem_int Tryz.underlying3 (by rfl)) (key_of k)
  have e : (nD 6).atKey (kS k) (.lit (.int .i64 0)) = .lit (.int .i64 (sNo k)) := by
    rcases (show k = 0 ∨ k = 1 ∨ k = 2 ∨ k = 3 ∨ k = 4 ∨ k = 5 by omega) with rfl | rfl | rfl | rfl | rfl | rfl <;> kernel_rfl
  have e2 : has (nD 6) (kS k) = true := by
    rcases (show k = 0 ∨ k = 1 ∨ k = 2 ∨ k = 3 ∨ k = 4 ∨ k = 5 by omega) with rfl | rfl | rfl | rfl | rfl | rfl <;> kernel_rfl
  obtain ⟨c, rfl, hc, _⟩ := plainElem_int_inv Tryz.underlying3 hv
  have h9 : (nD 6).atKey (kS k) (.lit (.int .i64 0)) = .lit (.int .i64 c) := congrArg Prod.fst hc
  have h8 := e.symm.trans h9
  clear h9 hc e hv
  injection h8 with h8
  injection h8 with _ h8
  rw [hrun, e2, h8]
theorem num_len {w : World} {m : Nat} (M : NumAt w m) (ty : TypeId) : (Builtin.len_ #[22] ty #[.map (some m)]).run Tryz.prog w = .ok (.int .i64 6) w := by
  have h := World.ownsMap.len M Tryz.underlying22 ty
  rw [show size (nD 6) = 6 from by kernel_rfl] at h
  exact h
theorem idx_nm (k : Nat) (hk : k < 6) (w : World) : (Instr.index 40 (.agg #[.string ⟨#[97, 105, 114]⟩, .string ⟨#[101, 97, 114, 116, 104]⟩, .string ⟨#[102, 105, 114, 101]⟩, .string ⟨#[119, 97, 116, 101, 114]⟩, .string ⟨#[118, 111, 105, 100]⟩, .string ⟨#[103, 111, 108, 100]⟩]) (.int .i64 (k : Int))).run Tryz.prog w = .ok (.string (sNm k)) w := by
  rcases (show k = 0 ∨ k = 1 ∨ k = 2 ∨ k = 3 ∨ k = 4 ∨ k = 5 by omega) with rfl | rfl | rfl | rfl | rfl | rfl <;> kernel_rfl
theorem own_lst {w : World} {base : Nat} {v : Value} {ts : List ByteArray} (h : w.ownsRow base 9 1 v ts.length (ts.map Value.string)) (h0 : 0 < ts.length) : ∃ g c, v = .slice (some ⟨g, 0, none⟩) ts.length c ∧ base ≤ g ∧ g < w.heap.size ∧ (∀ (j : Nat) x, ts[j]? = some x → w.cell? ⟨g, j, none⟩ = some (.string x)) ∧ Lst.okS w ⟨some g, ts.length, c⟩ := by
  rcases h.2 with ⟨_, h1⟩ | ⟨g, cap, cur, e, hb, hh, hn, hm, hs, ht⟩
  · omega
  · refine ⟨g, cap, e, hb, block_lt hh, fun j x hx => ?_, Or.inr ⟨g, rfl, hn, hm, cur, hh, by rw [hs, Nat.mul_one]⟩⟩
    have hj := (List.getElem?_eq_some_iff.1 hx).1
    have h9 : (ts.map Value.string)[j]? = some (.string x) := by rw [List.getElem?_map, hx]; rfl
    rw [← ht, List.getElem?_take, if_pos (by omega)] at h9
    rw [block_cell hh]
    simpa using h9
theorem RoomS.keep {w w' : World} {g cap : Nat} (h : RoomS w g cap) (k : w.grownBy w' none) : RoomS w' g cap := by
  obtain ⟨cs, h1, h2⟩ := h
  exact ⟨cs, grown_keep k h1 (by simp), h2⟩
theorem Lst.okS.keep {w w' : World} {x : Lst} (h : Lst.okS w x) (k : w.grownBy w' none) : Lst.okS w' x := by
  rcases h with h | ⟨g, h1, h2, h3, h4⟩
  · exact Or.inl h
  · exact Or.inr ⟨g, h1, h2, h3, h4.keep k⟩
theorem diff_two {a b n m c d : Nat} (h : ¬ a = b) : Diff [⟨some a, n, c⟩, ⟨some b, m, d⟩] := fun i j x y g hi hj hx hy => by
  rcases i with _ | _ | i <;> rcases j with _ | _ | j
  · rfl
  · exfalso
    obtain rfl : (⟨some a, n, c⟩ : Lst) = x := by simpa using hi
    obtain rfl : (⟨some b, m, d⟩ : Lst) = y := by simpa using hj
    exact h ((Option.some.inj hx).trans (Option.some.inj hy).symm)
  · simp at hj
  · exfalso
    obtain rfl : (⟨some b, m, d⟩ : Lst) = x := by simpa using hi
    obtain rfl : (⟨some a, n, c⟩ : Lst) = y := by simpa using hj
    exact h ((Option.some.inj hy).trans (Option.some.inj hx).symm)
  · rfl
  · simp at hj
  · simp at hi
  · simp at hi
  · simp at hi
set_option maxRecDepth 100000 in
set_option maxHeartbeats 16000000 in
theorem tells14 (w : World) (N : NamesAt w) : Calls Tryz.prog 5 #[] w fun e w' => e = .returned (.bool true) ∧ w.grownBy w' none := by
  have HN : Hid (NamesAt w) := N
  have sm6 : Small 6 := by unfold Small; decide
  have sm2 : Small 2 := by unfold Small; decide
  clear N
  go_enter Tryz.func5, Tryz.ntmps5
  go_wp2_with fail
  go_loopw [1] (fun x wr => ∃ n : Nat, n ≤ 2 ∧ x = .int .i64 (n : Int) ∧ w.grownBy wr none) (fun x _ => 2 - (intOf x).toNat)
  case atStart => exact ⟨0, Nat.zero_le _, rfl, grown_refl _ _⟩
  case round =>
    obtain ⟨n, hn, rfl, Gr⟩ := hrel
    obtain ⟨U, hU⟩ : ∃ U, U = wr := ⟨_, rfl⟩
    subst hU
    have HG : Hid (w.grownBy U none) := Gr
    clear Gr
    rcases (show n < 2 ∨ n = 2 from by omega) with h1 | h1
    rotate_left 1
    · have h1' : ¬ (n : Int) < 2 := by omega
      clear h1
      go_wp2_with fail
      refine (lives_any U (HN.out.keep HG.out)).mono ?_
      rintro e U1 ⟨rfl, g1⟩
      have HF : Hid (w.grownBy U1 none) := grown_trans HG.out g1
      clear g1 HG
      go_wp2
      go_ret
      exact ⟨rfl, HF.out⟩
    have h1' : (n : Int) < 2 := by omega
    have hwn : wrap64 ((n : Int) + 1) = (n : Int) + 1 := by unfold wrap64; omega
    go_wp2_with fail
    refine (numbers_any U).mono ?_
    rintro e U1 ⟨m, rfl, M1, lm, g1⟩
    have HM1 : Hid (NumAt U1 m) := M1
    have Hlm : Hid (w.heap.size ≤ m) := Nat.le_trans HG.out.size lm
    have HG1 : Hid (w.grownBy U1 none) := grown_trans HG.out g1
    have hlen := num_len M1
    clear M1 lm g1 HG
    go_wp2_with fail
    clear hlen
    go_loopw [19] (fun x wr => ∃ k : Nat, k ≤ 6 ∧ x = .int .i64 (k : Int) ∧ NumAt wr m ∧ w.grownBy wr none) (fun x _ => 6 - (intOf x).toNat)
    case atStart => exact ⟨0, Nat.zero_le _, rfl, HM1.out, HG1.out⟩
    case round =>
      clear HM1 HG1
      obtain ⟨k, hk, rfl, M, Gr⟩ := hrel
      obtain ⟨U2, hU2⟩ : ∃ U2, U2 = wr := ⟨_, rfl⟩
      subst hU2
      have HM2 : Hid (NumAt U2 m) := M
      have HG2 : Hid (w.grownBy U2 none) := Gr
      clear M Gr
      rcases (show k < 6 ∨ k = 6 from by omega) with h2 | h2
      · have h2' : (k : Int) < 6 := by omega
        have hix := idx_nm k h2
        go_wp2_with fail
        refine (rnumber_any k h2 U2).mono ?_
        rintro e U3 ⟨rfl, g3⟩
        have M3 : NumAt U3 m := World.ownsMap.kept HM2.out g3 (by simp)
        have HM3 : Hid (NumAt U3 m) := M3
        have HG3 : Hid (w.grownBy U3 none) := grown_trans HG2.out g3
        have hlk := num_look_ok M3 h2
        clear M3 g3 HM2 HG2 hix
        go_wp2_with fail
        go_roundw
        case rel => exact ⟨k + 1, h2, by first | rfl | (rw [sm6.wrap h2]; rfl), HM3.out, HG3.out⟩
        case measure => first | exact meas_next h2 | (rw [sm6.wrap h2]; exact meas_next h2)
      have h2' : ¬ (k : Int) < 6 := by omega
      clear h2
      go_wp2_with (first | (at_mapUpdate; refine wpList_mapUpdate_own _ rfl _ _ _ 22 rfl 9 3 keyK Tryz.underlying22 _ m 6 _ rfl HM2.out (by unfold maxLen; decide) _ _ _ rfl rfl (key_of 0) _ [] (plainElem_int Tryz.underlying3 (by rfl)) ?_; intro X1 hown1 hgrow1) | (at_delete; refine wpList_delete_own _ rfl _ _ 22 9 rfl 3 keyK Tryz.underlying22 _ m 7 _ rfl hown1 _ _ rfl (key_of 5) ?_; intro X2 hown2 hturn2) | fail)
      have HGx : Hid (w.grownBy X2 none) := grown_own (grown_own HG2.out hgrow1 (fun x e => by cases e; exact Hlm.out)) hturn2.grown (fun x e => by cases e; exact Hlm.out)
      clear hown1 hown2 hgrow1 hturn2 HM2 HG2
      refine (tokens_any X2 (HN.out.keep HGx.out)).mono ?_
      rintro e X3 ⟨v3, rfl, O3, g3⟩
      obtain ⟨b3, c3, rfl, hl3, hb3, T3, K3⟩ := own_lst (ts := tokens) O3 (by decide)
      have Hb3 : Hid (w.heap.size ≤ b3) := Nat.le_trans HGx.out.size hl3
      clear hl3
      rw [show tokens.length = 6 from rfl] at K3 ⊢
      have HT3 : Hid (∀ (j : Nat) x, tokens[j]? = some x → X3.cell? ⟨b3, j, none⟩ = some (.string x)) := T3
      have HK3 : Hid (Lst.okS X3 ⟨some b3, 6, c3⟩) := K3
      have HG3 : Hid (w.grownBy X3 none) := grown_trans HGx.out g3
      clear O3 g3 T3 K3 HGx
      go_wp2_with fail
      refine (rtokens_any X3).mono ?_
      rintro e X4 ⟨v4, rfl, O4, g4⟩
      obtain ⟨b4, c4, rfl, _, _, T4⟩ := own_texts (ts := tokens) O4 (by decide)
      rw [show tokens.length = 6 from rfl]
      have HG4 : Hid (w.grownBy X4 none) := grown_trans HG3.out g4
      have HK4 : Hid (Lst.okS X4 ⟨some b3, 6, c3⟩) := HK3.out.keep g4
      have hb4 : b3 < X4.heap.size := Nat.lt_of_lt_of_le hb3 g4.size
      have CT := sameTexts_eq b3 b4 c3 c4 tokens X4 (fun j x hx => g4.cell (HT3.out j x hx) (by simp)) T4 (by decide)
      rw [show tokens.length = 6 from rfl] at CT
      clear O4 g4 T4 HT3 HK3 HG3 hb3
      go_wp2_with fail
      refine CT.mono ?_
      rintro e X5 ⟨rfl, g5⟩
      have HG5 : Hid (w.grownBy X5 none) := grown_trans HG4.out g5
      have HK5 : Hid (Lst.okS X5 ⟨some b3, 6, c3⟩) := HK4.out.keep g5
      have hb5 : b3 < X5.heap.size := Nat.lt_of_lt_of_le hb4 g5.size
      clear g5 CT HK4 HG4 hb4
      go_wp2_with fail
      refine (tokens_any X5 (HN.out.keep HG5.out)).mono ?_
      rintro e X6 ⟨v6, rfl, O6, g6⟩
      obtain ⟨b6, c6, rfl, hl6, _, _, K6⟩ := own_lst (ts := tokens) O6 (by decide)
      rw [show tokens.length = 6 from rfl] at K6 ⊢
      have HG6 : Hid (w.grownBy X6 none) := grown_trans HG5.out g6
      have HK6 : Hid (Lst.okS X6 ⟨some b3, 6, c3⟩) := HK5.out.keep g6
      obtain ⟨X7, hX7⟩ : ∃ X7, X7 = X6.alloc (.cells #[.slice (some ⟨b3, 0, none⟩) 6 c3, .slice (some ⟨b6, 0, none⟩) 6 c6] 33) := ⟨_, rfl⟩
      have g7 : X6.grownBy X7 none := by rw [hX7]; exact World.grownBy_alloc _ _ none
      have Z7 : X7.heap[X6.heap.size]? = some (.cells #[.slice (some ⟨b3, 0, none⟩) 6 c3, .slice (some ⟨b6, 0, none⟩) 6 c6] 33 (0, 0)) := by rw [hX7]; exact alloc_at _ _ _
      have CA := apartS_any X6.heap.size 2 [⟨some b3, 6, c3⟩, ⟨some b6, 6, c6⟩] X7 (Nat.zero_lt_succ _) (by simp)
        (fun j x hx => by
          rcases j with _ | _ | j
          · obtain rfl : (⟨some b3, 6, c3⟩ : Lst) = x := by simpa using hx
            exact block_cell Z7 0
          · obtain rfl : (⟨some b6, 6, c6⟩ : Lst) = x := by simpa using hx
            exact block_cell Z7 1
          · simp at hx)
        (fun x hx => by
          simp only [List.mem_cons, List.not_mem_nil, or_false] at hx
          rcases hx with rfl | rfl
          · exact HK6.out.keep g7
          · exact K6.keep g7)
        (diff_two (by omega))
      have HG7 : Hid (w.grownBy X7 none) := grown_trans HG6.out g7
      have HL : Hid (w.heap.size ≤ b3 ∧ w.heap.size ≤ b6) := ⟨Hb3.out, Nat.le_trans HG5.out.size hl6⟩
      have HX7 : Hid (X7 = X6.alloc (.cells #[.slice (some ⟨b3, 0, none⟩) 6 c3, .slice (some ⟨b6, 0, none⟩) 6 c6] 33)) := hX7
      clear O6 g6 K6 HK5 HK6 HG5 HG6 g7 Z7 hl6 hX7 hb5
      go_wp2_with fail
      rw [← HX7.out]
      refine CA.mono ?_
      rintro e X8 ⟨rfl, k8⟩
      have HG8 : Hid (w.grownBy X8 none) := Kpt.new HG7.out k8 (fun x hx => by
        simp only [blocks, List.filterMap_cons, List.filterMap_nil, List.mem_cons, List.not_mem_nil, or_false] at hx
        rcases hx with rfl | rfl
        · exact HL.out.1
        · exact HL.out.2)
      clear k8 CA HG7 HX7
      go_wp2_with fail
      go_roundw
      case rel => exact ⟨n + 1, h1, by first | rfl | (rw [hwn]; rfl), HG8.out⟩
      case measure => first | exact meas_next h1 | (rw [hwn]; exact meas_next h1)
end Go.Proofs.YtknlcjhcamhfmaaGreatDoor
