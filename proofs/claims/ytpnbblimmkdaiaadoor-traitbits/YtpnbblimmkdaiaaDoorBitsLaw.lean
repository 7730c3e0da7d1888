/-
  TraitBits, walked: what is put in is in, what is taken out is out, all else stays; twice is once; the order counts for nothing; the list has just what the set has.
-/
import Derived.Test.YtpnbblimmkdaiaaDoorBits
import Derived.Test.YtpnbblimmkdaiaaDoorKnown
namespace Go.Proofs.YtpnbblimmkdaiaaDoor
open Go.RowKit

theorem cnt_le (s : Int) (n : Nat) : cnt s n ≤ 8 := by
  have := upto_len s (min 8 (n - 1))
  unfold cnt
  omega
theorem own_list {w : World} {base : Nat} {v : Value} {s : Int} (O : Own w base 24 v (u8s (tList s))) : ∃ (n : Nat) (p : Option Addr) (cp : Nat), v = .slice p n cp ∧ n = (tList s).length ∧ ∀ (k : Nat) (t : Int), (tList s)[k]? = some t → k < n ∧ ∃ g, p = some ⟨g, 0, none⟩ ∧ w.cell? ⟨g, k, none⟩ = some (.int .u8 t) := by
  rcases O.at with ⟨rfl, h0⟩ | ⟨g, cap, rfl, _, _, _, hc⟩
  · have e0 : tList s = [] := by simpa [u8s] using h0
    exact ⟨0, none, 0, rfl, by rw [e0]; rfl, fun k t h => by rw [e0] at h; simp at h⟩
  · refine ⟨_, _, cap, rfl, length_u8s _, fun k t h => ⟨by rw [length_u8s]; exact (List.getElem?_eq_some_iff.1 h).1, g, rfl, (hc k (.int .u8 t) (by simp [u8s, h])).1⟩⟩
set_option maxRecDepth 100000 in
set_option maxHeartbeats 8000000 in
theorem bits_any (s x y z : Int) (hs0 : 0 ≤ s) (hs1 : s < 65536) (w : World) (L : LaidAt w) : Calls Tryd.prog 5 #[.int .u16 s, .int .u8 x, .int .u8 y, .int .u8 z] w fun e w' => e = .returned (.bool true) ∧ w.grownBy w' none := by
  obtain ⟨A, hA⟩ : ∃ A, tWith s x = A := ⟨_, rfl⟩
  obtain ⟨B, hB⟩ : ∃ B, tWithout s x = B := ⟨_, rfl⟩
  obtain ⟨Y, hY⟩ : ∃ Y, tWith s y = Y := ⟨_, rfl⟩
  obtain ⟨Z, hZ⟩ : ∃ Z, tWith A y = Z := ⟨_, rfl⟩
  have FA : Hid (tWith s x = A) := hA
  have FB : Hid (tWithout s x = B) := hB
  have FY : Hid (tWith s y = Y) := hY
  have FZ : Hid (tWith A y = Z) := hZ
  have FAx : Hid (tWith A x = A) := by rw [← hA]; exact with_twice s x
  have FBx : Hid (tWithout B x = B) := by rw [← hB]; exact without_twice s x
  have FYx : Hid (tWith Y x = Z) := by rw [← hY, ← hZ, ← hA]; exact with_comm s y x
  have FC : Hid (tCheck A = tCheck s) := by rw [← hA]; exact check_with s x
  rcases eight_or x with h8 | h8
  · by_cases hz : z = x
    · have hz2 := hz.symm
      subst hz2
      clear hz
      have hx1 : 1 ≤ x := by unfold Eight at h8; omega
      have hx8 : x ≤ 8 := by unfold Eight at h8; omega
      have F1 : Hid (tHas A x = true) := by rw [← hA]; exact has_with h8
      have F2 : Hid (tHas B x = false) := by rw [← hB]; exact has_without s x
      clear h8
      clear hA hB hY hZ
      go_enter Tryd.func5, Tryd.ntmps5
      go_wp2_with fail
      refine (awake_any _ L).mono ?_
      rintro e w1 ⟨rfl, G1⟩
      clear L
      go_wp2_with fail
      refine (with_any _ _ _).mono ?_
      rintro e w2 ⟨rfl, rfl⟩
      rw [FA.out]
      go_wp2_with fail
      refine (without_any _ _ _).mono ?_
      rintro e w2 ⟨rfl, rfl⟩
      rw [FB.out]
      go_wp2_with fail
      refine (has_any _ _ _).mono ?_
      rintro e w2 ⟨rfl, rfl⟩
      rw [F1.out]
      go_wp2_with fail
      refine (has_any _ _ _).mono ?_
      rintro e w2 ⟨rfl, rfl⟩
      rw [F2.out]
      go_wp2_with fail
      refine (with_any _ _ _).mono ?_
      rintro e w2 ⟨rfl, rfl⟩
      rw [FAx.out]
      go_wp2_with fail
      refine (without_any _ _ _).mono ?_
      rintro e w2 ⟨rfl, rfl⟩
      rw [FBx.out]
      go_wp2_with fail
      refine (with_any _ _ _).mono ?_
      rintro e w2 ⟨rfl, rfl⟩
      rw [FZ.out]
      go_wp2_with fail
      refine (with_any _ _ _).mono ?_
      rintro e w2 ⟨rfl, rfl⟩
      rw [FY.out]
      go_wp2_with fail
      refine (with_any _ _ _).mono ?_
      rintro e w2 ⟨rfl, rfl⟩
      rw [FYx.out]
      go_wp2_with fail
      refine (check_any _ _).mono ?_
      rintro e w2 ⟨rfl, rfl⟩
      rw [FC.out]
      go_wp2_with fail
      refine (check_any _ _).mono ?_
      rintro e w2 ⟨rfl, rfl⟩
      obtain ⟨ck, hck⟩ : ∃ ck, tCheck s = ck := ⟨_, rfl⟩
      rw [hck]
      clear hck FA FB FY FZ FAx FBx FYx FC
      go_wp2_with fail
      refine (list_any _ _).mono ?_
      rintro e w3 ⟨v, rfl, O, g3⟩
      have G3 := grown_trans G1 g3
      clear g3 G1
      obtain ⟨n, p, cp, rfl, hn, hcell⟩ := own_list O
      have HC : Hid (∀ (k : Nat) (t : Int), (tList s)[k]? = some t → k < n ∧ ∃ g, p = some ⟨g, 0, none⟩ ∧ w3.cell? ⟨g, k, none⟩ = some (.int .u8 t)) := hcell
      have HN : Hid (n = (tList s).length) := hn
      clear hn hcell O
      go_wp2_with fail
      go_loopw [18, 19] (fun m k wr => ∃ (j c : Nat), j ≤ 20 ∧ k = .int .u8 j ∧ m = .int .i64 c ∧ c = cnt s j ∧ w3.grownBy wr none)
        (fun _ k _ => 20 - (intOf k).toNat)
      case atStart => exact ⟨0, 0, by omega, rfl, rfl, rfl, grown_refl _ _⟩
      case round =>
        obtain ⟨j, c, hj, rfl, rfl, hc, G⟩ := hrel
        have FJ : Hid (c = cnt s j) := hc
        clear hc
        rcases (show j = 20 ∨ j < 20 from by omega) with rfl | hlt
        · have hcn : c = n := by rw [FJ.out, HN.out, cnt_end]
          subst hcn
          go_wp2
          go_ret
          exact ⟨rfl, grown_trans G3 G⟩
        · have hlt' : (j : Int) < 20 := by omega
          have hw : IntKind.u8.wrap ((j : Int) + 1) = (j : Int) + 1 := by rw [IntKind.wrap_u8]; omega
          go_wp2_with fail
          refine (has_any _ _ _).mono ?_
          rintro e w4 ⟨rfl, rfl⟩
          cases hh : tHas s (j : Int) with
          | false =>
            have FK : Hid (c = cnt s (j + 1)) := by rw [cnt_no hh]; exact FJ.out
            go_wp2_with fail
            go_roundw
            case rel => exact ⟨j + 1, c, by omega, by go_num, rfl, FK.out, G⟩
            case measure => simp [intOf]; omega
          | true =>
            have hy := cnt_yes hh
            rw [← FJ.out] at hy
            have FK : Hid (c + 1 = cnt s (j + 1)) := hy.1.symm
            obtain ⟨hcn, g, rfl, hg⟩ := HC.out c _ hy.2
            have hcg : w4.cell? ⟨g, c, none⟩ = some (.int .u8 (j : Int)) := G.cell hg (by simp)
            have hcn' : (c : Int) < (n : Int) := by omega
            have hcn2 : ¬ (n : Int) ≤ (c : Int) := by omega
            have hc0 : (0 : Int) ≤ (c : Int) := by omega
            have hw2 : wrap64 ((c : Int) + 1) = (c : Int) + 1 := by
              have := cnt_le s (j + 1)
              rw [← FK.out] at this
              unfold wrap64; omega
            clear hy hg
            go_wp2_with fail
            go_roundw
            case rel => exact ⟨j + 1, c + 1, by omega, by go_num, by go_num, FK.out, G⟩
            case measure => simp [intOf]; omega
    · have hx1 : 1 ≤ x := by unfold Eight at h8; omega
      have hx8 : x ≤ 8 := by unfold Eight at h8; omega
      have F1 : Hid (tHas A x = true) := by rw [← hA]; exact has_with h8
      have F2 : Hid (tHas B x = false) := by rw [← hB]; exact has_without s x
      clear h8
      have F3 : Hid (tHas A z = tHas s z) := by rw [← hA]; exact has_with_other hz
      have F4 : Hid (tHas B z = tHas s z) := by rw [← hB]; exact has_without_other hz
      clear hA hB hY hZ
      go_enter Tryd.func5, Tryd.ntmps5
      go_wp2_with fail
      refine (awake_any _ L).mono ?_
      rintro e w1 ⟨rfl, G1⟩
      clear L
      go_wp2_with fail
      refine (with_any _ _ _).mono ?_
      rintro e w2 ⟨rfl, rfl⟩
      rw [FA.out]
      go_wp2_with fail
      refine (without_any _ _ _).mono ?_
      rintro e w2 ⟨rfl, rfl⟩
      rw [FB.out]
      go_wp2_with fail
      refine (has_any _ _ _).mono ?_
      rintro e w2 ⟨rfl, rfl⟩
      rw [F1.out]
      go_wp2_with fail
      refine (has_any _ _ _).mono ?_
      rintro e w2 ⟨rfl, rfl⟩
      rw [F2.out]
      go_wp2_with fail
      refine (has_any _ _ _).mono ?_
      rintro e w2 ⟨rfl, rfl⟩
      rw [F3.out]
      go_wp2_with fail
      refine (has_any _ _ _).mono ?_
      rintro e w2 ⟨rfl, rfl⟩
      obtain ⟨bz, hbz⟩ : ∃ bz, tHas s z = bz := ⟨_, rfl⟩
      rw [hbz]
      go_wp2_with fail
      refine (has_any _ _ _).mono ?_
      rintro e w2 ⟨rfl, rfl⟩
      rw [F4.out, hbz]
      go_wp2_with fail
      refine (has_any _ _ _).mono ?_
      rintro e w2 ⟨rfl, rfl⟩
      rw [hbz]
      clear hbz F3 F4
      go_wp2_with fail
      refine (with_any _ _ _).mono ?_
      rintro e w2 ⟨rfl, rfl⟩
      rw [FAx.out]
      go_wp2_with fail
      refine (without_any _ _ _).mono ?_
      rintro e w2 ⟨rfl, rfl⟩
      rw [FBx.out]
      go_wp2_with fail
      refine (with_any _ _ _).mono ?_
      rintro e w2 ⟨rfl, rfl⟩
      rw [FZ.out]
      go_wp2_with fail
      refine (with_any _ _ _).mono ?_
      rintro e w2 ⟨rfl, rfl⟩
      rw [FY.out]
      go_wp2_with fail
      refine (with_any _ _ _).mono ?_
      rintro e w2 ⟨rfl, rfl⟩
      rw [FYx.out]
      go_wp2_with fail
      refine (check_any _ _).mono ?_
      rintro e w2 ⟨rfl, rfl⟩
      rw [FC.out]
      go_wp2_with fail
      refine (check_any _ _).mono ?_
      rintro e w2 ⟨rfl, rfl⟩
      obtain ⟨ck, hck⟩ : ∃ ck, tCheck s = ck := ⟨_, rfl⟩
      rw [hck]
      clear hck FA FB FY FZ FAx FBx FYx FC
      go_wp2_with fail
      refine (list_any _ _).mono ?_
      rintro e w3 ⟨v, rfl, O, g3⟩
      have G3 := grown_trans G1 g3
      clear g3 G1
      obtain ⟨n, p, cp, rfl, hn, hcell⟩ := own_list O
      have HC : Hid (∀ (k : Nat) (t : Int), (tList s)[k]? = some t → k < n ∧ ∃ g, p = some ⟨g, 0, none⟩ ∧ w3.cell? ⟨g, k, none⟩ = some (.int .u8 t)) := hcell
      have HN : Hid (n = (tList s).length) := hn
      clear hn hcell O
      go_wp2_with fail
      go_loopw [18, 19] (fun m k wr => ∃ (j c : Nat), j ≤ 20 ∧ k = .int .u8 j ∧ m = .int .i64 c ∧ c = cnt s j ∧ w3.grownBy wr none)
        (fun _ k _ => 20 - (intOf k).toNat)
      case atStart => exact ⟨0, 0, by omega, rfl, rfl, rfl, grown_refl _ _⟩
      case round =>
        obtain ⟨j, c, hj, rfl, rfl, hc, G⟩ := hrel
        have FJ : Hid (c = cnt s j) := hc
        clear hc
        rcases (show j = 20 ∨ j < 20 from by omega) with rfl | hlt
        · have hcn : c = n := by rw [FJ.out, HN.out, cnt_end]
          subst hcn
          go_wp2
          go_ret
          exact ⟨rfl, grown_trans G3 G⟩
        · have hlt' : (j : Int) < 20 := by omega
          have hw : IntKind.u8.wrap ((j : Int) + 1) = (j : Int) + 1 := by rw [IntKind.wrap_u8]; omega
          go_wp2_with fail
          refine (has_any _ _ _).mono ?_
          rintro e w4 ⟨rfl, rfl⟩
          cases hh : tHas s (j : Int) with
          | false =>
            have FK : Hid (c = cnt s (j + 1)) := by rw [cnt_no hh]; exact FJ.out
            go_wp2_with fail
            go_roundw
            case rel => exact ⟨j + 1, c, by omega, by go_num, rfl, FK.out, G⟩
            case measure => simp [intOf]; omega
          | true =>
            have hy := cnt_yes hh
            rw [← FJ.out] at hy
            have FK : Hid (c + 1 = cnt s (j + 1)) := hy.1.symm
            obtain ⟨hcn, g, rfl, hg⟩ := HC.out c _ hy.2
            have hcg : w4.cell? ⟨g, c, none⟩ = some (.int .u8 (j : Int)) := G.cell hg (by simp)
            have hcn' : (c : Int) < (n : Int) := by omega
            have hcn2 : ¬ (n : Int) ≤ (c : Int) := by omega
            have hc0 : (0 : Int) ≤ (c : Int) := by omega
            have hw2 : wrap64 ((c : Int) + 1) = (c : Int) + 1 := by
              have := cnt_le s (j + 1)
              rw [← FK.out] at this
              unfold wrap64; omega
            clear hy hg
            go_wp2_with fail
            go_roundw
            case rel => exact ⟨j + 1, c + 1, by omega, by go_num, by go_num, FK.out, G⟩
            case measure => simp [intOf]; omega
  · by_cases hz : z = x
    · have hz2 := hz.symm
      subst hz2
      clear hz
      have GA : Hid (tWith s x = s) := with_no h8 hs0 hs1
      have GB : Hid (tWithout s x = s) := without_no h8 hs0 hs1
      have GY : Hid (tWith Y x = Y) := by rw [← hY]; exact with_no h8 (with_range _ _).1 (with_range _ _).2
      clear FA FB FZ FAx FBx FYx FC hA hB hY hZ
      rcases h8 with h8 | h8
      · have hx1 : ¬ 1 ≤ x := by omega
        go_enter Tryd.func5, Tryd.ntmps5
        go_wp2_with fail
        refine (awake_any _ L).mono ?_
        rintro e w1 ⟨rfl, G1⟩
        clear L
        go_wp2_with fail
        refine (with_any _ _ _).mono ?_
        rintro e w2 ⟨rfl, rfl⟩
        rw [GA.out]
        go_wp2_with fail
        refine (without_any _ _ _).mono ?_
        rintro e w2 ⟨rfl, rfl⟩
        rw [GB.out]
        go_wp2_with fail
        refine (with_any _ _ _).mono ?_
        rintro e w2 ⟨rfl, rfl⟩
        rw [GA.out]
        go_wp2_with fail
        refine (without_any _ _ _).mono ?_
        rintro e w2 ⟨rfl, rfl⟩
        rw [GB.out]
        go_wp2_with fail
        refine (with_any _ _ _).mono ?_
        rintro e w2 ⟨rfl, rfl⟩
        rw [FY.out]
        go_wp2_with fail
        refine (with_any _ _ _).mono ?_
        rintro e w2 ⟨rfl, rfl⟩
        rw [FY.out]
        go_wp2_with fail
        refine (with_any _ _ _).mono ?_
        rintro e w2 ⟨rfl, rfl⟩
        rw [GY.out]
        go_wp2_with fail
        refine (check_any _ _).mono ?_
        rintro e w2 ⟨rfl, rfl⟩
        obtain ⟨ck, hck⟩ : ∃ ck, tCheck s = ck := ⟨_, rfl⟩
        rw [hck]
        go_wp2_with fail
        refine (check_any _ _).mono ?_
        rintro e w2 ⟨rfl, rfl⟩
        rw [hck]
        clear hck GA GB FY GY
        go_wp2_with fail
        refine (list_any _ _).mono ?_
        rintro e w3 ⟨v, rfl, O, g3⟩
        have G3 := grown_trans G1 g3
        clear g3 G1
        obtain ⟨n, p, cp, rfl, hn, hcell⟩ := own_list O
        have HC : Hid (∀ (k : Nat) (t : Int), (tList s)[k]? = some t → k < n ∧ ∃ g, p = some ⟨g, 0, none⟩ ∧ w3.cell? ⟨g, k, none⟩ = some (.int .u8 t)) := hcell
        have HN : Hid (n = (tList s).length) := hn
        clear hn hcell O
        go_wp2_with fail
        go_loopw [18, 19] (fun m k wr => ∃ (j c : Nat), j ≤ 20 ∧ k = .int .u8 j ∧ m = .int .i64 c ∧ c = cnt s j ∧ w3.grownBy wr none)
          (fun _ k _ => 20 - (intOf k).toNat)
        case atStart => exact ⟨0, 0, by omega, rfl, rfl, rfl, grown_refl _ _⟩
        case round =>
          obtain ⟨j, c, hj, rfl, rfl, hc, G⟩ := hrel
          have FJ : Hid (c = cnt s j) := hc
          clear hc
          rcases (show j = 20 ∨ j < 20 from by omega) with rfl | hlt
          · have hcn : c = n := by rw [FJ.out, HN.out, cnt_end]
            subst hcn
            go_wp2
            go_ret
            exact ⟨rfl, grown_trans G3 G⟩
          · have hlt' : (j : Int) < 20 := by omega
            have hw : IntKind.u8.wrap ((j : Int) + 1) = (j : Int) + 1 := by rw [IntKind.wrap_u8]; omega
            go_wp2_with fail
            refine (has_any _ _ _).mono ?_
            rintro e w4 ⟨rfl, rfl⟩
            cases hh : tHas s (j : Int) with
            | false =>
              have FK : Hid (c = cnt s (j + 1)) := by rw [cnt_no hh]; exact FJ.out
              go_wp2_with fail
              go_roundw
              case rel => exact ⟨j + 1, c, by omega, by go_num, rfl, FK.out, G⟩
              case measure => simp [intOf]; omega
            | true =>
              have hy := cnt_yes hh
              rw [← FJ.out] at hy
              have FK : Hid (c + 1 = cnt s (j + 1)) := hy.1.symm
              obtain ⟨hcn, g, rfl, hg⟩ := HC.out c _ hy.2
              have hcg : w4.cell? ⟨g, c, none⟩ = some (.int .u8 (j : Int)) := G.cell hg (by simp)
              have hcn' : (c : Int) < (n : Int) := by omega
              have hcn2 : ¬ (n : Int) ≤ (c : Int) := by omega
              have hc0 : (0 : Int) ≤ (c : Int) := by omega
              have hw2 : wrap64 ((c : Int) + 1) = (c : Int) + 1 := by
                have := cnt_le s (j + 1)
                rw [← FK.out] at this
                unfold wrap64; omega
              clear hy hg
              go_wp2_with fail
              go_roundw
              case rel => exact ⟨j + 1, c + 1, by omega, by go_num, by go_num, FK.out, G⟩
              case measure => simp [intOf]; omega
      · have hx1 : 1 ≤ x := by omega
        have hx8 : ¬ x ≤ 8 := by omega
        go_enter Tryd.func5, Tryd.ntmps5
        go_wp2_with fail
        refine (awake_any _ L).mono ?_
        rintro e w1 ⟨rfl, G1⟩
        clear L
        go_wp2_with fail
        refine (with_any _ _ _).mono ?_
        rintro e w2 ⟨rfl, rfl⟩
        rw [GA.out]
        go_wp2_with fail
        refine (without_any _ _ _).mono ?_
        rintro e w2 ⟨rfl, rfl⟩
        rw [GB.out]
        go_wp2_with fail
        refine (with_any _ _ _).mono ?_
        rintro e w2 ⟨rfl, rfl⟩
        rw [GA.out]
        go_wp2_with fail
        refine (without_any _ _ _).mono ?_
        rintro e w2 ⟨rfl, rfl⟩
        rw [GB.out]
        go_wp2_with fail
        refine (with_any _ _ _).mono ?_
        rintro e w2 ⟨rfl, rfl⟩
        rw [FY.out]
        go_wp2_with fail
        refine (with_any _ _ _).mono ?_
        rintro e w2 ⟨rfl, rfl⟩
        rw [FY.out]
        go_wp2_with fail
        refine (with_any _ _ _).mono ?_
        rintro e w2 ⟨rfl, rfl⟩
        rw [GY.out]
        go_wp2_with fail
        refine (check_any _ _).mono ?_
        rintro e w2 ⟨rfl, rfl⟩
        obtain ⟨ck, hck⟩ : ∃ ck, tCheck s = ck := ⟨_, rfl⟩
        rw [hck]
        go_wp2_with fail
        refine (check_any _ _).mono ?_
        rintro e w2 ⟨rfl, rfl⟩
        rw [hck]
        clear hck GA GB FY GY
        go_wp2_with fail
        refine (list_any _ _).mono ?_
        rintro e w3 ⟨v, rfl, O, g3⟩
        have G3 := grown_trans G1 g3
        clear g3 G1
        obtain ⟨n, p, cp, rfl, hn, hcell⟩ := own_list O
        have HC : Hid (∀ (k : Nat) (t : Int), (tList s)[k]? = some t → k < n ∧ ∃ g, p = some ⟨g, 0, none⟩ ∧ w3.cell? ⟨g, k, none⟩ = some (.int .u8 t)) := hcell
        have HN : Hid (n = (tList s).length) := hn
        clear hn hcell O
        go_wp2_with fail
        go_loopw [18, 19] (fun m k wr => ∃ (j c : Nat), j ≤ 20 ∧ k = .int .u8 j ∧ m = .int .i64 c ∧ c = cnt s j ∧ w3.grownBy wr none)
          (fun _ k _ => 20 - (intOf k).toNat)
        case atStart => exact ⟨0, 0, by omega, rfl, rfl, rfl, grown_refl _ _⟩
        case round =>
          obtain ⟨j, c, hj, rfl, rfl, hc, G⟩ := hrel
          have FJ : Hid (c = cnt s j) := hc
          clear hc
          rcases (show j = 20 ∨ j < 20 from by omega) with rfl | hlt
          · have hcn : c = n := by rw [FJ.out, HN.out, cnt_end]
            subst hcn
            go_wp2
            go_ret
            exact ⟨rfl, grown_trans G3 G⟩
          · have hlt' : (j : Int) < 20 := by omega
            have hw : IntKind.u8.wrap ((j : Int) + 1) = (j : Int) + 1 := by rw [IntKind.wrap_u8]; omega
            go_wp2_with fail
            refine (has_any _ _ _).mono ?_
            rintro e w4 ⟨rfl, rfl⟩
            cases hh : tHas s (j : Int) with
            | false =>
              have FK : Hid (c = cnt s (j + 1)) := by rw [cnt_no hh]; exact FJ.out
              go_wp2_with fail
              go_roundw
              case rel => exact ⟨j + 1, c, by omega, by go_num, rfl, FK.out, G⟩
              case measure => simp [intOf]; omega
            | true =>
              have hy := cnt_yes hh
              rw [← FJ.out] at hy
              have FK : Hid (c + 1 = cnt s (j + 1)) := hy.1.symm
              obtain ⟨hcn, g, rfl, hg⟩ := HC.out c _ hy.2
              have hcg : w4.cell? ⟨g, c, none⟩ = some (.int .u8 (j : Int)) := G.cell hg (by simp)
              have hcn' : (c : Int) < (n : Int) := by omega
              have hcn2 : ¬ (n : Int) ≤ (c : Int) := by omega
              have hc0 : (0 : Int) ≤ (c : Int) := by omega
              have hw2 : wrap64 ((c : Int) + 1) = (c : Int) + 1 := by
                have := cnt_le s (j + 1)
                rw [← FK.out] at this
                unfold wrap64; omega
              clear hy hg
              go_wp2_with fail
              go_roundw
              case rel => exact ⟨j + 1, c + 1, by omega, by go_num, by go_num, FK.out, G⟩
              case measure => simp [intOf]; omega
    · have GA : Hid (tWith s x = s) := with_no h8 hs0 hs1
      have GB : Hid (tWithout s x = s) := without_no h8 hs0 hs1
      have GY : Hid (tWith Y x = Y) := by rw [← hY]; exact with_no h8 (with_range _ _).1 (with_range _ _).2
      clear FA FB FZ FAx FBx FYx FC hA hB hY hZ
      rcases h8 with h8 | h8
      · have hx1 : ¬ 1 ≤ x := by omega
        go_enter Tryd.func5, Tryd.ntmps5
        go_wp2_with fail
        refine (awake_any _ L).mono ?_
        rintro e w1 ⟨rfl, G1⟩
        clear L
        go_wp2_with fail
        refine (with_any _ _ _).mono ?_
        rintro e w2 ⟨rfl, rfl⟩
        rw [GA.out]
        go_wp2_with fail
        refine (without_any _ _ _).mono ?_
        rintro e w2 ⟨rfl, rfl⟩
        rw [GB.out]
        obtain ⟨bz, hbz⟩ : ∃ bz, tHas s z = bz := ⟨_, rfl⟩
        go_wp2_with fail
        refine (has_any _ _ _).mono ?_
        rintro e w2 ⟨rfl, rfl⟩
        rw [hbz]
        go_wp2_with fail
        refine (has_any _ _ _).mono ?_
        rintro e w2 ⟨rfl, rfl⟩
        rw [hbz]
        go_wp2_with fail
        refine (has_any _ _ _).mono ?_
        rintro e w2 ⟨rfl, rfl⟩
        rw [hbz]
        go_wp2_with fail
        refine (has_any _ _ _).mono ?_
        rintro e w2 ⟨rfl, rfl⟩
        rw [hbz]
        clear hbz
        go_wp2_with fail
        refine (with_any _ _ _).mono ?_
        rintro e w2 ⟨rfl, rfl⟩
        rw [GA.out]
        go_wp2_with fail
        refine (without_any _ _ _).mono ?_
        rintro e w2 ⟨rfl, rfl⟩
        rw [GB.out]
        go_wp2_with fail
        refine (with_any _ _ _).mono ?_
        rintro e w2 ⟨rfl, rfl⟩
        rw [FY.out]
        go_wp2_with fail
        refine (with_any _ _ _).mono ?_
        rintro e w2 ⟨rfl, rfl⟩
        rw [FY.out]
        go_wp2_with fail
        refine (with_any _ _ _).mono ?_
        rintro e w2 ⟨rfl, rfl⟩
        rw [GY.out]
        go_wp2_with fail
        refine (check_any _ _).mono ?_
        rintro e w2 ⟨rfl, rfl⟩
        obtain ⟨ck, hck⟩ : ∃ ck, tCheck s = ck := ⟨_, rfl⟩
        rw [hck]
        go_wp2_with fail
        refine (check_any _ _).mono ?_
        rintro e w2 ⟨rfl, rfl⟩
        rw [hck]
        clear hck GA GB FY GY
        go_wp2_with fail
        refine (list_any _ _).mono ?_
        rintro e w3 ⟨v, rfl, O, g3⟩
        have G3 := grown_trans G1 g3
        clear g3 G1
        obtain ⟨n, p, cp, rfl, hn, hcell⟩ := own_list O
        have HC : Hid (∀ (k : Nat) (t : Int), (tList s)[k]? = some t → k < n ∧ ∃ g, p = some ⟨g, 0, none⟩ ∧ w3.cell? ⟨g, k, none⟩ = some (.int .u8 t)) := hcell
        have HN : Hid (n = (tList s).length) := hn
        clear hn hcell O
        go_wp2_with fail
        go_loopw [18, 19] (fun m k wr => ∃ (j c : Nat), j ≤ 20 ∧ k = .int .u8 j ∧ m = .int .i64 c ∧ c = cnt s j ∧ w3.grownBy wr none)
          (fun _ k _ => 20 - (intOf k).toNat)
        case atStart => exact ⟨0, 0, by omega, rfl, rfl, rfl, grown_refl _ _⟩
        case round =>
          obtain ⟨j, c, hj, rfl, rfl, hc, G⟩ := hrel
          have FJ : Hid (c = cnt s j) := hc
          clear hc
          rcases (show j = 20 ∨ j < 20 from by omega) with rfl | hlt
          · have hcn : c = n := by rw [FJ.out, HN.out, cnt_end]
            subst hcn
            go_wp2
            go_ret
            exact ⟨rfl, grown_trans G3 G⟩
          · have hlt' : (j : Int) < 20 := by omega
            have hw : IntKind.u8.wrap ((j : Int) + 1) = (j : Int) + 1 := by rw [IntKind.wrap_u8]; omega
            go_wp2_with fail
            refine (has_any _ _ _).mono ?_
            rintro e w4 ⟨rfl, rfl⟩
            cases hh : tHas s (j : Int) with
            | false =>
              have FK : Hid (c = cnt s (j + 1)) := by rw [cnt_no hh]; exact FJ.out
              go_wp2_with fail
              go_roundw
              case rel => exact ⟨j + 1, c, by omega, by go_num, rfl, FK.out, G⟩
              case measure => simp [intOf]; omega
            | true =>
              have hy := cnt_yes hh
              rw [← FJ.out] at hy
              have FK : Hid (c + 1 = cnt s (j + 1)) := hy.1.symm
              obtain ⟨hcn, g, rfl, hg⟩ := HC.out c _ hy.2
              have hcg : w4.cell? ⟨g, c, none⟩ = some (.int .u8 (j : Int)) := G.cell hg (by simp)
              have hcn' : (c : Int) < (n : Int) := by omega
              have hcn2 : ¬ (n : Int) ≤ (c : Int) := by omega
              have hc0 : (0 : Int) ≤ (c : Int) := by omega
              have hw2 : wrap64 ((c : Int) + 1) = (c : Int) + 1 := by
                have := cnt_le s (j + 1)
                rw [← FK.out] at this
                unfold wrap64; omega
              clear hy hg
              go_wp2_with fail
              go_roundw
              case rel => exact ⟨j + 1, c + 1, by omega, by go_num, by go_num, FK.out, G⟩
              case measure => simp [intOf]; omega
      · have hx1 : 1 ≤ x := by omega
        have hx8 : ¬ x ≤ 8 := by omega
        go_enter Tryd.func5, Tryd.ntmps5
        go_wp2_with fail
        refine (awake_any _ L).mono ?_
        rintro e w1 ⟨rfl, G1⟩
        clear L
        go_wp2_with fail
        refine (with_any _ _ _).mono ?_
        rintro e w2 ⟨rfl, rfl⟩
        rw [GA.out]
        go_wp2_with fail
        refine (without_any _ _ _).mono ?_
        rintro e w2 ⟨rfl, rfl⟩
        rw [GB.out]
        obtain ⟨bz, hbz⟩ : ∃ bz, tHas s z = bz := ⟨_, rfl⟩
        go_wp2_with fail
        refine (has_any _ _ _).mono ?_
        rintro e w2 ⟨rfl, rfl⟩
        rw [hbz]
        go_wp2_with fail
        refine (has_any _ _ _).mono ?_
        rintro e w2 ⟨rfl, rfl⟩
        rw [hbz]
        go_wp2_with fail
        refine (has_any _ _ _).mono ?_
        rintro e w2 ⟨rfl, rfl⟩
        rw [hbz]
        go_wp2_with fail
        refine (has_any _ _ _).mono ?_
        rintro e w2 ⟨rfl, rfl⟩
        rw [hbz]
        clear hbz
        go_wp2_with fail
        refine (with_any _ _ _).mono ?_
        rintro e w2 ⟨rfl, rfl⟩
        rw [GA.out]
        go_wp2_with fail
        refine (without_any _ _ _).mono ?_
        rintro e w2 ⟨rfl, rfl⟩
        rw [GB.out]
        go_wp2_with fail
        refine (with_any _ _ _).mono ?_
        rintro e w2 ⟨rfl, rfl⟩
        rw [FY.out]
        go_wp2_with fail
        refine (with_any _ _ _).mono ?_
        rintro e w2 ⟨rfl, rfl⟩
        rw [FY.out]
        go_wp2_with fail
        refine (with_any _ _ _).mono ?_
        rintro e w2 ⟨rfl, rfl⟩
        rw [GY.out]
        go_wp2_with fail
        refine (check_any _ _).mono ?_
        rintro e w2 ⟨rfl, rfl⟩
        obtain ⟨ck, hck⟩ : ∃ ck, tCheck s = ck := ⟨_, rfl⟩
        rw [hck]
        go_wp2_with fail
        refine (check_any _ _).mono ?_
        rintro e w2 ⟨rfl, rfl⟩
        rw [hck]
        clear hck GA GB FY GY
        go_wp2_with fail
        refine (list_any _ _).mono ?_
        rintro e w3 ⟨v, rfl, O, g3⟩
        have G3 := grown_trans G1 g3
        clear g3 G1
        obtain ⟨n, p, cp, rfl, hn, hcell⟩ := own_list O
        have HC : Hid (∀ (k : Nat) (t : Int), (tList s)[k]? = some t → k < n ∧ ∃ g, p = some ⟨g, 0, none⟩ ∧ w3.cell? ⟨g, k, none⟩ = some (.int .u8 t)) := hcell
        have HN : Hid (n = (tList s).length) := hn
        clear hn hcell O
        go_wp2_with fail
        go_loopw [18, 19] (fun m k wr => ∃ (j c : Nat), j ≤ 20 ∧ k = .int .u8 j ∧ m = .int .i64 c ∧ c = cnt s j ∧ w3.grownBy wr none)
          (fun _ k _ => 20 - (intOf k).toNat)
        case atStart => exact ⟨0, 0, by omega, rfl, rfl, rfl, grown_refl _ _⟩
        case round =>
          obtain ⟨j, c, hj, rfl, rfl, hc, G⟩ := hrel
          have FJ : Hid (c = cnt s j) := hc
          clear hc
          rcases (show j = 20 ∨ j < 20 from by omega) with rfl | hlt
          · have hcn : c = n := by rw [FJ.out, HN.out, cnt_end]
            subst hcn
            go_wp2
            go_ret
            exact ⟨rfl, grown_trans G3 G⟩
          · have hlt' : (j : Int) < 20 := by omega
            have hw : IntKind.u8.wrap ((j : Int) + 1) = (j : Int) + 1 := by rw [IntKind.wrap_u8]; omega
            go_wp2_with fail
            refine (has_any _ _ _).mono ?_
            rintro e w4 ⟨rfl, rfl⟩
            cases hh : tHas s (j : Int) with
            | false =>
              have FK : Hid (c = cnt s (j + 1)) := by rw [cnt_no hh]; exact FJ.out
              go_wp2_with fail
              go_roundw
              case rel => exact ⟨j + 1, c, by omega, by go_num, rfl, FK.out, G⟩
              case measure => simp [intOf]; omega
            | true =>
              have hy := cnt_yes hh
              rw [← FJ.out] at hy
              have FK : Hid (c + 1 = cnt s (j + 1)) := hy.1.symm
              obtain ⟨hcn, g, rfl, hg⟩ := HC.out c _ hy.2
              have hcg : w4.cell? ⟨g, c, none⟩ = some (.int .u8 (j : Int)) := G.cell hg (by simp)
              have hcn' : (c : Int) < (n : Int) := by omega
              have hcn2 : ¬ (n : Int) ≤ (c : Int) := by omega
              have hc0 : (0 : Int) ≤ (c : Int) := by omega
              have hw2 : wrap64 ((c : Int) + 1) = (c : Int) + 1 := by
                have := cnt_le s (j + 1)
                rw [← FK.out] at this
                unfold wrap64; omega
              clear hy hg
              go_wp2_with fail
              go_roundw
              case rel => exact ⟨j + 1, c + 1, by omega, by go_num, by go_num, FK.out, G⟩
              case measure => simp [intOf]; omega
end Go.Proofs.YtpnbblimmkdaiaaDoor
