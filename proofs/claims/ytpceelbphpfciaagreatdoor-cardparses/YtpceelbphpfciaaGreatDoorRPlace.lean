/-
  What the document's own place and number tell: a word's number in a table, and a text's number.
-/
import Derived.Test.YtpceelbphpfciaaGreatDoorRPrt
namespace Go.Proofs.YtpceelbphpfciaaGreatDoor
open Go.RowKit

theorem idxOf_at : ∀ {ws : List (List UInt8)} {l : List UInt8} {i : Nat}, ws[i]? = some l → (∀ j, j < i → ¬ ws[j]? = some l) → ws.idxOf l = i
  | [], _, _, h, _ => by simp at h
  | x :: r, l, 0, h, _ => by
    simp at h
    subst h
    exact List.idxOf_cons_self
  | x :: r, l, i + 1, h, hn => by
    have hx : ¬ x = l := fun e => hn 0 (by omega) (by simp [e])
    have ih := idxOf_at (ws := r) (l := l) (i := i) (by simpa using h) (fun j hj => by simpa using hn (j + 1) (by omega))
    have hb : (x == l) = false := by simpa using hx
    rw [List.idxOf_cons, hb, ih]
    rfl
theorem idx_hit {ws : List (List UInt8)} {l : List UInt8} {i : Nat} (h : ws[i]? = some l) (hn : ∀ j, j < i → ¬ ws[j]? = some l) : idx ws l = i + 1 := by
  have hi := (List.getElem?_eq_some_iff.1 h).1
  unfold idx
  rw [idxOf_at h hn, if_pos hi]
theorem idx_miss {ws : List (List UInt8)} {l : List UInt8} (hn : ∀ j, j < ws.length → ¬ ws[j]? = some l) : idx ws l = 0 := by
  unfold idx
  rw [if_neg]
  intro h
  exact hn _ h (by rw [List.getElem?_eq_getElem h, List.getElem_idxOf h])
theorem RTab.raw {w : World} {b : Nat} {ws : List (List UInt8)} (h : RTab w b ws) {j : Nat} (hj : j < ws.length) : w.cell? ⟨b, j, none⟩ = some (.string ⟨ws[j].toArray⟩) := by
  rw [block_cell h]
  simp [rtabC, hj]
set_option maxHeartbeats 2000000 in
theorem place_any (ws : List (List UInt8)) (n b : Nat) (hn : n = ws.length) (h100 : n ≤ 100) (s : ByteArray) (w : World) (T : RTab w b ws) : Calls Tryz.prog 69 #[.slice (some ⟨b, 0, none⟩) n n, .string s] w fun e w' => e = .returned (.int .i64 (idx ws s.toList)) ∧ w' = w := by
  have HT : Hid (RTab w b ws) := T
  have HN : Hid (n = ws.length) := hn
  clear T hn
  go_enter Tryz.func69, Tryz.ntmps69
  go_wp2_with fail
  go_loopw [5] (fun t wr => wr = w ∧ ∃ i : Nat, i ≤ n ∧ t = .int .i64 i ∧ ∀ j, j < i → ¬ ws[j]? = some s.toList) (fun t _ => n - (intOf t).toNat)
  case atStart => exact ⟨rfl, 0, Nat.zero_le _, rfl, fun j hj => absurd hj (by omega)⟩
  case round =>
    obtain ⟨rfl, i, hi, rfl, ha⟩ := hrel
    have HA : Hid (∀ j, j < i → ¬ ws[j]? = some s.toList) := ha
    clear ha
    by_cases hl : i < n
    · have hl' : (i : Int) < (n : Int) := by omega
      have hj : i < ws.length := by rw [← HN.out]; exact hl
      have c0 := HT.out.raw hj
      have HG : Hid (ws[i]? = some ws[i]) := List.getElem?_eq_getElem hj
      obtain ⟨x, hx⟩ : ∃ x, x = ws[i] := ⟨_, rfl⟩
      rw [← hx] at c0
      have HX : Hid (ws[i]? = some x) := by rw [hx]; exact HG.out
      clear hx HG hj
      by_cases he : x = s.toList
      · have hd : (x == s.toList) = true := by simpa using he
        have HE : Hid (x = s.toList) := he
        clear he
        go_wp2
        go_ret
        exact ⟨ret_i64 (by
          have h1 : ws[i]? = some s.toList := by rw [HX.out, HE.out]
          rw [idx_hit h1 HA.out]
          go_num), rfl⟩
      · have hd : (x == s.toList) = false := by simpa using he
        have HE : Hid (¬ x = s.toList) := he
        clear he
        go_wp2
        go_roundw
        case rel => exact ⟨trivial, i + 1, by omega, by go_num, fun j hj => by
          rcases (show j < i ∨ j = i from by omega) with h' | rfl
          · exact HA.out j h'
          · rw [HX.out]
            exact fun e => HE.out (Option.some.inj e)⟩
        case measure => simp [intOf]; omega
    · have hl' : ¬ (i : Int) < (n : Int) := by omega
      have HM : Hid (idx ws s.toList = 0) := idx_miss (fun j hj => HA.out j (by have := HN.out; omega))
      go_wp2
      go_ret
      exact ⟨ret_i64 (by rw [HM.out]; rfl), rfl⟩
theorem drop_byte (s : ByteArray) (i : Nat) (h : i < s.size) : s.data.toList.drop i = s[i] :: s.data.toList.drop (i + 1) := by
  have hl : i < s.data.toList.length := by rw [← Lib.size_eq]; exact h
  rw [List.drop_eq_getElem_cons hl]
  rfl
/-- The most that so many signs tell. -/
def most : Nat → Int
  | 0 => 0
  | 1 => 9
  | 2 => 99
  | _ => 999
set_option maxHeartbeats 4000000 in
theorem number_neg (s : ByteArray) (hp : 0 < s.size) (hc : s[0] = 45) (w : World) : Calls Tryz.prog 74 #[.string s] w fun e w' => e = .returned (.int .i64 (numb s.data.toList)) ∧ w' = w := by
  have hq : ((s[0].toNat : Int) == 45) = true := by simp [hc]
  have hb : (0 : Int) < (s.size : Int) := by omega
  have HV : Hid (numb s.data.toList = -(digs 3 0 s.data.toList)) := by
    show numb _ = _
    unfold numb
    rw [if_pos (by rw [List.head?_eq_getElem?, byte_at s 0 hp, hc])]
  clear hc
  go_enter Tryz.func74, Tryz.ntmps74
  go_wp2_with fail
  go_loopw [3, 5] (fun n t wr => wr = w ∧ ∃ (i : Nat) (k : Int), i ≤ 3 ∧ i ≤ s.size ∧ t = .int .i64 i ∧ n = .int .i64 k ∧ (0 ≤ k ∧ k ≤ most i) ∧ digs 3 0 s.data.toList = digs (3 - i) k (s.data.toList.drop i)) (fun _ t _ => 3 - (intOf t).toNat)
  case atStart => exact ⟨rfl, 0, 0, by omega, by omega, rfl, rfl, ⟨by omega, by decide⟩, rfl⟩
  case round =>
    obtain ⟨rfl, i, k, hi3, his, rfl, rfl, ⟨hk0, hk1⟩, hI⟩ := hrel
    have HI : Hid (digs 3 0 s.data.toList = digs (3 - i) k (s.data.toList.drop i)) := hI
    clear hI
    rcases (show i = 0 ∨ i = 1 ∨ i = 2 ∨ i = 3 from by omega) with rfl | rfl | rfl | rfl
    all_goals simp only [most] at hk1
    · by_cases hl : 0 < s.size
      · have hl' : (0 : Int) < (s.size : Int) := by omega
        have HB : Hid (s.data.toList.drop 0 = s[0] :: s.data.toList.drop 1) := drop_byte s 0 hl
        by_cases a : 48 ≤ (s[0].toNat : Int)
        · by_cases b : (s[0].toNat : Int) ≤ 57
          · have HS : Hid (digs 3 0 s.data.toList = digs 2 (10 * k + (s[0].toNat - 48 : Nat)) (s.data.toList.drop 1)) := by
              have h := HI.out
              rw [HB.out] at h
              have e : (48 ≤ s[0].toNat ∧ s[0].toNat ≤ 57) := by omega
              rw [Hid, h]
              simp only [digs, e, and_self, if_true]
              rfl
            have hk : 0 ≤ 10 * k + ((s[0].toNat - 48 : Nat) : Int) ∧ 10 * k + ((s[0].toNat - 48 : Nat) : Int) ≤ 9 := by omega
            go_wp2
            go_roundw
            case rel => exact ⟨trivial, 1, 10 * k + (s[0].toNat - 48 : Nat), by omega, by omega, by go_num, by go_num, ⟨by omega, hk.2⟩, HS.out⟩
            case measure => simp [intOf]
          · have HS : Hid (digs 3 0 s.data.toList = digs 2 k (s.data.toList.drop 1)) := by
              have h := HI.out
              rw [HB.out] at h
              have e : ¬ (48 ≤ s[0].toNat ∧ s[0].toNat ≤ 57) := by omega
              rw [Hid, h]
              simp only [digs, e, if_false]
            go_wp2
            go_roundw
            case rel => exact ⟨trivial, 1, k, by omega, by omega, by go_num, by go_num, ⟨by omega, by show k ≤ 9; omega⟩, HS.out⟩
            case measure => simp [intOf]
        · have HS : Hid (digs 3 0 s.data.toList = digs 2 k (s.data.toList.drop 1)) := by
            have h := HI.out
            rw [HB.out] at h
            have e : ¬ (48 ≤ s[0].toNat ∧ s[0].toNat ≤ 57) := by omega
            rw [Hid, h]
            simp only [digs, e, if_false]
          go_wp2
          go_roundw
          case rel => exact ⟨trivial, 1, k, by omega, by omega, by go_num, by go_num, ⟨by omega, by show k ≤ 9; omega⟩, HS.out⟩
          case measure => simp [intOf]
      · have hl' : ¬ (0 : Int) < (s.size : Int) := by omega
        have HD : Hid (digs 3 0 s.data.toList = k) := by
          rw [Hid, HI.out, List.drop_eq_nil_of_le (by have := Lib.size_eq s; omega)]
          rfl
        go_wp2
        all_goals
          go_ret
          exact ⟨ret_i64 (by first | (rw [HV.out, HD.out]; done) | (rw [HV.out, HD.out]; rfl) | (rw [HV.out, HD.out]; go_num)), rfl⟩
    · by_cases hl : 1 < s.size
      · have hl' : (1 : Int) < (s.size : Int) := by omega
        have HB : Hid (s.data.toList.drop 1 = s[1] :: s.data.toList.drop 2) := drop_byte s 1 hl
        by_cases a : 48 ≤ (s[1].toNat : Int)
        · by_cases b : (s[1].toNat : Int) ≤ 57
          · have HS : Hid (digs 3 0 s.data.toList = digs 1 (10 * k + (s[1].toNat - 48 : Nat)) (s.data.toList.drop 2)) := by
              have h := HI.out
              rw [HB.out] at h
              have e : (48 ≤ s[1].toNat ∧ s[1].toNat ≤ 57) := by omega
              rw [Hid, h]
              simp only [digs, e, and_self, if_true]
              rfl
            have hk : 0 ≤ 10 * k + ((s[1].toNat - 48 : Nat) : Int) ∧ 10 * k + ((s[1].toNat - 48 : Nat) : Int) ≤ 99 := by omega
            go_wp2
            go_roundw
            case rel => exact ⟨trivial, 2, 10 * k + (s[1].toNat - 48 : Nat), by omega, by omega, by go_num, by go_num, ⟨by omega, hk.2⟩, HS.out⟩
            case measure => simp [intOf]
          · have HS : Hid (digs 3 0 s.data.toList = digs 1 k (s.data.toList.drop 2)) := by
              have h := HI.out
              rw [HB.out] at h
              have e : ¬ (48 ≤ s[1].toNat ∧ s[1].toNat ≤ 57) := by omega
              rw [Hid, h]
              simp only [digs, e, if_false]
            go_wp2
            go_roundw
            case rel => exact ⟨trivial, 2, k, by omega, by omega, by go_num, by go_num, ⟨by omega, by show k ≤ 99; omega⟩, HS.out⟩
            case measure => simp [intOf]
        · have HS : Hid (digs 3 0 s.data.toList = digs 1 k (s.data.toList.drop 2)) := by
            have h := HI.out
            rw [HB.out] at h
            have e : ¬ (48 ≤ s[1].toNat ∧ s[1].toNat ≤ 57) := by omega
            rw [Hid, h]
            simp only [digs, e, if_false]
          go_wp2
          go_roundw
          case rel => exact ⟨trivial, 2, k, by omega, by omega, by go_num, by go_num, ⟨by omega, by show k ≤ 99; omega⟩, HS.out⟩
          case measure => simp [intOf]
      · have hl' : ¬ (1 : Int) < (s.size : Int) := by omega
        have HD : Hid (digs 3 0 s.data.toList = k) := by
          rw [Hid, HI.out, List.drop_eq_nil_of_le (by have := Lib.size_eq s; omega)]
          rfl
        go_wp2
        all_goals
          go_ret
          exact ⟨ret_i64 (by first | (rw [HV.out, HD.out]; done) | (rw [HV.out, HD.out]; rfl) | (rw [HV.out, HD.out]; go_num)), rfl⟩
    · by_cases hl : 2 < s.size
      · have hl' : (2 : Int) < (s.size : Int) := by omega
        have HB : Hid (s.data.toList.drop 2 = s[2] :: s.data.toList.drop 3) := drop_byte s 2 hl
        by_cases a : 48 ≤ (s[2].toNat : Int)
        · by_cases b : (s[2].toNat : Int) ≤ 57
          · have HS : Hid (digs 3 0 s.data.toList = digs 0 (10 * k + (s[2].toNat - 48 : Nat)) (s.data.toList.drop 3)) := by
              have h := HI.out
              rw [HB.out] at h
              have e : (48 ≤ s[2].toNat ∧ s[2].toNat ≤ 57) := by omega
              rw [Hid, h]
              simp only [digs, e, and_self, if_true]
              rfl
            have hk : 0 ≤ 10 * k + ((s[2].toNat - 48 : Nat) : Int) ∧ 10 * k + ((s[2].toNat - 48 : Nat) : Int) ≤ 999 := by omega
            go_wp2
            go_roundw
            case rel => exact ⟨trivial, 3, 10 * k + (s[2].toNat - 48 : Nat), by omega, by omega, by go_num, by go_num, ⟨by omega, hk.2⟩, HS.out⟩
            case measure => simp [intOf]
          · have HS : Hid (digs 3 0 s.data.toList = digs 0 k (s.data.toList.drop 3)) := by
              have h := HI.out
              rw [HB.out] at h
              have e : ¬ (48 ≤ s[2].toNat ∧ s[2].toNat ≤ 57) := by omega
              rw [Hid, h]
              simp only [digs, e, if_false]
            go_wp2
            go_roundw
            case rel => exact ⟨trivial, 3, k, by omega, by omega, by go_num, by go_num, ⟨by omega, by show k ≤ 999; omega⟩, HS.out⟩
            case measure => simp [intOf]
        · have HS : Hid (digs 3 0 s.data.toList = digs 0 k (s.data.toList.drop 3)) := by
            have h := HI.out
            rw [HB.out] at h
            have e : ¬ (48 ≤ s[2].toNat ∧ s[2].toNat ≤ 57) := by omega
            rw [Hid, h]
            simp only [digs, e, if_false]
          go_wp2
          go_roundw
          case rel => exact ⟨trivial, 3, k, by omega, by omega, by go_num, by go_num, ⟨by omega, by show k ≤ 999; omega⟩, HS.out⟩
          case measure => simp [intOf]
      · have hl' : ¬ (2 : Int) < (s.size : Int) := by omega
        have HD : Hid (digs 3 0 s.data.toList = k) := by
          rw [Hid, HI.out, List.drop_eq_nil_of_le (by have := Lib.size_eq s; omega)]
          rfl
        go_wp2
        all_goals
          go_ret
          exact ⟨ret_i64 (by first | (rw [HV.out, HD.out]; done) | (rw [HV.out, HD.out]; rfl) | (rw [HV.out, HD.out]; go_num)), rfl⟩
    · have HD : Hid (digs 3 0 s.data.toList = k) := HI.out
      go_wp2
      all_goals
        go_ret
        exact ⟨ret_i64 (by first | (rw [HV.out, HD.out]; done) | (rw [HV.out, HD.out]; rfl) | (rw [HV.out, HD.out]; go_num)), rfl⟩
set_option maxHeartbeats 4000000 in
theorem number_pos (s : ByteArray) (hp : 0 < s.size) (hc : ¬ s[0] = 45) (w : World) : Calls Tryz.prog 74 #[.string s] w fun e w' => e = .returned (.int .i64 (numb s.data.toList)) ∧ w' = w := by
  have hq : ((s[0].toNat : Int) == 45) = false := by
    have : ¬ (s[0].toNat : Int) = 45 := fun e => hc (UInt8.toNat_inj.1 (by simpa using (by omega : s[0].toNat = 45)))
    simpa using this
  have hb : (0 : Int) < (s.size : Int) := by omega
  have HV : Hid (numb s.data.toList = digs 3 0 s.data.toList) := by
    show numb _ = _
    unfold numb
    rw [if_neg (by rw [List.head?_eq_getElem?, byte_at s 0 hp]; exact fun e => hc (Option.some.inj e))]
  clear hc
  go_enter Tryz.func74, Tryz.ntmps74
  go_wp2_with fail
  go_loopw [3, 5] (fun n t wr => wr = w ∧ ∃ (i : Nat) (k : Int), i ≤ 3 ∧ i ≤ s.size ∧ t = .int .i64 i ∧ n = .int .i64 k ∧ (0 ≤ k ∧ k ≤ most i) ∧ digs 3 0 s.data.toList = digs (3 - i) k (s.data.toList.drop i)) (fun _ t _ => 3 - (intOf t).toNat)
  case atStart => exact ⟨rfl, 0, 0, by omega, by omega, rfl, rfl, ⟨by omega, by decide⟩, rfl⟩
  case round =>
    obtain ⟨rfl, i, k, hi3, his, rfl, rfl, ⟨hk0, hk1⟩, hI⟩ := hrel
    have HI : Hid (digs 3 0 s.data.toList = digs (3 - i) k (s.data.toList.drop i)) := hI
    clear hI
    rcases (show i = 0 ∨ i = 1 ∨ i = 2 ∨ i = 3 from by omega) with rfl | rfl | rfl | rfl
    all_goals simp only [most] at hk1
    · by_cases hl : 0 < s.size
      · have hl' : (0 : Int) < (s.size : Int) := by omega
        have HB : Hid (s.data.toList.drop 0 = s[0] :: s.data.toList.drop 1) := drop_byte s 0 hl
        by_cases a : 48 ≤ (s[0].toNat : Int)
        · by_cases b : (s[0].toNat : Int) ≤ 57
          · have HS : Hid (digs 3 0 s.data.toList = digs 2 (10 * k + (s[0].toNat - 48 : Nat)) (s.data.toList.drop 1)) := by
              have h := HI.out
              rw [HB.out] at h
              have e : (48 ≤ s[0].toNat ∧ s[0].toNat ≤ 57) := by omega
              rw [Hid, h]
              simp only [digs, e, and_self, if_true]
              rfl
            have hk : 0 ≤ 10 * k + ((s[0].toNat - 48 : Nat) : Int) ∧ 10 * k + ((s[0].toNat - 48 : Nat) : Int) ≤ 9 := by omega
            go_wp2
            go_roundw
            case rel => exact ⟨trivial, 1, 10 * k + (s[0].toNat - 48 : Nat), by omega, by omega, by go_num, by go_num, ⟨by omega, hk.2⟩, HS.out⟩
            case measure => simp [intOf]
          · have HS : Hid (digs 3 0 s.data.toList = digs 2 k (s.data.toList.drop 1)) := by
              have h := HI.out
              rw [HB.out] at h
              have e : ¬ (48 ≤ s[0].toNat ∧ s[0].toNat ≤ 57) := by omega
              rw [Hid, h]
              simp only [digs, e, if_false]
            go_wp2
            go_roundw
            case rel => exact ⟨trivial, 1, k, by omega, by omega, by go_num, by go_num, ⟨by omega, by show k ≤ 9; omega⟩, HS.out⟩
            case measure => simp [intOf]
        · have HS : Hid (digs 3 0 s.data.toList = digs 2 k (s.data.toList.drop 1)) := by
            have h := HI.out
            rw [HB.out] at h
            have e : ¬ (48 ≤ s[0].toNat ∧ s[0].toNat ≤ 57) := by omega
            rw [Hid, h]
            simp only [digs, e, if_false]
          go_wp2
          go_roundw
          case rel => exact ⟨trivial, 1, k, by omega, by omega, by go_num, by go_num, ⟨by omega, by show k ≤ 9; omega⟩, HS.out⟩
          case measure => simp [intOf]
      · have hl' : ¬ (0 : Int) < (s.size : Int) := by omega
        have HD : Hid (digs 3 0 s.data.toList = k) := by
          rw [Hid, HI.out, List.drop_eq_nil_of_le (by have := Lib.size_eq s; omega)]
          rfl
        go_wp2
        all_goals
          go_ret
          exact ⟨ret_i64 (by first | (rw [HV.out, HD.out]; done) | (rw [HV.out, HD.out]; rfl) | (rw [HV.out, HD.out]; go_num)), rfl⟩
    · by_cases hl : 1 < s.size
      · have hl' : (1 : Int) < (s.size : Int) := by omega
        have HB : Hid (s.data.toList.drop 1 = s[1] :: s.data.toList.drop 2) := drop_byte s 1 hl
        by_cases a : 48 ≤ (s[1].toNat : Int)
        · by_cases b : (s[1].toNat : Int) ≤ 57
          · have HS : Hid (digs 3 0 s.data.toList = digs 1 (10 * k + (s[1].toNat - 48 : Nat)) (s.data.toList.drop 2)) := by
              have h := HI.out
              rw [HB.out] at h
              have e : (48 ≤ s[1].toNat ∧ s[1].toNat ≤ 57) := by omega
              rw [Hid, h]
              simp only [digs, e, and_self, if_true]
              rfl
            have hk : 0 ≤ 10 * k + ((s[1].toNat - 48 : Nat) : Int) ∧ 10 * k + ((s[1].toNat - 48 : Nat) : Int) ≤ 99 := by omega
            go_wp2
            go_roundw
            case rel => exact ⟨trivial, 2, 10 * k + (s[1].toNat - 48 : Nat), by omega, by omega, by go_num, by go_num, ⟨by omega, hk.2⟩, HS.out⟩
            case measure => simp [intOf]
          · have HS : Hid (digs 3 0 s.data.toList = digs 1 k (s.data.toList.drop 2)) := by
              have h := HI.out
              rw [HB.out] at h
              have e : ¬ (48 ≤ s[1].toNat ∧ s[1].toNat ≤ 57) := by omega
              rw [Hid, h]
              simp only [digs, e, if_false]
            go_wp2
            go_roundw
            case rel => exact ⟨trivial, 2, k, by omega, by omega, by go_num, by go_num, ⟨by omega, by show k ≤ 99; omega⟩, HS.out⟩
            case measure => simp [intOf]
        · have HS : Hid (digs 3 0 s.data.toList = digs 1 k (s.data.toList.drop 2)) := by
            have h := HI.out
            rw [HB.out] at h
            have e : ¬ (48 ≤ s[1].toNat ∧ s[1].toNat ≤ 57) := by omega
            rw [Hid, h]
            simp only [digs, e, if_false]
          go_wp2
          go_roundw
          case rel => exact ⟨trivial, 2, k, by omega, by omega, by go_num, by go_num, ⟨by omega, by show k ≤ 99; omega⟩, HS.out⟩
          case measure => simp [intOf]
      · have hl' : ¬ (1 : Int) < (s.size : Int) := by omega
        have HD : Hid (digs 3 0 s.data.toList = k) := by
          rw [Hid, HI.out, List.drop_eq_nil_of_le (by have := Lib.size_eq s; omega)]
          rfl
        go_wp2
        all_goals
          go_ret
          exact ⟨ret_i64 (by first | (rw [HV.out, HD.out]; done) | (rw [HV.out, HD.out]; rfl) | (rw [HV.out, HD.out]; go_num)), rfl⟩
    · by_cases hl : 2 < s.size
      · have hl' : (2 : Int) < (s.size : Int) := by omega
        have HB : Hid (s.data.toList.drop 2 = s[2] :: s.data.toList.drop 3) := drop_byte s 2 hl
        by_cases a : 48 ≤ (s[2].toNat : Int)
        · by_cases b : (s[2].toNat : Int) ≤ 57
          · have HS : Hid (digs 3 0 s.data.toList = digs 0 (10 * k + (s[2].toNat - 48 : Nat)) (s.data.toList.drop 3)) := by
              have h := HI.out
              rw [HB.out] at h
              have e : (48 ≤ s[2].toNat ∧ s[2].toNat ≤ 57) := by omega
              rw [Hid, h]
              simp only [digs, e, and_self, if_true]
              rfl
            have hk : 0 ≤ 10 * k + ((s[2].toNat - 48 : Nat) : Int) ∧ 10 * k + ((s[2].toNat - 48 : Nat) : Int) ≤ 999 := by omega
            go_wp2
            go_roundw
            case rel => exact ⟨trivial, 3, 10 * k + (s[2].toNat - 48 : Nat), by omega, by omega, by go_num, by go_num, ⟨by omega, hk.2⟩, HS.out⟩
            case measure => simp [intOf]
          · have HS : Hid (digs 3 0 s.data.toList = digs 0 k (s.data.toList.drop 3)) := by
              have h := HI.out
              rw [HB.out] at h
              have e : ¬ (48 ≤ s[2].toNat ∧ s[2].toNat ≤ 57) := by omega
              rw [Hid, h]
              simp only [digs, e, if_false]
            go_wp2
            go_roundw
            case rel => exact ⟨trivial, 3, k, by omega, by omega, by go_num, by go_num, ⟨by omega, by show k ≤ 999; omega⟩, HS.out⟩
            case measure => simp [intOf]
        · have HS : Hid (digs 3 0 s.data.toList = digs 0 k (s.data.toList.drop 3)) := by
            have h := HI.out
            rw [HB.out] at h
            have e : ¬ (48 ≤ s[2].toNat ∧ s[2].toNat ≤ 57) := by omega
            rw [Hid, h]
            simp only [digs, e, if_false]
          go_wp2
          go_roundw
          case rel => exact ⟨trivial, 3, k, by omega, by omega, by go_num, by go_num, ⟨by omega, by show k ≤ 999; omega⟩, HS.out⟩
          case measure => simp [intOf]
      · have hl' : ¬ (2 : Int) < (s.size : Int) := by omega
        have HD : Hid (digs 3 0 s.data.toList = k) := by
          rw [Hid, HI.out, List.drop_eq_nil_of_le (by have := Lib.size_eq s; omega)]
          rfl
        go_wp2
        all_goals
          go_ret
          exact ⟨ret_i64 (by first | (rw [HV.out, HD.out]; done) | (rw [HV.out, HD.out]; rfl) | (rw [HV.out, HD.out]; go_num)), rfl⟩
    · have HD : Hid (digs 3 0 s.data.toList = k) := HI.out
      go_wp2
      all_goals
        go_ret
        exact ⟨ret_i64 (by first | (rw [HV.out, HD.out]; done) | (rw [HV.out, HD.out]; rfl) | (rw [HV.out, HD.out]; go_num)), rfl⟩
set_option maxHeartbeats 2000000 in
theorem number_any (s : ByteArray) (w : World) : Calls Tryz.prog 74 #[.string s] w fun e w' => e = .returned (.int .i64 (numb s.data.toList)) ∧ w' = w := by
  by_cases h0 : s.size = 0
  · have hb : ¬ (0 : Int) < (s.size : Int) := by omega
    rw [show s.data.toList = [] from List.eq_nil_of_length_eq_zero (by rw [← Lib.size_eq]; exact h0)]
    rw [show numb [] = 0 from rfl]
    go_enter Tryz.func74, Tryz.ntmps74
    go_wp2_with fail
    go_loopw [3, 5] (fun n t wr => wr = w ∧ t = .int .i64 0 ∧ n = .int .i64 0) (fun _ _ _ => 0)
    case atStart => exact ⟨rfl, rfl, rfl⟩
    case round =>
      obtain ⟨rfl, rfl, rfl⟩ := hrel
      go_wp2
      go_ret
      exact ⟨rfl, rfl⟩
  · by_cases hc : s[0]'(by omega) = 45
    · exact number_neg s (by omega) hc w
    · exact number_pos s (by omega) hc w
end Go.Proofs.YtpceelbphpfciaaGreatDoor
