/-
  The document's own test of a card's name, its bounds, its numbers.
-/
import Derived.Test.YtiikbhejnblhlaaGreatRChk2
import Derived.Test.YtiikbhejnblhlaaGreatMC
namespace Go.Proofs.YtiikbhejnblhlaaGreat
open Go.RowKit

set_option maxHeartbeats 2000000 in
theorem m_rname_any (s : ByteArray) (w : World) : Calls Tryz.prog 83 #[.string s] w fun e w' => e = .returned (.bool (nameOk s.data.toList)) ∧ w' = w := by
  have HL : Hid (s.data.toList.length = s.size) := (Lib.size_eq s).symm
  by_cases h0 : s.size = 0
  · have hb : (s.size : Int) < 1 := by omega
    rw [show s.data.toList = [] from List.eq_nil_of_length_eq_zero (by rw [HL.out]; exact h0)]
    clear h0
    go_enter Tryz.func83, Tryz.ntmps83
    go_wp2
    go_ret
    exact ⟨rfl, rfl⟩
  · have hb : ¬ (s.size : Int) < 1 := by omega
    by_cases h1 : 20 < s.size
    · have hb1 : (20 : Int) < (s.size : Int) := by omega
      rw [name_no_len (by rw [HL.out]; exact h1)]
      clear h0 h1
      go_enter Tryz.func83, Tryz.ntmps83
      go_wp2
      go_ret
      exact ⟨rfl, rfl⟩
    · have hb1 : ¬ (20 : Int) < (s.size : Int) := by omega
      have hp : 0 < s.size := by omega
      have B0 : Hid (s.data.toList[0]? = some s[0]) := byte_at s 0 hp
      have H1 : Hid (s.data.toList.length ≤ 20) := by rw [Hid, HL.out]; omega
      clear h0 h1
      by_cases hc : s[0] = 45
      · have hq : ((s[0].toNat : Int) == 45) = true := by simp [hc]
        rw [name_no_first B0.out (by rw [hc]; rfl)]
        clear hc
        go_enter Tryz.func83, Tryz.ntmps83
        go_wp2
        go_ret
        exact ⟨rfl, rfl⟩
      · have hq : ((s[0].toNat : Int) == 45) = false := by
          have : ¬ (s[0].toNat : Int) = 45 := fun e => hc (UInt8.toNat_inj.1 (by simpa using (by omega : s[0].toNat = 45)))
          simpa using this
        have HC : Hid (¬ s[0] = 45) := hc
        clear hc
        go_enter Tryz.func83, Tryz.ntmps83
        go_wp2
        go_loopw [3] (fun t wr => wr = w ∧ ∃ i : Nat, i ≤ s.size ∧ t = .int .i64 i ∧ ∀ j x, j < i → s.data.toList[j]? = some x → okb x = true) (fun t _ => s.size - (intOf t).toNat)
        case atStart => exact ⟨rfl, 0, Nat.zero_le _, rfl, fun j x hj => absurd hj (by omega)⟩
        case round =>
          obtain ⟨rfl, i, hi, rfl, ha⟩ := hrel
          have HA : Hid (∀ j x, j < i → s.data.toList[j]? = some x → okb x = true) := ha
          clear ha
          by_cases hl : i < s.size
          · have hl' : (i : Int) < (s.size : Int) := by omega
            have BI : Hid (s.data.toList[i]? = some s[i]) := byte_at s i hl
            by_cases a : (s[i].toNat : Int) < 97
            · by_cases hd : s[i] = 45
              · have hq : ((s[i].toNat : Int) != 45) = false := by simp [hd]
                have HN : Hid (okb s[i] = true) := by simp [Hid, okb, hd]
                clear hd
                go_wp2
                go_roundw
                case rel => exact ⟨trivial, i + 1, by omega, by go_num, fun j x hj hx => by
                  rcases (show j < i ∨ j = i from by omega) with h' | rfl
                  · exact HA.out j x h' hx
                  · rw [BI.out] at hx; cases hx; exact HN.out⟩
                case measure => simp [intOf]; omega
              · have hq : ((s[i].toNat : Int) != 45) = true := by
                  have : ¬ (s[i].toNat : Int) = 45 := fun e => hd (UInt8.toNat_inj.1 (by simpa using (by omega : s[i].toNat = 45)))
                  exact bne_no this
                have HN : Hid (okb s[i] = false) := by
                  have : ¬ 97 ≤ s[i].toNat := by omega
                  simp [Hid, okb, letter, this, hd]
                clear hd
                go_wp2
                go_ret
                exact ⟨ret_bool (name_no_at BI.out HN.out).symm, rfl⟩
            · by_cases a' : (122 : Int) < (s[i].toNat : Int)
              · have hd : ¬ s[i] = 45 := by
                  intro h
                  rw [h] at a'
                  exact absurd a' (by decide)
                have hq : ((s[i].toNat : Int) != 45) = true := bne_no (by omega)
                have HN : Hid (okb s[i] = false) := by
                  have : ¬ s[i].toNat ≤ 122 := by omega
                  simp [Hid, okb, letter, this, hd]
                clear hd
                go_wp2
                go_ret
                exact ⟨ret_bool (name_no_at BI.out HN.out).symm, rfl⟩
              · have HN : Hid (okb s[i] = true) := by
                  have h1 : 97 ≤ s[i].toNat := by omega
                  have h2 : s[i].toNat ≤ 122 := by omega
                  simp [Hid, okb, letter, h1, h2]
                go_wp2
                go_roundw
                case rel => exact ⟨trivial, i + 1, by omega, by go_num, fun j x hj hx => by
                  rcases (show j < i ∨ j = i from by omega) with h' | rfl
                  · exact HA.out j x h' hx
                  · rw [BI.out] at hx; cases hx; exact HN.out⟩
                case measure => simp [intOf]; omega
          · have hl' : ¬ (i : Int) < (s.size : Int) := by omega
            have HY : Hid (nameOk s.data.toList = true) := by
              have ALL : ∀ (j : Nat) x, s.data.toList[j]? = some x → okb x = true := fun j x hx => HA.out j x (by
                have := (List.getElem?_eq_some_iff.1 hx).1
                rw [HL.out] at this
                omega) hx
              have L0 : letter s[0] = true := by
                have := ALL 0 _ B0.out
                simpa [okb, HC.out] using this
              exact name_yes B0.out L0 H1.out ALL
            go_wp2
            go_ret
            exact ⟨ret_bool HY.out.symm, rfl⟩

def wB (n a b : Int) : Bool := decide (a ≤ n) && decide (n ≤ b)
theorem r6within_any (n a b : Int) (w : World) : Calls Tryz.prog 84 #[.int .i64 n, .int .i64 a, .int .i64 b] w fun e w' => e = .returned (.bool (wB n a b)) ∧ w' = w := by
  by_cases h : a ≤ n
  · have e : wB n a b = decide (n ≤ b) := by simp [wB, h]
    rw [e]
    clear e
    go_enter Tryz.func84, Tryz.ntmps84
    go_wp2
    go_ret
    exact ⟨rfl, rfl⟩
  · have e : wB n a b = false := by simp [wB, h]
    rw [e]
    clear e
    go_enter Tryz.func84, Tryz.ntmps84
    go_wp2
    go_ret
    exact ⟨rfl, rfl⟩
theorem r4check_any (s : Int) (w : World) : Calls Tryz.prog 85 #[.int .u16 s] w fun e w' => e = .returned (.bool (decide (s < 256))) ∧ w' = w := by
  go_enter Tryz.func85, Tryz.ntmps85
  go_wp2
  go_ret
  exact ⟨rfl, rfl⟩
end Go.Proofs.YtiikbhejnblhlaaGreat
