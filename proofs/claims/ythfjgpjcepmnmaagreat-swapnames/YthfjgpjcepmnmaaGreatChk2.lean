/-
  What a name is, and what Check tells of every part: naming.Is, effect's kindsFit, nameFits, Check. Each touches nothing that was there.
-/
import Derived.Test.YthfjgpjcepmnmaaGreatS1
namespace Go.Proofs.YthfjgpjcepmnmaaGreat
open Go.RowKit

def okb (x : UInt8) : Bool := letter x || decide (x = 45)
theorem byte_at (s : ByteArray) (i : Nat) (h : i < s.size) : s.data.toList[i]? = some s[i] := by
  simp [ByteArray.getElem_eq_getElem_data]
theorem name_no_len {l : List UInt8} (h : 20 < l.length) : nameOk l = false := by
  cases l with
  | nil => rfl
  | cons c r =>
    simp only [List.length_cons] at h
    simp [nameOk, show ¬ r.length ≤ 19 by omega]
theorem name_no_first {l : List UInt8} {c : UInt8} (h : l[0]? = some c) (hc : letter c = false) : nameOk l = false := by
  cases l with
  | nil => rfl
  | cons d r =>
    simp at h
    subst h
    simp [nameOk, hc]
theorem name_no_at {l : List UInt8} {i : Nat} {x : UInt8} (h : l[i]? = some x) (hx : okb x = false) : nameOk l = false := by
  cases l with
  | nil => rfl
  | cons d r =>
    have hm : x ∈ d :: r := List.mem_of_getElem? h
    rcases List.mem_cons.1 hm with rfl | h'
    · have : letter x = false := by
        simp only [okb, Bool.or_eq_false_iff] at hx
        exact hx.1
      simp [nameOk, this]
    · have : (r.all fun x => letter x || decide (x = 45)) = false := by
        rw [List.all_eq_false]
        exact ⟨x, h', by simpa [okb] using hx⟩
      simp [nameOk, this]
theorem name_yes {l : List UInt8} {c : UInt8} (h0 : l[0]? = some c) (hc : letter c = true) (hl : l.length ≤ 20) (ha : ∀ (j : Nat) x, l[j]? = some x → okb x = true) : nameOk l = true := by
  cases l with
  | nil => simp at h0
  | cons d r =>
    simp at h0
    subst h0
    simp only [List.length_cons] at hl
    have : (r.all fun x => letter x || decide (x = 45)) = true := by
      rw [List.all_eq_true]
      intro x hx
      obtain ⟨j, hj, rfl⟩ := List.getElem_of_mem hx
      exact ha (j + 1) _ (by simp [hj])
    simp only [nameOk, hc, this, Bool.and_true]
    exact decide_eq_true (by omega)
set_option maxHeartbeats 2000000 in
theorem is_any (s : ByteArray) (w : World) : Calls Tryz.prog 142 #[.string s] w fun e w' => e = .returned (.bool (nameOk s.data.toList)) ∧ w' = w := by
  have HL : Hid (s.data.toList.length = s.size) := (Lib.size_eq s).symm
  by_cases h0 : s.size = 0
  · have hb : ((s.size : Int) == 0) = true := by simp [h0]
    rw [show s.data.toList = [] from List.eq_nil_of_length_eq_zero (by rw [HL.out]; exact h0)]
    clear h0
    go_enter Tryz.func142, Tryz.ntmps142
    go_wp2
    go_ret
    exact ⟨rfl, rfl⟩
  · have hb : ((s.size : Int) == 0) = false := by simp [h0]
    by_cases h1 : 20 < s.size
    · have hb1 : (20 : Int) < (s.size : Int) := by omega
      rw [name_no_len (by rw [HL.out]; exact h1)]
      clear h0 h1
      go_enter Tryz.func142, Tryz.ntmps142
      go_wp2
      go_ret
      exact ⟨rfl, rfl⟩
    · have hb1 : ¬ (20 : Int) < (s.size : Int) := by omega
      have hp : 0 < s.size := by omega
      have B0 : Hid (s.data.toList[0]? = some s[0]) := byte_at s 0 hp
      have H1 : Hid (s.data.toList.length ≤ 20) := by rw [Hid, HL.out]; omega
      clear h0 h1
      cases hc : letter s[0] with
      | false =>
        rw [name_no_first B0.out hc]
        go_enter Tryz.func142, Tryz.ntmps142
        go_wp2_with (go_at_call 205; refine (isLetter_any _ _).mono ?_; rintro e w1 ⟨rfl, rfl⟩; rw [hc])
        go_ret
        exact ⟨rfl, rfl⟩
      | true =>
        have HC : Hid (letter s[0] = true) := hc
        go_enter Tryz.func142, Tryz.ntmps142
        go_wp2_with (go_at_call 205; refine (isLetter_any _ _).mono ?_; rintro e w1 ⟨rfl, hw⟩; obtain rfl : w = w1 := hw.symm; rw [hc])
        clear hc
        go_loopw [20] (fun t wr => wr = w ∧ ∃ i : Nat, i ≤ s.size ∧ t = .int .i64 i ∧ ∀ j x, j < i → s.data.toList[j]? = some x → okb x = true) (fun t _ => s.size - (intOf t).toNat)
        case atStart => exact ⟨rfl, 0, Nat.zero_le _, rfl, fun j x hj => absurd hj (by omega)⟩
        case round =>
          obtain ⟨rfl, i, hi, rfl, ha⟩ := hrel
          have HA : Hid (∀ j x, j < i → s.data.toList[j]? = some x → okb x = true) := ha
          clear ha
          by_cases hl : i < s.size
          · have hl' : (i : Int) < (s.size : Int) := by omega
            have BI : Hid (s.data.toList[i]? = some s[i]) := byte_at s i hl
            cases hc : letter s[i] with
            | true =>
              have HN : Hid (okb s[i] = true) := by simp [Hid, okb, hc]
              go_wp2_with (go_at_call 205; refine (isLetter_any _ _).mono ?_; rintro e w1 ⟨rfl, rfl⟩; rw [hc])
              go_roundw
              case rel => exact ⟨trivial, i + 1, by omega, by go_num, fun j x hj hx => by
                rcases (show j < i ∨ j = i from by omega) with h' | rfl
                · exact HA.out j x h' hx
                · rw [BI.out] at hx; cases hx; exact HN.out⟩
              case measure => simp [intOf]; omega
            | false =>
              by_cases hd : s[i] = 45
              · have hq : ((s[i].toNat : Int) == 45) = true := by simp [hd]
                have HN : Hid (okb s[i] = true) := by simp [Hid, okb, hd]
                clear hd
                go_wp2_with (go_at_call 205; refine (isLetter_any _ _).mono ?_; rintro e w1 ⟨rfl, rfl⟩; rw [hc])
                go_roundw
                case rel => exact ⟨trivial, i + 1, by omega, by go_num, fun j x hj hx => by
                  rcases (show j < i ∨ j = i from by omega) with h' | rfl
                  · exact HA.out j x h' hx
                  · rw [BI.out] at hx; cases hx; exact HN.out⟩
                case measure => simp [intOf]; omega
              · have hq : ((s[i].toNat : Int) == 45) = false := by
                  have : ¬ (s[i].toNat : Int) = 45 := fun e => hd (UInt8.toNat_inj.1 (by simpa using (by omega : s[i].toNat = 45)))
                  simpa using this
                have HN : Hid (okb s[i] = false) := by simp [Hid, okb, hc, hd]
                clear hd
                go_wp2_with (go_at_call 205; refine (isLetter_any _ _).mono ?_; rintro e w1 ⟨rfl, rfl⟩; rw [hc])
                go_ret
                exact ⟨ret_bool (name_no_at BI.out HN.out).symm, rfl⟩
          · have hl' : ¬ (i : Int) < (s.size : Int) := by omega
            have HY : Hid (nameOk s.data.toList = true) := name_yes B0.out HC.out H1.out (fun j x hx => HA.out j x (by
              have := (List.getElem?_eq_some_iff.1 hx).1
              rw [HL.out] at this
              omega) hx)
            go_wp2
            go_ret
            exact ⟨ret_bool HY.out.symm, rfl⟩

theorem good_lo {x m : Int} (h : ¬ 1 ≤ x) : false = (decide (1 ≤ x) && decide (x ≤ m)) := by rw [decide_eq_false h]; rfl
theorem good_hi {x m : Int} (h : 1 ≤ x) : decide (x ≤ m) = (decide (1 ≤ x) && decide (x ≤ m)) := by rw [decide_eq_true h]; rfl
set_option maxHeartbeats 4000000 in
set_option maxRecDepth 100000 in
theorem kfit_any (p : Pt) (w : World) : Calls Tryz.prog 291 #[pv p] w fun e w' => e = .returned (.bool (kfit p)) ∧ w.grownBy w' none := by
  unfold pv
  rw [show kfit p = (fitU (uS p.vb p.wm) p.su 6 && (fitU (uT p.vb p.wm) p.tr 8 && fitU (uM p.vb) p.mr 4)) from rfl]
  by_cases a1 : 1 ≤ p.su
  · cases F1 : fitU (uS p.vb p.wm) p.su 6 with
    | false =>
      rw [Bool.false_and]
      go_enter Tryz.func291, Tryz.ntmps291
      go_wp2_with (first | (go_at_call 316; refine (uses_any _ _ _).mono ?_; rintro e w1 ⟨rfl, rfl⟩; simp only [usesV]) | (go_at_call 317; refine (fits77_any _ _ _ 6 (good_hi (by omega)) _).mono ?_; rintro e w1 ⟨rfl, rfl⟩; rw [F1]))
      go_ret
      exact ⟨rfl, World.grownBy_alloc _ _ _⟩
    | true =>
      rw [Bool.true_and]
      by_cases a2 : 1 ≤ p.tr
      · cases F2 : fitU (uT p.vb p.wm) p.tr 8 with
        | false =>
          rw [Bool.false_and]
          go_enter Tryz.func291, Tryz.ntmps291
          go_wp2_with (first | (go_at_call 316; refine (uses_any _ _ _).mono ?_; rintro e w1 ⟨rfl, rfl⟩; simp only [usesV]) | (go_at_call 317; refine (fits77_any _ _ _ 6 (good_hi (by omega)) _).mono ?_; rintro e w1 ⟨rfl, rfl⟩; rw [F1]) | (go_at_call 318; refine (fits78_any _ _ _ 8 (good_hi (by omega)) _).mono ?_; rintro e w1 ⟨rfl, rfl⟩; rw [F2]))
          go_ret
          exact ⟨rfl, World.grownBy_alloc _ _ _⟩
        | true =>
          rw [Bool.true_and]
          by_cases a3 : 1 ≤ p.mr
          · go_enter Tryz.func291, Tryz.ntmps291
            go_wp2_with (first | (go_at_call 316; refine (uses_any _ _ _).mono ?_; rintro e w1 ⟨rfl, rfl⟩; simp only [usesV]) | (go_at_call 317; refine (fits77_any _ _ _ 6 (good_hi (by omega)) _).mono ?_; rintro e w1 ⟨rfl, rfl⟩; rw [F1]) | (go_at_call 318; refine (fits78_any _ _ _ 8 (good_hi (by omega)) _).mono ?_; rintro e w1 ⟨rfl, rfl⟩; rw [F2]) | (go_at_call 319; refine (fits79_any _ _ _ 4 (good_hi (by omega)) _).mono ?_; rintro e w1 ⟨rfl, rfl⟩))
            go_ret
            exact ⟨rfl, World.grownBy_alloc _ _ _⟩
          · go_enter Tryz.func291, Tryz.ntmps291
            go_wp2_with (first | (go_at_call 316; refine (uses_any _ _ _).mono ?_; rintro e w1 ⟨rfl, rfl⟩; simp only [usesV]) | (go_at_call 317; refine (fits77_any _ _ _ 6 (good_hi (by omega)) _).mono ?_; rintro e w1 ⟨rfl, rfl⟩; rw [F1]) | (go_at_call 318; refine (fits78_any _ _ _ 8 (good_hi (by omega)) _).mono ?_; rintro e w1 ⟨rfl, rfl⟩; rw [F2]) | (go_at_call 319; refine (fits79_any _ _ _ 4 (good_lo (by omega)) _).mono ?_; rintro e w1 ⟨rfl, rfl⟩))
            go_ret
            exact ⟨rfl, World.grownBy_alloc _ _ _⟩
      · cases F2 : fitU (uT p.vb p.wm) p.tr 8 with
        | false =>
          rw [Bool.false_and]
          go_enter Tryz.func291, Tryz.ntmps291
          go_wp2_with (first | (go_at_call 316; refine (uses_any _ _ _).mono ?_; rintro e w1 ⟨rfl, rfl⟩; simp only [usesV]) | (go_at_call 317; refine (fits77_any _ _ _ 6 (good_hi (by omega)) _).mono ?_; rintro e w1 ⟨rfl, rfl⟩; rw [F1]) | (go_at_call 318; refine (fits78_any _ _ _ 8 (good_lo (by omega)) _).mono ?_; rintro e w1 ⟨rfl, rfl⟩; rw [F2]))
          go_ret
          exact ⟨rfl, World.grownBy_alloc _ _ _⟩
        | true =>
          rw [Bool.true_and]
          by_cases a3 : 1 ≤ p.mr
          · go_enter Tryz.func291, Tryz.ntmps291
            go_wp2_with (first | (go_at_call 316; refine (uses_any _ _ _).mono ?_; rintro e w1 ⟨rfl, rfl⟩; simp only [usesV]) | (go_at_call 317; refine (fits77_any _ _ _ 6 (good_hi (by omega)) _).mono ?_; rintro e w1 ⟨rfl, rfl⟩; rw [F1]) | (go_at_call 318; refine (fits78_any _ _ _ 8 (good_lo (by omega)) _).mono ?_; rintro e w1 ⟨rfl, rfl⟩; rw [F2]) | (go_at_call 319; refine (fits79_any _ _ _ 4 (good_hi (by omega)) _).mono ?_; rintro e w1 ⟨rfl, rfl⟩))
            go_ret
            exact ⟨rfl, World.grownBy_alloc _ _ _⟩
          · go_enter Tryz.func291, Tryz.ntmps291
            go_wp2_with (first | (go_at_call 316; refine (uses_any _ _ _).mono ?_; rintro e w1 ⟨rfl, rfl⟩; simp only [usesV]) | (go_at_call 317; refine (fits77_any _ _ _ 6 (good_hi (by omega)) _).mono ?_; rintro e w1 ⟨rfl, rfl⟩; rw [F1]) | (go_at_call 318; refine (fits78_any _ _ _ 8 (good_lo (by omega)) _).mono ?_; rintro e w1 ⟨rfl, rfl⟩; rw [F2]) | (go_at_call 319; refine (fits79_any _ _ _ 4 (good_lo (by omega)) _).mono ?_; rintro e w1 ⟨rfl, rfl⟩))
            go_ret
            exact ⟨rfl, World.grownBy_alloc _ _ _⟩
  · cases F1 : fitU (uS p.vb p.wm) p.su 6 with
    | false =>
      rw [Bool.false_and]
      go_enter Tryz.func291, Tryz.ntmps291
      go_wp2_with (first | (go_at_call 316; refine (uses_any _ _ _).mono ?_; rintro e w1 ⟨rfl, rfl⟩; simp only [usesV]) | (go_at_call 317; refine (fits77_any _ _ _ 6 (good_lo (by omega)) _).mono ?_; rintro e w1 ⟨rfl, rfl⟩; rw [F1]))
      go_ret
      exact ⟨rfl, World.grownBy_alloc _ _ _⟩
    | true =>
      rw [Bool.true_and]
      by_cases a2 : 1 ≤ p.tr
      · cases F2 : fitU (uT p.vb p.wm) p.tr 8 with
        | false =>
          rw [Bool.false_and]
          go_enter Tryz.func291, Tryz.ntmps291
          go_wp2_with (first | (go_at_call 316; refine (uses_any _ _ _).mono ?_; rintro e w1 ⟨rfl, rfl⟩; simp only [usesV]) | (go_at_call 317; refine (fits77_any _ _ _ 6 (good_lo (by omega)) _).mono ?_; rintro e w1 ⟨rfl, rfl⟩; rw [F1]) | (go_at_call 318; refine (fits78_any _ _ _ 8 (good_hi (by omega)) _).mono ?_; rintro e w1 ⟨rfl, rfl⟩; rw [F2]))
          go_ret
          exact ⟨rfl, World.grownBy_alloc _ _ _⟩
        | true =>
          rw [Bool.true_and]
          by_cases a3 : 1 ≤ p.mr
          · go_enter Tryz.func291, Tryz.ntmps291
            go_wp2_with (first | (go_at_call 316; refine (uses_any _ _ _).mono ?_; rintro e w1 ⟨rfl, rfl⟩; simp only [usesV]) | (go_at_call 317; refine (fits77_any _ _ _ 6 (good_lo (by omega)) _).mono ?_; rintro e w1 ⟨rfl, rfl⟩; rw [F1]) | (go_at_call 318; refine (fits78_any _ _ _ 8 (good_hi (by omega)) _).mono ?_; rintro e w1 ⟨rfl, rfl⟩; rw [F2]) | (go_at_call 319; refine (fits79_any _ _ _ 4 (good_hi (by omega)) _).mono ?_; rintro e w1 ⟨rfl, rfl⟩))
            go_ret
            exact ⟨rfl, World.grownBy_alloc _ _ _⟩
          · go_enter Tryz.func291, Tryz.ntmps291
            go_wp2_with (first | (go_at_call 316; refine (uses_any _ _ _).mono ?_; rintro e w1 ⟨rfl, rfl⟩; simp only [usesV]) | (go_at_call 317; refine (fits77_any _ _ _ 6 (good_lo (by omega)) _).mono ?_; rintro e w1 ⟨rfl, rfl⟩; rw [F1]) | (go_at_call 318; refine (fits78_any _ _ _ 8 (good_hi (by omega)) _).mono ?_; rintro e w1 ⟨rfl, rfl⟩; rw [F2]) | (go_at_call 319; refine (fits79_any _ _ _ 4 (good_lo (by omega)) _).mono ?_; rintro e w1 ⟨rfl, rfl⟩))
            go_ret
            exact ⟨rfl, World.grownBy_alloc _ _ _⟩
      · cases F2 : fitU (uT p.vb p.wm) p.tr 8 with
        | false =>
          rw [Bool.false_and]
          go_enter Tryz.func291, Tryz.ntmps291
          go_wp2_with (first | (go_at_call 316; refine (uses_any _ _ _).mono ?_; rintro e w1 ⟨rfl, rfl⟩; simp only [usesV]) | (go_at_call 317; refine (fits77_any _ _ _ 6 (good_lo (by omega)) _).mono ?_; rintro e w1 ⟨rfl, rfl⟩; rw [F1]) | (go_at_call 318; refine (fits78_any _ _ _ 8 (good_lo (by omega)) _).mono ?_; rintro e w1 ⟨rfl, rfl⟩; rw [F2]))
          go_ret
          exact ⟨rfl, World.grownBy_alloc _ _ _⟩
        | true =>
          rw [Bool.true_and]
          by_cases a3 : 1 ≤ p.mr
          · go_enter Tryz.func291, Tryz.ntmps291
            go_wp2_with (first | (go_at_call 316; refine (uses_any _ _ _).mono ?_; rintro e w1 ⟨rfl, rfl⟩; simp only [usesV]) | (go_at_call 317; refine (fits77_any _ _ _ 6 (good_lo (by omega)) _).mono ?_; rintro e w1 ⟨rfl, rfl⟩; rw [F1]) | (go_at_call 318; refine (fits78_any _ _ _ 8 (good_lo (by omega)) _).mono ?_; rintro e w1 ⟨rfl, rfl⟩; rw [F2]) | (go_at_call 319; refine (fits79_any _ _ _ 4 (good_hi (by omega)) _).mono ?_; rintro e w1 ⟨rfl, rfl⟩))
            go_ret
            exact ⟨rfl, World.grownBy_alloc _ _ _⟩
          · go_enter Tryz.func291, Tryz.ntmps291
            go_wp2_with (first | (go_at_call 316; refine (uses_any _ _ _).mono ?_; rintro e w1 ⟨rfl, rfl⟩; simp only [usesV]) | (go_at_call 317; refine (fits77_any _ _ _ 6 (good_lo (by omega)) _).mono ?_; rintro e w1 ⟨rfl, rfl⟩; rw [F1]) | (go_at_call 318; refine (fits78_any _ _ _ 8 (good_lo (by omega)) _).mono ?_; rintro e w1 ⟨rfl, rfl⟩; rw [F2]) | (go_at_call 319; refine (fits79_any _ _ _ 4 (good_lo (by omega)) _).mono ?_; rintro e w1 ⟨rfl, rfl⟩))
            go_ret
            exact ⟨rfl, World.grownBy_alloc _ _ _⟩
set_option maxHeartbeats 4000000 in
set_option maxRecDepth 100000 in
theorem nfit_any (p : Pt) (w : World) : Calls Tryz.prog 292 #[pv p] w fun e w' => e = .returned (.bool (nfit p)) ∧ w.grownBy w' none := by
  unfold pv
  go_enter Tryz.func292, Tryz.ntmps292
  go_wp2_with (go_at_call 316; refine (uses_any _ _ _).mono ?_; rintro e w1 ⟨rfl, rfl⟩; simp only [usesV])
  go_region_held3 (fun w' => w'.cell? ⟨w.heap.size, 7, none⟩ = some (.string p.nm)) (first | exact block_cell (alloc_at _ _ _) 7 | go_keep) (first | (go_at_call 142; refine (is_any _ _).mono ?_; rintro e w3 ⟨rfl, rfl⟩) | (go_at_call 320; refine (fits80_any _ _ _ _).mono ?_; rintro e w3 ⟨rfl, rfl⟩))
  go_wp2
  go_ret
  exact ⟨rfl, grown_trans (World.grownBy_alloc _ _ _) (grown_drewN _ _ _)⟩
end Go.Proofs.YthfjgpjcepmnmaaGreat
