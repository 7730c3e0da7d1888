/-
  SameCard, and the program's own Same: of every two cards.
-/
import Derived.Test.YtjjldjmcbmkkdaaGreatHdr
namespace Go.Proofs.YtjjldjmcbmkkdaaGreat
open Go.RowKit

def sameHd (a b : Hd) : Bool := decide (a.nm = b.nm ∧ a.su = b.su ∧ a.kd = b.kd ∧ a.co = b.co ∧ a.po = b.po ∧ a.he = b.he ∧ a.tr = b.tr ∧ a.tk = b.tk)
theorem hd_ext {a b : Hd} (h : sameHd a b = true) : a = b := by
  have := of_decide_eq_true h
  obtain ⟨a0, a1, a2, a3, a4, a5, a6, a7⟩ := a
  obtain ⟨b0, b1, b2, b3, b4, b5, b6, b7⟩ := b
  simp only at this
  simp [this]
theorem sameHd_refl (a : Hd) : sameHd a a = true := by simp [sameHd]
theorem list_no {s t : ByteArray} (h : ¬ s = t) : (s.toList == t.toList) = false := by
  cases hb : (s.toList == t.toList) with
  | false => rfl
  | true => exact absurd (bytes_inj (eq_of_beq hb)) h
theorem beqi_no {a b : Int} (h : ¬ a = b) : (a == b) = false := by simpa using h
theorem beqb_no {a b : Bool} (h : ¬ a = b) : (a == b) = false := by simpa using h
set_option maxRecDepth 100000 in
set_option maxHeartbeats 4000000 in
/-- slices.EqualFunc with effect.Same. -/
theorem equalFunc_any (va vb : Value) (a b : List Pt) (w : World) (ha : PsAt w va a) (hb : PsAt w vb b) (hm : Small a.length) : Calls Tryz.prog 71 #[va, vb, .func (.func 72) #[] #[]] w fun e w' => e = .returned (.bool (samePs a b)) ∧ w.grownBy w' none := by
  by_cases hl : a.length = b.length
  · have HL : Hid (a.length = b.length) := hl
    by_cases h0 : a.length = 0
    · obtain rfl := List.eq_nil_of_length_eq_zero h0
      obtain rfl : b = [] := List.eq_nil_of_length_eq_zero (by rw [← hl]; rfl)
      obtain ⟨x, c, rfl⟩ := ha.form
      obtain ⟨y, d, rfl⟩ := hb.form
      clear ha hb hl HL h0 hm
      simp only [List.length_nil]
      go_enter Tryz.func71, Tryz.ntmps71
      go_wp2_with fail
      go_loopw [17] (fun i wr => i = .int .i64 0 ∧ wr = w) (fun i _ => 0)
      case atStart => exact ⟨rfl, rfl⟩
      case round =>
        obtain ⟨rfl, rfl⟩ := hrel
        go_wp2
        go_ret
        exact ⟨rfl, grown_refl _ _⟩
    · obtain ⟨g, o, c, rfl, PA⟩ := ha.part (by omega)
      obtain ⟨g', o', d, rfl, PB⟩ := hb.part (by omega)
      have HA : Hid (∀ j p, a[j]? = some p → P8 w g (o + j * 8) p) := PA
      have HB : Hid (∀ j p, b[j]? = some p → P8 w g' (o' + j * 8) p) := PB
      rw [← hl]
      clear ha hb PA PB hl h0
      go_enter Tryz.func71, Tryz.ntmps71
      go_wp2_with fail
      go_loopw [17] (fun i wr => ∃ k : Nat, k ≤ a.length ∧ i = .int .i64 k ∧ (∀ (j : Nat) p q, j < k → a[j]? = some p → b[j]? = some q → samep p q = true) ∧ w.grownBy wr none) (fun i _ => a.length - (intOf i).toNat)
      case atStart => exact ⟨0, by omega, rfl, fun j p q h => absurd h (by omega), grown_refl _ _⟩
      case round =>
        obtain ⟨k, hk, rfl, S, G⟩ := hrel
        have HG : Hid (w.grownBy wr none) := G
        have HS : Hid (∀ (j : Nat) p q, j < k → a[j]? = some p → b[j]? = some q → samep p q = true) := S
        clear G S
        rcases (show k = a.length ∨ k < a.length from by omega) with rfl | hlt
        · go_wp2
          go_ret
          exact ⟨ret_bool (samePs_all HL.out (fun j p q hp hq => HS.out j p q (List.getElem?_eq_some_iff.1 hp).1 hp hq)).symm, HG.out⟩
        · have hlt' : (k : Int) < (a.length : Int) := by omega
          have hk0 : (0 : Int) ≤ (k : Int) := by omega
          have hw : wrap64 ((k : Int) + 1) = (k : Int) + 1 := hm.wrap hlt
          obtain ⟨p, hp⟩ : ∃ p, a[k]? = some p := ⟨_, List.getElem?_eq_getElem hlt⟩
          obtain ⟨q, hq⟩ : ∃ q, b[k]? = some q := ⟨_, List.getElem?_eq_getElem (HL.out ▸ hlt)⟩
          obtain ⟨c0, c1, c2, c3, c4, c5, c6, c7⟩ := (HA.out k p hp).keep HG.out
          have DB := (HB.out k q hq).keep HG.out
          have HP : Hid (a[k]? = some p) := hp
          have HQ : Hid (b[k]? = some q) := hq
          obtain ⟨p0, p1, p2, p3, p4, p5, p6, p7⟩ := p
          obtain ⟨q0, q1, q2, q3, q4, q5, q6, q7⟩ := q
          obtain ⟨d0, d1, d2, d3, d4, d5, d6, d7⟩ := DB.keep (World.grownBy_alloc wr (.cells #[.int .u8 p0, .int .u8 p1, .int .u8 p2, .int .i64 p3, .int .u8 p4, .int .u8 p5, .int .u8 p6, .string p7] 79) none)
          clear DB
          simp only at c0 c1 c2 c3 c4 c5 c6 c7 d0 d1 d2 d3 d4 d5 d6 d7
          clear hp hq
          cases hs : samep ⟨p0, p1, p2, p3, p4, p5, p6, p7⟩ ⟨q0, q1, q2, q3, q4, q5, q6, q7⟩ with
          | true =>
            go_wp2_with (first | (go_at_call 72; refine (same_any ⟨p0, p1, p2, p3, p4, p5, p6, p7⟩ ⟨q0, q1, q2, q3, q4, q5, q6, q7⟩ _).mono ?_; rintro e w1 ⟨rfl, g1⟩; rw [hs]) | fail)
            go_roundw
            case rel => exact ⟨k + 1, hlt, by go_num, fun j p q hj hp hq => by
              rcases Nat.lt_succ_iff_lt_or_eq.1 hj with h | rfl
              · exact HS.out j p q h hp hq
              · rw [HP.out] at hp
                rw [HQ.out] at hq
                obtain rfl := Option.some.inj hp
                obtain rfl := Option.some.inj hq
                exact hs, grown_trans HG.out (grown_trans (grown_push (World.grownBy_alloc _ _ none) _) g1)⟩
            case measure => rw [hw]; exact meas_next hlt
          | false =>
            go_wp2_with (first | (go_at_call 72; refine (same_any ⟨p0, p1, p2, p3, p4, p5, p6, p7⟩ ⟨q0, q1, q2, q3, q4, q5, q6, q7⟩ _).mono ?_; rintro e w1 ⟨rfl, g1⟩; rw [hs]) | fail)
            go_ret
            exact ⟨ret_bool (samePs_at HP.out HQ.out hs).symm, grown_trans HG.out (grown_trans (grown_push (World.grownBy_alloc _ _ none) _) g1)⟩
  · obtain ⟨x, c, rfl⟩ := ha.form
    obtain ⟨y, d, rfl⟩ := hb.form
    have hl' : ((a.length : Int) == (b.length : Int)) = false := by simp; omega
    have HS := samePs_len hl
    clear ha hb hm hl
    go_enter Tryz.func71, Tryz.ntmps71
    go_wp2
    go_ret
    exact ⟨ret_bool HS.symm, grown_refl _ _⟩

set_option maxRecDepth 100000 in
set_option maxHeartbeats 8000000 in
theorem same_card (a b : Hd) (va vb : Value) (ps qs : List Pt) (w : World) (ha : PsAt w va ps) (hb : PsAt w vb qs) (hm : Small ps.length) : Calls Tryz.prog 49 #[cv a va, cv b vb] w fun e w' => e = .returned (.bool (sameHd a b && samePs ps qs)) ∧ w.grownBy w' none := by
  have HA : Hid (PsAt w va ps) := ha
  have HB : Hid (PsAt w vb qs) := hb
  obtain ⟨x, c, rfl⟩ := ha.form
  obtain ⟨y, d, rfl⟩ := hb.form
  clear ha hb
  obtain ⟨a0, a1, a2, a3, a4, a5, a6, a7⟩ := a
  obtain ⟨b0, b1, b2, b3, b4, b5, b6, b7⟩ := b
  unfold cv
  simp only
  by_cases h0 : a0 = b0
  case neg =>
    have k0 := list_no h0
    have R : (sameHd ⟨a0, a1, a2, a3, a4, a5, a6, a7⟩ ⟨b0, b1, b2, b3, b4, b5, b6, b7⟩ && samePs ps qs) = false := by simp [sameHd, h0]
    rw [R]
    clear R h0 HA HB hm
    go_enter Tryz.func49, Tryz.ntmps49
    go_wp2
    go_ret
    exact ⟨rfl, grown_push (World.grownBy_alloc _ _ none) _⟩
  subst h0
  by_cases h1 : a1 = b1
  case neg =>
    have k1 := beqi_no h1
    have R : (sameHd ⟨a0, a1, a2, a3, a4, a5, a6, a7⟩ ⟨a0, b1, b2, b3, b4, b5, b6, b7⟩ && samePs ps qs) = false := by simp [sameHd, h1]
    rw [R]
    clear R h1 HA HB hm
    go_enter Tryz.func49, Tryz.ntmps49
    go_wp2
    go_ret
    exact ⟨rfl, grown_push (World.grownBy_alloc _ _ none) _⟩
  subst h1
  by_cases h2 : a2 = b2
  case neg =>
    have k2 := beqi_no h2
    have R : (sameHd ⟨a0, a1, a2, a3, a4, a5, a6, a7⟩ ⟨a0, a1, b2, b3, b4, b5, b6, b7⟩ && samePs ps qs) = false := by simp [sameHd, h2]
    rw [R]
    clear R h2 HA HB hm
    go_enter Tryz.func49, Tryz.ntmps49
    go_wp2
    go_ret
    exact ⟨rfl, grown_push (World.grownBy_alloc _ _ none) _⟩
  subst h2
  by_cases h3 : a3 = b3
  case neg =>
    have k3 := beqi_no h3
    have R : (sameHd ⟨a0, a1, a2, a3, a4, a5, a6, a7⟩ ⟨a0, a1, a2, b3, b4, b5, b6, b7⟩ && samePs ps qs) = false := by simp [sameHd, h3]
    rw [R]
    clear R h3 HA HB hm
    go_enter Tryz.func49, Tryz.ntmps49
    go_wp2
    go_ret
    exact ⟨rfl, grown_push (World.grownBy_alloc _ _ none) _⟩
  subst h3
  by_cases h4 : a4 = b4
  case neg =>
    have k4 := beqi_no h4
    have R : (sameHd ⟨a0, a1, a2, a3, a4, a5, a6, a7⟩ ⟨a0, a1, a2, a3, b4, b5, b6, b7⟩ && samePs ps qs) = false := by simp [sameHd, h4]
    rw [R]
    clear R h4 HA HB hm
    go_enter Tryz.func49, Tryz.ntmps49
    go_wp2
    go_ret
    exact ⟨rfl, grown_push (World.grownBy_alloc _ _ none) _⟩
  subst h4
  by_cases h5 : a5 = b5
  case neg =>
    have k5 := beqi_no h5
    have R : (sameHd ⟨a0, a1, a2, a3, a4, a5, a6, a7⟩ ⟨a0, a1, a2, a3, a4, b5, b6, b7⟩ && samePs ps qs) = false := by simp [sameHd, h5]
    rw [R]
    clear R h5 HA HB hm
    go_enter Tryz.func49, Tryz.ntmps49
    go_wp2
    go_ret
    exact ⟨rfl, grown_push (World.grownBy_alloc _ _ none) _⟩
  subst h5
  by_cases h6 : a6 = b6
  case neg =>
    have k6 := beqi_no h6
    have R : (sameHd ⟨a0, a1, a2, a3, a4, a5, a6, a7⟩ ⟨a0, a1, a2, a3, a4, a5, b6, b7⟩ && samePs ps qs) = false := by simp [sameHd, h6]
    rw [R]
    clear R h6 HA HB hm
    go_enter Tryz.func49, Tryz.ntmps49
    go_wp2
    go_ret
    exact ⟨rfl, grown_push (World.grownBy_alloc _ _ none) _⟩
  subst h6
  by_cases h7 : a7 = b7
  case neg =>
    have k7 := beqb_no h7
    have R : (sameHd ⟨a0, a1, a2, a3, a4, a5, a6, a7⟩ ⟨a0, a1, a2, a3, a4, a5, a6, b7⟩ && samePs ps qs) = false := by simp [sameHd, h7]
    rw [R]
    clear R h7 HA HB hm
    go_enter Tryz.func49, Tryz.ntmps49
    go_wp2
    go_ret
    exact ⟨rfl, grown_push (World.grownBy_alloc _ _ none) _⟩
  subst h7
  have R : sameHd ⟨a0, a1, a2, a3, a4, a5, a6, a7⟩ ⟨a0, a1, a2, a3, a4, a5, a6, a7⟩ = true := sameHd_refl _
  rw [R, Bool.true_and]
  clear R
  go_enter Tryz.func49, Tryz.ntmps49
  go_wp2_with (first | (go_at_call 71; refine (equalFunc_any _ _ ps qs _ (HA.out.keep (grown_push (World.grownBy_alloc _ _ none) _)) (HB.out.keep (grown_push (World.grownBy_alloc _ _ none) _)) hm).mono ?_; rintro e w1 ⟨rfl, g1⟩) | fail)
  go_ret
  exact ⟨rfl, grown_trans (grown_push (World.grownBy_alloc _ _ none) _) g1⟩
end Go.Proofs.YtjjldjmcbmkkdaaGreat
