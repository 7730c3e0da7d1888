/-
  SameParts: two lists of parts are held against each other.
-/
import Derived.Test.YtpoicbefemjckaaPs
namespace Go.Proofs.Ytpoicbefemjckaa
open Go.RowKit

/-- A number that a machine's list has at most. -/
def Small (n : Nat) : Prop := n ≤ 140737488355328
theorem Small.wrap {n k : Nat} (h : Small n) (hk : k < n) : wrap64 ((k : Int) + 1) = (k : Int) + 1 := by unfold Small at h; unfold wrap64; omega
theorem meas_next {n k : Nat} (h : k < n) : n - (intOf (.int .i64 ((k : Int) + 1))).toNat < n - (intOf (.int .i64 (k : Int))).toNat := by simp [intOf]; omega
def samePs : List Pt → List Pt → Bool
  | [], [] => true
  | p :: r, q :: t => samep p q && samePs r t
  | _, _ => false
theorem samep_true {p q : Pt} (h : samep p q = true) : p = q := Classical.byContradiction fun e => by rw [samep_no e] at h; cases h
theorem samePs_yes : ∀ {a b : List Pt}, samePs a b = true → a = b
  | [], [], _ => rfl
  | p :: r, q :: t, h => by
    simp only [samePs, Bool.and_eq_true] at h
    rw [samep_true h.1, samePs_yes h.2]
  | [], q :: t, h => by cases h
  | p :: r, [], h => by cases h
theorem samePs_refl : ∀ a : List Pt, samePs a a = true
  | [] => rfl
  | p :: r => by simp only [samePs, samep_yes (rfl : p = p), samePs_refl r, Bool.and_self]
theorem samePs_len : ∀ {a b : List Pt}, ¬ a.length = b.length → samePs a b = false := fun {a b} h => by
  cases hs : samePs a b with
  | false => rfl
  | true => exact absurd (by rw [samePs_yes hs]) h
theorem samePs_at {a b : List Pt} {j : Nat} {p q : Pt} (ha : a[j]? = some p) (hb : b[j]? = some q) (h : samep p q = false) : samePs a b = false := by
  cases hs : samePs a b with
  | false => rfl
  | true =>
    rw [samePs_yes hs, hb] at ha
    obtain rfl := Option.some.inj ha
    rw [samep_yes rfl] at h
    cases h
theorem samePs_all : ∀ {a b : List Pt}, a.length = b.length → (∀ (j : Nat) p q, a[j]? = some p → b[j]? = some q → samep p q = true) → samePs a b = true
  | [], [], _, _ => rfl
  | p :: r, q :: t, h, k => by
    simp only [samePs, Bool.and_eq_true]
    exact ⟨k 0 p q rfl rfl, samePs_all (by simpa using h) (fun j x y hx hy => k (j + 1) x y (by simpa using hx) (by simpa using hy))⟩
  | [], q :: t, h, _ => by simp at h
  | p :: r, [], h, _ => by simp at h
set_option maxRecDepth 100000 in
set_option maxHeartbeats 2000000 in
/-- SameParts of any two lists. -/
theorem sameParts_any (va vb : Value) (a b : List Pt) (w : World) (ha : PsAt w va a) (hb : PsAt w vb b) (hm : Small a.length) : Calls Try.prog 75 #[va, vb] w fun e w' => e = .returned (.bool (samePs a b)) ∧ w.grownBy w' none := by
  have he := eqg_part
  by_cases hl : a.length = b.length
  · have HL : Hid (a.length = b.length) := hl
    by_cases h0 : a.length = 0
    · obtain rfl := List.eq_nil_of_length_eq_zero h0
      obtain rfl : b = [] := List.eq_nil_of_length_eq_zero (by rw [← hl]; rfl)
      obtain ⟨x, c, rfl⟩ := ha.form
      obtain ⟨y, d, rfl⟩ := hb.form
      clear ha hb hl HL h0 hm
      simp only [List.length_nil]
      go_enter Try.func75, Try.ntmps75
      go_wp2_with fail
      go_loopw [5] (fun i wr => i = .int .i64 0 ∧ wr = w) (fun i _ => 0)
      case atStart => exact ⟨rfl, rfl⟩
      case round =>
        obtain ⟨rfl, rfl⟩ := hrel
        go_wp2
        go_ret
        exact ⟨rfl, grown_refl _ _⟩
    · obtain ⟨g, o, c, rfl, PA⟩ := ha.part (by omega)
      obtain ⟨g', o', d, rfl, PB⟩ := hb.part (by omega)
      have HA : Hid (∀ j p, a[j]? = some p → P8 w g (o + j * 8) p) := PA
      have HB : Hid (∀ j p, b[j]? = some p → P8 w g' (o' + j * 8) p) := PB
      rw [← hl]
      clear ha hb PA PB hl h0
      go_enter Try.func75, Try.ntmps75
      go_wp2_with fail
      go_loopw [5] (fun i wr => ∃ k : Nat, k ≤ a.length ∧ i = .int .i64 k ∧ (∀ (j : Nat) p q, j < k → a[j]? = some p → b[j]? = some q → samep p q = true) ∧ w.grownBy wr none) (fun i _ => a.length - (intOf i).toNat)
      case atStart => exact ⟨0, by omega, rfl, fun j p q h => absurd h (by omega), grown_refl _ _⟩
      case round =>
        obtain ⟨k, hk, rfl, S, G⟩ := hrel
        have HG : Hid (w.grownBy wr none) := G
        have HS : Hid (∀ (j : Nat) p q, j < k → a[j]? = some p → b[j]? = some q → samep p q = true) := S
        clear G S
        rcases (show k = a.length ∨ k < a.length from by omega) with rfl | hlt
        · go_wp2
          go_ret
          exact ⟨ret_bool (samePs_all HL.out (fun j p q hp hq => HS.out j p q (List.getElem?_eq_some_iff.1 hp).1 hp hq)).symm, HG.out⟩
        · have hlt' : (k : Int) < (a.length : Int) := by omega
          have hk0 : (0 : Int) ≤ (k : Int) := by omega
          have hw : wrap64 ((k : Int) + 1) = (k : Int) + 1 := hm.wrap hlt
          obtain ⟨p, hp⟩ : ∃ p, a[k]? = some p := ⟨_, List.getElem?_eq_getElem hlt⟩
          obtain ⟨q, hq⟩ : ∃ q, b[k]? = some q := ⟨_, List.getElem?_eq_getElem (HL.out ▸ hlt)⟩
          obtain ⟨c0, c1, c2, c3, c4, c5, c6, c7⟩ := (HA.out k p hp).keep HG.out
          obtain ⟨d0, d1, d2, d3, d4, d5, d6, d7⟩ := (HB.out k q hq).keep HG.out
          have HP : Hid (a[k]? = some p) := hp
          have HQ : Hid (b[k]? = some q) := hq
          obtain ⟨p0, p1, p2, p3, p4, p5, p6, p7⟩ := p
          obtain ⟨q0, q1, q2, q3, q4, q5, q6, q7⟩ := q
          simp only at c0 c1 c2 c3 c4 c5 c6 c7 d0 d1 d2 d3 d4 d5 d6 d7
          clear hp hq
          have hn := neq_part p0 p1 p2 p3 p4 p5 p6 p7 q0 q1 q2 q3 q4 q5 q6 q7
          cases hs : samep ⟨p0, p1, p2, p3, p4, p5, p6, p7⟩ ⟨q0, q1, q2, q3, q4, q5, q6, q7⟩ with
          | true =>
            go_wp2_with fail
            go_quiet (fail)
            go_wp2
            go_roundw
            case rel => exact ⟨k + 1, hlt, by go_num, fun j p q hj hp hq => by
              rcases Nat.lt_succ_iff_lt_or_eq.1 hj with h | rfl
              · exact HS.out j p q h hp hq
              · rw [HP.out] at hp
                rw [HQ.out] at hq
                obtain rfl := Option.some.inj hp
                obtain rfl := Option.some.inj hq
                exact hs, grown_trans HG.out (grown_drewN _ _ _)⟩
            case measure => rw [hw]; exact meas_next hlt
          | false =>
            go_wp2_with fail
            go_quiet (fail)
            go_wp2
            go_ret
            exact ⟨ret_bool (samePs_at HP.out HQ.out hs).symm, grown_trans HG.out (grown_drewN _ _ _)⟩
  · obtain ⟨x, c, rfl⟩ := ha.form
    obtain ⟨y, d, rfl⟩ := hb.form
    have hl' : ((a.length : Int) == (b.length : Int)) = false := by simp; omega
    have HS := samePs_len hl
    clear ha hb hm hl
    go_enter Try.func75, Try.ntmps75
    go_wp2
    go_ret
    exact ⟨ret_bool HS.symm, grown_refl _ _⟩
end Go.Proofs.Ytpoicbefemjckaa
