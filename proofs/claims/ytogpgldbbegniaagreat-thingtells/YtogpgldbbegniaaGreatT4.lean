/-
  SameParts: two lists of parts are held against each other.
  A card's value, and where its nine cells lie.
  SameCard, and the program's own Same: of every two cards.
  card.Check of every card, and what it asks: isSuit, kindWord, within, forceFits, trait.Check, mayHave, checkParts.
-/
import Derived.Test.YtogpgldbbegniaaGreatT3
import Derived.Test.YtogpgldbbegniaaGreatT0
namespace Go.Proofs.YtogpgldbbegniaaGreat
open Go.RowKit

/-- A number that a machine's list has at most. -/
def Small (n : Nat) : Prop := n ≤ 140737488355328
theorem Small.wrap {n k : Nat} (h : Small n) (hk : k < n) : wrap64 ((k : Int) + 1) = (k : Int) + 1 := by unfold Small at h; unfold wrap64; omega
theorem meas_next {n k : Nat} (h : k < n) : n - (intOf (.int .i64 ((k : Int) + 1))).toNat < n - (intOf (.int .i64 (k : Int))).toNat := by simp [intOf]; omega
def samePs : List Pt → List Pt → Bool
  | [], [] => true
  | p :: r, q :: t => samep p q && samePs r t
  | _, _ => false
theorem samep_true {p q : Pt} (h : samep p q = true) : p = q := Classical.byContradiction fun e => by rw [samep_no e] at h; cases h
theorem samePs_yes : ∀ {a b : List Pt}, samePs a b = true → a = b
  | [], [], _ => rfl
  | p :: r, q :: t, h => by
    simp only [samePs, Bool.and_eq_true] at h
    rw [samep_true h.1, samePs_yes h.2]
  | [], q :: t, h => by cases h
  | p :: r, [], h => by cases h
theorem samePs_refl : ∀ a : List Pt, samePs a a = true
  | [] => rfl
  | p :: r => by simp only [samePs, samep_yes (rfl : p = p), samePs_refl r, Bool.and_self]
theorem samePs_len : ∀ {a b : List Pt}, ¬ a.length = b.length → samePs a b = false := fun {a b} h => by
  cases hs : samePs a b with
  | false => rfl
  | true => exact absurd (by rw [samePs_yes hs]) h
theorem samePs_at {a b : List Pt} {j : Nat} {p q : Pt} (ha : a[j]? = some p) (hb : b[j]? = some q) (h : samep p q = false) : samePs a b = false := by
  cases hs : samePs a b with
  | false => rfl
  | true =>
    rw [samePs_yes hs, hb] at ha
    obtain rfl := Option.some.inj ha
    rw [samep_yes rfl] at h
    cases h
theorem samePs_all : ∀ {a b : List Pt}, a.length = b.length → (∀ (j : Nat) p q, a[j]? = some p → b[j]? = some q → samep p q = true) → samePs a b = true
  | [], [], _, _ => rfl
  | p :: r, q :: t, h, k => by
    simp only [samePs, Bool.and_eq_true]
    exact ⟨k 0 p q rfl rfl, samePs_all (by simpa using h) (fun j x y hx hy => k (j + 1) x y (by simpa using hx) (by simpa using hy))⟩
  | [], q :: t, h, _ => by simp at h
  | p :: r, [], h, _ => by simp at h
set_option maxRecDepth 100000 in
set_option maxHeartbeats 2000000 in
/-- SameParts of any two lists. -/
theorem sameParts_any (va vb : Value) (a b : List Pt) (w : World) (ha : PsAt w va a) (hb : PsAt w vb b) (hm : Small a.length) : Calls Tryz.prog 84 #[va, vb] w fun e w' => e = .returned (.bool (samePs a b)) ∧ w.grownBy w' none := by
  have he := eqg_part
  by_cases hl : a.length = b.length
  · have HL : Hid (a.length = b.length) := hl
    by_cases h0 : a.length = 0
    · obtain rfl := List.eq_nil_of_length_eq_zero h0
      obtain rfl : b = [] := List.eq_nil_of_length_eq_zero (by rw [← hl]; rfl)
      obtain ⟨x, c, rfl⟩ := ha.form
      obtain ⟨y, d, rfl⟩ := hb.form
      clear ha hb hl HL h0 hm
      simp only [List.length_nil]
      go_enter Tryz.func84, Tryz.ntmps84
      go_wp2_with fail
      go_loopw [5] (fun i wr => i = .int .i64 0 ∧ wr = w) (fun i _ => 0)
      case atStart => exact ⟨rfl, rfl⟩
      case round =>
        obtain ⟨rfl, rfl⟩ := hrel
        go_wp2
        go_ret
        exact ⟨rfl, grown_refl _ _⟩
    · obtain ⟨g, o, c, rfl, PA⟩ := ha.part (by omega)
      obtain ⟨g', o', d, rfl, PB⟩ := hb.part (by omega)
      have HA : Hid (∀ j p, a[j]? = some p → P8 w g (o + j * 8) p) := PA
      have HB : Hid (∀ j p, b[j]? = some p → P8 w g' (o' + j * 8) p) := PB
      rw [← hl]
      clear ha hb PA PB hl h0
      go_enter Tryz.func84, Tryz.ntmps84
      go_wp2_with fail
      go_loopw [5] (fun i wr => ∃ k : Nat, k ≤ a.length ∧ i = .int .i64 k ∧ (∀ (j : Nat) p q, j < k → a[j]? = some p → b[j]? = some q → samep p q = true) ∧ w.grownBy wr none) (fun i _ => a.length - (intOf i).toNat)
      case atStart => exact ⟨0, by omega, rfl, fun j p q h => absurd h (by omega), grown_refl _ _⟩
      case round =>
        obtain ⟨k, hk, rfl, S, G⟩ := hrel
        have HG : Hid (w.grownBy wr none) := G
        have HS : Hid (∀ (j : Nat) p q, j < k → a[j]? = some p → b[j]? = some q → samep p q = true) := S
        clear G S
        rcases (show k = a.length ∨ k < a.length from by omega) with rfl | hlt
        · go_wp2
          go_ret
          exact ⟨ret_bool (samePs_all HL.out (fun j p q hp hq => HS.out j p q (List.getElem?_eq_some_iff.1 hp).1 hp hq)).symm, HG.out⟩
        · have hlt' : (k : Int) < (a.length : Int) := by omega
          have hk0 : (0 : Int) ≤ (k : Int) := by omega
          have hw : wrap64 ((k : Int) + 1) = (k : Int) + 1 := hm.wrap hlt
          obtain ⟨p, hp⟩ : ∃ p, a[k]? = some p := ⟨_, List.getElem?_eq_getElem hlt⟩
          obtain ⟨q, hq⟩ : ∃ q, b[k]? = some q := ⟨_, List.getElem?_eq_getElem (HL.out ▸ hlt)⟩
          obtain ⟨c0, c1, c2, c3, c4, c5, c6, c7⟩ := (HA.out k p hp).keep HG.out
          obtain ⟨d0, d1, d2, d3, d4, d5, d6, d7⟩ := (HB.out k q hq).keep HG.out
          have HP : Hid (a[k]? = some p) := hp
          have HQ : Hid (b[k]? = some q) := hq
          obtain ⟨p0, p1, p2, p3, p4, p5, p6, p7⟩ := p
          obtain ⟨q0, q1, q2, q3, q4, q5, q6, q7⟩ := q
          simp only at c0 c1 c2 c3 c4 c5 c6 c7 d0 d1 d2 d3 d4 d5 d6 d7
          clear hp hq
          have hn := neq_part p0 p1 p2 p3 p4 p5 p6 p7 q0 q1 q2 q3 q4 q5 q6 q7
          cases hs : samep ⟨p0, p1, p2, p3, p4, p5, p6, p7⟩ ⟨q0, q1, q2, q3, q4, q5, q6, q7⟩ with
          | true =>
            go_wp2_with fail
            go_quiet (fail)
            go_wp2
            go_roundw
            case rel => exact ⟨k + 1, hlt, by go_num, fun j p q hj hp hq => by
              rcases Nat.lt_succ_iff_lt_or_eq.1 hj with h | rfl
              · exact HS.out j p q h hp hq
              · rw [HP.out] at hp
                rw [HQ.out] at hq
                obtain rfl := Option.some.inj hp
                obtain rfl := Option.some.inj hq
                exact hs, grown_trans HG.out (grown_drewN _ _ _)⟩
            case measure => rw [hw]; exact meas_next hlt
          | false =>
            go_wp2_with fail
            go_quiet (fail)
            go_wp2
            go_ret
            exact ⟨ret_bool (samePs_at HP.out HQ.out hs).symm, grown_trans HG.out (grown_drewN _ _ _)⟩
  · obtain ⟨x, c, rfl⟩ := ha.form
    obtain ⟨y, d, rfl⟩ := hb.form
    have hl' : ((a.length : Int) == (b.length : Int)) = false := by simp; omega
    have HS := samePs_len hl
    clear ha hb hm hl
    go_enter Tryz.func84, Tryz.ntmps84
    go_wp2
    go_ret
    exact ⟨ret_bool HS.symm, grown_refl _ _⟩
end Go.Proofs.YtogpgldbbegniaaGreat
namespace Go.Proofs.YtogpgldbbegniaaGreat
open Go.RowKit

/-- What is asked of a list's length: that it and two more are a list. -/
def Fits (n : Nat) : Prop := (n + 2) * 40 ≤ 140737488355328
theorem Fits.small {n : Nat} (h : Fits n) : Small n := by unfold Fits at h; unfold Small; omega
theorem Fits.small2 {n : Nat} (h : Fits n) : Small (n + 2) := by unfold Fits at h; unfold Small; omega
theorem Fits.copy {n : Nat} (h : Fits n) : n * 40 ≤ 140737488355328 := by unfold Fits at h; omega
/-- A card's value, its parts aside. -/
structure Hd where
  nm : ByteArray
  su : Int
  kd : Int
  co : Int
  po : Int
  he : Int
  tr : Int
  tk : Bool
def cv (h : Hd) (v : Value) : Value := .agg #[.string h.nm, .int .u8 h.su, .int .u8 h.kd, .int .i64 h.co, .int .i64 h.po, .int .i64 h.he, .int .u16 h.tr, .bool h.tk, v]
/-- A card's nine cells in a block of their own. -/
def ccs (h : Hd) (v : Value) : Array Value := #[.string h.nm, .int .u8 h.su, .int .u8 h.kd, .int .i64 h.co, .int .i64 h.po, .int .i64 h.he, .int .u16 h.tr, .bool h.tk, v]
def CAt (w : World) (b : Nat) (h : Hd) (v : Value) : Prop := w.heap[b]? = some (.cells (ccs h v) 69 (0, 0))
theorem CAt.keep {w w' : World} {b : Nat} {h : Hd} {v : Value} (k : CAt w b h v) (g : w.grownBy w' none) : CAt w' b h v := grown_keep g k (by simp)
theorem CAt.cells {w : World} {b : Nat} {h : Hd} {v : Value} (k : CAt w b h v) : w.cell? ⟨b, 0, none⟩ = some (.string h.nm) ∧ w.cell? ⟨b, 1, none⟩ = some (.int .u8 h.su) ∧ w.cell? ⟨b, 2, none⟩ = some (.int .u8 h.kd) ∧ w.cell? ⟨b, 3, none⟩ = some (.int .i64 h.co) ∧ w.cell? ⟨b, 4, none⟩ = some (.int .i64 h.po) ∧ w.cell? ⟨b, 5, none⟩ = some (.int .i64 h.he) ∧ w.cell? ⟨b, 6, none⟩ = some (.int .u16 h.tr) ∧ w.cell? ⟨b, 7, none⟩ = some (.bool h.tk) ∧ w.cell? ⟨b, 8, none⟩ = some v :=
  ⟨block_cell k 0, block_cell k 1, block_cell k 2, block_cell k 3, block_cell k 4, block_cell k 5, block_cell k 6, block_cell k 7, block_cell k 8⟩
theorem CAt.free {w : World} {b : Nat} {h : Hd} {v : Value} (k : CAt w b h v) (i : Nat) : w.frozen? ⟨b, i, none⟩ = false := block_free k i
def Hd.none : Hd := ⟨⟨#[]⟩, 0, 0, 0, 0, 0, 0, false⟩
theorem row_st9 (b : World) (s : Nat) (x0 x1 x2 x3 x4 x5 x6 x7 x8 : Value) : b.grownBy (((((((((b.setCell ⟨s, 0, none⟩ x0).setCell ⟨s, 1, none⟩ x1).setCell ⟨s, 2, none⟩ x2).setCell ⟨s, 3, none⟩ x3).setCell ⟨s, 4, none⟩ x4).setCell ⟨s, 5, none⟩ x5).setCell ⟨s, 6, none⟩ x6).setCell ⟨s, 7, none⟩ x7).setCell ⟨s, 8, none⟩ x8) (some s) :=
  (((((((((grown_set _ s 0 x0).trans (grown_set _ s 1 x1)).trans (grown_set _ s 2 x2)).trans (grown_set _ s 3 x3)).trans (grown_set _ s 4 x4)).trans (grown_set _ s 5 x5)).trans (grown_set _ s 6 x6)).trans (grown_set _ s 7 x7)).trans (grown_set _ s 8 x8))
theorem grown_st9 {a b : World} {s : Nat} (h : a.grownBy b none) (hs : a.heap.size ≤ s) (x0 x1 x2 x3 x4 x5 x6 x7 x8 : Value) : a.grownBy (((((((((b.setCell ⟨s, 0, none⟩ x0).setCell ⟨s, 1, none⟩ x1).setCell ⟨s, 2, none⟩ x2).setCell ⟨s, 3, none⟩ x3).setCell ⟨s, 4, none⟩ x4).setCell ⟨s, 5, none⟩ x5).setCell ⟨s, 6, none⟩ x6).setCell ⟨s, 7, none⟩ x7).setCell ⟨s, 8, none⟩ x8) none :=
  grown_own h (((((((((grown_set _ s 0 x0).trans (grown_set _ s 1 x1)).trans (grown_set _ s 2 x2)).trans (grown_set _ s 3 x3)).trans (grown_set _ s 4 x4)).trans (grown_set _ s 5 x5)).trans (grown_set _ s 6 x6)).trans (grown_set _ s 7 x7)).trans (grown_set _ s 8 x8)) (fun x e => by cases e; exact hs)
end Go.Proofs.YtogpgldbbegniaaGreat
namespace Go.Proofs.YtogpgldbbegniaaGreat
open Go.RowKit

def sameHd (a b : Hd) : Bool := decide (a.nm = b.nm ∧ a.su = b.su ∧ a.kd = b.kd ∧ a.co = b.co ∧ a.po = b.po ∧ a.he = b.he ∧ a.tr = b.tr ∧ a.tk = b.tk)
theorem hd_ext {a b : Hd} (h : sameHd a b = true) : a = b := by
  have := of_decide_eq_true h
  obtain ⟨a0, a1, a2, a3, a4, a5, a6, a7⟩ := a
  obtain ⟨b0, b1, b2, b3, b4, b5, b6, b7⟩ := b
  simp only at this
  simp [this]
theorem sameHd_refl (a : Hd) : sameHd a a = true := by simp [sameHd]
theorem list_no {s t : ByteArray} (h : ¬ s = t) : (s.toList == t.toList) = false := by
  cases hb : (s.toList == t.toList) with
  | false => rfl
  | true => exact absurd (bytes_inj (eq_of_beq hb)) h
theorem beqi_no {a b : Int} (h : ¬ a = b) : (a == b) = false := by simpa using h
theorem beqb_no {a b : Bool} (h : ¬ a = b) : (a == b) = false := by simpa using h
set_option maxRecDepth 100000 in
set_option maxHeartbeats 8000000 in
theorem sameCard_any (a b : Hd) (va vb : Value) (ps qs : List Pt) (w : World) (ha : PsAt w va ps) (hb : PsAt w vb qs) (hm : Small ps.length) : Calls Tryz.prog 30 #[cv a va, cv b vb] w fun e w' => e = .returned (.bool (sameHd a b && samePs ps qs)) ∧ w.grownBy w' none := by
  have HA : Hid (PsAt w va ps) := ha
  have HB : Hid (PsAt w vb qs) := hb
  obtain ⟨x, c, rfl⟩ := ha.form
  obtain ⟨y, d, rfl⟩ := hb.form
  clear ha hb
  obtain ⟨a0, a1, a2, a3, a4, a5, a6, a7⟩ := a
  obtain ⟨b0, b1, b2, b3, b4, b5, b6, b7⟩ := b
  unfold cv
  simp only
  by_cases h0 : a0 = b0
  case neg =>
    have k0 := list_no h0
    have R : (sameHd ⟨a0, a1, a2, a3, a4, a5, a6, a7⟩ ⟨b0, b1, b2, b3, b4, b5, b6, b7⟩ && samePs ps qs) = false := by simp [sameHd, h0]
    rw [R]
    clear R h0 HA HB hm
    go_enter Tryz.func30, Tryz.ntmps30
    go_wp2
    go_ret
    exact ⟨rfl, grown_push (World.grownBy_alloc _ _ none) _⟩
  subst h0
  by_cases h1 : a1 = b1
  case neg =>
    have k1 := beqi_no h1
    have R : (sameHd ⟨a0, a1, a2, a3, a4, a5, a6, a7⟩ ⟨a0, b1, b2, b3, b4, b5, b6, b7⟩ && samePs ps qs) = false := by simp [sameHd, h1]
    rw [R]
    clear R h1 HA HB hm
    go_enter Tryz.func30, Tryz.ntmps30
    go_wp2
    go_ret
    exact ⟨rfl, grown_push (World.grownBy_alloc _ _ none) _⟩
  subst h1
  by_cases h2 : a2 = b2
  case neg =>
    have k2 := beqi_no h2
    have R : (sameHd ⟨a0, a1, a2, a3, a4, a5, a6, a7⟩ ⟨a0, a1, b2, b3, b4, b5, b6, b7⟩ && samePs ps qs) = false := by simp [sameHd, h2]
    rw [R]
    clear R h2 HA HB hm
    go_enter Tryz.func30, Tryz.ntmps30
    go_wp2
    go_ret
    exact ⟨rfl, grown_push (World.grownBy_alloc _ _ none) _⟩
  subst h2
  by_cases h3 : a3 = b3
  case neg =>
    have k3 := beqi_no h3
    have R : (sameHd ⟨a0, a1, a2, a3, a4, a5, a6, a7⟩ ⟨a0, a1, a2, b3, b4, b5, b6, b7⟩ && samePs ps qs) = false := by simp [sameHd, h3]
    rw [R]
    clear R h3 HA HB hm
    go_enter Tryz.func30, Tryz.ntmps30
    go_wp2
    go_ret
    exact ⟨rfl, grown_push (World.grownBy_alloc _ _ none) _⟩
  subst h3
  by_cases h4 : a4 = b4
  case neg =>
    have k4 := beqi_no h4
    have R : (sameHd ⟨a0, a1, a2, a3, a4, a5, a6, a7⟩ ⟨a0, a1, a2, a3, b4, b5, b6, b7⟩ && samePs ps qs) = false := by simp [sameHd, h4]
    rw [R]
    clear R h4 HA HB hm
    go_enter Tryz.func30, Tryz.ntmps30
    go_wp2
    go_ret
    exact ⟨rfl, grown_push (World.grownBy_alloc _ _ none) _⟩
  subst h4
  by_cases h5 : a5 = b5
  case neg =>
    have k5 := beqi_no h5
    have R : (sameHd ⟨a0, a1, a2, a3, a4, a5, a6, a7⟩ ⟨a0, a1, a2, a3, a4, b5, b6, b7⟩ && samePs ps qs) = false := by simp [sameHd, h5]
    rw [R]
    clear R h5 HA HB hm
    go_enter Tryz.func30, Tryz.ntmps30
    go_wp2
    go_ret
    exact ⟨rfl, grown_push (World.grownBy_alloc _ _ none) _⟩
  subst h5
  by_cases h6 : a6 = b6
  case neg =>
    have k6 := beqi_no h6
    have R : (sameHd ⟨a0, a1, a2, a3, a4, a5, a6, a7⟩ ⟨a0, a1, a2, a3, a4, a5, b6, b7⟩ && samePs ps qs) = false := by simp [sameHd, h6]
    rw [R]
    clear R h6 HA HB hm
    go_enter Tryz.func30, Tryz.ntmps30
    go_wp2
    go_ret
    exact ⟨rfl, grown_push (World.grownBy_alloc _ _ none) _⟩
  subst h6
  by_cases h7 : a7 = b7
  case neg =>
    have k7 := beqb_no h7
    have R : (sameHd ⟨a0, a1, a2, a3, a4, a5, a6, a7⟩ ⟨a0, a1, a2, a3, a4, a5, a6, b7⟩ && samePs ps qs) = false := by simp [sameHd, h7]
    rw [R]
    clear R h7 HA HB hm
    go_enter Tryz.func30, Tryz.ntmps30
    go_wp2
    go_ret
    exact ⟨rfl, grown_push (World.grownBy_alloc _ _ none) _⟩
  subst h7
  have R : sameHd ⟨a0, a1, a2, a3, a4, a5, a6, a7⟩ ⟨a0, a1, a2, a3, a4, a5, a6, a7⟩ = true := sameHd_refl _
  rw [R, Bool.true_and]
  clear R
  go_enter Tryz.func30, Tryz.ntmps30
  go_wp2_with (first | (go_at_call 84; refine (sameParts_any _ _ ps qs _ (HA.out.keep (grown_push (World.grownBy_alloc _ _ none) _)) (HB.out.keep (grown_push (World.grownBy_alloc _ _ none) _)) hm).mono ?_; rintro e w1 ⟨rfl, g1⟩) | fail)
  go_ret
  exact ⟨rfl, grown_trans (grown_push (World.grownBy_alloc _ _ none) _) g1⟩
end Go.Proofs.YtogpgldbbegniaaGreat
namespace Go.Proofs.YtogpgldbbegniaaGreat
open Go.RowKit

def sB (k : Int) : Bool := decide (1 ≤ k) && decide (k ≤ 6)
def wI (n m : Int) : Bool := decide (0 ≤ n) && decide (n ≤ m)
def kName (k : Int) : ByteArray := if k = 1 then ⟨#[117, 110, 105, 116]⟩ else if k = 2 then ⟨#[115, 112, 101, 108, 108]⟩ else if k = 3 then ⟨#[114, 101, 108, 105, 99]⟩ else ⟨#[]⟩
theorem csuit_any (k : Int) (w : World) : Calls Tryz.prog 139 #[.int .u8 k] w fun e w' => e = .returned (.bool (sB k)) ∧ w' = w := by
  by_cases h : 1 ≤ k
  · have h' : (1 : Int) ≤ k := h
    have e : sB k = decide (k ≤ 6) := by simp [sB, h]
    rw [e]
    clear e
    go_enter Tryz.func139, Tryz.ntmps139
    go_wp2
    go_ret
    exact ⟨rfl, rfl⟩
  · have e : sB k = false := by simp [sB, h]
    rw [e]
    clear e
    go_enter Tryz.func139, Tryz.ntmps139
    go_wp2
    go_ret
    exact ⟨rfl, rfl⟩
theorem cwithin_any (n m : Int) (w : World) : Calls Tryz.prog 141 #[.int .i64 n, .int .i64 m] w fun e w' => e = .returned (.bool (wI n m)) ∧ w' = w := by
  by_cases h : 0 ≤ n
  · have e : wI n m = decide (n ≤ m) := by simp [wI, h]
    rw [e]
    clear e
    go_enter Tryz.func141, Tryz.ntmps141
    go_wp2
    go_ret
    exact ⟨rfl, rfl⟩
  · have e : wI n m = false := by simp [wI, h]
    rw [e]
    clear e
    go_enter Tryz.func141, Tryz.ntmps141
    go_wp2
    go_ret
    exact ⟨rfl, rfl⟩
theorem kword_any (k : Int) (w : World) : Calls Tryz.prog 140 #[.int .u8 k] w fun e w' => e = .returned (.string (kName k)) ∧ w' = w := by
  by_cases h1 : k = 1
  · subst h1
    go_enter Tryz.func140, Tryz.ntmps140
    go_wp2
    go_ret
    exact ⟨rfl, rfl⟩
  by_cases h2 : k = 2
  · subst h2
    go_enter Tryz.func140, Tryz.ntmps140
    go_wp2
    go_ret
    exact ⟨rfl, rfl⟩
  by_cases h3 : k = 3
  · subst h3
    go_enter Tryz.func140, Tryz.ntmps140
    go_wp2
    go_ret
    exact ⟨rfl, rfl⟩
  have e : kName k = ⟨#[]⟩ := by simp [kName, h1, h2, h3]
  have k1 := beqi_no h1
  have k2 := beqi_no h2
  have k3 := beqi_no h3
  rw [e]
  clear e h1 h2 h3
  go_enter Tryz.func140, Tryz.ntmps140
  go_wp2
  go_ret
  exact ⟨rfl, rfl⟩
theorem tcheck_any (s : Int) (w : World) : Calls Tryz.prog 143 #[.int .u16 s] w fun e w' => e = .returned (.bool (tCheck s)) ∧ w' = w := by
  unfold tCheck
  go_enter Tryz.func143, Tryz.ntmps143
  go_wp2
  go_ret
  exact ⟨rfl, rfl⟩
theorem mayH_any (kd wn : Int) (w : World) : Calls Tryz.prog 162 #[.int .u8 kd, .int .u8 wn] w fun e w' => e = .returned (.bool (mayH kd wn)) ∧ w' = w := by
  by_cases h2 : kd = 2
  · subst h2
    have e : mayH 2 wn = (wn == 1) := by simp [mayH]; by_cases h : wn = 1 <;> simp [h]
    rw [e]
    clear e
    go_enter Tryz.func162, Tryz.ntmps162
    go_wp2
    go_ret
    exact ⟨rfl, rfl⟩
  by_cases h3 : kd = 3
  · subst h3
    have e : mayH 3 wn = (wn != 4) := by simp [mayH]; by_cases h : wn = 4 <;> simp [h]
    rw [e]
    clear e h2
    go_enter Tryz.func162, Tryz.ntmps162
    go_wp2
    go_ret
    exact ⟨rfl, rfl⟩
  have e : mayH kd wn = true := by simp [mayH, h2, h3]
  have k2 := beqi_no h2
  have k3 := beqi_no h3
  rw [e]
  clear e h2 h3
  go_enter Tryz.func162, Tryz.ntmps162
  go_wp2
  go_ret
  exact ⟨rfl, rfl⟩
/-- A card out of its head and its parts, and back. -/
def Hd.with (h : Hd) (ps : List Pt) : Cd := ⟨h.nm, h.su, h.kd, h.co, h.po, h.he, h.tr, h.tk, ps⟩
def Cd.hd (c : Cd) : Hd := ⟨c.nm, c.su, c.kd, c.co, c.po, c.he, c.tr, c.tk⟩
theorem hd_with (h : Hd) (ps : List Pt) : (h.with ps).hd = h := rfl
def fOk (kd po he : Int) : Bool := if kd = 1 then he != 0 else (po == 0) && (he == 0)
theorem fOk_is (c : Cd) : forceOk c = fOk c.kd c.po c.he := by
  unfold forceOk fOk
  by_cases h : c.kd = 1
  · rw [if_pos h, if_pos h]
    by_cases k : c.he = 0 <;> simp [k]
  · rw [if_neg h, if_neg h]
    by_cases k : c.he = 0 <;> by_cases j : c.po = 0 <;> simp [k, j]
set_option maxRecDepth 100000 in
set_option maxHeartbeats 2000000 in
theorem force_any (h : Hd) (v : Value) (w : World) : Calls Tryz.prog 142 #[cv h v] w fun e w' => e = .returned (.bool (fOk h.kd h.po h.he)) ∧ w.grownBy w' none := by
  obtain ⟨nm, su, kd, co, po, he, tr, tk⟩ := h
  unfold cv
  simp only
  by_cases h1 : kd = 1
  · subst h1
    simp only [fOk, if_true]
    go_enter Tryz.func142, Tryz.ntmps142
    go_wp2
    go_ret
    exact ⟨rfl, World.grownBy_alloc _ _ none⟩
  · have k1 := beqi_no h1
    simp only [fOk, if_neg h1]
    clear h1
    by_cases h2 : po = 0
    · subst h2
      simp only [beq_self_eq_true, Bool.true_and]
      go_enter Tryz.func142, Tryz.ntmps142
      go_wp2
      go_ret
      exact ⟨rfl, World.grownBy_alloc _ _ none⟩
    · have k2 := beqi_no h2
      rw [k2, Bool.false_and]
      go_enter Tryz.func142, Tryz.ntmps142
      go_wp2
      go_ret
      exact ⟨rfl, World.grownBy_alloc _ _ none⟩
theorem chkPs_cons {kd : Int} {ps : List Pt} {k : Nat} {p : Pt} (h : ps[k]? = some p) : chkPs kd (ps.drop k) = if ¬ chk p = 0 then chk p else if mayH kd p.wn = false then 8 else chkPs kd (ps.drop (k + 1)) := by
  obtain ⟨hk, e⟩ := List.getElem?_eq_some_iff.1 h
  rw [List.drop_eq_getElem_cons hk, e]
  rfl
def ResIs (kd : Int) (ps : List Pt) (k : Nat) (r : Int) : Prop := chkPs kd (ps.drop k) = r
set_option maxRecDepth 100000 in
set_option maxHeartbeats 4000000 in
theorem checkParts_any (h : Hd) (v : Value) (ps : List Pt) (w : World) (hp : PsAt w v ps) (hm : Small ps.length) : Calls Tryz.prog 144 #[cv h v] w fun e w' => e = .returned (.int .i64 (chkPs h.kd ps)) ∧ w.grownBy w' none := by
  obtain ⟨nm, su, kd, co, po, he, tr, tk⟩ := h
  by_cases h0 : ps.length = 0
  · obtain rfl := List.eq_nil_of_length_eq_zero h0
    obtain ⟨a, c, rfl⟩ := hp.form
    clear hp hm h0
    unfold cv
    simp only [List.length_nil, chkPs]
    go_enter Tryz.func144, Tryz.ntmps144
    go_wp2_with fail
    go_loopw [9] (fun i wr => i = .int .i64 0 ∧ w.grownBy wr none) (fun i _ => 0)
    case atStart => exact ⟨rfl, World.grownBy_alloc _ _ none⟩
    case round =>
      obtain ⟨rfl, G⟩ := hrel
      go_wp2
      go_ret
      exact ⟨rfl, G⟩
  · obtain ⟨g, o, c, rfl, PA⟩ := hp.part (by omega)
    have HA : Hid (∀ j p, ps[j]? = some p → P8 w g (o + j * 8) p) := PA
    have HR : Hid (ResIs kd ps 0 (chkPs kd ps)) := rfl
    obtain ⟨res, hres⟩ : ∃ res, chkPs kd ps = res := ⟨_, rfl⟩
    have HR : Hid (ResIs kd ps 0 res) := hres
    simp only
    rw [hres]
    clear hp PA h0 hres
    unfold cv
    simp only
    go_enter Tryz.func144, Tryz.ntmps144
    go_wp2_with fail
    go_loopw [9] (fun i wr => ∃ k : Nat, k ≤ ps.length ∧ i = .int .i64 k ∧ ResIs kd ps k res ∧ CAt wr w.heap.size ⟨nm, su, kd, co, po, he, tr, tk⟩ (.slice (some ⟨g, o, none⟩) ps.length c) ∧ w.grownBy wr none) (fun i _ => ps.length - (intOf i).toNat)
    case atStart => exact ⟨0, Nat.zero_le _, rfl, HR.out, alloc_at w (ccs ⟨nm, su, kd, co, po, he, tr, tk⟩ _) 69, World.grownBy_alloc _ _ none⟩
    case round =>
      obtain ⟨k, hk, rfl, R, C, G⟩ := hrel
      have HG : Hid (w.grownBy wr none) := G
      have HC : Hid (CAt wr w.heap.size ⟨nm, su, kd, co, po, he, tr, tk⟩ (.slice (some ⟨g, o, none⟩) ps.length c)) := C
      have HQ : Hid (ResIs kd ps k res) := R
      clear G C R HR
      rcases (show k = ps.length ∨ k < ps.length from by omega) with rfl | hlt
      · have e : (0 : Int) = res := by
          have := HQ.out
          unfold ResIs at this
          rw [List.drop_length] at this
          exact this
        clear HQ HC hk hm
        subst e
        go_wp2
        go_ret
        exact ⟨rfl, HG.out⟩
      · have hlt' : (k : Int) < (ps.length : Int) := by omega
        have hk0 : (0 : Int) ≤ (k : Int) := by omega
        have hw := hm.wrap hlt
        obtain ⟨p, hp⟩ : ∃ p, ps[k]? = some p := ⟨_, List.getElem?_eq_getElem hlt⟩
        obtain ⟨c0, c1, c2, c3, c4, c5, c6, c7⟩ := (HA.out k p hp).keep HG.out
        have HP : Hid (chkPs kd (ps.drop k) = if ¬ chk p = 0 then chk p else if mayH kd p.wn = false then 8 else chkPs kd (ps.drop (k + 1))) := chkPs_cons hp
        clear hp
        by_cases hz : chk p = 0
        case neg =>
          have hz' : (chk p == 0) = false := beqi_no hz
          have e : chk p = res := by
            have := HP.out
            rw [if_pos hz] at this
            rw [← this]
            exact HQ.out
          clear HP HQ hz
          subst e
          obtain ⟨p0, p1, p2, p3, p4, p5, p6, p7⟩ := p
          simp only at c0 c1 c2 c3 c4 c5 c6 c7
          go_wp2_with (first | (go_at_call 161; refine (check_any ⟨p0, p1, p2, p3, p4, p5, p6, p7⟩ _).mono ?_; rintro e w1 ⟨rfl, g1⟩) | fail)
          go_ret
          exact ⟨rfl, grown_trans HG.out (grown_trans (World.grownBy_alloc _ _ none) g1)⟩
        cases hy : mayH kd p.wn with
        | false =>
          have e : (8 : Int) = res := by
            have := HP.out
            rw [if_neg (by simpa using hz), if_pos hy] at this
            rw [← this]
            exact HQ.out
          clear HP HQ
          subst e
          obtain ⟨p0, p1, p2, p3, p4, p5, p6, p7⟩ := p
          simp only at c0 c1 c2 c3 c4 c5 c6 c7 hy
          go_wp2_with (first | (go_at_call 161; refine (check_any ⟨p0, p1, p2, p3, p4, p5, p6, p7⟩ _).mono ?_; rintro e w1 ⟨rfl, g1⟩; rw [hz]; have k2 := block_cell (grown_keep g1 (HC.out.keep (World.grownBy_alloc _ _ none)) (by simp)) 2; have k0 := (PAt.new wr ⟨p0, p1, p2, p3, p4, p5, p6, p7⟩).keep g1; have k0 := block_cell k0 0; simp only [ccs, List.getElem?_toArray, List.getElem?_cons_zero, List.getElem?_cons_succ] at k2 k0) | (go_at_call 162; refine (mayH_any kd p0 _).mono ?_; rintro e w2 ⟨rfl, rfl⟩; rw [hy]) | fail)
          go_ret
          exact ⟨rfl, grown_trans HG.out (grown_trans (World.grownBy_alloc _ _ none) g1)⟩
        | true =>
          have HN : Hid (ResIs kd ps (k + 1) res) := by
            have := HP.out
            rw [if_neg (by simpa using hz), if_neg (by rw [hy]; simp)] at this
            unfold Hid ResIs
            rw [← this]
            exact HQ.out
          clear HP HQ
          obtain ⟨p0, p1, p2, p3, p4, p5, p6, p7⟩ := p
          simp only at c0 c1 c2 c3 c4 c5 c6 c7 hy
          go_wp2_with (first | (go_at_call 161; refine (check_any ⟨p0, p1, p2, p3, p4, p5, p6, p7⟩ _).mono ?_; rintro e w1 ⟨rfl, g1⟩; rw [hz]; have C1 : Hid (CAt w1 w.heap.size ⟨nm, su, kd, co, po, he, tr, tk⟩ (.slice (some ⟨g, o, none⟩) ps.length c)) := (HC.out.keep (World.grownBy_alloc _ _ none)).keep g1; have k2 := block_cell C1.out 2; have k0 := (PAt.new wr ⟨p0, p1, p2, p3, p4, p5, p6, p7⟩).keep g1; have k0 := block_cell k0 0; simp only [ccs, List.getElem?_toArray, List.getElem?_cons_zero, List.getElem?_cons_succ] at k2 k0) | (go_at_call 162; refine (mayH_any kd p0 _).mono ?_; rintro e w2 ⟨rfl, h9⟩; obtain rfl : w1 = w2 := h9.symm; rw [hy]) | fail)
          go_roundw
          case rel => exact ⟨k + 1, hlt, by go_num, HN.out, C1.out, grown_trans HG.out (grown_trans (World.grownBy_alloc _ _ none) g1)⟩
          case measure => rw [hw]; exact meas_next hlt
end Go.Proofs.YtogpgldbbegniaaGreat
