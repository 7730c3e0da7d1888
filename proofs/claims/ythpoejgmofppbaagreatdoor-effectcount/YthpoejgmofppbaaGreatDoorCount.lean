/-
  EffectCount, walked: of the parts within reach just 1,383 may be.
-/
import Derived.Test.YthpoejgmofppbaaGreatDoorLives
namespace Go.Proofs.YthpoejgmofppbaaGreatDoor
open Go.RowKit

/-- What of Check does not hang on Suit, Trait and Mark. -/
def okB (p : Pt) : Bool := decide (¬ (wnt p.wn = 0 ∨ cls p.vb = 0 ∨ isW p.wm = false)) && (decide (¬ (¬ cls p.vb = wnt p.wn ∨ (p.vb = 11 ∧ p.wm = 9))) && (abt p.wn p.vb p.wm && (cfit p.vb p.ct && nfit p)))
def with3 (p : Pt) (s t k : Nat) : Pt := { p with su := s, tr := t, mr := k }
theorem chk_with (p : Pt) (s t k : Nat) : decide (chk (with3 p s t k) = 0) = (okB p && (fitU (uS p.vb p.wm) s 6 && (fitU (uT p.vb p.wm) t 8 && fitU (uM p.vb) k 4))) := by
  have e : kfit (with3 p s t k) = (fitU (uS p.vb p.wm) s 6 && (fitU (uT p.vb p.wm) t 8 && fitU (uM p.vb) k 4)) := rfl
  rw [← e]
  have e2 : nfit (with3 p s t k) = nfit p := rfl
  have e3 : chk (with3 p s t k) = if wnt p.wn = 0 ∨ cls p.vb = 0 ∨ isW p.wm = false then 2
    else if ¬ cls p.vb = wnt p.wn ∨ (p.vb = 11 ∧ p.wm = 9) then 8
    else if abt p.wn p.vb p.wm = false then 13
    else if cfit p.vb p.ct = false ∨ kfit (with3 p s t k) = false then 2
    else if nfit (with3 p s t k) = false then 4
    else 0 := rfl
  rw [e3, e2]
  unfold okB
  by_cases h1 : wnt p.wn = 0 ∨ cls p.vb = 0 ∨ isW p.wm = false
  · rw [if_pos h1, decide_eq_false (not_not_intro h1)]; rfl
  · rw [if_neg h1, decide_eq_true h1]
    by_cases h2 : ¬ cls p.vb = wnt p.wn ∨ (p.vb = 11 ∧ p.wm = 9)
    · rw [if_pos h2, decide_eq_false (not_not_intro h2)]; rfl
    · rw [if_neg h2, decide_eq_true h2]
      cases abt p.wn p.vb p.wm <;> cases cfit p.vb p.ct <;> cases kfit (with3 p s t k) <;> cases nfit p <;> rfl
/-- How many of the first n numbers have a mark. -/
def cnt (f : Nat → Nat) : Nat → Nat
  | 0 => 0
  | n + 1 => cnt f n + f n
def one (b : Bool) : Nat := if b then 1 else 0
def okN (p : Pt) (s t k : Nat) : Nat := one (decide (chk (with3 p s t k) = 0))
def cK (p : Pt) (s t k : Nat) : Nat := cnt (okN p s t) k
def cT (p : Pt) (s t : Nat) : Nat := cnt (fun t => cK p s t 6) t
def cS (p : Pt) (s : Nat) : Nat := cnt (fun s => cT p s 10) s
/-- .. by the flags alone. -/
def flat (o a b c : Bool) : Nat := if o then (if a then 6 else 1) * (if b then 8 else 1) * (if c then 4 else 1) else 0
theorem flat_is : ∀ o a b c : Bool, cnt (fun s => cnt (fun t => cnt (fun k => one (o && (fitU a (s : Nat) 6 && (fitU b (t : Nat) 8 && fitU c (k : Nat) 4)))) 6) 10) 8 = flat o a b c := by decide +kernel
theorem cS_flat (p : Pt) : cS p 8 = flat (okB p) (uS p.vb p.wm) (uT p.vb p.wm) (uM p.vb) := by
  rw [← flat_is]
  unfold cS cT cK okN
  simp only [chk_with]
theorem cnt_le (f : Nat → Nat) (m : Nat) (h : ∀ k, f k ≤ m) : ∀ n, cnt f n ≤ n * m
  | 0 => by simp [cnt]
  | n + 1 => by
    have := cnt_le f m h n
    have := h n
    simp only [cnt, Nat.add_mul]
    omega
theorem one_le (b : Bool) : one b ≤ 1 := by cases b <;> decide
theorem cK_le (p : Pt) (s t k : Nat) : cK p s t k ≤ k := by have := cnt_le (okN p s t) 1 (fun _ => one_le _) k; unfold cK; omega
theorem cT_le (p : Pt) (s t : Nat) : cT p s t ≤ t * 6 := cnt_le _ 6 (fun _ => cK_le _ _ _ _) t
theorem cS_le (p : Pt) (s : Nat) : cS p s ≤ s * 60 := cnt_le _ 60 (fun _ => by have := cT_le p; exact Nat.le_trans (this _ 10) (by omega)) s
/-- The part's box, whatever its Suit, Trait and Mark. -/
def BoxAt (w : World) (q : Nat) (p : Pt) : Prop := ∃ su tr mr : Int, PAt w q { p with su := su, tr := tr, mr := mr }
set_option maxHeartbeats 8000000 in
set_option maxRecDepth 100000 in
theorem fields_any (p : Pt) (w : World) : Calls Tryz.prog 16 #[pv p] w fun e w' => e = .returned (.int .i64 (cS p 8 : Nat)) ∧ w.grownBy w' none := by
  have A0 := PAt.new w p
  have G0 := World.grownBy_alloc w (.cells #[.int .u8 p.wn, .int .u8 p.vb, .int .u8 p.wm, .int .i64 p.ct, .int .u8 p.su, .int .u8 p.tr, .int .u8 p.mr, .string p.nm] 30) none
  unfold pv
  go_enter Tryz.func16, Tryz.ntmps16
  go_wp2_with fail
  go_loopw [3, 4] (fun tn ts wr => ∃ s : Nat, s ≤ 8 ∧ ts = .int .i64 s ∧ tn = .int .i64 (cS p s : Nat) ∧ BoxAt wr w.heap.size p ∧ w.grownBy wr none) (fun _ ts _ => 8 - (intOf ts).toNat)
  case atStart => exact ⟨0, by omega, rfl, rfl, ⟨p.su, p.tr, p.mr, A0⟩, G0⟩
  case round =>
    obtain ⟨s, hs, rfl, rfl, B, G⟩ := hrel
    clear A0 G0
    by_cases hs8 : s < 8
    · have hs8' : (s : Int) < 8 := by omega
      have hsl := cS_le p s
      obtain ⟨n0, hn0⟩ : ∃ n0, n0 = cS p s := ⟨_, rfl⟩
      have HN0 : Hid (n0 = cS p s) := hn0
      rw [← hn0] at hsl ⊢
      clear hn0
      obtain ⟨wz, hwz⟩ : ∃ wz, wz = wr := ⟨_, rfl⟩
      rw [← hwz] at B G ⊢
      clear hwz
      go_wp2_with fail
      go_loopw [3, 5] (fun tn tt wr => ∃ t : Nat, t ≤ 10 ∧ tt = .int .i64 t ∧ tn = .int .i64 (n0 + cT p s t : Nat) ∧ BoxAt wr w.heap.size p ∧ w.grownBy wr none) (fun _ tt _ => 10 - (intOf tt).toNat)
      case atStart => exact ⟨0, by omega, rfl, rfl, B, G⟩
      case round =>
        obtain ⟨t, ht, rfl, rfl, B, G⟩ := hrel
        by_cases ht10 : t < 10
        · have ht10' : (t : Int) < 10 := by omega
          have htl := cT_le p s t
          obtain ⟨n1, hn1⟩ : ∃ n1, n1 = n0 + cT p s t := ⟨_, rfl⟩
          have HN1 : Hid (n1 = n0 + cT p s t) := hn1
          have hn1l : n1 ≤ 480 + 60 := by omega
          rw [← hn1]
          clear hn1
          obtain ⟨wy, hwy⟩ : ∃ wy, wy = wr := ⟨_, rfl⟩
          rw [← hwy] at B G ⊢
          clear hwy
          go_wp2_with fail
          go_loopw [3, 6] (fun tn tk wr => ∃ k : Nat, k ≤ 6 ∧ tk = .int .i64 k ∧ tn = .int .i64 (n1 + cK p s t k : Nat) ∧ BoxAt wr w.heap.size p ∧ w.grownBy wr none) (fun _ tk _ => 6 - (intOf tk).toNat)
          case atStart => exact ⟨0, by omega, rfl, rfl, B, G⟩
          case round =>
            obtain ⟨k, hk, rfl, rfl, B, G⟩ := hrel
            by_cases hk6 : k < 6
            · have hk6' : (k : Int) < 6 := by omega
              have hkl := cK_le p s t k
              obtain ⟨su, tr, mr, A⟩ := B
              obtain ⟨n2, hn2⟩ : ∃ n2, n2 = n1 + cK p s t k := ⟨_, rfl⟩
              have HN2 : Hid (n2 = n1 + cK p s t k) := hn2
              have hn2l : n2 ≤ 1000 := by omega
              have w2 : wrap64 ((n2 : Int) + 1) = (n2 : Int) + 1 := by unfold wrap64; omega
              rw [← hn2]
              clear hn2
              have u0 := wrap_u8 (k := s) (by omega)
              have u1 := wrap_u8 (k := t) (by omega)
              have u2 := wrap_u8 (k := k) (by omega)
              obtain ⟨c0, c1, c2, c3, c4, c5, c6, c7⟩ := A.cells
              simp only at c0 c1 c2 c3 c4 c5 c6 c7
              have cf : ∀ i, wr.frozen? ⟨w.heap.size, i, none⟩ = false := block_free A
              have A3 : PAt (((wr.setCell ⟨w.heap.size, 4, none⟩ (.int .u8 s)).setCell ⟨w.heap.size, 5, none⟩ (.int .u8 t)).setCell ⟨w.heap.size, 6, none⟩ (.int .u8 k)) w.heap.size (with3 p s t k) := ((A.su s).tr t).mr k
              have G3 : w.grownBy (((wr.setCell ⟨w.heap.size, 4, none⟩ (.int .u8 s)).setCell ⟨w.heap.size, 5, none⟩ (.int .u8 t)).setCell ⟨w.heap.size, 6, none⟩ (.int .u8 k)) none := grown_own (r := some w.heap.size) G (grown_trans (grown_trans (grown_set _ _ _ _) (grown_set _ _ _ _)) (grown_set _ _ _ _)) (fun _ e => by cases e; exact Nat.le_refl _)
              have HC : Hid (∀ W, Calls Tryz.prog 10 #[.agg #[.int .u8 p.wn, .int .u8 p.vb, .int .u8 p.wm, .int .i64 p.ct, .int .u8 s, .int .u8 t, .int .u8 k, .string p.nm]] W fun e w' => e = .returned (.int .i64 (chk (with3 p s t k))) ∧ W.grownBy w' none) := fun W => check_any (with3 p s t k) W
              have HA3 : Hid _ := A3
              have HG3 : Hid _ := G3
              clear A A3 G3 G HN0 HN1
              go_wp2_with fail
              refine (HC.out _).mono ?_
              rintro e w5 ⟨rfl, g5⟩
              have A5 : Hid (PAt w5 w.heap.size (with3 p s t k)) := PAt.keep (p := with3 p s t k) HA3.out g5
              have G5 : Hid (w.grownBy w5 none) := grown_trans HG3.out g5
              clear c0 c1 c2 c3 c4 c5 c6 c7 cf HC HA3 HG3 g5
              by_cases hz : chk (with3 p s t k) = 0
              · have hs1 : Hid (cK p s t (k + 1) = cK p s t k + 1) := by
                  show cnt _ _ = _
                  simp [cnt, cK, okN, one, hz]
                rw [hz]
                clear hz
                go_wp2
                go_roundw
                case rel => exact ⟨k + 1, by omega, by go_num, by rw [hs1.out, ← Nat.add_assoc, ← HN2.out]; go_num, ⟨_, _, _, A5.out⟩, G5.out⟩
                case measure => simp [intOf]; omega
              · have hs1 : Hid (cK p s t (k + 1) = cK p s t k) := by
                  show cnt _ _ = _
                  simp [cnt, cK, okN, one, hz]
                have hzb : (chk (with3 p s t k) == 0) = false := by simpa using hz
                obtain ⟨c, hc⟩ : ∃ c, c = chk (with3 p s t k) := ⟨_, rfl⟩
                rw [← hc] at hzb ⊢
                clear hz hc
                go_wp2
                go_roundw
                case rel => exact ⟨k + 1, by omega, by go_num, by rw [hs1.out, ← HN2.out], ⟨_, _, _, A5.out⟩, G5.out⟩
                case measure => simp [intOf]; omega
            · have hke : k = 6 := by omega
              subst hke
              have hs1 : Hid (n0 + cT p s (t + 1) = n1 + cK p s t 6) := by
                show _ = _
                rw [HN1.out]
                show n0 + (cT p s t + cK p s t 6) = _
                omega
              have HB : Hid (BoxAt wr w.heap.size p) := B
              have HG : Hid (w.grownBy wr none) := G
              clear B G HN0 HN1
              go_wp2
              go_roundw
              case rel => exact ⟨t + 1, by omega, by go_num, by rw [hs1.out], HB.out, HG.out⟩
              case measure => simp [intOf]; omega
        · have hte : t = 10 := by omega
          subst hte
          have hs1 : Hid (cS p (s + 1) = n0 + cT p s 10) := by
            show _ = _
            rw [HN0.out]
            rfl
          have HB : Hid (BoxAt wr w.heap.size p) := B
          have HG : Hid (w.grownBy wr none) := G
          clear B G HN0
          go_wp2
          go_roundw
          case rel => exact ⟨s + 1, by omega, by go_num, by rw [hs1.out], HB.out, HG.out⟩
          case measure => simp [intOf]; omega
    · have hse : s = 8 := by omega
      subst hse
      have HG : Hid (w.grownBy wr none) := G
      clear B G
      go_wp2
      go_ret
      exact ⟨rfl, HG.out⟩
/-- The part that the law makes of three numbers. -/
def part3 (w v m : Nat) : Pt := ⟨w, v, m, if uC v then 1 else 0, 0, 0, 0, if uN v then ⟨#[97]⟩ else ⟨#[]⟩⟩
def fl3 (w v m : Nat) : Nat := flat (okB (part3 w v m)) (uS v m) (uT v m) (uM v)
theorem cS_fl3 (w v m : Nat) : cS (part3 w v m) 8 = fl3 w v m := cS_flat _
def tM (w v m : Nat) : Nat := cnt (fun m => fl3 w v m) m
def tV (w v : Nat) : Nat := cnt (fun v => tM w v 12) v
def tW (w : Nat) : Nat := cnt (fun w => tV w 21) w
theorem tot : tW 8 = 1383 := by decide +kernel
theorem fl3_le (w v m : Nat) : fl3 w v m ≤ 192 := by
  unfold fl3 flat
  cases okB (part3 w v m) <;> cases uS (v : Int) (m : Int) <;> cases uT (v : Int) (m : Int) <;> cases uM (v : Int) <;> decide
theorem tM_le (w v m : Nat) : tM w v m ≤ m * 192 := cnt_le _ 192 (fun _ => fl3_le _ _ _) m
theorem tV_le (w v : Nat) : tV w v ≤ v * 2304 := cnt_le _ 2304 (fun _ => Nat.le_trans (tM_le _ _ 12) (by omega)) v
theorem tW_le (w : Nat) : tW w ≤ w * 48384 := cnt_le _ 48384 (fun _ => Nat.le_trans (tV_le _ 21) (by omega)) w
set_option maxHeartbeats 8000000 in
set_option maxRecDepth 100000 in
theorem count_any (w : World) (L : LaidAt w) : Calls Tryz.prog 4 #[] w fun e w' => e = .returned (.bool true) ∧ w.grownBy w' none := by
  have HL : Hid (LaidAt w) := L
  clear L
  go_enter Tryz.func4, Tryz.ntmps4
  go_wp2_with fail
  go_loopw [1, 2] (fun tn tw wr => ∃ a : Nat, a ≤ 8 ∧ tw = .int .i64 a ∧ tn = .int .i64 (tW a : Nat) ∧ w.grownBy wr none) (fun _ tw _ => 8 - (intOf tw).toNat)
  case atStart => exact ⟨0, by omega, rfl, rfl, grown_refl _ _⟩
  case round =>
    obtain ⟨a, ha, rfl, rfl, G⟩ := hrel
    by_cases ha8 : a < 8
    · have ha8' : (a : Int) < 8 := by omega
      have hal := tW_le a
      obtain ⟨n0, hn0⟩ : ∃ n0, n0 = tW a := ⟨_, rfl⟩
      have HN0 : Hid (n0 = tW a) := hn0
      rw [← hn0] at hal ⊢
      clear hn0
      obtain ⟨wz, hwz⟩ : ∃ wz, wz = wr := ⟨_, rfl⟩
      rw [← hwz] at G ⊢
      clear hwz
      go_wp2_with fail
      go_loopw [1, 3] (fun tn tv wr => ∃ v : Nat, v ≤ 21 ∧ tv = .int .i64 v ∧ tn = .int .i64 (n0 + tV a v : Nat) ∧ w.grownBy wr none) (fun _ tv _ => 21 - (intOf tv).toNat)
      case atStart => exact ⟨0, by omega, rfl, rfl, G⟩
      case round =>
        obtain ⟨v, hv, rfl, rfl, G⟩ := hrel
        by_cases hv21 : v < 21
        · have hv21' : (v : Int) < 21 := by omega
          have hvl := tV_le a v
          obtain ⟨n1, hn1⟩ : ∃ n1, n1 = n0 + tV a v := ⟨_, rfl⟩
          have HN1 : Hid (n1 = n0 + tV a v) := hn1
          have hn1l : n1 ≤ 500000 := by omega
          rw [← hn1]
          clear hn1
          obtain ⟨wy, hwy⟩ : ∃ wy, wy = wr := ⟨_, rfl⟩
          rw [← hwy] at G ⊢
          clear hwy
          go_wp2_with fail
          go_loopw [1, 4] (fun tn tm wr => ∃ m : Nat, m ≤ 12 ∧ tm = .int .i64 m ∧ tn = .int .i64 (n1 + tM a v m : Nat) ∧ w.grownBy wr none) (fun _ tm _ => 12 - (intOf tm).toNat)
          case atStart => exact ⟨0, by omega, rfl, rfl, G⟩
          case round =>
            obtain ⟨m, hm, rfl, rfl, G⟩ := hrel
            by_cases hm12 : m < 12
            · have hm12' : (m : Int) < 12 := by omega
              have hml := tM_le a v m
              have hfl := fl3_le a v m
              obtain ⟨n2, hn2⟩ : ∃ n2, n2 = n1 + tM a v m := ⟨_, rfl⟩
              have HN2 : Hid (n2 = n1 + tM a v m) := hn2
              have hn2l : n2 ≤ 600000 := by omega
              rw [← hn2]
              clear hn2
              have u0 := wrap_u8 (k := a) (by omega)
              have u1 := wrap_u8 (k := v) (by omega)
              have u2 := wrap_u8 (k := m) (by omega)
              have HS : Hid (tM a v (m + 1) = tM a v m + fl3 a v m) := rfl
              have HG : Hid (w.grownBy wr none) := G
              clear G HN0 HN1
              have HF : Hid (∀ W, Calls Tryz.prog 16 #[pv (part3 a v m)] W fun e w' => e = .returned (.int .i64 (fl3 a v m : Nat)) ∧ W.grownBy w' none) := fun W => by
                rw [← cS_fl3]
                exact fields_any (part3 a v m) W
              obtain ⟨f, hf⟩ : ∃ f, f = fl3 a v m := ⟨_, rfl⟩
              rw [← hf] at HF HS hfl
              have w2 : wrap64 ((n2 : Int) + (f : Int)) = (n2 : Int) + (f : Int) := by unfold wrap64; omega
              clear hf hml hfl hn2l hn1l hal hvl
              cases hC : uC v with
              | true =>
                cases hN : uN v with
                | true =>
                  unfold part3 at HF
                  rw [hC, hN] at HF
                  simp only [if_true, pv] at HF
                  go_wp2_with (first | (go_at_call 15; refine (uses_any _ _ _).mono ?_; rintro e w1 ⟨rfl, hw⟩; rw [hw]; simp only [usesV, hC, hN]) | fail)
                  refine (HF.out _).mono ?_
                  rintro e w5 ⟨rfl, g5⟩
                  have G5 : Hid (w.grownBy w5 none) := grown_trans (grown_push HG.out _) g5
                  clear g5 HF
                  go_wp2
                  go_roundw
                  case rel => exact ⟨m + 1, by omega, by go_num, by rw [HS.out, ← Nat.add_assoc, ← HN2.out]; go_num, G5.out⟩
                  case measure => simp [intOf]; omega
                | false =>
                  unfold part3 at HF
                  rw [hC, hN] at HF
                  simp only [if_true, Bool.false_eq_true, if_false, pv] at HF
                  go_wp2_with (first | (go_at_call 15; refine (uses_any _ _ _).mono ?_; rintro e w1 ⟨rfl, hw⟩; rw [hw]; simp only [usesV, hC, hN]) | fail)
                  refine (HF.out _).mono ?_
                  rintro e w5 ⟨rfl, g5⟩
                  have G5 : Hid (w.grownBy w5 none) := grown_trans (grown_push HG.out _) g5
                  clear g5 HF
                  go_wp2
                  go_roundw
                  case rel => exact ⟨m + 1, by omega, by go_num, by rw [HS.out, ← Nat.add_assoc, ← HN2.out]; go_num, G5.out⟩
                  case measure => simp [intOf]; omega
              | false =>
                cases hN : uN v with
                | true =>
                  unfold part3 at HF
                  rw [hC, hN] at HF
                  simp only [if_true, Bool.false_eq_true, if_false, pv] at HF
                  go_wp2_with (first | (go_at_call 15; refine (uses_any _ _ _).mono ?_; rintro e w1 ⟨rfl, hw⟩; rw [hw]; simp only [usesV, hC, hN]) | fail)
                  refine (HF.out _).mono ?_
                  rintro e w5 ⟨rfl, g5⟩
                  have G5 : Hid (w.grownBy w5 none) := grown_trans (grown_push HG.out _) g5
                  clear g5 HF
                  go_wp2
                  go_roundw
                  case rel => exact ⟨m + 1, by omega, by go_num, by rw [HS.out, ← Nat.add_assoc, ← HN2.out]; go_num, G5.out⟩
                  case measure => simp [intOf]; omega
                | false =>
                  unfold part3 at HF
                  rw [hC, hN] at HF
                  simp only [Bool.false_eq_true, if_false, pv] at HF
                  go_wp2_with (first | (go_at_call 15; refine (uses_any _ _ _).mono ?_; rintro e w1 ⟨rfl, hw⟩; rw [hw]; simp only [usesV, hC, hN]) | fail)
                  refine (HF.out _).mono ?_
                  rintro e w5 ⟨rfl, g5⟩
                  have G5 : Hid (w.grownBy w5 none) := grown_trans (grown_push HG.out _) g5
                  clear g5 HF
                  go_wp2
                  go_roundw
                  case rel => exact ⟨m + 1, by omega, by go_num, by rw [HS.out, ← Nat.add_assoc, ← HN2.out]; go_num, G5.out⟩
                  case measure => simp [intOf]; omega
            · have hme : m = 12 := by omega
              subst hme
              have hs1 : Hid (n0 + tV a (v + 1) = n1 + tM a v 12) := by
                show _ = _
                rw [HN1.out]
                show n0 + (tV a v + tM a v 12) = _
                omega
              have HG : Hid (w.grownBy wr none) := G
              clear G HN0 HN1
              go_wp2
              go_roundw
              case rel => exact ⟨v + 1, by omega, by go_num, by rw [hs1.out], HG.out⟩
              case measure => simp [intOf]; omega
        · have hve : v = 21 := by omega
          subst hve
          have hs1 : Hid (tW (a + 1) = n0 + tV a 21) := by
            show _ = _
            rw [HN0.out]
            rfl
          have HG : Hid (w.grownBy wr none) := G
          clear G HN0
          go_wp2
          go_roundw
          case rel => exact ⟨a + 1, by omega, by go_num, by rw [hs1.out], HG.out⟩
          case measure => simp [intOf]; omega
    · have hae : a = 8 := by omega
      subst hae
      rw [tot]
      have HG : Hid (w.grownBy wr none) := G
      clear G
      go_wp2_with fail
      refine (lives_any _ (HL.out.keep HG.out)).mono ?_
      rintro e w5 ⟨rfl, g5⟩
      go_wp2
      go_ret
      exact ⟨rfl, grown_trans HG.out g5⟩
end Go.Proofs.YthpoejgmofppbaaGreatDoor
