/-
  Traits' names and marks of a book: TraitName, MarkOf, Trait, Mark.
-/
import Derived.Test.YtknlcjhcamhfmaaGreatDoorJ8
namespace Go.Proofs.YtknlcjhcamhfmaaGreatDoor
open Go.RowKit

def fF (n : Int) : Bool := decide (-9 ≤ n) && decide (n ≤ 9)
theorem forceF_any (n : Int) (w : World) : Calls Tryz.prog 73 #[.int .i64 n] w fun e w' => e = .returned (.bool (fF n)) ∧ w' = w := by
  by_cases h : -9 ≤ n
  · have e : fF n = decide (n ≤ 9) := by simp [fF, h]
    rw [e]
    go_enter Tryz.func73, Tryz.ntmps73
    go_wp2
    go_ret
    exact ⟨rfl, rfl⟩
  · have e : fF n = false := by simp [fF, h]
    rw [e]
    go_enter Tryz.func73, Tryz.ntmps73
    go_wp2
    go_ret
    exact ⟨rfl, rfl⟩
/-- A row of texts. -/
def StrAt (w : World) (g o : Nat) (l : List ByteArray) : Prop := ∀ (j : Nat) s, l[j]? = some s → w.cell? ⟨g, o + j, none⟩ = some (.string s)
def NoTo (l : List ByteArray) (s : ByteArray) (k : Nat) : Prop := ∀ (j : Nat) x, j < k → l[j]? = some x → ¬ x = s
theorem noTo_next {l : List ByteArray} {s x : ByteArray} {k : Nat} (h : NoTo l s k) (he : l[k]? = some x) (hs : ¬ x = s) : NoTo l s (k + 1) := fun j y hj hy => by
  rcases (show j < k ∨ j = k by omega) with hj | rfl
  · exact h j y hj hy
  · rw [he] at hy
    cases hy
    exact hs
set_option maxRecDepth 100000 in
theorem indexS_any (g o cap : Nat) (l : List ByteArray) (s : ByteArray) (w : World) (hE : StrAt w g o l) (hm : l.length ≤ 64) : Calls Tryz.prog 152 #[.slice (some ⟨g, o, none⟩) l.length cap, .string s] w fun e w' => e = .returned (.int .i64 (pos l s)) ∧ w' = w := by
  have HE : Hid (StrAt w g o l) := hE
  have hm' : Small l.length := by unfold Small; omega
  clear hE hm
  go_enter Tryz.func152, Tryz.ntmps152
  go_wp2_with fail
  go_loopw [8] (fun i wr => ∃ k : Nat, k ≤ l.length ∧ i = .int .i64 k ∧ NoTo l s k ∧ wr = w) (fun i _ => l.length - (intOf i).toNat)
  case atStart => exact ⟨0, Nat.zero_le _, rfl, fun j e hj => by omega, rfl⟩
  case round =>
    obtain ⟨k, hk, rfl, R, rfl⟩ := hrel
    have HR : Hid (NoTo l s k) := R
    clear R
    rcases (show k = l.length ∨ k < l.length from by omega) with hke | hlt
    · have HP : Hid (pos l s = -1) := pos_miss _ _ fun j x hx => HR.out j x (hke ▸ (List.getElem?_eq_some_iff.1 hx).1) hx
      clear HR
      subst hke
      go_wp2
      go_ret
      exact ⟨ret_int HP.out.symm, rfl⟩
    · have hlt' : (k : Int) < (l.length : Int) := by omega
      have hk0 : (0 : Int) ≤ (k : Int) := by omega
      have hw := hm'.wrap hlt
      obtain ⟨x, hx⟩ : ∃ x, l[k]? = some x := ⟨_, List.getElem?_eq_getElem hlt⟩
      have D := HE.out k x hx
      by_cases hq : x = s
      · have HP : Hid (pos l s = k) := by subst hq; exact pos_hit _ _ _ hx HR.out
        have hd := bytes_yes hq.symm
        clear HR hx hq
        go_wp2
        go_ret
        exact ⟨ret_int HP.out.symm, rfl⟩
      · have HN : Hid (NoTo l s (k + 1)) := noTo_next HR.out hx hq
        have hd := bytes_no (fun e => hq e.symm)
        clear HR hx hq
        go_wp2_with fail
        go_roundw
        case rel => exact ⟨k + 1, hlt, by first | rfl | (rw [hw]; rfl), HN.out, by first | rfl | trivial⟩
        case measure => first | exact meas_next hlt | (rw [hw]; exact meas_next hlt)
theorem containsS_any (g o cap : Nat) (l : List ByteArray) (s : ByteArray) (w : World) (hE : StrAt w g o l) (hm : l.length ≤ 64) : Calls Tryz.prog 71 #[.slice (some ⟨g, o, none⟩) l.length cap, .string s] w fun e w' => e = .returned (.bool (decide (0 ≤ pos l s))) ∧ w' = w := by
  go_enter Tryz.func71, Tryz.ntmps71
  go_wp2_with (first | (go_at_call 152; refine (indexS_any g o cap l s _ hE hm).mono ?_; rintro e w1 ⟨rfl, h1⟩; obtain rfl : w = w1 := h1.symm) | fail)
  go_ret
  exact ⟨rfl, rfl⟩
theorem BkJ.strs {w : World} {b : Nat} {es : List Ent} {junk : List Value} {p : Pl} (h : BkJ w b es junk p) : StrAt w b 579 p.nms := fun _ _ hs => h.name hs
/-- What Trait tells. -/
def trE (p : Pl) (t : Int) (s : ByteArray) : Int := if p.shut = true then 7 else if t < 1 ∨ 8 < t then 2 else if nameOk s.data.toList = false then 4 else if ¬ p.nms.getD t.toNat ⟨#[]⟩ = ⟨#[]⟩ ∨ 0 ≤ pos p.nms s then 5 else 0
def trP (p : Pl) (t : Int) (s : ByteArray) : Pl := if trE p t s = 0 then { p with nms := p.nms.set t.toNat s } else p
theorem grown_own' {a b c : World} {r : Option Nat} (h : a.grownBy b none) (k : b.grownBy c r) : a.grownBy c r := ⟨k.os.trans h.os, k.tape.trans h.tape, k.output.trans h.output, Nat.le_trans h.size k.size, fun i hi hr => (k.block i (Nat.lt_of_lt_of_le hi h.size) hr).trans (h.block i hi (by simp))⟩
theorem toList_ne {x : ByteArray} (h : ¬ x = ⟨#[]⟩) : (x.toList == []) = false := by
  cases hb : (x.toList == []) with
  | false => rfl
  | true => exact absurd (bytes_inj (by rw [eq_of_beq hb]; kernel_rfl)) h
theorem BkJ.setN {w : World} {b : Nat} {es : List Ent} {junk : List Value} {p : Pl} (h : BkJ w b es junk p) {t : Nat} (ht : t < 9) (s : ByteArray) : BkJ (w.setCell ⟨b, 579 + t, none⟩ (.string s)) b es junk { p with nms := p.nms.set t s } := by
  refine ⟨?_, h.fit, by simpa using h.nine, h.five⟩
  rw [block_set h.lies]
  congr 2
  rw [List.setIfInBounds_toArray]
  congr 1
  unfold bcells plc
  have h1 := h.fit
  have h2 := h.nine
  rw [List.set_append_right _ _ (by rw [ecells_len]; omega), List.set_append_right _ _ (by rw [ecells_len]; omega), ecells_len]
  rw [show 579 + t - es.length * 9 - junk.length = t + 1 + 1 + 1 by omega]
  simp only [List.set_cons_succ]
  rw [List.set_append_left _ _ (by simp; omega), List.map_set]
/-- What TraitName tells. -/
def tnS (p : Pl) (t : Int) : ByteArray := if t < 9 then p.nms.getD t.toNat ⟨#[]⟩ else ⟨#[]⟩
def tnB (p : Pl) (t : Int) : Bool := !decide (tnS p t = ⟨#[]⟩)
theorem getD_some {α : Type} {l : List α} {k : Nat} {d : α} (h : k < l.length) : l[k]? = some (l.getD k d) := by simp [List.getD, h]
theorem empty_list : (ByteArray.mk #[]).toList = [] := by kernel_rfl
theorem traitName_yes (b : Nat) (es : List Ent) (p : Pl) (t : Int) (h0 : 0 ≤ t ∧ t ≤ 255) (w : World) (hB : BkIn w b es p) : Calls Tryz.prog 51 #[.pointer (some ⟨b, 0, none⟩), .int .u8 t] w fun e w' => e = .returned (.tuple #[.string (tnS p t), .bool (tnB p t)]) ∧ w' = w := by
  obtain ⟨junk, J⟩ := hB
  have HF : Hid (Flags w b es.length p) := J.flags
  obtain ⟨n, rfl⟩ := Int.eq_ofNat_of_zero_le h0.1
  have hw : IntKind.i64.wrap (n : Int) = (n : Int) := by rw [IntKind.wrap_i64]; omega
  by_cases h9 : n < 9
  · have c := J.name (t := n) (getD_some (d := ⟨#[]⟩) (by rw [J.nine]; exact h9))
    have e1 : tnS p (n : Int) = p.nms.getD n ⟨#[]⟩ := by unfold tnS; rw [if_pos (by omega)]; rfl
    have h9' : (n : Int) < 9 := by omega
    have h0' : (0 : Int) ≤ (n : Int) := by omega
    unfold tnB
    rw [e1]
    clear e1
    obtain ⟨s, hs⟩ : ∃ s, s = p.nms.getD n ⟨#[]⟩ := ⟨_, rfl⟩
    rw [← hs] at c ⊢
    clear hs J h0 h9
    by_cases he : s = ⟨#[]⟩
    · rw [decide_eq_true he]
      have he' : (s.toList == []) = true := by rw [he]; kernel_rfl
      clear he
      go_enter Tryz.func51, Tryz.ntmps51
      go_wp2_with (first | (go_at_call 55; refine (isBook_yes b es.length p _ HF.out).mono ?_; rintro e w1 ⟨rfl, h1⟩; obtain rfl : w = w1 := h1.symm) | fail)
      go_ret2
      exact ⟨by simp, rfl⟩
    · rw [decide_eq_false he]
      have he' := toList_ne he
      clear he
      go_enter Tryz.func51, Tryz.ntmps51
      go_wp2_with (first | (go_at_call 55; refine (isBook_yes b es.length p _ HF.out).mono ?_; rintro e w1 ⟨rfl, h1⟩; obtain rfl : w = w1 := h1.symm) | fail)
      go_ret2
      exact ⟨by simp, rfl⟩
  · have e1 : tnS p (n : Int) = ⟨#[]⟩ := if_neg (by omega)
    have e2 : tnB p (n : Int) = false := by unfold tnB; rw [e1]; rfl
    have h9' : 9 ≤ (n : Int) := by omega
    rw [e1, e2]
    clear J h0 h9 e1 e2
    go_enter Tryz.func51, Tryz.ntmps51
    go_wp2_with (first | (go_at_call 55; refine (isBook_yes b es.length p _ HF.out).mono ?_; rintro e w1 ⟨rfl, h1⟩; obtain rfl : w = w1 := h1.symm) | fail)
    go_ret2
    exact ⟨rfl, rfl⟩
theorem traitName_no (v : Value) (t : Int) (w : World) (h : NoBk w v) : Calls Tryz.prog 51 #[v, .int .u8 t] w fun e w' => e = .returned (.tuple #[.string ⟨#[]⟩, .bool false]) ∧ w' = w := by
  go_enter Tryz.func51, Tryz.ntmps51
  go_wp2_with (first | (go_at_call 55; refine (isBook_no _ _ h).mono ?_; rintro e w1 ⟨rfl, h1⟩; obtain rfl : w = w1 := h1.symm) | fail)
  go_ret2
  exact ⟨rfl, rfl⟩
theorem trait_no (v : Value) (t : Int) (s : ByteArray) (w : World) (h : NoBk w v) : Calls Tryz.prog 26 #[v, .int .u8 t, .string s] w fun e w' => e = .returned (.int .i64 1) ∧ w' = w := by
  go_enter Tryz.func26, Tryz.ntmps26
  go_wp2_with (first | (go_at_call 58; refine (refusal_no _ _ h).mono ?_; rintro e w1 ⟨rfl, h1⟩; obtain rfl : w = w1 := h1.symm) | fail)
  go_ret
  exact ⟨rfl, rfl⟩
set_option maxRecDepth 100000 in
set_option maxHeartbeats 1000000 in
theorem trait_yes (b : Nat) (es : List Ent) (p : Pl) (t : Int) (s : ByteArray) (w : World) (hB : BkIn w b es p) : Calls Tryz.prog 26 #[.pointer (some ⟨b, 0, none⟩), .int .u8 t, .string s] w fun e w' => e = .returned (.int .i64 (trE p t s)) ∧ BkIn w' b es (trP p t s) ∧ w.grownBy w' (some b) := by
  have HB : Hid (BkIn w b es p) := hB
  obtain ⟨junk, J⟩ := hB
  have HF : Hid (Flags w b es.length p) := J.flags
  have HR := refusal_yes b es.length p w J.flags
  have HI := is_any s
  cases hs : p.shut with
  | true =>
    have e1 : trE p t s = 7 := if_pos hs
    have e2 : trP p t s = p := if_neg (by rw [e1]; decide)
    rw [e1, e2]
    rw [hs] at HR
    clear e1 e2 J
    go_enter Tryz.func26, Tryz.ntmps26
    go_wp2_with (first | (go_at_call 58; refine HR.mono ?_; rintro e w1 ⟨rfl, h1⟩; obtain rfl : w = w1 := h1.symm) | fail)
    go_ret
    exact ⟨rfl, HB.out, grown_refl _ _⟩
  | false =>
    rw [hs] at HR
    by_cases ht : t < 1 ∨ 8 < t
    · have e1 : trE p t s = 2 := by unfold trE; rw [if_neg (by simp [hs]), if_pos ht]
      have e2 : trP p t s = p := if_neg (by rw [e1]; decide)
      rw [e1, e2]
      clear e1 e2 J
      rcases (show t < 1 ∨ (1 ≤ t ∧ 8 < t) by omega) with h | ⟨h, h'⟩
      all_goals
        clear ht
        go_enter Tryz.func26, Tryz.ntmps26
        go_wp2_with (first | (go_at_call 58; refine HR.mono ?_; rintro e w1 ⟨rfl, h1⟩; obtain rfl : w = w1 := h1.symm) | fail)
        go_ret
        exact ⟨rfl, HB.out, grown_refl _ _⟩
    · have t1 : 1 ≤ t := by omega
      have t8 : t ≤ 8 := by omega
      clear ht
      cases hn : nameOk s.data.toList with
      | false =>
        have e1 : trE p t s = 4 := by unfold trE; rw [if_neg (by simp [hs]), if_neg (by omega), if_pos hn]
        have e2 : trP p t s = p := if_neg (by rw [e1]; decide)
        rw [e1, e2]
        clear e1 e2 J
        go_enter Tryz.func26, Tryz.ntmps26
        go_wp2_with (first | (go_at_call 58; refine HR.mono ?_; rintro e w1 ⟨rfl, h1⟩; obtain rfl : w = w1 := h1.symm) | (go_at_call 70; refine (HI _).mono ?_; rintro e w1 ⟨rfl, h1⟩; obtain rfl : w = w1 := h1.symm; rw [hn]) | fail)
        go_ret
        exact ⟨rfl, HB.out, grown_refl _ _⟩
      | true =>
        have hsz : s.size ≤ 281474976710656 := by rw [Lib.size_eq]; exact Nat.le_trans (name_facts hn).2 (by omega)
        obtain ⟨n, rfl⟩ := Int.eq_ofNat_of_zero_le (show 0 ≤ t by omega)
        have n9 : n < 9 := by omega
        have c := J.name (t := n) (getD_some (d := ⟨#[]⟩) (by rw [J.nine]; exact n9))
        have H4 : trE p (n : Int) s = if ¬ p.nms.getD n ⟨#[]⟩ = ⟨#[]⟩ ∨ 0 ≤ pos p.nms s then 5 else 0 := by unfold trE; rw [if_neg (by simp [hs]), if_neg (by omega), if_neg (by simp [hn])]; rfl
        have HS := containsS_any b 579 9 p.nms s w J.strs (by rw [J.nine]; decide)
        rw [J.nine] at HS
        have t9' : (n : Int) < 9 := by omega
        have t0' : (0 : Int) ≤ (n : Int) := by omega
        obtain ⟨x, hx⟩ : ∃ x, p.nms.getD n ⟨#[]⟩ = x := ⟨_, rfl⟩
        rw [hx] at c H4
        by_cases he : x = ⟨#[]⟩
        · have he' : (x.toList == []) = true := by rw [he]; kernel_rfl
          have he2 : (x.toList != []) = false := by simp [bne, he']
          by_cases hq : 0 ≤ pos p.nms s
          · have e1 : trE p (n : Int) s = 5 := by rw [H4, if_pos (Or.inr hq)]
            have e2 : trP p (n : Int) s = p := if_neg (by rw [e1]; decide)
            rw [e1, e2]
            rw [decide_eq_true hq] at HS
            clear e1 e2 J H4 hx he hq
            go_enter Tryz.func26, Tryz.ntmps26
            go_wp2_with (first | (go_at_call 58; refine HR.mono ?_; rintro e w1 ⟨rfl, h1⟩; obtain rfl : w = w1 := h1.symm) | (go_at_call 70; refine (HI _).mono ?_; rintro e w1 ⟨rfl, h1⟩; obtain rfl : w = w1 := h1.symm; rw [hn]) | (go_at_call 71; refine HS.mono ?_; rintro e w1 ⟨rfl, h1⟩; obtain rfl : w = w1 := h1.symm) | fail)
            go_ret
            exact ⟨rfl, HB.out, grown_refl _ _⟩
          · have e1 : trE p (n : Int) s = 0 := by rw [H4, if_neg (by simp [he]; omega)]
            have e2 : trP p (n : Int) s = { p with nms := p.nms.set n s } := if_pos e1
            rw [e1, e2]
            rw [decide_eq_false hq] at HS
            have HJ : Hid (BkJ w b es junk p) := J
            clear e1 e2 J H4 hx he hq
            go_enter Tryz.func26, Tryz.ntmps26
            go_wp2_with (first | (go_at_call 58; refine HR.mono ?_; rintro e w1 ⟨rfl, h1⟩; obtain rfl : w = w1 := h1.symm) | (go_at_call 70; refine (HI _).mono ?_; rintro e w1 ⟨rfl, h1⟩; obtain rfl : w = w1 := h1.symm; rw [hn]) | (go_at_call 71; refine HS.mono ?_; rintro e w1 ⟨rfl, h1⟩; obtain rfl : w = w1 := h1.symm) | fail)
            go_region_with (first | (go_at_call 72; refine (clone_any s hsz _).mono ?_; rintro e w1 ⟨rfl, g1⟩; have G1 : Hid (w.grownBy w1 none) := grown_trans (grown_drewN w 1 none) g1; have c1 := G1.out.cell c (by simp); have f1 := (HJ.out.keep G1.out).free (579 + n)) | fail)
            all_goals go_wp2
            all_goals go_ret
            all_goals exact ⟨rfl, ⟨junk, (HJ.out.keep G1.out).setN n9 s⟩, (grown_own' G1.out (grown_set _ _ _ _))⟩
        · have he' := toList_ne he
          have he2 : (x.toList != []) = true := by simp [bne, he']
          have e1 : trE p (n : Int) s = 5 := by rw [H4, if_pos (Or.inl he)]
          have e2 : trP p (n : Int) s = p := if_neg (by rw [e1]; decide)
          rw [e1, e2]
          clear e1 e2 J H4 hx he
          go_enter Tryz.func26, Tryz.ntmps26
          go_wp2_with (first | (go_at_call 58; refine HR.mono ?_; rintro e w1 ⟨rfl, h1⟩; obtain rfl : w = w1 := h1.symm) | (go_at_call 70; refine (HI _).mono ?_; rintro e w1 ⟨rfl, h1⟩; obtain rfl : w = w1 := h1.symm; rw [hn]) | fail)
          go_ret
          exact ⟨rfl, HB.out, grown_refl _ _⟩
end Go.Proofs.YtknlcjhcamhfmaaGreatDoor
