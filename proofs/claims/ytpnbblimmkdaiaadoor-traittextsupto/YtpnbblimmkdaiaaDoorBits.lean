/-
  What With, Without and Has do with a set, bit by bit; the list of a set, place by place.
-/
import Derived.Test.YtpnbblimmkdaiaaDoorPrint
import Derived.Laws.BitsAllLaws
namespace Go.Proofs.YtpnbblimmkdaiaaDoor
open Go.RowKit

/-- A set as sixteen bits. -/
def bv (s : Int) : BitVec 16 := BitVec.ofInt 16 s
theorem wrap_bv (x : BitVec 16) : IntKind.u16.wrap (x.toNat : Int) = (x.toNat : Int) := by
  have := x.isLt
  rw [IntKind.wrap_u16]
  omega
theorem bv_nat (x : BitVec 16) : bv (x.toNat : Int) = x := by
  unfold bv
  rw [BitVec.ofInt_natCast, BitVec.ofNat_toNat, BitVec.setWidth_eq]
theorem bits_and (a b : Int) : bits .and .u16 a b = ((bv a &&& bv b).toNat : Int) := by
  show IntKind.u16.wrap ((BitVec.ofInt 16 a &&& BitVec.ofInt 16 b).toNat : Int) = _
  rw [wrap_bv]; rfl
theorem bits_or (a b : Int) : bits .or .u16 a b = ((bv a ||| bv b).toNat : Int) := by
  show IntKind.u16.wrap ((BitVec.ofInt 16 a ||| BitVec.ofInt 16 b).toNat : Int) = _
  rw [wrap_bv]; rfl
theorem bits_andNot (a b : Int) : bits .andNot .u16 a b = ((bv a &&& ~~~bv b).toNat : Int) := by
  show IntKind.u16.wrap ((BitVec.ofInt 16 a &&& ~~~BitVec.ofInt 16 b).toNat : Int) = _
  rw [wrap_bv]; rfl
theorem bv_inj {a b : Int} (h1 : 0 ≤ a) (h2 : a < 65536) (h3 : 0 ≤ b) (h4 : b < 65536) (h : bv a = bv b) : a = b := by
  obtain ⟨A, rfl⟩ := Int.eq_ofNat_of_zero_le h1
  obtain ⟨B, rfl⟩ := Int.eq_ofNat_of_zero_le h3
  have := congrArg BitVec.toNat h
  unfold bv at this
  rw [BitVec.ofInt_natCast, BitVec.ofInt_natCast, BitVec.toNat_ofNat, BitVec.toNat_ofNat] at this
  omega
theorem bv_with (s k : Int) : bv (tWith s k) = bv s ||| bv (tBit k) := by unfold tWith; rw [bits_or, bv_nat]
theorem bv_without (s k : Int) : bv (tWithout s k) = bv s &&& ~~~bv (tBit k) := by unfold tWithout; rw [bits_andNot, bv_nat]
theorem with_range (s k : Int) : 0 ≤ tWith s k ∧ tWith s k < 65536 := by
  unfold tWith; rw [bits_or]
  have := (bv s ||| bv (tBit k)).isLt
  omega
theorem without_range (s k : Int) : 0 ≤ tWithout s k ∧ tWithout s k < 65536 := by
  unfold tWithout; rw [bits_andNot]
  have := (bv s &&& ~~~bv (tBit k)).isLt
  omega
theorem has_bv (s k : Int) : tHas s k = (bv s &&& bv (tBit k) != 0#16) := by
  unfold tHas; rw [bits_and]
  by_cases h : bv s &&& bv (tBit k) = 0#16
  · rw [h]; rfl
  · have hn : ¬ (bv s &&& bv (tBit k)).toNat = 0 := fun e => h (BitVec.eq_of_toNat_eq (by rw [e]; rfl))
    have h1 : ((bv s &&& bv (tBit k)).toNat : Int) ≠ 0 := by omega
    rw [bne_iff_ne.2 h1, bne_iff_ne.2 h]
theorem check_bv (s : Int) : tCheck s = (bv s &&& ~~~255#16 == 0#16) := by
  unfold tCheck; rw [bits_andNot]
  have e : bv 255 = 255#16 := by decide
  rw [e]
  by_cases h : bv s &&& ~~~255#16 = 0#16
  · rw [h]; rfl
  · have hn : ¬ (bv s &&& ~~~255#16).toNat = 0 := fun e => h (BitVec.eq_of_toNat_eq (by rw [e]; rfl))
    have h1 : ¬ ((bv s &&& ~~~255#16).toNat : Int) = 0 := by omega
    rw [beq_eq_false_iff_ne.2 h1, beq_eq_false_iff_ne.2 h]
theorem bit_ne {k : Int} (h : Eight k) : bv (tBit k) ≠ 0#16 := by
  rcases h with rfl | rfl | rfl | rfl | rfl | rfl | rfl | rfl <;> decide
theorem bit_no {k : Int} (h : k < 1 ∨ 8 < k) : bv (tBit k) = 0#16 := by
  rw [(eight_no k h).2.2.2]; rfl
theorem bit_apart {k j : Int} (h : k ≠ j) : bv (tBit k) &&& bv (tBit j) = 0#16 := by
  rcases eight_or k with hk | hk
  · rcases eight_or j with hj | hj
    · rcases hk with rfl | rfl | rfl | rfl | rfl | rfl | rfl | rfl <;> rcases hj with rfl | rfl | rfl | rfl | rfl | rfl | rfl | rfl <;> first | exact absurd rfl h | decide
    · rw [bit_no hj, BitVec.and_zero]
  · rw [bit_no hk, BitVec.zero_and]
theorem bit_low (k : Int) : bv (tBit k) &&& ~~~255#16 = 0#16 := by
  rcases eight_or k with hk | hk
  · rcases hk with rfl | rfl | rfl | rfl | rfl | rfl | rfl | rfl <;> decide
  · rw [bit_no hk]; decide
theorem bv_absorb (a b : BitVec 16) : (a ||| b) &&& b = b := by
  apply BitVec.eq_of_getLsbD_eq
  intro i hi
  rw [BitVec.getLsbD_and, BitVec.getLsbD_or]
  cases a.getLsbD i <;> cases b.getLsbD i <;> rfl
theorem bv_gone (a b : BitVec 16) : (a &&& ~~~b) &&& b = 0#16 := by
  apply BitVec.eq_of_getLsbD_eq
  intro i hi
  rw [BitVec.getLsbD_and, BitVec.getLsbD_and, BitVec.getLsbD_not, BitVec.getLsbD_zero]
  cases a.getLsbD i <;> cases b.getLsbD i <;> simp
theorem bv_other (a b c : BitVec 16) (h : b &&& c = 0#16) : (a ||| b) &&& c = a &&& c := by
  apply BitVec.eq_of_getLsbD_eq
  intro i hi
  have hb : (b &&& c).getLsbD i = false := by rw [h, BitVec.getLsbD_zero]
  rw [BitVec.getLsbD_and] at hb
  rw [BitVec.getLsbD_and, BitVec.getLsbD_or, BitVec.getLsbD_and]
  revert hb
  cases a.getLsbD i <;> cases b.getLsbD i <;> cases c.getLsbD i <;> simp
theorem bv_stays (a b c : BitVec 16) (h : b &&& c = 0#16) : (a &&& ~~~b) &&& c = a &&& c := by
  apply BitVec.eq_of_getLsbD_eq
  intro i hi
  have hb : (b &&& c).getLsbD i = false := by rw [h, BitVec.getLsbD_zero]
  rw [BitVec.getLsbD_and] at hb
  rw [BitVec.getLsbD_and, BitVec.getLsbD_and, BitVec.getLsbD_not, BitVec.getLsbD_and]
  revert hb
  cases a.getLsbD i <;> cases b.getLsbD i <;> cases c.getLsbD i <;> simp [hi]
theorem bv_twice (a b : BitVec 16) : (a &&& ~~~b) &&& ~~~b = a &&& ~~~b := by
  rw [BitVec.and_assoc, BitVec.and_self]

theorem has_with {s k : Int} (h : Eight k) : tHas (tWith s k) k = true := by
  rw [has_bv, bv_with, bv_absorb]; exact bne_iff_ne.2 (bit_ne h)
theorem has_without (s k : Int) : tHas (tWithout s k) k = false := by
  rw [has_bv, bv_without, bv_gone]; rfl
theorem has_with_other {s k j : Int} (h : j ≠ k) : tHas (tWith s k) j = tHas s j := by
  rw [has_bv, has_bv, bv_with, bv_other _ _ _ (bit_apart (fun e => h e.symm))]
theorem has_without_other {s k j : Int} (h : j ≠ k) : tHas (tWithout s k) j = tHas s j := by
  rw [has_bv, has_bv, bv_without, bv_stays _ _ _ (bit_apart (fun e => h e.symm))]
theorem has_no {s k : Int} (h : k < 1 ∨ 8 < k) : tHas s k = false := by
  rw [has_bv, bit_no h, BitVec.and_zero]; rfl
theorem with_no {s k : Int} (h : k < 1 ∨ 8 < k) (h0 : 0 ≤ s) (h1 : s < 65536) : tWith s k = s :=
  bv_inj (with_range s k).1 (with_range s k).2 h0 h1 (by rw [bv_with, bit_no h, BitVec.or_zero])
theorem without_no {s k : Int} (h : k < 1 ∨ 8 < k) (h0 : 0 ≤ s) (h1 : s < 65536) : tWithout s k = s :=
  bv_inj (without_range s k).1 (without_range s k).2 h0 h1 (by
    rw [bv_without, bit_no h]
    apply BitVec.eq_of_getLsbD_eq
    intro i hi
    rw [BitVec.getLsbD_and, BitVec.getLsbD_not, BitVec.getLsbD_zero]
    simp [hi])
theorem with_twice (s k : Int) : tWith (tWith s k) k = tWith s k :=
  bv_inj (with_range _ k).1 (with_range _ k).2 (with_range _ k).1 (with_range _ k).2 (by rw [bv_with, bv_with, BitVec.or_assoc, BitVec.or_self])
theorem without_twice (s k : Int) : tWithout (tWithout s k) k = tWithout s k :=
  bv_inj (without_range _ k).1 (without_range _ k).2 (without_range _ k).1 (without_range _ k).2 (by rw [bv_without, bv_without, bv_twice])
theorem with_comm (s k j : Int) : tWith (tWith s k) j = tWith (tWith s j) k :=
  bv_inj (with_range _ j).1 (with_range _ j).2 (with_range _ k).1 (with_range _ k).2 (by
    rw [bv_with, bv_with, bv_with, bv_with, BitVec.or_assoc, BitVec.or_assoc, BitVec.or_comm (bv (tBit k))])
theorem check_with (s k : Int) : tCheck (tWith s k) = tCheck s := by
  rw [check_bv, check_bv, bv_with, bv_other _ _ _ (bit_low k)]

/-- How many of a set's traits stand below n. -/
def cnt (s : Int) (n : Nat) : Nat := (tUpto s (min 8 (n - 1))).length
theorem cnt_no {s : Int} {n : Nat} (h : tHas s (n : Int) = false) : cnt s (n + 1) = cnt s n := by
  unfold cnt
  rcases (show n = 0 ∨ 8 < n ∨ ∃ k, n = k + 1 ∧ k < 8 from by
    rcases Nat.lt_or_ge 8 n with h8 | h8
    · exact Or.inr (Or.inl h8)
    · rcases n with _ | k
      · exact Or.inl rfl
      · exact Or.inr (Or.inr ⟨k, rfl, by omega⟩)) with rfl | h8 | ⟨k, rfl, hk⟩
  · rfl
  · rw [show min 8 (n + 1 - 1) = 8 by omega, show min 8 (n - 1) = 8 by omega]
  · rw [show min 8 (k + 1 + 1 - 1) = k + 1 by omega, show min 8 (k + 1 - 1) = k by omega, upto_out s k (by simpa using h)]
theorem upto_prefix (s : Int) : ∀ k j : Nat, ∃ r, tUpto s (k + j) = tUpto s k ++ r
  | k, 0 => ⟨[], by simp⟩
  | k, j + 1 => by
    obtain ⟨r, hr⟩ := upto_prefix s k j
    refine ⟨r ++ (if tHas s (((k + j : Nat) : Int) + 1) then [((k + j : Nat) : Int) + 1] else []), ?_⟩
    show tUpto s ((k + j) + 1) = _
    rw [tUpto, hr, List.append_assoc]
theorem cnt_yes {s : Int} {n : Nat} (h : tHas s (n : Int) = true) : cnt s (n + 1) = cnt s n + 1 ∧ (tList s)[cnt s n]? = some (n : Int) := by
  rcases eight_or (n : Int) with h8 | h8
  · obtain ⟨k, rfl, hk⟩ : ∃ k, n = k + 1 ∧ k < 8 := by
      unfold Eight at h8
      exact ⟨n - 1, by omega, by omega⟩
    have hu := upto_in s k (by simpa using h)
    unfold cnt
    rw [show min 8 (k + 1 + 1 - 1) = k + 1 by omega, show min 8 (k + 1 - 1) = k by omega, hu]
    refine ⟨by simp, ?_⟩
    obtain ⟨r, hr⟩ := upto_prefix s (k + 1) (7 - k)
    rw [show k + 1 + (7 - k) = 8 by omega] at hr
    unfold tList
    rw [hr, hu]
    simp
  · rw [has_no h8] at h
    cases h
theorem cnt_end (s : Int) : cnt s 20 = (tList s).length := rfl
end Go.Proofs.YtpnbblimmkdaiaaDoor
