/-
  Sets of traits as bits: which numbers are sets.
-/
import Derived.Test.YtiikbhejnblhlaaGreatPure
namespace Go.Proofs.YtiikbhejnblhlaaGreat
open Go.RowKit

def bv (s : Int) : BitVec 16 := BitVec.ofInt 16 s
theorem wrap_bv (x : BitVec 16) : IntKind.u16.wrap (x.toNat : Int) = (x.toNat : Int) := by
  have := x.isLt
  rw [IntKind.wrap_u16]
  omega
theorem bv_nat (x : BitVec 16) : bv (x.toNat : Int) = x := by
  unfold bv
  rw [BitVec.ofInt_natCast, BitVec.ofNat_toNat, BitVec.setWidth_eq]
theorem bits_andNot (a b : Int) : bits .andNot .u16 a b = ((bv a &&& ~~~bv b).toNat : Int) := by
  show IntKind.u16.wrap ((BitVec.ofInt 16 a &&& ~~~BitVec.ofInt 16 b).toNat : Int) = _
  rw [wrap_bv]; rfl
theorem bits_or (a b : Int) : bits .or .u16 a b = ((bv a ||| bv b).toNat : Int) := by
  show IntKind.u16.wrap ((BitVec.ofInt 16 a ||| BitVec.ofInt 16 b).toNat : Int) = _
  rw [wrap_bv]; rfl
theorem check_bv (s : Int) : tCheck s = (bv s &&& ~~~255#16 == 0#16) := by
  unfold tCheck; rw [bits_andNot]
  have e : bv 255 = 255#16 := by decide
  rw [e]
  by_cases h : bv s &&& ~~~255#16 = 0#16
  · rw [h]; rfl
  · have hn : ¬ (bv s &&& ~~~255#16).toNat = 0 := fun e => h (BitVec.eq_of_toNat_eq (by rw [e]; rfl))
    have h1 : ¬ ((bv s &&& ~~~255#16).toNat : Int) = 0 := by omega
    rw [beq_eq_false_iff_ne.2 h1, beq_eq_false_iff_ne.2 h]
theorem bv_part (x m : BitVec 16) : (x &&& ~~~m = 0#16) ↔ (x &&& m = x) := by
  constructor
  · intro h
    apply BitVec.eq_of_getLsbD_eq
    intro i hi
    have hb : (x &&& ~~~m).getLsbD i = false := by rw [h, BitVec.getLsbD_zero]
    rw [BitVec.getLsbD_and, BitVec.getLsbD_not] at hb
    rw [BitVec.getLsbD_and]
    revert hb
    cases x.getLsbD i <;> cases m.getLsbD i <;> simp [hi]
  · intro h
    apply BitVec.eq_of_getLsbD_eq
    intro i hi
    have hb : (x &&& m).getLsbD i = x.getLsbD i := by rw [h]
    rw [BitVec.getLsbD_and] at hb
    rw [BitVec.getLsbD_and, BitVec.getLsbD_not, BitVec.getLsbD_zero]
    revert hb
    cases x.getLsbD i <;> cases m.getLsbD i <;> simp
theorem check_is (s : Int) (h0 : 0 ≤ s) (h1 : s < 65536) : tCheck s = decide (s < 256) := by
  obtain ⟨n, rfl⟩ := Int.eq_ofNat_of_zero_le h0
  rw [check_bv]
  have hn : (bv (n : Int)).toNat = n := by
    unfold bv
    rw [BitVec.ofInt_natCast, BitVec.toNat_ofNat]
    omega
  have hm : (bv (n : Int) &&& 255#16).toNat = n % 256 := by
    rw [BitVec.toNat_and, hn]
    exact Nat.and_two_pow_sub_one_eq_mod n 8
  by_cases h : n < 256
  · have e : bv (n : Int) &&& ~~~255#16 = 0#16 := (bv_part _ _).2 (BitVec.eq_of_toNat_eq (by rw [hm, hn]; omega))
    have h' : (n : Int) < 256 := by omega
    rw [e, decide_eq_true h']
    rfl
  · have e : ¬ bv (n : Int) &&& ~~~255#16 = 0#16 := fun e => by
      have := congrArg BitVec.toNat ((bv_part _ _).1 e)
      rw [hm, hn] at this
      omega
    have h' : ¬ (n : Int) < 256 := by omega
    rw [decide_eq_false h', beq_eq_false_iff_ne.2 e]
end Go.Proofs.YtiikbhejnblhlaaGreat
