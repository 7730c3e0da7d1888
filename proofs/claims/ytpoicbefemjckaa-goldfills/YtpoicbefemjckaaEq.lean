/-
  When two parts are the same: Go's own test of two structs, effect.Same, the document's own.
-/
import Derived.Test.YtpoicbefemjckaaCheck
import Derived.Laws.StructEq
namespace Go.Proofs.Ytpoicbefemjckaa
open Go.RowKit

/-- Are two parts the same? -/
def samep (p q : Pt) : Bool := decide (p.wn = q.wn ∧ p.vb = q.vb ∧ p.wm = q.wm ∧ p.ct = q.ct ∧ p.su = q.su ∧ p.tr = q.tr ∧ p.mr = q.mr ∧ p.nm = q.nm)
theorem samep_yes {p q : Pt} (h : p = q) : samep p q = true := by subst h; simp [samep]
theorem samep_no {p q : Pt} (h : ¬ p = q) : samep p q = false := by
  unfold samep
  refine decide_eq_false fun e => h ?_
  cases p
  cases q
  simp only at e
  simp [e]
theorem bytes_inj {s t : ByteArray} (h : s.toList = t.toList) : s = t := by
  rw [Lib.toList_data, Lib.toList_data] at h
  rcases s with ⟨⟨a⟩⟩
  rcases t with ⟨⟨b⟩⟩
  simp at h
  rw [h]
theorem eqg_part (op : BinOp) (x y : Operand) (xs ys : Array Value) (w : World) : (eqGuard op 81 x y (.agg xs) (.agg ys)).run Try.prog w = .ok () w := run_eqGuard_agg w op 81 x y xs ys (by kernel_rfl)
theorem equalIn_part (a0 a1 a2 a3 a4 a5 a6 : Int) (s : ByteArray) (b0 b1 b2 b3 b4 b5 b6 : Int) (t : ByteArray) (w : World) : (Op.equalIn 10000 81 (.agg #[.int .u8 a0, .int .u8 a1, .int .u8 a2, .int .i64 a3, .int .u8 a4, .int .u8 a5, .int .u8 a6, .string s]) (.agg #[.int .u8 b0, .int .u8 b1, .int .u8 b2, .int .i64 b3, .int .u8 b4, .int .u8 b5, .int .u8 b6, .string t])).run Try.prog w = .ok (samep (⟨a0, a1, a2, a3, a4, a5, a6, s⟩ : Pt) ⟨b0, b1, b2, b3, b4, b5, b6, t⟩) w := by
  unfold samep
  have hS : Try.prog.underlying 81 = some (.struct (Try.prog.fieldsOf 81)) := by kernel_rfl
  have hp : Try.prog.stoodInHeld 81 = false := by kernel_rfl
  have u3 := Try.underlying3
  have i3 := Try.isAgg3
  have z3 := Try.sizeOf3
  have u9 := Try.underlying9
  have i9 := Try.isAgg9
  have z9 := Try.sizeOf9
  have u23 := Try.underlying77
  have i23 := Try.isAgg77
  have z23 := Try.sizeOf77
  have u24 := Try.underlying78
  have i24 := Try.isAgg78
  have z24 := Try.sizeOf78
  have u25 := Try.underlying79
  have i25 := Try.isAgg79
  have z25 := Try.sizeOf79
  have u26 := Try.underlying41
  have i26 := Try.isAgg41
  have z26 := Try.sizeOf41
  have u27 := Try.underlying52
  have i27 := Try.isAgg52
  have z27 := Try.sizeOf52
  have u28 := Try.underlying54
  have i28 := Try.isAgg54
  have z28 := Try.sizeOf54
  rw [show (10000 : Nat) = 9999 + 1 from rfl, run_equalIn_agg w 9999 81 _ _ hS hp]
  simp only [Program.fieldsOf, Try.underlying81]
  go_simp
  by_cases h0 : a0 = b0
  case neg => simp [h0]
  simp only [h0]
  by_cases h1 : a1 = b1
  case neg => simp [h1]
  simp only [h1]
  by_cases h2 : a2 = b2
  case neg => simp [h2]
  simp only [h2]
  by_cases h3 : a3 = b3
  case neg => simp [h3]
  simp only [h3]
  by_cases h4 : a4 = b4
  case neg => simp [h4]
  simp only [h4]
  by_cases h5 : a5 = b5
  case neg => simp [h5]
  simp only [h5]
  by_cases h6 : a6 = b6
  case neg => simp [h6]
  simp only [h6]
  by_cases h7 : s = t
  case neg => simp [h7]; exact fun e => h7 (bytes_inj e)
  simp [h7]
theorem eql_part (a0 a1 a2 a3 a4 a5 a6 : Int) (s : ByteArray) (b0 b1 b2 b3 b4 b5 b6 : Int) (t : ByteArray) (w : World) : (binOp .eql 81 (.agg #[.int .u8 a0, .int .u8 a1, .int .u8 a2, .int .i64 a3, .int .u8 a4, .int .u8 a5, .int .u8 a6, .string s]) (.agg #[.int .u8 b0, .int .u8 b1, .int .u8 b2, .int .i64 b3, .int .u8 b4, .int .u8 b5, .int .u8 b6, .string t])).run Try.prog w = .ok (.bool (samep (⟨a0, a1, a2, a3, a4, a5, a6, s⟩ : Pt) ⟨b0, b1, b2, b3, b4, b5, b6, t⟩)) w := by
  rw [run_eql_struct, equalIn_part]; rfl
theorem neq_part (a0 a1 a2 a3 a4 a5 a6 : Int) (s : ByteArray) (b0 b1 b2 b3 b4 b5 b6 : Int) (t : ByteArray) (w : World) : (binOp .neq 81 (.agg #[.int .u8 a0, .int .u8 a1, .int .u8 a2, .int .i64 a3, .int .u8 a4, .int .u8 a5, .int .u8 a6, .string s]) (.agg #[.int .u8 b0, .int .u8 b1, .int .u8 b2, .int .i64 b3, .int .u8 b4, .int .u8 b5, .int .u8 b6, .string t])).run Try.prog w = .ok (.bool (!samep (⟨a0, a1, a2, a3, a4, a5, a6, s⟩ : Pt) ⟨b0, b1, b2, b3, b4, b5, b6, t⟩)) w := by
  rw [run_neq_struct, equalIn_part]; rfl
end Go.Proofs.Ytpoicbefemjckaa
