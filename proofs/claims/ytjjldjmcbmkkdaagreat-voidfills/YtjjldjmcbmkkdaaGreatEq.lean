/-
  When two parts are the same: Go's own test of two structs, effect.Same, the document's own.
-/
import Derived.Test.YtjjldjmcbmkkdaaGreatCheck
import Derived.Laws.StructEq
namespace Go.Proofs.YtjjldjmcbmkkdaaGreat
open Go.RowKit

/-- Are two parts the same? -/
def samep (p q : Pt) : Bool := decide (p.wn = q.wn ∧ p.vb = q.vb ∧ p.wm = q.wm ∧ p.ct = q.ct ∧ p.su = q.su ∧ p.tr = q.tr ∧ p.mr = q.mr ∧ p.nm = q.nm)
theorem samep_yes {p q : Pt} (h : p = q) : samep p q = true := by subst h; simp [samep]
theorem samep_no {p q : Pt} (h : ¬ p = q) : samep p q = false := by
  unfold samep
  refine decide_eq_false fun e => h ?_
  cases p
  cases q
  simp only at e
  simp [e]
theorem bytes_inj {s t : ByteArray} (h : s.toList = t.toList) : s = t := by
  rw [Lib.toList_data, Lib.toList_data] at h
  rcases s with ⟨⟨a⟩⟩
  rcases t with ⟨⟨b⟩⟩
  simp at h
  rw [h]
theorem eqg_part (op : BinOp) (x y : Operand) (xs ys : Array Value) (w : World) : (eqGuard op 79 x y (.agg xs) (.agg ys)).run Tryz.prog w = .ok () w := run_eqGuard_agg w op 79 x y xs ys (by kernel_rfl)
theorem equalIn_part (a0 a1 a2 a3 a4 a5 a6 : Int) (s : ByteArray) (b0 b1 b2 b3 b4 b5 b6 : Int) (t : ByteArray) (w : World) : (Op.equalIn 10000 79 (.agg #[.int .u8 a0, .int .u8 a1, .int .u8 a2, .int .i64 a3, .int .u8 a4, .int .u8 a5, .int .u8 a6, .string s]) (.agg #[.int .u8 b0, .int .u8 b1, .int .u8 b2, .int .i64 b3, .int .u8 b4, .int .u8 b5, .int .u8 b6, .string t])).run Tryz.prog w = .ok (samep (⟨a0, a1, a2, a3, a4, a5, a6, s⟩ : Pt) ⟨b0, b1, b2, b3, b4, b5, b6, t⟩) w := by
  unfold samep
  have hS : Tryz.prog.underlying 79 = some (.struct (Tryz.prog.fieldsOf 79)) := by kernel_rfl
  have hp : Tryz.prog.stoodInHeld 79 = false := by kernel_rfl
  have u3 := Tryz.underlying3
  have i3 := Tryz.isAgg3
  have z3 := Tryz.sizeOf3
  have u9 := Tryz.underlying9
  have i9 := Tryz.isAgg9
  have z9 := Tryz.sizeOf9
  have u23 := Tryz.underlying75
  have i23 := Tryz.isAgg75
  have z23 := Tryz.sizeOf75
  have u24 := Tryz.underlying76
  have i24 := Tryz.isAgg76
  have z24 := Tryz.sizeOf76
  have u25 := Tryz.underlying77
  have i25 := Tryz.isAgg77
  have z25 := Tryz.sizeOf77
  have u26 := Tryz.underlying25
  have i26 := Tryz.isAgg25
  have z26 := Tryz.sizeOf25
  have u27 := Tryz.underlying47
  have i27 := Tryz.isAgg47
  have z27 := Tryz.sizeOf47
  have u28 := Tryz.underlying43
  have i28 := Tryz.isAgg43
  have z28 := Tryz.sizeOf43
  rw [show (10000 : Nat) = 9999 + 1 from rfl, run_equalIn_agg w 9999 79 _ _ hS hp]
  simp only [Program.fieldsOf, Tryz.underlying79]
  go_simp
  by_cases h0 : a0 = b0
  case neg => simp [h0]
  simp only [h0]
  by_cases h1 : a1 = b1
  case neg => simp [h1]
  simp only [h1]
  by_cases h2 : a2 = b2
  case neg => simp [h2]
  simp only [h2]
  by_cases h3 : a3 = b3
  case neg => simp [h3]
  simp only [h3]
  by_cases h4 : a4 = b4
  case neg => simp [h4]
  simp only [h4]
  by_cases h5 : a5 = b5
  case neg => simp [h5]
  simp only [h5]
  by_cases h6 : a6 = b6
  case neg => simp [h6]
  simp only [h6]
  by_cases h7 : s = t
  case neg => simp [h7]; exact fun e => h7 (bytes_inj e)
  simp [h7]
theorem eql_part (a0 a1 a2 a3 a4 a5 a6 : Int) (s : ByteArray) (b0 b1 b2 b3 b4 b5 b6 : Int) (t : ByteArray) (w : World) : (binOp .eql 79 (.agg #[.int .u8 a0, .int .u8 a1, .int .u8 a2, .int .i64 a3, .int .u8 a4, .int .u8 a5, .int .u8 a6, .string s]) (.agg #[.int .u8 b0, .int .u8 b1, .int .u8 b2, .int .i64 b3, .int .u8 b4, .int .u8 b5, .int .u8 b6, .string t])).run Tryz.prog w = .ok (.bool (samep (⟨a0, a1, a2, a3, a4, a5, a6, s⟩ : Pt) ⟨b0, b1, b2, b3, b4, b5, b6, t⟩)) w := by
  rw [run_eql_struct, equalIn_part]; rfl
theorem neq_part (a0 a1 a2 a3 a4 a5 a6 : Int) (s : ByteArray) (b0 b1 b2 b3 b4 b5 b6 : Int) (t : ByteArray) (w : World) : (binOp .neq 79 (.agg #[.int .u8 a0, .int .u8 a1, .int .u8 a2, .int .i64 a3, .int .u8 a4, .int .u8 a5, .int .u8 a6, .string s]) (.agg #[.int .u8 b0, .int .u8 b1, .int .u8 b2, .int .i64 b3, .int .u8 b4, .int .u8 b5, .int .u8 b6, .string t])).run Tryz.prog w = .ok (.bool (!samep (⟨a0, a1, a2, a3, a4, a5, a6, s⟩ : Pt) ⟨b0, b1, b2, b3, b4, b5, b6, t⟩)) w := by
  rw [run_neq_struct, equalIn_part]; rfl
set_option maxHeartbeats 2000000 in
set_option maxRecDepth 100000 in
theorem same_any (p q : Pt) (w : World) : Calls Tryz.prog 72 #[pv p, pv q] w fun e w' => e = .returned (.bool (samep p q)) ∧ w.grownBy w' none := by
  unfold pv
  have he := eql_part
  have hg := eqg_part
  go_enter Tryz.func72, Tryz.ntmps72
  go_wp2
  go_ret
  exact ⟨rfl, grown_push (World.grownBy_alloc _ _ _) _⟩
end Go.Proofs.YtjjldjmcbmkkdaaGreat
