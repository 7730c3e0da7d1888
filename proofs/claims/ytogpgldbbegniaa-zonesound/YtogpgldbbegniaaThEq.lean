/-
  When two things are the same: Go's own test of two structs.
-/
import Derived.Test.YtogpgldbbegniaaZmT
import Derived.Laws.StructEq
import Derived.ChangeKeysEq
namespace Go.Proofs.Ytogpgldbbegniaa
open Go.RowKit

/-- Are two things the same? -/
def samet (t u : Th) : Bool := decide (t.card = u.card ∧ t.owner = u.owner ∧ t.place = u.place ∧ t.stamp = u.stamp ∧ t.hurt = u.hurt ∧ (t.m0 = u.m0 ∧ t.m1 = u.m1 ∧ t.m2 = u.m2 ∧ t.m3 = u.m3) ∧ t.done = u.done ∧ t.fresh = u.fresh)
theorem samet_iff {t u : Th} : samet t u = true ↔ t = u := by
  unfold samet
  rw [decide_eq_true_iff]
  constructor
  · rintro ⟨h1, h2, h3, h4, h5, ⟨h6, h7, h8, h9⟩, h10, h11⟩
    cases t
    cases u
    simp only at h1 h2 h3 h4 h5 h6 h7 h8 h9 h10 h11
    subst h1 h2 h3 h4 h5 h6 h7 h8 h9 h10 h11
    rfl
  · rintro rfl
    simp
theorem samet_yes {t u : Th} (h : t = u) : samet t u = true := samet_iff.2 h
theorem samet_no {t u : Th} (h : ¬ t = u) : samet t u = false := Bool.eq_false_iff.2 fun q => h (samet_iff.1 q)
theorem eqg_th (op : BinOp) (x y : Operand) (xs ys : Array Value) (w : World) : (eqGuard op 38 x y (.agg xs) (.agg ys)).run Try.prog w = .ok () w := run_eqGuard_agg w op 38 x y xs ys (by kernel_rfl)
set_option maxHeartbeats 1000000 in
theorem equalIn_four (a0 a1 a2 a3 b0 b1 b2 b3 : Int) (w : World) : (Op.equalIn 9999 36 (.agg #[.int .i64 a0, .int .i64 a1, .int .i64 a2, .int .i64 a3]) (.agg #[.int .i64 b0, .int .i64 b1, .int .i64 b2, .int .i64 b3])).run Try.prog w = .ok (decide (a0 = b0 ∧ a1 = b1 ∧ a2 = b2 ∧ a3 = b3)) w := by
  obtain ⟨i0, hi, _⟩ := info_parts Try.info3i'
  have u3 := Try.underlying3
  have i3 := Try.isAgg3
  have z3 := Try.sizeOf3
  have hc : Try.prog.cellsOf 3 = 1 := by kernel_rfl
  rw [show (9999 : Nat) = 9998 + 1 from rfl, run_equalIn_array w 9998 _ _ Try.underlying36 hi, hc, show List.range 4 = [0, 1, 2, 3] from rfl]
  simp only [Op.eqItems]
  go_simp
  by_cases h0 : a0 = b0
  case neg => simp [h0]
  simp only [h0]
  by_cases h1 : a1 = b1
  case neg => simp [h1]
  simp only [h1]
  by_cases h2 : a2 = b2
  case neg => simp [h2]
  simp only [h2]
  by_cases h3 : a3 = b3
  case neg => simp [h3]
  simp [h3]
set_option maxHeartbeats 2000000 in
theorem equalIn_th (ac ao ap ax ah am0 am1 am2 am3 ad bc bo bp bx bh bm0 bm1 bm2 bm3 bd : Int) (af bf : Bool) (w : World) : (Op.equalIn 10000 38 (.agg #[.int .i64 ac, .int .i64 ao, .int .u8 ap, .int .i64 ax, .int .i64 ah, .int .i64 am0, .int .i64 am1, .int .i64 am2, .int .i64 am3, .int .i64 ad, .bool af]) (.agg #[.int .i64 bc, .int .i64 bo, .int .u8 bp, .int .i64 bx, .int .i64 bh, .int .i64 bm0, .int .i64 bm1, .int .i64 bm2, .int .i64 bm3, .int .i64 bd, .bool bf])).run Try.prog w = .ok (samet (⟨ac, ao, ap, ax, ah, am0, am1, am2, am3, ad, af⟩ : Th) (⟨bc, bo, bp, bx, bh, bm0, bm1, bm2, bm3, bd, bf⟩ : Th)) w := by
  unfold samet
  have hS : Try.prog.underlying 38 = some (.struct (Try.prog.fieldsOf 38)) := by kernel_rfl
  have hp : Try.prog.stoodInHeld 38 = false := by kernel_rfl
  have u3 := Try.underlying3
  have i3 := Try.isAgg3
  have z3 := Try.sizeOf3
  have u4 := Try.underlying4
  have i4 := Try.isAgg4
  have z4 := Try.sizeOf4
  have uP := Try.underlying35
  have iP := Try.isAgg35
  have zP := Try.sizeOf35
  have iA := Try.isAgg36
  have zA := Try.sizeOf36
  have h4 := equalIn_four am0 am1 am2 am3 bm0 bm1 bm2 bm3
  rw [show (10000 : Nat) = 9999 + 1 from rfl, run_equalIn_agg w 9999 38 _ _ hS hp]
  simp only [Program.fieldsOf, Try.underlying38]
  go_simp
  by_cases hc : ac = bc
  case neg => simp [hc]
  simp only [hc]
  by_cases ho : ao = bo
  case neg => simp [ho]
  simp only [ho]
  by_cases hp : ap = bp
  case neg => simp [hp]
  simp only [hp]
  by_cases hx : ax = bx
  case neg => simp [hx]
  simp only [hx]
  by_cases hh : ah = bh
  case neg => simp [hh]
  simp only [hh]
  by_cases hm0 : am0 = bm0
  case neg => simp [hm0]
  simp only [hm0]
  by_cases hm1 : am1 = bm1
  case neg => simp [hm1]
  simp only [hm1]
  by_cases hm2 : am2 = bm2
  case neg => simp [hm2]
  simp only [hm2]
  by_cases hm3 : am3 = bm3
  case neg => simp [hm3]
  simp only [hm3]
  by_cases hd : ad = bd
  case neg => simp [hd]
  simp only [hd]
  by_cases hf : af = bf
  case neg => simp [hf]
  simp [hf]
theorem eql_th (ac ao ap ax ah am0 am1 am2 am3 ad bc bo bp bx bh bm0 bm1 bm2 bm3 bd : Int) (af bf : Bool) (w : World) : (binOp .eql 38 (.agg #[.int .i64 ac, .int .i64 ao, .int .u8 ap, .int .i64 ax, .int .i64 ah, .int .i64 am0, .int .i64 am1, .int .i64 am2, .int .i64 am3, .int .i64 ad, .bool af]) (.agg #[.int .i64 bc, .int .i64 bo, .int .u8 bp, .int .i64 bx, .int .i64 bh, .int .i64 bm0, .int .i64 bm1, .int .i64 bm2, .int .i64 bm3, .int .i64 bd, .bool bf])).run Try.prog w = .ok (.bool (samet (⟨ac, ao, ap, ax, ah, am0, am1, am2, am3, ad, af⟩ : Th) (⟨bc, bo, bp, bx, bh, bm0, bm1, bm2, bm3, bd, bf⟩ : Th))) w := by
  rw [run_eql_struct, equalIn_th]; rfl
theorem neq_th (ac ao ap ax ah am0 am1 am2 am3 ad bc bo bp bx bh bm0 bm1 bm2 bm3 bd : Int) (af bf : Bool) (w : World) : (binOp .neq 38 (.agg #[.int .i64 ac, .int .i64 ao, .int .u8 ap, .int .i64 ax, .int .i64 ah, .int .i64 am0, .int .i64 am1, .int .i64 am2, .int .i64 am3, .int .i64 ad, .bool af]) (.agg #[.int .i64 bc, .int .i64 bo, .int .u8 bp, .int .i64 bx, .int .i64 bh, .int .i64 bm0, .int .i64 bm1, .int .i64 bm2, .int .i64 bm3, .int .i64 bd, .bool bf])).run Try.prog w = .ok (.bool (!samet (⟨ac, ao, ap, ax, ah, am0, am1, am2, am3, ad, af⟩ : Th) (⟨bc, bo, bp, bx, bh, bm0, bm1, bm2, bm3, bd, bf⟩ : Th))) w := by
  rw [run_neq_struct, equalIn_th]; rfl
end Go.Proofs.Ytogpgldbbegniaa
