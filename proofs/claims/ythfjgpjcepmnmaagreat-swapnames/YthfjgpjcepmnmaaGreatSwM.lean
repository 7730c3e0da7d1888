/-
  Swaps: when two events are the same; all swaps, plainly.
-/
import Derived.Test.YthfjgpjcepmnmaaGreatSwL
import Derived.Test.YthfjgpjcepmnmaaGreatS25
import Derived.Test.YthfjgpjcepmnmaaGreatS29
namespace Go.Proofs.YthfjgpjcepmnmaaGreat
open Go.RowKit Go.Shelf

set_option maxHeartbeats 2000000 in
theorem equalIn_hp (x y : Hp) (w : World) : (Op.equalIn 10000 43 (.agg (hpa x)) (.agg (hpa y))).run Tryz.prog w = .ok (decide (x = y)) w := by
  have hS : Tryz.prog.underlying 43 = some (.struct (Tryz.prog.fieldsOf 43)) := by kernel_rfl
  have hp : Tryz.prog.stoodInHeld 43 = false := by kernel_rfl
  have u3 := Tryz.underlying3
  have i3 := Tryz.isAgg3
  have z3 := Tryz.sizeOf3
  have u4 := Tryz.underlying4
  have i4 := Tryz.isAgg4
  have z4 := Tryz.sizeOf4
  have u24 := Tryz.underlying32
  have i24 := Tryz.isAgg32
  have z24 := Tryz.sizeOf32
  rw [show (10000 : Nat) = 9999 + 1 from rfl, run_equalIn_agg w 9999 43 _ _ hS hp]
  simp only [Program.fieldsOf, Tryz.underlying43, hpa]
  go_simp
  rcases x with ⟨x0, x1, x2, x3, x4, x5⟩
  rcases y with ⟨y0, y1, y2, y3, y4, y5⟩
  simp only
  by_cases h0 : x0 = y0
  case neg => simp [h0]
  simp only [h0]
  by_cases h1 : x1 = y1
  case neg => simp [h1]
  simp only [h1]
  by_cases h2 : x2 = y2
  case neg => simp [h2]
  simp only [h2]
  by_cases h3 : x3 = y3
  case neg => simp [h3]
  simp only [h3]
  by_cases h4 : x4 = y4
  case neg => simp [h4]
  simp only [h4]
  by_cases h5 : x5 = y5
  case neg => simp [h5]
  simp [h5]
theorem neq_hp (x y : Hp) (w : World) : (binOp .neq 43 (.agg (hpa x)) (.agg (hpa y))).run Tryz.prog w = .ok (.bool (!decide (x = y))) w := by
  rw [run_neq_struct, equalIn_hp]; rfl
theorem eqg_hp (op : BinOp) (x y : Operand) (xs ys : Array Value) (w : World) : (eqGuard op 43 x y (.agg xs) (.agg ys)).run Tryz.prog w = .ok () w := run_eqGuard_agg w op 43 x y xs ys (by kernel_rfl)
structure Ss where
  af : Hp
  us : List Sd
  go : Int
  li : Int
def Ss.begin (h : Hp) : Ss := ⟨h, [], 0, 0⟩
def Ss.none : Ss := ⟨Hp.none, [], 0, 0⟩
def Ss.more (F : List Fe) (h0 : Hp) (x : Ss) (s : Sd) : Ss := ⟨behH F s x.af, x.us ++ [s], if h0.vb = 6 then s.wh.ct else x.go, if h0.vb = 3 then s.wh.ct else x.li⟩
def allQ (cd : Int → Hd × List Pt) (ts : List Th) (F : List Fe) (L : List Sd) (h0 : Hp) : Nat → Ss → Ss
  | 0, x => x
  | m + 1, x => if x.af = Hp.none then x else match nxtN cd ts F L x.af x.us with
    | none => x
    | some s => allQ cd ts F L h0 m (x.more F h0 s)
def leftN (L us : List Sd) : Nat := (L.filter fun s => !amgB us s).length
theorem amg_self (us : List Sd) (s : Sd) : amgB (us ++ [s]) s = true := by unfold amgB; simp
theorem amg_more {us : List Sd} {s o : Sd} (h : amgB us o = true) : amgB (us ++ [s]) o = true := by unfold amgB at *; rw [List.any_append, h, Bool.true_or]
theorem left_le (us : List Sd) (s : Sd) : ∀ L : List Sd, leftN L (us ++ [s]) ≤ leftN L us
  | [] => Nat.le_refl _
  | o :: L => by
    have := left_le us s L
    unfold leftN at *
    cases h : amgB us o with
    | true => rw [List.filter_cons, List.filter_cons, amg_more h, h]; simpa using this
    | false =>
      cases h2 : amgB (us ++ [s]) o with
      | true => rw [List.filter_cons, List.filter_cons, h, h2]; simp; omega
      | false => rw [List.filter_cons, List.filter_cons, h, h2]; simp; omega
theorem left_lt {us : List Sd} {s : Sd} (hs : amgB us s = false) : ∀ {L : List Sd}, s ∈ L → leftN L (us ++ [s]) < leftN L us
  | o :: L, h => by
    rcases List.mem_cons.1 h with rfl | h
    · have := left_le us s L
      unfold leftN at *
      rw [List.filter_cons, List.filter_cons, hs, amg_self]
      simp
      omega
    · have ih := left_lt hs h
      unfold leftN at *
      cases h1 : amgB us o with
      | true => rw [List.filter_cons, List.filter_cons, amg_more h1, h1]; simpa using ih
      | false =>
        cases h2 : amgB (us ++ [s]) o with
        | true => rw [List.filter_cons, List.filter_cons, h1, h2]; simp; omega
        | false => rw [List.filter_cons, List.filter_cons, h1, h2]; simp; omega
theorem nxt_mem {cd : Int → Hd × List Pt} {ts : List Th} {F : List Fe} {L us : List Sd} {h : Hp} {s : Sd} (e : nxtN cd ts F L h us = some s) : s ∈ L ∧ amgB us s = false ∧ swpB cd ts F s h = true := by
  unfold nxtN at e
  have h1 := List.find?_some e
  unfold nxtB at h1
  simp only [Bool.and_eq_true, Bool.not_eq_true'] at h1
  exact ⟨List.mem_of_find?_eq_some e, h1.1, h1.2⟩
theorem allQ_step {cd : Int → Hd × List Pt} {ts : List Th} {F : List Fe} {L : List Sd} {h0 : Hp} (m : Nat) {x : Ss} {s : Sd} (hz : ¬ x.af = Hp.none) (h : nxtN cd ts F L x.af x.us = some s) : allQ cd ts F L h0 (m + 1) x = allQ cd ts F L h0 m (x.more F h0 s) := by
  show (if x.af = Hp.none then x else match nxtN cd ts F L x.af x.us with
    | none => x
    | some s => allQ cd ts F L h0 m (x.more F h0 s)) = _
  rw [if_neg hz, h]
theorem allQ_fuel {cd : Int → Hd × List Pt} {ts : List Th} {F : List Fe} {L : List Sd} {h0 : Hp} : ∀ (m : Nat) (x : Ss), leftN L x.us ≤ m → allQ cd ts F L h0 m x = allQ cd ts F L h0 (leftN L x.us) x
  | 0, x, h => by rw [Nat.le_zero.1 h]
  | m + 1, x, h => by
    by_cases hz : x.af = Hp.none
    · have : ∀ k, allQ cd ts F L h0 k x = x := fun k => by cases k with | zero => rfl | succ k => unfold allQ; rw [if_pos hz]
      rw [this, this]
    · cases hn : nxtN cd ts F L x.af x.us with
      | none =>
        have : ∀ k, allQ cd ts F L h0 k x = x := fun k => by cases k with | zero => rfl | succ k => unfold allQ; rw [if_neg hz, hn]
        rw [this, this]
      | some s =>
        obtain ⟨h1, h2, _⟩ := nxt_mem hn
        have hlt := left_lt h2 h1
        obtain ⟨k, hk⟩ : ∃ k, leftN L x.us = k + 1 := ⟨leftN L x.us - 1, by omega⟩
        rw [hk]
        rw [allQ_step m hz hn, allQ_step k hz hn]
        have e1 : (x.more F h0 s).us = x.us ++ [s] := rfl
        rw [allQ_fuel m _ (by rw [e1]; omega), ← allQ_fuel k _ (by rw [e1]; omega)]
def allS2 (cd : Int → Hd × List Pt) (ts : List Th) (F : List Fe) (L : List Sd) (h0 : Hp) (x : Ss) : Ss := allQ cd ts F L h0 (leftN L x.us) x
theorem allS2_end {cd : Int → Hd × List Pt} {ts : List Th} {F : List Fe} {L : List Sd} {h0 : Hp} {x : Ss} (h : x.af = Hp.none) : allS2 cd ts F L h0 x = x := by
  unfold allS2
  cases leftN L x.us with
  | zero => rfl
  | succ k => unfold allQ; rw [if_pos h]
theorem allS2_no {cd : Int → Hd × List Pt} {ts : List Th} {F : List Fe} {L : List Sd} {h0 : Hp} {x : Ss} (h : nxtN cd ts F L x.af x.us = none) : allS2 cd ts F L h0 x = x := by
  unfold allS2
  cases leftN L x.us with
  | zero => rfl
  | succ k =>
    unfold allQ
    by_cases hz : x.af = Hp.none
    · rw [if_pos hz]
    · rw [if_neg hz, h]
theorem allS2_more {cd : Int → Hd × List Pt} {ts : List Th} {F : List Fe} {L : List Sd} {h0 : Hp} {x : Ss} {s : Sd} (hz : ¬ x.af = Hp.none) (h : nxtN cd ts F L x.af x.us = some s) : allS2 cd ts F L h0 x = allS2 cd ts F L h0 (x.more F h0 s) := by
  obtain ⟨h1, h2, _⟩ := nxt_mem h
  have hlt := left_lt h2 h1
  obtain ⟨k, hk⟩ : ∃ k, leftN L x.us = k + 1 := ⟨leftN L x.us - 1, by omega⟩
  unfold allS2
  rw [hk, allQ_step k hz h]
  have e1 : (x.more F h0 s).us = x.us ++ [s] := rfl
  exact allQ_fuel k _ (by rw [e1]; omega)
end Go.Proofs.YthfjgpjcepmnmaaGreat
