/-
  What is no book: Cards goes over nothing; none answers true.
-/
import Derived.Test.YthpdaiknpdoeiaaBok
import Derived.RangeFuncNested
import Derived.RangeFuncBound
import Derived.RangeFuncCalls
import Derived.RangeFuncLeaves
import Derived.Shelf.Abstract
import Derived.Shelf.RegionOpen
import Derived.OwnWalkIn
import Derived.TacticsInMore
import Derived.LoopNIn
import Derived.LoopIn
namespace Go.Proofs.Ythpdaiknpdoeiaa
open Go.RowKit Go.Shelf

attribute [local go_sem] Oper.semAt_some

set_option maxRecDepth 100000 in
theorem cloneC_nil (w : World) : Calls Try.prog 45 #[.slice none 0 0] w fun e w' => e = .returned (.slice none 0 0) ∧ w' = w := by
  have hn : ∀ w, (binOp .eql 45 (.slice none 0 0) (.slice none 0 0)).run Try.prog w = .ok (.bool true) w := fun w => by kernel_rfl
  go_enter Try.func45, Try.ntmps45
  go_wp2
  go_ret
  exact ⟨rfl, rfl⟩
theorem cards_no (v : Value) (w : World) (h : NoBk w v) : Calls Try.prog 24 #[v] w fun e w' => ∃ x, e = .returned (.func (.func 46) #[] #[.pointer (some ⟨x, 0, none⟩)]) ∧ w'.cell? ⟨x, 0, none⟩ = some (.slice none 0 0) ∧ x < w'.heap.size ∧ w.grownBy w' none := by
  have hmf : ∀ fn bound caps ww, (Instr.makeFunc fn bound caps).run Try.prog ww = .ok (.func fn bound caps) ww := fun _ _ _ _ => rfl
  go_enter Try.func24, Try.ntmps24
  go_wp2_with (first | (go_at_call 31; refine (list_no' _ _ h).mono ?_; rintro e w1 ⟨rfl, h1⟩; obtain rfl : w = w1 := h1.symm) | (go_at_call 45; refine (cloneC_nil _).mono ?_; rintro e w1 ⟨rfl, h1⟩; obtain rfl : w = w1 := h1.symm) | fail)
  go_ret
  exact ⟨w.heap.size, rfl, block_cell (alloc_at w _ _) 0, by simp, World.grownBy_alloc _ _ none⟩
set_option maxRecDepth 100000 in
set_option maxHeartbeats 2000000 in
theorem seq_none (F : Fence) (n : Nat) (h : F.fn 46) (hro : F.round = none) (x : Nat) (w : World) (hx : w.cell? ⟨x, 0, none⟩ = some (.slice none 0 0)) (hl : x < w.heap.size) :
    SeqStopsK F n Try.prog 46 #[.pointer (some ⟨x, 0, none⟩)] (fun e : Empty => (nomatch e : Array Value)) (fun _ _ => True) (fun xs => xs = []) (fun _ => False) 0 w := fun l J Jx W hW _ _ _ h0 => by
  have hc : W.cell? ⟨x, 0, none⟩ = some (.slice none 0 0) := (hW.cell (p := ⟨x, 0, none⟩) hl).trans hx
  refine callsIn_of_wp Try.func46 rfl h ?_ hro
  simp only [Try.ntmps46, List.size_toArray, List.length_cons, List.length_nil, Nat.reduceAdd, Nat.reduceSub, Array.replicate_succ, Array.replicate_zero, List.push_toArray, List.append_toArray, List.nil_append, List.cons_append]
  gi_wp2
  gi_loopw [7] (fun s wr => s = .int .i64 0 ∧ J [] wr) (fun _ _ => 0)
  case atStart => exact ⟨rfl, h0⟩
  case round =>
    obtain ⟨rfl, hJ⟩ := hrel
    gi_wp2
    go_end0
    exact ⟨⟨_, rfl⟩, .inl ⟨_, rfl, hJ⟩⟩
/-- What a call is told with, as a value and as cells. -/
structure Act where
  kd : Int
  onn : Int
  h : Hd
  v : Value
  t : Int
  nm : ByteArray
  m : Mk
  n : Int
def acs (a : Act) : Array Value := #[.int .i64 a.kd, .int .i64 a.onn, .string a.h.nm, .int .u8 a.h.su, .int .u8 a.h.kd, .int .i64 a.h.co, .int .i64 a.h.po, .int .i64 a.h.he, .int .u16 a.h.tr, .bool a.h.tk, a.v, .int .u8 a.t, .string a.nm, .int .u8 a.m.mi, .string a.m.nm, .int .i64 a.m.po, .int .i64 a.m.he, .int .i64 a.n]
theorem fnil (x : Nat) (w : World) : Sem.run Try.prog (binOp BinOp.eql 80 (Value.func (Fn.func 46) #[] #[.pointer (some ⟨x, 0, none⟩)]) Value.nilFunc) w = .ok (.bool false) w := by kernel_rfl
set_option maxRecDepth 100000 in
theorem eqm0 (w : World) : (binOp .eql 31 (.agg #[.int .u8 0, .string ⟨#[]⟩, .int .i64 0, .int .i64 0]) (.agg #[.int .u8 0, .string ⟨#[]⟩, .int .i64 0, .int .i64 0])).run Try.prog w = .ok (.bool true) w := by
  have hS : Try.prog.underlying 31 = some (.struct (Try.prog.fieldsOf 31)) := by kernel_rfl
  have hp : Try.prog.stoodInHeld 31 = false := by kernel_rfl
  rw [run_eql_struct, show (10000 : Nat) = 9999 + 1 from rfl, run_equalIn_agg w 9999 31 _ _ hS hp]
  simp only [Program.fieldsOf, Try.underlying31]
  go_simp
def AAt (w : World) (b : Nat) (a : Act) : Prop := w.heap[b]? = some (.cells (acs a) 33 (0, 0))
theorem AAt.keep {w w' : World} {b : Nat} {a : Act} (k : AAt w b a) (g : w.grownBy w' none) : AAt w' b a := grown_keep g k (by simp)
theorem AAt.at {w : World} {b : Nat} {a : Act} (k : AAt w b a) (i : Nat) : w.cell? ⟨b, i, none⟩ = (acs a)[i]? := block_cell k i
set_option maxRecDepth 100000 in
set_option maxHeartbeats 4000000 in
theorem none_any (v : Value) (a : Act) (w : World) (h : NoBk w v) (hv : ∃ x y z, a.v = .slice x y z) : Calls Try.prog 7 #[v, .agg (acs a)] w fun e w' => e = .returned (.bool true) ∧ w.grownBy w' none := by
  obtain ⟨vp, rfl⟩ := h.form
  obtain ⟨W1, hW1⟩ : ∃ W1, W1 = w.alloc (.cells (acs a) 33) := ⟨_, rfl⟩
  have HG1 : Hid (w.grownBy W1 none) := by rw [hW1]; exact World.grownBy_alloc _ _ none
  have HA1 : Hid (AAt W1 w.heap.size a) := by rw [hW1]; exact alloc_at w _ _
  have HN1 : Hid (NoBk W1 (.pointer vp)) := h.keep HG1.out
  clear h
  obtain ⟨kd, onn, hd, v0, t, nm, m, n⟩ := a
  obtain ⟨mi, mnm, mpo, mhe⟩ := m
  simp only at hv
  obtain ⟨s1, s2, s3, rfl⟩ := hv
  unfold acs at hW1 ⊢
  simp only at hW1 ⊢
  refine (callsIn_wide (n := 3)).1 ?_
  refine callsIn_of_wp_marks Try.func7 rfl trivial ?_ rfl
  simp only [Try.ntmps7, List.size_toArray, List.length_cons, List.length_nil, Nat.reduceAdd, Nat.reduceSub, Array.replicate_succ, Array.replicate_zero, List.push_toArray, List.append_toArray, List.nil_append, List.cons_append]
  -- STEPS
  gi_wp2_with fail
  rw [← hW1]
  clear hW1
  refine ⟨trivial, ?_⟩
  refine (callsIn_wide.2 (find_no _ nm _ HN1.out)).mono ?_
  rintro e w2 ⟨rfl, g2⟩
  have HG2 : Hid (W1.grownBy w2 none) := g2
  clear g2
  have c17 : w2.cell? ⟨w.heap.size, 17, none⟩ = some (.int .i64 n) := (HA1.out.keep HG2.out).at 17
  gi_wp2_with fail
  clear c17
  refine ⟨trivial, ?_⟩
  refine (callsIn_wide.2 (at_no _ n _ (HN1.out.keep HG2.out))).mono ?_
  rintro e w3 ⟨rfl, g3⟩
  have HG3 : Hid (W1.grownBy w3 none) := grown_trans HG2.out g3
  clear g3 HG2
  unfold cv Hd.none
  obtain ⟨W3, hW3⟩ : ∃ W3, W3 = w3.alloc (.cells (ccs Hd.none (.slice none 0 0)) 28) := ⟨_, rfl⟩
  have HW3 : Hid (W1.grownBy W3 none) := by rw [hW3]; exact grown_push HG3.out _
  have HC3 : Hid (CAt W3 w3.heap.size Hd.none (.slice none 0 0)) := by rw [hW3]; exact alloc_at w3 _ _
  have d11 : W3.cell? ⟨w.heap.size, 11, none⟩ = some (.int .u8 t) := (HA1.out.keep HW3.out).at 11
  rw [hW3] at d11
  unfold ccs Hd.none at hW3 d11
  gi_wp2_with fail
  rw [← hW3]
  clear hW3 d11 HG3
  refine ⟨trivial, ?_⟩
  refine (callsIn_wide.2 (traitName_no _ t _ (HN1.out.keep HW3.out))).mono ?_
  rintro e w4 ⟨rfl, h4⟩
  obtain rfl : W3 = w4 := h4.symm
  have c13 : W3.cell? ⟨w.heap.size, 13, none⟩ = some (.int .u8 mi) := (HA1.out.keep HW3.out).at 13
  gi_wp2_with fail
  clear c13
  refine ⟨trivial, ?_⟩
  refine (callsIn_wide.2 (markOf_no _ mi _ (HN1.out.keep HW3.out))).mono ?_
  rintro e w5 ⟨rfl, g5⟩
  have HG5 : Hid (W3.grownBy w5 none) := g5
  clear g5
  unfold mv Mk.none
  obtain ⟨W5, hW5⟩ : ∃ W5, W5 = w5.alloc (.cells #[.int .u8 0, .string ⟨#[]⟩, .int .i64 0, .int .i64 0] 31) := ⟨_, rfl⟩
  have HW5 : Hid (W3.grownBy W5 none) := by rw [hW5]; exact grown_push HG5.out _
  have HM5 : Hid (W5.heap[w5.heap.size]? = some (.cells #[.int .u8 0, .string ⟨#[]⟩, .int .i64 0, .int .i64 0] 31 (0, 0))) := by rw [hW5]; exact alloc_at w5 _ _
  gi_wp2_with fail
  rw [← hW5]
  clear hW5 HG5
  refine ⟨trivial, ?_⟩
  refine (callsIn_wide.2 (cards_no _ _ (HN1.out.keep (grown_trans HW3.out HW5.out)))).mono ?_
  rintro e w6 ⟨x, rfl, hx6, hl6, g6⟩
  have HG6 : Hid (W5.grownBy w6 none) := g6
  have HX6 : Hid (w6.cell? ⟨x, 0, none⟩ = some (.slice none 0 0)) := hx6
  have HL6 : Hid (x < w6.heap.size) := hl6
  clear g6 hx6 hl6
  obtain ⟨W6, hW6⟩ : ∃ W6, W6 = w6.alloc (.cells #[.int .i64 0] 3) := ⟨_, rfl⟩
  have HW6 : Hid (w6.grownBy W6 none) := by rw [hW6]; exact World.grownBy_alloc _ _ none
  have HN6 : Hid (W6.heap[w6.heap.size]? = some (.cells #[.int .i64 0] 3 (0, 0))) := by rw [hW6]; exact alloc_at w6 _ _
  have hfn := fnil
  gi_wp2_with fail
  rw [← hW6]
  clear hW6
  have HX7 : Hid (W6.cell? ⟨x, 0, none⟩ = some (.slice none 0 0)) := HW6.out.cell HX6.out (by simp)
  have HL7 : Hid (x < W6.heap.size) := Nat.lt_of_lt_of_le HL6.out HW6.out.size
  have HWW : Hid (W1.grownBy W6 none) := grown_trans HW3.out (grown_trans HW5.out (grown_trans HG6.out HW6.out))
  refine wpIn_rangeFunc_ownF rfl (by omega) (gf := 46) (lb := #[.pointer (some ⟨x, 0, none⟩)]) rfl trivial (enters_of Try.func46 (by kernel_rfl) rfl) (seq_none Fence.wide _ trivial rfl x W6 HX7.out HL7.out) (fun _ _ => trivial) (fun _ _ _ _ _ _ _ _ => trivial) (Below.refl _ _) (fun e => nomatch e)
    (fun _ W => Below W6.heap.size W6 W) (fun _ _ _ => False) (ownFrom_below (Nat.le_refl _) (Nat.le_refl _)) (fun _ _ _ _ _ h _ _ => h) (Below.refl _ _) (fun e => nomatch e) (fun _ e => nomatch e) (fun _ _ e => nomatch e) ?done ?stop
  case stop =>
    rintro D c pre W _ h _
    exact h.elim
  case done =>
    rintro D ys W hD rfl hB hK
    have HWD : Hid (W6.grownBy W none) := below_grown hB
    have HKD : Hid (W.heap[D]? = some (.deferred (some []))) := hK
    have HAW : Hid (W1.grownBy W none) := grown_trans HWW.out HWD.out
    have HNW : Hid (NoBk W (.pointer vp)) := HN1.out.keep HAW.out
    have HAA : Hid (AAt W w.heap.size { kd := kd, onn := onn, h := hd, v := Value.slice s1 s2 s3, t := t, nm := nm, m := { mi := mi, nm := mnm, po := mpo, he := mhe }, n := n }) := HA1.out.keep HAW.out
    have HCC : Hid (CAt W w3.heap.size Hd.none (.slice none 0 0)) := ((HC3.out.keep HW5.out).keep (grown_trans HG6.out HW6.out)).keep HWD.out
    have HMM : Hid (W.heap[w5.heap.size]? = some (.cells #[.int .u8 0, .string ⟨#[]⟩, .int .i64 0, .int .i64 0] 31 (0, 0))) := grown_keep (grown_trans (grown_trans HG6.out HW6.out) HWD.out) HM5.out (by simp)
    have HNN : Hid (W.heap[w6.heap.size]? = some (.cells #[.int .i64 0] 3 (0, 0))) := grown_keep HWD.out HN6.out (by simp)
    have HSZ : Hid (W1.heap.size ≤ W6.heap.size) := HWW.out.size
    have EGm : ∀ (op : BinOp) (x y : Operand) (xs ys : Array Value) (w : World), (eqGuard op 31 x y (.agg xs) (.agg ys)).run Try.prog w = .ok () w := fun op x y xs ys w => run_eqGuard_agg w op 31 x y xs ys (by kernel_rfl)
    have EQm : ∀ w, (binOp .eql 31 (.agg #[.int .u8 0, .string ⟨#[]⟩, .int .i64 0, .int .i64 0]) (.agg #[.int .u8 0, .string ⟨#[]⟩, .int .i64 0, .int .i64 0])).run Try.prog w = .ok (.bool true) w := eqm0
    clear hB hK HN1 HA1 HC3 HM5 HN6 HX6 HX7 HL6 HL7 HWW HW3 HW5 HG6 HW6 HWD
    have c2 : W.cell? ⟨w.heap.size, 2, none⟩ = some (.string hd.nm) := (HAA.out.keep (grown_refl _ _)).at 2
    have c3 : W.cell? ⟨w.heap.size, 3, none⟩ = some (.int .u8 hd.su) := (HAA.out.keep (grown_refl _ _)).at 3
    have c4 : W.cell? ⟨w.heap.size, 4, none⟩ = some (.int .u8 hd.kd) := (HAA.out.keep (grown_refl _ _)).at 4
    have c5 : W.cell? ⟨w.heap.size, 5, none⟩ = some (.int .i64 hd.co) := (HAA.out.keep (grown_refl _ _)).at 5
    have c6 : W.cell? ⟨w.heap.size, 6, none⟩ = some (.int .i64 hd.po) := (HAA.out.keep (grown_refl _ _)).at 6
    have c7 : W.cell? ⟨w.heap.size, 7, none⟩ = some (.int .i64 hd.he) := (HAA.out.keep (grown_refl _ _)).at 7
    have c8 : W.cell? ⟨w.heap.size, 8, none⟩ = some (.int .u16 hd.tr) := (HAA.out.keep (grown_refl _ _)).at 8
    have c9 : W.cell? ⟨w.heap.size, 9, none⟩ = some (.bool hd.tk) := (HAA.out.keep (grown_refl _ _)).at 9
    have c10 : W.cell? ⟨w.heap.size, 10, none⟩ = some (.slice s1 s2 s3) := (HAA.out.keep (grown_refl _ _)).at 10
    gi_wp2_with fail
    clear c2 c3 c4 c5 c6 c7 c8 c9 c10
    refine ⟨trivial, ?_⟩
    refine (callsIn_wide.2 (card_no _ hd (.slice s1 s2 s3) _ ⟨_, _, _, rfl⟩ HNW.out)).mono ?_
    rintro e w7 ⟨rfl, g7⟩
    have HG7 : Hid (W.grownBy w7 none) := g7
    clear g7
    have c11 : w7.cell? ⟨w.heap.size, 11, none⟩ = some (.int .u8 t) := (HAA.out.keep HG7.out).at 11
    have c12 : w7.cell? ⟨w.heap.size, 12, none⟩ = some (.string nm) := (HAA.out.keep HG7.out).at 12
    gi_wp2_with fail
    clear c11 c12
    refine ⟨trivial, ?_⟩
    refine (callsIn_wide.2 (trait_no _ t nm _ (HNW.out.keep HG7.out))).mono ?_
    rintro e w8 ⟨rfl, h8⟩
    obtain rfl : w7 = w8 := h8.symm
    have c13 : w7.cell? ⟨w.heap.size, 13, none⟩ = some (.int .u8 mi) := (HAA.out.keep HG7.out).at 13
    have c14 : w7.cell? ⟨w.heap.size, 14, none⟩ = some (.string mnm) := (HAA.out.keep HG7.out).at 14
    have c15 : w7.cell? ⟨w.heap.size, 15, none⟩ = some (.int .i64 mpo) := (HAA.out.keep HG7.out).at 15
    have c16 : w7.cell? ⟨w.heap.size, 16, none⟩ = some (.int .i64 mhe) := (HAA.out.keep HG7.out).at 16
    gi_wp2_with fail
    clear c13 c14 c15 c16
    refine ⟨trivial, ?_⟩
    refine (callsIn_wide.2 (mark_no _ ⟨mi, mnm, mpo, mhe⟩ _ (HNW.out.keep HG7.out))).mono ?_
    rintro e w9 ⟨rfl, g9⟩
    have HG9 : Hid (W.grownBy w9 none) := grown_trans HG7.out g9
    clear g9 HG7
    gi_wp2_with fail
    refine ⟨trivial, ?_⟩
    refine (callsIn_wide.2 (seal_no _ _ (HNW.out.keep HG9.out))).mono ?_
    rintro e w10 ⟨rfl, h10⟩
    obtain rfl : w9 = w10 := h10.symm
    obtain ⟨z0, z1, z2, z3, z4, z5, z6, z7, z8⟩ := (HCC.out.keep HG9.out).cells
    simp only [Hd.none] at z0 z1 z2 z3 z4 z5 z6 z7 z8
    gi_wp2_with fail
    clear z0 z1 z2 z3 z4 z5 z6 z7 z8
    refine ⟨trivial, ?_⟩
    refine (callsIn_wide.2 (sameCard_any Hd.none Hd.none (.slice none 0 0) (.slice none 0 0) [] [] _ (Or.inl ⟨rfl, rfl⟩) (Or.inl ⟨rfl, rfl⟩) (by unfold Small; decide))).mono ?_
    rintro e w11 ⟨rfl, g11⟩
    rw [show (sameHd Hd.none Hd.none && samePs [] []) = true by decide +kernel]
    have HG11 : Hid (W.grownBy w11 none) := grown_trans HG9.out g11
    clear g11 HG9
    have M11 := grown_keep HG11.out HMM.out (by simp)
    have N11 := grown_keep HG11.out HNN.out (by simp)
    have y0 : w11.cell? ⟨w5.heap.size, 0, none⟩ = some (.int .u8 0) := block_cell M11 0
    have y1 : w11.cell? ⟨w5.heap.size, 1, none⟩ = some (.string ⟨#[]⟩) := block_cell M11 1
    have y2 : w11.cell? ⟨w5.heap.size, 2, none⟩ = some (.int .i64 0) := block_cell M11 2
    have y3 : w11.cell? ⟨w5.heap.size, 3, none⟩ = some (.int .i64 0) := block_cell M11 3
    have y4 : w11.cell? ⟨w6.heap.size, 0, none⟩ = some (.int .i64 0) := block_cell N11 0
    clear M11 N11
    have c12 : w11.cell? ⟨w.heap.size, 12, none⟩ = some (.string nm) := (HAA.out.keep HG11.out).at 12
    gi_wp2_with fail
    clear c12 y0 y1 y2 y3 y4
    refine ⟨trivial, ?_⟩
    refine (callsIn_wide.2 (has_no _ nm _ (HNW.out.keep HG11.out))).mono ?_
    rintro e w12 ⟨rfl, g12⟩
    have HG12 : Hid (W.grownBy w12 none) := grown_trans HG11.out g12
    clear g12 HG11
    gi_wp2_with fail
    refine ⟨trivial, ?_⟩
    refine (callsIn_wide.2 (len_no _ _ (HNW.out.keep HG12.out))).mono ?_
    rintro e w13 ⟨rfl, h13⟩
    obtain rfl : w12 = w13 := h13.symm
    gi_wp2_with fail
    refine ⟨trivial, ?_⟩
    refine (callsIn_wide.2 (sealed_no _ _ (HNW.out.keep HG12.out))).mono ?_
    rintro e w14 ⟨rfl, h14⟩
    obtain rfl : w12 = w14 := h14.symm
    gi_wp2_with fail
    refine ⟨trivial, ?_⟩
    refine (callsIn_wide.2 (same_no1 _ _ _ (HNW.out.keep HG12.out))).mono ?_
    rintro e w15 ⟨rfl, g15⟩
    have HG15 : Hid (W.grownBy w15 none) := grown_trans HG12.out g15
    clear g15 HG12
    gi_wp2_with fail
    refine ⟨trivial, ?_⟩
    refine (callsIn_wide.2 (new_any _)).mono ?_
    rintro e w16 ⟨rfl, _, g16, _⟩
    have HG16 : Hid (W.grownBy w16 none) := grown_trans HG15.out g16
    clear g16
    gi_wp2_with fail
    refine ⟨trivial, ?_⟩
    refine (callsIn_wide.2 (same_no1 _ _ _ (HNW.out.keep HG16.out))).mono ?_
    rintro e w17 ⟨rfl, g17⟩
    have HG17 : Hid (W.grownBy w17 none) := grown_trans HG16.out g17
    clear g17 HG16
    gi_wp2_with fail
    refine ⟨trivial, ?_⟩
    refine (callsIn_wide.2 (new_any _)).mono ?_
    rintro e w18 ⟨rfl, B18, g18, _⟩
    have HG18 : Hid (W.grownBy w18 none) := grown_trans HG17.out g18
    have HF18 : Hid (Flags w18 w17.heap.size 0 plNew) := B18.flags
    clear g18 B18
    gi_wp2_with fail
    refine ⟨trivial, ?_⟩
    refine (callsIn_wide.2 (same_no2 _ 0 plNew _ _ HF18.out (HNW.out.keep HG18.out))).mono ?_
    rintro e w19 ⟨rfl, g19⟩
    have HG19 : Hid (W.grownBy w19 none) := grown_trans HG18.out g19
    clear g19
    gi_wp2
    have hK19 := grown_keep HG19.out HKD.out (by simp)
    refine ⟨by simp, .inl ⟨_, _, rfl, run_takeDeferred hK19, ?_⟩⟩
    have hD1 : w.heap.size ≤ D := Nat.le_trans (Nat.le_trans HG1.out.size HSZ.out) hD
    exact ⟨_, results_tmp rfl _ _ _, rfl, below_grown (((grown_below (grown_trans (grown_trans HG1.out HAW.out) HG19.out))).trans (belowK_b (w := w) (Nat.le_refl _) w19 D _ _ hD1 hK19 rfl rfl))⟩
end Go.Proofs.Ythpdaiknpdoeiaa
