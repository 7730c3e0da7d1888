/-
  ThingMarks, of every fill of a book, features, marks and thing.
  thing's Card, Printed and Unit, and the document's: of whatever answers a card.
-/
import Derived.Test.YtogpgldbbegniabA25
import Derived.Test.YtogpgldbbegniabBoB
import Derived.Laws.StructEq
import Derived.ChangeKeysEq
import Derived.Test.YtogpgldbbegniabA21
import Derived.Test.YtogpgldbbegniabA24
import Derived.Test.YtogpgldbbegniabTgM
namespace Go.Proofs.Ytogpgldbbegniab
open Go.RowKit

/-- What Marked tells of a book made: features, and the fault. -/
def mdF (p : Pl) (f : Fe) (c0 c1 c2 c3 : Int) : Fe := if okcs c0 c1 c2 c3 = true then mkdF p f c0 c1 c2 c3 else Fe.none
def mdE (c0 c1 c2 c3 : Int) : Int := if okcs c0 c1 c2 c3 = true then 0 else 2
theorem marked_any (ok : Nat → Prop) (b : Nat) (es : List Ent) (p : Pl) (f : Fe) (c0 c1 c2 c3 : Int) (w : World) (B : Book ok w b es p) : Calls Try.prog 6 #[.pointer (some ⟨b, 0, none⟩), fev f, .agg #[.int .i64 c0, .int .i64 c1, .int .i64 c2, .int .i64 c3]] w fun e w' => e = .returned (.tuple #[fev (mdF p f c0 c1 c2 c3), .int .i64 (mdE c0 c1 c2 c3)]) ∧ w.grownBy w' none := by
  unfold mdF mdE
  cases h : okcs c0 c1 c2 c3 with
  | true => rw [if_pos rfl, if_pos rfl]; exact marked_yes ok b es p f c0 c1 c2 c3 w B h
  | false => rw [if_neg (by decide), if_neg (by decide)]; exact marked_no ok b es p f c0 c1 c2 c3 w B h
set_option maxHeartbeats 2000000 in
theorem equalIn_fe (a0 a1 a2 a3 a4 : Int) (w : World) : (Op.equalIn 10000 30 (.agg #[.int .i64 a0, .int .u8 a1, .int .u16 a2, .int .i64 a3, .int .i64 a4]) (.agg #[.int .i64 a0, .int .u8 a1, .int .u16 a2, .int .i64 a3, .int .i64 a4])).run Try.prog w = .ok true w := by
  have hS : Try.prog.underlying 30 = some (.struct (Try.prog.fieldsOf 30)) := by kernel_rfl
  have hp : Try.prog.stoodInHeld 30 = false := by kernel_rfl
  have u3 := Try.underlying3
  have i3 := Try.isAgg3
  have z3 := Try.sizeOf3
  have uS := Try.underlying26
  have iS := Try.isAgg26
  have zS := Try.sizeOf26
  have uT := Try.underlying28
  have iT := Try.isAgg28
  have zT := Try.sizeOf28
  rw [show (10000 : Nat) = 9999 + 1 from rfl, run_equalIn_agg w 9999 30 _ _ hS hp]
  simp only [Program.fieldsOf, Try.underlying30]
  go_simp
theorem eql_fe (a0 a1 a2 a3 a4 : Int) (w : World) : (binOp .eql 30 (.agg #[.int .i64 a0, .int .u8 a1, .int .u16 a2, .int .i64 a3, .int .i64 a4]) (.agg #[.int .i64 a0, .int .u8 a1, .int .u16 a2, .int .i64 a3, .int .i64 a4])).run Try.prog w = .ok (.bool true) w := by
  rw [run_eql_struct, equalIn_fe]; rfl
theorem eqg_fe (op : BinOp) (x y : Operand) (xs ys : Array Value) (w : World) : (eqGuard op 30 x y (.agg xs) (.agg ys)).run Try.prog w = .ok () w := run_eqGuard_agg w op 30 x y xs ys (by kernel_rfl)
theorem alloc4_at (w : World) (o o2 o3 : Obj) (cs : Array Value) (t : TypeId) : ((((w.alloc o).alloc o2).alloc o3).alloc (.cells cs t)).heap[w.heap.size + 1 + 1 + 1]? = some (.cells cs t (0, 0)) := by have := alloc_at (((w.alloc o).alloc o2).alloc o3) cs t; rwa [World.size_alloc, World.size_alloc, World.size_alloc] at this
end Go.Proofs.Ytogpgldbbegniab
namespace Go.Proofs.Ytogpgldbbegniab
open Go.RowKit

/-- A card and the fault are told, the parts in memory of their own. -/
def CrPost (h : Hd) (ps : List Pt) (x : Int) (w : World) (e : Ending) (w' : World) : Prop := ∃ u, e = .returned (.tuple #[cv h u, .int .i64 x]) ∧ POwn w' w.heap.size u ps ∧ w.grownBy w' none
/-- The features printed on a card, and the fault. -/
def own01 (t : Th) : Bool := decide (t.owner = 0) || decide (t.owner = 1)
def ptF (h : Hd) (x : Int) (t : Th) : Fe := if x = 0 ∧ own01 t = true then ⟨t.owner, h.su, h.tr, h.po, h.he⟩ else Fe.none
def ptE (x : Int) (t : Th) : Int := if x = 0 then (if own01 t = true then 0 else 2) else x
def unB (h : Hd) (x : Int) (t : Th) : Bool := decide (x = 0) && (decide (t.place = 4) && decide (h.kd = 1))
set_option maxRecDepth 100000 in
set_option maxHeartbeats 4000000 in
theorem tcard_of (bv : Value) (t : Th) (h : Hd) (ps : List Pt) (x : Int) (w : World) (HAt : ∀ X, w.grownBy X none → Calls Try.prog 25 #[bv, .int .i64 t.card] X (CrPost h ps x X)) : Calls Try.prog 8 #[bv, thv t] w (CrPost h ps x w) := by
  obtain ⟨W0, hW0⟩ : ∃ W0, W0 = w.alloc (.cells #[.int .i64 t.card, .int .i64 t.owner, .int .u8 t.place, .int .i64 t.stamp, .int .i64 t.hurt, .int .i64 t.m0, .int .i64 t.m1, .int .i64 t.m2, .int .i64 t.m3, .int .i64 t.done, .bool t.fresh] 34) := ⟨_, rfl⟩
  obtain ⟨W1, hW1⟩ : ∃ W1, W1 = W0.alloc (.cells (ccs Hd.none (.slice none 0 0)) 47) := ⟨_, rfl⟩
  have HG0 : Hid (w.grownBy W0 none) := by rw [hW0]; exact World.grownBy_alloc _ _ none
  have HG1 : Hid (w.grownBy W1 none) := by rw [hW1]; exact grown_push HG0.out _
  have HC1 : Hid (CAt W1 W0.heap.size Hd.none (.slice none 0 0)) := by rw [hW1]; exact alloc_at W0 _ _
  have HS : Hid (W0.heap.size = w.heap.size + 1 ∧ W1.heap.size = W0.heap.size + 1) := ⟨by rw [hW0, World.size_alloc], by rw [hW1, World.size_alloc]⟩
  have HT : Hid (W1.heap[w.heap.size]? = some (.cells #[.int .i64 t.card, .int .i64 t.owner, .int .u8 t.place, .int .i64 t.stamp, .int .i64 t.hurt, .int .i64 t.m0, .int .i64 t.m1, .int .i64 t.m2, .int .i64 t.m3, .int .i64 t.done, .bool t.fresh] 34 (0, 0))) := by rw [hW1]; exact grown_keep (World.grownBy_alloc _ _ none) (by rw [hW0]; exact alloc_at w _ _) (by simp)
  have HA := HAt W1 HG1.out
  unfold CrPost at HA
  obtain ⟨K, hK⟩ : ∃ K, K = W0.heap.size := ⟨_, rfl⟩
  have HK : Hid (K = W0.heap.size) := hK
  rw [← hK] at HC1
  have hK2 : K = w.heap.size + 1 := by rw [hK, HS.out.1]
  unfold cv at HA
  unfold thv
  unfold ccs Hd.none at hW1
  rw [hW0] at hW1
  clear hW0 HAt hK
  go_enter Try.func8, Try.ntmps8
  go_upto_region 1 with fail
  rw [← hW1]
  clear hW1
  rw [← hK2]
  clear hK2
  have x0 := block_cell HT.out 0
  go_wp2_with (first | (go_at_call 25; refine HA.mono ?_; rintro e w2 ⟨u, rfl, o2, g2⟩; obtain ⟨a2, k2, rfl⟩ := o2.at.form; have HO2 : Hid (POwn w2 W1.heap.size (.slice a2 ps.length k2) ps) := o2; have HG2 : Hid (w.grownBy w2 none) := grown_trans HG1.out g2; have C2 := HC1.out.keep g2; obtain ⟨z0, z1, z2, z3, z4, z5, z6, z7, z8⟩ := C2.cells; have zf := fun i => C2.free i; simp only [Hd.none] at z0 z1 z2 z3 z4 z5 z6 z7 z8; clear o2 C2) | fail)
  refine bodyPost_ret (v := .tuple #[cv h (.slice a2 ps.length k2), .int .i64 x]) (by simp [results, Try.results8, go_sem, z0, z1, z2, z3, z4, z5, z6, z7, z8, cv]) rfl ⟨.slice a2 ps.length k2, rfl, ?_, ?_⟩
  · have := (HO2.out.keep (grown_s9 w2 K 0 h (.slice a2 ps.length k2)) (fun x e => by cases e; have := HS.out; have := HK.out; omega)).big (show w.heap.size ≤ W1.heap.size by have := HS.out; omega)
    unfold set9 at this
    simp only [Nat.zero_add] at this
    exact this
  · have := grown_own HG2.out (grown_s9 w2 K 0 h (.slice a2 ps.length k2)) (fun x e => by cases e; have := HS.out; have := HK.out; omega)
    unfold set9 at this
    simp only [Nat.zero_add] at this
    exact this
set_option maxRecDepth 100000 in
set_option maxHeartbeats 4000000 in
theorem tprinted_of (bv : Value) (t : Th) (h : Hd) (ps : List Pt) (x : Int) (w : World) (HC : ∀ X, w.grownBy X none → Calls Try.prog 8 #[bv, thv t] X (CrPost h ps x X)) : Calls Try.prog 27 #[bv, thv t] w fun e w' => e = .returned (.tuple #[fev (ptF h x t), .int .i64 (ptE x t)]) ∧ w.grownBy w' none := by
  obtain ⟨W1, hW1⟩ : ∃ W1, W1 = (w.alloc (.cells #[.int .i64 t.card, .int .i64 t.owner, .int .u8 t.place, .int .i64 t.stamp, .int .i64 t.hurt, .int .i64 t.m0, .int .i64 t.m1, .int .i64 t.m2, .int .i64 t.m3, .int .i64 t.done, .bool t.fresh] 34)).alloc (.cells #[.int .i64 0, .int .u8 0, .int .u16 0, .int .i64 0, .int .i64 0] 30) := ⟨_, rfl⟩
  have HG1 : Hid (w.grownBy W1 none) := by rw [hW1]; exact grown_push (World.grownBy_alloc _ _ none) _
  have HT : Hid (W1.heap[w.heap.size]? = some (.cells #[.int .i64 t.card, .int .i64 t.owner, .int .u8 t.place, .int .i64 t.stamp, .int .i64 t.hurt, .int .i64 t.m0, .int .i64 t.m1, .int .i64 t.m2, .int .i64 t.m3, .int .i64 t.done, .bool t.fresh] 34 (0, 0))) := by rw [hW1]; exact grown_keep (World.grownBy_alloc _ _ none) (alloc_at w _ _) (by simp)
  have HR : Hid (W1.heap[w.heap.size + 1]? = some (.cells #[.int .i64 0, .int .u8 0, .int .u16 0, .int .i64 0, .int .i64 0] 30 (0, 0))) := by rw [hW1]; exact alloc2_at _ _ _ _
  have HC1 := HC W1 HG1.out
  unfold CrPost cv thv at HC1
  unfold fev thv
  clear HC
  go_enter Try.func27, Try.ntmps27
  go_upto_region 1 with fail
  rw [← hW1]
  clear hW1
  obtain ⟨n0, h0⟩ : ∃ n0, n0 = w.heap.size := ⟨_, rfl⟩
  have HN : Hid (w.heap.size ≤ n0 + 1) := by show _ ≤ _; omega
  simp only [← h0] at HT HR ⊢
  obtain ⟨R, h1⟩ : ∃ R, R = n0 + 1 := ⟨_, rfl⟩
  simp only [← h1] at HR HN ⊢
  clear h0 h1
  have x0 := block_cell HT.out 0
  have x1 := block_cell HT.out 1
  have x2 := block_cell HT.out 2
  have x3 := block_cell HT.out 3
  have x4 := block_cell HT.out 4
  have x5 := block_cell HT.out 5
  have x6 := block_cell HT.out 6
  have x7 := block_cell HT.out 7
  have x8 := block_cell HT.out 8
  have x9 := block_cell HT.out 9
  have x10 := block_cell HT.out 10
  go_wp2_with fail
  refine HC1.mono ?_
  rintro e w2 ⟨u, rfl, o2, g2⟩
  obtain ⟨a2, k2, rfl⟩ := o2.at.form
  obtain ⟨W3, hW3⟩ : ∃ W3, W3 = w2.alloc (.cells (ccs h (.slice a2 ps.length k2)) 47) := ⟨_, rfl⟩
  have HG3 : Hid (W1.grownBy W3 none) := by rw [hW3]; exact grown_push g2 _
  have HG4 : Hid (w.grownBy W3 none) := grown_trans HG1.out HG3.out
  have HK : Hid (W3.heap[w2.heap.size]? = some (.cells (ccs h (.slice a2 ps.length k2)) 47 (0, 0))) := by rw [hW3]; exact alloc_at _ _ _
  have HT3 : Hid (W3.heap[n0]? = some (.cells #[.int .i64 t.card, .int .i64 t.owner, .int .u8 t.place, .int .i64 t.stamp, .int .i64 t.hurt, .int .i64 t.m0, .int .i64 t.m1, .int .i64 t.m2, .int .i64 t.m3, .int .i64 t.done, .bool t.fresh] 34 (0, 0))) := grown_keep HG3.out HT.out (by simp)
  have HR3 : Hid (W3.heap[R]? = some (.cells #[.int .i64 0, .int .u8 0, .int .u16 0, .int .i64 0, .int .i64 0] 30 (0, 0))) := grown_keep HG3.out HR.out (by simp)
  unfold ccs at hW3
  clear HC1 o2 g2 HG3 HT HR HG1 x0 x1 x2 x3 x4 x5 x6 x7 x8 x9 x10
  go_upto_region 2 with fail
  rw [← hW3]
  clear hW3
  obtain ⟨k, hk⟩ : ∃ k, k = w2.heap.size := ⟨_, rfl⟩
  rw [← hk] at HK ⊢
  clear hk
  have y1 := block_cell HT3.out 1
  have q1 := block_cell HK.out 1
  have q4 := block_cell HK.out 4
  have q5 := block_cell HK.out 5
  have q6 := block_cell HK.out 6
  simp only [ccs] at q1 q4 q5 q6
  have r0 := block_cell HR3.out 0
  have r1 := block_cell HR3.out 1
  have r2 := block_cell HR3.out 2
  have r3 := block_cell HR3.out 3
  have r4 := block_cell HR3.out 4
  have rf := fun i => block_free HR3.out i
  by_cases hx : x = 0
  · subst hx
    cases ho : own01 t with
    | true =>
      have HE : Hid (ptF h 0 t = ⟨t.owner, h.su, h.tr, h.po, h.he⟩ ∧ ptE 0 t = 0) := by unfold ptF ptE; rw [ho]; exact ⟨rfl, rfl⟩
      rcases (show t.owner = 0 ∨ t.owner = 1 from by unfold own01 at ho; simpa using ho) with e | e
      · clear ho
        rw [e] at y1
        have HEo : Hid (t.owner = 0) := e
        clear e
        go_wp2
        refine bodyPost_ret (v := .tuple #[fev ⟨0, h.su, h.tr, h.po, h.he⟩, .int .i64 0]) (by simp [results, Try.results27, go_sem, fev, r0, r1, r2, r3, r4]) rfl ⟨by rw [HE.out.1, HE.out.2, HEo.out]; rfl, ?_⟩
        exact grown_own HG4.out (((((grown_set _ _ _ _).trans (grown_set _ _ _ _)).trans (grown_set _ _ _ _)).trans (grown_set _ _ _ _)).trans (grown_set _ _ _ _)) (fun y e => by cases e; exact HN.out)
      · clear ho
        rw [e] at y1
        have HEo : Hid (t.owner = 1) := e
        clear e
        go_wp2
        refine bodyPost_ret (v := .tuple #[fev ⟨1, h.su, h.tr, h.po, h.he⟩, .int .i64 0]) (by simp [results, Try.results27, go_sem, fev, r0, r1, r2, r3, r4]) rfl ⟨by rw [HE.out.1, HE.out.2, HEo.out]; rfl, ?_⟩
        exact grown_own HG4.out (((((grown_set _ _ _ _).trans (grown_set _ _ _ _)).trans (grown_set _ _ _ _)).trans (grown_set _ _ _ _)).trans (grown_set _ _ _ _)) (fun y e => by cases e; exact HN.out)
    | false =>
      have HE : Hid (ptF h 0 t = Fe.none ∧ ptE 0 t = 2) := by unfold ptF ptE; rw [ho]; exact ⟨rfl, rfl⟩
      have hne : ¬ (t.owner = 0 ∨ t.owner = 1) := by unfold own01 at ho; simpa using ho
      have e1 : (t.owner != 0) = true := by simp; omega
      have e2 : (t.owner != 1) = true := by simp; omega
      clear ho hne
      go_wp2
      refine bodyPost_ret (v := .tuple #[fev Fe.none, .int .i64 2]) (by simp [results, Try.results27, go_sem, fev, Fe.none, r0, r1, r2, r3, r4]) rfl ⟨by rw [HE.out.1, HE.out.2]; rfl, ?_⟩
      exact grown_own HG4.out (((((grown_set _ _ _ _).trans (grown_set _ _ _ _)).trans (grown_set _ _ _ _)).trans (grown_set _ _ _ _)).trans (grown_set _ _ _ _)) (fun y e => by cases e; exact HN.out)
  · have HE : Hid (ptF h x t = Fe.none ∧ ptE x t = x) := by unfold ptF ptE; rw [if_neg (fun q => hx q.1), if_neg hx]; exact ⟨rfl, rfl⟩
    have e1 : (x != 0) = true := by simpa using hx
    clear hx
    go_wp2
    refine bodyPost_ret (v := .tuple #[fev Fe.none, .int .i64 x]) (by simp [results, Try.results27, go_sem, fev, Fe.none, r0, r1, r2, r3, r4]) rfl ⟨by rw [HE.out.1, HE.out.2]; rfl, ?_⟩
    exact grown_own HG4.out (((((grown_set _ _ _ _).trans (grown_set _ _ _ _)).trans (grown_set _ _ _ _)).trans (grown_set _ _ _ _)).trans (grown_set _ _ _ _)) (fun y e => by cases e; exact HN.out)
theorem ret_b {a b : Bool} (h : a = b) : Ending.returned (.bool a) = Ending.returned (.bool b) := by rw [h]
theorem tcard_book (ok : Nat → Prop) (b : Nat) (es : List Ent) (p : Pl) (t : Th) (w : World) (B : Book ok w b es p) : Calls Try.prog 8 #[.pointer (some ⟨b, 0, none⟩), thv t] w (CrPost (atC p es t.card).1 (atC p es t.card).2 (atX p es t.card) w) := tcard_of _ t _ _ _ w (fun X g => at_own ok b es p t.card X (B.keep g))
theorem tcard_none (v : Value) (t : Th) (w : World) (B : NoBk w v) : Calls Try.prog 8 #[v, thv t] w (CrPost Hd.none [] 1 w) := tcard_of _ t _ _ _ w (fun X g => (at_no v t.card X (B.keep g)).mono fun _ _ q => ⟨_, q.1, POwn.nil _ _, q.2⟩)
end Go.Proofs.Ytogpgldbbegniab
