/-
  ThingMarks, of every fill of a book, features, marks and thing.
-/
import Derived.Test.YtogpgldbbegniaaTgR
import Derived.Test.YtogpgldbbegniaaBoB
import Derived.Laws.StructEq
import Derived.ChangeKeysEq
namespace Go.Proofs.Ytogpgldbbegniaa
open Go.RowKit

/-- What Marked tells of a book made: features, and the fault. -/
def mdF (p : Pl) (f : Fe) (c0 c1 c2 c3 : Int) : Fe := if okcs c0 c1 c2 c3 = true then mkdF p f c0 c1 c2 c3 else Fe.none
def mdE (c0 c1 c2 c3 : Int) : Int := if okcs c0 c1 c2 c3 = true then 0 else 2
theorem marked_any (ok : Nat → Prop) (b : Nat) (es : List Ent) (p : Pl) (f : Fe) (c0 c1 c2 c3 : Int) (w : World) (B : Book ok w b es p) : Calls Try.prog 14 #[.pointer (some ⟨b, 0, none⟩), fev f, .agg #[.int .i64 c0, .int .i64 c1, .int .i64 c2, .int .i64 c3]] w fun e w' => e = .returned (.tuple #[fev (mdF p f c0 c1 c2 c3), .int .i64 (mdE c0 c1 c2 c3)]) ∧ w.grownBy w' none := by
  unfold mdF mdE
  cases h : okcs c0 c1 c2 c3 with
  | true => rw [if_pos rfl, if_pos rfl]; exact marked_yes ok b es p f c0 c1 c2 c3 w B h
  | false => rw [if_neg (by decide), if_neg (by decide)]; exact marked_no ok b es p f c0 c1 c2 c3 w B h
theorem rmarked_any (r : Nat) (v : Value) (p : Pl) (f : Fe) (c0 c1 c2 c3 : Int) (w : World) (B : RJ w r v p) (hD : MkD p) (hI : InI f.po ∧ InI f.he) : Calls Try.prog 15 #[.pointer (some ⟨r, 0, none⟩), fev f, .agg #[.int .i64 c0, .int .i64 c1, .int .i64 c2, .int .i64 c3]] w fun e w' => e = .returned (.tuple #[fev (mdF p f c0 c1 c2 c3), .int .i64 (mdE c0 c1 c2 c3)]) ∧ w.grownBy w' none := by
  unfold mdF mdE
  cases h : okcs c0 c1 c2 c3 with
  | true => rw [if_pos rfl, if_pos rfl]; exact rmarked_yes r v p f c0 c1 c2 c3 w B hD h hI
  | false => rw [if_neg (by decide), if_neg (by decide)]; exact rmarked_no r v p f c0 c1 c2 c3 w B h
set_option maxHeartbeats 2000000 in
theorem equalIn_fe (a0 a1 a2 a3 a4 : Int) (w : World) : (Op.equalIn 10000 53 (.agg #[.int .i64 a0, .int .u8 a1, .int .u16 a2, .int .i64 a3, .int .i64 a4]) (.agg #[.int .i64 a0, .int .u8 a1, .int .u16 a2, .int .i64 a3, .int .i64 a4])).run Try.prog w = .ok true w := by
  have hS : Try.prog.underlying 53 = some (.struct (Try.prog.fieldsOf 53)) := by kernel_rfl
  have hp : Try.prog.stoodInHeld 53 = false := by kernel_rfl
  have u3 := Try.underlying3
  have i3 := Try.isAgg3
  have z3 := Try.sizeOf3
  have uS := Try.underlying49
  have iS := Try.isAgg49
  have zS := Try.sizeOf49
  have uT := Try.underlying51
  have iT := Try.isAgg51
  have zT := Try.sizeOf51
  rw [show (10000 : Nat) = 9999 + 1 from rfl, run_equalIn_agg w 9999 53 _ _ hS hp]
  simp only [Program.fieldsOf, Try.underlying53]
  go_simp
theorem eql_fe (a0 a1 a2 a3 a4 : Int) (w : World) : (binOp .eql 53 (.agg #[.int .i64 a0, .int .u8 a1, .int .u16 a2, .int .i64 a3, .int .i64 a4]) (.agg #[.int .i64 a0, .int .u8 a1, .int .u16 a2, .int .i64 a3, .int .i64 a4])).run Try.prog w = .ok (.bool true) w := by
  rw [run_eql_struct, equalIn_fe]; rfl
theorem eqg_fe (op : BinOp) (x y : Operand) (xs ys : Array Value) (w : World) : (eqGuard op 53 x y (.agg xs) (.agg ys)).run Try.prog w = .ok () w := run_eqGuard_agg w op 53 x y xs ys (by kernel_rfl)
theorem alloc4_at (w : World) (o o2 o3 : Obj) (cs : Array Value) (t : TypeId) : ((((w.alloc o).alloc o2).alloc o3).alloc (.cells cs t)).heap[w.heap.size + 1 + 1 + 1]? = some (.cells cs t (0, 0)) := by have := alloc_at (((w.alloc o).alloc o2).alloc o3) cs t; rwa [World.size_alloc, World.size_alloc, World.size_alloc] at this
set_option maxRecDepth 100000 in
set_option maxHeartbeats 8000000 in
theorem thingMarks_any (vc vm : Value) (op : Bool) (cs : List Ent) (ms : List Mk) (f : Fe) (c0 c1 c2 c3 : Int) (t : Th) (w : World) (F : FiA w vc vm cs ms) (hI : InI f.po ∧ InI f.he) : Calls Try.prog 4 #[.agg #[vc, vm, .bool op], fev f, .agg #[.int .i64 c0, .int .i64 c1, .int .i64 c2, .int .i64 c3], thv t] w fun e w' => e = .returned (.bool true) ∧ w.grownBy w' none := by
  obtain ⟨ca, ck, rfl, _⟩ := id F.c
  obtain ⟨ma, mk, rfl, _⟩ := id F.m
  obtain ⟨W1, hW1⟩ : ∃ W1, W1 = (((w.alloc (.cells #[.slice ca cs.length ck, .slice ma ms.length mk, .bool op] 48)).alloc (.cells #[.int .i64 f.ho, .int .u8 f.su, .int .u16 f.tr, .int .i64 f.po, .int .i64 f.he] 53)).alloc (.cells #[.int .i64 c0, .int .i64 c1, .int .i64 c2, .int .i64 c3] 36)).alloc (.cells #[.int .i64 t.card, .int .i64 t.owner, .int .u8 t.place, .int .i64 t.stamp, .int .i64 t.hurt, .int .i64 t.m0, .int .i64 t.m1, .int .i64 t.m2, .int .i64 t.m3, .int .i64 t.done, .bool t.fresh] 38) := ⟨_, rfl⟩
  have HG1 : Hid (w.grownBy W1 none) := by rw [hW1]; exact grown_push (grown_push (grown_push (World.grownBy_alloc _ _ none) _) _) _
  have HB0 : Hid (W1.heap[w.heap.size]? = some (.cells #[.slice ca cs.length ck, .slice ma ms.length mk, .bool op] 48 (0, 0))) := by
    rw [hW1]; exact grown_keep (World.grownBy_alloc _ _ none) (grown_keep (World.grownBy_alloc _ _ none) (grown_keep (World.grownBy_alloc _ _ none) (alloc_at w _ _) (by simp)) (by simp)) (by simp)
  have HB1 : Hid (W1.heap[w.heap.size + 1]? = some (.cells #[.int .i64 f.ho, .int .u8 f.su, .int .u16 f.tr, .int .i64 f.po, .int .i64 f.he] 53 (0, 0))) := by
    rw [hW1]; exact grown_keep (World.grownBy_alloc _ _ none) (grown_keep (World.grownBy_alloc _ _ none) (alloc2_at _ _ _ _) (by simp)) (by simp)
  have HB2 : Hid (W1.heap[w.heap.size + 1 + 1]? = some (.cells #[.int .i64 c0, .int .i64 c1, .int .i64 c2, .int .i64 c3] 36 (0, 0))) := by
    rw [hW1]; exact grown_keep (World.grownBy_alloc _ _ none) (alloc3_at _ _ _ _ _) (by simp)
  have HB3 : Hid (W1.heap[w.heap.size + 1 + 1 + 1]? = some (.cells #[.int .i64 t.card, .int .i64 t.owner, .int .u8 t.place, .int .i64 t.stamp, .int .i64 t.hurt, .int .i64 t.m0, .int .i64 t.m1, .int .i64 t.m2, .int .i64 t.m3, .int .i64 t.done, .bool t.fresh] 38 (0, 0))) := by rw [hW1]; exact alloc4_at _ _ _ _ _ _
  have HIn : Hid (InI f.po ∧ InI f.he) := hI
  have HBk := books_any (.slice ca cs.length ck) (.slice ma ms.length mk) op cs ms W1 (F.keep HG1.out)
  obtain ⟨nb, hnb⟩ : ∃ nb, nb = W1.heap.size + 1 := ⟨_, rfl⟩
  rw [← hnb] at HBk
  clear hnb F hI
  unfold fev thv
  go_enter Try.func4, Try.ntmps4
  go_upto_region 1 with fail
  rw [← hW1]
  clear hW1
  obtain ⟨n0, h0⟩ : ∃ n0, n0 = w.heap.size := ⟨_, rfl⟩
  simp only [← h0] at HB0 HB1 HB2 HB3 ⊢
  obtain ⟨n1, h1⟩ : ∃ n1, n1 = n0 + 1 := ⟨_, rfl⟩
  simp only [← h1] at HB1 HB2 HB3 ⊢
  obtain ⟨n2, h2⟩ : ∃ n2, n2 = n1 + 1 := ⟨_, rfl⟩
  simp only [← h2] at HB2 HB3 ⊢
  obtain ⟨n3, h3⟩ : ∃ n3, n3 = n2 + 1 := ⟨_, rfl⟩
  simp only [← h3] at HB3 ⊢
  clear h0 h1 h2 h3
  have x0 := block_cell HB0.out 0
  have x1 := block_cell HB0.out 1
  have x2 := block_cell HB0.out 2
  go_wp2_with fail
  refine HBk.mono ?_
  intro e w2 Q2
  unfold BoPost at Q2
  obtain ⟨v, es, fs, p, rfl, P, _, g2⟩ := Q2
  have HP2 : Hid (Pr (okB nb) w2 nb (nb + 1) v es fs p) := P
  have HG2 : Hid (W1.grownBy w2 none) := g2
  have HMk := marked_any (okB nb) nb es p f c0 c1 c2 c3 w2 P.book
  have HRk := fun (X : World) (g : w2.grownBy X none) => rmarked_any (nb + 1) v p f c0 c1 c2 c3 X (HP2.out.rj.keep g) HP2.out.mkd HIn.out
  obtain ⟨y, hy⟩ : ∃ y, y = mdF p f c0 c1 c2 c3 := ⟨_, rfl⟩
  obtain ⟨ye, hye⟩ : ∃ ye, ye = mdE c0 c1 c2 c3 := ⟨_, rfl⟩
  rw [← hy, ← hye] at HMk HRk
  unfold fev at HMk HRk
  obtain ⟨nr, hnr⟩ : ∃ nr, nr = nb + 1 := ⟨_, rfl⟩
  rw [← hnr] at HRk ⊢
  obtain ⟨y0, y1, y2, y3, y4⟩ := y
  simp only at HMk HRk
  clear hy hye hnr P g2 HBk x0 x1 x2 HIn HP2
  have f0 := HG2.out.cell (block_cell HB1.out 0) (by simp)
  have f1 := HG2.out.cell (block_cell HB1.out 1) (by simp)
  have f2 := HG2.out.cell (block_cell HB1.out 2) (by simp)
  have f3 := HG2.out.cell (block_cell HB1.out 3) (by simp)
  have f4 := HG2.out.cell (block_cell HB1.out 4) (by simp)
  have m0 := HG2.out.cell (block_cell HB2.out 0) (by simp)
  have m1 := HG2.out.cell (block_cell HB2.out 1) (by simp)
  have m2 := HG2.out.cell (block_cell HB2.out 2) (by simp)
  have m3 := HG2.out.cell (block_cell HB2.out 3) (by simp)
  go_wp2_with fail
  refine HMk.mono ?_
  rintro e w3 ⟨rfl, g3⟩
  obtain ⟨W4, hW4⟩ : ∃ W4, W4 = w3.alloc (.cells #[.int .i64 y0, .int .u8 y1, .int .u16 y2, .int .i64 y3, .int .i64 y4] 53) := ⟨_, rfl⟩
  have HG3 : Hid (w2.grownBy W4 none) := by rw [hW4]; exact grown_push g3 _
  have HG4 : Hid (W1.grownBy W4 none) := grown_trans HG2.out HG3.out
  have HY : Hid (W4.heap[w3.heap.size]? = some (.cells #[.int .i64 y0, .int .u8 y1, .int .u16 y2, .int .i64 y3, .int .i64 y4] 53 (0, 0))) := by rw [hW4]; exact alloc_at _ _ _
  clear g3 HMk f0 f1 f2 f3 f4 m0 m1 m2 m3
  go_upto_region 3 with fail
  rw [← hW4]
  clear hW4
  obtain ⟨k1, hk1⟩ : ∃ k1, k1 = w3.heap.size := ⟨_, rfl⟩
  rw [← hk1] at HY ⊢
  clear hk1
  have f0 := HG4.out.cell (block_cell HB1.out 0) (by simp)
  have f1 := HG4.out.cell (block_cell HB1.out 1) (by simp)
  have f2 := HG4.out.cell (block_cell HB1.out 2) (by simp)
  have f3 := HG4.out.cell (block_cell HB1.out 3) (by simp)
  have f4 := HG4.out.cell (block_cell HB1.out 4) (by simp)
  have m0 := HG4.out.cell (block_cell HB2.out 0) (by simp)
  have m1 := HG4.out.cell (block_cell HB2.out 1) (by simp)
  have m2 := HG4.out.cell (block_cell HB2.out 2) (by simp)
  have m3 := HG4.out.cell (block_cell HB2.out 3) (by simp)
  go_wp2_with fail
  refine (HRk W4 HG3.out).mono ?_
  rintro e w5 ⟨rfl, g5⟩
  obtain ⟨W6, hW6⟩ : ∃ W6, W6 = w5.alloc (.cells #[.int .i64 y0, .int .u8 y1, .int .u16 y2, .int .i64 y3, .int .i64 y4] 53) := ⟨_, rfl⟩
  have HG6 : Hid (W4.grownBy W6 none) := by rw [hW6]; exact grown_push g5 _
  have HG7 : Hid (W1.grownBy W6 none) := grown_trans HG4.out HG6.out
  have HZ : Hid (W6.heap[w5.heap.size]? = some (.cells #[.int .i64 y0, .int .u8 y1, .int .u16 y2, .int .i64 y3, .int .i64 y4] 53 (0, 0))) := by rw [hW6]; exact alloc_at _ _ _
  have HY6 : Hid (W6.heap[k1]? = some (.cells #[.int .i64 y0, .int .u8 y1, .int .u16 y2, .int .i64 y3, .int .i64 y4] 53 (0, 0))) := grown_keep HG6.out HY.out (by simp)
  have HF6 : Hid (W6.heap[n1]? = some (.cells #[.int .i64 f.ho, .int .u8 f.su, .int .u16 f.tr, .int .i64 f.po, .int .i64 f.he] 53 (0, 0))) := grown_keep HG7.out HB1.out (by simp)
  have HT6 : Hid (W6.heap[n3]? = some (.cells #[.int .i64 t.card, .int .i64 t.owner, .int .u8 t.place, .int .i64 t.stamp, .int .i64 t.hurt, .int .i64 t.m0, .int .i64 t.m1, .int .i64 t.m2, .int .i64 t.m3, .int .i64 t.done, .bool t.fresh] 38 (0, 0))) := grown_keep HG7.out HB3.out (by simp)
  have HG8 : Hid (w.grownBy W6 none) := grown_trans HG1.out HG7.out
  clear g5 HRk f0 f1 f2 f3 f4 m0 m1 m2 m3 HY HG6 HG7 HB0 HB1 HB2 HB3 HG3 HG4 HG1 HG2
  go_upto_region 4 with fail
  rw [← hW6]
  clear hW6
  obtain ⟨k2, hk2⟩ : ∃ k2, k2 = w5.heap.size := ⟨_, rfl⟩
  rw [← hk2] at HZ ⊢
  clear hk2
  have eq1 := eql_fe y0 y1 y2 y3 y4
  have eq2 := eqg_fe
  have H0 : W6.grownBy W6.drew none := grown_drew _
  have HL1 := fun X => tleft_any f t X
  have HL2 := fun X => rleft_any f t X
  unfold fev thv at HL1 HL2
  obtain ⟨lf, hlf⟩ : ∃ lf, lf = wrap64 (f.he - t.hurt) := ⟨_, rfl⟩
  rw [← hlf] at HL1 HL2
  clear hlf
  refine wp_region_held_drew (S := fun w' => W6.grownBy w' none) (by kernel_rfl) H0 (fun hHeld => ?_)
  refine wpAnyH_take (i := 0) (v := ?_) rfl (by kernel_rfl) (by kernel_rfl) (by kernel_rfl) (fun _ _ _ h => h) (Or.inl ⟨by rfl, ?_⟩) (by assumption) ?_
  rotate_left 1
  · (intro w0 hSw; go_simp; try with_reducible rfl)
  simp only [List.getElem_toArray, List.getElem_cons_zero]
  go_frame
  refine wpAnyH_take (i := 1) (v := ?_) rfl (by kernel_rfl) (by kernel_rfl) (by kernel_rfl) (fun _ _ _ h => h) (Or.inl ⟨by rfl, ?_⟩) (by assumption) ?_
  rotate_left 1
  · (intro w0 hSw; go_simp; try with_reducible rfl)
  simp only [List.getElem_toArray, List.getElem_cons_zero, List.getElem_cons_succ]
  go_frame
  refine wpAnyH_take (i := 2) (v := ?_) rfl (by kernel_rfl) (by kernel_rfl) (by kernel_rfl) (fun _ _ _ h => h) (Or.inl ⟨by rfl, ?_⟩) (by assumption) ?_
  rotate_left 1
  · (intro w0 hSw; go_simp; try with_reducible rfl)
  simp only [List.getElem_toArray, List.getElem_cons_zero, List.getElem_cons_succ]
  go_frame
  refine wpAnyH_take (i := 3) (v := ?_) rfl (by kernel_rfl) (by kernel_rfl) (by kernel_rfl) (fun _ _ _ h => h) (Or.inl ⟨by rfl, ?_⟩) (by assumption) ?_
  rotate_left 1
  · (intro w0 hSw; go_simp; try with_reducible rfl)
  simp only [List.getElem_toArray, List.getElem_cons_zero, List.getElem_cons_succ]
  go_frame
  refine wpAnyH_take (i := 4) (v := ?_) rfl (by kernel_rfl) (by kernel_rfl) (by kernel_rfl) (fun _ _ _ h => h) (Or.inl ⟨by rfl, ?_⟩) (by assumption) ?_
  rotate_left 1
  · (intro w0 hSw; go_simp; try with_reducible rfl)
  simp only [List.getElem_toArray, List.getElem_cons_zero, List.getElem_cons_succ]
  go_frame
  refine wpAnyH_take (i := 5) (v := ?_) rfl (by kernel_rfl) (by kernel_rfl) (by kernel_rfl) (fun _ _ _ h => h) (Or.inl ⟨by rfl, ?_⟩) (by assumption) ?_
  rotate_left 1
  · (intro w0 hSw; go_simp; try with_reducible rfl)
  simp only [List.getElem_toArray, List.getElem_cons_zero, List.getElem_cons_succ]
  go_frame
  refine wpAnyH_take (i := 6) (v := ?_) rfl (by kernel_rfl) (by kernel_rfl) (by kernel_rfl) (fun _ _ _ h => h) (Or.inl ⟨by rfl, ?_⟩) (by assumption) ?_
  rotate_left 1
  · (intro w0 hSw; go_simp; try with_reducible rfl)
  simp only [List.getElem_toArray, List.getElem_cons_zero, List.getElem_cons_succ]
  go_frame
  refine wpAnyH_take (i := 7) (v := ?_) rfl (by kernel_rfl) (by kernel_rfl) (by kernel_rfl) (fun _ _ _ h => h) (Or.inl ⟨by rfl, ?_⟩) (by assumption) ?_
  rotate_left 1
  · (intro w0 hSw; have d0 := hSw.cell (block_cell HY6.out 0) (by simp); have d1 := hSw.cell (block_cell HY6.out 1) (by simp); have d2 := hSw.cell (block_cell HY6.out 2) (by simp); have d3 := hSw.cell (block_cell HY6.out 3) (by simp); have d4 := hSw.cell (block_cell HY6.out 4) (by simp); go_simp; try with_reducible rfl)
  simp only [List.getElem_toArray, List.getElem_cons_zero, List.getElem_cons_succ]
  go_frame
  refine wpAnyH_take (i := 8) (v := ?_) rfl (by kernel_rfl) (by kernel_rfl) (by kernel_rfl) (fun _ _ _ h => h) (Or.inl ⟨by rfl, ?_⟩) (by assumption) ?_
  rotate_left 1
  · (intro w0 hSw; have d0 := hSw.cell (block_cell HZ.out 0) (by simp); have d1 := hSw.cell (block_cell HZ.out 1) (by simp); have d2 := hSw.cell (block_cell HZ.out 2) (by simp); have d3 := hSw.cell (block_cell HZ.out 3) (by simp); have d4 := hSw.cell (block_cell HZ.out 4) (by simp); go_simp; try with_reducible rfl)
  simp only [List.getElem_toArray, List.getElem_cons_zero, List.getElem_cons_succ]
  go_frame
  refine wpAnyH_take (i := 9) (v := ?_) rfl (by kernel_rfl) (by kernel_rfl) (by kernel_rfl) (fun _ _ _ h => h) (Or.inl ⟨by rfl, ?_⟩) (by assumption) ?_
  rotate_left 1
  · (intro w0 hSw; go_simp; try with_reducible rfl)
  simp only [List.getElem_toArray, List.getElem_cons_zero, List.getElem_cons_succ]
  go_frame
  refine wpAnyH_take (i := 10) (v := ?_) rfl (by kernel_rfl) (by kernel_rfl) (by kernel_rfl) (fun _ _ _ h => h) (Or.inl ⟨by rfl, ?_⟩) (by assumption) ?_
  rotate_left 1
  · (intro w0 hSw; go_simp; try with_reducible rfl)
  simp only [List.getElem_toArray, List.getElem_cons_zero, List.getElem_cons_succ]
  go_frame
  refine wpAnyH_take (i := 11) (v := ?_) rfl (by kernel_rfl) (by kernel_rfl) (by kernel_rfl) (fun _ _ _ h => h) (Or.inl ⟨by rfl, ?_⟩) (by assumption) ?_
  rotate_left 1
  · (intro w0 hSw; go_simp; try with_reducible rfl)
  simp only [List.getElem_toArray, List.getElem_cons_zero, List.getElem_cons_succ]
  go_frame
  refine wpAnyH_take (i := 12) (v := ?_) rfl (by kernel_rfl) (by kernel_rfl) (by kernel_rfl) (fun _ _ _ h => h) (Or.inl ⟨by rfl, ?_⟩) (by assumption) ?_
  rotate_left 1
  · (intro w0 hSw; have d0 := hSw.cell (block_cell HF6.out 0) (by simp); have d1 := hSw.cell (block_cell HF6.out 1) (by simp); have d2 := hSw.cell (block_cell HF6.out 2) (by simp); have d3 := hSw.cell (block_cell HF6.out 3) (by simp); have d4 := hSw.cell (block_cell HF6.out 4) (by simp); go_simp; try with_reducible rfl)
  simp only [List.getElem_toArray, List.getElem_cons_zero, List.getElem_cons_succ]
  go_frame
  refine wpAnyH_take (i := 13) (v := ?_) rfl (by kernel_rfl) (by kernel_rfl) (by kernel_rfl) (fun _ _ _ h => h) (Or.inl ⟨by rfl, ?_⟩) (by assumption) ?_
  rotate_left 1
  · (intro w0 hSw; have d0 := hSw.cell (block_cell HT6.out 0) (by simp); have d1 := hSw.cell (block_cell HT6.out 1) (by simp); have d2 := hSw.cell (block_cell HT6.out 2) (by simp); have d3 := hSw.cell (block_cell HT6.out 3) (by simp); have d4 := hSw.cell (block_cell HT6.out 4) (by simp); have d5 := hSw.cell (block_cell HT6.out 5) (by simp); have d6 := hSw.cell (block_cell HT6.out 6) (by simp); have d7 := hSw.cell (block_cell HT6.out 7) (by simp); have d8 := hSw.cell (block_cell HT6.out 8) (by simp); have d9 := hSw.cell (block_cell HT6.out 9) (by simp); have d10 := hSw.cell (block_cell HT6.out 10) (by simp); go_simp; try with_reducible rfl)
  simp only [List.getElem_toArray, List.getElem_cons_zero, List.getElem_cons_succ]
  go_frame
  refine wpAnyH_take (i := 15) (v := ?_) rfl (by kernel_rfl) (by kernel_rfl) (by kernel_rfl) (fun _ _ _ h => h) (Or.inl ⟨by rfl, ?_⟩) (by assumption) ?_
  rotate_left 1
  · (intro w0 hSw; have d0 := hSw.cell (block_cell HF6.out 0) (by simp); have d1 := hSw.cell (block_cell HF6.out 1) (by simp); have d2 := hSw.cell (block_cell HF6.out 2) (by simp); have d3 := hSw.cell (block_cell HF6.out 3) (by simp); have d4 := hSw.cell (block_cell HF6.out 4) (by simp); go_simp; try with_reducible rfl)
  simp only [List.getElem_toArray, List.getElem_cons_zero, List.getElem_cons_succ]
  go_frame
  refine wpAnyH_take (i := 16) (v := ?_) rfl (by kernel_rfl) (by kernel_rfl) (by kernel_rfl) (fun _ _ _ h => h) (Or.inl ⟨by rfl, ?_⟩) (by assumption) ?_
  rotate_left 1
  · (intro w0 hSw; have d0 := hSw.cell (block_cell HT6.out 0) (by simp); have d1 := hSw.cell (block_cell HT6.out 1) (by simp); have d2 := hSw.cell (block_cell HT6.out 2) (by simp); have d3 := hSw.cell (block_cell HT6.out 3) (by simp); have d4 := hSw.cell (block_cell HT6.out 4) (by simp); have d5 := hSw.cell (block_cell HT6.out 5) (by simp); have d6 := hSw.cell (block_cell HT6.out 6) (by simp); have d7 := hSw.cell (block_cell HT6.out 7) (by simp); have d8 := hSw.cell (block_cell HT6.out 8) (by simp); have d9 := hSw.cell (block_cell HT6.out 9) (by simp); have d10 := hSw.cell (block_cell HT6.out 10) (by simp); go_simp; try with_reducible rfl)
  simp only [List.getElem_toArray, List.getElem_cons_zero, List.getElem_cons_succ]
  go_frame
  refine wpAnyH_ready (rs := [14]) (by kernel_rfl) (by simp) ?_
  refine AllReadyH.cons rfl (fun K hK => ?_) AllReadyH.nil
  simp only [List.getElem_toArray, List.getElem_cons_zero, List.getElem_cons_succ]
  rw [if_pos (by rfl)]
  go_simp
  go_at_call 16
  refine (HL1 _).mono ?_
  rintro e wa ⟨rfl, ga⟩
  have HGa : Hid (W6.grownBy wa none) := grown_trans H0 ga
  clear ga
  refine hK.out _ _ (HGa.out) (fun hHeld2 => ?_)
  clear hK K
  (try go_frame)
  refine wpAnyH_ready (rs := [17]) (by kernel_rfl) (by simp) ?_
  refine AllReadyH.cons rfl (fun K hK => ?_) AllReadyH.nil
  simp only [List.getElem_toArray, List.getElem_cons_zero, List.getElem_cons_succ]
  rw [if_pos (by rfl)]
  go_simp
  go_at_call 17
  refine (HL2 _).mono ?_
  rintro e wb ⟨rfl, gb⟩
  have HGb : Hid (W6.grownBy wb none) := grown_trans HGa.out gb
  clear gb
  refine hK.out _ _ (HGb.out) (fun hHeld2 => ?_)
  clear hK K
  (try go_frame)
  refine wpAnyH_take (i := 18) (v := ?_) rfl (by kernel_rfl) (by kernel_rfl) (by kernel_rfl) (fun _ _ _ h => h) (Or.inl ⟨by rfl, ?_⟩) (by assumption) ?_
  rotate_left 1
  · (intro w0 hSw; go_simp; try with_reducible rfl)
  simp only [List.getElem_toArray, List.getElem_cons_zero, List.getElem_cons_succ]
  go_frame
  refine wpAnyH_take (i := 19) (v := ?_) rfl (by kernel_rfl) (by kernel_rfl) (by kernel_rfl) (fun _ _ _ h => h) (Or.inl ⟨by rfl, ?_⟩) (by assumption) ?_
  rotate_left 1
  · (intro w0 hSw; go_simp; try with_reducible rfl)
  simp only [List.getElem_toArray, List.getElem_cons_zero, List.getElem_cons_succ]
  go_frame
  refine wpAnyH_take (i := 20) (v := ?_) rfl (by kernel_rfl) (by kernel_rfl) (by kernel_rfl) (fun _ _ _ h => h) (Or.inl ⟨by rfl, ?_⟩) (by assumption) ?_
  rotate_left 1
  · (intro w0 hSw; go_simp; try with_reducible rfl)
  simp only [List.getElem_toArray, List.getElem_cons_zero, List.getElem_cons_succ]
  go_frame
  refine wpAnyH_done (by kernel_rfl) ?_ _
  go_wp2
  go_ret
  exact ⟨rfl, grown_trans HG8.out HGb.out⟩
end Go.Proofs.Ytogpgldbbegniaa
