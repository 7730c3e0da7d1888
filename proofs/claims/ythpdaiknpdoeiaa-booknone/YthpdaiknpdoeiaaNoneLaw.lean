/-
  BookNone of every act.
-/
import Derived.Test.YthpdaiknpdoeiaaNone
import Derived.Test.YthpdaiknpdoeiaaOpenC
namespace Go.Proofs.Ythpdaiknpdoeiaa
open Go.RowKit

theorem wpl_build_g {P : Program} {w w1 : World} {ops : Array Oper} {rest : List Oper} {o : Oper} {a : Go.Act} {Q : Exit → Go.Act → World → Prop} (hgd : Region.wanted o (yielded ops a.tmps) = true) (t : TypeId) (parts : Array (Nat × Operand))
    (ho : o.op = .build t parts) (vs : Array (Nat × Value)) (hv : (parts.map fun (i, x) => (i, a.eval x)) = vs) (v : Value) (hrun : (Instr.build t vs).run P w = .ok v w1) (h : wpList P ops Q rest (a.put o.dst v) w1) : wpList P ops Q (o :: rest) a w := by
  refine wpList_step fun K hK => ?_
  rw [if_pos hgd]
  unfold Oper.wp
  simp only [execOp, ho, Sem.run_bind, hv, hrun, Result.andThen_ok]
  exact hK _ _ h
theorem wpl_box_g {P : Program} {w w1 : World} {ops : Array Oper} {rest : List Oper} {o : Oper} {a : Go.Act} {Q : Exit → Go.Act → World → Prop} (hgd : Region.wanted o (yielded ops a.tmps) = true) (t : TypeId) (x : Operand)
    (ho : o.op = .box t x) (y : Value) (hy : a.eval x = y) (v : Value) (hrun : (Instr.box t y).run P w = .ok v w1) (h : wpList P ops Q rest (a.put o.dst v) w1) : wpList P ops Q (o :: rest) a w := by
  refine wpList_step fun K hK => ?_
  rw [if_pos hgd]
  unfold Oper.wp
  simp only [execOp, ho, Sem.run_bind, hy, hrun, Result.andThen_ok]
  exact hK _ _ h
theorem wpl_load_g {P : Program} {w w1 : World} {ops : Array Oper} {rest : List Oper} {o : Oper} {a : Go.Act} {Q : Exit → Go.Act → World → Prop} (hgd : Region.wanted o (yielded ops a.tmps) = true) (t : TypeId) (x : Operand)
    (ho : o.op = .load t x) (y : Value) (hy : a.eval x = y) (v : Value) (hrun : (Instr.loadAt t y).run P w = .ok v w1) (h : wpList P ops Q rest (a.put o.dst v) w1) : wpList P ops Q (o :: rest) a w := by
  refine wpList_step fun K hK => ?_
  rw [if_pos hgd]
  unfold Oper.wp
  simp only [execOp, ho, Sem.run_bind, hy, hrun, Result.andThen_ok]
  exact hK _ _ h
theorem load_act {w : World} {b : Nat} {a : Act} (h : AAt w b a) : (Instr.loadAt 33 (.pointer (some ⟨b, 0, none⟩))).run Try.prog w = .ok (.agg (acs a)) w := by
  have hc : w.rangeAt b 0 (acs a).toList := fun j v hv => by rw [Nat.zero_add, h.at j, ← hv, Array.getElem?_toList]
  simp only [Instr.loadAt, Instr.sureAddr, Sem.run_bind, Sem.run_pure, Result.andThen_ok, run_loadVar_mid w b 0 33 (acs a).toList _ hc Try.underlying33 rfl (by kernel_rfl)]
def zbA : Array Value := (noCards 64 ++ (.bool false :: .bool false :: .int .i64 0 :: (plNew.nms.map Value.string ++ mcells plNew.mks))).toArray
theorem run_buildZ (w : World) : (Instr.build 42 #[]).run Try.prog w = .ok (.agg zbA) w := by kernel_rfl
theorem zb_no (w : World) : NoBk (w.alloc (.cells zbA 42)) (.pointer (some ⟨w.heap.size, 0, none⟩)) := Or.inr ⟨_, rfl, by rw [block_cell (alloc_at w zbA _)]; kernel_rfl⟩
set_option maxRecDepth 100000 in
set_option maxHeartbeats 2000000 in
theorem bookNone_any (a : Act) (w : World) (hv : ∃ x y z, a.v = .slice x y z) : Calls Try.prog 3 #[.agg (acs a)] w fun e w' => e = .returned (.bool true) ∧ w.grownBy w' none := by
  obtain ⟨zb, hzb⟩ : ∃ zb, zb = zbA := ⟨_, rfl⟩
  have BZ : ∀ w, (Instr.build 42 #[]).run Try.prog w = .ok (.agg zb) w := by rw [hzb]; exact run_buildZ
  have NZ : Hid (∀ w : World, NoBk (w.alloc (.cells zb 42)) (.pointer (some ⟨w.heap.size, 0, none⟩))) := by rw [hzb]; exact zb_no
  clear hzb
  obtain ⟨W1, hW1⟩ : ∃ W1, W1 = w.alloc (.cells (acs a) 33) := ⟨_, rfl⟩
  have HG1 : Hid (w.grownBy W1 none) := by rw [hW1]; exact World.grownBy_alloc _ _ none
  have HA1 : Hid (AAt W1 w.heap.size a) := by rw [hW1]; exact alloc_at w _ _
  have HV : Hid (∃ x y z, a.v = .slice x y z) := hv
  obtain ⟨s1, s2, s3, hs⟩ := hv
  obtain ⟨kd, onn, hd, v0, t, nm, m, n⟩ := a
  simp only at hs
  subst hs
  have HNo := fun v W (h : NoBk W v) => none_any v ⟨kd, onn, hd, .slice s1 s2 s3, t, nm, m, n⟩ W h HV.out
  have CELL : ∀ W2, W1.grownBy W2 none → ∀ i u, (acs ⟨kd, onn, hd, .slice s1 s2 s3, t, nm, m, n⟩)[i]? = some u → W2.cell? ⟨w.heap.size, i, none⟩ = some u := fun W2 g i u hu => ((HA1.out.keep g).at i).trans hu
  have HCL : Hid (∀ W2, W1.grownBy W2 none → ∀ i u, (acs ⟨kd, onn, hd, .slice s1 s2 s3, t, nm, m, n⟩)[i]? = some u → W2.cell? ⟨w.heap.size, i, none⟩ = some u) := CELL
  clear CELL
  unfold acs at hW1 HNo ⊢
  simp only at hW1 HNo ⊢
  have c0 : W1.cell? ⟨w.heap.size, 0, none⟩ = some (.int .i64 kd) := HCL.out _ (grown_refl _ _) 0 _ rfl
  have c1 : W1.cell? ⟨w.heap.size, 1, none⟩ = some (.int .i64 onn) := HCL.out _ (grown_refl _ _) 1 _ rfl
  have c2 : W1.cell? ⟨w.heap.size, 2, none⟩ = some (.string hd.nm) := HCL.out _ (grown_refl _ _) 2 _ rfl
  have c3 : W1.cell? ⟨w.heap.size, 3, none⟩ = some (.int .u8 hd.su) := HCL.out _ (grown_refl _ _) 3 _ rfl
  have c4 : W1.cell? ⟨w.heap.size, 4, none⟩ = some (.int .u8 hd.kd) := HCL.out _ (grown_refl _ _) 4 _ rfl
  have c5 : W1.cell? ⟨w.heap.size, 5, none⟩ = some (.int .i64 hd.co) := HCL.out _ (grown_refl _ _) 5 _ rfl
  have c6 : W1.cell? ⟨w.heap.size, 6, none⟩ = some (.int .i64 hd.po) := HCL.out _ (grown_refl _ _) 6 _ rfl
  have c7 : W1.cell? ⟨w.heap.size, 7, none⟩ = some (.int .i64 hd.he) := HCL.out _ (grown_refl _ _) 7 _ rfl
  have c8 : W1.cell? ⟨w.heap.size, 8, none⟩ = some (.int .u16 hd.tr) := HCL.out _ (grown_refl _ _) 8 _ rfl
  have c9 : W1.cell? ⟨w.heap.size, 9, none⟩ = some (.bool hd.tk) := HCL.out _ (grown_refl _ _) 9 _ rfl
  have c10 : W1.cell? ⟨w.heap.size, 10, none⟩ = some (.slice s1 s2 s3) := HCL.out _ (grown_refl _ _) 10 _ rfl
  have c11 : W1.cell? ⟨w.heap.size, 11, none⟩ = some (.int .u8 t) := HCL.out _ (grown_refl _ _) 11 _ rfl
  have c12 : W1.cell? ⟨w.heap.size, 12, none⟩ = some (.string nm) := HCL.out _ (grown_refl _ _) 12 _ rfl
  have c13 : W1.cell? ⟨w.heap.size, 13, none⟩ = some (.int .u8 m.mi) := HCL.out _ (grown_refl _ _) 13 _ rfl
  have c14 : W1.cell? ⟨w.heap.size, 14, none⟩ = some (.string m.nm) := HCL.out _ (grown_refl _ _) 14 _ rfl
  have c15 : W1.cell? ⟨w.heap.size, 15, none⟩ = some (.int .i64 m.po) := HCL.out _ (grown_refl _ _) 15 _ rfl
  have c16 : W1.cell? ⟨w.heap.size, 16, none⟩ = some (.int .i64 m.he) := HCL.out _ (grown_refl _ _) 16 _ rfl
  have c17 : W1.cell? ⟨w.heap.size, 17, none⟩ = some (.int .i64 n) := HCL.out _ (grown_refl _ _) 17 _ rfl
  go_enter Try.func3, Try.ntmps3
  go_upto_region 1 with fail
  rw [← hW1]
  clear hW1
  go_wp2_with fail
  refine (HNo (.pointer none) _ (Or.inl rfl)).mono ?_
  rintro e w2 ⟨rfl, g2⟩
  have HG2 : Hid (W1.grownBy w2 none) := g2
  clear g2 c0 c1 c2 c3 c4 c5 c6 c7 c8 c9 c10 c11 c12 c13 c14 c15 c16 c17
  obtain ⟨W3, hW3⟩ : ∃ W3, W3 = w2.alloc (.cells zb 42) := ⟨_, rfl⟩
  have BX : (Instr.box 42 (.agg zb)).run Try.prog w2 = .ok (.pointer (some ⟨w2.heap.size, 0, none⟩)) W3 := by rw [hW3]; exact run_boxBk zb w2
  have N3 : Hid (NoBk W3 (.pointer (some ⟨w2.heap.size, 0, none⟩))) := by rw [hW3]; exact NZ.out w2
  have HG23 : Hid (W1.grownBy W3 none) := by rw [hW3]; exact grown_push HG2.out _
  clear hW3
  have LD := load_act (HA1.out.keep HG23.out)
  unfold acs at LD
  simp only at LD
  go_wp2_with (first | (refine wpl_build_g ?g 42 #[] ?ho #[] ?hv (.agg zb) (BZ _) ?_; (case g => rfl); (case ho => rfl); (case hv => simp)) | (refine wpl_box_g ?g 42 (.tmp 6) ?ho (.agg zb) ?hv _ BX ?_; (case g => rfl); (case ho => rfl); (case hv => simp [Act.eval, Act.put, Go.Act.eval])) | (refine wpl_load_g ?g 33 (.tmp 1) ?ho (.pointer (some ⟨w.heap.size, 0, none⟩)) ?hv _ LD ?_; (case g => rfl); (case ho => rfl); (case hv => simp [Act.eval, Act.put, Go.Act.eval])) | fail)
  refine (HNo (.pointer (some ⟨w2.heap.size, 0, none⟩)) _ N3.out).mono ?_
  rintro e w3 ⟨rfl, g3⟩
  have HG3 : Hid (w.grownBy w3 none) := grown_trans HG1.out (grown_trans HG23.out g3)
  clear g3 LD
  go_wp2_with fail
  refine (awake_any _).mono ?_
  rintro e w4 ⟨rfl, g4⟩
  go_wp2
  go_ret
  exact ⟨rfl, grown_trans HG3.out g4⟩
/-- The four cells of a mark, read as data. -/
theorem mark_cells {H : Type} {enc : TypeId × Value → H} {w : World} {base : Nat} {sp : Nat → Bool} {held : Bool} {fuel : Nat} {l : List Value} {x : DataW H × List MemPlace} (hsz : l.length = 4) (hf : DataW.trod enc Try.prog w base sp held fuel 31 l = some x) : ∃ m : Mk, l = mvs m := by
  obtain ⟨c0, c1, c2, c3, rfl⟩ : ∃ c0 c1 c2 c3, l = [c0, c1, c2, c3] := by
    match l, hsz with
    | [c0, c1, c2, c3], _ => exact ⟨c0, c1, c2, c3, rfl⟩
  obtain ⟨xs, n, _, hx, _, hlen, hfl⟩ := DataW.trod_struct Try.underlying31 hf
  match xs, hlen with
  | [y0, y1, y2, y3], _ =>
    have t0 : DataW.trod enc Try.prog w base sp held n 29 (([c0, c1, c2, c3].drop 0).take (Try.prog.cellsOf 29)) = some y0 := hfl 0 _ rfl
    have t1 : DataW.trod enc Try.prog w base sp held n 9 (([c0, c1, c2, c3].drop 1).take (Try.prog.cellsOf 9)) = some y1 := hfl 1 _ rfl
    have t2 : DataW.trod enc Try.prog w base sp held n 3 (([c0, c1, c2, c3].drop 2).take (Try.prog.cellsOf 3)) = some y2 := hfl 2 _ rfl
    have t3 : DataW.trod enc Try.prog w base sp held n 3 (([c0, c1, c2, c3].drop 3).take (Try.prog.cellsOf 3)) = some y3 := hfl 3 _ rfl
    rw [cellsOfMk] at t0
    rw [cellsOf9] at t1
    rw [cellsOf3] at t2 t3
    obtain ⟨z0, e0, _, _⟩ := DataW.trod_int Try.underlying29 (cs := [c0]) t0
    obtain ⟨z1, e1, _, _⟩ := DataW.trod_string Try.underlying9 (cs := [c1]) t1
    obtain ⟨z2, e2, _, _⟩ := DataW.trod_int Try.underlying3 (cs := [c2]) t2
    obtain ⟨z3, e3, _, _⟩ := DataW.trod_int Try.underlying3 (cs := [c3]) t3
    simp only [List.cons.injEq, and_true] at e0 e1 e2 e3
    subst e0 e1 e2 e3
    exact ⟨⟨z0, z1, z2, z3⟩, rfl⟩
end Go.Proofs.Ythpdaiknpdoeiaa
