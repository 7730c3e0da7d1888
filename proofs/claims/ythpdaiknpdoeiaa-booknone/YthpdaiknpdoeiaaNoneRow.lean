/-
  BookNone answers true of every act: books that are nil, or that nobody made, answer each call as the document says of what is no book, and the document's examples hold. No condition.
-/
import Derived.Test.YthpdaiknpdoeiaaNoneLaw
import Derived.Test.YthpdaiknpdoeiaaRows
namespace Go.Proofs.Ythpdaiknpdoeiaa
open Go.ChangeShapes Go.WideShapes Go.ChangeAt Go.RowKit Go.Deep

theorem Try.own : ownKnob Try.prog.godebug = none := by kernel_rfl
theorem Try.laidOut : laidOutB Try.prog = true := by kernel_rfl
theorem cellsOfAct : Try.prog.cellsOf 33 = 18 := by kernel_rfl
theorem cellsOf5 : Try.prog.cellsOf 5 = 1 := by kernel_rfl
theorem eighteen {α : Type} {X : List α} (h : X.length = 18) : ∃ a b c d e f g i j k l m n o p q r s, X = [a, b, c, d, e, f, g, i, j, k, l, m, n, o, p, q, r, s] := by
  match X, h with
  | [a, b, c, d, e, f, g, i, j, k, l, m, n, o, p, q, r, s], _ => exact ⟨a, b, c, d, e, f, g, i, j, k, l, m, n, o, p, q, r, s, rfl⟩
set_option maxRecDepth 100000 in
/-- An act, read as data. -/
theorem open_act {H : Type} {enc : TypeId × Value → H} {w : World} {base : Nat} {sp : Nat → Bool} {held : Bool} {r : Reach} {b0 : Nat} {v : Value} {d : DataW H} {pl : List MemPlace} (hval : Value.okWide Try.prog w r b0 33 v) (hd : DataW.Trod enc Try.prog w base sp held 33 v d pl) (hz : ∀ n ∈ d.weights Try.prog 33, n ≤ reachBytes) : ∃ a : Act, v = .agg (acs a) ∧ ∃ x y z, a.v = .slice x y z := by
  obtain ⟨cs, rfl, hsz⟩ := okWide_struct Try.underlying33 hval
  rw [cellsOfAct] at hsz
  obtain ⟨fuel, hf⟩ := hd
  obtain ⟨l⟩ := cs
  obtain ⟨c0, c1, c2, c3, c4, c5, c6, c7, c8, c9, c10, c11, c12, c13, c14, c15, c16, c17, rfl⟩ := eighteen (show l.length = 18 from hsz)
  obtain ⟨xs, n, _, hx, _, hlen, hfl⟩ := DataW.trod_struct Try.underlying33 hf
  match xs, hlen with
  | [y0, y1, y2, y3, y4, y5, y6], _ =>
    have t0 : DataW.trod enc Try.prog w base sp held n 3 (([c0, c1, c2, c3, c4, c5, c6, c7, c8, c9, c10, c11, c12, c13, c14, c15, c16, c17].drop 0).take (Try.prog.cellsOf 3)) = some y0 := hfl 0 _ rfl
    have t1 : DataW.trod enc Try.prog w base sp held n 3 (([c0, c1, c2, c3, c4, c5, c6, c7, c8, c9, c10, c11, c12, c13, c14, c15, c16, c17].drop 1).take (Try.prog.cellsOf 3)) = some y1 := hfl 1 _ rfl
    have t2 : DataW.trod enc Try.prog w base sp held n 28 (([c0, c1, c2, c3, c4, c5, c6, c7, c8, c9, c10, c11, c12, c13, c14, c15, c16, c17].drop 2).take (Try.prog.cellsOf 28)) = some y2 := hfl 2 _ rfl
    have t3 : DataW.trod enc Try.prog w base sp held n 5 (([c0, c1, c2, c3, c4, c5, c6, c7, c8, c9, c10, c11, c12, c13, c14, c15, c16, c17].drop 11).take (Try.prog.cellsOf 5)) = some y3 := hfl 3 _ rfl
    have t4 : DataW.trod enc Try.prog w base sp held n 9 (([c0, c1, c2, c3, c4, c5, c6, c7, c8, c9, c10, c11, c12, c13, c14, c15, c16, c17].drop 12).take (Try.prog.cellsOf 9)) = some y4 := hfl 4 _ rfl
    have t5 : DataW.trod enc Try.prog w base sp held n 31 (([c0, c1, c2, c3, c4, c5, c6, c7, c8, c9, c10, c11, c12, c13, c14, c15, c16, c17].drop 13).take (Try.prog.cellsOf 31)) = some y5 := hfl 5 _ rfl
    have t6 : DataW.trod enc Try.prog w base sp held n 3 (([c0, c1, c2, c3, c4, c5, c6, c7, c8, c9, c10, c11, c12, c13, c14, c15, c16, c17].drop 17).take (Try.prog.cellsOf 3)) = some y6 := hfl 6 _ rfl
    rw [cellsOf3] at t0 t1 t6
    rw [Try.cells28'] at t2
    rw [cellsOf5] at t3
    rw [cellsOf9] at t4
    rw [cellsOfMI] at t5
    obtain ⟨z0, e0, _, _⟩ := DataW.trod_int Try.underlying3 (cs := [c0]) t0
    obtain ⟨z1, e1, _, _⟩ := DataW.trod_int Try.underlying3 (cs := [c1]) t1
    obtain ⟨z3, e3, _, _⟩ := DataW.trod_int Try.underlying5 (cs := [c11]) t3
    obtain ⟨z4, e4, _, _⟩ := DataW.trod_string Try.underlying9 (cs := [c12]) t4
    obtain ⟨z6, e6, _, _⟩ := DataW.trod_int Try.underlying3 (cs := [c17]) t6
    obtain ⟨h, u, ps, e2, hp, _⟩ := card_cells (l := [c2, c3, c4, c5, c6, c7, c8, c9, c10]) rfl t2 (fun n hn => hz n (by
      rw [(Prod.mk.inj hx).1]
      simp only [DataW.weights, Try.underlying33]
      exact DataW.weights_mem_each (j := 2) rfl rfl n hn))
    obtain ⟨m, e5⟩ := mark_cells (l := [c13, c14, c15, c16]) rfl t5
    simp only [List.cons.injEq, and_true] at e0 e1 e3 e4 e6
    simp only [cvs, mvs, List.cons.injEq, and_true] at e2 e5
    obtain ⟨q0, q1, q2, q3, q4, q5, q6, q7, q8⟩ := e2
    obtain ⟨r0, r1, r2, r3⟩ := e5
    subst e0 e1 e3 e4 e6 q0 q1 q2 q3 q4 q5 q6 q7 q8 r0 r1 r2 r3
    obtain ⟨x, y, hu⟩ := hp.form
    exact ⟨⟨z0, z1, h, _, z3, z4, m, z6⟩, rfl, x, _, y, hu⟩
set_option maxRecDepth 100000 in
theorem bookNone_lifted (os : Os) (started : os.Started) (H : Type) (enc : TypeId × Value → H) :
    ReturnsInHanded {} Try.checked os 3 .any (Rows.bookNoneSpec.pre6 enc Try.prog Try.f3 Rows.bookNoneRow.domain false) (Rows.bookNoneSpec.post enc Try.prog Try.f3 false true false false) := by
  refine returnsInHanded_of_change_sized (C := Try.checked) Try.own started (by kernel_rfl) Try.func3
    (ChangeSpec.witness6 (enc := enc) (C := Try.checked) false ⟨#[], #[.agg #[.int .i64 0, .int .i64 0, .string ⟨#[]⟩, .int .u8 0, .int .u8 0, .int .i64 0, .int .i64 0, .int .i64 0, .int .u16 0, .bool false, .slice none 0 0, .int .u8 0, .string ⟨#[]⟩, .int .u8 0, .string ⟨#[]⟩, .int .i64 0, .int .i64 0, .int .i64 0]], []⟩ 8 (by kernel_rfl) (by kernel_rfl) (by kernel_rfl) (by kernel_rfl)) ?_
  intro W base args ds gs before hval0 hW hcnd hsz _
  have hval : ∀ (j : Nat) t v, Try.f3.params[j]? = some t → args[j]? = some v → Value.okWide Try.prog W .any base t v := hval0
  have hW' := hW
  obtain ⟨p, q, hA0, hV, rfl, hfz, hnd⟩ := hW
  have hA : DataW.TrodAll enc Try.prog W 0 (fun _ => true) true Try.f3.params.toList args.toList ds p := hA0
  have hS : (DataW.weightsEach Try.prog (Try.f3.params.toList ++ Rows.bookNoneSpec.plain.varTypes Try.prog) (ds ++ gs)).all (· ≤ reachBytes) = true := hsz
  rw [Try.params3] at hA hval hS
  obtain ⟨v0, vs0, d0, ds0, p0, q0, hargs, rfl, rfl, h0, r0⟩ := trodAll_cons hA
  obtain ⟨rfl, rfl, rfl⟩ := trodAll_nil r0
  obtain rfl : args = #[v0] := by cases args; simp_all
  obtain ⟨rfl, rfl⟩ := trodVars_none hV
  have k0 := h0
  have lt0 : ∀ x ∈ p0, x.block < W.heap.size := by obtain ⟨m, hm⟩ := k0; exact DataW.trod_lt m _ _ _ hm
  obtain ⟨a0, rfl, P0⟩ := open_act (hval 0 33 v0 rfl rfl) h0 (fun n hn => by simpa using List.all_eq_true.1 hS n (DataW.weights_mem_each (j := 0) rfl rfl n hn))
  clear hA0 hval0
  refine (bookNone_any a0 W P0).mono fun e W' ⟨he, hg⟩ => ?_
  subst he
  have bel := grown_below hg
  exact ⟨_, rfl, _, _, _, [], _, [], hW', trodAll_mk1 (shut_bool Try.underlying4 _), (trodAll_cons_mk (Below.trod Try.laidOut (by kernel_rfl) (of_decide_eq_true (by kernel_rfl)) k0 bel lt0) trodAll_mk0), rfl, bel.frame _, fun h => by cases h⟩

theorem bookNone_holds : Rows.BookNoneSaid :=
  OpenClaim.holds_of_wide 3 Try.f3 rfl rfl rfl rfl rfl rfl rfl ⟨rfl, rfl, rfl, rfl, rfl⟩ rfl rfl rfl rfl rfl (by kernel_rfl) Try.func3 (by kernel_rfl)
    (of_decide_eq_true (by kernel_rfl)) (by unfold Func.isWrapper; first | (rw [if_pos (by decide +kernel)]; kernel_rfl) | (rw [if_neg (by decide +kernel)]; exact ⟨rfl, rfl⟩))
    (fun os started H enc _ => bookNone_lifted os started H enc)
#print axioms bookNone_holds
end Go.Proofs.Ythpdaiknpdoeiaa
