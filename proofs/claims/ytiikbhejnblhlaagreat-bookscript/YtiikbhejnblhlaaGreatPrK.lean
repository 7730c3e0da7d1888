/-
  The program's Cards of a book: a list of its own; the function over which one ranges.
-/
import Derived.Test.YtiikbhejnblhlaaGreatRng
import Derived.Test.YtiikbhejnblhlaaGreatME
import Derived.Maps.AppendAt
import Derived.Lib.BufferMore
namespace Go.Proofs.YtiikbhejnblhlaaGreat
open Go.RowKit Go.Shelf

attribute [local go_sem] Oper.semAt_some

theorem ecells_ones {ok : Nat → Prop} {w : World} : ∀ {es : List Ent}, Good ok w es → ∀ u ∈ ecells es, u.oneCell' = true
  | [], _, u, hu => by simp [ecells] at hu
  | e :: r, h, u, hu => by
    simp only [ecells, List.mem_append] at hu
    rcases hu with hu | hu
    · obtain ⟨x, y, hf⟩ := (h e (by simp)).1.form
      rw [hf] at hu
      exact cvs_one _ _ _ _ u hu
    · exact ecells_ones (es := r) (fun e' he' => h e' (by simp [he'])) u hu
theorem row_cells {w : World} {b : Nat} {es : List Ent} (h : EsAt w b 0 es) : ∀ (j : Nat) u, (ecells es)[j]? = some u → w.cell? (Addr.add ⟨b, 0, none⟩ j) = some u := fun j u hu => by
  have hj : j < es.length * 9 := by have := (List.getElem?_eq_some_iff.1 hu).1; rw [ecells_len] at this; exact this
  obtain ⟨e, he⟩ : ∃ e, es[j / 9]? = some e := ⟨_, List.getElem?_eq_getElem (by omega)⟩
  have hr := h _ e he
  have hk : j % 9 < 9 := Nat.mod_lt _ (by decide)
  have hu' : (cvs e.h e.v)[j % 9]? = some u := by
    rw [← ecells_at es (j / 9) e he (j % 9) hk, show j / 9 * 9 + j % 9 = j by omega]
    exact hu
  rw [add_plain, show 0 + j = 0 + j / 9 * 9 + j % 9 by omega]
  obtain ⟨c0, c1, c2, c3, c4, c5, c6, c7, c8⟩ := hr
  rcases (show j % 9 = 0 ∨ j % 9 = 1 ∨ j % 9 = 2 ∨ j % 9 = 3 ∨ j % 9 = 4 ∨ j % 9 = 5 ∨ j % 9 = 6 ∨ j % 9 = 7 ∨ j % 9 = 8 by omega) with e' | e' | e' | e' | e' | e' | e' | e' | e' <;> rw [e'] at hu' ⊢ <;> simp only [cvs, List.getElem?_cons_zero, List.getElem?_cons_succ, Option.some.injEq] at hu' <;> subst hu' <;> assumption
theorem eown_keep {w w' : World} {base : Nat} {v : Value} {es : List Ent} (h : EOwn w base v es) (g : w.grownBy w' none) : EOwn w' base v es := World.ownsRow.kept h g (match hb : v.ownBlock with
  | none => Or.inl rfl
  | some k => Or.inr (by simp))
set_option maxRecDepth 100000 in
theorem cloneC_any (ok : Nat → Prop) (b c : Nat) (es : List Ent) (w : World) (R : EsAt w b 0 es) (hG : Good ok w es) (h64 : es.length ≤ 64) : Calls Tryz.prog 56 #[.slice (some ⟨b, 0, none⟩) es.length c] w fun e w' => ∃ v, e = .returned v ∧ EOwn w' w.heap.size v es ∧ w.grownBy w' none := by
  obtain ⟨i0, hi, hz0, hz1, hz2⟩ := info_parts Tryz.info36
  have hn : ∀ w, (binOp .eql 52 (.slice (some ⟨b, 0, none⟩) es.length c) (.slice none 0 0)).run Tryz.prog w = .ok (.bool false) w := fun w => by
    rw [Go.Lib.run_eql_slice_some_nil w _ _ _ Tryz.underlying52]
  have H1 : Hid (∀ u ∈ ecells es, u.oneCell' = true) := ecells_ones hG
  obtain ⟨W1, hW1⟩ : ∃ W1, W1 = w.alloc (.cells #[] 36) := ⟨_, rfl⟩
  have G1 : w.grownBy W1 none := by rw [hW1]; exact World.grownBy_alloc _ _ none
  have HG1 : Hid (w.grownBy W1 none) := G1
  have HR : Hid (∀ (j : Nat) u, (ecells es)[j]? = some u → W1.cell? (Addr.add ⟨b, 0, none⟩ j) = some u) := row_cells (R.keep G1)
  have HO : Hid (W1.ownsRow w.heap.size 36 9 (.slice (some ⟨w.heap.size, 0, none⟩) 0 0) 0 []) := ⟨rfl, Or.inr ⟨w.heap.size, 0, #[], rfl, Nat.le_refl _, by rw [hW1]; exact alloc_at _ _ _, Nat.le_refl _, Nat.zero_le _, rfl, rfl⟩⟩
  have HL : Hid ((ecells es).length = es.length * 9) := ecells_len es
  have hm : 0 + es.length ≤ maxLen := by unfold maxLen; omega
  have hm2 : (0 + es.length) * 80 ≤ 140737488355328 := by omega
  have HW1 : Hid (W1 = _) := hW1
  clear R hG G1 hW1 h64
  go_enter Tryz.func56, Tryz.ntmps56
  go_upto_region 3 with fail
  go_wp2_with (at_builtin; rw [← HW1.out]; refine wpList_append_own _ rfl (.tmp 5) (.tmp 6) 52 rfl w.heap.size 36 i0 _ 9 80 Tryz.underlying52 hi hz0 hz1 hz2 rfl (by decide) (.slice (some ⟨w.heap.size, 0, none⟩) 0 0) 0 [] rfl HO.out ⟨b, 0, none⟩ es.length c (ecells es) rfl HL.out HR.out H1.out hm hm2 HG1.out.size ?_; intro v' w7 hown hgrow hnil)
  have F1 : EOwn w7 w.heap.size v' es := by have h := hown; rw [List.nil_append, Nat.zero_add] at h; exact h
  have F2 : w.grownBy w7 none := grown_own HG1.out hgrow (fun x e => by cases e; exact Nat.le_refl _)
  obtain ⟨p, q, rfl⟩ := F1.rl.form
  clear hown hgrow hnil
  go_wp2
  go_ret
  exact ⟨_, rfl, F1, F2⟩
set_option maxRecDepth 100000 in
theorem cards_yes (ok : Nat → Prop) (b : Nat) (es : List Ent) (p : Pl) (w : World) (B : Book ok w b es p) : Calls Tryz.prog 19 #[.pointer (some ⟨b, 0, none⟩)] w fun e w' => ∃ x v, e = .returned (.func (.func 57) #[] #[.pointer (some ⟨x, 0, none⟩)]) ∧ w'.heap[x]? = some (.cells #[v] 52 (0, 0)) ∧ EOwn w' w.heap.size v es ∧ w.heap.size ≤ x ∧ w.grownBy w' none := by
  have hmf : ∀ fn bound caps ww, (Instr.makeFunc fn bound caps).run Tryz.prog ww = .ok (.func fn bound caps) ww := fun _ _ _ _ => rfl
  have C1 := list_yes b es.length B.lies.len p w B.lies.flags
  have C2 := fun W (g : w.grownBy W none) => cloneC_any ok b 64 es W (B.keep g).lies.row (B.keep g).good B.lies.len
  have HC2 : Hid (∀ W, w.grownBy W none → Calls Tryz.prog 56 #[.slice (some ⟨b, 0, none⟩) es.length 64] W fun e w' => ∃ v, e = .returned v ∧ EOwn w' W.heap.size v es ∧ W.grownBy w' none) := C2
  clear C2 B
  go_enter Tryz.func19, Tryz.ntmps19
  go_wp2_with fail
  refine C1.mono ?_
  rintro e w1 ⟨rfl, g1, s1⟩
  have HG1 : Hid (w.grownBy w1 none) := g1
  have HS1 : Hid (w1.heap.size = w.heap.size) := s1
  clear C1 g1 s1
  go_wp2_with fail
  refine (HC2.out w1 HG1.out).mono ?_
  rintro e w2 ⟨v, rfl, o2, g2⟩
  obtain ⟨xa, ya, rfl⟩ := o2.rl.form
  obtain ⟨W3, hW3⟩ : ∃ W3, W3 = w2.alloc (.cells #[.slice xa es.length ya] 52) := ⟨_, rfl⟩
  have FIN : Hid (∃ x v, (.returned (.func (.func 57) #[] #[.pointer (some ⟨w2.heap.size, 0, none⟩)]) : Ending) = .returned (.func (.func 57) #[] #[.pointer (some ⟨x, 0, none⟩)]) ∧ W3.heap[x]? = some (.cells #[v] 52 (0, 0)) ∧ EOwn W3 w.heap.size v es ∧ w.heap.size ≤ x ∧ w.grownBy W3 none) := by
    refine ⟨w2.heap.size, .slice xa es.length ya, rfl, by rw [hW3]; exact alloc_at _ _ _, ?_, Nat.le_trans (Nat.le_of_eq HS1.out.symm) g2.size, ?_⟩
    · rw [← HS1.out, hW3]; exact eown_keep o2 (World.grownBy_alloc _ _ none)
    · rw [hW3]; exact grown_push (grown_trans HG1.out g2) _
  have HW3 : Hid (W3 = _) := hW3
  clear o2 g2 hW3
  go_wp2
  rw [← HW3.out]
  go_ret
  exact FIN.out
end Go.Proofs.YtiikbhejnblhlaaGreat
