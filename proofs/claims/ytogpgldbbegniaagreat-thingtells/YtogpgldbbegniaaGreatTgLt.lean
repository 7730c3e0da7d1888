/-
  ThingTells, of every fill of a book, thing and moment.
-/
import Derived.Test.YtogpgldbbegniaaGreatT26
import Derived.Test.YtogpgldbbegniaaGreatBoB
import Derived.Test.YtogpgldbbegniaaGreatT4
import Derived.Test.YtogpgldbbegniaaGreatApart
import Derived.Test.YtogpgldbbegniaaGreatT34
import Derived.Laws.StructEq
import Derived.ChangeKeysEq
namespace Go.Proofs.YtogpgldbbegniaaGreat
open Go.RowKit

theorem own_intsT {w : World} {base : Nat} {v : Value} {l : List Int} (h : OwT w base v l) : L.IntsAt w v l := (show L.Own w base v l from h).ints
theorem samePs_self : ∀ a : List Pt, samePs a a = true
  | [] => rfl
  | p :: r => by simp [samePs, samep, samePs_self r]
set_option maxHeartbeats 2000000 in
theorem equalIn_fe' (a0 a1 a2 a3 a4 : Int) (w : World) : (Op.equalIn 10000 74 (.agg #[.int .i64 a0, .int .u8 a1, .int .u16 a2, .int .i64 a3, .int .i64 a4]) (.agg #[.int .i64 a0, .int .u8 a1, .int .u16 a2, .int .i64 a3, .int .i64 a4])).run Tryz.prog w = .ok true w := by
  have hS : Tryz.prog.underlying 74 = some (.struct (Tryz.prog.fieldsOf 74)) := by kernel_rfl
  have hp : Tryz.prog.stoodInHeld 74 = false := by kernel_rfl
  have u3 := Tryz.underlying3
  have i3 := Tryz.isAgg3
  have z3 := Tryz.sizeOf3
  have uS := Tryz.underlying63
  have iS := Tryz.isAgg63
  have zS := Tryz.sizeOf63
  have uT := Tryz.underlying66
  have iT := Tryz.isAgg66
  have zT := Tryz.sizeOf66
  rw [show (10000 : Nat) = 9999 + 1 from rfl, run_equalIn_agg w 9999 74 _ _ hS hp]
  simp only [Program.fieldsOf, Tryz.underlying74]
  go_simp
theorem neq_fe (a0 a1 a2 a3 a4 : Int) (w : World) : (binOp .neq 74 (.agg #[.int .i64 a0, .int .u8 a1, .int .u16 a2, .int .i64 a3, .int .i64 a4]) (.agg #[.int .i64 a0, .int .u8 a1, .int .u16 a2, .int .i64 a3, .int .i64 a4])).run Tryz.prog w = .ok (.bool false) w := by
  rw [run_neq_struct, equalIn_fe']; rfl
theorem eqg_fe' (op : BinOp) (x y : Operand) (xs ys : Array Value) (w : World) : (eqGuard op 74 x y (.agg xs) (.agg ys)).run Tryz.prog w = .ok () w := run_eqGuard_agg w op 74 x y xs ys (by kernel_rfl)
theorem own_kpt {w w' : World} {B : List Nat} {base e size n : Nat} {v : Value} {xs : List Value} (h : w.ownsRow base e size v n xs) (K : Kpt B w w') (hb : ∀ k, v.ownBlock = some k → k ∉ B) : w'.ownsRow base e size v n xs := by
  refine ⟨h.1, ?_⟩
  rcases h.2 with q | ⟨g, cap, cur, e1, hg, hh, r⟩
  · exact Or.inl q
  · exact Or.inr ⟨g, cap, cur, e1, hg, (K.block g (block_lt hh) (hb g (by rw [e1]; rfl))).trans hh, r⟩
theorem own_heap {w : World} {base e size n : Nat} {v : Value} {xs : List Value} (h : w.ownsRow base e size v n xs) : ∀ k, v.ownBlock = some k → ∃ cs, w.heap[k]? = some (.cells cs e (0, 0)) := fun k hk => by
  rcases h.2 with ⟨e1, _⟩ | ⟨g, cap, cur, e1, hg, hh, r⟩
  · rw [e1] at hk; cases hk
  · rw [e1] at hk
    cases hk
    exact ⟨_, hh⟩
/-- A list of parts of the call's own, as ApartParts takes it. -/
theorem lst_part {w : World} {base : Nat} {v : Value} {ps : List Pt} (h : POwn w base v ps) : ∃ x : Lst, v = x.v ∧ x.ok w ∧ x.a = v.ownBlock := by
  rcases h.2 with ⟨e1, h0⟩ | ⟨g, cap, cur, e1, hg, hh, hn, hm, hs, ht⟩
  · exact ⟨⟨none, 0, 0⟩, e1, Or.inl ⟨rfl, rfl, rfl⟩, by rw [e1]; rfl⟩
  · exact ⟨⟨some g, ps.length, cap⟩, e1, Or.inr ⟨g, rfl, hn, hm, cur, hh, hs⟩, by rw [e1]; rfl⟩
def blk4 (a b c d : Value) : List Nat := a.ownBlock.toList ++ (b.ownBlock.toList ++ (c.ownBlock.toList ++ d.ownBlock.toList))
theorem blk4_mem {a b c d : Value} {k : Nat} (h : k ∈ blk4 a b c d) : a.ownBlock = some k ∨ b.ownBlock = some k ∨ c.ownBlock = some k ∨ d.ownBlock = some k := by
  unfold blk4 at h
  simpa [Option.mem_toList] using h
theorem blk4_a {a b c d : Value} {k : Nat} (h : a.ownBlock = some k) : k ∈ blk4 a b c d := by unfold blk4; simp [h]
theorem blk4_b {a b c d : Value} {k : Nat} (h : b.ownBlock = some k) : k ∈ blk4 a b c d := by unfold blk4; simp [h]
theorem blk4_c {a b c d : Value} {k : Nat} (h : c.ownBlock = some k) : k ∈ blk4 a b c d := by unfold blk4; simp [h]
theorem blk4_d {a b c d : Value} {k : Nat} (h : d.ownBlock = some k) : k ∈ blk4 a b c d := by unfold blk4; simp [h]
theorem tag_neT {w : World} {a b : Nat} {cs ds : Array Value} {T U : TypeId} (h : w.heap[a]? = some (.cells cs T (0, 0))) (k : w.heap[b]? = some (.cells ds U (0, 0))) (hne : ¬ T = U) : ¬ a = b := fun e => by
  rw [e, k] at h
  injection h with h
  injection h with _ h _
  exact hne h.symm
theorem apartP_two (base gt : Nat) (a b : Value) (ps : List Pt) (w : World) (ha : POwn w base a ps) (hb : POwn w base b ps) (hab : ∀ k, a.ownBlock = some k → b.ownBlock ≠ some k) (hrow : w.heap[gt]? = some (.cells #[a, b] 67 (0, 0))) : Calls Tryz.prog 35 #[.slice (some ⟨gt, 0, none⟩) 2 2] w fun e w' => e = .returned (.bool true) ∧ Kpt (a.ownBlock.toList ++ b.ownBlock.toList) w w' := by
  obtain ⟨x, rfl, hx, ex⟩ := lst_part ha
  obtain ⟨y, rfl, hy, ey⟩ := lst_part hb
  have := apart_any gt 2 [x, y] w (by simp) (by simp) (fun j z hz => by
    rw [block_cell hrow j]
    rcases j with _ | _ | j
    · simp at hz; subst hz; rfl
    · simp at hz; subst hz; rfl
    · simp at hz) (fun z hz => by
    simp only [List.mem_cons, List.not_mem_nil, or_false] at hz
    rcases hz with rfl | rfl
    · exact hx
    · exact hy) (fun i j z u g hi hj hz hu => by
    have key : ∀ (i : Nat) z, [x, y][i]? = some z → (i = 0 ∧ z = x) ∨ (i = 1 ∧ z = y) := fun i z h => by
      rcases i with _ | _ | i
      · left; simp at h; exact ⟨rfl, h.symm⟩
      · right; simp at h; exact ⟨rfl, h.symm⟩
      · simp at h
    rcases key i z hi with ⟨rfl, rfl⟩ | ⟨rfl, rfl⟩ <;> rcases key j u hj with ⟨rfl, rfl⟩ | ⟨rfl, rfl⟩
    · rfl
    · exact absurd (ey.symm.trans hu) (hab g (ex.symm.trans hz))
    · exact absurd (ey.symm.trans hz) (hab g (ex.symm.trans hu))
    · rfl)
  refine this.mono fun e w' q => ⟨q.1, q.2.mono fun k hk => ?_⟩
  obtain ⟨z, hz, ez⟩ := List.mem_filterMap.1 hk
  simp only [List.mem_cons, List.not_mem_nil, or_false] at hz
  rcases hz with rfl | rfl
  · rw [ex] at ez; simp [ez]
  · rw [ey] at ez; simp [ez]
theorem apartI_two (base gt : Nat) (a b : Value) (l : List Int) (w : World) (ha : OwT w base a l) (hb : OwT w base b l) (hab : ∀ k, a.ownBlock = some k → b.ownBlock ≠ some k) (hrow : w.heap[gt]? = some (.cells #[a, b] 22 (0, 0))) : Calls Tryz.prog 34 #[.slice (some ⟨gt, 0, none⟩) 2 2] w fun e w' => e = .returned (.bool true) ∧ Kpt (a.ownBlock.toList ++ b.ownBlock.toList) w w' := by
  have := apart_vals 0 gt 2 2 [a, b] w ⟨rfl, Or.inr ⟨gt, 2, #[a, b], rfl, Nat.zero_le _, hrow, Nat.le_refl _, by unfold maxLen; omega, rfl, rfl⟩⟩ (by decide) (by decide) (fun v hv => by
    simp only [List.mem_cons, List.not_mem_nil, or_false] at hv
    rcases hv with rfl | rfl
    · exact ⟨_, _, _, ha⟩
    · exact ⟨_, _, _, hb⟩) (by
    rw [List.pairwise_cons]
    exact ⟨fun y hy => by rw [List.mem_singleton.1 hy]; exact hab, List.pairwise_singleton _ _⟩)
  refine this.mono fun e w' q => ⟨q.1, q.2.mono fun k hk => ?_⟩
  obtain ⟨z, hz, ez⟩ := List.mem_filterMap.1 hk
  simp only [List.mem_cons, List.not_mem_nil, or_false] at hz
  rcases hz with rfl | rfl
  · simp [ez]
  · simp [ez]
set_option maxRecDepth 100000 in
set_option maxHeartbeats 4000000 in
theorem again_any (nb : Nat) (t : Th) (h : Hd) (ps : List Pt) (x : Int) (vw : Value) (w : World) (hl : ps.length ≤ 4) (HC : ∀ X, w.grownBy X none → Calls Tryz.prog 24 #[.pointer (some ⟨nb, 0, none⟩), thv t] X (CrPost h ps x X)) (hP : PsAt w vw ps) : Calls Tryz.prog 36 #[.pointer (some ⟨nb, 0, none⟩), thv t, cv h vw] w fun e w' => e = .returned (.bool true) ∧ w.grownBy w' none := by
  obtain ⟨aw, kw, rfl⟩ := hP.form
  obtain ⟨W1, hW1⟩ : ∃ W1, W1 = (w.alloc (.cells #[.int .i64 t.card, .int .i64 t.owner, .int .u8 t.place, .int .i64 t.stamp, .int .i64 t.hurt, .int .i64 t.m0, .int .i64 t.m1, .int .i64 t.m2, .int .i64 t.m3, .int .i64 t.done, .bool t.fresh] 39)).alloc (.cells (ccs h (.slice aw ps.length kw)) 69) := ⟨_, rfl⟩
  have HG1 : Hid (w.grownBy W1 none) := by rw [hW1]; exact grown_push (World.grownBy_alloc _ _ none) _
  have HT : Hid (W1.heap[w.heap.size]? = some (.cells #[.int .i64 t.card, .int .i64 t.owner, .int .u8 t.place, .int .i64 t.stamp, .int .i64 t.hurt, .int .i64 t.m0, .int .i64 t.m1, .int .i64 t.m2, .int .i64 t.m3, .int .i64 t.done, .bool t.fresh] 39 (0, 0))) := by rw [hW1]; exact grown_keep (World.grownBy_alloc _ _ none) (alloc_at w _ _) (by simp)
  have HK : Hid (W1.heap[w.heap.size + 1]? = some (.cells (ccs h (.slice aw ps.length kw)) 69 (0, 0))) := by rw [hW1]; exact alloc2_at _ _ _ _
  have HC1 := HC W1 HG1.out
  have HPw : Hid (PsAt W1 (.slice aw ps.length kw) ps) := hP.keep HG1.out
  have HL : Hid (ps.length ≤ 4) := hl
  unfold CrPost cv thv at HC1
  unfold thv cv
  unfold ccs at hW1
  clear HC hP hl
  go_enter Tryz.func36, Tryz.ntmps36
  go_upto_region 1 with fail
  rw [← hW1]
  clear hW1
  obtain ⟨n0, h0⟩ : ∃ n0, n0 = w.heap.size := ⟨_, rfl⟩
  simp only [← h0] at HT HK ⊢
  obtain ⟨n1, h1⟩ : ∃ n1, n1 = n0 + 1 := ⟨_, rfl⟩
  simp only [← h1] at HK ⊢
  clear h0 h1
  have x0 := block_cell HT.out 0
  have x1 := block_cell HT.out 1
  have x2 := block_cell HT.out 2
  have x3 := block_cell HT.out 3
  have x4 := block_cell HT.out 4
  have x5 := block_cell HT.out 5
  have x6 := block_cell HT.out 6
  have x7 := block_cell HT.out 7
  have x8 := block_cell HT.out 8
  have x9 := block_cell HT.out 9
  have x10 := block_cell HT.out 10
  go_wp2_with fail
  refine HC1.mono ?_
  rintro e w2 ⟨u, rfl, o2, g2⟩
  obtain ⟨a2, k2, rfl⟩ := o2.at.form
  obtain ⟨W3, hW3⟩ : ∃ W3, W3 = w2.alloc (.cells (ccs h (.slice a2 ps.length k2)) 69) := ⟨_, rfl⟩
  have HG3 : Hid (W1.grownBy W3 none) := by rw [hW3]; exact grown_push g2 _
  have HK2 : Hid (W3.heap[w2.heap.size]? = some (.cells (ccs h (.slice a2 ps.length k2)) 69 (0, 0))) := by rw [hW3]; exact alloc_at _ _ _
  have HK1 : Hid (W3.heap[n1]? = some (.cells (ccs h (.slice aw ps.length kw)) 69 (0, 0))) := grown_keep HG3.out HK.out (by simp)
  have HSm := sameCard_any h h (.slice a2 ps.length k2) (.slice aw ps.length kw) ps ps W3 (by rw [hW3]; exact o2.at.keep (World.grownBy_alloc _ _ none)) (HPw.out.keep HG3.out) (by have := HL.out; unfold Small; omega)
  rw [sameHd_refl, samePs_self] at HSm
  unfold cv at HSm
  simp only [Bool.and_self] at HSm
  unfold ccs at hW3
  clear HC1 o2 g2 HT HK x0 x1 x2 x3 x4 x5 x6 x7 x8 x9 x10
  go_upto_region 2 with fail
  rw [← hW3]
  clear hW3
  obtain ⟨k, hk⟩ : ∃ k, k = w2.heap.size := ⟨_, rfl⟩
  rw [← hk] at HK2 ⊢
  clear hk
  have q0 := block_cell HK2.out 0
  have r0 := block_cell HK1.out 0
  have q1 := block_cell HK2.out 1
  have r1 := block_cell HK1.out 1
  have q2 := block_cell HK2.out 2
  have r2 := block_cell HK1.out 2
  have q3 := block_cell HK2.out 3
  have r3 := block_cell HK1.out 3
  have q4 := block_cell HK2.out 4
  have r4 := block_cell HK1.out 4
  have q5 := block_cell HK2.out 5
  have r5 := block_cell HK1.out 5
  have q6 := block_cell HK2.out 6
  have r6 := block_cell HK1.out 6
  have q7 := block_cell HK2.out 7
  have r7 := block_cell HK1.out 7
  have q8 := block_cell HK2.out 8
  have r8 := block_cell HK1.out 8
  simp only [ccs] at q0 r0 q1 r1 q2 r2 q3 r3 q4 r4 q5 r5 q6 r6 q7 r7 q8 r8
  go_wp2_with fail
  refine HSm.mono ?_
  rintro e w4 ⟨rfl, g4⟩
  have HG5 : Hid (w.grownBy w4 none) := grown_trans HG1.out (grown_trans HG3.out g4)
  clear HSm g4
  go_wp2
  go_ret
  exact ⟨rfl, HG5.out⟩
set_option maxRecDepth 100000 in
set_option maxHeartbeats 16000000 in
theorem thingTells_any (vc vm : Value) (op : Bool) (cs : List Ent) (ms : List Mk) (t : Th) (m : Int) (w : World) (F : FiA w vc vm cs ms) : Calls Tryz.prog 5 #[.agg #[vc, vm, .bool op], thv t, .int .u8 m] w fun e w' => e = .returned (.bool true) ∧ w.grownBy w' none := by
  obtain ⟨ca, ck, rfl, _⟩ := id F.c
  obtain ⟨ma, mk, rfl, _⟩ := id F.m
  obtain ⟨W1, hW1⟩ : ∃ W1, W1 = (w.alloc (.cells #[.slice ca cs.length ck, .slice ma ms.length mk, .bool op] 58)).alloc (.cells #[.int .i64 t.card, .int .i64 t.owner, .int .u8 t.place, .int .i64 t.stamp, .int .i64 t.hurt, .int .i64 t.m0, .int .i64 t.m1, .int .i64 t.m2, .int .i64 t.m3, .int .i64 t.done, .bool t.fresh] 39) := ⟨_, rfl⟩
  have HG1 : Hid (w.grownBy W1 none) := by rw [hW1]; exact grown_push (World.grownBy_alloc _ _ none) _
  have HB0 : Hid (W1.heap[w.heap.size]? = some (.cells #[.slice ca cs.length ck, .slice ma ms.length mk, .bool op] 58 (0, 0))) := by
    rw [hW1]; exact grown_keep (World.grownBy_alloc _ _ none) (alloc_at w _ _) (by simp)
  have HB1 : Hid (W1.heap[w.heap.size + 1]? = some (.cells #[.int .i64 t.card, .int .i64 t.owner, .int .u8 t.place, .int .i64 t.stamp, .int .i64 t.hurt, .int .i64 t.m0, .int .i64 t.m1, .int .i64 t.m2, .int .i64 t.m3, .int .i64 t.done, .bool t.fresh] 39 (0, 0))) := by rw [hW1]; exact alloc2_at _ _ _ _
  have HBk := books_any (.slice ca cs.length ck) (.slice ma ms.length mk) op cs ms W1 (F.keep HG1.out)
  obtain ⟨nb, hnb⟩ : ∃ nb, nb = W1.heap.size + 1 := ⟨_, rfl⟩
  rw [← hnb] at HBk
  clear hnb F
  unfold thv
  go_enter Tryz.func5, Tryz.ntmps5
  go_upto_region 1 with fail
  rw [← hW1]
  clear hW1
  obtain ⟨n0, h0⟩ : ∃ n0, n0 = w.heap.size := ⟨_, rfl⟩
  simp only [← h0] at HB0 HB1 ⊢
  obtain ⟨n1, h1⟩ : ∃ n1, n1 = n0 + 1 := ⟨_, rfl⟩
  simp only [← h1] at HB1 ⊢
  clear h0 h1
  have x0 := block_cell HB0.out 0
  have x1 := block_cell HB0.out 1
  have x2 := block_cell HB0.out 2
  go_wp2_with fail
  refine HBk.mono ?_
  intro e S0 Q2
  unfold BoPost at Q2
  obtain ⟨v, es, fs, p, rfl, P, _, g2⟩ := Q2
  have HG2 : Hid (w.grownBy S0 none) := grown_trans HG1.out g2
  have HT0 : Hid (S0.heap[n1]? = some (.cells #[.int .i64 t.card, .int .i64 t.owner, .int .u8 t.place, .int .i64 t.stamp, .int .i64 t.hurt, .int .i64 t.m0, .int .i64 t.m1, .int .i64 t.m2, .int .i64 t.m3, .int .i64 t.done, .bool t.fresh] 39 (0, 0))) := grown_keep g2 HB1.out (by simp)
  have HP0 : Hid (Pr (okB nb) S0 nb (nb + 1) v es fs p) := P
  have HCd : Hid (∀ X, S0.grownBy X none → Calls Tryz.prog 24 #[.pointer (some ⟨nb, 0, none⟩), thv t] X (CrPost (atC p es t.card).1 (atC p es t.card).2 (atX p es t.card) X)) := fun X g => tcard_book (okB nb) nb es p t X (HP0.out.book.keep g)
  have HRd : Hid (∀ X, S0.grownBy X none → Calls Tryz.prog 25 #[.pointer (some ⟨nb + 1, 0, none⟩), thv t] X (CrPost (atC p es t.card).1 (atC p es t.card).2 (atX p es t.card) X)) := fun X g => by
    have := rcard_book (okB nb) (nb + 1) v p fs t X (HP0.out.rd.keep g)
    rw [← hp_atC HP0.out.same, ← hp_atX HP0.out.same] at this
    exact this
  have HXp : Hid (¬ atX p es t.card = 0 → (atC p es t.card).2 = []) := fun hne => by
    by_cases hi : atIn p es t.card
    · exact absurd (atX_in hi) hne
    · rw [atC_out hi]
  have HLp : Hid ((atC p es t.card).2.length ≤ 4) := by
    show _ ≤ _
    by_cases hi : atIn p es t.card
    · obtain ⟨j, hj⟩ : ∃ j : Nat, t.card = (j : Int) + 1 := ⟨(t.card - 1).toNat, by have := hi.2.1; omega⟩
      have hjl : j < es.length := by have := hi.2.2; omega
      rw [hj, atC_in hi.1 (List.getElem?_eq_getElem hjl)]
      exact HP0.out.book.parts _ (List.getElem_mem _)
    · rw [atC_out hi]; exact Nat.zero_le _
  obtain ⟨h, hh⟩ : ∃ h, h = (atC p es t.card).1 := ⟨_, rfl⟩
  obtain ⟨ps, hps⟩ : ∃ ps, ps = (atC p es t.card).2 := ⟨_, rfl⟩
  obtain ⟨x, hx⟩ : ∃ x, x = atX p es t.card := ⟨_, rfl⟩
  rw [← hh, ← hps, ← hx] at HCd HRd
  rw [← hps, ← hx] at HXp
  rw [← hps] at HLp
  obtain ⟨nr, hnr⟩ : ∃ nr, nr = nb + 1 := ⟨_, rfl⟩
  rw [← hnr] at HRd ⊢
  clear hh hps hx hnr HP0 P g2 HBk HB0 HB1 HG1 x0 x1 x2
  obtain ⟨f0, f1, f2, f3, f4, hf⟩ : ∃ f0 f1 f2 f3 f4, ptF h x t = ⟨f0, f1, f2, f3, f4⟩ := ⟨_, _, _, _, _, rfl⟩
  have HFe : Hid (ptF h x t = ⟨f0, f1, f2, f3, f4⟩) := hf
  obtain ⟨fx, hfx⟩ : ∃ fx, fx = ptE x t := ⟨_, rfl⟩
  have HFx : Hid (fx = ptE x t) := hfx
  obtain ⟨L, hL⟩ : ∃ L, L = plF ps 0 m := ⟨_, rfl⟩
  have HLe : Hid (L = plF ps 0 m) := hL
  obtain ⟨ub, hub⟩ : ∃ ub, ub = unB h x t := ⟨_, rfl⟩
  have HUb : Hid (ub = unB h x t) := hub
  clear hf hfx hL hub
  have HK0 : Hid (S0.grownBy S0 none) := grown_refl _ _
  have HTc : Hid (S0.heap[n1]? = some (.cells #[.int .i64 t.card, .int .i64 t.owner, .int .u8 t.place, .int .i64 t.stamp, .int .i64 t.hurt, .int .i64 t.m0, .int .i64 t.m1, .int .i64 t.m2, .int .i64 t.m3, .int .i64 t.done, .bool t.fresh] 39 (0, 0))) := grown_keep HK0.out HT0.out (by simp)
  have x0 := block_cell HTc.out 0
  have x1 := block_cell HTc.out 1
  have x2 := block_cell HTc.out 2
  have x3 := block_cell HTc.out 3
  have x4 := block_cell HTc.out 4
  have x5 := block_cell HTc.out 5
  have x6 := block_cell HTc.out 6
  have x7 := block_cell HTc.out 7
  have x8 := block_cell HTc.out 8
  have x9 := block_cell HTc.out 9
  have x10 := block_cell HTc.out 10
  have HC1 := HCd.out S0 HK0.out
  unfold CrPost cv thv at HC1
  go_wp2_with fail
  refine HC1.mono ?_
  rintro e r1 ⟨u1, rfl, o1, g1⟩
  obtain ⟨a1, k1, rfl⟩ := o1.at.form
  obtain ⟨S1, hS1⟩ : ∃ S1, S1 = r1.alloc (.cells (ccs h (.slice a1 ps.length k1)) 69) := ⟨_, rfl⟩
  have HD1 : Hid (S0.grownBy S1 none) := by rw [hS1]; exact grown_push g1 _
  have HK1 : Hid (S0.grownBy S1 none) := grown_trans HK0.out HD1.out
  have HO1 : Hid (POwn S1 S0.heap.size (.slice a1 ps.length k1) ps) := by rw [hS1]; exact o1.keep (World.grownBy_alloc _ _ none) (fun x e => by cases e)
  have HY1 : Hid (S1.heap[r1.heap.size]? = some (.cells (ccs h (.slice a1 ps.length k1)) 69 (0, 0))) := by rw [hS1]; exact alloc_at _ _ _
  unfold ccs at hS1
  clear HC1 o1 g1 x0 x1 x2 x3 x4 x5 x6 x7 x8 x9 x10 HTc
  go_upto_region 5 with fail
  rw [← hS1]
  clear hS1
  obtain ⟨y1, hy1⟩ : ∃ y1, y1 = r1.heap.size := ⟨_, rfl⟩
  rw [← hy1] at HY1 ⊢
  clear hy1
  have HTc : Hid (S1.heap[n1]? = some (.cells #[.int .i64 t.card, .int .i64 t.owner, .int .u8 t.place, .int .i64 t.stamp, .int .i64 t.hurt, .int .i64 t.m0, .int .i64 t.m1, .int .i64 t.m2, .int .i64 t.m3, .int .i64 t.done, .bool t.fresh] 39 (0, 0))) := grown_keep HK1.out HT0.out (by simp)
  have x0 := block_cell HTc.out 0
  have x1 := block_cell HTc.out 1
  have x2 := block_cell HTc.out 2
  have x3 := block_cell HTc.out 3
  have x4 := block_cell HTc.out 4
  have x5 := block_cell HTc.out 5
  have x6 := block_cell HTc.out 6
  have x7 := block_cell HTc.out 7
  have x8 := block_cell HTc.out 8
  have x9 := block_cell HTc.out 9
  have x10 := block_cell HTc.out 10
  have HC2 := HCd.out S1 HK1.out
  unfold CrPost cv thv at HC2
  go_wp2_with fail
  refine HC2.mono ?_
  rintro e r2 ⟨u2, rfl, o2, g2⟩
  obtain ⟨a2, k2, rfl⟩ := o2.at.form
  obtain ⟨S2, hS2⟩ : ∃ S2, S2 = r2.alloc (.cells (ccs h (.slice a2 ps.length k2)) 69) := ⟨_, rfl⟩
  have HD2 : Hid (S1.grownBy S2 none) := by rw [hS2]; exact grown_push g2 _
  have HK2 : Hid (S0.grownBy S2 none) := grown_trans HK1.out HD2.out
  have HO2 : Hid (POwn S2 S1.heap.size (.slice a2 ps.length k2) ps) := by rw [hS2]; exact o2.keep (World.grownBy_alloc _ _ none) (fun x e => by cases e)
  have HY2 : Hid (S2.heap[r2.heap.size]? = some (.cells (ccs h (.slice a2 ps.length k2)) 69 (0, 0))) := by rw [hS2]; exact alloc_at _ _ _
  unfold ccs at hS2
  clear HC2 o2 g2 x0 x1 x2 x3 x4 x5 x6 x7 x8 x9 x10 HTc
  go_upto_region 6 with fail
  rw [← hS2]
  clear hS2
  obtain ⟨y2, hy2⟩ : ∃ y2, y2 = r2.heap.size := ⟨_, rfl⟩
  rw [← hy2] at HY2 ⊢
  clear hy2
  have HTc : Hid (S2.heap[n1]? = some (.cells #[.int .i64 t.card, .int .i64 t.owner, .int .u8 t.place, .int .i64 t.stamp, .int .i64 t.hurt, .int .i64 t.m0, .int .i64 t.m1, .int .i64 t.m2, .int .i64 t.m3, .int .i64 t.done, .bool t.fresh] 39 (0, 0))) := grown_keep HK2.out HT0.out (by simp)
  have x0 := block_cell HTc.out 0
  have x1 := block_cell HTc.out 1
  have x2 := block_cell HTc.out 2
  have x3 := block_cell HTc.out 3
  have x4 := block_cell HTc.out 4
  have x5 := block_cell HTc.out 5
  have x6 := block_cell HTc.out 6
  have x7 := block_cell HTc.out 7
  have x8 := block_cell HTc.out 8
  have x9 := block_cell HTc.out 9
  have x10 := block_cell HTc.out 10
  have HC3 := HRd.out S2 HK2.out
  unfold CrPost cv thv at HC3
  go_wp2_with fail
  refine HC3.mono ?_
  rintro e r3 ⟨u3, rfl, o3, g3⟩
  obtain ⟨a3, k3, rfl⟩ := o3.at.form
  obtain ⟨S3, hS3⟩ : ∃ S3, S3 = r3.alloc (.cells (ccs h (.slice a3 ps.length k3)) 69) := ⟨_, rfl⟩
  have HD3 : Hid (S2.grownBy S3 none) := by rw [hS3]; exact grown_push g3 _
  have HK3 : Hid (S0.grownBy S3 none) := grown_trans HK2.out HD3.out
  have HO3 : Hid (POwn S3 S2.heap.size (.slice a3 ps.length k3) ps) := by rw [hS3]; exact o3.keep (World.grownBy_alloc _ _ none) (fun x e => by cases e)
  have HY3 : Hid (S3.heap[r3.heap.size]? = some (.cells (ccs h (.slice a3 ps.length k3)) 69 (0, 0))) := by rw [hS3]; exact alloc_at _ _ _
  unfold ccs at hS3
  clear HC3 o3 g3 x0 x1 x2 x3 x4 x5 x6 x7 x8 x9 x10 HTc
  go_upto_region 7 with fail
  rw [← hS3]
  clear hS3
  obtain ⟨y3, hy3⟩ : ∃ y3, y3 = r3.heap.size := ⟨_, rfl⟩
  rw [← hy3] at HY3 ⊢
  clear hy3
  have HTc : Hid (S3.heap[n1]? = some (.cells #[.int .i64 t.card, .int .i64 t.owner, .int .u8 t.place, .int .i64 t.stamp, .int .i64 t.hurt, .int .i64 t.m0, .int .i64 t.m1, .int .i64 t.m2, .int .i64 t.m3, .int .i64 t.done, .bool t.fresh] 39 (0, 0))) := grown_keep HK3.out HT0.out (by simp)
  have x0 := block_cell HTc.out 0
  have x1 := block_cell HTc.out 1
  have x2 := block_cell HTc.out 2
  have x3 := block_cell HTc.out 3
  have x4 := block_cell HTc.out 4
  have x5 := block_cell HTc.out 5
  have x6 := block_cell HTc.out 6
  have x7 := block_cell HTc.out 7
  have x8 := block_cell HTc.out 8
  have x9 := block_cell HTc.out 9
  have x10 := block_cell HTc.out 10
  have HC4 := tprinted_of (.pointer (some ⟨nb, 0, none⟩)) t h ps x S3 (fun X g => HCd.out X (grown_trans HK3.out g))
  rw [HFe.out, ← HFx.out] at HC4
  unfold fev thv at HC4
  simp only at HC4
  go_wp2_with fail
  refine HC4.mono ?_
  rintro e r4 ⟨rfl, g4⟩
  obtain ⟨S4, hS4⟩ : ∃ S4, S4 = r4.alloc (.cells #[.int .i64 f0, .int .u8 f1, .int .u16 f2, .int .i64 f3, .int .i64 f4] 74) := ⟨_, rfl⟩
  have HD4 : Hid (S3.grownBy S4 none) := by rw [hS4]; exact grown_push g4 _
  have HK4 : Hid (S0.grownBy S4 none) := grown_trans HK3.out HD4.out
  have HY4 : Hid (S4.heap[r4.heap.size]? = some (.cells #[.int .i64 f0, .int .u8 f1, .int .u16 f2, .int .i64 f3, .int .i64 f4] 74 (0, 0))) := by rw [hS4]; exact alloc_at _ _ _
  clear HC4 g4 x0 x1 x2 x3 x4 x5 x6 x7 x8 x9 x10 HTc
  go_upto_region 8 with fail
  rw [← hS4]
  clear hS4
  obtain ⟨y4, hy4⟩ : ∃ y4, y4 = r4.heap.size := ⟨_, rfl⟩
  rw [← hy4] at HY4 ⊢
  clear hy4
  have HTc : Hid (S4.heap[n1]? = some (.cells #[.int .i64 t.card, .int .i64 t.owner, .int .u8 t.place, .int .i64 t.stamp, .int .i64 t.hurt, .int .i64 t.m0, .int .i64 t.m1, .int .i64 t.m2, .int .i64 t.m3, .int .i64 t.done, .bool t.fresh] 39 (0, 0))) := grown_keep HK4.out HT0.out (by simp)
  have x0 := block_cell HTc.out 0
  have x1 := block_cell HTc.out 1
  have x2 := block_cell HTc.out 2
  have x3 := block_cell HTc.out 3
  have x4 := block_cell HTc.out 4
  have x5 := block_cell HTc.out 5
  have x6 := block_cell HTc.out 6
  have x7 := block_cell HTc.out 7
  have x8 := block_cell HTc.out 8
  have x9 := block_cell HTc.out 9
  have x10 := block_cell HTc.out 10
  have HC5 := rprinted_of (.pointer (some ⟨nr, 0, none⟩)) t h ps x S4 (fun X g => HRd.out X (grown_trans HK4.out g))
  rw [HFe.out, ← HFx.out] at HC5
  unfold fev thv at HC5
  simp only at HC5
  go_wp2_with fail
  refine HC5.mono ?_
  rintro e r5 ⟨rfl, g5⟩
  obtain ⟨S5, hS5⟩ : ∃ S5, S5 = r5.alloc (.cells #[.int .i64 f0, .int .u8 f1, .int .u16 f2, .int .i64 f3, .int .i64 f4] 74) := ⟨_, rfl⟩
  have HD5 : Hid (S4.grownBy S5 none) := by rw [hS5]; exact grown_push g5 _
  have HK5 : Hid (S0.grownBy S5 none) := grown_trans HK4.out HD5.out
  have HY5 : Hid (S5.heap[r5.heap.size]? = some (.cells #[.int .i64 f0, .int .u8 f1, .int .u16 f2, .int .i64 f3, .int .i64 f4] 74 (0, 0))) := by rw [hS5]; exact alloc_at _ _ _
  clear HC5 g5 x0 x1 x2 x3 x4 x5 x6 x7 x8 x9 x10 HTc
  go_upto_region 9 with fail
  rw [← hS5]
  clear hS5
  obtain ⟨y5, hy5⟩ : ∃ y5, y5 = r5.heap.size := ⟨_, rfl⟩
  rw [← hy5] at HY5 ⊢
  clear hy5
  have HTc : Hid (S5.heap[n1]? = some (.cells #[.int .i64 t.card, .int .i64 t.owner, .int .u8 t.place, .int .i64 t.stamp, .int .i64 t.hurt, .int .i64 t.m0, .int .i64 t.m1, .int .i64 t.m2, .int .i64 t.m3, .int .i64 t.done, .bool t.fresh] 39 (0, 0))) := grown_keep HK5.out HT0.out (by simp)
  have x0 := block_cell HTc.out 0
  have x1 := block_cell HTc.out 1
  have x2 := block_cell HTc.out 2
  have x3 := block_cell HTc.out 3
  have x4 := block_cell HTc.out 4
  have x5 := block_cell HTc.out 5
  have x6 := block_cell HTc.out 6
  have x7 := block_cell HTc.out 7
  have x8 := block_cell HTc.out 8
  have x9 := block_cell HTc.out 9
  have x10 := block_cell HTc.out 10
  have HC6 := tparts_of (.pointer (some ⟨nb, 0, none⟩)) t h ps x m S5 HXp.out HLp.out (fun X g => HCd.out X (grown_trans HK5.out g))
  rw [← HLe.out] at HC6
  unfold thv at HC6
  go_wp2_with fail
  refine HC6.mono ?_
  rintro e S6 ⟨u6, rfl, o6, g6⟩
  obtain ⟨a6, k6, rfl⟩ := o6.form
  have HD6 : Hid (S5.grownBy S6 none) := g6
  have HK6 : Hid (S0.grownBy S6 none) := grown_trans HK5.out HD6.out
  have HO6 : Hid (OwT S6 S5.heap.size (.slice a6 L.length k6) L) := o6
  clear HC6 o6 g6 x0 x1 x2 x3 x4 x5 x6 x7 x8 x9 x10 HTc
  have HTc : Hid (S6.heap[n1]? = some (.cells #[.int .i64 t.card, .int .i64 t.owner, .int .u8 t.place, .int .i64 t.stamp, .int .i64 t.hurt, .int .i64 t.m0, .int .i64 t.m1, .int .i64 t.m2, .int .i64 t.m3, .int .i64 t.done, .bool t.fresh] 39 (0, 0))) := grown_keep HK6.out HT0.out (by simp)
  have x0 := block_cell HTc.out 0
  have x1 := block_cell HTc.out 1
  have x2 := block_cell HTc.out 2
  have x3 := block_cell HTc.out 3
  have x4 := block_cell HTc.out 4
  have x5 := block_cell HTc.out 5
  have x6 := block_cell HTc.out 6
  have x7 := block_cell HTc.out 7
  have x8 := block_cell HTc.out 8
  have x9 := block_cell HTc.out 9
  have x10 := block_cell HTc.out 10
  have HC7 := tparts_of (.pointer (some ⟨nb, 0, none⟩)) t h ps x m S6 HXp.out HLp.out (fun X g => HCd.out X (grown_trans HK6.out g))
  rw [← HLe.out] at HC7
  unfold thv at HC7
  go_wp2_with fail
  refine HC7.mono ?_
  rintro e S7 ⟨u7, rfl, o7, g7⟩
  obtain ⟨a7, k7, rfl⟩ := o7.form
  have HD7 : Hid (S6.grownBy S7 none) := g7
  have HK7 : Hid (S0.grownBy S7 none) := grown_trans HK6.out HD7.out
  have HO7 : Hid (OwT S7 S6.heap.size (.slice a7 L.length k7) L) := o7
  clear HC7 o7 g7 x0 x1 x2 x3 x4 x5 x6 x7 x8 x9 x10 HTc
  have HTc : Hid (S7.heap[n1]? = some (.cells #[.int .i64 t.card, .int .i64 t.owner, .int .u8 t.place, .int .i64 t.stamp, .int .i64 t.hurt, .int .i64 t.m0, .int .i64 t.m1, .int .i64 t.m2, .int .i64 t.m3, .int .i64 t.done, .bool t.fresh] 39 (0, 0))) := grown_keep HK7.out HT0.out (by simp)
  have x0 := block_cell HTc.out 0
  have x1 := block_cell HTc.out 1
  have x2 := block_cell HTc.out 2
  have x3 := block_cell HTc.out 3
  have x4 := block_cell HTc.out 4
  have x5 := block_cell HTc.out 5
  have x6 := block_cell HTc.out 6
  have x7 := block_cell HTc.out 7
  have x8 := block_cell HTc.out 8
  have x9 := block_cell HTc.out 9
  have x10 := block_cell HTc.out 10
  have HC8 := rparts_of (.pointer (some ⟨nr, 0, none⟩)) t h ps x m S7 HXp.out HLp.out (fun X g => HRd.out X (grown_trans HK7.out g))
  rw [← HLe.out] at HC8
  unfold thv at HC8
  go_wp2_with fail
  refine HC8.mono ?_
  rintro e S8 ⟨u8, rfl, o8, g8⟩
  obtain ⟨a8, k8, rfl⟩ := o8.form
  have HD8 : Hid (S7.grownBy S8 none) := g8
  have HK8 : Hid (S0.grownBy S8 none) := grown_trans HK7.out HD8.out
  have HO8 : Hid (OwT S8 S7.heap.size (.slice a8 L.length k8) L) := o8
  clear HC8 o8 g8 x0 x1 x2 x3 x4 x5 x6 x7 x8 x9 x10 HTc
  have HE8 : Hid (S8.grownBy S8 none) := grown_refl _ _
  have HE7 : Hid (S7.grownBy S8 none) := grown_trans HD8.out HE8.out
  have HE6 : Hid (S6.grownBy S8 none) := grown_trans HD7.out HE7.out
  have HE5 : Hid (S5.grownBy S8 none) := grown_trans HD6.out HE6.out
  have HE4 : Hid (S4.grownBy S8 none) := grown_trans HD5.out HE5.out
  have HE3 : Hid (S3.grownBy S8 none) := grown_trans HD4.out HE4.out
  have HE2 : Hid (S2.grownBy S8 none) := grown_trans HD3.out HE3.out
  have HE1 : Hid (S1.grownBy S8 none) := grown_trans HD2.out HE2.out
  have HQ1 : Hid (POwn S8 S0.heap.size (.slice a1 ps.length k1) ps) := HO1.out.keep HE1.out (fun x e => by cases e)
  have HZ1 : Hid (S8.heap[y1]? = some (.cells (ccs h (.slice a1 ps.length k1)) 69 (0, 0))) := grown_keep HE1.out HY1.out (by simp)
  have HQ2 : Hid (POwn S8 S1.heap.size (.slice a2 ps.length k2) ps) := HO2.out.keep HE2.out (fun x e => by cases e)
  have HZ2 : Hid (S8.heap[y2]? = some (.cells (ccs h (.slice a2 ps.length k2)) 69 (0, 0))) := grown_keep HE2.out HY2.out (by simp)
  have HQ3 : Hid (POwn S8 S2.heap.size (.slice a3 ps.length k3) ps) := HO3.out.keep HE3.out (fun x e => by cases e)
  have HZ3 : Hid (S8.heap[y3]? = some (.cells (ccs h (.slice a3 ps.length k3)) 69 (0, 0))) := grown_keep HE3.out HY3.out (by simp)
  have HZ4 : Hid (S8.heap[y4]? = some (.cells #[.int .i64 f0, .int .u8 f1, .int .u16 f2, .int .i64 f3, .int .i64 f4] 74 (0, 0))) := grown_keep HE4.out HY4.out (by simp)
  have HZ5 : Hid (S8.heap[y5]? = some (.cells #[.int .i64 f0, .int .u8 f1, .int .u16 f2, .int .i64 f3, .int .i64 f4] 74 (0, 0))) := grown_keep HE5.out HY5.out (by simp)
  have HQ6 : Hid (OwT S8 S5.heap.size (.slice a6 L.length k6) L) := ownT_grow HO6.out HE6.out
  have HQ7 : Hid (OwT S8 S6.heap.size (.slice a7 L.length k7) L) := ownT_grow HO7.out HE7.out
  have HQ8 : Hid (OwT S8 S7.heap.size (.slice a8 L.length k8) L) := ownT_grow HO8.out HE8.out
  have HSep : Hid (∀ k, (Value.slice a6 L.length k6).ownBlock = some k → (Value.slice a7 L.length k7).ownBlock ≠ some k) := fun k e1 e2 => by
    have p1 := (World.ownsRow.lt HO6.out k e1).2
    have p2 := (World.ownsRow.lt HO7.out k e2).1
    omega
  have HSepP : Hid (∀ k, (Value.slice a1 ps.length k1).ownBlock = some k → (Value.slice a2 ps.length k2).ownBlock ≠ some k) := fun k e1 e2 => by
    have p1 := (World.ownsRow.lt HO1.out k e1).2
    have p2 := (World.ownsRow.lt HO2.out k e2).1
    have p3 := HD2.out.size
    omega
  have HBig : Hid (∀ k, k ∈ blk4 (.slice a6 L.length k6) (.slice a7 L.length k7) (.slice a1 ps.length k1) (.slice a2 ps.length k2) → S0.heap.size ≤ k) := fun k hk => by
    rcases blk4_mem hk with e | e | e | e
    · exact Nat.le_trans HK5.out.size (World.ownsRow.lt HO6.out k e).1
    · exact Nat.le_trans HK6.out.size (World.ownsRow.lt HO7.out k e).1
    · exact (World.ownsRow.lt HO1.out k e).1
    · exact Nat.le_trans HK1.out.size (World.ownsRow.lt HO2.out k e).1
  have HTag : Hid (∀ k cs, S8.heap[k]? = some (.cells cs 69 (0, 0)) → k ∉ blk4 (.slice a6 L.length k6) (.slice a7 L.length k7) (.slice a1 ps.length k1) (.slice a2 ps.length k2)) := fun k cs hc hk => by
    rcases blk4_mem hk with e | e | e | e
    · obtain ⟨ds, hd⟩ := own_heap HQ6.out k e
      exact tag_neT hc hd (by decide) rfl
    · obtain ⟨ds, hd⟩ := own_heap HQ7.out k e
      exact tag_neT hc hd (by decide) rfl
    · obtain ⟨ds, hd⟩ := own_heap HQ1.out k e
      exact tag_neT hc hd (by decide) rfl
    · obtain ⟨ds, hd⟩ := own_heap HQ2.out k e
      exact tag_neT hc hd (by decide) rfl
  have HWant : Hid (∀ k, (Value.slice a3 ps.length k3).ownBlock = some k → k ∉ blk4 (.slice a6 L.length k6) (.slice a7 L.length k7) (.slice a1 ps.length k1) (.slice a2 ps.length k2)) := fun k e3 hk => by
    have q3 := World.ownsRow.lt HO3.out k e3
    rcases blk4_mem hk with e | e | e | e
    · have := (World.ownsRow.lt HO6.out k e).1; have := HD4.out.size; have := HD5.out.size; omega
    · have := (World.ownsRow.lt HO7.out k e).1; have := HD4.out.size; have := HD5.out.size; have := HD6.out.size; omega
    · have := (World.ownsRow.lt HO1.out k e).2; have := HD2.out.size; omega
    · have := (World.ownsRow.lt HO2.out k e).2; omega
  have HParts : Hid (∀ k, (Value.slice a6 L.length k6).ownBlock = some k ∨ (Value.slice a7 L.length k7).ownBlock = some k → ∀ z : Value, z = .slice a1 ps.length k1 ∨ z = .slice a2 ps.length k2 → z.ownBlock ≠ some k) := fun k hk z hz e => by
    have t1 : ∃ cs, S8.heap[k]? = some (.cells cs 3 (0, 0)) := by
      rcases hk with e | e
      · exact own_heap HQ6.out k e
      · exact own_heap HQ7.out k e
    have t2 : ∃ cs, S8.heap[k]? = some (.cells cs 125 (0, 0)) := by
      rcases hz with rfl | rfl
      · exact own_heap HQ1.out k e
      · exact own_heap HQ2.out k e
    obtain ⟨_, t1⟩ := t1
    obtain ⟨_, t2⟩ := t2
    exact tag_neT t1 t2 (by decide) rfl
  have HT8 : Hid (S8.heap[n1]? = some (.cells #[.int .i64 t.card, .int .i64 t.owner, .int .u8 t.place, .int .i64 t.stamp, .int .i64 t.hurt, .int .i64 t.m0, .int .i64 t.m1, .int .i64 t.m2, .int .i64 t.m3, .int .i64 t.done, .bool t.fresh] 39 (0, 0))) := grown_keep HK8.out HT0.out (by simp)
  have HTn : Hid (n1 < S0.heap.size) := block_lt HT0.out
  clear HO1 HO2 HO3 HO6 HO7 HO8 HY1 HY2 HY3 HY4 HY5 HE1 HE2 HE3 HE4 HE5 HE6 HE7 HE8 HD1 HD2 HD3 HD4 HD5 HD6 HD7 HD8 HK1 HK2 HK3 HK4 HK5 HK6 HK7
  have HSm1 : Hid (∀ X, S8.grownBy X none → Calls Tryz.prog 30 #[cv h (.slice a1 ps.length k1), cv h (.slice a3 ps.length k3)] X fun e w' => e = .returned (.bool true) ∧ X.grownBy w' none) := fun X g => by
    have := sameCard_any h h _ _ ps ps X (HQ1.out.at.keep g) (HQ3.out.at.keep g) (by have := HLp.out; unfold Small; omega)
    rw [sameHd_refl, samePs_self] at this
    exact this
  have HSm2 : Hid (∀ X, S8.grownBy X none → Calls Tryz.prog 30 #[cv h (.slice a2 ps.length k2), cv h (.slice a3 ps.length k3)] X fun e w' => e = .returned (.bool true) ∧ X.grownBy w' none) := fun X g => by
    have := sameCard_any h h _ _ ps ps X (HQ2.out.at.keep g) (HQ3.out.at.keep g) (by have := HLp.out; unfold Small; omega)
    rw [sameHd_refl, samePs_self] at this
    exact this
  have HSi1 : Hid (∀ X, S8.grownBy X none → Calls Tryz.prog 31 #[.slice a6 L.length k6, .slice a8 L.length k8] X fun e w' => e = .returned (.bool true) ∧ X.grownBy w' none) := fun X g => (Go.Proofs.YtogpgldbbegniaaGreat.L.same_ints _ _ _ _ X (own_intsT (ownT_grow HQ6.out g)) (own_intsT (ownT_grow HQ8.out g))).mono fun e w' q => ⟨by rw [q.1, decide_eq_true rfl], by obtain ⟨k, hk⟩ := q.2; rw [hk]; exact grown_drewN _ _ _⟩
  have HSi2 : Hid (∀ X, S8.grownBy X none → Calls Tryz.prog 31 #[.slice a7 L.length k7, .slice a8 L.length k8] X fun e w' => e = .returned (.bool true) ∧ X.grownBy w' none) := fun X g => (Go.Proofs.YtogpgldbbegniaaGreat.L.same_ints _ _ _ _ X (own_intsT (ownT_grow HQ7.out g)) (own_intsT (ownT_grow HQ8.out g))).mono fun e w' q => ⟨by rw [q.1, decide_eq_true rfl], by obtain ⟨k, hk⟩ := q.2; rw [hk]; exact grown_drewN _ _ _⟩
  have z4_0 := block_cell HZ4.out 0
  have z4_1 := block_cell HZ4.out 1
  have z4_2 := block_cell HZ4.out 2
  have z4_3 := block_cell HZ4.out 3
  have z4_4 := block_cell HZ4.out 4
  have z5_0 := block_cell HZ5.out 0
  have z5_1 := block_cell HZ5.out 1
  have z5_2 := block_cell HZ5.out 2
  have z5_3 := block_cell HZ5.out 3
  have z5_4 := block_cell HZ5.out 4
  have z1_0 := block_cell HZ1.out 0
  have z1_1 := block_cell HZ1.out 1
  have z1_2 := block_cell HZ1.out 2
  have z1_3 := block_cell HZ1.out 3
  have z1_4 := block_cell HZ1.out 4
  have z1_5 := block_cell HZ1.out 5
  have z1_6 := block_cell HZ1.out 6
  have z1_7 := block_cell HZ1.out 7
  have z1_8 := block_cell HZ1.out 8
  have z2_0 := block_cell HZ2.out 0
  have z2_1 := block_cell HZ2.out 1
  have z2_2 := block_cell HZ2.out 2
  have z2_3 := block_cell HZ2.out 3
  have z2_4 := block_cell HZ2.out 4
  have z2_5 := block_cell HZ2.out 5
  have z2_6 := block_cell HZ2.out 6
  have z2_7 := block_cell HZ2.out 7
  have z2_8 := block_cell HZ2.out 8
  have z3_0 := block_cell HZ3.out 0
  have z3_1 := block_cell HZ3.out 1
  have z3_2 := block_cell HZ3.out 2
  have z3_3 := block_cell HZ3.out 3
  have z3_4 := block_cell HZ3.out 4
  have z3_5 := block_cell HZ3.out 5
  have z3_6 := block_cell HZ3.out 6
  have z3_7 := block_cell HZ3.out 7
  have z3_8 := block_cell HZ3.out 8
  simp only [ccs] at z1_0 z1_1 z1_2 z1_3 z1_4 z1_5 z1_6 z1_7 z1_8 z2_0 z2_1 z2_2 z2_3 z2_4 z2_5 z2_6 z2_7 z2_8 z3_0 z3_1 z3_2 z3_3 z3_4 z3_5 z3_6 z3_7 z3_8
  have nq := neq_fe f0 f1 f2 f3 f4
  have ng := eqg_fe'
  obtain ⟨U0, hU0⟩ : ∃ U0, U0 = S8 := ⟨_, rfl⟩
  have HU0 : Hid (S8.grownBy S8 none) := grown_refl _ _
  clear hU0 U0
  have e1 : (x != x) = false := by simp
  have e2 : (fx != fx) = false := by simp
  have HCC0 := HSm1.out S8 HU0.out
  unfold cv at HCC0
  go_wp2_with fail
  refine HCC0.mono ?_
  rintro e V1 ⟨rfl, gg0⟩
  have HU1 : Hid (S8.grownBy V1 none) := grown_trans HU0.out gg0
  clear HCC0 gg0
  clear z4_0 z4_1 z4_2 z4_3 z4_4 z5_0 z5_1 z5_2 z5_3 z5_4 z1_0 z1_1 z1_2 z1_3 z1_4 z1_5 z1_6 z1_7 z1_8 z2_0 z2_1 z2_2 z2_3 z2_4 z2_5 z2_6 z2_7 z2_8 z3_0 z3_1 z3_2 z3_3 z3_4 z3_5 z3_6 z3_7 z3_8
  have z2_0 := HU1.out.cell (block_cell HZ2.out 0) (by simp)
  have z2_1 := HU1.out.cell (block_cell HZ2.out 1) (by simp)
  have z2_2 := HU1.out.cell (block_cell HZ2.out 2) (by simp)
  have z2_3 := HU1.out.cell (block_cell HZ2.out 3) (by simp)
  have z2_4 := HU1.out.cell (block_cell HZ2.out 4) (by simp)
  have z2_5 := HU1.out.cell (block_cell HZ2.out 5) (by simp)
  have z2_6 := HU1.out.cell (block_cell HZ2.out 6) (by simp)
  have z2_7 := HU1.out.cell (block_cell HZ2.out 7) (by simp)
  have z2_8 := HU1.out.cell (block_cell HZ2.out 8) (by simp)
  have z3_0 := HU1.out.cell (block_cell HZ3.out 0) (by simp)
  have z3_1 := HU1.out.cell (block_cell HZ3.out 1) (by simp)
  have z3_2 := HU1.out.cell (block_cell HZ3.out 2) (by simp)
  have z3_3 := HU1.out.cell (block_cell HZ3.out 3) (by simp)
  have z3_4 := HU1.out.cell (block_cell HZ3.out 4) (by simp)
  have z3_5 := HU1.out.cell (block_cell HZ3.out 5) (by simp)
  have z3_6 := HU1.out.cell (block_cell HZ3.out 6) (by simp)
  have z3_7 := HU1.out.cell (block_cell HZ3.out 7) (by simp)
  have z3_8 := HU1.out.cell (block_cell HZ3.out 8) (by simp)
  simp only [ccs] at z2_0 z2_1 z2_2 z2_3 z2_4 z2_5 z2_6 z2_7 z2_8 z3_0 z3_1 z3_2 z3_3 z3_4 z3_5 z3_6 z3_7 z3_8
  have HCC1 := HSm2.out V1 HU1.out
  unfold cv at HCC1
  go_wp2_with fail
  refine HCC1.mono ?_
  rintro e V2 ⟨rfl, gg1⟩
  have HU2 : Hid (S8.grownBy V2 none) := grown_trans HU1.out gg1
  clear HCC1 gg1
  clear z2_0 z2_1 z2_2 z2_3 z2_4 z2_5 z2_6 z2_7 z2_8 z3_0 z3_1 z3_2 z3_3 z3_4 z3_5 z3_6 z3_7 z3_8
  have HCC2 := HSi1.out V2 HU2.out
  go_wp2_with fail
  refine HCC2.mono ?_
  rintro e V3 ⟨rfl, gg2⟩
  have HU3 : Hid (S8.grownBy V3 none) := grown_trans HU2.out gg2
  clear HCC2 gg2
  have HCC3 := HSi2.out V3 HU3.out
  go_wp2_with fail
  refine HCC3.mono ?_
  rintro e V4 ⟨rfl, gg3⟩
  have HU4 : Hid (S8.grownBy V4 none) := grown_trans HU3.out gg3
  clear HCC3 gg3
  clear HSm1 HSm2 HSi1 HSi2 nq ng e1 e2 HU0 HU1 HU2 HU3 HZ4 HZ5 HQ8
  go_upto_region 14 with fail

  have HK4 : Hid (Kpt (blk4 (.slice a6 L.length k6) (.slice a7 L.length k7) (.slice a1 ps.length k1) (.slice a2 ps.length k2)) S8 V4) := (Kpt.refl _ _).grow HU4.out
  have HI0 : Hid (S8.grownBy V4.drew none) := grown_trans HU4.out (grown_drew _)
  have H0 : Kpt (blk4 (.slice a6 L.length k6) (.slice a7 L.length k7) (.slice a1 ps.length k1) (.slice a2 ps.length k2)) S8 V4.drew := HK4.out.grow (grown_drew _)
  have HNt : Hid (n1 ∉ (blk4 (.slice a6 L.length k6) (.slice a7 L.length k7) (.slice a1 ps.length k1) (.slice a2 ps.length k2))) := fun hk => by have := HBig.out n1 hk; have := HTn.out; omega
  have HGs : Hid (∀ X, Kpt (blk4 (.slice a6 L.length k6) (.slice a7 L.length k7) (.slice a1 ps.length k1) (.slice a2 ps.length k2)) S8 X → S0.grownBy X none) := fun X K => Kpt.new HK8.out K HBig.out
  have HUt : Hid (∀ X, S0.grownBy X none → Calls Tryz.prog 32 #[.pointer (some ⟨nb, 0, none⟩), thv t] X fun e w' => e = .returned (.bool ub) ∧ X.grownBy w' none) := fun X g => by
    have := tunit_of (.pointer (some ⟨nb, 0, none⟩)) t h ps x X (fun Y k => HCd.out Y (grown_trans g k))
    rw [← HUb.out] at this
    exact this
  have HUr : Hid (∀ X, S0.grownBy X none → Calls Tryz.prog 33 #[.pointer (some ⟨nr, 0, none⟩), thv t] X fun e w' => e = .returned (.bool ub) ∧ X.grownBy w' none) := fun X g => by
    have := runit_of (.pointer (some ⟨nr, 0, none⟩)) t h ps x X (fun Y k => HRd.out Y (grown_trans g k))
    rw [← HUb.out] at this
    exact this
  have eb : (ub == ub) = true := by simp
  refine wp_region_held_drew (S := fun w' => Kpt (blk4 (.slice a6 L.length k6) (.slice a7 L.length k7) (.slice a1 ps.length k1) (.slice a2 ps.length k2)) S8 w') (by kernel_rfl) H0 (fun hHeld => ?_)
  refine wpAnyH_take (i := 0) (v := ?_) rfl (by kernel_rfl) (by kernel_rfl) (by kernel_rfl) (fun _ _ _ h => h) (Or.inl ⟨by rfl, ?_⟩) (by assumption) ?_
  rotate_left 1
  · (intro w0 hSw; go_simp; try with_reducible rfl)
  simp only [List.getElem_toArray, List.getElem_cons_zero]
  go_frame
  refine wpAnyH_take (i := 1) (v := ?_) rfl (by kernel_rfl) (by kernel_rfl) (by kernel_rfl) (fun _ _ _ h => h) (Or.inl ⟨by rfl, ?_⟩) (by assumption) ?_
  rotate_left 1
  · (intro w0 hSw; have d0 := hSw.cell (block_cell HT8.out 0) (HNt.out); have d1 := hSw.cell (block_cell HT8.out 1) (HNt.out); have d2 := hSw.cell (block_cell HT8.out 2) (HNt.out); have d3 := hSw.cell (block_cell HT8.out 3) (HNt.out); have d4 := hSw.cell (block_cell HT8.out 4) (HNt.out); have d5 := hSw.cell (block_cell HT8.out 5) (HNt.out); have d6 := hSw.cell (block_cell HT8.out 6) (HNt.out); have d7 := hSw.cell (block_cell HT8.out 7) (HNt.out); have d8 := hSw.cell (block_cell HT8.out 8) (HNt.out); have d9 := hSw.cell (block_cell HT8.out 9) (HNt.out); have d10 := hSw.cell (block_cell HT8.out 10) (HNt.out); go_simp; try with_reducible rfl)
  simp only [List.getElem_toArray, List.getElem_cons_zero, List.getElem_cons_succ]
  go_frame
  refine wpAnyH_take (i := 3) (v := ?_) rfl (by kernel_rfl) (by kernel_rfl) (by kernel_rfl) (fun _ _ _ h => h) (Or.inl ⟨by rfl, ?_⟩) (by assumption) ?_
  rotate_left 1
  · (intro w0 hSw; go_simp; try with_reducible rfl)
  simp only [List.getElem_toArray, List.getElem_cons_zero, List.getElem_cons_succ]
  go_frame
  refine wpAnyH_take (i := 4) (v := ?_) rfl (by kernel_rfl) (by kernel_rfl) (by kernel_rfl) (fun _ _ _ h => h) (Or.inl ⟨by rfl, ?_⟩) (by assumption) ?_
  rotate_left 1
  · (intro w0 hSw; have d0 := hSw.cell (block_cell HT8.out 0) (HNt.out); have d1 := hSw.cell (block_cell HT8.out 1) (HNt.out); have d2 := hSw.cell (block_cell HT8.out 2) (HNt.out); have d3 := hSw.cell (block_cell HT8.out 3) (HNt.out); have d4 := hSw.cell (block_cell HT8.out 4) (HNt.out); have d5 := hSw.cell (block_cell HT8.out 5) (HNt.out); have d6 := hSw.cell (block_cell HT8.out 6) (HNt.out); have d7 := hSw.cell (block_cell HT8.out 7) (HNt.out); have d8 := hSw.cell (block_cell HT8.out 8) (HNt.out); have d9 := hSw.cell (block_cell HT8.out 9) (HNt.out); have d10 := hSw.cell (block_cell HT8.out 10) (HNt.out); go_simp; try with_reducible rfl)
  simp only [List.getElem_toArray, List.getElem_cons_zero, List.getElem_cons_succ]
  go_frame
  have HA1 := HUt.out V4.drew (HGs.out _ H0)
  unfold thv at HA1
  refine wpAnyH_ready (rs := [2]) (by kernel_rfl) (by simp) ?_
  refine AllReadyH.cons rfl (fun K hK => ?_) AllReadyH.nil
  simp only [List.getElem_toArray, List.getElem_cons_zero, List.getElem_cons_succ]
  go_simp
  go_at_call 32
  refine (HA1).mono ?_
  rintro e X1 ⟨rfl, gx1⟩
  have HX1 : Hid (Kpt (blk4 (.slice a6 L.length k6) (.slice a7 L.length k7) (.slice a1 ps.length k1) (.slice a2 ps.length k2)) S8 X1) := Kpt.grow H0 gx1
  have HI1 : Hid (S8.grownBy X1 none) := grown_trans HI0.out gx1
  clear gx1 HA1
  refine hK.out _ _ (HX1.out) (fun hHeld2 => ?_)
  clear hK K
  (try go_frame)
  have HA2 := HUr.out X1 (HGs.out _ HX1.out)
  unfold thv at HA2
  refine wpAnyH_ready (rs := [5]) (by kernel_rfl) (by simp) ?_
  refine AllReadyH.cons rfl (fun K hK => ?_) AllReadyH.nil
  simp only [List.getElem_toArray, List.getElem_cons_zero, List.getElem_cons_succ]
  go_simp
  go_at_call 33
  refine (HA2).mono ?_
  rintro e X2 ⟨rfl, gx2⟩
  have HX2 : Hid (Kpt (blk4 (.slice a6 L.length k6) (.slice a7 L.length k7) (.slice a1 ps.length k1) (.slice a2 ps.length k2)) S8 X2) := HX1.out.grow gx2
  have HI2 : Hid (S8.grownBy X2 none) := grown_trans HI1.out gx2
  clear gx2 HA2
  refine hK.out _ _ (HX2.out) (fun hHeld2 => ?_)
  clear hK K
  (try go_frame)
  refine wpAnyH_take (i := 6) (v := ?_) rfl (by kernel_rfl) (by kernel_rfl) (by kernel_rfl) (fun _ _ _ h => h) (Or.inl ⟨by rfl, ?_⟩) (by assumption) ?_
  rotate_left 1
  · (intro w0 hSw; go_simp; try with_reducible rfl)
  simp only [List.getElem_toArray, List.getElem_cons_zero, List.getElem_cons_succ]
  go_frame
  refine wpAnyH_take (i := 7) (v := ?_) rfl (by kernel_rfl) (by kernel_rfl) (by kernel_rfl) (fun _ _ _ h => h) (Or.inl ⟨by rfl, ?_⟩) (by assumption) ?_
  rotate_left 1
  · (intro w0 hSw; go_simp; try with_reducible rfl)
  simp only [List.getElem_toArray, List.getElem_cons_zero, List.getElem_cons_succ]
  go_frame
  refine wpAnyH_take (i := 8) (v := ?_) rfl (by kernel_rfl) (by kernel_rfl) (by kernel_rfl) (fun _ _ _ h => h) (Or.inl ⟨by rfl, ?_⟩) (by assumption) ?_
  rotate_left 1
  · (intro w0 hSw; go_simp; try with_reducible rfl)
  simp only [List.getElem_toArray, List.getElem_cons_zero, List.getElem_cons_succ]
  go_frame
  refine wpAnyH_take (i := 9) (v := ?_) rfl (by kernel_rfl) (by kernel_rfl) (by kernel_rfl) (fun _ _ _ h => h) (Or.inl ⟨by rfl, ?_⟩) (by assumption) ?_
  rotate_left 1
  · (intro w0 hSw; go_simp; try with_reducible rfl)
  simp only [List.getElem_toArray, List.getElem_cons_zero, List.getElem_cons_succ]
  go_frame
  refine wpAnyH_ready (rs := [10]) (by kernel_rfl) (by simp) ?_
  refine AllReadyH.cons rfl (fun K9 hK => ?_) AllReadyH.nil
  simp only [List.getElem_toArray, List.getElem_cons_zero, List.getElem_cons_succ]
  rw [if_pos (by rfl)]
  go_simp
  refine hK.out _ _ (HX2.out.grow (World.grownBy_alloc _ (.cells #[.slice a6 L.length k6, .slice a7 L.length k7] 22) none)) (fun hHeld3 => ?_)
  clear hK K9
  (try go_frame)
  obtain ⟨X3, hX3⟩ : ∃ X3, X3 = X2.alloc (.cells #[.slice a6 L.length k6, .slice a7 L.length k7] 22) := ⟨_, rfl⟩
  have HX3 : Hid (Kpt (blk4 (.slice a6 L.length k6) (.slice a7 L.length k7) (.slice a1 ps.length k1) (.slice a2 ps.length k2)) S8 X3) := by rw [hX3]; exact HX2.out.grow (World.grownBy_alloc _ _ none)
  have HI3 : Hid (S8.grownBy X3 none) := by rw [hX3]; exact grown_push HI2.out _
  have HR3 : Hid (X3.heap[X2.heap.size]? = some (.cells #[.slice a6 L.length k6, .slice a7 L.length k7] 22 (0, 0))) := by rw [hX3]; exact alloc_at _ _ _
  rw [← hX3]
  clear hX3
  obtain ⟨g3, hg3⟩ : ∃ g3, g3 = X2.heap.size := ⟨_, rfl⟩
  rw [← hg3] at HR3
  simp only [← hg3]
  clear hg3
  have HA3 := apartI_two 0 g3 (.slice a6 L.length k6) (.slice a7 L.length k7) L X3 (own_lowT (ownT_grow HQ6.out HI3.out) (Nat.zero_le _)) (own_lowT (ownT_grow HQ7.out HI3.out) (Nat.zero_le _)) HSep.out HR3.out
  refine wpAnyH_ready (rs := [11]) (by kernel_rfl) (by simp) ?_
  refine AllReadyH.cons rfl (fun K hK => ?_) AllReadyH.nil
  simp only [List.getElem_toArray, List.getElem_cons_zero, List.getElem_cons_succ]
  rw [if_pos (by rfl)]
  go_simp
  go_at_call 34
  refine (HA3).mono ?_
  rintro e X4 ⟨rfl, gx4⟩
  have HJ4 : Hid (Kpt ((.slice a6 L.length k6 : Value).ownBlock.toList ++ (.slice a7 L.length k7 : Value).ownBlock.toList) X3 X4) := gx4
  have HX4 : Hid (Kpt (blk4 (.slice a6 L.length k6) (.slice a7 L.length k7) (.slice a1 ps.length k1) (.slice a2 ps.length k2)) S8 X4) := HX3.out.trans gx4 (fun y hy => Or.inl (by rcases List.mem_append.1 hy with q | q; exact blk4_a (by simpa [Option.mem_toList] using q); exact blk4_b (by simpa [Option.mem_toList] using q)))
  clear gx4 HA3
  refine hK.out _ _ (HX4.out) (fun hHeld2 => ?_)
  clear hK K
  (try go_frame)
  have HV1 : Hid (POwn X4 S0.heap.size (.slice a1 ps.length k1) ps) := own_kpt (HQ1.out.keep HI3.out (fun x e => by cases e)) HJ4.out (fun k e hk => by
    refine HParts.out k ?_ _ (Or.inl rfl) e
    rcases List.mem_append.1 hk with q | q
    · exact Or.inl (by simpa [Option.mem_toList] using q)
    · exact Or.inr (by simpa [Option.mem_toList] using q))
  have HV2 : Hid (POwn X4 S1.heap.size (.slice a2 ps.length k2) ps) := own_kpt (HQ2.out.keep HI3.out (fun x e => by cases e)) HJ4.out (fun k e hk => by
    refine HParts.out k ?_ _ (Or.inr rfl) e
    rcases List.mem_append.1 hk with q | q
    · exact Or.inl (by simpa [Option.mem_toList] using q)
    · exact Or.inr (by simpa [Option.mem_toList] using q))
  have HV3 : Hid (POwn X4 S2.heap.size (.slice a3 ps.length k3) ps) := own_kpt (HQ3.out.keep HI3.out (fun x e => by cases e)) HJ4.out (fun k e hk => by
    refine HWant.out k e ?_
    rcases List.mem_append.1 hk with q | q
    · exact blk4_a (by simpa [Option.mem_toList] using q)
    · exact blk4_b (by simpa [Option.mem_toList] using q))
  refine wpAnyH_take (i := 12) (v := ?_) rfl (by kernel_rfl) (by kernel_rfl) (by kernel_rfl) (fun _ _ _ h => h) (Or.inl ⟨by rfl, ?_⟩) (by assumption) ?_
  rotate_left 1
  · (intro w0 hSw; go_simp; try with_reducible rfl)
  simp only [List.getElem_toArray, List.getElem_cons_zero, List.getElem_cons_succ]
  go_frame
  refine wpAnyH_take (i := 13) (v := ?_) rfl (by kernel_rfl) (by kernel_rfl) (by kernel_rfl) (fun _ _ _ h => h) (Or.inl ⟨by rfl, ?_⟩) (by assumption) ?_
  rotate_left 1
  · (intro w0 hSw; go_simp; try with_reducible rfl)
  simp only [List.getElem_toArray, List.getElem_cons_zero, List.getElem_cons_succ]
  go_frame
  refine wpAnyH_take (i := 14) (v := ?_) rfl (by kernel_rfl) (by kernel_rfl) (by kernel_rfl) (fun _ _ _ h => h) (Or.inl ⟨by rfl, ?_⟩) (by assumption) ?_
  rotate_left 1
  · (intro w0 hSw; go_simp; try with_reducible rfl)
  simp only [List.getElem_toArray, List.getElem_cons_zero, List.getElem_cons_succ]
  go_frame
  refine wpAnyH_take (i := 15) (v := ?_) rfl (by kernel_rfl) (by kernel_rfl) (by kernel_rfl) (fun _ _ _ h => h) (Or.inl ⟨by rfl, ?_⟩) (by assumption) ?_
  rotate_left 1
  · (intro w0 hSw; have d8 := hSw.cell (block_cell HZ1.out 8) (HTag.out _ _ HZ1.out); simp only [ccs] at d8; go_simp; try with_reducible rfl)
  simp only [List.getElem_toArray, List.getElem_cons_zero, List.getElem_cons_succ]
  go_frame
  refine wpAnyH_take (i := 16) (v := ?_) rfl (by kernel_rfl) (by kernel_rfl) (by kernel_rfl) (fun _ _ _ h => h) (Or.inl ⟨by rfl, ?_⟩) (by assumption) ?_
  rotate_left 1
  · (intro w0 hSw; go_simp; try with_reducible rfl)
  simp only [List.getElem_toArray, List.getElem_cons_zero, List.getElem_cons_succ]
  go_frame
  refine wpAnyH_take (i := 17) (v := ?_) rfl (by kernel_rfl) (by kernel_rfl) (by kernel_rfl) (fun _ _ _ h => h) (Or.inl ⟨by rfl, ?_⟩) (by assumption) ?_
  rotate_left 1
  · (intro w0 hSw; have d8 := hSw.cell (block_cell HZ2.out 8) (HTag.out _ _ HZ2.out); simp only [ccs] at d8; go_simp; try with_reducible rfl)
  simp only [List.getElem_toArray, List.getElem_cons_zero, List.getElem_cons_succ]
  go_frame
  refine wpAnyH_ready (rs := [18]) (by kernel_rfl) (by simp) ?_
  refine AllReadyH.cons rfl (fun K9 hK => ?_) AllReadyH.nil
  simp only [List.getElem_toArray, List.getElem_cons_zero, List.getElem_cons_succ]
  rw [if_pos (by rfl)]
  go_simp
  refine hK.out _ _ (HX4.out.grow (World.grownBy_alloc _ (.cells #[.slice a1 ps.length k1, .slice a2 ps.length k2] 67) none)) (fun hHeld3 => ?_)
  clear hK K9
  (try go_frame)
  obtain ⟨X5, hX5⟩ : ∃ X5, X5 = X4.alloc (.cells #[.slice a1 ps.length k1, .slice a2 ps.length k2] 67) := ⟨_, rfl⟩
  have HX5 : Hid (Kpt (blk4 (.slice a6 L.length k6) (.slice a7 L.length k7) (.slice a1 ps.length k1) (.slice a2 ps.length k2)) S8 X5) := by rw [hX5]; exact HX4.out.grow (World.grownBy_alloc _ _ none)
  have HI5 : Hid (X4.grownBy X5 none) := by rw [hX5]; exact World.grownBy_alloc _ _ none
  have HR5 : Hid (X5.heap[X4.heap.size]? = some (.cells #[.slice a1 ps.length k1, .slice a2 ps.length k2] 67 (0, 0))) := by rw [hX5]; exact alloc_at _ _ _
  rw [← hX5]
  clear hX5
  obtain ⟨g5, hg5⟩ : ∃ g5, g5 = X4.heap.size := ⟨_, rfl⟩
  rw [← hg5] at HR5
  simp only [← hg5]
  clear hg5
  have HA5 := apartP_two 0 g5 (.slice a1 ps.length k1) (.slice a2 ps.length k2) ps X5 ((HV1.out.keep HI5.out (fun x e => by cases e)).big (Nat.zero_le _)) ((HV2.out.keep HI5.out (fun x e => by cases e)).big (Nat.zero_le _)) HSepP.out HR5.out
  refine wpAnyH_ready (rs := [19]) (by kernel_rfl) (by simp) ?_
  refine AllReadyH.cons rfl (fun K hK => ?_) AllReadyH.nil
  simp only [List.getElem_toArray, List.getElem_cons_zero, List.getElem_cons_succ]
  rw [if_pos (by rfl)]
  go_simp
  go_at_call 35
  refine (HA5).mono ?_
  rintro e X6 ⟨rfl, gx6⟩
  have HJ6 : Hid (Kpt ((.slice a1 ps.length k1 : Value).ownBlock.toList ++ (.slice a2 ps.length k2 : Value).ownBlock.toList) X5 X6) := gx6
  have HX6 : Hid (Kpt (blk4 (.slice a6 L.length k6) (.slice a7 L.length k7) (.slice a1 ps.length k1) (.slice a2 ps.length k2)) S8 X6) := HX5.out.trans gx6 (fun y hy => Or.inl (by rcases List.mem_append.1 hy with q | q; exact blk4_c (by simpa [Option.mem_toList] using q); exact blk4_d (by simpa [Option.mem_toList] using q)))
  clear gx6 HA5
  refine hK.out _ _ (HX6.out) (fun hHeld2 => ?_)
  clear hK K
  (try go_frame)
  have HV6 : Hid (POwn X6 S2.heap.size (.slice a3 ps.length k3) ps) := own_kpt (HV3.out.keep HI5.out (fun x e => by cases e)) HJ6.out (fun k e hk => by
    refine HWant.out k e ?_
    rcases List.mem_append.1 hk with q | q
    · exact blk4_c (by simpa [Option.mem_toList] using q)
    · exact blk4_d (by simpa [Option.mem_toList] using q))
  refine wpAnyH_take (i := 20) (v := ?_) rfl (by kernel_rfl) (by kernel_rfl) (by kernel_rfl) (fun _ _ _ h => h) (Or.inl ⟨by rfl, ?_⟩) (by assumption) ?_
  rotate_left 1
  · (intro w0 hSw; go_simp; try with_reducible rfl)
  simp only [List.getElem_toArray, List.getElem_cons_zero, List.getElem_cons_succ]
  go_frame
  refine wpAnyH_take (i := 21) (v := ?_) rfl (by kernel_rfl) (by kernel_rfl) (by kernel_rfl) (fun _ _ _ h => h) (Or.inl ⟨by rfl, ?_⟩) (by assumption) ?_
  rotate_left 1
  · (intro w0 hSw; go_simp; try with_reducible rfl)
  simp only [List.getElem_toArray, List.getElem_cons_zero, List.getElem_cons_succ]
  go_frame
  refine wpAnyH_take (i := 22) (v := ?_) rfl (by kernel_rfl) (by kernel_rfl) (by kernel_rfl) (fun _ _ _ h => h) (Or.inl ⟨by rfl, ?_⟩) (by assumption) ?_
  rotate_left 1
  · (intro w0 hSw; go_simp; try with_reducible rfl)
  simp only [List.getElem_toArray, List.getElem_cons_zero, List.getElem_cons_succ]
  go_frame
  refine wpAnyH_take (i := 23) (v := ?_) rfl (by kernel_rfl) (by kernel_rfl) (by kernel_rfl) (fun _ _ _ h => h) (Or.inl ⟨by rfl, ?_⟩) (by assumption) ?_
  rotate_left 1
  · (intro w0 hSw; have d0 := hSw.cell (block_cell HT8.out 0) (HNt.out); have d1 := hSw.cell (block_cell HT8.out 1) (HNt.out); have d2 := hSw.cell (block_cell HT8.out 2) (HNt.out); have d3 := hSw.cell (block_cell HT8.out 3) (HNt.out); have d4 := hSw.cell (block_cell HT8.out 4) (HNt.out); have d5 := hSw.cell (block_cell HT8.out 5) (HNt.out); have d6 := hSw.cell (block_cell HT8.out 6) (HNt.out); have d7 := hSw.cell (block_cell HT8.out 7) (HNt.out); have d8 := hSw.cell (block_cell HT8.out 8) (HNt.out); have d9 := hSw.cell (block_cell HT8.out 9) (HNt.out); have d10 := hSw.cell (block_cell HT8.out 10) (HNt.out); go_simp; try with_reducible rfl)
  simp only [List.getElem_toArray, List.getElem_cons_zero, List.getElem_cons_succ]
  go_frame
  refine wpAnyH_take (i := 24) (v := ?_) rfl (by kernel_rfl) (by kernel_rfl) (by kernel_rfl) (fun _ _ _ h => h) (Or.inl ⟨by rfl, ?_⟩) (by assumption) ?_
  rotate_left 1
  · (intro w0 hSw; have d0 := hSw.cell (block_cell HZ3.out 0) (HTag.out _ _ HZ3.out); have d1 := hSw.cell (block_cell HZ3.out 1) (HTag.out _ _ HZ3.out); have d2 := hSw.cell (block_cell HZ3.out 2) (HTag.out _ _ HZ3.out); have d3 := hSw.cell (block_cell HZ3.out 3) (HTag.out _ _ HZ3.out); have d4 := hSw.cell (block_cell HZ3.out 4) (HTag.out _ _ HZ3.out); have d5 := hSw.cell (block_cell HZ3.out 5) (HTag.out _ _ HZ3.out); have d6 := hSw.cell (block_cell HZ3.out 6) (HTag.out _ _ HZ3.out); have d7 := hSw.cell (block_cell HZ3.out 7) (HTag.out _ _ HZ3.out); have d8 := hSw.cell (block_cell HZ3.out 8) (HTag.out _ _ HZ3.out); simp only [ccs] at d0 d1 d2 d3 d4 d5 d6 d7 d8; go_simp; try with_reducible rfl)
  simp only [List.getElem_toArray, List.getElem_cons_zero, List.getElem_cons_succ]
  go_frame
  have HA6 := again_any nb t h ps x (.slice a3 ps.length k3) X6 HLp.out (fun Y k => HCd.out Y (grown_trans (HGs.out _ HX6.out) k)) HV6.out.at
  unfold thv cv at HA6
  refine wpAnyH_ready (rs := [25]) (by kernel_rfl) (by simp) ?_
  refine AllReadyH.cons rfl (fun K hK => ?_) AllReadyH.nil
  simp only [List.getElem_toArray, List.getElem_cons_zero, List.getElem_cons_succ]
  rw [if_pos (by rfl)]
  go_simp
  go_at_call 36
  refine (HA6).mono ?_
  rintro e X7 ⟨rfl, gx7⟩
  have HX7 : Hid (Kpt (blk4 (.slice a6 L.length k6) (.slice a7 L.length k7) (.slice a1 ps.length k1) (.slice a2 ps.length k2)) S8 X7) := HX6.out.grow gx7
  clear gx7 HA6
  refine hK.out _ _ (HX7.out) (fun hHeld2 => ?_)
  clear hK K
  (try go_frame)
  refine wpAnyH_take (i := 26) (v := ?_) rfl (by kernel_rfl) (by kernel_rfl) (by kernel_rfl) (fun _ _ _ h => h) (Or.inl ⟨by rfl, ?_⟩) (by assumption) ?_
  rotate_left 1
  · (intro w0 hSw; go_simp; try with_reducible rfl)
  simp only [List.getElem_toArray, List.getElem_cons_zero, List.getElem_cons_succ]
  go_frame
  refine wpAnyH_take (i := 27) (v := ?_) rfl (by kernel_rfl) (by kernel_rfl) (by kernel_rfl) (fun _ _ _ h => h) (Or.inl ⟨by rfl, ?_⟩) (by assumption) ?_
  rotate_left 1
  · (intro w0 hSw; go_simp; try with_reducible rfl)
  simp only [List.getElem_toArray, List.getElem_cons_zero, List.getElem_cons_succ]
  go_frame
  refine wpAnyH_done (by kernel_rfl) ?_ _
  go_wp2
  go_ret
  exact ⟨rfl, grown_trans HG2.out (HGs.out _ HX7.out)⟩
end Go.Proofs.YtogpgldbbegniaaGreat
