/-
  thing.Marked where it refuses; the document's Marked; what is left of a unit's health.
  A pair of books, filled alike: CopyCard; what a step keeps.
-/
import Derived.Test.YtogpgldbbegniabTgM
import Derived.Test.YtogpgldbbegniabA24
import Derived.Test.YtogpgldbbegniabA21
import Derived.Test.YtogpgldbbegniabRSe
import Derived.Test.YtogpgldbbegniabA16
namespace Go.Proofs.Ytogpgldbbegniab
open Go.RowKit

set_option maxRecDepth 100000 in
set_option maxHeartbeats 8000000 in
theorem marked_no (ok : Nat → Prop) (b : Nat) (es : List Ent) (p : Pl) (f : Fe) (c0 c1 c2 c3 : Int) (w : World) (B : Book ok w b es p) (hc : okcs c0 c1 c2 c3 = false) : Calls Try.prog 6 #[.pointer (some ⟨b, 0, none⟩), fev f, .agg #[.int .i64 c0, .int .i64 c1, .int .i64 c2, .int .i64 c3]] w fun e w' => e = .returned (.tuple #[fev Fe.none, .int .i64 2]) ∧ w.grownBy w' none := by
  obtain ⟨W, hW⟩ : ∃ W, W = ((w.alloc (.cells (fcs f) 30)).alloc (.cells #[.int .i64 c0, .int .i64 c1, .int .i64 c2, .int .i64 c3] 31)).alloc (.cells #[.int .i64 0, .int .u8 0, .int .u16 0, .int .i64 0, .int .i64 0] 30) := ⟨_, rfl⟩
  have HS0 : Hid (MkS w W w.heap.size (w.heap.size + 1 + 1) f.ho f.su f.tr f.po f.he) := by
    rw [hW]
    refine ⟨grown_push (grown_push (World.grownBy_alloc _ _ none) _) _, ?_, ?_, Nat.le_refl _, by omega, by omega⟩
    · exact grown_keep (World.grownBy_alloc _ _ none) (grown_keep (World.grownBy_alloc _ _ none) (alloc_at w _ _) (by simp)) (by simp)
    · exact alloc3_at _ _ _ _ _
  have HA4 : Hid (W.heap[w.heap.size + 1]? = some (.cells #[.int .i64 c0, .int .i64 c1, .int .i64 c2, .int .i64 c3] 31 (0, 0))) := by
    rw [hW]
    exact grown_keep (World.grownBy_alloc _ _ none) (alloc2_at _ _ _ _) (by simp)
  have HIB := tisBook_yes ok b es p W (B.keep HS0.out.g)
  have HML := fun X => tmayLie_any c0 c1 c2 c3 X
  rw [hc] at HML
  unfold fcs at hW
  unfold fev
  clear B hc
  go_enter Try.func6, Try.ntmps6
  go_upto_region 1 with fail
  rw [← hW]
  clear hW
  obtain ⟨F, hF⟩ : ∃ F, F = w.heap.size := ⟨_, rfl⟩
  rw [← hF] at HS0 HA4 ⊢
  obtain ⟨V, hV⟩ : ∃ V, V = F + 1 := ⟨_, rfl⟩
  simp only [← hV] at HS0 HA4 ⊢
  obtain ⟨R, hR⟩ : ∃ R, R = V + 1 := ⟨_, rfl⟩
  simp only [← hR] at HS0 ⊢
  clear hF hR hV
  go_wp2_with fail
  refine HIB.mono ?_
  rintro e w1 ⟨rfl, g1⟩
  have HS1 : Hid (MkS w w1 F R f.ho f.su f.tr f.po f.he) := HS0.out.grow g1
  have HA1 : Hid (w1.heap[V]? = some (.cells #[.int .i64 c0, .int .i64 c1, .int .i64 c2, .int .i64 c3] 31 (0, 0))) := grown_keep g1 HA4.out (by simp)
  clear HS0 HA4 g1 HIB
  have x0 := block_cell HA1.out 0
  have x1 := block_cell HA1.out 1
  have x2 := block_cell HA1.out 2
  have x3 := block_cell HA1.out 3
  go_wp2_with fail
  refine (HML w1).mono ?_
  rintro e w2 ⟨rfl, g2⟩
  have HS2 : Hid (MkS w w2 F R f.ho f.su f.tr f.po f.he) := HS1.out.grow g2
  clear HS1 HA1 g2 HML x0 x1 x2 x3
  have r0 := block_cell HS2.out.r 0
  have r1 := block_cell HS2.out.r 1
  have r2 := block_cell HS2.out.r 2
  have r3 := block_cell HS2.out.r 3
  have r4 := block_cell HS2.out.r 4
  have rf := fun i => block_free HS2.out.r i
  go_wp2
  refine bodyPost_ret (v := .tuple #[fev Fe.none, .int .i64 2]) (by simp [results, Try.results6, go_sem, fev, Fe.none, r0, r1, r2, r3, r4]) rfl ⟨rfl, ?_⟩
  exact grown_own HS2.out.g (((((grown_set _ _ _ _).trans (grown_set _ _ _ _)).trans (grown_set _ _ _ _)).trans (grown_set _ _ _ _)).trans (grown_set _ _ _ _)) (fun y e => by cases e; exact HS2.out.hR)
set_option maxRecDepth 100000 in
set_option maxHeartbeats 8000000 in
theorem marked_nil (v : Value) (f : Fe) (c0 c1 c2 c3 : Int) (w : World) (B : NoBk w v) : Calls Try.prog 6 #[v, fev f, .agg #[.int .i64 c0, .int .i64 c1, .int .i64 c2, .int .i64 c3]] w fun e w' => e = .returned (.tuple #[fev Fe.none, .int .i64 1]) ∧ w.grownBy w' none := by
  obtain ⟨W, hW⟩ : ∃ W, W = ((w.alloc (.cells (fcs f) 30)).alloc (.cells #[.int .i64 c0, .int .i64 c1, .int .i64 c2, .int .i64 c3] 31)).alloc (.cells #[.int .i64 0, .int .u8 0, .int .u16 0, .int .i64 0, .int .i64 0] 30) := ⟨_, rfl⟩
  have HS0 : Hid (MkS w W w.heap.size (w.heap.size + 1 + 1) f.ho f.su f.tr f.po f.he) := by
    rw [hW]
    refine ⟨grown_push (grown_push (World.grownBy_alloc _ _ none) _) _, ?_, ?_, Nat.le_refl _, by omega, by omega⟩
    · exact grown_keep (World.grownBy_alloc _ _ none) (grown_keep (World.grownBy_alloc _ _ none) (alloc_at w _ _) (by simp)) (by simp)
    · exact alloc3_at _ _ _ _ _
  have HA4 : Hid (W.heap[w.heap.size + 1]? = some (.cells #[.int .i64 c0, .int .i64 c1, .int .i64 c2, .int .i64 c3] 31 (0, 0))) := by
    rw [hW]
    exact grown_keep (World.grownBy_alloc _ _ none) (alloc2_at _ _ _ _) (by simp)
  have HIB := tisBook_no v W (B.keep HS0.out.g)
  unfold fcs at hW
  unfold fev
  clear B
  go_enter Try.func6, Try.ntmps6
  go_upto_region 1 with fail
  rw [← hW]
  clear hW
  obtain ⟨F, hF⟩ : ∃ F, F = w.heap.size := ⟨_, rfl⟩
  rw [← hF] at HS0 HA4 ⊢
  obtain ⟨V, hV⟩ : ∃ V, V = F + 1 := ⟨_, rfl⟩
  simp only [← hV] at HS0 HA4 ⊢
  obtain ⟨R, hR⟩ : ∃ R, R = V + 1 := ⟨_, rfl⟩
  simp only [← hR] at HS0 ⊢
  clear hF hR hV
  clear HA4
  go_wp2_with fail
  refine HIB.mono ?_
  rintro e w1 ⟨rfl, g1⟩
  have HS2 : Hid (MkS w w1 F R f.ho f.su f.tr f.po f.he) := HS0.out.grow g1
  clear HS0 g1 HIB
  have r0 := block_cell HS2.out.r 0
  have r1 := block_cell HS2.out.r 1
  have r2 := block_cell HS2.out.r 2
  have r3 := block_cell HS2.out.r 3
  have r4 := block_cell HS2.out.r 4
  have rf := fun i => block_free HS2.out.r i
  go_wp2
  refine bodyPost_ret (v := .tuple #[fev Fe.none, .int .i64 1]) (by simp [results, Try.results6, go_sem, fev, Fe.none, r0, r1, r2, r3, r4]) rfl ⟨rfl, ?_⟩
  exact grown_own HS2.out.g (((((grown_set _ _ _ _).trans (grown_set _ _ _ _)).trans (grown_set _ _ _ _)).trans (grown_set _ _ _ _)).trans (grown_set _ _ _ _)) (fun y e => by cases e; exact HS2.out.hR)
/-- While the document's adds: the marks lie there too. -/
structure RkS (w wr : World) (F V R : Nat) (c0 c1 c2 c3 a b c d e : Int) : Prop where
  s : MkS w wr F R a b c d e
  v : wr.heap[V]? = some (.cells #[.int .i64 c0, .int .i64 c1, .int .i64 c2, .int .i64 c3] 31 (0, 0))
theorem RkS.grow {w wr w2 : World} {F V R : Nat} {c0 c1 c2 c3 a b c d e : Int} (h : RkS w wr F V R c0 c1 c2 c3 a b c d e) (g : wr.grownBy w2 none) : RkS w w2 F V R c0 c1 c2 c3 a b c d e := ⟨h.s.grow g, grown_keep g h.v (by simp)⟩
theorem RkS.ne {w wr : World} {F V R : Nat} {c0 c1 c2 c3 a b c d e : Int} (h : RkS w wr F V R c0 c1 c2 c3 a b c d e) : ¬ V = F := fun q => by
  have x := h.s.f
  have y := h.v
  rw [q, x] at y
  cases y
theorem RkS.set3 {w wr : World} {F V R : Nat} {c0 c1 c2 c3 a b c d e : Int} (h : RkS w wr F V R c0 c1 c2 c3 a b c d e) (x : Int) : RkS w (wr.setCell ⟨F, 3, none⟩ (.int .i64 x)) F V R c0 c1 c2 c3 a b c x e := ⟨h.s.set3 x, grown_keep (grown_set wr F 3 (.int .i64 x)) h.v (fun q => by injection q with q; exact h.ne q)⟩
theorem RkS.set4 {w wr : World} {F V R : Nat} {c0 c1 c2 c3 a b c d e : Int} (h : RkS w wr F V R c0 c1 c2 c3 a b c d e) (x : Int) : RkS w (wr.setCell ⟨F, 4, none⟩ (.int .i64 x)) F V R c0 c1 c2 c3 a b c d x := ⟨h.s.set4 x, grown_keep (grown_set wr F 4 (.int .i64 x)) h.v (fun q => by injection q with q; exact h.ne q)⟩
theorem RkS.drew {w wr : World} {F V R : Nat} {c0 c1 c2 c3 a b c d e : Int} (h : RkS w wr F V R c0 c1 c2 c3 a b c d e) (n : Nat) : RkS w (wr.drewN n) F V R c0 c1 c2 c3 a b c d e := h.grow (grown_drewN wr n none)
end Go.Proofs.Ytogpgldbbegniab
namespace Go.Proofs.Ytogpgldbbegniab
open Go.RowKit

theorem caE_zero {p : Pl} {es : List Ent} {c : Cd} (h0 : caE p es c = 0) : p.shut = false ∧ cchk c = 0 ∧ ¬ c.nm ∈ names es := by
  unfold caE at h0
  split at h0
  · omega
  · rename_i hs
    split at h0
    · exact absurd h0 (by assumption)
    · rename_i hq
      split at h0
      · omega
      · rename_i hz
        exact ⟨by simpa using hs, by simpa using hq, pos_no (Int.not_le.1 hz)⟩
theorem ins_names (es : List Ent) (e : Ent) : (names (ins es e)).Perm (e.h.nm :: names es) := by
  induction es with
  | nil => exact List.Perm.refl _
  | cons y r ih =>
    rw [ins_cons]
    split
    · exact (List.Perm.cons _ ih).trans (List.Perm.swap _ _ _)
    · exact List.Perm.refl _
theorem hp_at {es fs : List Ent} (h : es.map hp = fs.map hp) {m : Nat} {e : Ent} (he : es[m]? = some e) : ∃ f, fs[m]? = some f ∧ f.h = e.h ∧ f.ps = e.ps := by
  have h1 : (es.map hp)[m]? = some (hp e) := by rw [List.getElem?_map, he]; rfl
  rw [h, List.getElem?_map] at h1
  cases hf : fs[m]? with
  | none => rw [hf] at h1; cases h1
  | some f =>
    rw [hf] at h1
    injection h1 with h1
    injection h1 with h1 h2
    exact ⟨f, rfl, h1, h2⟩
theorem Pr.step {ok : Nat → Prop} {w U1 U2 : World} {b r : Nat} {v : Value} {es fs : List Ent} {p p' : Pl} (P : Pr ok w b r v es fs p) (hb : ¬ ok b) (hr : ¬ ok r) (hne : ¬ b = r) (B : Book ok U1 b es p') (g1 : w.grownBy U1 (some b)) (R : RJ U2 r v p') (g2 : U1.grownBy U2 (some r)) (hm : MkD p') (hz : p'.nms[0]? = some ⟨#[]⟩) : Pr ok U2 b r v es fs p' := by
  have nb : ∀ k, ok k → some k ≠ some b := fun k hk e => by injection e with e; exact hb (e ▸ hk)
  have nr : ∀ k, ok k → some k ≠ some r := fun k hk e => by injection e with e; exact hr (e ▸ hk)
  refine ⟨B.keepR g2 (fun e => by injection e with e; exact hne e) nr, R, ?_, ?_, (P.good.keepR g1 nb).keepR g2 nr, P.same, hm, hz⟩
  · exact (P.rl.keepR g1 (fun k hk => nb k (P.own k hk).1)).keepR g2 (fun k hk => nr k (P.own k hk).1)
  · intro k hk
    exact ⟨(P.own k hk).1, Nat.lt_of_lt_of_le (P.own k hk).2 (Nat.le_trans g1.size g2.size)⟩
theorem maP_zero' {p : Pl} (h : p.nms[0]? = some ⟨#[]⟩) (m : Mk) : (maP p m).nms[0]? = some ⟨#[]⟩ := by
  unfold maP
  split <;> exact h
theorem sealP_zero' {p : Pl} (h : p.nms[0]? = some ⟨#[]⟩) (es : List Ent) : (sealP p es).nms[0]? = some ⟨#[]⟩ := by
  unfold sealP
  split <;> exact h
theorem sealP_mkd {p : Pl} (h : MkD p) (es : List Ent) : MkD (sealP p es) := by
  unfold sealP
  split <;> exact h
theorem hp_kd {es fs : List Ent} (h : es.map hp = fs.map hp) (n : Nat) : kdAt es n = kdAt fs n := by
  unfold kdAt
  cases he : es[n]? with
  | none =>
    have h1 : fs[n]? = none := List.getElem?_eq_none (by rw [← hp_len h]; exact List.getElem?_eq_none_iff.1 he)
    rw [h1]
  | some e =>
    obtain ⟨f, hf, h1, _⟩ := hp_at h he
    rw [hf]
    simp only
    rw [h1]
theorem hp_call {es fs : List Ent} (h : es.map hp = fs.map hp) (x : Pt) : callE es x = callE fs x := by
  unfold callE
  rw [hp_names h, hp_kd h]
theorem hp_calls {es fs : List Ent} (h : es.map hp = fs.map hp) : ∀ ps, callsE es ps = callsE fs ps
  | [] => rfl
  | x :: r => by simp only [callsE, hp_call h, hp_calls h r]
theorem hp_sealL {es fs : List Ent} (h : es.map hp = fs.map hp) : ∀ {a b : List Ent}, a.map hp = b.map hp → sealL es a = sealL fs b
  | [], [], _ => rfl
  | [], _ :: _, e => by simp at e
  | _ :: _, [], e => by simp at e
  | x :: r, y :: t, e => by
    rw [List.map_cons, List.map_cons] at e
    injection e with e1 e2
    injection e1 with _ e1
    simp only [sealL, hp_calls h, e1, hp_sealL h e2]
theorem hp_seal {es fs : List Ent} (h : es.map hp = fs.map hp) (p : Pl) : sealE p es = sealE p fs ∧ sealP p es = sealP p fs := by
  have h1 : sealE p es = sealE p fs := by unfold sealE; rw [hp_sealL h h]
  refine ⟨h1, ?_⟩
  unfold sealP
  rw [h1]
theorem plNew_mkd : MkD plNew := ⟨rfl, fun m hm => by simp [plNew] at hm; exact Or.inl hm⟩
theorem Pr.keepN {ok : Nat → Prop} {w w' : World} {b r : Nat} {v : Value} {es fs : List Ent} {p : Pl} (P : Pr ok w b r v es fs p) (g : w.grownBy w' none) : Pr ok w' b r v es fs p :=
  ⟨P.book.keep g, P.rj.keep g, P.rl.keep g, fun k hk => ⟨(P.own k hk).1, Nat.lt_of_lt_of_le (P.own k hk).2 g.size⟩, P.good.keep g, P.same, P.mkd, P.zero⟩
set_option maxRecDepth 100000 in
set_option maxHeartbeats 2000000 in
theorem copyCard_any (h : Hd) (v : Value) (ps : List Pt) (w : World) (hp : PsAt w v ps) (hL : Fits ps.length) : Calls Try.prog 14 #[cv h v] w fun e w' => ∃ a c, e = .returned (cv h (.slice a ps.length c)) ∧ POwn w' w.heap.size (.slice a ps.length c) ps ∧ w.grownBy w' none := by
  have HP : Hid (PsAt w v ps) := hp
  obtain ⟨nm, su, kd, co, po, he, tr, tk⟩ := h
  obtain ⟨a, c, rfl⟩ := hp.form
  clear hp
  unfold cv
  simp only
  go_enter Try.func14, Try.ntmps14
  go_wp2_with fail
  refine (copy_any _ ps _ (HP.out.keep (grown_push (World.grownBy_alloc _ _ none) _)) hL.copy).mono ?_
  rintro e w1 ⟨u, rfl, o1, g1⟩
  obtain ⟨a1, c1', rfl⟩ := o1.at.form
  rw [World.size_alloc, World.size_alloc] at o1
  have A2 : CAt w1 w.heap.size ⟨nm, su, kd, co, po, he, tr, tk⟩ (.slice a ps.length c) := by
    refine CAt.keep ?_ g1
    exact CAt.keep (alloc_at w (ccs ⟨nm, su, kd, co, po, he, tr, tk⟩ (.slice a ps.length c)) 47) (World.grownBy_alloc _ _ none)
  have Z2 : CAt w1 (w.heap.size + 1) Hd.none (.slice none 0 0) := by
    refine CAt.keep ?_ g1
    have := alloc_at (w.alloc (.cells (ccs ⟨nm, su, kd, co, po, he, tr, tk⟩ (.slice a ps.length c)) 47)) (ccs Hd.none (.slice none 0 0)) 47
    rw [World.size_alloc] at this
    exact this
  have G2 : w.grownBy w1 none := grown_trans (grown_push (World.grownBy_alloc _ _ none) _) g1
  clear g1
  obtain ⟨c0, c1, c2, c3, c4, c5, c6, c7, c8⟩ := A2.cells
  obtain ⟨z0, z1, z2, z3, z4, z5, z6, z7, z8⟩ := Z2.cells
  have f := A2.free 8
  have e0 := Z2.free 0; have e1 := Z2.free 1; have e2 := Z2.free 2; have e3 := Z2.free 3; have e4 := Z2.free 4; have e5 := Z2.free 5; have e6 := Z2.free 6; have e7 := Z2.free 7; have e8 := Z2.free 8
  simp only [Hd.none] at c0 c1 c2 c3 c4 c5 c6 c7 c8 z0 z1 z2 z3 z4 z5 z6 z7 z8
  have HO : Hid (POwn w1 (w.heap.size + 1 + 1) (.slice a1 ps.length c1') ps) := o1
  have HG : Hid (w.grownBy w1 none) := G2
  clear A2 Z2 G2 o1 HP
  go_wp2
  refine bodyPost_ret (v := .agg #[.string nm, .int .u8 su, .int .u8 kd, .int .i64 co, .int .i64 po, .int .i64 he, .int .u16 tr, .bool tk, .slice a1 ps.length c1']) (by simp [results, Try.results14, go_sem, z0, z1, z2, z3, z4, z5, z6, z7, z8]) rfl ⟨a1, c1', rfl, ?_, ?_⟩
  · exact ((HO.out.keep (grown_set _ _ 8 _) (fun x e => by cases e; omega)).keep (row_st9 _ (w.heap.size + 1) _ _ _ _ _ _ _ _ _) (fun x e => by cases e; omega)).big (by omega)
  · exact grown_own (grown_own HG.out (grown_set _ _ 8 _) (fun x e => by cases e; exact Nat.le_refl _)) (row_st9 _ (w.heap.size + 1) _ _ _ _ _ _ _ _ _) (fun x e => by cases e; omega)
/-- A card is added to both. -/
theorem Pr.card {ok : Nat → Prop} {w w1 w2 w3 w4 : World} {b r : Nat} {v : Value} {es fs : List Ent} {p : Pl} {h : Hd} {u u' : Value} {v' : Value} {ps : List Pt} {t : Int} (P : Pr ok w b r v es fs p) (hr : ¬ ok r) (hne : ¬ b = r) (hnew : ∀ k, w.heap.size ≤ k → ok k) (g1 : w.grownBy w1 none) (B2 : Book ok w2 b (if t = 0 then ins es ⟨h, u, ps⟩ else es) p) (g2 : w1.grownBy w2 (some b)) (g3 : w2.grownBy w3 none) (Q1 : RJ w4 r v' p) (Q2 : RL w4 v' (if t = 0 then ins fs ⟨h, u', ps⟩ else fs)) (Q3 : v' = v ∨ ∀ k, v'.ownBlock = some k → w3.heap.size ≤ k ∧ k < w4.heap.size) (Q4 : Good (fun k => (ok k ∧ k < w3.heap.size) ∨ (w3.heap.size ≤ k ∧ some k ≠ v'.ownBlock)) w4 (if t = 0 then ins fs ⟨h, u', ps⟩ else fs)) (Q5 : w3.grownBy w4 (some r)) : ∃ fs', Pr ok w4 b r v' (if t = 0 then ins es ⟨h, u, ps⟩ else es) fs' p := by
  have nr : ∀ k, ok k → some k ≠ some r := fun k hk e => by cases e; exact hr hk
  have s1 : w.heap.size ≤ w3.heap.size := Nat.le_trans g1.size (Nat.le_trans g2.size g3.size)
  have s2 : w3.heap.size ≤ w4.heap.size := Q5.size
  refine ⟨_, (B2.keep g3).keepR Q5 (fun e => by cases e; exact hne rfl) nr, Q1, Q2, ?_, ?_, ?_, P.mkd, P.zero⟩
  · intro k hk
    rcases Q3 with rfl | Q3
    · have := P.own k hk
      exact ⟨this.1, by omega⟩
    · have := Q3 k hk
      exact ⟨hnew k (by omega), this.2⟩
  · exact Q4.mono fun k hk => hk.elim (fun h => h.1) (fun h => hnew k (by omega))
  · by_cases h0 : t = 0
    · rw [if_pos h0, if_pos h0]; exact hp_ins P.same _ _ _ _
    · rw [if_neg h0, if_neg h0]; exact P.same
end Go.Proofs.Ytogpgldbbegniab
