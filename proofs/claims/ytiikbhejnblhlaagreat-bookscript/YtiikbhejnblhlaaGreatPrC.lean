/-
  BookScript: a pair of books; a card is added to both.
-/
import Derived.Test.YtiikbhejnblhlaaGreatRCa
import Derived.Test.YtiikbhejnblhlaaGreatMF
namespace Go.Proofs.YtiikbhejnblhlaaGreat
open Go.RowKit

/-- A book beside the document's. -/
structure Pr (ok : Nat → Prop) (w : World) (b r : Nat) (v : Value) (es fs : List Ent) (p : Pl) : Prop where
  book : Book ok w b es p
  rj : RJ w r v p
  rl : RL w v fs
  own : ∀ k, v.ownBlock = some k → ok k ∧ k < w.heap.size
  good : Good ok w fs
  same : es.map hp = fs.map hp
  mkd : MkD p
  zero : p.nms[0]? = some ⟨#[]⟩
theorem hp_len {es fs : List Ent} (h : es.map hp = fs.map hp) : es.length = fs.length := by have := congrArg List.length h; simpa using this
theorem hp_names {es fs : List Ent} (h : es.map hp = fs.map hp) : names es = names fs := by
  have := congrArg (List.map fun x : Hd × List Pt => x.1.nm) h
  rw [List.map_map, List.map_map] at this
  exact this
theorem hp_caE {es fs : List Ent} (h : es.map hp = fs.map hp) (p : Pl) (c : Cd) : caE p es c = caE p fs c := by
  unfold caE
  rw [hp_names h, hp_len h]
theorem hp_rk : ∀ {es fs : List Ent} (_ : es.map hp = fs.map hp) (h : Hd), rk es h = rk fs h
  | [], [], _, _ => rfl
  | [], _ :: _, e, _ => by simp at e
  | _ :: _, [], e, _ => by simp at e
  | x :: r, y :: t, e, h => by
    rw [List.map_cons, List.map_cons] at e
    injection e with e1 e2
    injection e1 with e1 _
    simp only [rk]
    rw [e1, hp_rk e2 h]
theorem hp_ins {es fs : List Ent} (h : es.map hp = fs.map hp) (hd : Hd) (u u' : Value) (ps : List Pt) : (ins es ⟨hd, u, ps⟩).map hp = (ins fs ⟨hd, u', ps⟩).map hp := by
  unfold ins
  simp only [List.map_append, List.map_cons, List.map_take, List.map_drop]
  rw [h, hp_rk h]
  rfl
/-- One book is written, then the other. -/
def Both2 (w w' : World) (b r : Nat) : Prop := ∃ x, w.grownBy x (some b) ∧ x.grownBy w' (some r)
theorem grown_new {a x y : World} {r : Option Nat} {g : Nat} (h : a.grownBy x r) (k : x.grownBy y (some g)) (hg : a.heap.size ≤ g) : a.grownBy y r := by
  obtain ⟨h1, h2, h3, h4, h5⟩ := h
  obtain ⟨k1, k2, k3, k4, k5⟩ := k
  refine ⟨k1.trans h1, k2.trans h2, k3.trans h3, Nat.le_trans h4 k4, fun j hj hr => ?_⟩
  rw [k5 j (by omega) (fun e => by cases e; omega)]
  exact h5 j hj hr
theorem PsAt.pre {w : World} {g cap n : Nat} {ps qs : List Pt} (h : PsAt w (.slice (some ⟨g, 0, none⟩) n cap) (ps ++ qs)) : PsAt w (.slice (some ⟨g, 0, none⟩) ps.length cap) ps := by
  rcases h with ⟨e, _⟩ | ⟨ad, cp, e, hc, hcell⟩
  · cases e
  · injection e with e1 e2 e3
    injection e1 with e1
    subst e1
    subst e3
    refine Or.inr ⟨_, _, rfl, by rw [List.length_append] at hc; omega, fun j u hu => hcell j u ?_⟩
    rw [pcells_app, List.getElem?_append_left (List.getElem?_eq_some_iff.1 hu).1]
    exact hu
set_option maxRecDepth 100000 in
set_option maxHeartbeats 8000000 in
theorem pcard_any (ok : Nat → Prop) (b r : Nat) (v : Value) (es fs : List Ent) (p : Pl) (h : Hd) (vc : Value) (ps : List Pt) (w : World) (P : Pr ok w b r v es fs p) (hb : ¬ ok b) (hr : ¬ ok r) (hne : ¬ b = r) (hnew : ∀ k, w.heap.size ≤ k → ok k) (hps : PsOk ok w vc ps) (hf : Fits ps.length) (hwf : (h.with ps).wf) : Calls Tryz.prog 8 #[.agg #[.pointer (some ⟨b, 0, none⟩), .pointer (some ⟨r, 0, none⟩)], cv h vc] w fun e w' => e = .returned (.bool true) ∧ Hid ((∃ v' es' fs', Pr ok w' b r v' es' fs' p) ∧ Both2 w w' b r) := by
  obtain ⟨a, c, rfl⟩ := hps.1.form
  have hbs : b < w.heap.size := block_lt P.book.lies.choose_spec.lies
  have hrs : r < w.heap.size := block_lt P.rj.lies
  have HPs : Hid (PsOk (fun k => ok k ∧ k < w.heap.size) w (.slice a ps.length c) ps) := hps.old
  have HP : Hid (Pr ok w b r v es fs p) := P
  have HN : Hid (¬ ok b ∧ ¬ ok r ∧ ¬ b = r ∧ (∀ k, w.heap.size ≤ k → ok k) ∧ b < w.heap.size ∧ r < w.heap.size) := ⟨hb, hr, hne, hnew, hbs, hrs⟩
  have HF : Hid (Fits ps.length ∧ (h.with ps).wf) := ⟨hf, hwf⟩
  obtain ⟨W2, hW2⟩ : ∃ W2, W2 = (w.alloc (.cells #[.pointer (some ⟨b, 0, none⟩), .pointer (some ⟨r, 0, none⟩)] 28)).alloc (.cells (ccs h (.slice a ps.length c)) 36) := ⟨_, rfl⟩
  have HG2 : Hid (w.grownBy W2 none) := by rw [hW2]; exact grown_push (World.grownBy_alloc _ _ none) _
  have HA2 : Hid (W2.heap[w.heap.size]? = some (.cells #[.pointer (some ⟨b, 0, none⟩), .pointer (some ⟨r, 0, none⟩)] 28 (0, 0))) := by rw [hW2]; exact grown_keep (World.grownBy_alloc _ _ none) (alloc_at w _ _) (by simp)
  have HZ2 : Hid (CAt W2 (w.heap.size + 1) h (.slice a ps.length c)) := by
    have := alloc_at (w.alloc (.cells #[.pointer (some ⟨b, 0, none⟩), .pointer (some ⟨r, 0, none⟩)] 28)) (ccs h (.slice a ps.length c)) 36
    rw [World.size_alloc] at this
    rw [hW2]
    exact this
  have HS2 : Hid (W2.heap.size = w.heap.size + 2) := by show W2.heap.size = _; rw [hW2]; simp
  obtain ⟨e0, e1, e2, e3, e4, e5, e6, e7, e8⟩ := HZ2.out.cells
  have HLe := lentCard_any h (.slice a ps.length c) ps W2 (HPs.out.1.keep HG2.out) hf
  unfold ccs at hW2
  unfold cv at HLe ⊢
  clear P hb hr hne hnew hps hf hwf hbs hrs
  go_enter Tryz.func8, Tryz.ntmps8
  go_upto_region 1 with fail
  rw [← hW2]
  clear hW2
  go_wp2_with fail
  refine HLe.mono ?_
  rintro e w3 ⟨g, rfl, hg, o3, g3⟩
  obtain ⟨W4, hW4⟩ : ∃ W4, W4 = w3.alloc (.cells (ccs h (.slice (some ⟨g, 0, none⟩) ps.length (ps.length + 2))) 36) := ⟨_, rfl⟩
  have HG4 : Hid (W2.grownBy W4 none) := by rw [hW4]; exact grown_push g3 _
  have HO4 : Hid (POwn W4 W2.heap.size (.slice (some ⟨g, 0, none⟩) (ps.length + 2) (ps.length + 2)) (ps ++ [mkP, mkP])) := by rw [hW4]; exact POwn.keep o3 (World.grownBy_alloc _ _ none) (by simp)
  have HC4 : Hid (CAt W4 w3.heap.size h (.slice (some ⟨g, 0, none⟩) ps.length (ps.length + 2))) := by rw [hW4]; exact alloc_at w3 _ _
  have HGg : Hid (W2.heap.size ≤ g ∧ g < W4.heap.size) := ⟨hg, (World.ownsRow.lt HO4.out g rfl).2⟩
  unfold ccs at hW4
  clear hg o3 g3 HLe e0 e1 e2 e3 e4 e5 e6 e7 e8
  go_upto_region 2 with fail
  rw [← hW4]
  clear hW4
  have HG24 : Hid (w.grownBy W4 none) := grown_trans HG2.out HG4.out
  have SZ : Hid (W2.heap.size = w.heap.size + 2 ∧ W2.heap.size ≤ W4.heap.size) := ⟨HS2.out, HG4.out.size⟩
  have HKc : Hid (caE p es (h.with ps) = caE p fs (h.with ps)) := hp_caE HP.out.same p _
  have HB4 : Hid (Book (fun k => ok k ∧ k ≠ g) W4 b es p) := by
    have B := HP.out.book
    have B' : Book (fun k => ok k ∧ k < w.heap.size) w b es p := ⟨B.lies, fun e he => (B.good e he).old, B.srt, B.fine, B.may⟩
    have B2 := B'.keep HG24.out
    exact ⟨B2.lies, B2.good.mono fun k hk => ⟨hk.1, by have h1 := HGg.out.1; have h2 := SZ.out.1; omega⟩, B2.srt, B2.fine, B2.may⟩
  have HBC := bcard (fun k => ok k ∧ k ≠ g) b es p h (.slice (some ⟨g, 0, none⟩) ps.length (ps.length + 2)) ps W4 HB4.out (fun k => HN.out.1 k.1) (fun k hk => ⟨HN.out.2.2.2.1 k (by have h1 := SZ.out; omega), by have h1 := HGg.out.2; omega⟩) HO4.out.at.pre HF.out.1.small
  obtain ⟨t, ht⟩ : ∃ t, caE p es (h.with ps) = t := ⟨_, rfl⟩
  rw [ht] at HBC HKc
  have x0 := block_cell (grown_keep HG4.out HA2.out (by simp)) 0
  obtain ⟨f0, f1, f2, f3, f4, f5, f6, f7, f8⟩ := HC4.out.cells
  unfold cv at HBC
  clear ht
  go_wp2_with fail
  refine HBC.mono ?_
  rintro e w5 ⟨u, rfl, B5, g5⟩
  have HB5 : Hid (Book (fun k => ok k ∧ k ≠ g) w5 b (if t = 0 then ins es ⟨h, u, ps⟩ else es) p) := B5
  have HG5 : Hid (W4.grownBy w5 (some b)) := g5
  have HO5 : Hid (POwn w5 W2.heap.size (.slice (some ⟨g, 0, none⟩) (ps.length + 2) (ps.length + 2)) (ps ++ [mkP, mkP])) := HO4.out.keep g5 (fun x e => by cases e; have h1 := HN.out.2.2.2.2.1; have h2 := SZ.out.1; omega)
  have HV5 : Hid (PsOk (fun k => ok k ∧ k < w.heap.size) w5 (.slice a ps.length c) ps) := (HPs.out.keep HG24.out).keepR g5 (fun k hk e => by cases e; exact HN.out.1 hk.1)
  have HA5 : Hid (w5.heap[w.heap.size]? = some (.cells #[.pointer (some ⟨b, 0, none⟩), .pointer (some ⟨r, 0, none⟩)] 28 (0, 0))) := grown_keep g5 (grown_keep HG4.out HA2.out (by simp)) (fun e => by cases e; exact absurd HN.out.2.2.2.2.1 (Nat.lt_irrefl _))
  have HZ5 : Hid (CAt w5 (w.heap.size + 1) h (.slice a ps.length c)) := (HZ2.out.keep HG4.out).keepR g5 (fun e => by cases e; have h1 := HN.out.2.2.2.2.1; omega)
  have z8 := HZ5.out.cells.2.2.2.2.2.2.2.2
  have HKe := kept_any _ _ (ps ++ [mkP, mkP]) ps w5 HO5.out.at HV5.out.1 (by rw [List.length_append]; exact HF.out.1.small2) HF.out.1
  rw [samePs_refl] at HKe
  clear B5 g5 HBC x0 f0 f1 f2 f3 f4 f5 f6 f7 f8
  go_wp2_with fail
  refine HKe.mono ?_
  rintro e w6 ⟨rfl, g6⟩
  have HG6 : Hid (w5.grownBy w6 none) := g6
  have R6 := (own_room (HO5.out.keep g6 (by simp))).1
  have L6 := (own_room (HO5.out.keep g6 (by simp))).2.1
  have HOv := over_any g (ps.length + 2) (ps.length + 2) w6 R6 (Nat.le_refl _) L6
  clear g6 HKe z8 R6 L6
  go_wp2_with fail
  refine HOv.mono ?_
  rintro e w7 ⟨⟨vv, rfl⟩, _, g7⟩
  have NG : ∀ k, k < w.heap.size → some k ≠ some g := fun k hk e => by cases e; have h1 := HGg.out.1; have h2 := SZ.out.1; omega
  have HG7 : Hid (w6.grownBy w7 (some g)) := g7
  have HV7 : Hid (PsOk (fun k => ok k ∧ k < w.heap.size) w7 (.slice a ps.length c) ps) := (HV5.out.keep HG6.out).keepR g7 (fun k hk => NG k hk.2)
  have HA7 := block_cell (grown_keep g7 (grown_keep HG6.out HA5.out (by simp)) (fun e => by cases e; have h1 := HGg.out.1; have h2 := SZ.out.1; omega)) 1
  have HZ7 := (HZ5.out.keep HG6.out).keepR g7 (fun e => by cases e; have h1 := HGg.out.1; have h2 := SZ.out.1; omega)
  have NB : ∀ k, ok k → some k ≠ some b := fun k hk e => by cases e; exact HN.out.1 hk
  have RJ7 : RJ w7 r v p := (((HP.out.rj.keep HG24.out).keepR HG5.out (fun e => by cases e; exact HN.out.2.2.1 rfl)).keep HG6.out).keepR g7 (NG r HN.out.2.2.2.2.2)
  have RL7 : RL w7 v fs := (((HP.out.rl.keep HG24.out).keepR HG5.out (fun k hk => NB k (HP.out.own k hk).1)).keep HG6.out).keepR g7 (fun k hk => NG k (HP.out.own k hk).2)
  have GD0 : Good (fun k => ok k ∧ k < w.heap.size) w fs := fun e he => (HP.out.good e he).old
  have GD7 : Good (fun k => ok k ∧ k < w.heap.size) w7 fs := (((GD0.keep HG24.out).keepR HG5.out (fun k hk => NB k hk.1)).keep HG6.out).keepR g7 (fun k hk => NG k hk.2)
  have HRC := rcard_any (fun k => ok k ∧ k < w.heap.size) r v p fs h (.slice a ps.length c) ps w7 RJ7 RL7 (by rw [← hp_len HP.out.same]; exact HP.out.book.lies.len) GD7 (fun k => HN.out.2.1 k.1) HV7.out.1 HF.out.1.small HF.out.2
  rw [← HKc.out] at HRC
  obtain ⟨z0, z1, z2, z3, z4, z5, z6, z7, z8⟩ := HZ7.cells
  unfold cv at HRC
  clear g7 HOv NG NB RJ7 RL7 GD0 GD7 HZ7
  go_wp2_with fail
  refine HRC.mono ?_
  intro e w8 Q
  obtain ⟨u', v', rfl, Q1, Q2, Q3, Q4, Q5⟩ := Q
  have FIN : Hid ((∃ v' es' fs', Pr ok w8 b r v' es' fs' p) ∧ Both2 w w8 b r) := by
    have hg1 : w.heap.size ≤ g := by have h1 := HGg.out.1; have h2 := SZ.out.1; omega
    have G5 : w.grownBy w5 (some b) := grown_own' HG24.out HG5.out
    have G6 : w.grownBy w6 (some b) := G5.trans (grown_own' HG6.out (grown_refl _ _))
    have G7 : w.grownBy w7 (some b) := grown_new G6 HG7.out hg1
    have s7 : w.heap.size ≤ w7.heap.size := G7.size
    have s8 : w7.heap.size ≤ w8.heap.size := Q5.size
    have nr : ∀ k, ok k → some k ≠ some r := fun k hk e => by cases e; exact HN.out.2.1 hk
    refine ⟨⟨v', (if t = 0 then ins es ⟨h, u, ps⟩ else es), (if t = 0 then ins fs ⟨h, u', ps⟩ else fs), ?_, Q1, Q2, ?_, ?_, ?_, HP.out.mkd, HP.out.zero⟩, w7, G7, Q5⟩
    · have B := ((HB5.out.keep HG6.out).keepR HG7.out (fun e => by cases e; have h1 := HN.out.2.2.2.2.1; omega) (fun k hk e => by cases e; exact hk.2 rfl)).keepR Q5 (fun e => by cases e; exact HN.out.2.2.1 rfl) (fun k hk => nr k hk.1)
      exact ⟨B.lies, B.good.mono fun k hk => hk.1, B.srt, B.fine, B.may⟩
    · intro k hk
      rcases Q3 with rfl | Q3
      · have := HP.out.own k hk
        exact ⟨this.1, by omega⟩
      · have := Q3 k hk
        exact ⟨HN.out.2.2.2.1 k (by omega), this.2⟩
    · exact Q4.mono fun k hk => hk.elim (fun h => h.1.1) (fun h => HN.out.2.2.2.1 k (by omega))
    · by_cases h0 : t = 0
      · rw [if_pos h0, if_pos h0]; exact hp_ins HP.out.same _ _ _ _
      · rw [if_neg h0, if_neg h0]; exact HP.out.same
  clear Q1 Q2 Q3 Q4 Q5 HRC HA7 z0 z1 z2 z3 z4 z5 z6 z7 z8
  go_wp2
  go_ret
  first | exact ⟨rfl, FIN⟩ | exact ⟨by simp, FIN⟩
end Go.Proofs.YtiikbhejnblhlaaGreat
