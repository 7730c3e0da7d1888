/-
  BookScript: pair.cards.
-/
import Derived.Test.YtiikbhejnblhlaaGreatPrL
import Derived.Test.YtiikbhejnblhlaaGreatPrE
namespace Go.Proofs.YtiikbhejnblhlaaGreat
open Go.RowKit Go.Shelf

attribute [local go_sem] Oper.semAt_some

theorem grown_off {a x y : World} {r row : Option Nat} (h : a.grownBy x r) (k : x.grownBy y row) (hr : ∀ j, row = some j → a.heap.size ≤ j) : a.grownBy y r := by
  obtain ⟨h1, h2, h3, h4, h5⟩ := h
  obtain ⟨k1, k2, k3, k4, k5⟩ := k
  refine ⟨k1.trans h1, k2.trans h2, k3.trans h3, Nat.le_trans h4 k4, fun j hj hn => ?_⟩
  rw [k5 j (by omega) (fun e => by have := hr j e.symm; omega)]
  exact h5 j hj hn
theorem fnilC (x : Nat) (w : World) : Sem.run Tryz.prog (binOp BinOp.eql 66 (Value.func (Fn.func 57) #[] #[.pointer (some ⟨x, 0, none⟩)]) Value.nilFunc) w = .ok (.bool false) w := by kernel_rfl
set_option maxRecDepth 100000 in
set_option maxHeartbeats 8000000 in
theorem pcards_any (ok : Nat → Prop) (b r : Nat) (v : Value) (es fs : List Ent) (p : Pl) (stop : Int) (w : World) (P : Pr ok w b r v es fs p) : Calls Tryz.prog 7 #[.agg #[.pointer (some ⟨b, 0, none⟩), .pointer (some ⟨r, 0, none⟩)], .int .i64 stop] w fun e w' => e = .returned (.bool true) ∧ w.grownBy w' none := by
  have HP : Hid (Pr ok w b r v es fs p) := P
  have h64 : fs.length ≤ 64 := by rw [← hp_len P.same]; exact P.book.lies.len
  have h4f : ∀ e ∈ fs, e.ps.length ≤ 4 := fun e he => by
    obtain ⟨j, hj⟩ := List.getElem?_of_mem he
    obtain ⟨f, hf, _, h2⟩ := hp_at P.same.symm hj
    rw [← h2]
    exact P.book.parts f (List.mem_of_getElem? hf)
  obtain ⟨W2, hW2⟩ : ∃ W2, W2 = ((w.alloc (.cells #[.pointer (some ⟨b, 0, none⟩), .pointer (some ⟨r, 0, none⟩)] 28)).alloc (.cells #[.int .i64 stop] 3)).alloc (.cells #[.bool false] 4) := ⟨_, rfl⟩
  have G2 : w.grownBy W2 none := by rw [hW2]; exact grown_push (grown_push (World.grownBy_alloc _ _ none) _) _
  have HG2 : Hid (w.grownBy W2 none) := G2
  have A2 : W2.heap[w.heap.size]? = some (.cells #[.pointer (some ⟨b, 0, none⟩), .pointer (some ⟨r, 0, none⟩)] 28 (0, 0)) := by
    rw [hW2]; exact grown_keep (grown_push (World.grownBy_alloc _ _ none) _) (alloc_at w _ _) (by simp)
  have A3 : W2.heap[w.heap.size + 1]? = some (.cells #[.int .i64 stop] 3 (0, 0)) := by
    have h := alloc_at (w.alloc (.cells #[.pointer (some ⟨b, 0, none⟩), .pointer (some ⟨r, 0, none⟩)] 28)) #[.int .i64 stop] 3
    rw [World.size_alloc] at h
    rw [hW2]; exact grown_keep (World.grownBy_alloc _ _ none) h (by simp)
  have A4 : W2.heap[w.heap.size + 1 + 1]? = some (.cells #[.bool false] 4 (0, 0)) := by
    have h := alloc_at ((w.alloc (.cells #[.pointer (some ⟨b, 0, none⟩), .pointer (some ⟨r, 0, none⟩)] 28)).alloc (.cells #[.int .i64 stop] 3)) #[.bool false] 4
    rw [World.size_alloc, World.size_alloc] at h
    rw [hW2]; exact h
  have S2 : W2.heap.size = w.heap.size + 3 := by rw [hW2]; simp
  have HA2 : Hid (W2.heap[w.heap.size]? = some (.cells #[.pointer (some ⟨b, 0, none⟩), .pointer (some ⟨r, 0, none⟩)] 28 (0, 0))) := A2
  have HA3 : Hid (W2.heap[w.heap.size + 1]? = some (.cells #[.int .i64 stop] 3 (0, 0))) := A3
  have HA4 : Hid (W2.heap[w.heap.size + 1 + 1]? = some (.cells #[.bool false] 4 (0, 0))) := A4
  have HS2 : Hid (W2.heap.size = w.heap.size + 3) := S2
  have x1 : W2.cell? ⟨w.heap.size, 1, none⟩ = some (.pointer (some ⟨r, 0, none⟩)) := block_cell A2 1
  have C1 := rcards_any ok r v p fs W2 (P.keep G2).rj (P.keep G2).rl h64 (P.keep G2).good h4f
  clear P h64 h4f G2 A2 A3 A4 S2
  refine (callsIn_wide (n := 5)).1 ?_
  refine callsIn_of_wp_marks Tryz.func7 rfl trivial ?_ rfl
  simp only [Tryz.ntmps7, List.size_toArray, List.length_cons, List.length_nil, Nat.reduceAdd, Nat.reduceSub, Array.replicate_succ, Array.replicate_zero, List.push_toArray, List.append_toArray, List.nil_append, List.cons_append]
  have HW2 : Hid (W2 = _) := hW2
  rw [hW2] at x1
  clear hW2
  gi_wp2_with fail
  rw [← HW2.out]
  clear HW2 x1
  refine ⟨trivial, ?_⟩
  refine (callsIn_wide.2 C1).mono ?_
  rintro e w3 ⟨u, gs, rfl, O3, hm3, G3, g3⟩
  obtain ⟨ua, uc, rfl⟩ := O3.rl.form
  obtain ⟨W4, hW4⟩ : ∃ W4, W4 = w3.alloc (.cells #[.slice ua gs.length uc] 52) := ⟨_, rfl⟩
  have g4 : W2.grownBy W4 none := by rw [hW4]; exact grown_push g3 _
  have HG4 : Hid (W2.grownBy W4 none) := g4
  have HQ4 : Hid (W4.heap[w3.heap.size]? = some (.cells #[.slice ua gs.length uc] 52 (0, 0))) := by rw [hW4]; exact alloc_at _ _ _
  have HL4 : Hid (RL W4 (.slice ua gs.length uc) gs) := by rw [hW4]; exact O3.rl.keep (World.grownBy_alloc _ _ none)
  have HUb : Hid (∀ k, (Value.slice ua gs.length uc).ownBlock = some k → k < W4.heap.size) := fun k hk => Nat.lt_of_lt_of_le (World.ownsRow.lt O3 k hk).2 (by rw [hW4, World.size_alloc]; omega)
  have HR4 : Hid (∀ e ∈ gs, PsAt W4 e.v e.ps) := fun e he => by rw [hW4]; exact (G3 e he).1.keep (World.grownBy_alloc _ _ none)
  have HM : Hid (gs.map hp = fs.map hp) := hm3
  have x0 : W4.cell? ⟨w.heap.size, 0, none⟩ = some (.pointer (some ⟨b, 0, none⟩)) := block_cell (grown_keep g4 HA2.out (by simp)) 0
  have C2 := cards_yes ok b es p W4 (HP.out.keep (grown_trans HG2.out g4)).book
  have HW4 : Hid (W4 = _) := hW4
  rw [hW4] at x0
  clear O3 hm3 G3 g3 g4 hW4 C1
  gi_wp2_with fail
  rw [← HW4.out]
  clear HW4 x0
  refine ⟨trivial, ?_⟩
  refine (callsIn_wide.2 C2).mono ?_
  rintro e w5 ⟨x, vv, rfl, B5, O5, hx5, g5⟩
  obtain ⟨q5, hq5⟩ : ∃ q5, q5 = w3.heap.size := ⟨_, rfl⟩
  obtain ⟨W6, hW6⟩ : ∃ W6, W6 = w5.alloc (.cells #[.int .i64 0] 3) := ⟨_, rfl⟩
  obtain ⟨q7, hq7⟩ : ∃ q7, q7 = w5.heap.size := ⟨_, rfl⟩
  have g6 : w5.grownBy W6 none := by rw [hW6]; exact World.grownBy_alloc _ _ none
  have S6 : W6.heap.size = q7 + 1 := by rw [hW6, World.size_alloc, hq7]
  have G46 : W4.grownBy W6 none := grown_trans g5 g6
  have G26 : W2.grownBy W6 none := grown_trans HG4.out G46
  have s45 : W4.heap.size ≤ q7 := by rw [hq7]; exact g5.size
  have s24 : W2.heap.size ≤ W4.heap.size := HG4.out.size
  have q5lt : q5 < q7 := by have h9 := block_lt HQ4.out; rw [← hq5] at h9; omega
  have w47 : w.heap.size + 3 ≤ q7 := by have := HS2.out; omega
  have HX3 : Hid (Boxed W6 (w.heap.size + 1) 3 (.int .i64 stop)) := grown_keep G26 HA3.out (by simp)
  have HX4 : Hid (Boxed W6 (w.heap.size + 1 + 1) 4 (.bool false)) := grown_keep G26 HA4.out (by simp)
  have HX5 : Hid (Boxed W6 q5 52 (.slice ua gs.length uc)) := by rw [hq5]; exact grown_keep G46 HQ4.out (by simp)
  have HX7 : Hid (Boxed W6 q7 3 (.int .i64 0)) := by rw [hW6, hq7]; exact alloc_at _ _ _
  have HWG : Hid (w.grownBy W6 none) := grown_trans HG2.out G26
  have HRL : Hid (RL W6 (.slice ua gs.length uc) gs) := HL4.out.keep G46
  have HRG : Hid (Good (fun k => k < q7) W6 gs) := fun e he => ((show PsOk (fun _ => True) W4 e.v e.ps from ⟨HR4.out e he, fun _ _ _ _ _ _ => trivial⟩).old.keep G46).mono fun k hk => Nat.lt_of_lt_of_le hk.2 s45
  have HRB : Hid (∀ k, (Value.slice ua gs.length uc).ownBlock = some k → k < q7) := fun k hk => by
    rcases HL4.out with ⟨e, _⟩ | ⟨g, c, e, hE⟩
    · rw [e] at hk; cases hk
    · rw [e] at hk
      injection hk with hk
      subst hk
      injection e with e1 e2 _
      by_cases h0 : 0 < gs.length
      · obtain ⟨y, hy⟩ : ∃ y, gs[0]? = some y := ⟨_, List.getElem?_eq_getElem h0⟩
        exact Nat.lt_of_lt_of_le (cell_block' (hE 0 y hy).c0) s45
      · exact Nat.lt_of_lt_of_le (HUb.out g (by rw [e1]; rfl)) s45
  have HES : Hid (gs.map hp = es.map hp) := HM.out.trans HP.out.same.symm
  have SEQ := seq_cards 4 (by decide) x q7 vv es W6 (block_cell (grown_keep g6 B5 (by simp)) 0) (by have h9 := block_lt B5; omega) (eown_keep O5 g6).rl (fun k hk => by have h9 := (World.ownsRow.lt O5 k hk).2; omega) (fun e he => (((HP.out.book.good e he).keep (grown_trans HG2.out (grown_trans HG4.out g5))).old.keep g6).mono fun k hk => by have h9 := hk.2; omega) HP.out.book.lies.len HP.out.book.parts
  have HSEQ : Hid (SeqTold Fence.wide 4 Tryz.prog 57 #[.pointer (some ⟨x, 0, none⟩)] (fun e : Ent => #[cv e.h e.v]) (Rdy W6.heap.size es) (fun W W' => W6.grownBy W (some q7) → W6.grownBy W' (some q7)) (fun xs => xs.map hp = es.map hp) (fun _ => True) es.length W6) := SEQ
  have HW6 : Hid (W6 = w5.alloc (.cells #[.int .i64 0] 3)) := hW6
  have HS6 : Hid (W6.heap.size = q7 + 1) := S6
  have H64 : Hid (es.length ≤ 64) := HP.out.book.lies.len
  have H4 : Hid (∀ e ∈ es, e.ps.length ≤ 4) := HP.out.book.parts
  have Hq5 : Hid (q5 = w3.heap.size) := hq5
  have Hq7 : Hid (q7 = w5.heap.size) := hq7
  have hfn := fnilC x
  clear C2 SEQ B5 O5 hx5 g5 g6 G46 G26 s45 s24 S6 hW6 hq5 hq7 HA2 HA3 HA4 HS2 HG2 HG4 HQ4 HL4 HR4 HM
  gi_wp2_with fail
  rw [← HW6.out, ← Hq5.out, ← Hq7.out]
  clear HW6 Hq5 Hq7 hfn
  refine wpIn_range_told (Rd := Rdy W6.heap.size es) rfl (by omega) (gf := 57) (lb := #[.pointer (some ⟨x, 0, none⟩)]) rfl trivial (enters_of Tryz.func57 (by kernel_rfl) rfl) HSEQ.out (fun h k g => k (h g)) (fun W l o hl hlt g => grown_off g (grownBy_putObj' W l o) (fun j e => by cases e; exact hl)) (Below.refl _ _) (fun _ => rfl)
    (fun pre W => W6.grownBy W (some q7) ∧ Boxed W q7 3 (.int .i64 (pre.length : Int))) (fun _ W => w.grownBy W none ∧ Boxed W (w.heap.size + 1 + 1) 4 (.bool true))
    (fun s X Y row hs hg hr => ⟨grown_off hs.1 hg (fun j e => (hr j e).1), hs.2.kept hg (fun e => by have h9 := (hr q7 e.symm).1; have h8 := HS6.out; omega)⟩)
    (fun s X Y row hs hg hr => ⟨grown_off hs.1 hg (fun j e => by have h9 := (hr j e).1; have h8 := HS6.out; omega), hs.2.kept hg (fun e => by have h9 := (hr _ e.symm).1; have h8 := HS6.out; omega)⟩)
    ⟨grown_refl _ _, HX7.out⟩
    (fun pre y a' W => ∃ q8, W6.heap.size ≤ q8 ∧ CAt W q8 y.h y.v ∧ POwn W W6.heap.size y.v y.ps ∧ (∃ e, es[pre.length]? = some e ∧ y.h = e.h ∧ y.ps = e.ps) ∧ a' = { tmps := #[.agg #[.pointer (some ⟨b, 0, none⟩), .pointer (some ⟨r, 0, none⟩)], .int .i64 stop, .pointer (some ⟨w.heap.size, 0, none⟩), .pointer (some ⟨w.heap.size + 1, 0, none⟩), .pointer (some ⟨w.heap.size + 1 + 1, 0, none⟩), .pointer (some ⟨q5, 0, none⟩), .func (.func 57) #[] #[.pointer (some ⟨x, 0, none⟩)], .pointer (some ⟨q7, 0, none⟩), .pointer (some ⟨q8, 0, none⟩), .pointer (some ⟨w.heap.size, 1, none⟩), .pointer (some ⟨r, 0, none⟩), .slice ua gs.length uc, .pointer (some ⟨w.heap.size, 0, none⟩), .pointer (some ⟨b, 0, none⟩), .func (.func 57) #[] #[.pointer (some ⟨x, 0, none⟩)], .func (.func 57) #[] #[.pointer (some ⟨x, 0, none⟩)], .bool false, .func (.func 57) #[] #[.pointer (some ⟨x, 0, none⟩)], cv y.h y.v, undef, undef, undef, undef, undef, undef, undef, undef, undef, undef, undef, undef, undef, undef, undef, undef, undef, undef, undef, undef, undef, undef, undef, undef, undef], defers := [] })
    (fun pre y a' s X Y row hs hg hr => by
      obtain ⟨q8, h8, k8, o8, he, ha⟩ := hs
      have hne : ∀ k cs t, X.heap[k]? = some (.cells cs t (0, 0)) → some k ≠ row := fun k cs t hk e => by
        obtain ⟨_, o, ho, hc⟩ := hr k e.symm
        rw [hk] at ho
        injection ho with ho
        subst ho
        cases hc
      refine ⟨q8, h8, grown_keep hg k8 (hne _ _ _ k8), ?_, he, ha⟩
      exact World.ownsRow.kept o8 hg (by
        rcases o8.2 with ⟨e, _⟩ | ⟨g, cap, cur, e, _, hh, _⟩
        · rw [e]; exact Or.inl rfl
        · rw [e]; exact Or.inr (hne _ _ _ hh)))
    ?assign ?body ?done ?stop
  case assign =>
    rintro l pre ⟨⟨m0, m1, m2, m3, m4, m5, m6, m7⟩, yv, yps⟩ W K ⟨iW, bW⟩ ⟨oW, eW⟩ _ hK
    simp only at oW eW
    obtain ⟨ya, yc, rfl⟩ := oW.at.form
    have FIN := hK _ (W.alloc (.cells (ccs ⟨m0, m1, m2, m3, m4, m5, m6, m7⟩ (.slice ya yps.length yc)) 36)) ((KeepsOthers.alloc _ _).from _) (fun g => grown_off g (World.grownBy_alloc _ _ none) (fun j e => by cases e)) ⟨grown_off iW (World.grownBy_alloc _ _ none) (fun j e => by cases e), bW.alloc _⟩ ⟨W.heap.size, iW.size, alloc_at _ _ _, oW.keep (World.grownBy_alloc _ _ none) (by simp), eW, rfl⟩
    unfold ccs cv at FIN
    unfold cv
    simp only at FIN ⊢
    clear hK oW eW iW bW
    gi_wp2
    exact FIN
  case body =>
    rintro l pre ⟨⟨m0, m1, m2, m3, m4, m5, m6, m7⟩, yv, yps⟩ a' W ⟨iW, bW⟩ ⟨q8, h8, k8, o8, ⟨e0, he0, hh0, hp0⟩, rfl⟩ hlen
    simp only at k8 o8 hh0 hp0
    obtain ⟨k, hk⟩ : ∃ k, k = pre.length := ⟨_, rfl⟩
    rw [← hk] at bW he0 hlen
    obtain ⟨f0, hf0, hfh, hfp⟩ := hp_at HES.out.symm he0
    have hkg : k < gs.length := (List.getElem?_eq_some_iff.1 hf0).1
    have RW := HRL.out.keepR iW (fun j hj e => by have h9 := HRB.out j hj; injection e with e; omega)
    obtain ⟨g1, c1, hv1, R1⟩ := RW.row (by omega)
    injection hv1 with hx1 _ hc1
    subst hx1
    subst hc1
    have C0 := R1 k f0 hf0
    have P0 := ((HRG.out f0 (List.mem_of_getElem? hf0)).keepR iW (fun j hj e => by injection e with e; omega)).1
    have h4 : f0.ps.length ≤ 4 := by rw [hfp]; exact H4.out e0 (List.mem_of_getElem? he0)
    obtain ⟨⟨n0, n1, n2, n3, n4, n5, n6, n7⟩, fv, fps⟩ := f0
    simp only at C0 P0 hfh hfp h4
    rw [← hh0] at hfh
    rw [← hp0] at hfp
    have hfh' := hfh.symm
    have hfp' := hfp.symm
    clear hfh hfp
    injection hfh' with i0 i1 i2 i3 i4 i5 i6 i7
    subst i0 i1 i2 i3 i4 i5 i6 i7 hfp'
    have Hkl : Hid (k < es.length) := hlen
    have HHp : Hid (∀ y : Ent, (pre ++ [y]).length = k + 1) := fun y => by rw [hk]; simp
    clear hh0 hp0 he0 hf0 R1 RW hk
    obtain ⟨ya, yc, rfl⟩ := o8.at.form
    obtain ⟨za, zc, rfl⟩ := P0.form
    have hsp : Small yps.length := by unfold Small; omega
    have SC := fun V (g : W.grownBy V none) => sameCard_any ⟨m0, m1, m2, m3, m4, m5, m6, m7⟩ ⟨m0, m1, m2, m3, m4, m5, m6, m7⟩ (.slice ya yps.length yc) (.slice za yps.length zc) yps yps V (o8.at.keep g) (P0.keep g) hsp
    rw [sameHd_refl, samePs_refl, Bool.and_self] at SC
    unfold cv at SC
    simp only at SC
    have HSC : Hid (∀ V, W.grownBy V none → Calls Tryz.prog 20 #[.agg #[.string m0, .int .u8 m1, .int .u8 m2, .int .i64 m3, .int .i64 m4, .int .i64 m5, .int .u16 m6, .bool m7, .slice ya yps.length yc], .agg #[.string m0, .int .u8 m1, .int .u8 m2, .int .i64 m3, .int .i64 m4, .int .i64 m5, .int .u16 m6, .bool m7, .slice za yps.length zc]] V fun e w' => e = .returned (.bool true) ∧ V.grownBy w' none) := SC
    have e7 := bW.cell
    have e5 := (HX5.out.kept iW (fun e => by injection e with e; omega)).cell
    obtain ⟨z0, z1, z2, z3, z4, z5, z6, z7, z8⟩ := C0
    obtain ⟨d0, d1, d2, d3, d4, d5, d6, d7, d8⟩ := k8.cells
    simp only at z0 z1 z2 z3 z4 z5 z6 z7 z8 d0 d1 d2 d3 d4 d5 d6 d7 d8
    have HI : Hid (W6.grownBy W (some q7) ∧ Boxed W q7 3 (.int .i64 (k : Int))) := ⟨iW, bW⟩
    have HK8 : Hid (CAt W q8 ⟨m0, m1, m2, m3, m4, m5, m6, m7⟩ (.slice ya yps.length yc)) := k8
    have HO8 : Hid (POwn W W6.heap.size (.slice ya yps.length yc) yps) := o8
    have k0 : (0 : Int) ≤ (k : Int) := by omega
    have k1 : (k : Int) < (gs.length : Int) := by omega
    have k2 : decide (gs.length ≤ k) = false := decide_eq_false (by omega)
    have hmx : Tryz.prog.follows .mixedOrders = true := by kernel_rfl
    unfold cv
    simp only
    clear SC P0 k8 o8 iW bW hkg hlen h4 hsp
    gi_wp2_with fail
    refine wpIn_mono (Q := fun e a' V => e = Exit.normal ∧ a' = { tmps := #[.agg #[.pointer (some ⟨b, 0, none⟩), .pointer (some ⟨r, 0, none⟩)], .int .i64 stop, .pointer (some ⟨w.heap.size, 0, none⟩), .pointer (some ⟨w.heap.size + 1, 0, none⟩), .pointer (some ⟨w.heap.size + 1 + 1, 0, none⟩), .pointer (some ⟨q5, 0, none⟩), .func (.func 57) #[] #[.pointer (some ⟨x, 0, none⟩)], .pointer (some ⟨q7, 0, none⟩), .pointer (some ⟨q8, 0, none⟩), .pointer (some ⟨w.heap.size, 1, none⟩), .pointer (some ⟨r, 0, none⟩), .slice (some ⟨g1, 0, none⟩) gs.length uc, .pointer (some ⟨w.heap.size, 0, none⟩), .pointer (some ⟨b, 0, none⟩), .func (.func 57) #[] #[.pointer (some ⟨x, 0, none⟩)], .func (.func 57) #[] #[.pointer (some ⟨x, 0, none⟩)], .bool false, .func (.func 57) #[] #[.pointer (some ⟨x, 0, none⟩)], .agg #[.string m0, .int .u8 m1, .int .u8 m2, .int .i64 m3, .int .i64 m4, .int .i64 m5, .int .u16 m6, .bool m7, .slice ya yps.length yc], .int .i64 (k : Int), .slice (some ⟨g1, 0, none⟩) gs.length uc, .int .i64 (gs.length : Int), .bool false, .bool false, .agg #[.string m0, .int .u8 m1, .int .u8 m2, .int .i64 m3, .int .i64 m4, .int .i64 m5, .int .u16 m6, .bool m7, .slice ya yps.length yc], .slice (some ⟨g1, 0, none⟩) gs.length uc, .int .i64 (k : Int), .pointer (some ⟨g1, k * 9, none⟩), .agg #[.string m0, .int .u8 m1, .int .u8 m2, .int .i64 m3, .int .i64 m4, .int .i64 m5, .int .u16 m6, .bool m7, .slice za yps.length zc], .bool true, .bool false, .bool false, undef, undef, undef, undef, undef, undef, undef, undef, undef, undef, undef, undef], defers := [] } ∧ W.grownBy V none) ?_ ?_
    · gi_region_with_o (refine ⟨trivial, ?_⟩; gi_at_call 20; refine (CallsIn.inRound l (callsIn_wide.2 (HSC.out _ (grown_drew _)))).mono ?_; rintro e V3 ⟨rfl, g3⟩)
      all_goals exact ⟨rfl, rfl, grown_trans (grown_drew _) g3⟩
    · rintro e a' V3 ⟨rfl, rfl, g3⟩
      have HG3 : Hid (W.grownBy V3 none) := g3
      have OV := over_own _ yps W6.heap.size V3 (HO8.out.keep g3 (by simp))
      have c8 := (HK8.out.keep g3).cells.2.2.2.2.2.2.2.2
      clear g3 z0 z1 z2 z3 z4 z5 z6 z7 z8 d0 d1 d2 d3 d4 d5 d6 d7 d8 e7 e5 k0 k1 k2 hmx
      gi_wp2_with fail
      refine ⟨trivial, ?_⟩
      refine (CallsIn.inRound l (callsIn_wide.2 OV)).mono ?_
      rintro e V4 ⟨⟨v4, rfl⟩, rr, g4, h4⟩
      have KO : KeepsOthers W V4 := (KeepsOthers.of_grownBy HG3.out (fun j o e _ => by cases e)).trans (KeepsOthers.of_grownBy g4 (fun j o e ho => by
        have h9 := (h4 j e).2
        rcases (HO8.out.keep HG3.out (by simp)).2 with ⟨e', _⟩ | ⟨g, cap, cur, e', _, hh, _⟩
        · rw [e'] at h9; cases h9
        · rw [e'] at h9
          injection h9 with h9
          have h9' : g = j := h9
          rw [← h9', hh] at ho
          injection ho with ho
          rw [← ho]
          rfl))
      have I4 : W6.grownBy V4 (some q7) := grown_off (grown_off HI.out.1 HG3.out (fun j e => by cases e)) g4 (fun j e => (h4 j e).1)
      have n4 : ∀ m, m ≤ q7 → some m ≠ rr := fun m hm e => by have h9 := (h4 m e.symm).1; have h8 := HS6.out; omega
      have b7 : Boxed V4 q7 3 (.int .i64 (k : Int)) := (HI.out.2.kept HG3.out (by simp)).kept g4 (n4 q7 (Nat.le_refl _))
      have b3 : Boxed V4 (w.heap.size + 1) 3 (.int .i64 stop) := HX3.out.kept I4 (fun e => by injection e with e; omega)
      have b4 : Boxed V4 (w.heap.size + 1 + 1) 4 (.bool false) := HX4.out.kept I4 (fun e => by injection e with e; omega)
      have e7 := b7.cell
      have f7 := b7.frozen
      have HB3 : Hid (Boxed V4 (w.heap.size + 1) 3 (.int .i64 stop)) := b3
      have HB4 : Hid (Boxed V4 (w.heap.size + 1 + 1) 4 (.bool false)) := b4
      have HB7 : Hid (Boxed V4 q7 3 (.int .i64 (k : Int))) := b7
      have HKO : Hid (KeepsOthers W V4) := KO
      have HI4 : Hid (W6.grownBy V4 (some q7)) := I4
      clear OV c8 g4 h4 KO I4 n4 b7 b3 b4
      have b7' := HB7.out.set (.int .i64 (wrap64 ((k : Int) + 1)))
      have e7' := b7'.cell
      have b3' := HB3.out.kept (grown_set V4 q7 0 (.int .i64 (wrap64 ((k : Int) + 1)))) (fun e => by injection e with e; omega)
      have b4' := HB4.out.kept (grown_set V4 q7 0 (.int .i64 (wrap64 ((k : Int) + 1)))) (fun e => by injection e with e; omega)
      have e3' := b3'.cell
      have e4' := b4'.cell
      have f4' := b4'.frozen
      have HB7' : Hid (Boxed (V4.setCell ⟨q7, 0, none⟩ (.int .i64 (wrap64 ((k : Int) + 1)))) q7 3 (.int .i64 (wrap64 ((k : Int) + 1)))) := b7'
      have HB4' : Hid (Boxed (V4.setCell ⟨q7, 0, none⟩ (.int .i64 (wrap64 ((k : Int) + 1)))) (w.heap.size + 1 + 1) 4 (.bool false)) := b4'
      clear b7' b3' b4'
      by_cases hq : wrap64 ((k : Int) + 1) = stop
      · have hq' : (wrap64 ((k : Int) + 1) == stop) = true := by simpa using hq
        clear hq
        gi_wp2
        have hK5 : KeepsOthers W ((V4.setCell ⟨q7, 0, none⟩ (.int .i64 (wrap64 ((k : Int) + 1)))).setCell ⟨w.heap.size + 1 + 1, 0, none⟩ (.bool true)) := (HKO.out.trans (KeepsOthers.setCell _ _ _)).trans (KeepsOthers.setCell _ _ _)
        exact ⟨hK5.from _, grown_own (grown_own (grown_own HWG.out HI4.out (fun j e => by cases e; omega)) (grown_set V4 q7 0 _) (fun j e => by cases e; omega)) (grown_set _ (w.heap.size + 1 + 1) 0 _) (fun j e => by cases e; omega), HB4'.out.set _⟩
      · have hq' : (wrap64 ((k : Int) + 1) == stop) = false := by simpa using hq
        clear hq
        gi_wp2
        have hw1 : wrap64 ((k : Int) + 1) = (k : Int) + 1 := w64s _ (by omega) (by have h9 := H64.out; have h8 := Hkl.out; omega)
        have hK5 : KeepsOthers W (V4.setCell ⟨q7, 0, none⟩ (.int .i64 (wrap64 ((k : Int) + 1)))) := HKO.out.trans (KeepsOthers.setCell _ _ _)
        have I5 : W6.grownBy (V4.setCell ⟨q7, 0, none⟩ (.int .i64 (wrap64 ((k : Int) + 1)))) (some q7) := grown_trans HI4.out (grown_set V4 q7 0 _)
        refine ⟨hK5.from _, fun _ => I5, I5, ?_⟩
        have hB := HB7'.out
        rw [hw1] at hB
        rw [HHp.out, hw1]
        exact hB
  case done =>
    rintro D ys W hD hS ⟨iW, bW⟩ hK
    have hl : ys.length = gs.length := by have h9 := congrArg List.length (hS.trans HES.out.symm); simpa using h9
    rw [hl] at bW
    have e7 := bW.cell
    have e5 := (HX5.out.kept iW (fun e => by injection e with e; omega)).cell
    have b4 := HX4.out.kept iW (fun e => by injection e with e; omega)
    have e4 := b4.cell
    have f4 := b4.frozen
    have b4' := b4.set (.bool true)
    have hK' : (W.setCell ⟨w.heap.size + 1 + 1, 0, none⟩ (.bool true)).heap[D]? = some (.deferred (some [])) := (KeepsOthers.setCell W _ _).same D _ hK rfl
    have GF : w.grownBy (W.setCell ⟨w.heap.size + 1 + 1, 0, none⟩ (.bool true)) none := grown_own (grown_own HWG.out iW (fun j e => by cases e; omega)) (grown_set W _ 0 _) (fun j e => by cases e; omega)
    have HGF : Hid (w.grownBy (W.setCell ⟨w.heap.size + 1 + 1, 0, none⟩ (.bool true)) none) := GF
    have HB4 : Hid (Boxed (W.setCell ⟨w.heap.size + 1 + 1, 0, none⟩ (.bool true)) (w.heap.size + 1 + 1) 4 (.bool true)) := b4'
    clear GF b4 b4' bW hS hl
    gi_wp2
    refine ⟨by simp, .inl ⟨_, _, rfl, run_takeDeferred hK', ?_⟩⟩
    have hD1 : w.heap.size + 3 ≤ D := by have h9 := HS6.out; omega
    have c4 := (HB4.out.kept (grownBy_putObj' _ D (.deferred none)) (fun e => by injection e with e; omega)).cell
    refine ⟨.bool true, (by simp only [results, Tryz.results7]; simp [go_sem, c4]), rfl, ?_⟩
    exact grown_own HGF.out (grownBy_putObj' _ D _) (fun j e => by cases e; omega)
  case stop =>
    rintro D pre W hD _ ⟨iW, bW⟩ hK
    have HGF : Hid (w.grownBy W none) := iW
    have HB4 : Hid (Boxed W (w.heap.size + 1 + 1) 4 (.bool true)) := bW
    gi_wp2
    refine ⟨by simp, .inl ⟨_, _, rfl, run_takeDeferred hK, ?_⟩⟩
    have hD1 : w.heap.size + 3 ≤ D := by have h9 := HS6.out; omega
    have c4 := (HB4.out.kept (grownBy_putObj' _ D (.deferred none)) (fun e => by injection e with e; omega)).cell
    refine ⟨.bool true, (by simp only [results, Tryz.results7]; simp [go_sem, c4]), rfl, ?_⟩
    exact grown_own HGF.out (grownBy_putObj' _ D _) (fun j e => by cases e; omega)
end Go.Proofs.YtiikbhejnblhlaaGreat
