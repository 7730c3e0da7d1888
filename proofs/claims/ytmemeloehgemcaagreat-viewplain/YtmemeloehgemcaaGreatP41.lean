/-
  View: what of a layer was about a thing.
  View: Why.
  View's laws: the book and things of the chapter's examples.
-/
import Derived.Test.YtmemeloehgemcaaGreatP40
import Derived.Test.YtmemeloehgemcaaGreatP37
namespace Go.Proofs.YtmemeloehgemcaaGreat
open Go.RowKit Go.Shelf

structure AbT (w wr : World) (n0 n1 : Nat) (bp : Option Addr) (vt vp va vb vc : Value) (B : Nat) (v7 v8 : Value) (X : List Fe) (P : List Sd) : Prop where
  sb : ScB wr n0 bp vt vp
  fb : FlB wr n1 va vb vc
  li : DOwn wr B v7 P
  fe : FOwn wr 0 v8 X
  gr : w.grownBy wr none
theorem AbT.keep {w wr wr' : World} {n0 n1 : Nat} {bp : Option Addr} {vt vp va vb vc : Value} {B : Nat} {v7 v8 : Value} {X : List Fe} {P : List Sd} (h : AbT w wr n0 n1 bp vt vp va vb vc B v7 v8 X P) (g : wr.grownBy wr' none) : AbT w wr' n0 n1 bp vt vp va vb vc B v7 v8 X P := ⟨grown_keep g h.sb (by simp), grown_keep g h.fb (by simp), own_grow h.li g, own_grow h.fe g, grown_trans h.gr g⟩
theorem AbT.more {w wr wr' : World} {n0 n1 : Nat} {bp : Option Addr} {vt vp va vb vc : Value} {B : Nat} {v7 v8 v9 : Value} {X : List Fe} {P Q : List Sd} (h : AbT w wr n0 n1 bp vt vp va vb vc B v7 v8 X P) (g : wr.grownBy wr' v7.ownBlock) (hB : w.heap.size ≤ B) (o : DOwn wr' B v9 Q) : AbT w wr' n0 n1 bp vt vp va vb vc B v9 v8 X Q := ⟨grown_keep g h.sb (own_tag h.li h.sb (by decide)), grown_keep g h.fb (own_tag h.li h.fb (by decide)), o, own_other h.fe h.li (by decide) g, grown_own h.gr g (fun x e => Nat.le_trans hB (World.ownsRow.lt h.li x e).1)⟩
theorem AbT.turn {w wr wr' : World} {n0 n1 : Nat} {bp : Option Addr} {vt vp va vb vc : Value} {B B' : Nat} {v7 v8 v9 : Value} {X Y : List Fe} {P : List Sd} (h : AbT w wr n0 n1 bp vt vp va vb vc B v7 v8 X P) (g : wr.grownBy wr' none) (o : FOwn wr' B' v9 Y) : AbT w wr' n0 n1 bp vt vp va vb vc B v7 v9 Y P := ⟨grown_keep g h.sb (by simp), grown_keep g h.fb (by simp), own_grow h.li g, own_big o (Nat.zero_le _), grown_trans h.gr g⟩
theorem onc_at {m : Int} {cd : Int → Hd × List Pt} {ts : List Th} {G : List Fe} {R : List Rw} {k : Int} {X : List Fe} {L acc : List Se} {j : Nat} (h : Onc m cd ts G R k X L acc) (ha : acc.length = j) (hj : j < (allR R G k).2.length) : (allR R G k).2.getD j Se.none ∈ effL R (pickF R G) k ∧ ∃ L' acc', Onc m cd ts G R k (amgL X R (applyL R (pickF R X) ((allR R G k).2.getD j Se.none))) L' acc' ∧ acc'.length = j + 1 := by
  have h0 : 0 < L.length := by
    obtain ⟨B, e1, hB⟩ := allL_pre R _ (pickF R X) L acc rfl
    rw [h.all, e1, List.length_append] at hj
    omega
  have hn := h.now h0
  rw [ha] at hn
  rw [hn]
  refine ⟨h.mem _ (by rw [getD_in (h.lt h0)]; exact List.getElem_mem _), _, _, h.step h0, ?_⟩
  rw [List.length_append, List.length_singleton, ha]
theorem why_step {R : List Rw} {x : Int} {X : List Fe} {E : List Se} {j : Nat} {P Q : List Sd} {e : Se} {b : Bool} (hj : j < E.length) (he : e = E.getD j Se.none) (h : P ++ (whyL R x X (E.drop j)).map Se.s = Q) (hb : b = decide (x ∈ numL R (aboutL R (pickF R X) e))) : (if b then P ++ [e.s] else P) ++ (whyL R x (amgL X R (applyL R (pickF R X) e)) (E.drop (j + 1))).map Se.s = Q := by
  rw [why_at hj, ← he] at h
  rw [← h, hb]
  by_cases q : x ∈ numL R (aboutL R (pickF R X) e)
  · rw [if_pos q, decide_eq_true q]
    simp
  · rw [if_neg q, decide_eq_false q]
    simp
theorem sd_one_more {w : World} {base : Nat} {v : Value} {P : List Sd} {s : Sd} (h : w.ownsRow base 49 10 v (P.length + 1) (sdR.cs P ++ sdc s)) : DOwn w base v (P ++ [s]) := RecT.more h rfl
set_option maxRecDepth 100000 in
set_option maxHeartbeats 4000000 in
theorem vabout_any (bp pt pp pg pa pc : Option Addr) (ct np cp cg na ca nc cc : Nat) (r n : Int) (cd : Int → Hd × List Pt) (ts : List Th) (pf : Th → Fe) (mf : Fe → Th → Fe) (me : Th → Int) (x k : Int) (G : List Fe) (R : List Rw) (BG BE : Nat) (w : World) (I : VIn w (.pointer bp) (.slice pt ts.length ct) r n cd ts pf mf me) (hT : Tab n cd ts G R) (hr : r = 0) (OG : FOwn w BG (.slice pg G.length cg) G) (OE : DOwn w BE (.slice pa na ca) ((allR R G k).2.map Se.s)) : Calls Tryz.prog 73 #[.agg #[.pointer bp, .slice pt ts.length ct, .slice pp np cp], .int .i64 x, .agg #[.slice pg G.length cg, .slice pa na ca, .slice pc nc cc]] w fun e w' => ∃ v, e = .returned v ∧ DOwn w' w.heap.size v ((whyL R x G (allR R G k).2).map Se.s) ∧ w.grownBy w' none := by
  subst hr
  have hE64 : (allR R G k).2.length ≤ 64 := by rw [allR_len]; exact hT.effs (I.few4 rfl) _ _
  obtain ⟨E, hE⟩ : ∃ E, E = (allR R G k).2 := ⟨_, rfl⟩
  have HE : Hid (E = (allR R G k).2 ∧ E.length ≤ 64) := ⟨hE, by rw [hE]; exact hE64⟩
  rw [← hE] at OE ⊢
  have hna : na = E.length := by obtain ⟨a, b, e⟩ := RecT.Own.form OE; injection e with _ e _; rw [e, List.length_map]
  subst hna
  obtain ⟨i0, hi, hz0, hz1, hz2⟩ := info_parts Tryz.linfoD
  obtain ⟨W1, hW1⟩ : ∃ W1, W1 = (w.alloc (.cells #[.pointer bp, .slice pt ts.length ct, .slice pp np cp] 144)).alloc (.cells #[.slice pg G.length cg, .slice pa E.length ca, .slice pc nc cc] 150) := ⟨_, rfl⟩
  have HG1 : Hid (w.grownBy W1 none) := by rw [hW1]; exact grown_push (World.grownBy_alloc _ _ none) _
  have HS1 : Hid (ScB W1 w.heap.size bp (.slice pt ts.length ct) (.slice pp np cp)) := by rw [hW1]; exact alloc_two _ _ _ _ _
  have HF1 : Hid (FlB W1 (w.heap.size + 1) (.slice pg G.length cg) (.slice pa E.length ca) (.slice pc nc cc)) := by rw [hW1]; exact alloc2_b _ _ _ _
  have HI : Hid (VIn w (.pointer bp) (.slice pt ts.length ct) 0 n cd ts pf mf me) := I
  have HT : Hid (Tab n cd ts G R) := hT
  have HOG : Hid (FOwn w BG (.slice pg G.length cg) G) := OG
  have HOE : Hid (sdR.At w (.slice pa E.length ca) (E.map Se.s)) := RecT.Own.at OE
  obtain ⟨Q, hQ⟩ : ∃ Q, Q = (whyL R x G E).map Se.s := ⟨_, rfl⟩
  have HQ : Hid (Q = (whyL R x G E).map Se.s) := hQ
  rw [← hQ]
  clear I hT OG OE hE hE64 hQ
  go_enter Tryz.func73, Tryz.ntmps73
  go_upto_region 1 with fail
  rw [← hW1]
  clear hW1
  obtain ⟨n0, hn0⟩ : ∃ n0, n0 = w.heap.size := ⟨_, rfl⟩
  obtain ⟨n1, hn1⟩ : ∃ n1, n1 = n0 + 1 := ⟨_, rfl⟩
  simp only [← hn0, ← hn1] at HS1 HF1 ⊢
  clear hn0 hn1
  obtain ⟨f0, f1, f2⟩ := fl_box HF1.out
  go_wp2_with fail
  clear f0 f1 f2
  go_loopw [7, 8, 10, 11, 12, 18] (fun x7 x8 _ _ _ y wr => ∃ (j : Nat) (pL : Option Addr) (nL cL : Nat) (pF : Option Addr) (cF : Nat) (P : List Sd) (X : List Fe), j ≤ E.length ∧ y = .int .i64 (j : Int) ∧ x7 = .slice pL nL cL ∧ x8 = .slice pF G.length cF ∧ Hid (AbT w wr n0 n1 bp (.slice pt ts.length ct) (.slice pp np cp) (.slice pg G.length cg) (.slice pa E.length ca) (.slice pc nc cc) w.heap.size (.slice pL nL cL) (.slice pF G.length cF) X P) ∧ Hid (∃ L acc, Onc n cd ts G R k X L acc ∧ acc.length = j) ∧ Hid (P ++ (whyL R x X (E.drop j)).map Se.s = Q ∧ P.length ≤ j)) (fun _ _ _ _ _ y _ => E.length - (intOf y).toNat)
  case atStart => exact ⟨0, none, 0, 0, pg, cg, [], G, Nat.zero_le _, rfl, rfl, rfl, ⟨HS1.out, HF1.out, RecT.Own.nil _ _ _ _, own_grow (own_big HOG.out (Nat.zero_le _)) HG1.out, HG1.out⟩, ⟨_, _, Onc.start HT.out, rfl⟩, HQ.out.symm, Nat.le_refl _⟩
  case round =>
    obtain ⟨j, pL, nL, cL, pF, cF, P, X, hj, rfl, rfl, rfl, HA, HO, HP⟩ := hrel
    obtain ⟨U, hU⟩ : ∃ U, U = wr := ⟨_, rfl⟩
    subst hU
    by_cases hlt : j < E.length
    · obtain ⟨L, acc, hOn, hac⟩ := HO.out
      have hon := onc_at hOn hac (by rw [← HE.out.1]; exact hlt)
      rw [← HE.out.1] at hon
      obtain ⟨e, he⟩ : ∃ e, e = E.getD j Se.none := ⟨_, rfl⟩
      rw [← he] at hon
      have HOn : Hid (Tab n cd ts X R ∧ e ∈ effL R (pickF R G) k ∧ ∃ L' acc', Onc n cd ts G R k (amgL X R (applyL R (pickF R X) e)) L' acc' ∧ acc'.length = j + 1) := ⟨hOn.tab, hon.1, hon.2⟩
      have HXl : Hid (X.length = G.length) := hOn.len
      obtain ⟨gE, oE, cE, eE, hRE⟩ := es_there (HOE.out.keep HA.out.gr) hlt
      cases eE
      rw [← he] at hRE
      obtain ⟨x0, x1, x2, x3, x4, x5, x6, x7, x8, x9⟩ := sd_cells hRE
      obtain ⟨Y, hY⟩ : ∃ Y, Y = U.alloc (.cells #[.int .i64 e.s.th, .int .i64 e.s.pl, .int .u8 e.s.wh.wn, .int .u8 e.s.wh.vb, .int .u8 e.s.wh.wm, .int .i64 e.s.wh.ct, .int .u8 e.s.wh.su, .int .u8 e.s.wh.tr, .int .u8 e.s.wh.mr, .string e.s.wh.nm] 49) := ⟨_, rfl⟩
      have HGY : Hid (U.grownBy Y none) := by rw [hY]; exact World.grownBy_alloc _ _ none
      have HB : Hid (SdB Y U.heap.size e.s) := by rw [hY]; exact alloc_at _ _ _
      have HAY : Hid (AbT w Y n0 n1 bp (.slice pt ts.length ct) (.slice pp np cp) (.slice pg G.length cg) (.slice (some ⟨gE, oE, none⟩) E.length ca) (.slice pc nc cc) w.heap.size (.slice pL nL cL) (.slice pF G.length cF) X P) := HA.out.keep HGY.out
      have HNb : Hid (some U.heap.size ≠ (Value.slice pL nL cL).ownBlock) := fun q => Nat.lt_irrefl _ (World.ownsRow.lt HA.out.li _ q.symm).2
      have hlt' : (j : Int) < E.length := Int.ofNat_lt.2 hlt
      have hwk := wrap_next (k := j) (by have := HE.out.2; omega)
      have Hlt : Hid (j < E.length ∧ e = E.getD j Se.none) := ⟨hlt, he⟩
      have HM : Hid (E.length - (intOf (.int .i64 ((j : Int) + 1))).toNat < E.length - (intOf (.int .i64 (j : Int))).toNat) := meas_k hlt
      clear hlt hj hRE he hon hOn hac HO HA L acc
      go_upto_region 6 with fail
      rw [← hY]
      clear hY x0 x1 x2 x3 x4 x5 x6 x7 x8 x9
      obtain ⟨nb, hnb⟩ : ∃ nb, nb = U.heap.size := ⟨_, rfl⟩
      rw [← hnb] at HB HNb ⊢
      clear hnb
      obtain ⟨s0, s1, s2⟩ := sc_box HAY.out.sb
      obtain ⟨x0, x1, x2, x3, x4, x5, x6, x7, x8, x9⟩ := sd_box HB.out
      have C6 := lAbout_any _ _ (.slice pF G.length cF) 0 n cd ts X e.s Y (HI.out.li Y _ X HAY.out.gr (RecT.Own.at HAY.out.fe) (by rw [← HOn.out.1.len]; exact Nat.le_trans (HI.out.few rfl) (by decide)))
      unfold sdv at C6
      go_wp2_with fail
      refine (C6.mono fun e' w' z => HOn.out.1.abt HOn.out.2.1 z).mono ?_
      rintro e6 w6 ⟨p6, c6, rfl, g6, o6⟩
      obtain ⟨l, hl⟩ : ∃ l, l = numL R (aboutL R (pickF R X) e) := ⟨_, rfl⟩
      rw [← hl] at o6 ⊢
      have hl16 : l.length ≤ 16 := by rw [hl]; exact Nat.le_trans (numU_len _ _ _) HOn.out.1.few
      have C7 := vcontains_any (.slice p6 l.length c6) Y.heap.size l x w6 o6 (by omega)
      obtain ⟨b, hb⟩ : ∃ b, b = decide (x ∈ l) := ⟨_, rfl⟩
      rw [← hb] at C7
      have HSt : Hid ((if b then P ++ [e.s] else P) ++ (whyL R x (amgL X R (applyL R (pickF R X) e)) (E.drop (j + 1))).map Se.s = Q) := why_step Hlt.out.1 Hlt.out.2 HP.out.1 (by rw [hb, hl])
      have HA6 : Hid (AbT w w6 n0 n1 bp (.slice pt ts.length ct) (.slice pp np cp) (.slice pg G.length cg) (.slice (some ⟨gE, oE, none⟩) E.length ca) (.slice pc nc cc) w.heap.size (.slice pL nL cL) (.slice pF G.length cF) X P) := HAY.out.keep g6
      have HB6 : Hid (SdB w6 nb e.s) := grown_keep g6 HB.out (by simp)
      clear C6 g6 o6 hl hl16 hb s0 s1 s2 x0 x1 x2 x3 x4 x5 x6 x7 x8 x9 HAY HB
      go_wp2_with fail
      refine C7.mono ?_
      rintro e7 w7 ⟨rfl, ew7⟩
      rw [ew7]
      clear ew7 w7 C7
      cases b with
      | false =>
        have HSn : Hid (P ++ (whyL R x (amgL X R (applyL R (pickF R X) e)) (E.drop (j + 1))).map Se.s = Q ∧ P.length ≤ j + 1) := ⟨HSt.out, Nat.le_succ_of_le HP.out.2⟩
        go_upto_region 9 with fail
        have C9 := lApply_any _ _ (.slice pF G.length cF) 0 n cd ts X e.s w6 (HI.out.li w6 _ X HA6.out.gr (RecT.Own.at HA6.out.fe) (by rw [← HOn.out.1.len]; exact Nat.le_trans (HI.out.few rfl) (by decide)))
        unfold sdv at C9
        obtain ⟨s0, s1, s2⟩ := sc_box HA6.out.sb
        obtain ⟨x0, x1, x2, x3, x4, x5, x6, x7, x8, x9⟩ := sd_box HB6.out
        go_wp2_with fail
        refine (C9.mono fun e' w' z => HOn.out.1.app HOn.out.2.1 z).mono ?_
        rintro e9 w9 ⟨p9, c9, rfl, g9, o9⟩
        have hlm : (amgL X R (applyL R (pickF R X) e)).length = G.length := by rw [amgL_len]; exact HXl.out
        rw [hlm] at o9 ⊢
        have HA9 : Hid (AbT w w9 n0 n1 bp (.slice pt ts.length ct) (.slice pp np cp) (.slice pg G.length cg) (.slice (some ⟨gE, oE, none⟩) E.length ca) (.slice pc nc cc) w.heap.size (.slice pL nL cL) (.slice p9 G.length c9) (amgL X R (applyL R (pickF R X) e)) P) := HA6.out.turn g9 o9
        clear C9 g9 o9 hlm s0 s1 s2 x0 x1 x2 x3 x4 x5 x6 x7 x8 x9
        go_wp2_with fail
        go_roundw
        case rel => exact ⟨j + 1, pL, nL, cL, p9, c9, P, amgL X R (applyL R (pickF R X) e), Hlt.out.1, by first | rfl | (rw [hwk]; rfl) | go_num, rfl, rfl, HA9, HOn.out.2.2, HSn.out⟩
        case measure => first | exact HM.out | (rw [hwk]; exact HM.out)
      | true =>
        have HSn : Hid ((P ++ [e.s]) ++ (whyL R x (amgL X R (applyL R (pickF R X) e)) (E.drop (j + 1))).map Se.s = Q ∧ (P ++ [e.s]).length ≤ j + 1) := ⟨HSt.out, by rw [List.length_append, List.length_singleton]; exact Nat.succ_le_succ HP.out.2⟩
        have HLn : Hid (P.length + 1 ≤ maxLen ∧ (P.length + 1) * 56 ≤ 140737488355328) := len_smallD (by have := HP.out.2; have := HE.out.2; have := Hlt.out.1; omega)
        obtain ⟨x0, x1, x2, x3, x4, x5, x6, x7, x8, x9⟩ := sd_box HB6.out
        go_upto_region 9 with (at_builtin; refine lwpl_app (by rfl) (.tmp 35) (.tmp 37) 36 rfl w.heap.size 49 i0 _ 10 56 Tryz.underlying36 hi hz0 hz1 hz2 rfl (by decide) _ P.length (sdR.cs P) rfl (World.ownsRow.alloc HA6.out.li _) _ 1 (sdc e.s) rfl (sd_src w6 e.s) (sdc_ones _) HLn.out.1 HLn.out.2 (by rw [World.size_alloc]; exact Nat.le_succ_of_le HA6.out.gr.size) ?_; intro v8 w8 o8 g8 _; have HO8 : Hid _ := o8; have HG8 : Hid _ := g8; clear o8 g8)
        clear x0 x1 x2 x3 x4 x5 x6 x7 x8 x9
        have HO8' : Hid (w8.ownsRow w.heap.size 49 10 v8 (P.length + 1) (sdR.cs P ++ sdc e.s)) := HO8.out
        obtain ⟨p8, c8, ev8, -⟩ := own_slice HO8'.out
        subst ev8
        have HA7 := HA6.out.keep (World.grownBy_alloc w6 (.cells (sdc e.s).toArray 49) none)
        have HA8 : Hid (AbT w w8 n0 n1 bp (.slice pt ts.length ct) (.slice pp np cp) (.slice pg G.length cg) (.slice (some ⟨gE, oE, none⟩) E.length ca) (.slice pc nc cc) w.heap.size (.slice p8 (P.length + 1) c8) (.slice pF G.length cF) X (P ++ [e.s])) := HA7.more HG8.out (Nat.le_refl _) (sd_one_more HO8'.out)
        have HB8 : Hid (SdB w8 nb e.s) := grown_keep HG8.out (grown_keep (World.grownBy_alloc w6 (.cells (sdc e.s).toArray 49) none) HB6.out (by simp)) HNb.out
        clear HA7 HO8 HG8 HO8' HA6 HB6
        have C9 := lApply_any _ _ (.slice pF G.length cF) 0 n cd ts X e.s w8 (HI.out.li w8 _ X HA8.out.gr (RecT.Own.at HA8.out.fe) (by rw [← HOn.out.1.len]; exact Nat.le_trans (HI.out.few rfl) (by decide)))
        unfold sdv at C9
        obtain ⟨s0, s1, s2⟩ := sc_box HA8.out.sb
        obtain ⟨x0, x1, x2, x3, x4, x5, x6, x7, x8, x9⟩ := sd_box HB8.out
        go_wp2_with fail
        refine (C9.mono fun e' w' z => HOn.out.1.app HOn.out.2.1 z).mono ?_
        rintro e9 w9 ⟨p9, c9, rfl, g9, o9⟩
        have hlm : (amgL X R (applyL R (pickF R X) e)).length = G.length := by rw [amgL_len]; exact HXl.out
        rw [hlm] at o9 ⊢
        have HA9 : Hid (AbT w w9 n0 n1 bp (.slice pt ts.length ct) (.slice pp np cp) (.slice pg G.length cg) (.slice (some ⟨gE, oE, none⟩) E.length ca) (.slice pc nc cc) w.heap.size (.slice p8 (P.length + 1) c8) (.slice p9 G.length c9) (amgL X R (applyL R (pickF R X) e)) (P ++ [e.s])) := HA8.out.turn g9 o9
        clear C9 g9 o9 hlm s0 s1 s2 x0 x1 x2 x3 x4 x5 x6 x7 x8 x9
        go_wp2_with fail
        go_roundw
        case rel => exact ⟨j + 1, p8, (P.length + 1), c8, p9, c9, (P ++ [e.s]), amgL X R (applyL R (pickF R X) e), Hlt.out.1, by first | rfl | (rw [hwk]; rfl) | go_num, rfl, rfl, HA9, HOn.out.2.2, HSn.out⟩
        case measure => first | exact HM.out | (rw [hwk]; exact HM.out)
    · obtain rfl : j = E.length := Nat.le_antisymm hj (Nat.le_of_not_lt hlt)
      have HX : Hid (DOwn U w.heap.size (.slice pL nL cL) Q ∧ w.grownBy U none) := ⟨by rw [← HP.out.1, List.drop_length]; show DOwn _ _ _ (P ++ []); rw [List.append_nil]; exact HA.out.li, HA.out.gr⟩
      clear hj hlt
      go_wp2_with fail
      go_ret
      exact ⟨_, rfl, HX.out⟩
end Go.Proofs.YtmemeloehgemcaaGreat
namespace Go.Proofs.YtmemeloehgemcaaGreat
open Go.RowKit Go.Shelf

theorem vWh_is {r n : Int} {cd : Int → Hd × List Pt} {ts : List Th} {pf : Th → Fe} {me : Th → Int} {x : Int} {R : List Rw} (h : vkE r n cd ts (prtF pf (ts.take 2048)) me = 0) (hx : onT ts x = true) (hT : Tab n cd ts (prtF pf ts) R) : vWh r n cd ts pf me x = whU R x (prtF pf ts) 5 := by
  unfold vWh
  rw [h, hx, if_pos vqE_ok, hT.tab]
theorem vWh_no {r n : Int} {cd : Int → Hd × List Pt} {ts : List Th} {pf : Th → Fe} {me : Th → Int} {x : Int} (h : vqE (vkE r n cd ts (prtF pf (ts.take 2048)) me) (onT ts x) 6 ≠ 0) : vWh r n cd ts pf me x = [] := if_neg h
def WhPost (w : World) (r n : Int) (cd : Int → Hd × List Pt) (ts : List Th) (pf : Th → Fe) (me : Th → Int) (x : Int) (e : Ending) (w' : World) : Prop := ∃ v, e = .returned (.tuple #[v, .int .i64 (vqE (vkE r n cd ts (prtF pf (ts.take 2048)) me) (onT ts x) 6)]) ∧ w.grownBy w' none ∧ DOwn w' w.heap.size v ((vWh r n cd ts pf me x).map Se.s)
theorem WhPost.no {w w' : World} {r n : Int} {cd : Int → Hd × List Pt} {ts : List Th} {pf : Th → Fe} {me : Th → Int} {x y : Int} (h : vqE (vkE r n cd ts (prtF pf (ts.take 2048)) me) (onT ts x) 6 = y) (hy : y ≠ 0) (g : w.grownBy w' none) : WhPost w r n cd ts pf me x (.returned (.tuple #[.slice none 0 0, .int .i64 y])) w' := ⟨_, by rw [h], g, by rw [vWh_no (by rw [h]; exact hy)]; exact RecT.Own.nil _ _ _ _⟩
theorem wh_few {n : Int} {cd : Int → Hd × List Pt} {ts : List Th} {fs : List Fe} {R : List Rw} (h : Tab n cd ts fs R) (hc : ∀ c, (cd c).2.length ≤ 4) (x : Int) (k : Nat) : (whU R x fs k).length ≤ 64 * k := Nat.le_trans (whU_sub R x fs k).length_le (st_few h hc k)
theorem why_few {n : Int} {cd : Int → Hd × List Pt} {ts : List Th} {fs : List Fe} {R : List Rw} (h : Tab n cd ts fs R) (hc : ∀ c, (cd c).2.length ≤ 4) (x : Int) (k : Nat) : (whyL R x (clF R fs k) (apK R fs k)).length ≤ 64 := Nat.le_trans (why_sub R x _ _).length_le (ap_few h hc k)
set_option maxRecDepth 100000 in
set_option maxHeartbeats 4000000 in
theorem vwhy_any (bp : Option Addr) (vt : Value) (r n : Int) (cd : Int → Hd × List Pt) (ts : List Th) (pf : Th → Fe) (mf : Fe → Th → Fe) (me : Th → Int) (x : Int) (w : World) (I : VIn w (.pointer bp) vt r n cd ts pf mf me) : Calls Tryz.prog 28 #[.pointer bp, vt, .int .i64 x] w (WhPost w r n cd ts pf me x) := by
  have HLk := vlook_any bp vt r n cd ts pf mf me w I
  unfold VkPost at HLk
  obtain ⟨pt, ct, rfl, hcap⟩ := I.cap
  have HI : Hid (VIn w (.pointer bp) (.slice pt ts.length ct) r n cd ts pf mf me) := I
  clear I hcap
  go_enter Tryz.func28, Tryz.ntmps28
  go_wp2_with fail
  refine HLk.mono ?_
  rintro e2 w2 ⟨bq, p1, m1, c1, p2, m2, c2, rfl, g2, h2⟩
  obtain ⟨q, hq⟩ : ∃ q, q = vkE r n cd ts (prtF pf (ts.take 2048)) me := ⟨_, rfl⟩
  rw [← hq] at h2 ⊢
  have Hq : Hid (q = vkE r n cd ts (prtF pf (ts.take 2048)) me) := hq
  clear HLk hq
  obtain ⟨W3, hW3⟩ : ∃ W3, W3 = w2.alloc (.cells #[.pointer bq, .slice p1 m1 c1, .slice p2 m2 c2] 144) := ⟨_, rfl⟩
  have HG3 : Hid (w.grownBy W3 none) := by rw [hW3]; exact grown_push g2 _
  have HS3 : Hid (ScB W3 w2.heap.size bq (.slice p1 m1 c1) (.slice p2 m2 c2)) := by rw [hW3]; exact alloc_at _ _ _
  have H2 : Hid (q = 0 → bq = bp ∧ Value.slice pt ts.length ct = .slice p1 m1 c1 ∧ FOwn W3 w.heap.size (.slice p2 m2 c2) (prtF pf ts)) := fun z => by
    obtain ⟨a, b, c⟩ := h2 z
    exact ⟨a, b, own_grow c (by rw [hW3]; exact World.grownBy_alloc _ _ none)⟩
  clear g2 h2
  go_upto_region 2 with fail
  rw [← hW3]
  clear hW3
  obtain ⟨ns, hns⟩ : ∃ ns, ns = w2.heap.size := ⟨_, rfl⟩
  simp only [← hns] at HS3 ⊢
  clear hns
  by_cases hq0 : q = 0
  · have e1 : (q != 0) = false := by simpa using hq0
    have hv0 : vkE r n cd ts (prtF pf (ts.take 2048)) me = 0 := Hq.out.symm.trans hq0
    obtain ⟨hr0, ⟨R, hR⟩, -⟩ := vkE_of hv0
    have hts : ts.length ≤ 2048 := HI.out.few hr0
    rw [List.take_of_length_le hts] at hR
    obtain ⟨eb, ev, hO⟩ := H2.out hq0
    subst eb
    injection ev with ev1 ev2 ev3
    subst ev1
    subst ev3
    rw [← ev2] at HS3 ⊢
    obtain ⟨L, hL⟩ : ∃ L, L = ts.length := ⟨_, rfl⟩
    have hm2 : m2 = ts.length := by obtain ⟨a, b, e⟩ := RecT.Own.form hO; injection e with _ e _; rw [e, prtF_len]
    obtain ⟨F, hF⟩ : ∃ F, F = prtF pf ts := ⟨_, rfl⟩
    have HF : Hid (F = prtF pf ts ∧ F.length = ts.length) := ⟨hF, by rw [hF, prtF_len]⟩
    rw [← hF] at hO hR
    rw [hm2] at hO HS3 ⊢
    have HO : Hid (FOwn W3 w.heap.size (.slice p2 ts.length c2) F) := hO
    have HT : Hid (Tab n cd ts F R ∧ r = 0 ∧ ts.length ≤ 2048 ∧ vkE r n cd ts (prtF pf (ts.take 2048)) me = 0) := ⟨hR, hr0, hts, hv0⟩
    clear H2 hq0 hv0 hR hr0 hts hm2 hO hF ev2 m1 m2 hL L
    obtain ⟨s0, s1, s2⟩ := sc_box HS3.out
    have C0 := vonTable_any bq pt p2 ct ts.length c2 ts x W3 (HI.out.th.keep HG3.out)
    obtain ⟨b, hb⟩ : ∃ b, b = onT ts x := ⟨_, rfl⟩
    rw [← hb] at C0
    have Hb : Hid (b = onT ts x) := hb
    clear hb
    go_wp2_with fail
    refine C0.mono ?_
    rintro e3 w3 ⟨rfl, g3⟩
    have HG : Hid (w.grownBy w3 none) := grown_trans HG3.out g3
    have HS : Hid (ScB w3 ns bq (.slice pt ts.length ct) (.slice p2 ts.length c2)) := grown_keep g3 HS3.out (by simp)
    have HO3 : Hid (FOwn w3 w.heap.size (.slice p2 ts.length c2) F) := own_grow HO.out g3
    clear C0 g3 s0 s1 s2 HS3 HO e1
    cases b with
    | false =>
      have HX : Hid (vqE (vkE r n cd ts (prtF pf (ts.take 2048)) me) (onT ts x) 6 = 6) := by show _ = _; rw [HT.out.2.2.2, ← Hb.out]; rfl
      go_wp2_with fail
      go_ret2
      exact WhPost.no HX.out (by decide) HG.out
    | true =>
      obtain ⟨s0, s1, s2⟩ := sc_box HS.out
      have C4 := vclimber_any bq pt p2 ts.length ct ts.length c2 w3
      go_wp2_with fail
      refine C4.mono ?_
      rintro e4 w4 ⟨gk, gf, gs, rfl, h4, g4, hk4, hf4⟩
      have HC0 : Hid (ClS w w4 w.heap.size gk gf gs bq (.slice pt ts.length ct) (.slice p2 ts.length c2) ((0 : Nat) : Int) (.slice p2 ts.length c2) (clF R F 0)) := ⟨h4, own_grow HO3.out g4, grown_trans HG.out g4, Nat.le_trans HG.out.size hk4, Nat.le_trans HG.out.size hf4⟩
      have HS4 : Hid (ScB w4 ns bq (.slice pt ts.length ct) (.slice p2 ts.length c2)) := grown_keep g4 HS.out (by simp)
      clear C4 h4 g4 hk4 hf4 s0 s1 s2
      unfold clV
      obtain ⟨i10, hi10, hza10, hzb10, hzc10⟩ := info_parts Tryz.linfoD
      go_wp2_with fail
      go_loopw [10, 29] (fun x10 y wr => ∃ (j : Nat) (p : Option Addr) (c B : Nat) (ps : Option Addr) (nS cS : Nat), j ≤ 5 ∧ y = .int .i64 (j : Int) ∧ x10 = .slice ps nS cS ∧ Hid (ClS w wr B gk gf gs bq (.slice pt ts.length ct) (.slice p2 ts.length c2) (j : Int) (.slice p ts.length c) (clF R F j)) ∧ Hid (DOwn wr w.heap.size (.slice ps nS cS) ((whU R x F j).map Se.s)) ∧ Hid (ScB wr ns bq (.slice pt ts.length ct) (.slice p2 ts.length c2))) (fun _ y _ => 5 - (intOf y).toNat)
      case atStart => exact ⟨0, p2, c2, w.heap.size, none, 0, 0, Nat.zero_le _, rfl, rfl, HC0, RecT.Own.nil _ _ _ _, HS4.out⟩
      case round =>
        obtain ⟨j, p, c, B, ps, nS, cS, hj, rfl, rfl, HC, HD, HSU⟩ := hrel
        obtain ⟨U, hU⟩ : ∃ U, U = wr := ⟨_, rfl⟩
        subst hU
        clear HC0 HS4
        by_cases hlt : j < 5
        · have hlf : (clF R F j).length = ts.length := by rw [clF_len]; exact HF.out.2
          have HLf : Hid ((clF R F j).length = ts.length) := hlf
          obtain ⟨D, hD⟩ : ∃ D, D = U.drew := ⟨_, rfl⟩
          have gD : U.grownBy D none := by rw [hD]; exact grown_drew _
          have HCD : Hid (ClS w D B gk gf gs bq (.slice pt ts.length ct) (.slice p2 ts.length c2) (j : Int) (.slice p ts.length c) (clF R F j)) := HC.out.keep gD
          have HDD : Hid (DOwn D w.heap.size (.slice ps nS cS) ((whU R x F j).map Se.s)) := own_grow HD.out gD
          have HSD : Hid (ScB D ns bq (.slice pt ts.length ct) (.slice p2 ts.length c2)) := grown_keep gD HSU.out (by simp)
          have C5 := vclimb_any bq pt p2 ct ts.length c2 0 n cd ts pf mf me w D B gk gf gs (j : Int) (.slice p ts.length c) (clF R F j) R (HT.out.2.1 ▸ HI.out) HCD.out (HT.out.1.cl j) rfl (by omega) (by omega)
          unfold ClPost at C5
          rw [hlf] at C5
          have hlt' : (j : Int) < 5 := by omega
          have hwk := wrap_next (k := j) (by omega)
          have Hlt : Hid (j < 5) := hlt
          have HM : Hid (5 - (intOf (.int .i64 ((j : Int) + 1))).toNat < 5 - (intOf (.int .i64 (j : Int))).toNat) := meas_k hlt
          obtain ⟨A, hA⟩ : ∃ A, A = (whU R x F j).map Se.s := ⟨_, rfl⟩
          obtain ⟨E, hE⟩ : ∃ E, E = (whyL R x (clF R F j) (allR R (clF R F j) ((j : Int) + 1)).2).map Se.s := ⟨_, rfl⟩
          have HEe : Hid (E = (whyL R x (clF R F j) (allR R (clF R F j) ((j : Int) + 1)).2).map Se.s) := hE
          have HAE : Hid ((whU R x F (j + 1)).map Se.s = A ++ E ∧ A.length ≤ 320 ∧ E.length ≤ 64) := by
            refine ⟨?_, ?_, ?_⟩
            · rw [hA, hE]; show (whU R x F j ++ whyL R x (clF R F j) (apK R F j)).map Se.s = _; rw [List.map_append]; rfl
            · rw [hA, List.length_map]; have := wh_few HT.out.1 (HI.out.few4 HT.out.2.1) x j; omega
            · rw [hE, List.length_map]; exact why_few HT.out.1 (HI.out.few4 HT.out.2.1) x j
          rw [← hA] at HDD
          clear hlt hj hlf HC HD hA hE gD
          go_upto_region 10 with fail
          refine wp_region_held_drew (S := fun w' => ScB w' ns bq (.slice pt ts.length ct) (.slice p2 ts.length c2)) (by kernel_rfl) (by rw [← hD]; exact HSD.out) (fun hHeld => ?_)
          rw [← hD]
          refine wpAnyH_take (i := 0) (v := ?_) rfl (by kernel_rfl) (by kernel_rfl) (by kernel_rfl) (fun _ _ _ h => h) (Or.inl ⟨by rfl, ?_⟩) (by assumption) ?_
          rotate_left 1
          · (intro w0 hSw; go_simp; try with_reducible rfl)
          simp only [List.getElem_toArray, List.getElem_cons_zero]
          go_frame
          refine wpAnyH_take (i := 1) (v := ?_) rfl (by kernel_rfl) (by kernel_rfl) (by kernel_rfl) (fun _ _ _ h => h) (Or.inl ⟨by rfl, ?_⟩) (by assumption) ?_
          rotate_left 1
          · (intro w0 hSw; obtain ⟨s0, s1, s2⟩ := sc_box hSw; go_simp; try with_reducible rfl)
          simp only [List.getElem_toArray, List.getElem_cons_zero, List.getElem_cons_succ]
          go_frame
          refine wpAnyH_take (i := 2) (v := ?_) rfl (by kernel_rfl) (by kernel_rfl) (by kernel_rfl) (fun _ _ _ h => h) (Or.inl ⟨by rfl, ?_⟩) (by assumption) ?_
          rotate_left 1
          · (intro w0 hSw; go_simp; try with_reducible rfl)
          simp only [List.getElem_toArray, List.getElem_cons_zero, List.getElem_cons_succ]
          go_frame
          refine wpAnyH_take (i := 3) (v := ?_) rfl (by kernel_rfl) (by kernel_rfl) (by kernel_rfl) (fun _ _ _ h => h) (Or.inl ⟨by rfl, ?_⟩) (by assumption) ?_
          rotate_left 1
          · (intro w0 hSw; go_simp; try with_reducible rfl)
          simp only [List.getElem_toArray, List.getElem_cons_zero, List.getElem_cons_succ]
          go_frame
          refine wpAnyH_ready (rs := [4]) (by kernel_rfl) (by simp) ?_
          refine AllReadyH.cons rfl (fun K hK => ?_) AllReadyH.nil
          simp only [List.getElem_toArray, List.getElem_cons_zero, List.getElem_cons_succ]
          go_simp
          go_at_call 113
          rw [← hD]
          refine (C5).mono ?_
          rintro e5 w5 ⟨q1, n1, d1, q2, d2, rfl, h5, hD5, hG5, tw5⟩
          have HC5 : Hid (ClS w w5 D.heap.size gk gf gs bq (.slice pt ts.length ct) (.slice p2 ts.length c2) ((j + 1 : Nat) : Int) (.slice q2 ts.length d2) (clF R F (j + 1))) := h5
          have HS5 : Hid (ScB w5 ns bq (.slice pt ts.length ct) (.slice p2 ts.length c2)) := tw5.keep HCD.out.cl HSD.out (by decide) (by decide)
          have HD5 : Hid (DOwn w5 w.heap.size (.slice ps nS cS) A) := tw5.own HCD.out.cl HDD.out (by decide) (by decide)
          have C6 := vabout_any bq pt p2 p q1 q2 ct ts.length c2 c n1 d1 ts.length d2 0 n cd ts pf mf me x ((j : Int) + 1) (clF R F j) R B D.heap.size w5 ((HT.out.2.1 ▸ HI.out : VIn w (.pointer bq) (.slice pt ts.length ct) 0 n cd ts pf mf me).keep HC5.out.gr) (HT.out.1.cl j) rfl (by rw [HLf.out]; exact hG5) hD5
          rw [← HEe.out, HLf.out] at C6
          clear C5 h5 hD5 hG5 tw5
          refine hK.out _ _ (HS5.out) (fun hHeld2 => ?_)
          clear hK K
          (try go_frame)
          refine wpAnyH_ready (rs := [5]) (by kernel_rfl) (by simp) ?_
          refine AllReadyH.cons rfl (fun K hK => ?_) AllReadyH.nil
          simp only [List.getElem_toArray, List.getElem_cons_zero, List.getElem_cons_succ]
          go_simp
          go_at_call 73
          refine (C6).mono ?_
          rintro e6 w6 ⟨v6, rfl, o6, g6⟩
          obtain ⟨p6, c6, rfl⟩ := RecT.Own.form o6
          have HC6 : Hid (ClS w w6 D.heap.size gk gf gs bq (.slice pt ts.length ct) (.slice p2 ts.length c2) ((j + 1 : Nat) : Int) (.slice q2 ts.length d2) (clF R F (j + 1))) := HC5.out.keep g6
          have HS6 : Hid (ScB w6 ns bq (.slice pt ts.length ct) (.slice p2 ts.length c2)) := grown_keep g6 HS5.out (by simp)
          have HD6 : Hid (DOwn w6 w.heap.size (.slice ps nS cS) A) := own_grow HD5.out g6
          have HR6 : Hid (Src w6 (.slice p6 E.length c6) E.length 10 (sdR.cs E)) := RecT.At.src (RecT.Own.at o6)
          have HL6 : Hid (A.length + E.length ≤ maxLen ∧ (A.length + E.length) * 56 ≤ 140737488355328) := len_two HAE.out.2.1 HAE.out.2.2
          clear C6 o6 g6
          refine hK.out _ _ (HS6.out) (fun hHeld2 => ?_)
          clear hK K
          (try go_frame)
          refine wpAnyH_ready (rs := [6]) (by kernel_rfl) (by simp) ?_
          refine AllReadyH.cons rfl (fun K9 hK => ?_) AllReadyH.nil
          simp only [List.getElem_toArray, List.getElem_cons_zero, List.getElem_cons_succ]
          refine vwp_app (.tmp 31) (.tmp 36) 36 rfl w.heap.size 49 i10 _ 10 56 Tryz.underlying36 hi10 hza10 hzb10 hzc10 rfl (by decide) (.slice ps nS cS) A.length (sdR.cs A) rfl HD6.out (.slice p6 E.length c6) E.length (sdR.cs E) rfl HR6.out (sdR.ones E) HL6.out.1 HL6.out.2 HC6.out.gr.size ?_
          intro v7 w7 o7 g7 _
          have HO7 : Hid (w7.ownsRow w.heap.size 49 10 v7 (A.length + E.length) (sdR.cs A ++ sdR.cs E)) := o7
          have HC7 : Hid (ClS w w7 D.heap.size gk gf gs bq (.slice pt ts.length ct) (.slice p2 ts.length c2) ((j + 1 : Nat) : Int) (.slice q2 ts.length d2) (clF R F (j + 1))) := HC6.out.block HD6.out g7 (Nat.le_refl _)
          have HS7 : Hid (ScB w7 ns bq (.slice pt ts.length ct) (.slice p2 ts.length c2)) := grown_keep g7 HS6.out (own_tag HD6.out HS6.out (by decide))
          clear o7 g7
          refine hK.out _ _ (HS7.out) (fun hHeld3 => ?_)
          clear hK K9
          (try go_frame)
          refine wpAnyH_take (i := 7) (v := ?_) rfl (by kernel_rfl) (by kernel_rfl) (by kernel_rfl) (fun _ _ _ h => h) (Or.inl ⟨by rfl, ?_⟩) (by assumption) ?_
          rotate_left 1
          · (intro w0 hSw; go_simp; try with_reducible rfl)
          simp only [List.getElem_toArray, List.getElem_cons_zero, List.getElem_cons_succ]
          go_frame
          refine wpAnyH_done (by kernel_rfl) ?_ _
          obtain ⟨p7, c7, ev7, -⟩ := own_slice HO7.out
          subst ev7
          have HD7 : Hid (DOwn w7 w.heap.size (.slice p7 (A.length + E.length) c7) ((whU R x F (j + 1)).map Se.s)) := by show DOwn _ _ _ _; rw [HAE.out.1]; exact app_sd HO7.out
          go_wp2_with fail
          go_roundw
          case rel => exact ⟨j + 1, q2, d2, D.heap.size, p7, A.length + E.length, c7, Hlt.out, by first | rfl | (rw [hwk]; rfl) | go_num, rfl, HC7, HD7, HS7⟩
          case measure => first | exact HM.out | (rw [hwk]; exact HM.out)
        · obtain rfl : j = 5 := Nat.le_antisymm hj (Nat.le_of_not_lt hlt)
          have HX : Hid (DOwn U w.heap.size (.slice ps nS cS) ((vWh r n cd ts pf me x).map Se.s) ∧ w.grownBy U none) := ⟨by rw [vWh_is HT.out.2.2.2 Hb.out.symm (HF.out.1 ▸ HT.out.1), ← HF.out.1]; exact HD.out, HC.out.gr⟩
          clear hj hlt
          go_wp2_with fail
          go_ret2
          exact ⟨_, by rw [HT.out.2.2.2, ← Hb.out]; rfl, HX.out.2, HX.out.1⟩
  · have e1 : (q != 0) = true := by simpa using hq0
    have HX : Hid (vqE (vkE r n cd ts (prtF pf (ts.take 2048)) me) (onT ts x) 6 = q) := by show _ = _; rw [← Hq.out, vqE_no hq0]
    have Hq0 : Hid (q ≠ 0) := hq0
    clear hq0
    go_wp2_with fail
    go_ret2
    exact WhPost.no HX.out Hq0.out HG3.out
end Go.Proofs.YtmemeloehgemcaaGreat
namespace Go.Proofs.YtmemeloehgemcaaGreat
open Go.RowKit Go.Shelf

def vxB : Hd := ⟨⟨#[98, 114, 117, 115, 104]⟩, 5, 3, 0, 0, 0, 0, false⟩
theorem vx_caC : caE plNew [] (exC.with [exCp]) = 0 := by
  show (if plNew.shut = true then (7 : Int) else if ¬ cchk (exC.with [exCp]) = 0 then cchk (exC.with [exCp]) else if 0 ≤ pos [] exC.nm then 5 else if (0 : Nat) = 64 then 14 else 0) = 0
  decide +kernel
theorem vx_inC (vC : Value) : ins [] ⟨exC, vC, [exCp]⟩ = [⟨exC, vC, [exCp]⟩] := by
  rfl
theorem vx_caB (vC : Value) : caE plNew [⟨exC, vC, [exCp]⟩] (vxB.with [exBp]) = 0 := by
  show (if plNew.shut = true then (7 : Int) else if ¬ cchk (vxB.with [exBp]) = 0 then cchk (vxB.with [exBp]) else if 0 ≤ pos [exC.nm] vxB.nm then 5 else if (1 : Nat) = 64 then 14 else 0) = 0
  decide +kernel
theorem vx_inB (vB vC : Value) : ins [⟨exC, vC, [exCp]⟩] ⟨vxB, vB, [exBp]⟩ = [⟨vxB, vB, [exBp]⟩, ⟨exC, vC, [exCp]⟩] := by
  rw [ins_cons, if_neg (by show ¬ ord exC vxB < 0; decide +kernel)]
theorem vx_caE (vB vC : Value) : caE plNew [⟨vxB, vB, [exBp]⟩, ⟨exC, vC, [exCp]⟩] (exE.with []) = 0 := by
  show (if plNew.shut = true then (7 : Int) else if ¬ cchk (exE.with []) = 0 then cchk (exE.with []) else if 0 ≤ pos [vxB.nm, exC.nm] exE.nm then 5 else if (2 : Nat) = 64 then 14 else 0) = 0
  decide +kernel
theorem vx_inE (vE vB vC : Value) : ins [⟨vxB, vB, [exBp]⟩, ⟨exC, vC, [exCp]⟩] ⟨exE, vE, []⟩ = [⟨exE, vE, []⟩, ⟨vxB, vB, [exBp]⟩, ⟨exC, vC, [exCp]⟩] := by
  rw [ins_cons, if_neg (by show ¬ ord vxB exE < 0; decide +kernel)]
def vxES (vE vB vC : Value) : List Ent := [⟨exE, vE, []⟩, ⟨vxB, vB, [exBp]⟩, ⟨exC, vC, [exCp]⟩]
def vxP : Pl := { tgP2 with shut := true }
theorem vx_seal (vE vB vC : Value) : sealE tgP2 (vxES vE vB vC) = 0 := by
  unfold sealE
  rw [if_neg (by decide)]
  simp [vxES, sealL, callsE, callE, exBp, exCp]
theorem vx_shut (vE vB vC : Value) : sealP tgP2 (vxES vE vB vC) = vxP := if_pos (vx_seal vE vB vC)
def vxT : List Th := [⟨3, 0, 4, 1, 0, 0, 0, 0, 0, 0, false⟩, ⟨2, 0, 4, 2, 0, 0, 0, 0, 0, 0, false⟩, ⟨1, 0, 4, 3, 0, 0, 0, 0, 0, 0, false⟩, ⟨1, 1, 4, 4, 0, 0, 0, 0, 0, 0, false⟩]
theorem vx_fN (vE vB vC : Value) : (fndN vxP.shut (pos (names (vxES vE vB vC)) exC.nm) = 3 ∧ fndN vxP.shut (pos (names (vxES vE vB vC)) vxB.nm) = 2) ∧ fndN vxP.shut (pos (names (vxES vE vB vC)) exE.nm) = 1 := by
  show (fndN true (pos [exE.nm, vxB.nm, exC.nm] exC.nm) = 3 ∧ fndN true (pos [exE.nm, vxB.nm, exC.nm] vxB.nm) = 2) ∧ fndN true (pos [exE.nm, vxB.nm, exC.nm] exE.nm) = 1
  decide +kernel
def BpB (w : World) (n b : Nat) : Prop := w.heap[n]? = some (.cells #[.pointer (some ⟨b, 0, none⟩)] 32 (0, 0))
def CdB (w : World) (n a b : Nat) : Prop := w.heap[n]? = some (.cells #[.string ⟨#[99, 114, 111, 119, 110]⟩, .int .u8 6, .int .u8 3, .int .i64 0, .int .i64 0, .int .i64 0, .int .u16 0, .bool false, .slice (some ⟨a, 0, none⟩) 1 1, .string ⟨#[98, 114, 117, 115, 104]⟩, .int .u8 5, .int .u8 3, .int .i64 0, .int .i64 0, .int .i64 0, .int .u16 0, .bool false, .slice (some ⟨b, 0, none⟩) 1 1, .string ⟨#[98, 101, 97, 114]⟩, .int .u8 2, .int .u8 1, .int .i64 0, .int .i64 2, .int .i64 2, .int .u16 0, .bool false, .slice none 0 0] 88 (0, 0))
def PtB (w : World) (n : Nat) (p : Pt) : Prop := w.heap[n]? = some (.cells #[.int .u8 p.wn, .int .u8 p.vb, .int .u8 p.wm, .int .i64 p.ct, .int .u8 p.su, .int .u8 p.tr, .int .u8 p.mr, .string p.nm] 47 (0, 0))
structure VxS (w wr : World) (b n3 a1 a2 nc : Nat) (es : List Ent) (p : Pl) : Prop where
  bk : Book (tgOk b) wr b es p
  bx : BpB wr n3 b
  q1 : PtB wr a1 exCp
  q2 : PtB wr a2 exBp
  cd : CdB wr nc a1 a2
  gr : w.grownBy wr none
  lie : w.heap.size ≤ b ∧ b < n3 ∧ b < a1 ∧ b < a2 ∧ b < nc
theorem VxS.keep {w wr w' : World} {b n3 a1 a2 nc : Nat} {es : List Ent} {p : Pl} (h : VxS w wr b n3 a1 a2 nc es p) (g : wr.grownBy w' none) : VxS w w' b n3 a1 a2 nc es p := ⟨h.bk.keep g, grown_keep g h.bx (by simp), grown_keep g h.q1 (by simp), grown_keep g h.q2 (by simp), grown_keep g h.cd (by simp), grown_trans h.gr g, h.lie⟩
theorem VxS.turn {w wr w' : World} {b n3 a1 a2 nc : Nat} {es es' : List Ent} {p p' : Pl} (h : VxS w wr b n3 a1 a2 nc es p) (g : wr.grownBy w' (some b)) (B : Book (tgOk b) w' b es' p') : VxS w w' b n3 a1 a2 nc es' p' := by
  obtain ⟨l0, l1, l2, l3, l4⟩ := h.lie
  exact ⟨B, grown_keep g h.bx (fun q => by cases q; omega), grown_keep g h.q1 (fun q => by cases q; omega), grown_keep g h.q2 (fun q => by cases q; omega), grown_keep g h.cd (fun q => by cases q; omega), grown_own h.gr g (fun x e => by cases e; exact l0), h.lie⟩
structure VxR (w wr : World) (b S g : Nat) (vE vB vC : Value) : Prop where
  bk : Book (fun k => tgOk b k ∧ k < S) wr b (vxES vE vB vC) vxP
  th : thR.Own 60 wr S (.slice (some ⟨g, 0, none⟩) 4 4) vxT
  gr : w.grownBy wr none
  lie : w.heap.size ≤ b ∧ b < S
theorem VxR.keep {w wr w' : World} {b S g : Nat} {vE vB vC : Value} (h : VxR w wr b S g vE vB vC) (k : wr.grownBy w' none) : VxR w w' b S g vE vB vC := ⟨h.bk.keep k, own_grow h.th k, grown_trans h.gr k, h.lie⟩
set_option maxRecDepth 100000 in
set_option maxHeartbeats 4000000 in
theorem vnumber_any (b n3 : Nat) (es : List Ent) (p : Pl) (ok : Nat → Prop) (s : ByteArray) (w : World) (B : Book ok w b es p) (hx : BpB w n3 b) : Calls Tryz.prog 67 #[.string s, .pointer (some ⟨n3, 0, none⟩)] w fun e w' => e = .returned (.int .i64 (fndN p.shut (pos (names es) s))) ∧ w.grownBy w' none := by
  have C1 := find_yes b es p s w B.lies B.good.slc
  have c0 : w.cell? ⟨n3, 0, none⟩ = some (.pointer (some ⟨b, 0, none⟩)) := (block_cell hx 0).trans rfl
  obtain ⟨x, hxe⟩ : ∃ x, x = fndN p.shut (pos (names es) s) := ⟨_, rfl⟩
  obtain ⟨y, hye⟩ : ∃ y, y = fndE p.shut (pos (names es) s) := ⟨_, rfl⟩
  rw [← hxe, ← hye] at C1
  rw [← hxe]
  clear B hx hxe hye
  go_enter Tryz.func67, Tryz.ntmps67
  go_wp2_with fail
  refine C1.mono ?_
  rintro e1 w1 ⟨rfl, g1⟩
  have HG : Hid (w.grownBy w1 none) := g1
  clear C1 g1 c0
  go_wp2_with fail
  go_ret
  exact ⟨rfl, HG.out⟩
def FnB (w : World) (n6 n3 : Nat) : Prop := w.heap[n6]? = some (.cells #[.func (.func 67) #[] #[.pointer (some ⟨n3, 0, none⟩)]] 135 (0, 0))
set_option maxRecDepth 100000 in
set_option maxHeartbeats 4000000 in
theorem von_any (b n3 n6 : Nat) (es : List Ent) (p : Pl) (ok : Nat → Prop) (s : ByteArray) (ow st x : Int) (w : World) (B : Book ok w b es p) (hx : BpB w n3 b) (hf : FnB w n6 n3) (hn : fndN p.shut (pos (names es) s) = x) : Calls Tryz.prog 68 #[.string s, .int .i64 ow, .int .i64 st, .pointer (some ⟨n6, 0, none⟩)] w fun e w' => e = .returned (thv ⟨x, ow, 4, st, 0, 0, 0, 0, 0, 0, false⟩) ∧ w.grownBy w' none := by
  obtain ⟨W1, hW1⟩ : ∃ W1, W1 = w.alloc (.cells #[.int .i64 0, .int .i64 0, .int .u8 0, .int .i64 0, .int .i64 0, .int .i64 0, .int .i64 0, .int .i64 0, .int .i64 0, .int .i64 0, .bool false] 60) := ⟨_, rfl⟩
  have HG1 : Hid (w.grownBy W1 none) := by rw [hW1]; exact World.grownBy_alloc _ _ none
  have HR1 : Hid (ThB W1 w.heap.size ⟨0, 0, 0, 0, 0, 0, 0, 0, 0, 0, false⟩) := by rw [hW1]; exact alloc_at _ _ _
  have C1 := vnumber_any b n3 es p ok s W1 (B.keep HG1.out) (grown_keep HG1.out hx (by simp))
  rw [hn] at C1
  have f0 : W1.cell? ⟨n6, 0, none⟩ = some (.func (.func 67) #[] #[.pointer (some ⟨n3, 0, none⟩)]) := (block_cell (grown_keep HG1.out hf (by simp)) 0).trans rfl
  unfold thv
  clear B hx hf hn
  go_enter Tryz.func68, Tryz.ntmps68
  go_upto_region 1 with fail
  rw [← hW1]
  clear hW1
  obtain ⟨n0, hn0⟩ : ∃ n0, n0 = w.heap.size := ⟨_, rfl⟩
  have Hn0 : Hid (w.heap.size ≤ n0) := by show _ ≤ _; omega
  simp only [← hn0] at HR1 ⊢
  clear hn0
  go_wp2_with (go_at_call 67; refine C1.mono ?_; rintro e1 w1 ⟨rfl, g1⟩; have HG2 : Hid (W1.grownBy w1 none) := g1; have HR2 : Hid (ThB w1 n0 ⟨0, 0, 0, 0, 0, 0, 0, 0, 0, 0, false⟩) := grown_keep g1 HR1.out (by simp); obtain ⟨r0, r1, r2, r3, r4, r5, r6, r7, r8, r9, r10⟩ := th_box HR2.out; have rf := fun i => block_free HR2.out i; clear C1 g1)
  refine bodyPost_ret (v := .agg #[.int .i64 x, .int .i64 ow, .int .u8 4, .int .i64 st, .int .i64 0, .int .i64 0, .int .i64 0, .int .i64 0, .int .i64 0, .int .i64 0, .bool false]) (by simp [results, Tryz.results68, go_sem, r0, r1, r2, r3, r4, r5, r6, r7, r8, r9, r10]) rfl ⟨rfl, ?_⟩
  have k : ∀ {v : World} (i : Nat) (u : Value), w.grownBy v none → w.grownBy (v.setCell ⟨n0, i, none⟩ u) none := fun i u q => grown_own q (grown_set _ _ _ _) (fun y e => by cases e; exact Hn0.out)
  exact k _ _ (k _ _ (k _ _ (k _ _ (k _ _ (k _ _ (k _ _ (k _ _ (k _ _ (k _ _ (k _ _ (grown_trans HG1.out HG2.out)))))))))))
end Go.Proofs.YtmemeloehgemcaaGreat
