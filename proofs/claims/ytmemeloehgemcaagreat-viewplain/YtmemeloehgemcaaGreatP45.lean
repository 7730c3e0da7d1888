/-
  ViewPlain: printed ones, Raises, the layers' order.
  ViewNil: what is answered of no book.
-/
import Derived.Test.YtmemeloehgemcaaGreatP44
import Derived.BigQuiet
import Derived.Test.YtmemeloehgemcaaGreatP43
import Derived.Test.YtmemeloehgemcaaGreatP37
namespace Go.Proofs.YtmemeloehgemcaaGreat
open Go.RowKit Go.Shelf

structure PlS (w wr : World) (base b : Nat) (v vt : Value) (ts : List Th) (es : List Ent) (p : Pl) (ok : Nat → Prop) (vS : Value) (all : List Sd) (R : List Rw) : Prop where
  al : AlR wr base b v vt ts es p ok
  st : sdR.At wr vS all
  tab : Tab (es.length : Int) (atC p es) ts (prtF (pfB p es) ts) R
  alls : all = (stU R (prtF (pfB p es) ts) 5).map Se.s
  gr : w.grownBy wr none
theorem PlS.keep {w wr w' : World} {base b : Nat} {v vt : Value} {ts : List Th} {es : List Ent} {p : Pl} {ok : Nat → Prop} {vS : Value} {all : List Sd} {R : List Rw} (h : PlS w wr base b v vt ts es p ok vS all R) (g : wr.grownBy w' none) : PlS w w' base b v vt ts es p ok vS all R := ⟨h.al.keep g, h.st.keep g, h.tab, h.alls, grown_trans h.gr g⟩
theorem PlS.ord {w wr : World} {base b : Nat} {v vt : Value} {ts : List Th} {es : List Ent} {p : Pl} {ok : Nat → Prop} {vS : Value} {all : List Sd} {R : List Rw} (h : PlS w wr base b v vt ts es p ok vS all R) {i : Nat} (hi : i + 1 < all.length) : ordV all[i].wh.vb ≤ ordV all[i + 1].wh.vb := by
  have e := h.alls
  subst e
  rw [List.length_map] at hi
  have h1 := List.pairwise_iff_getElem.1 (st_up R (prtF (pfB p es) ts) 5) i (i + 1) (by omega) hi (by omega)
  have h2 := st_lay (List.getElem_mem (show i < (stU R (prtF (pfB p es) ts) 5).length by omega))
  have h3 := st_lay (List.getElem_mem hi)
  simp only [List.getElem_map]
  rw [ord_lay h2.1, ord_lay h3.1]
  exact h1
theorem PlS.feat {w wr : World} {base b : Nat} {v vt : Value} {ts : List Th} {es : List Ent} {p : Pl} {ok : Nat → Prop} {vS : Value} {all : List Sd} {R : List Rw} (h : PlS w wr base b v vt ts es p ok vS all R) : FOwn wr base v (bhL R (mfB p) ts (prtF (pfB p es) ts) 6) := by
  have := h.al.fo
  rw [vBh_is h.al.vk (by decide) h.tab] at this
  exact this
theorem PlS.flen {w wr : World} {base b : Nat} {v vt : Value} {ts : List Th} {es : List Ent} {p : Pl} {ok : Nat → Prop} {vS : Value} {all : List Sd} {R : List Rw} (h : PlS w wr base b v vt ts es p ok vS all R) : (bhL R (mfB p) ts (prtF (pfB p es) ts) 6).length = ts.length := by
  rw [← vBh_is h.al.vk (by decide) h.tab]
  exact vBh_len h.al.vk (by have := h.al.few; omega)
theorem PlS.fat {w wr : World} {base b : Nat} {q : Option Addr} {c : Nat} {vt : Value} {ts : List Th} {es : List Ent} {p : Pl} {ok : Nat → Prop} {vS : Value} {all : List Sd} {R : List Rw} (h : PlS w wr base b (.slice q ts.length c) vt ts es p ok vS all R) {j : Nat} (hj : j < ts.length) : ∃ g, q = some ⟨g, 0, none⟩ ∧ wr.rangeAt g (j * 5) (fec ((bhL R (mfB p) ts (prtF (pfB p es) ts) 6).getD j Fe.none)) := by
  have hl := h.flen
  obtain ⟨g, off, cap, e, r⟩ := fe_there (RecT.Own.at h.feat) (show j < _ by rw [hl]; exact hj)
  obtain ⟨g', c', e', _⟩ := own_cell h.feat (by omega)
  injection e with e1 _ _
  injection e' with e1' _ _
  refine ⟨g', e1', ?_⟩
  rw [e1] at e1'
  injection e1' with e1'
  injection e1' with a1 a2
  rw [a1, a2, Nat.zero_add, ← getD_in (d := Fe.none)] at r
  exact r
theorem onT_at {ts : List Th} {j : Nat} {t : Th} (ht : ts[j]? = some t) : onT ts ((j : Int) + 1) = decide (t.place = 4) := by
  have hj : j < ts.length := (List.getElem?_eq_some_iff.1 ht).1
  unfold onT
  rw [decide_eq_true (show (1 : Int) ≤ (j : Int) + 1 by omega), decide_eq_true (show (j : Int) + 1 ≤ (ts.length : Int) by omega), toN, List.getD_eq_getElem?_getD, ht]
  rfl
theorem PlS.why {w wr : World} {base b : Nat} {v : Value} {pt : Option Addr} {ct : Nat} {ts : List Th} {es : List Ent} {p : Pl} {ok : Nat → Prop} {vS : Value} {all : List Sd} {R : List Rw} (h : PlS w wr base b v (.slice pt ts.length ct) ts es p ok vS all R) (X : World) (g : wr.grownBy X none) {j : Nat} {t : Th} (ht : ts[j]? = some t) (hp : t.place = 4) : Calls Tryz.prog 28 #[.pointer (some ⟨b, 0, none⟩), .slice pt ts.length ct, .int .i64 ((j : Int) + 1)] X fun e w' => ∃ q c, e = .returned (.tuple #[.slice q (whU R ((j : Int) + 1) (prtF (pfB p es) ts) 5).length c, .int .i64 0]) ∧ X.grownBy w' none ∧ sdR.At w' (.slice q (whU R ((j : Int) + 1) (prtF (pfB p es) ts) 5).length c) ((whU R ((j : Int) + 1) (prtF (pfB p es) ts) 5).map Se.s) := by
  refine (vwhy_any _ _ _ _ _ _ _ _ _ ((j : Int) + 1) X (h.al.keep g).inn).mono ?_
  rintro e w' ⟨v', rfl, g', o⟩
  have hx : onT ts ((j : Int) + 1) = true := by rw [onT_at ht, decide_eq_true hp]
  rw [vWh_is h.al.vk hx h.tab] at o
  obtain ⟨q, c, e1⟩ := RecT.Own.form o
  rw [List.length_map] at e1
  subst e1
  exact ⟨q, c, by rw [h.al.vk, hx]; rfl, g', RecT.Own.at o⟩
theorem PlS.off {w wr : World} {base b : Nat} {v : Value} {pt : Option Addr} {ct : Nat} {ts : List Th} {es : List Ent} {p : Pl} {ok : Nat → Prop} {vS : Value} {all : List Sd} {R : List Rw} (h : PlS w wr base b v (.slice pt ts.length ct) ts es p ok vS all R) (X : World) (g : wr.grownBy X none) {j : Nat} {t : Th} (ht : ts[j]? = some t) (hp : ¬ t.place = 4) : Calls Tryz.prog 28 #[.pointer (some ⟨b, 0, none⟩), .slice pt ts.length ct, .int .i64 ((j : Int) + 1)] X fun e w' => ∃ q m c, e = .returned (.tuple #[.slice q m c, .int .i64 6]) ∧ X.grownBy w' none := by
  refine (vwhy_any _ _ _ _ _ _ _ _ _ ((j : Int) + 1) X (h.al.keep g).inn).mono ?_
  rintro e w' ⟨v', rfl, g', o⟩
  have hx : onT ts ((j : Int) + 1) = false := by rw [onT_at ht, decide_eq_false hp]
  obtain ⟨q, c, e1⟩ := RecT.Own.form o
  subst e1
  exact ⟨q, _, c, by rw [h.al.vk, hx]; rfl, g'⟩
theorem meas_1 {i n : Nat} (h : i < n) : n - ((intOf (.int .i64 (((i + 1 : Nat) : Int) + 1))) - 1).toNat < n - ((intOf (.int .i64 ((i : Int) + 1))) - 1).toNat := by
  simp only [intOf]
  omega
theorem plain_a {n : Int} {cd : Int → Hd × List Pt} {ts : List Th} {pf : Th → Fe} {mf : Fe → Th → Fe} {R : List Rw} (h : Tab n cd ts (prtF pf ts) R) {j : Nat} {t : Th} (ht : ts[j]? = some t) (hp : t.place = 4) {L0 : List Se} {L : List Sd} {fb fw : Fe} {rz : Bool} (h0 : L0 = whU R ((j : Int) + 1) (prtF pf ts) 5) (hL : L = L0.map Se.s) (hz : L0.length = 0) (hfb : fb = pf t) (hfw : fw = mf fb t) (hr : rz = rzB L) : (bhL R mf ts (prtF pf ts) 6).getD j Fe.none = fw ∧ rz = true := by
  have e : L0 = [] := List.length_eq_zero_iff.1 hz
  subst e
  subst hL
  refine ⟨?_, by rw [hr]; rfl⟩
  rw [plain_on h ht hp (by rw [← h0]; rfl), ← h0, hfw, hfb]
  rfl
theorem plain_b {n : Int} {cd : Int → Hd × List Pt} {ts : List Th} {pf : Th → Fe} {mf : Fe → Th → Fe} {R : List Rw} (h : Tab n cd ts (prtF pf ts) R) {j : Nat} {t : Th} (ht : ts[j]? = some t) (hp : t.place = 4) {L0 : List Se} {L : List Sd} {fb : Fe} {mo : Int} (h0 : L0 = whU R ((j : Int) + 1) (prtF pf ts) 5) (hL : L = L0.map Se.s) (hz : L0.length ≠ 0) (hfb : fb = pf t) (hr : true = rzB L) (hm : mo = cnS L) : (bhL R mf ts (prtF pf ts) 6).getD j Fe.none = mf (moreF fb mo) t := by
  rw [plain_on h ht hp (by rw [← h0, ← hL, ← hr]), ← h0, rads_any (fun q => hz (by rw [q]; rfl)), ← hL, ← hm, ← hfb]
theorem sd_next {w : World} {g off n c : Nat} {X : List Sd} (h : sdR.At w (.slice (some ⟨g, off, none⟩) n c) X) {i : Nat} (hi : i < X.length) : w.rangeAt g (off + i * 10) (sdc X[i]) := by
  obtain ⟨g', off', cap, e, r⟩ := sd_there h hi
  injection e with e1 _ _
  injection e1 with e1
  injection e1 with ea eb
  rw [ea, eb]
  exact r
theorem la_n {j n : Nat} (h : j < n) (hn : n ≤ 60) : wrap64 (j : Int) = (j : Int) ∧ IntKind.i64.wrap (j : Int) = (j : Int) ∧ wrap64 ((j : Int) + 1 + 1) = ((j + 1 : Nat) : Int) + 1 ∧ decide ((j : Int) + 1 ≤ (n : Int)) = true ∧ ((j : Int) + 1 ≤ (n : Int)) ∧ (j : Int) < (n : Int) := ⟨by unfold wrap64; omega, by rw [IntWalk.i64_in _ (by omega)], by unfold wrap64; omega, decide_eq_true (by omega), by omega, by omega⟩
theorem la_m {i n : Nat} (h : i + 1 < n) (hn : n ≤ 320) : wrap64 (i : Int) = (i : Int) ∧ IntKind.i64.wrap (i : Int) = (i : Int) ∧ wrap64 ((i : Int) + 1 + 1) = ((i + 1 : Nat) : Int) + 1 ∧ ((i : Int) + 1 < (n : Int)) ∧ (i : Int) < (n : Int) := ⟨by unfold wrap64; omega, by rw [IntWalk.i64_in _ (by omega)], by unfold wrap64; omega, by omega, by omega⟩
theorem fe_none_at {w : World} {g o : Nat} (h : w.rangeAt g o (fec Fe.none)) : w.cell? ⟨g, o, none⟩ = some (.int .i64 0) ∧ w.cell? ⟨g, o + 1, none⟩ = some (.int .u8 0) ∧ w.cell? ⟨g, o + 2, none⟩ = some (.int .u16 0) ∧ w.cell? ⟨g, o + 3, none⟩ = some (.int .i64 0) ∧ w.cell? ⟨g, o + 4, none⟩ = some (.int .i64 0) := fe_cells h
set_option maxRecDepth 100000 in
set_option maxHeartbeats 4000000 in
theorem viewPlain_any (vc vm vt : Value) (op : Bool) (cs : List Ent) (ms : List Mk) (ts : List Th) (w : World) (FI : FiA w vc vm cs ms) (A : thR.At w vt ts) (hc : ∃ q c, vt = .slice q ts.length c ∧ ts.length ≤ c) : Calls Tryz.prog 8 #[.agg #[vc, vm, .bool op], vt] w fun e w' => e = .returned (.bool true) ∧ w.grownBy w' none := by
  obtain ⟨pc, kc, pm, km, rfl, rfl⟩ := FI.forms
  obtain ⟨pt, ct, rfl, hcap⟩ := hc
  have Hcap : Hid (ts.length ≤ ct) := hcap
  obtain ⟨W, hW⟩ : ∃ W, W = w.alloc (.cells #[.slice pc cs.length kc, .slice pm ms.length km, .bool op] 25) := ⟨_, rfl⟩
  have HG : Hid (w.grownBy W none) := by rw [hW]; exact World.grownBy_alloc _ _ none
  have H0 : Hid (W.heap[w.heap.size]? = some (.cells #[.slice pc cs.length kc, .slice pm ms.length km, .bool op] 25 (0, 0))) := by rw [hW]; exact alloc_at _ _ _
  have HF : Hid (FiA W (.slice pc cs.length kc) (.slice pm ms.length km) cs ms ∧ thR.At W (.slice pt ts.length ct) ts) := ⟨FI.keep HG.out, A.keep HG.out⟩
  clear FI A hcap
  go_enter Tryz.func8, Tryz.ntmps8
  go_upto_region 1 with fail
  rw [← hW]
  obtain ⟨b0, hb0⟩ : ∃ b0, b0 = w.heap.size := ⟨_, rfl⟩
  rw [← hb0] at H0 ⊢
  clear hW hb0
  have C1 := vlives_any W
  go_wp2_with fail
  refine C1.mono ?_
  rintro e1 w1 ⟨rfl, g1⟩
  have HG1 : Hid (w.grownBy w1 none) := grown_trans HG.out g1
  have H1 : Hid (w1.heap[b0]? = some (.cells #[.slice pc cs.length kc, .slice pm ms.length km, .bool op] 25 (0, 0))) := grown_keep g1 H0.out (by simp)
  have C2 := alone_any _ _ _ op cs ms ts w1 (HF.out.1.keep g1) (HF.out.2.keep g1) ⟨_, _, rfl, Hcap.out⟩
  clear C1 g1 H0 HF HG
  have f0 : w1.cell? ⟨b0, 0, none⟩ = some (.slice pc cs.length kc) := (block_cell H1.out 0).trans rfl
  have f1 : w1.cell? ⟨b0, 1, none⟩ = some (.slice pm ms.length km) := (block_cell H1.out 1).trans rfl
  have f2 : w1.cell? ⟨b0, 2, none⟩ = some (.bool op) := (block_cell H1.out 2).trans rfl
  go_wp2_with fail
  refine C2.mono ?_
  rintro e2 w2 ⟨g2, h2⟩
  have HG2 : Hid (w.grownBy w2 none) := grown_trans HG1.out g2
  clear C2 g2 H1 f0 f1 f2
  obtain ⟨base, hbase⟩ : ∃ base, base = w1.heap.size := ⟨_, rfl⟩
  rw [← hbase] at h2
  clear hbase HG1
  rcases h2 with ⟨bp, q, m, c, rfl⟩ | ⟨b, q, c, es, p, ok, rfl, h2⟩
  · go_wp2_with fail
    go_ret
    exact ⟨rfl, HG2.out⟩
  · have HAl : Hid (AlR w2 base b (.slice q ts.length c) (.slice pt ts.length ct) ts es p ok) := h2
    obtain ⟨R, hR⟩ := h2.tab
    have C3 := vsteps_any _ _ _ _ _ _ _ _ _ w2 h2.inn
    unfold StPost at C3
    rw [h2.vk, vSt_is h2.vk hR] at C3
    have HR : Hid (Tab (es.length : Int) (atC p es) ts (prtF (pfB p es) ts) R) := hR
    obtain ⟨all, hall⟩ : ∃ all, all = (stU R (prtF (pfB p es) ts) 5).map Se.s := ⟨_, rfl⟩
    rw [← hall] at C3
    have Hall : Hid (all = (stU R (prtF (pfB p es) ts) 5).map Se.s ∧ all.length ≤ 320) := ⟨hall, by rw [hall, List.length_map]; exact st_few hR (h2.inn.few4 (vkE_of h2.vk).1) 5⟩
    clear h2 hR hall
    go_wp2_with fail
    refine C3.mono ?_
    rintro e3 w3 ⟨v3, rfl, g3, o3⟩
    obtain ⟨pS, cS, ev⟩ := RecT.Own.form o3
    subst ev
    have H3 : Hid (PlS w w3 base b (.slice q ts.length c) (.slice pt ts.length ct) ts es p ok (.slice pS all.length cS) all R) := ⟨HAl.out.keep g3, RecT.Own.at o3, HR.out, Hall.out.1, grown_trans HG2.out g3⟩
    clear C3 g3 o3 HAl HR HG2
    go_wp2_with fail
    go_loopw [10] (fun y wr => ∃ (i : Nat), (i ≤ all.length) ∧ y = .int .i64 ((i : Int) + 1) ∧ Hid (PlS w wr base b (.slice q ts.length c) (.slice pt ts.length ct) ts es p ok (.slice pS all.length cS) all R)) (fun y _ => all.length - ((intOf y) - 1).toNat)
    case atStart => exact ⟨0, Nat.zero_le _, rfl, H3⟩
    case round =>
      clear H3
      obtain ⟨i, hi', rfl, HS⟩ := hrel
      obtain ⟨U, hU⟩ : ∃ U, U = wr := ⟨_, rfl⟩
      subst hU
      by_cases hi : i + 1 < all.length
      · obtain ⟨m1, m2, m3, m4, m5⟩ := la_m hi Hall.out.2
        obtain ⟨ga, oa, ca, ea, ra⟩ := sd_there HS.out.st (show i < all.length by omega)
        cases ea
        have rb := sd_next HS.out.st hi
        have hord := HS.out.ord hi
        obtain ⟨a, ha⟩ : ∃ a, a = all[i].wh.vb := ⟨_, rfl⟩
        obtain ⟨d, hd⟩ : ∃ d, d = all[i + 1].wh.vb := ⟨_, rfl⟩
        rw [← ha, ← hd] at hord
        obtain ⟨x0, x1, x2, x3, -⟩ := sd_cells ra
        obtain ⟨y0, y1, y2, y3, -⟩ := sd_cells rb
        rw [← ha] at x3
        rw [← hd] at y3
        have hgt : decide (ordV d < ordV a) = false := decide_eq_false (by omega)
        obtain ⟨oa', hoa⟩ : ∃ oa', oa' = ordV a := ⟨_, rfl⟩
        obtain ⟨od', hod⟩ : ∃ od', od' = ordV d := ⟨_, rfl⟩
        have Ca : Hid (∀ X, Calls Tryz.prog 35 #[.int .u8 a] X fun e w' => e = .returned (.int .i64 oa') ∧ w' = X) := fun X => by rw [hoa]; exact vorder_any a X
        have Cd : Hid (∀ X, Calls Tryz.prog 35 #[.int .u8 d] X fun e w' => e = .returned (.int .i64 od') ∧ w' = X) := fun X => by rw [hod]; exact vorder_any d X
        rw [← hoa, ← hod] at hgt
        have hgt' : ¬ (od' < oa') := by simpa using hgt
        have m6 : ((i + 1 : Nat) : Int) < (all.length : Int) := by omega
        have m7 : (0 : Int) ≤ (i : Int) + 1 := by omega
        have Hi : Hid (i + 1 ≤ all.length ∧ i < all.length) := ⟨Nat.le_of_lt hi, by omega⟩
        have HM : Hid (all.length - ((intOf (.int .i64 (((i + 1 : Nat) : Int) + 1))) - 1).toNat < all.length - ((intOf (.int .i64 ((i : Int) + 1))) - 1).toNat) := meas_1 Hi.out.2
        clear hi' hi hord ha hd hoa hod ra rb x0 x1 x2 y0 y1 y2
        go_upto_region 12 with fail
        refine wp_region_held_drew (S := fun w' => U.grownBy w' none) (by kernel_rfl) (grown_drew _) (fun hHeld => ?_)
        refine wpAnyH_take (i := 0) (v := ?_) rfl (by kernel_rfl) (by kernel_rfl) (by kernel_rfl) (fun _ _ _ h => h) (Or.inl ⟨by rfl, ?_⟩) (by assumption) ?_
        rotate_left 1
        · (intro w0 hSw; go_simp; try with_reducible rfl)
        simp only [List.getElem_toArray, List.getElem_cons_zero]
        go_frame
        refine wpAnyH_take (i := 1) (v := ?_) rfl (by kernel_rfl) (by kernel_rfl) (by kernel_rfl) (fun _ _ _ h => h) (Or.inl ⟨by rfl, ?_⟩) (by assumption) ?_
        rotate_left 1
        · (intro w0 hSw; go_simp; try with_reducible rfl)
        simp only [List.getElem_toArray, List.getElem_cons_zero, List.getElem_cons_succ]
        go_frame
        refine wpAnyH_take (i := 2) (v := ?_) rfl (by kernel_rfl) (by kernel_rfl) (by kernel_rfl) (fun _ _ _ h => h) (Or.inl ⟨by rfl, ?_⟩) (by assumption) ?_
        rotate_left 1
        · (intro w0 hSw; go_simp; try with_reducible rfl)
        simp only [List.getElem_toArray, List.getElem_cons_zero, List.getElem_cons_succ]
        go_frame
        refine wpAnyH_take (i := 3) (v := ?_) rfl (by kernel_rfl) (by kernel_rfl) (by kernel_rfl) (fun _ _ _ h => h) (Or.inl ⟨by rfl, ?_⟩) (by assumption) ?_
        rotate_left 1
        · (intro w0 hSw; go_simp; try with_reducible rfl)
        simp only [List.getElem_toArray, List.getElem_cons_zero, List.getElem_cons_succ]
        go_frame
        refine wpAnyH_take (i := 4) (v := ?_) rfl (by kernel_rfl) (by kernel_rfl) (by kernel_rfl) (fun _ _ _ h => h) (Or.inl ⟨by rfl, ?_⟩) (by assumption) ?_
        rotate_left 1
        · (intro w0 hSw; go_simp; try with_reducible rfl)
        simp only [List.getElem_toArray, List.getElem_cons_zero, List.getElem_cons_succ]
        go_frame
        refine wpAnyH_take (i := 5) (v := ?_) rfl (by kernel_rfl) (by kernel_rfl) (by kernel_rfl) (fun _ _ _ h => h) (Or.inl ⟨by rfl, ?_⟩) (by assumption) ?_
        rotate_left 1
        · (intro w0 hSw; go_simp; try with_reducible rfl)
        simp only [List.getElem_toArray, List.getElem_cons_zero, List.getElem_cons_succ]
        go_frame
        refine wpAnyH_take (i := 6) (v := ?_) rfl (by kernel_rfl) (by kernel_rfl) (by kernel_rfl) (fun _ _ _ h => h) (Or.inl ⟨by rfl, ?_⟩) (by assumption) ?_
        rotate_left 1
        · (intro w0 hSw; have x3 := hSw.cell x3 (by simp); go_simp; try with_reducible rfl)
        simp only [List.getElem_toArray, List.getElem_cons_zero, List.getElem_cons_succ]
        go_frame
        refine wpAnyH_take (i := 8) (v := ?_) rfl (by kernel_rfl) (by kernel_rfl) (by kernel_rfl) (fun _ _ _ h => h) (Or.inl ⟨by rfl, ?_⟩) (by assumption) ?_
        rotate_left 1
        · (intro w0 hSw; go_simp; try with_reducible rfl)
        simp only [List.getElem_toArray, List.getElem_cons_zero, List.getElem_cons_succ]
        go_frame
        refine wpAnyH_take (i := 9) (v := ?_) rfl (by kernel_rfl) (by kernel_rfl) (by kernel_rfl) (fun _ _ _ h => h) (Or.inl ⟨by rfl, ?_⟩) (by assumption) ?_
        rotate_left 1
        · (intro w0 hSw; go_simp; try with_reducible rfl)
        simp only [List.getElem_toArray, List.getElem_cons_zero, List.getElem_cons_succ]
        go_frame
        refine wpAnyH_take (i := 10) (v := ?_) rfl (by kernel_rfl) (by kernel_rfl) (by kernel_rfl) (fun _ _ _ h => h) (Or.inl ⟨by rfl, ?_⟩) (by assumption) ?_
        rotate_left 1
        · (intro w0 hSw; go_simp; try with_reducible rfl)
        simp only [List.getElem_toArray, List.getElem_cons_zero, List.getElem_cons_succ]
        go_frame
        refine wpAnyH_take (i := 11) (v := ?_) rfl (by kernel_rfl) (by kernel_rfl) (by kernel_rfl) (fun _ _ _ h => h) (Or.inl ⟨by rfl, ?_⟩) (by assumption) ?_
        rotate_left 1
        · (intro w0 hSw; go_simp; try with_reducible rfl)
        simp only [List.getElem_toArray, List.getElem_cons_zero, List.getElem_cons_succ]
        go_frame
        refine wpAnyH_take (i := 12) (v := ?_) rfl (by kernel_rfl) (by kernel_rfl) (by kernel_rfl) (fun _ _ _ h => h) (Or.inl ⟨by rfl, ?_⟩) (by assumption) ?_
        rotate_left 1
        · (intro w0 hSw; go_simp; try with_reducible rfl)
        simp only [List.getElem_toArray, List.getElem_cons_zero, List.getElem_cons_succ]
        go_frame
        refine wpAnyH_take (i := 13) (v := ?_) rfl (by kernel_rfl) (by kernel_rfl) (by kernel_rfl) (fun _ _ _ h => h) (Or.inl ⟨by rfl, ?_⟩) (by assumption) ?_
        rotate_left 1
        · (intro w0 hSw; have y3 := hSw.cell y3 (by simp); go_simp; try with_reducible rfl)
        simp only [List.getElem_toArray, List.getElem_cons_zero, List.getElem_cons_succ]
        go_frame
        refine wpAnyH_ready (rs := [7]) (by kernel_rfl) (by simp) ?_
        refine AllReadyH.cons rfl (fun K hK => ?_) AllReadyH.nil
        simp only [List.getElem_toArray, List.getElem_cons_zero, List.getElem_cons_succ]
        go_simp
        go_at_call 35
        refine (Ca.out _).mono ?_
        rintro e7 u7 ⟨rfl, h7⟩
        rw [h7]
        clear h7 u7
        refine hK.out _ _ (hHeld) (fun hHeld2 => ?_)
        clear hK K
        (try go_frame)
        refine wpAnyH_ready (rs := [14]) (by kernel_rfl) (by simp) ?_
        refine AllReadyH.cons rfl (fun K hK => ?_) AllReadyH.nil
        simp only [List.getElem_toArray, List.getElem_cons_zero, List.getElem_cons_succ]
        go_simp
        go_at_call 35
        refine (Cd.out _).mono ?_
        rintro e8 u8 ⟨rfl, h8⟩
        rw [h8]
        clear h8 u8
        refine hK.out _ _ (hHeld) (fun hHeld2 => ?_)
        clear hK K
        (try go_frame)
        refine wpAnyH_take (i := 15) (v := ?_) rfl (by kernel_rfl) (by kernel_rfl) (by kernel_rfl) (fun _ _ _ h => h) (Or.inl ⟨by rfl, ?_⟩) (by assumption) ?_
        rotate_left 1
        · (intro w0 hSw; go_simp; try with_reducible rfl)
        simp only [List.getElem_toArray, List.getElem_cons_zero, List.getElem_cons_succ]
        go_frame
        refine wpAnyH_done (by kernel_rfl) ?_ _
        clear x3 y3
        go_wp2_with fail
        go_roundw
        case rel => exact ⟨i + 1, Hi.out.1, by first | rfl | (rw [m3]; rfl) | go_num, HS.out.keep (grown_drew _)⟩
        case measure => first | exact HM.out | (rw [m3]; exact HM.out)
      · have m4 : ¬ ((i : Int) + 1 < (all.length : Int)) := by omega
        clear hi hi'
        go_wp2_with fail
        have HS0 : Hid (PlS w U base b (.slice q ts.length c) (.slice pt ts.length ct) ts es p ok (.slice pS all.length cS) all R) := HS
        clear HS
        go_loopw [11, 12, 13, 14, 15, 16, 17, 18, 19, 20] (fun y _ _ _ _ _ _ _ _ _ wr => ∃ (j : Nat), (j ≤ ts.length) ∧ y = .int .i64 ((j : Int) + 1) ∧ Hid (PlS w wr base b (.slice q ts.length c) (.slice pt ts.length ct) ts es p ok (.slice pS all.length cS) all R)) (fun y _ _ _ _ _ _ _ _ _ _ => ts.length - ((intOf y) - 1).toNat)
        case atStart => exact ⟨0, Nat.zero_le _, rfl, HS0⟩
        case round =>
          clear HS0
          obtain ⟨j, hj', rfl, HS⟩ := hrel
          obtain ⟨X, hX⟩ : ∃ X, X = wr := ⟨_, rfl⟩
          subst hX
          by_cases hj : j < ts.length
          · obtain ⟨n1, n2, n3, n4, n5, n6⟩ := la_n hj HS.out.al.few
            obtain ⟨gT, oT, cT, eT, rT⟩ := th_there HS.out.al.th hj
            have ept : pt = some ⟨gT, oT, none⟩ := by injection eT
            subst ept
            obtain ⟨gF, epq, rF⟩ := HS.out.fat hj
            subst epq
            have ht : ts[j]? = some ts[j] := List.getElem?_eq_getElem hj
            obtain ⟨t, htd⟩ : ∃ t, t = ts[j] := ⟨_, rfl⟩
            rw [← htd] at rT ht
            obtain ⟨Y, hY⟩ : ∃ Y, Y = X.alloc (.cells #[.int .i64 t.card, .int .i64 t.owner, .int .u8 t.place, .int .i64 t.stamp, .int .i64 t.hurt, .int .i64 t.m0, .int .i64 t.m1, .int .i64 t.m2, .int .i64 t.m3, .int .i64 t.done, .bool t.fresh] 60) := ⟨_, rfl⟩
            have gY : X.grownBy Y none := by rw [hY]; exact World.grownBy_alloc _ _ none
            have HGY : Hid (X.grownBy Y none) := gY
            have HBx : Hid (ThB Y X.heap.size t) := by rw [hY]; exact alloc_at _ _ _
            have HRF : Hid (X.rangeAt gF (j * 5) (fec ((bhL R (mfB p) ts (prtF (pfB p es) ts) 6).getD j Fe.none))) := rF
            have Ht : Hid (ts[j]? = some t ∧ j < ts.length) := ⟨ht, hj⟩
            have HM : Hid (ts.length - ((intOf (.int .i64 (((j + 1 : Nat) : Int) + 1))) - 1).toNat < ts.length - ((intOf (.int .i64 ((j : Int) + 1))) - 1).toNat) := meas_1 hj
            have m7 : (0 : Int) ≤ (j : Int) + 1 := by omega
            obtain ⟨c0, c1, c2, c3, c4, c5, c6, c7, c8, c9, c10⟩ := th_cells rT
            clear hj' hj eT rT rF ht htd
            go_upto_region 18 with fail
            rw [← hY]
            clear hY c0 c1 c2 c3 c4 c5 c6 c7 c8 c9 c10
            obtain ⟨n12, hn12⟩ : ∃ n12, n12 = X.heap.size := ⟨_, rfl⟩
            rw [← hn12] at HBx ⊢
            have Hn12 : Hid (X.heap.size ≤ n12) := by show _ ≤ _; omega
            clear hn12 gY
            by_cases hp : t.place = 4
            · have C4 := HS.out.why Y HGY.out Ht.out.1 hp
              obtain ⟨L0, hL0⟩ : ∃ L0, L0 = whU R ((j : Int) + 1) (prtF (pfB p es) ts) 5 := ⟨_, rfl⟩
              rw [← hL0] at C4
              have HL0 : Hid (L0 = whU R ((j : Int) + 1) (prtF (pfB p es) ts) 5 ∧ t.place = 4) := ⟨hL0, hp⟩
              have HLl : Hid (L0.length ≤ 320) := by show _ ≤ _; rw [hL0]; exact wh_few HS.out.tab (HS.out.al.inn.few4 (vkE_of HS.out.al.vk).1) _ 5
              have hpb : (t.place != 4) = false := by rw [hp]; rfl
              clear hL0 hp
              go_wp2_with fail
              refine C4.mono ?_
              rintro e4 w4 ⟨q4, c4, rfl, g4, A4⟩
              have H4 : Hid (ThB w4 n12 t ∧ X.grownBy w4 none ∧ sdR.At w4 (.slice q4 L0.length c4) (L0.map Se.s)) := ⟨grown_keep g4 HBx.out (by simp), grown_trans HGY.out g4, A4⟩
              have C5 := vamong_any (.slice q4 L0.length c4) (.slice pS all.length cS) (L0.map Se.s) all w4 A4 (HS.out.st.keep (grown_trans HGY.out g4)) (by rw [HL0.out.1, HS.out.alls]; exact (whU_sub R _ _ 5).map Se.s) (by have := Hall.out.2; omega)
              obtain ⟨b0', b1, b2, b3, b4, b5, b6, b7, b8, b9, b10⟩ := th_box H4.out.1
              clear C4 g4 A4
              go_wp2_with fail
              refine C5.mono ?_
              rintro e5 w5 ⟨rfl, g5⟩
              have H5 : Hid (ThB w5 n12 t ∧ X.grownBy w5 none ∧ sdR.At w5 (.slice q4 L0.length c4) (L0.map Se.s)) := ⟨grown_keep g5 H4.out.1 (by simp), grown_trans H4.out.2.1 g5, H4.out.2.2.keep g5⟩
              have C6 := vplain_any _ _ _ _ _ _ _ _ _ t w5 (HS.out.al.keep H5.out.2.1).inn
              obtain ⟨fw, hfw⟩ : ∃ fw, fw = mfB p (pfB p es t) t := ⟨_, rfl⟩
              rw [← hfw] at C6
              unfold thv fev at C6
              have Hfw : Hid (fw = mfB p (pfB p es t) t) := hfw
              clear C5 g5 b0' b1 b2 b3 b4 b5 b6 b7 b8 b9 b10 H4 hfw hpb
              obtain ⟨b0', b1, b2, b3, b4, b5, b6, b7, b8, b9, b10⟩ := th_box H5.out.1
              go_wp2_with fail
              refine C6.mono ?_
              rintro e6 w6 ⟨rfl, g6⟩
              obtain ⟨V6, hV6⟩ : ∃ V6, V6 = w6.alloc (.cells #[.int .i64 fw.ho, .int .u8 fw.su, .int .u16 fw.tr, .int .i64 fw.po, .int .i64 fw.he] 64) := ⟨_, rfl⟩
              have g6' : w5.grownBy V6 none := by rw [hV6]; exact grown_push g6 _
              have H6 : Hid (ThB V6 n12 t ∧ X.grownBy V6 none ∧ sdR.At V6 (.slice q4 L0.length c4) (L0.map Se.s) ∧ FeB V6 w6.heap.size fw ∧ X.heap.size ≤ w6.heap.size) := ⟨grown_keep g6' H5.out.1 (by simp), grown_trans H5.out.2.1 g6', H5.out.2.2.keep g6', by rw [hV6]; exact alloc_at _ _ _, (grown_trans H5.out.2.1 g6).size⟩
              clear C6 g6 g6' b0' b1 b2 b3 b4 b5 b6 b7 b8 b9 b10 H5
              go_upto_region 25 with fail
              rw [← hV6]
              clear hV6
              obtain ⟨n15, hn15⟩ : ∃ n15, n15 = w6.heap.size := ⟨_, rfl⟩
              rw [← hn15] at H6 ⊢
              clear hn15
              obtain ⟨x7, C7⟩ := HS.out.al.inn.pr V6 t H6.out.2.1
              obtain ⟨fb, hfb⟩ : ∃ fb, fb = pfB p es t := ⟨_, rfl⟩
              rw [← hfb] at C7 Hfw
              unfold thv fev at C7
              have Hfb : Hid (fb = pfB p es t) := hfb
              clear hfb
              obtain ⟨b0', b1, b2, b3, b4, b5, b6, b7, b8, b9, b10⟩ := th_box H6.out.1
              go_wp2_with fail
              refine C7.mono ?_
              rintro e7 w7 ⟨rfl, g7⟩
              obtain ⟨V7, hV7⟩ : ∃ V7, V7 = w7.alloc (.cells #[.int .i64 fb.ho, .int .u8 fb.su, .int .u16 fb.tr, .int .i64 fb.po, .int .i64 fb.he] 64) := ⟨_, rfl⟩
              have g7' : V6.grownBy V7 none := by rw [hV7]; exact grown_push g7 _
              have H7 : Hid (ThB V7 n12 t ∧ X.grownBy V7 none ∧ sdR.At V7 (.slice q4 L0.length c4) (L0.map Se.s) ∧ FeB V7 n15 fw ∧ FeB V7 w7.heap.size fb ∧ X.heap.size ≤ n15 ∧ n15 < w7.heap.size) := ⟨grown_keep g7' H6.out.1 (by simp), grown_trans H6.out.2.1 g7', H6.out.2.2.1.keep g7', grown_keep g7' H6.out.2.2.2.1 (by simp), by rw [hV7]; exact alloc_at _ _ _, H6.out.2.2.2.2, Nat.lt_of_lt_of_le (block_lt H6.out.2.2.2.1) g7.size⟩
              clear C7 g7 g7' b0' b1 b2 b3 b4 b5 b6 b7 b8 b9 b10 H6
              go_upto_region 26 with fail
              rw [← hV7]
              clear hV7
              obtain ⟨n16, hn16⟩ : ∃ n16, n16 = w7.heap.size := ⟨_, rfl⟩
              rw [← hn16] at H7 ⊢
              clear hn16
              obtain ⟨L, hL⟩ : ∃ L, L = L0.map Se.s := ⟨_, rfl⟩
              have HL : Hid (L = L0.map Se.s ∧ L.length = L0.length) := ⟨hL, by rw [hL, List.length_map]⟩
              rw [← hL] at H7
              clear hL
              obtain ⟨mL, hmL⟩ : ∃ mL, mL = L0.length := ⟨_, rfl⟩
              have HmL : Hid (mL = L0.length ∧ mL = L.length ∧ mL ≤ 320) := ⟨hmL, by rw [hmL, HL.out.2], by rw [hmL]; exact HLl.out⟩
              rw [← hmL] at H7 ⊢
              clear hmL
              go_wp2_with fail
              go_loopw [18, 19, 20] (fun x y z wr => ∃ (k : Nat), k ≤ mL ∧ z = .int .i64 (k : Int) ∧ x = .int .i64 (cnS (L.take k)) ∧ y = .bool (rzB (L.take k)) ∧ wr = V7) (fun _ _ z _ => mL - (intOf z).toNat)
              case atStart => exact ⟨0, Nat.zero_le _, rfl, rfl, rfl, rfl⟩
              case round =>
                obtain ⟨k, hk', rfl, rfl, rfl, ew⟩ := hrel
                rw [ew]
                clear ew wr
                by_cases hk : k < mL
                · have hkL : k < L.length := by rw [← HmL.out.2.1]; exact hk
                  obtain ⟨gw, ow, cw, eww, rw'⟩ := sd_there H7.out.2.2.1 hkL
                  have epw : q4 = some ⟨gw, ow, none⟩ := by injection eww
                  subst epw
                  obtain ⟨sx, hsx⟩ : ∃ sx, sx = L[k] := ⟨_, rfl⟩
                  have hsx' : L[k]? = some sx := by rw [hsx]; exact List.getElem?_eq_getElem hkL
                  rw [← hsx] at rw'
                  have HN : Hid (rzB (L.take (k + 1)) = (rzB (L.take k) && decide (sx.wh.vb = 15)) ∧ cnS (L.take (k + 1)) = wrap64 (cnS (L.take k) + sx.wh.ct)) := ⟨rz_next hsx', cn_next hsx'⟩
                  obtain ⟨rz, hrz⟩ : ∃ rz, rz = rzB (L.take k) := ⟨_, rfl⟩
                  obtain ⟨cu, hcu⟩ : ∃ cu, cu = cnS (L.take k) := ⟨_, rfl⟩
                  rw [← hrz, ← hcu] at HN ⊢
                  obtain ⟨x0, x1, x2, x3, x4, x5, x6, x7', x8, x9⟩ := sd_cells rw'
                  have k1 : (k : Int) < (mL : Int) := Int.ofNat_lt.2 hk
                  have hwk := wrap_next (k := k) (Nat.le_trans (Nat.le_of_lt hk) (Nat.le_trans HmL.out.2.2 (by decide)))
                  have Hk : Hid (k + 1 ≤ mL) := hk
                  have HMk : Hid (mL - (intOf (.int .i64 ((k : Int) + 1))).toNat < mL - (intOf (.int .i64 (k : Int))).toNat) := meas_k hk
                  clear hk hk' hkL eww rw' hsx hsx' hrz hcu x0 x1 x2 x4 x6 x7' x8 x9
                  cases rz with
                  | false =>
                    have HN1 : Hid (rzB (L.take (k + 1)) = false) := HN.out.1
                    go_wp2_with fail
                    go_roundw
                    case rel => exact ⟨k + 1, Hk.out, by first | rfl | (rw [hwk]; rfl) | go_num, by rw [HN.out.2], by rw [HN1.out], by trivial⟩
                    case measure => first | exact HMk.out | (rw [hwk]; exact HMk.out)
                  | true =>
                    by_cases hv : sx.wh.vb = 15
                    · have hvb : (sx.wh.vb == 15) = true := by rw [hv]; rfl
                      have HN1 : Hid (rzB (L.take (k + 1)) = true) := by show _ = _; rw [HN.out.1, decide_eq_true hv]; rfl
                      clear hv
                      go_wp2_with fail
                      go_roundw
                      case rel => exact ⟨k + 1, Hk.out, by first | rfl | (rw [hwk]; rfl) | go_num, by rw [HN.out.2], by rw [HN1.out], by trivial⟩
                      case measure => first | exact HMk.out | (rw [hwk]; exact HMk.out)
                    · have hvb : (sx.wh.vb == 15) = false := by simpa using hv
                      have HN1 : Hid (rzB (L.take (k + 1)) = false) := by show _ = _; rw [HN.out.1, decide_eq_false hv]; rfl
                      clear hv
                      go_wp2_with fail
                      go_roundw
                      case rel => exact ⟨k + 1, Hk.out, by first | rfl | (rw [hwk]; rfl) | go_num, by rw [HN.out.2], by rw [HN1.out], by trivial⟩
                      case measure => first | exact HMk.out | (rw [hwk]; exact HMk.out)
                · obtain rfl : k = mL := Nat.le_antisymm hk' (Nat.le_of_not_lt hk)
                  have htl : L.take k = L := List.take_of_length_le (by have := HmL.out.2.1; omega)
                  rw [htl]
                  obtain ⟨rz, hrz⟩ : ∃ rz, rz = rzB L := ⟨_, rfl⟩
                  obtain ⟨mo, hmo⟩ : ∃ mo, mo = cnS L := ⟨_, rfl⟩
                  have Hrz : Hid (rz = rzB L ∧ mo = cnS L) := ⟨hrz, hmo⟩
                  rw [← hrz, ← hmo]
                  have k1 : ¬ (k : Int) < (k : Int) := Int.lt_irrefl _
                  clear hk' hk htl hrz hmo
                  by_cases h0 : k = 0
                  · have HE : Hid ((bhL R (mfB p) ts (prtF (pfB p es) ts) 6).getD j Fe.none = fw ∧ rz = true) := plain_a HS.out.tab Ht.out.1 HL0.out.2 HL0.out.1 HL.out.1 (by have := HmL.out.1; omega) Hfb.out Hfw.out Hrz.out.1
                    have er := HE.out.2
                    subst er
                    have e0 : ((k : Int) == 0) = true := by rw [h0]; rfl
                    have e0' : ¬ ((0 : Int) < (k : Int)) := by rw [h0]; decide
                    have e0d : decide ((0 : Int) < (k : Int)) = false := decide_eq_false e0'
                    have HRF7 : Hid (V7.rangeAt gF (j * 5) (fec fw)) := by have := rangeAt_keep HRF.out H7.out.2.1; rw [HE.out.1] at this; exact this
                    clear h0 HE
                    go_upto_region 32 with fail
                    obtain ⟨f0, f1, f2, f3, f4⟩ := fe_cells HRF7.out
                    obtain ⟨z0, z1, z2, z3, z4⟩ := fe_box H7.out.2.2.2.1
                    have hnq := neq_feL
                    have hgq := eqg_feL
                    go_quiet (fail)
                    clear f0 f1 f2 f3 f4 z0 z1 z2 z3 z4 hnq hgq
                    go_wp2_with fail
                    go_roundw
                    case rel => exact ⟨j + 1, Ht.out.2, by first | rfl | (rw [n3]; rfl) | go_num, HS.out.keep (grown_trans H7.out.2.1 (grown_drewN _ _ _))⟩
                    case measure => first | exact HM.out | (rw [n3]; exact HM.out)
                  · have e0 : ((k : Int) == 0) = false := by rw [beq_eq_false_iff_ne]; omega
                    have e0' : (0 : Int) < (k : Int) := by omega
                    have e0d : decide ((0 : Int) < (k : Int)) = true := decide_eq_true e0'
                    have HK0 : Hid (k ≠ 0) := h0
                    clear h0
                    go_upto_region 32 with fail
                    go_quiet (fail)
                    cases rz with
                    | false =>
                      go_wp2_with fail
                      go_roundw
                      case rel => exact ⟨j + 1, Ht.out.2, by first | rfl | (rw [n3]; rfl) | go_num, HS.out.keep (grown_trans H7.out.2.1 (grown_drewN _ _ _))⟩
                      case measure => first | exact HM.out | (rw [n3]; exact HM.out)
                    | true =>
                      obtain ⟨V8, hV8⟩ : ∃ V8, V8 = V7.drewN nq := ⟨_, rfl⟩
                      have g8 : V7.grownBy V8 none := by rw [hV8]; exact grown_drewN _ _ _
                      rw [← hV8]
                      have H8 : Hid (ThB V8 n12 t ∧ X.grownBy V8 none ∧ FeB V8 n15 fw ∧ FeB V8 n16 fb) := ⟨grown_keep g8 H7.out.1 (by simp), grown_trans H7.out.2.1 g8, grown_keep g8 H7.out.2.2.2.1 (by simp), grown_keep g8 H7.out.2.2.2.2.1 (by simp)⟩
                      have Hnn : Hid (X.heap.size ≤ n15 ∧ n15 < n16 ∧ some n12 ≠ some n16 ∧ some n12 ≠ some n15) := ⟨H7.out.2.2.2.2.2.1, H7.out.2.2.2.2.2.2, fun q => by cases q; have := H7.out.1.symm.trans H7.out.2.2.2.2.1; simp at this, fun q => by cases q; have := H7.out.1.symm.trans H7.out.2.2.2.1; simp at this⟩
                      clear hV8 g8
                      obtain ⟨fm, hfm⟩ : ∃ fm, fm = moreF fb mo := ⟨_, rfl⟩
                      obtain ⟨f9, hf9⟩ : ∃ f9, f9 = mfB p fm t := ⟨_, rfl⟩
                      have HE : Hid ((bhL R (mfB p) ts (prtF (pfB p es) ts) 6).getD j Fe.none = f9) := by
                        show _ = _
                        rw [hf9, hfm]
                        exact plain_b HS.out.tab Ht.out.1 HL0.out.2 HL0.out.1 HL.out.1 (by rw [← HmL.out.1]; exact HK0.out) Hfb.out Hrz.out.1 Hrz.out.2
                      obtain ⟨z0, z1, z2, z3, z4⟩ := fe_box H8.out.2.2.2
                      have zf := fun i => block_free H8.out.2.2.2 i
                      obtain ⟨Z1, hZ1⟩ : ∃ Z1, Z1 = (V8.setCell ⟨n16, 3, none⟩ (.int .i64 (wrap64 (fb.po + mo)))).setCell ⟨n16, 4, none⟩ (.int .i64 (wrap64 (fb.he + mo))) := ⟨_, rfl⟩
                      have gZ1 : V8.grownBy Z1 (some n16) := by rw [hZ1]; exact grown_trans (grown_set _ _ _ _) (grown_set _ _ _ _)
                      have HZ1 : Hid (ThB Z1 n12 t ∧ X.grownBy Z1 none ∧ FeB Z1 n15 fw ∧ FeB Z1 n16 fm) := ⟨grown_keep gZ1 H8.out.1 Hnn.out.2.2.1, grown_own H8.out.2.1 gZ1 (fun y e => by cases e; have := Hnn.out; omega), grown_keep gZ1 H8.out.2.2.1 (fun q => by cases q; exact Nat.lt_irrefl _ Hnn.out.2.1), by rw [hZ1, hfm]; exact block_set (block_set H8.out.2.2.2 3 _) 4 _⟩
                      clear gZ1
                      go_upto_region 36 with fail
                      rw [← hZ1]
                      clear hZ1 z0 z1 z2 z3 z4 zf hfm
                      have C9 := HS.out.al.inn.mkd Z1 fm t HZ1.out.2.1
                      rw [← hf9] at C9
                      unfold fev at C9
                      obtain ⟨b0', b1, b2, b3, b4, b5, b6, b7, b8, b9, b10⟩ := th_box HZ1.out.1
                      obtain ⟨z0, z1, z2, z3, z4⟩ := fe_box HZ1.out.2.2.2
                      clear hf9
                      go_wp2_with fail
                      refine C9.mono ?_
                      rintro e9 w9 ⟨rfl, g9⟩
                      have H9 : Hid (X.grownBy w9 none ∧ FeB w9 n15 fw) := ⟨grown_trans HZ1.out.2.1 g9, grown_keep g9 HZ1.out.2.2.1 (by simp)⟩
                      clear C9 g9 b0' b1 b2 b3 b4 b5 b6 b7 b8 b9 b10 z0 z1 z2 z3 z4
                      obtain ⟨z0, z1, z2, z3, z4⟩ := fe_box H9.out.2
                      have zf := fun i => block_free H9.out.2 i
                      obtain ⟨Z2, hZ2⟩ : ∃ Z2, Z2 = ((((w9.setCell ⟨n15, 0, none⟩ (.int .i64 f9.ho)).setCell ⟨n15, 1, none⟩ (.int .u8 f9.su)).setCell ⟨n15, 2, none⟩ (.int .u16 f9.tr)).setCell ⟨n15, 3, none⟩ (.int .i64 f9.po)).setCell ⟨n15, 4, none⟩ (.int .i64 f9.he) := ⟨_, rfl⟩
                      have gZ2 : w9.grownBy Z2 (some n15) := by rw [hZ2]; exact grown_trans (grown_trans (grown_trans (grown_trans (grown_set _ _ _ _) (grown_set _ _ _ _)) (grown_set _ _ _ _)) (grown_set _ _ _ _)) (grown_set _ _ _ _)
                      have HZ2 : Hid (X.grownBy Z2 none ∧ FeB Z2 n15 f9) := ⟨grown_own H9.out.1 gZ2 (fun y e => by cases e; exact Hnn.out.1), by rw [hZ2]; exact block_set (block_set (block_set (block_set (block_set H9.out.2 0 _) 1 _) 2 _) 3 _) 4 _⟩
                      clear gZ2
                      go_upto_region 37 with fail
                      rw [← hZ2]
                      clear hZ2 z0 z1 z2 z3 z4 zf
                      have HRFz : Hid (Z2.rangeAt gF (j * 5) (fec f9)) := by have := rangeAt_keep HRF.out HZ2.out.1; rw [HE.out] at this; exact this
                      obtain ⟨f0, f1, f2, f3, f4⟩ := fe_cells HRFz.out
                      obtain ⟨z0, z1, z2, z3, z4⟩ := fe_box HZ2.out.2
                      have hnq := neq_feL
                      have hgq := eqg_feL
                      go_quiet (fail)
                      clear f0 f1 f2 f3 f4 z0 z1 z2 z3 z4 hnq hgq
                      go_wp2_with fail
                      go_roundw
                      case rel => exact ⟨j + 1, Ht.out.2, by first | rfl | (rw [n3]; rfl) | go_num, HS.out.keep (grown_trans HZ2.out.1 (grown_drewN _ _ _))⟩
                      case measure => first | exact HM.out | (rw [n3]; exact HM.out)
            · have hpb : (t.place != 4) = true := by simpa using hp
              have C4 := HS.out.off Y HGY.out Ht.out.1 hp
              have HRF0 : Hid (X.rangeAt gF (j * 5) (fec Fe.none)) := by have := HRF.out; rw [plain_off Ht.out.1 hp] at this; exact this
              clear hp HRF
              go_wp2_with fail
              refine C4.mono ?_
              rintro e4 w4 ⟨q4, m4, c4, rfl, g4⟩
              have H4 : Hid (ThB w4 n12 t ∧ X.grownBy w4 none) := ⟨grown_keep g4 HBx.out (by simp), grown_trans HGY.out g4⟩
              obtain ⟨b0', b1, b2, b3, b4, b5, b6, b7, b8, b9, b10⟩ := th_box H4.out.1
              obtain ⟨f0, f1, f2, f3, f4⟩ := fe_none_at (rangeAt_keep HRF0.out H4.out.2)
              have hnq := neq_feL
              have hgq := eqg_feL
              clear C4 g4
              go_wp2_with fail
              go_roundw
              case rel => exact ⟨j + 1, Ht.out.2, by first | rfl | (rw [n3]; rfl) | go_num, HS.out.keep H4.out.2⟩
              case measure => first | exact HM.out | (rw [n3]; exact HM.out)
          · have n4 : ¬ ((j : Int) + 1 ≤ (ts.length : Int)) := by omega
            have HX : Hid (w.grownBy X none) := HS.out.gr
            clear hj hj'
            go_wp2_with fail
            go_ret
            exact ⟨rfl, HX.out⟩
end Go.Proofs.YtmemeloehgemcaaGreat
namespace Go.Proofs.YtmemeloehgemcaaGreat
open Go.RowKit Go.Shelf Go.Deep

theorem recs_cap {α : Type} (R : RecT α) {T E : TypeId} (hu : Tryz.prog.underlying T = some (.slice E)) {H : Type} {enc : TypeId × Value → H} {w : World} {base : Nat} {sp : Nat → Bool} {held : Bool} {fuel : Nat} {v : Value} {x : DataW H × List MemPlace} (h : DataW.trod enc Tryz.prog w base sp held fuel T [v] = some x) {l : List α} (hA : R.At w v l) : ∃ q c, v = .slice q l.length c ∧ l.length ≤ c := by
  obtain ⟨p, c, e⟩ := hA.form
  rcases open_slice hu h with ⟨hcs, _⟩ | ⟨a, len, cp, m, f, D, Pl, hcs, _, hl, hm, hmm, hxx, hx⟩
  · simp at hcs
    rw [e] at hcs
    injection hcs with _ e2 e3
    exact ⟨p, c, e, by omega⟩
  · simp at hcs
    rw [e] at hcs
    injection hcs with _ e2 e3
    exact ⟨p, c, e, by omega⟩
theorem open_things {H : Type} {enc : TypeId × Value → H} {w : World} {base : Nat} {sp : Nat → Bool} {held : Bool} {v : Value} {x : DataW H × List MemPlace} (h : ∃ fuel, DataW.trod enc Tryz.prog w base sp held fuel 26 [v] = some x) : ∃ ts, thR.At w v ts ∧ ∃ q c, v = .slice q ts.length c ∧ ts.length ≤ c := by
  obtain ⟨fuel, hf⟩ := h
  haveI : Inhabited Th := ⟨⟨0, 0, 0, 0, 0, 0, 0, 0, 0, 0, false⟩⟩
  obtain ⟨ts, hT⟩ := recs_open thR Tryz.underlying26 cOfTh (fun a b => thing_cells a b) hf
  exact ⟨ts, hT, recs_cap thR Tryz.underlying26 hf hT⟩
end Go.Proofs.YtmemeloehgemcaaGreat
