/-
  Layers: All.
-/
import Derived.Test.YtmemeloehgemcaaGreatLzA
namespace Go.Proofs.YtmemeloehgemcaaGreat
open Go.RowKit

theorem own_tagged {w w' : World} {base e size n b : Nat} {v : Value} {xs : List Value} {cs : Array Value} {t : TypeId} {fr : Nat × Nat} (h : w.ownsRow base e size v n xs) (g : w.grownBy w' (some b)) (hb : w.heap[b]? = some (.cells cs t fr)) (hne : t ≠ e) : w'.ownsRow base e size v n xs := by
  refine World.ownsRow.kept h g ?_
  cases hv : v.ownBlock with
  | none => exact Or.inl rfl
  | some y => exact Or.inr fun q => own_tag h hb hne (by rw [hv, ← q])
theorem TbO.tagged {w w' : World} {base b : Nat} {vr vf : Value} {X : List Rv} {F : List Fe} {cs : Array Value} {t : TypeId} {fr : Nat × Nat} (h : TbO w base vr vf X F) (g : w.grownBy w' (some b)) (hb : w.heap[b]? = some (.cells cs t fr)) (h1 : t ≠ 174) (h2 : t ≠ 47) (h3 : t ≠ 64) : TbO w' base vr vf X F := ⟨own_tagged h.rows g hb h1, fun x hx => ⟨own_tagged (h.parts x hx).1 g hb h2, (h.parts x hx).2⟩, own_tagged h.fs g hb h3, h.len, h.few⟩
theorem TbO.block {w w' : World} {base : Nat} {vr vf v : Value} {X : List Rv} {F : List Fe} {b' t size n : Nat} {xs : List Value} (h : TbO w base vr vf X F) (o : w.ownsRow b' t size v n xs) (g : w.grownBy w' v.ownBlock) (h1 : t ≠ 174) (h2 : t ≠ 47) (h3 : t ≠ 64) : TbO w' base vr vf X F := ⟨own_other h.rows o h1 g, fun x hx => ⟨own_other (h.parts x hx).1 o h2 g, (h.parts x hx).2⟩, own_other h.fs o h3 g, h.len, h.few⟩
theorem tb_block {w w' : World} {nb : Nat} {vr vf v : Value} {b' t size n : Nat} {xs : List Value} (h : TbB w nb vr vf) (o : w.ownsRow b' t size v n xs) (g : w.grownBy w' v.ownBlock) (h1 : 118 ≠ t) : TbB w' nb vr vf := grown_keep g h (own_tag o h h1)
structure AlS (w wr : World) (B nb : Nat) (vr vf vL vA : Value) (X : List Rv) (F : List Fe) (L A : List Se) : Prop where
  tb : TbO wr B vr vf X F
  bx : TbB wr nb vr vf
  lf : SOwn wr B vL L
  ap : DOwn wr B vA (A.map Se.s)
  ro : ∀ i, i < L.length → (L.getD i Se.none).ro < X.length
  fw : L.length + A.length ≤ 64
  gr : w.grownBy wr none
structure AlT (w wr : World) (B nb : Nat) (vr vf vL vA : Value) (X : List Rv) (F : List Fe) (L A : List Se) : Prop where
  tb : TbO wr B vr vf X F
  bx : TbB wr nb vr vf
  lf : SOwn wr B vL L
  ap : DOwn wr B vA (A.map Se.s)
  ro : ∀ i, i < L.length → (L.getD i Se.none).ro < X.length
  fw : L.length + A.length ≤ 65
  gr : w.grownBy wr none
theorem AlS.grow {w wr wr' : World} {B nb : Nat} {vr vf vL vA : Value} {X : List Rv} {F : List Fe} {L A : List Se} (h : AlS w wr B nb vr vf vL vA X F L A) (g : wr.grownBy wr' none) : AlS w wr' B nb vr vf vL vA X F L A := ⟨h.tb.grow g, grown_keep g h.bx (by simp), h.lf.grow g, h.ap.grow g, h.ro, h.fw, grown_trans h.gr g⟩
theorem grown_rowL (w : World) (g : Nat) (cs : Array Value) : w.grownBy (w.setRow g cs) (some g) :=
  ⟨rfl, rfl, rfl, by simp [World.setRow], fun k _ hk => setRow_other w g k cs (fun e => hk (by rw [e]))⟩
theorem AlS.stored {w wr : World} {B nb : Nat} {vr vf vf' vL vA : Value} {X : List Rv} {F F' : List Fe} {L A : List Se} (h : AlS w wr B nb vr vf vL vA X F L A) (o : FOwn wr B vf' F') (hl : F'.length = F.length) (hb : w.heap.size ≤ nb) : AlS w (wr.setRow nb #[vr, vf']) B nb vr vf' vL vA X F' L A := by
  have g := grown_rowL wr nb #[vr, vf']
  have t := h.tb.tagged g h.bx (by decide) (by decide) (by decide)
  exact ⟨⟨t.rows, t.parts, own_tagged o g h.bx (by decide), by rw [hl]; exact h.tb.len, t.few⟩, setRow_heap wr nb _ _ _ _ h.bx, own_tagged h.lf g h.bx (by decide), own_tagged h.ap g h.bx (by decide), h.ro, h.fw, grown_cells h.gr hb _⟩
theorem AlS.taken {w wr w' : World} {B nb : Nat} {vr vf vL vA vA' : Value} {X : List Rv} {F : List Fe} {L A A' : List Se} (h : AlS w wr B nb vr vf vL vA X F L A) (o : DOwn w' B vA' (A'.map Se.s)) (g : wr.grownBy w' vA.ownBlock) (hf : L.length + A'.length ≤ 65) (hB : w.heap.size ≤ B) : AlT w w' B nb vr vf vL vA' X F L A' := ⟨h.tb.block h.ap g (by decide) (by decide) (by decide), tb_block h.bx h.ap g (by decide), own_other h.lf h.ap (by decide) g, o, h.ro, hf, grown_own h.gr g (fun y e => Nat.le_trans hB (World.ownsRow.lt h.ap y e).1)⟩
theorem AlT.cut {w wr w' : World} {B nb : Nat} {vr vf vL vL' vA : Value} {X : List Rv} {F : List Fe} {L L' A : List Se} (h : AlT w wr B nb vr vf vL vA X F L A) (o : SOwn w' B vL' L') (g : wr.grownBy w' vL.ownBlock) (hr : ∀ i, i < L'.length → (L'.getD i Se.none).ro < X.length) (hf : L'.length + A.length ≤ 64) (hB : w.heap.size ≤ B) : AlS w w' B nb vr vf vL' vA X F L' A := ⟨h.tb.block h.lf g (by decide) (by decide) (by decide), tb_block h.bx h.lf g (by decide), o, own_other h.ap h.lf (by decide) g, hr, hf, grown_own h.gr g (fun y e => Nat.le_trans hB (World.ownsRow.lt h.lf y e).1)⟩
def sliceLen : Value → Nat
  | .slice _ n _ => n
  | _ => 0
def allR (R : List Rw) (fs : List Fe) (k : Int) : List Fe × List Se := allL R (effL R (pickF R fs) k).length (pickF R fs) (effL R (pickF R fs) k) []
theorem allL_step {R : List Rw} {n : Nat} {F : List Fe} {L A : List Se} (h : L ≠ []) : allL R (n + 1) F L A = allL R n (applyL R F (L.getD (nextN R F L) Se.none)) (L.eraseIdx (nextN R F L)) (A ++ [L.getD (nextN R F L) Se.none]) := by
  rw [allL, if_neg h]
def AllPost (w : World) (r n : Int) (cd : Int → Hd × List Pt) (ts : List Th) (fs : List Fe) (k : Int) (e : Ending) (w' : World) : Prop := ∃ p m c p' m' c', e = .returned (.tuple #[.slice p m c, .slice p' m' c', .int .i64 (bgE r n cd ts fs k)]) ∧ w.grownBy w' none ∧ (bgE r n cd ts fs k ≠ 0 → m = 0 ∧ p = none ∧ m' = 0 ∧ p' = none) ∧ ∀ R, r = 0 → 1 ≤ k ∧ k ≤ 5 → tabR n cd ts fs = some R → FOwn w' w.heap.size (.slice p m c) (amgL fs R (allR R fs k).1) ∧ DOwn w' w.heap.size (.slice p' m' c') ((allR R fs k).2.map Se.s)
theorem erase_ro {X : List Rv} {L : List Se} {p : Nat} (h : ∀ i, i < L.length → (L.getD i Se.none).ro < X.length) : ∀ i, i < (L.eraseIdx p).length → ((L.eraseIdx p).getD i Se.none).ro < X.length := fun i hi => by
  rw [getD_in hi]
  have hm : (L.eraseIdx p)[i] ∈ L := (List.eraseIdx_sublist L p).mem (List.getElem_mem hi)
  obtain ⟨j, hj, e⟩ := List.mem_iff_getElem.1 hm
  have := h j hj
  rw [getD_in hj, e] at this
  exact this
theorem all_ro {X : List Rv} {L : List Se} (h : ∀ e ∈ L, e.ro < X.length) : ∀ i, i < L.length → (L.getD i Se.none).ro < X.length := fun i hi => by rw [getD_in hi]; exact h _ (List.getElem_mem hi)
set_option maxRecDepth 100000 in
set_option maxHeartbeats 4000000 in
theorem lAll_any (bv vt vf : Value) (r n : Int) (cd : Int → Hd × List Pt) (ts : List Th) (fs : List Fe) (k : Int) (w : World) (I : LIn w bv vt vf r n cd ts fs) : Calls Tryz.prog 19 #[bv, vt, vf, .int .i64 k] w (AllPost w r n cd ts fs k) := by
  obtain ⟨i0, hi, hz0, hz1, hz2⟩ := info_parts Tryz.linfoD
  obtain ⟨pt, ct, rfl⟩ := I.things.form
  obtain ⟨pf, cf, rfl⟩ := I.feats.form
  have HBg := lbegin_any bv _ _ r n cd ts fs k w I
  unfold BgPost tbv at HBg
  have HI : Hid (LIn w bv (.slice pt ts.length ct) (.slice pf fs.length cf) r n cd ts fs) := I
  clear I
  go_enter Tryz.func19, Tryz.ntmps19
  go_wp2_with fail
  refine HBg.mono ?_
  rintro e2 w2 ⟨p1, m1, c1, p2, m2, c2, p3, m3, c3, rfl, g2, h2⟩
  obtain ⟨q, hq⟩ : ∃ q, q = bgE r n cd ts fs k := ⟨_, rfl⟩
  have Hq : Hid (q = bgE r n cd ts fs k) := hq
  rw [← hq]
  obtain ⟨V, hV⟩ : ∃ V, V = w2.alloc (.cells #[.slice p1 m1 c1, .slice p2 m2 c2] 118) := ⟨_, rfl⟩
  have HGV : Hid (w.grownBy V none) := by rw [hV]; exact grown_push g2 _
  have HBt : Hid (TbB V w2.heap.size (.slice p1 m1 c1) (.slice p2 m2 c2)) := by rw [hV]; exact alloc_at _ _ _
  have H2 : Hid (∀ R, r = 0 → 1 ≤ k ∧ k ≤ 5 → tabR n cd ts fs = some R → ∃ X, rws X = R ∧ TbO V w.heap.size (.slice p1 m1 c1) (.slice p2 m2 c2) X (pickF R fs) ∧ (∀ x ∈ X, 1 ≤ x.r.nu ∧ x.r.nu ≤ (fs.length : Int)) ∧ SOwn V w.heap.size (.slice p3 m3 c3) (effL R (pickF R fs) k)) := fun R a b c => by
    obtain ⟨X, x1, x2, x3, x4⟩ := h2 R a b c
    have g := World.grownBy_alloc w2 (.cells #[.slice p1 m1 c1, .slice p2 m2 c2] 118) none
    exact ⟨X, x1, by rw [hV]; exact x2.grow g, x3, by rw [hV]; exact own_grow x4 g⟩
  have Hw2 : Hid (w.heap.size ≤ w2.heap.size) := g2.size
  clear HBg g2 h2 hq
  go_upto_region 2 with fail
  rw [← hV]
  obtain ⟨nb, hnb⟩ : ∃ nb, nb = w2.heap.size := ⟨_, rfl⟩
  rw [← hnb] at HBt Hw2 ⊢
  clear hV hnb
  by_cases hq0 : q = 0
  · have e1 : (q != 0) = false := by simpa using hq0
    obtain ⟨hr0, hk0, R, hR⟩ := bgE_of (Hq.out.symm.trans hq0)
    obtain ⟨X, hX, hT, hnu, hS⟩ := H2.out R hr0 hk0 hR
    have HRL : Hid (rws X = R ∧ tabR n cd ts fs = some R ∧ bgE r n cd ts fs k = 0) := ⟨hX, hR, Hq.out.symm.trans hq0⟩
    obtain ⟨L0, hL0⟩ : ∃ L0, L0 = effL R (pickF R fs) k := ⟨_, rfl⟩
    have hLl : L0.length ≤ 64 := by rw [hL0, ← hX]; exact effL_len (fun x hx => (hT.parts x hx).2) hT.few
    have hro : ∀ e ∈ L0, e.ro < X.length := fun e he => by rw [hL0] at he; have := effL_ro he; rwa [← hX, rws_len] at this
    rw [← hL0] at hS
    have HA0 : Hid (AlS w V w.heap.size nb (.slice p1 m1 c1) (.slice p2 m2 c2) (.slice p3 m3 c3) (.slice none 0 0) X (pickF R fs) L0 []) := ⟨hT, HBt.out, hS, RecT.Own.nil _ _ _ _, all_ro hro, by simpa using hLl, HGV.out⟩
    have Hall : Hid (allR R fs k = allL (rws X) L0.length (pickF R fs) L0 []) := by show _ = _; unfold allR; rw [hL0, hX]
    have Hnu : Hid (∀ x ∈ X, 1 ≤ x.r.nu ∧ x.r.nu ≤ (fs.length : Int)) := hnu
    obtain ⟨F0, hF0⟩ : ∃ F0, F0 = pickF R fs := ⟨_, rfl⟩
    rw [← hF0] at HA0 Hall
    clear hq0 hr0 hk0 hR hX hT hnu hS H2 hL0 hLl hro hF0 HBt
    go_wp2_with fail
    go_loopw [12, 14, 15] (fun vL vA _ wr => ∃ (vf' : Value) (F : List Fe) (L A : List Se), Hid (AlS w wr w.heap.size nb (.slice p1 m1 c1) vf' vL vA X F L A) ∧ Hid (allL (rws X) L.length F L A = allL (rws X) L0.length F0 L0 [])) (fun vL _ _ _ => sliceLen vL)
    case atStart => exact ⟨_, F0, L0, [], HA0.out, rfl⟩
    case round =>
      clear HA0
      obtain ⟨vf', F, L, A, HS, HE⟩ := hrel
      obtain ⟨U, hU⟩ : ∃ U, U = wr := ⟨_, rfl⟩
      subst hU
      obtain ⟨pL, cL, rfl⟩ := HS.out.lf.form
      obtain ⟨pA, cA, rfl⟩ := HS.out.ap.form
      rw [List.length_map] at HS ⊢
      obtain ⟨pF, cF, rfl⟩ := RecT.Own.form HS.out.tb.fs
      by_cases hlt : 0 < L.length
      · have hne : L ≠ [] := List.length_pos_iff.1 hlt
        have HNx := lnext_any _ _ (.slice pL L.length cL) X F L U HS.out.tb.at (RecT.Own.at HS.out.lf) HS.out.ro (by have := HS.out.fw; omega)
        obtain ⟨p, hp⟩ : ∃ p, p = nextN (rws X) F L := ⟨_, rfl⟩
        have hpl : p < L.length := by rw [hp]; exact nextN_lt hne
        have HStp : Hid (allL (rws X) L.length F L A = allL (rws X) (L.length - 1) (applyL (rws X) F (L.getD p Se.none)) (L.eraseIdx p) (A ++ [L.getD p Se.none])) := by
          show _ = _
          obtain ⟨m, hm⟩ : ∃ m, L.length = m + 1 := ⟨L.length - 1, by omega⟩
          rw [hm, allL_step hne, ← hp]
          rfl
        rw [← hp] at HNx
        unfold tbv at HNx
        obtain ⟨a0, a1⟩ := tb_box HS.out.bx
        have hlt' : (0 : Int) < (L.length : Int) := by omega
        have Hpl : Hid (p < L.length) := hpl
        clear hp hne hlt hpl
        go_wp2_with fail
        refine HNx.mono ?_
        rintro e4 w4 ⟨rfl, g4⟩
        have HS4 : Hid (AlS w w4 w.heap.size nb (.slice p1 m1 c1) (.slice pF F.length cF) (.slice pL L.length cL) (.slice pA A.length cA) X F L A) := HS.out.grow g4
        obtain ⟨g, off, cap, e1, RR⟩ := SeAt.there (RecT.Own.at HS4.out.lf) Hpl.out
        cases e1
        obtain ⟨g', cap', e', hgB, -, -, -, -⟩ := own_cell HS4.out.lf (Nat.lt_of_le_of_lt (Nat.zero_le _) Hpl.out)
        cases e'
        obtain ⟨e, he⟩ : ∃ e, e = L.getD p Se.none := ⟨_, rfl⟩
        have Hro : Hid (e.ro < X.length) := by show e.ro < X.length; rw [he]; exact HS4.out.ro p Hpl.out
        rw [← he] at RR HStp
        simp only [Nat.zero_add] at RR
        obtain ⟨t0, t1⟩ := tb_box HS4.out.bx
        obtain ⟨s0, s1, s2, s3, s4, s5, s6, s7, s8, s9, s10⟩ := se_cells RR
        have C1 := lapply_any _ _ X F e w4.drew (HS4.out.tb.at.keep (grown_drew _)) Hro.out
        unfold tbv sev at C1
        have HBw : Hid (w.heap.size ≤ w4.heap.size) := HS4.out.gr.size
        have hpl' : (p : Int) < (L.length : Int) := Int.ofNat_lt.2 Hpl.out
        have hwk := wrap_next (k := p) (Nat.le_trans (Nat.le_of_lt Hpl.out) (by have := HS4.out.fw; omega))
        have He : Hid (e = L.getD p Se.none) := he
        have Hgn : Hid (some g ≠ some nb) := fun q => own_tag HS4.out.lf HS4.out.bx (by decide) (q.symm.trans rfl)
        clear HNx g4 RR he a0 a1
        go_upto_region 7 with fail
        refine wp_region_held_drew (S := fun w' => w4.grownBy w' (some nb)) (by kernel_rfl) (grown_drewR _ _) (fun hHeld => ?_)
        refine wpAnyH_take (i := 1) (v := ?_) rfl (by kernel_rfl) (by kernel_rfl) (by kernel_rfl) (fun _ _ _ h => h) (Or.inl ⟨by rfl, ?_⟩) (by assumption) ?_
        rotate_left 1
        · (intro w0 hSw; go_simp; try with_reducible rfl)
        simp only [List.getElem_toArray, List.getElem_cons_zero, List.getElem_cons_succ]
        go_frame
        refine wpAnyH_take (i := 2) (v := ?_) rfl (by kernel_rfl) (by kernel_rfl) (by kernel_rfl) (fun _ _ _ h => h) (Or.inl ⟨by rfl, ?_⟩) (by assumption) ?_
        rotate_left 1
        · (intro w0 hSw; go_simp; try with_reducible rfl)
        simp only [List.getElem_toArray, List.getElem_cons_zero, List.getElem_cons_succ]
        go_frame
        refine wpAnyH_take (i := 3) (v := ?_) rfl (by kernel_rfl) (by kernel_rfl) (by kernel_rfl) (fun _ _ _ h => h) (Or.inl ⟨by rfl, ?_⟩) (by assumption) ?_
        rotate_left 1
        · (intro w0 hSw; go_simp; try with_reducible rfl)
        simp only [List.getElem_toArray, List.getElem_cons_zero, List.getElem_cons_succ]
        go_frame
        refine wpAnyH_take (i := 4) (v := ?_) rfl (by kernel_rfl) (by kernel_rfl) (by kernel_rfl) (fun _ _ _ h => h) (Or.inl ⟨by rfl, ?_⟩) (by assumption) ?_
        rotate_left 1
        · (intro w0 hSw; have s0 := hSw.cell s0 Hgn.out; have s1 := hSw.cell s1 Hgn.out; have s2 := hSw.cell s2 Hgn.out; have s3 := hSw.cell s3 Hgn.out; have s4 := hSw.cell s4 Hgn.out; have s5 := hSw.cell s5 Hgn.out; have s6 := hSw.cell s6 Hgn.out; have s7 := hSw.cell s7 Hgn.out; have s8 := hSw.cell s8 Hgn.out; have s9 := hSw.cell s9 Hgn.out; have s10 := hSw.cell s10 Hgn.out; go_simp; try with_reducible rfl)
        simp only [List.getElem_toArray, List.getElem_cons_zero, List.getElem_cons_succ]
        go_frame
        refine wpAnyH_ready (rs := [0]) (by kernel_rfl) (by simp) ?_
        refine AllReadyH.cons rfl (fun K9 hK => ?_) AllReadyH.nil
        simp only [List.getElem_toArray, List.getElem_cons_zero]
        go_simp
        refine hK.out _ _ (by assumption) (fun hHeld3 => ?_)
        clear hK K9
        (try go_frame)
        refine wpAnyH_ready (rs := [5]) (by kernel_rfl) (by simp) ?_
        refine AllReadyH.cons rfl (fun K hK => ?_) AllReadyH.nil
        simp only [List.getElem_toArray, List.getElem_cons_zero, List.getElem_cons_succ]
        go_simp
        go_at_call 54
        refine (C1).mono ?_
        rintro e5 w5 ⟨v5, rfl, o5, g5⟩
        obtain ⟨p6, c6, rfl⟩ := o5.form
        have HG5 : Hid (w4.grownBy w5 none) := grown_trans (grown_drew _) g5
        have HS5 : Hid (AlS w w5 w.heap.size nb (.slice p1 m1 c1) (.slice pF F.length cF) (.slice (some ⟨g, 0, none⟩) L.length cL) (.slice pA A.length cA) X F L A) := HS4.out.grow HG5.out
        have HO5 : Hid (FOwn w5 w.heap.size (.slice p6 (applyL (rws X) F e).length c6) (applyL (rws X) F e)) := own_big o5 HBw.out
        clear C1 o5 g5 HS4
        refine hK.out _ _ (grown_some HG5.out _) (fun hHeld2 => ?_)
        clear hK K
        (try go_frame)
        refine wpAnyH_ready (rs := [6]) (by kernel_rfl) (by simp) ?_
        refine AllReadyH.cons rfl (fun K9 hK => ?_) AllReadyH.nil
        simp only [List.getElem_toArray, List.getElem_cons_zero, List.getElem_cons_succ]
        refine wp_store_row 118 (.tmp 11) (.tmp 39) rfl nb #[.slice p1 m1 c1, .slice p6 (applyL (rws X) F e).length c6] rfl rfl 118 _ HS5.out.bx (by kernel_rfl) rfl (by simp [Value.oneCell']) ?_
        refine hK.out _ _ (grown_trans (grown_some HG5.out _) (grown_rowL _ _ _)) (fun hHeld4 => ?_)
        clear hK K9
        (try go_frame)
        refine wpAnyH_done (by kernel_rfl) ?_ _
        have HS6 : Hid (AlS w (w5.setRow nb #[.slice p1 m1 c1, .slice p6 (applyL (rws X) F e).length c6]) w.heap.size nb (.slice p1 m1 c1) (.slice p6 (applyL (rws X) F e).length c6) (.slice (some ⟨g, 0, none⟩) L.length cL) (.slice pA A.length cA) X (applyL (rws X) F e) L A) := HS5.out.stored HO5.out (applyL_len _ _ _) Hw2.out
        obtain ⟨Y, hY⟩ : ∃ Y, Y = w5.setRow nb #[.slice p1 m1 c1, .slice p6 (applyL (rws X) F e).length c6] := ⟨_, rfl⟩
        rw [← hY] at HS6 ⊢
        obtain ⟨F', hF'⟩ : ∃ F', F' = applyL (rws X) F e := ⟨_, rfl⟩
        rw [← hF'] at HS6 HStp
        clear hHeld hHeld2 hHeld3 hHeld4 HS5 HO5 HG5 hY hF' s0 s1 s2 s3 s4 s5 s6 s7 s8 s9 s10 t0 t1 Hgn HBw
        obtain ⟨g2, off2, cap2, e2, RR⟩ := SeAt.there (RecT.Own.at HS6.out.lf) Hpl.out
        cases e2
        rw [← He.out] at RR
        simp only [Nat.zero_add] at RR
        obtain ⟨s0, s1, s2, s3, s4, s5, s6, s7, s8, s9, s10⟩ := se_cells RR
        have HAp : Hid (Y.ownsRow w.heap.size 49 10 (.slice pA A.length cA) A.length (sdR.cs (A.map Se.s))) := by have o : Y.ownsRow w.heap.size 49 10 (.slice pA A.length cA) (A.map Se.s).length (sdR.cs (A.map Se.s)) := HS6.out.ap; rw [List.length_map] at o; exact o
        have HLn : Hid (A.length + 1 ≤ maxLen ∧ (A.length + 1) * 56 ≤ 140737488355328) := len_smallD (by have := HS6.out.fw; omega)
        have HYs : Hid (w.heap.size ≤ Y.heap.size) := HS6.out.gr.size
        have HM : Hid (p + (L.length - (p + 1)) < L.length) := by have := Hpl.out; show _ < _; omega
        have HEl : Hid ((L.eraseIdx p).length = L.length - 1) := List.length_eraseIdx_of_lt Hpl.out
        obtain ⟨D, hD⟩ : ∃ D, D = A.map Se.s := ⟨_, rfl⟩
        have HD : Hid (D = A.map Se.s) := hD
        rw [← hD] at HAp
        clear RR hD HS
        go_wp2_with (at_builtin; refine lwpl_app (by rfl) (.tmp 40) (.tmp 46) 36 rfl w.heap.size 49 i0 _ 10 56 Tryz.underlying36 hi hz0 hz1 hz2 rfl (by decide) _ A.length (sdR.cs D) rfl (World.ownsRow.alloc HAp.out _) _ 1 (sdc e.s) rfl (sd_src Y e.s) (sdc_ones _) HLn.out.1 HLn.out.2 (by rw [World.size_alloc]; exact Nat.le_succ_of_le HYs.out) ?_; intro v8 w8 o8 g8 _; have HO8 : Hid _ := o8; have HG8 : Hid _ := g8; clear o8 g8)
        have HS8 : Hid (AlT w w8 w.heap.size nb (.slice p1 m1 c1) (.slice p6 F'.length c6) (.slice (some ⟨g, 0, none⟩) L.length cL) v8 X F' L (A ++ [e])) := HS6.out.taken (by rw [List.map_append, ← HD.out]; exact RecT.more HO8.out (by rw [HD.out, List.length_map])) (grown_trans (grown_some (World.grownBy_alloc Y _ none) _) HG8.out) (by rw [List.length_append]; have := HS6.out.fw; simp only [List.length_cons, List.length_nil]; omega) (Nat.le_refl _)
        have C2 := deleteS_any w.heap.size g cL p (p + 1) L w8 HS8.out.lf (Nat.lt_succ_self _) Hpl.out
        simp only [Int.natCast_add, Int.cast_ofNat_Int] at C2
        refine C2.mono ?_
        rintro e9 w9 ⟨rfl, o9, g9⟩
        rw [← List.eraseIdx_eq_take_drop_succ] at o9
        have HS9 : Hid (AlS w w9 w.heap.size nb (.slice p1 m1 c1) (.slice p6 F'.length c6) (.slice (some ⟨g, 0, none⟩) (p + (L.length - (p + 1))) cL) v8 X F' (L.eraseIdx p) (A ++ [e])) := HS8.out.cut o9 g9 (erase_ro HS8.out.ro) (by rw [HEl.out, List.length_append]; have := HS6.out.fw; have := Hpl.out; simp only [List.length_cons, List.length_nil]; omega) (Nat.le_refl _)
        clear C2 o9 g9 HO8 HG8 HAp HS6 HS8
        go_wp2_with fail
        go_roundw
        case rel => exact ⟨_, F', L.eraseIdx p, A ++ [e], HS9.out, by show _ = _; rw [HEl.out, ← HStp.out]; exact HE.out⟩
        case measure => exact HM.out
      · obtain rfl : L = [] := List.length_eq_zero_iff.1 (by omega)
        have HF : Hid (allR R fs k = (F, A)) := by show _ = _; rw [Hall.out, ← HE.out]; rfl
        have HCa := lamong_any _ _ _ X F fs U HS.out.tb.at (HI.out.feats.keep HS.out.gr) (fun i hi => nu_of Hnu.out hi) (HI.out.few (bgE_of HRL.out.2.2).1)
        unfold tbv at HCa
        obtain ⟨t0, t1⟩ := tb_box HS.out.bx
        clear hlt HE Hall
        go_wp2_with fail
        refine HCa.mono ?_
        rintro e4 w4 ⟨v4, rfl, o4, g4⟩
        obtain ⟨p5, c5, rfl⟩ := o4.form
        have HZ : Hid (FOwn w4 w.heap.size (.slice p5 (amgL fs (rws X) F).length c5) (amgL fs (rws X) F) ∧ DOwn w4 w.heap.size (.slice pA A.length cA) (A.map Se.s) ∧ w.grownBy w4 none) := ⟨own_big o4 HS.out.gr.size, HS.out.ap.grow g4, grown_trans HS.out.gr g4⟩
        clear o4 g4 HCa t0 t1 HS
        go_wp2_with fail
        refine bodyPost_ret (v := .tuple #[.slice p5 (amgL fs (rws X) F).length c5, .slice pA A.length cA, .int .i64 0]) (by simp [results, Tryz.results19, go_sem]) rfl ?_
        refine ⟨_, _, _, _, _, _, by rw [HRL.out.2.2], HZ.out.2.2, fun h => absurd HRL.out.2.2 h, fun R' _ _ a => ?_⟩
        rw [HRL.out.2.1] at a
        cases a
        rw [HF.out, ← HRL.out.1]
        exact ⟨HZ.out.1, HZ.out.2.1⟩
  · have e1 : (q != 0) = true := by simpa using hq0
    have Hq0 : Hid (q ≠ 0) := hq0
    clear hq0
    go_wp2_with fail
    refine bodyPost_ret (v := .tuple #[.slice none 0 0, .slice none 0 0, .int .i64 q]) (by simp [results, Tryz.results19, go_sem]) rfl ?_
    exact ⟨none, 0, 0, none, 0, 0, by rw [← Hq.out], HGV.out, fun _ => ⟨rfl, rfl, rfl, rfl⟩, fun R a b c => absurd (by rw [Hq.out, a]; exact bgE_ok c b) Hq0.out⟩
end Go.Proofs.YtmemeloehgemcaaGreat
