/-
  Layers: All.
  Layers: effects in their order.
  Layers: when two effects are the same; the place of one in a list.
  Layers: Next.
  Layers: what the ways of layer ask of a book, things and features.
-/
import Derived.Test.YtmemeloehgemcaaGreatV34
import Derived.Test.YtmemeloehgemcaaGreatV7
import Derived.Test.YtmemeloehgemcaaGreatV3
import Derived.Shelf.SlicesQ.Index
namespace Go.Proofs.YtmemeloehgemcaaGreat
open Go.RowKit

theorem own_tagged {w w' : World} {base e size n b : Nat} {v : Value} {xs : List Value} {cs : Array Value} {t : TypeId} {fr : Nat × Nat} (h : w.ownsRow base e size v n xs) (g : w.grownBy w' (some b)) (hb : w.heap[b]? = some (.cells cs t fr)) (hne : t ≠ e) : w'.ownsRow base e size v n xs := by
  refine World.ownsRow.kept h g ?_
  cases hv : v.ownBlock with
  | none => exact Or.inl rfl
  | some y => exact Or.inr fun q => own_tag h hb hne (by rw [hv, ← q])
theorem TbO.tagged {w w' : World} {base b : Nat} {vr vf : Value} {X : List Rv} {F : List Fe} {cs : Array Value} {t : TypeId} {fr : Nat × Nat} (h : TbO w base vr vf X F) (g : w.grownBy w' (some b)) (hb : w.heap[b]? = some (.cells cs t fr)) (h1 : t ≠ 174) (h2 : t ≠ 47) (h3 : t ≠ 64) : TbO w' base vr vf X F := ⟨own_tagged h.rows g hb h1, fun x hx => ⟨own_tagged (h.parts x hx).1 g hb h2, (h.parts x hx).2⟩, own_tagged h.fs g hb h3, h.len, h.few⟩
theorem TbO.block {w w' : World} {base : Nat} {vr vf v : Value} {X : List Rv} {F : List Fe} {b' t size n : Nat} {xs : List Value} (h : TbO w base vr vf X F) (o : w.ownsRow b' t size v n xs) (g : w.grownBy w' v.ownBlock) (h1 : t ≠ 174) (h2 : t ≠ 47) (h3 : t ≠ 64) : TbO w' base vr vf X F := ⟨own_other h.rows o h1 g, fun x hx => ⟨own_other (h.parts x hx).1 o h2 g, (h.parts x hx).2⟩, own_other h.fs o h3 g, h.len, h.few⟩
theorem tb_block {w w' : World} {nb : Nat} {vr vf v : Value} {b' t size n : Nat} {xs : List Value} (h : TbB w nb vr vf) (o : w.ownsRow b' t size v n xs) (g : w.grownBy w' v.ownBlock) (h1 : 118 ≠ t) : TbB w' nb vr vf := grown_keep g h (own_tag o h h1)
/-- What stands while all are applied. -/
structure AlS (w wr : World) (B nb : Nat) (vr vf vL vA : Value) (X : List Rv) (F : List Fe) (L A : List Se) : Prop where
  tb : TbO wr B vr vf X F
  bx : TbB wr nb vr vf
  lf : SOwn wr B vL L
  ap : DOwn wr B vA (A.map Se.s)
  ro : ∀ i, i < L.length → (L.getD i Se.none).ro < X.length
  fw : L.length + A.length ≤ 64
  gr : w.grownBy wr none
structure AlT (w wr : World) (B nb : Nat) (vr vf vL vA : Value) (X : List Rv) (F : List Fe) (L A : List Se) : Prop where
  tb : TbO wr B vr vf X F
  bx : TbB wr nb vr vf
  lf : SOwn wr B vL L
  ap : DOwn wr B vA (A.map Se.s)
  ro : ∀ i, i < L.length → (L.getD i Se.none).ro < X.length
  fw : L.length + A.length ≤ 65
  gr : w.grownBy wr none
theorem AlS.grow {w wr wr' : World} {B nb : Nat} {vr vf vL vA : Value} {X : List Rv} {F : List Fe} {L A : List Se} (h : AlS w wr B nb vr vf vL vA X F L A) (g : wr.grownBy wr' none) : AlS w wr' B nb vr vf vL vA X F L A := ⟨h.tb.grow g, grown_keep g h.bx (by simp), h.lf.grow g, h.ap.grow g, h.ro, h.fw, grown_trans h.gr g⟩
theorem grown_rowL (w : World) (g : Nat) (cs : Array Value) : w.grownBy (w.setRow g cs) (some g) :=
  ⟨rfl, rfl, rfl, by simp [World.setRow], fun k _ hk => setRow_other w g k cs (fun e => hk (by rw [e]))⟩
theorem AlS.stored {w wr : World} {B nb : Nat} {vr vf vf' vL vA : Value} {X : List Rv} {F F' : List Fe} {L A : List Se} (h : AlS w wr B nb vr vf vL vA X F L A) (o : FOwn wr B vf' F') (hl : F'.length = F.length) (hb : w.heap.size ≤ nb) : AlS w (wr.setRow nb #[vr, vf']) B nb vr vf' vL vA X F' L A := by
  have g := grown_rowL wr nb #[vr, vf']
  have t := h.tb.tagged g h.bx (by decide) (by decide) (by decide)
  exact ⟨⟨t.rows, t.parts, own_tagged o g h.bx (by decide), by rw [hl]; exact h.tb.len, t.few⟩, setRow_heap wr nb _ _ _ _ h.bx, own_tagged h.lf g h.bx (by decide), own_tagged h.ap g h.bx (by decide), h.ro, h.fw, grown_cells h.gr hb _⟩
theorem AlS.taken {w wr w' : World} {B nb : Nat} {vr vf vL vA vA' : Value} {X : List Rv} {F : List Fe} {L A A' : List Se} (h : AlS w wr B nb vr vf vL vA X F L A) (o : DOwn w' B vA' (A'.map Se.s)) (g : wr.grownBy w' vA.ownBlock) (hf : L.length + A'.length ≤ 65) (hB : w.heap.size ≤ B) : AlT w w' B nb vr vf vL vA' X F L A' := ⟨h.tb.block h.ap g (by decide) (by decide) (by decide), tb_block h.bx h.ap g (by decide), own_other h.lf h.ap (by decide) g, o, h.ro, hf, grown_own h.gr g (fun y e => Nat.le_trans hB (World.ownsRow.lt h.ap y e).1)⟩
theorem AlT.cut {w wr w' : World} {B nb : Nat} {vr vf vL vL' vA : Value} {X : List Rv} {F : List Fe} {L L' A : List Se} (h : AlT w wr B nb vr vf vL vA X F L A) (o : SOwn w' B vL' L') (g : wr.grownBy w' vL.ownBlock) (hr : ∀ i, i < L'.length → (L'.getD i Se.none).ro < X.length) (hf : L'.length + A.length ≤ 64) (hB : w.heap.size ≤ B) : AlS w w' B nb vr vf vL' vA X F L' A := ⟨h.tb.block h.lf g (by decide) (by decide) (by decide), tb_block h.bx h.lf g (by decide), o, own_other h.ap h.lf (by decide) g, hr, hf, grown_own h.gr g (fun y e => Nat.le_trans hB (World.ownsRow.lt h.lf y e).1)⟩
def sliceLen : Value → Nat
  | .slice _ n _ => n
  | _ => 0
/-- All of a layer. -/
def allR (R : List Rw) (fs : List Fe) (k : Int) : List Fe × List Se := allL R (effL R (pickF R fs) k).length (pickF R fs) (effL R (pickF R fs) k) []
theorem allL_step {R : List Rw} {n : Nat} {F : List Fe} {L A : List Se} (h : L ≠ []) : allL R (n + 1) F L A = allL R n (applyL R F (L.getD (nextN R F L) Se.none)) (L.eraseIdx (nextN R F L)) (A ++ [L.getD (nextN R F L) Se.none]) := by
  rw [allL, if_neg h]
def AllPost (w : World) (r n : Int) (cd : Int → Hd × List Pt) (ts : List Th) (fs : List Fe) (k : Int) (e : Ending) (w' : World) : Prop := ∃ p m c p' m' c', e = .returned (.tuple #[.slice p m c, .slice p' m' c', .int .i64 (bgE r n cd ts fs k)]) ∧ w.grownBy w' none ∧ (bgE r n cd ts fs k ≠ 0 → m = 0 ∧ p = none ∧ m' = 0 ∧ p' = none) ∧ ∀ R, r = 0 → 1 ≤ k ∧ k ≤ 5 → tabR n cd ts fs = some R → FOwn w' w.heap.size (.slice p m c) (amgL fs R (allR R fs k).1) ∧ DOwn w' w.heap.size (.slice p' m' c') ((allR R fs k).2.map Se.s)
theorem erase_ro {X : List Rv} {L : List Se} {p : Nat} (h : ∀ i, i < L.length → (L.getD i Se.none).ro < X.length) : ∀ i, i < (L.eraseIdx p).length → ((L.eraseIdx p).getD i Se.none).ro < X.length := fun i hi => by
  rw [getD_in hi]
  have hm : (L.eraseIdx p)[i] ∈ L := (List.eraseIdx_sublist L p).mem (List.getElem_mem hi)
  obtain ⟨j, hj, e⟩ := List.mem_iff_getElem.1 hm
  have := h j hj
  rw [getD_in hj, e] at this
  exact this
theorem all_ro {X : List Rv} {L : List Se} (h : ∀ e ∈ L, e.ro < X.length) : ∀ i, i < L.length → (L.getD i Se.none).ro < X.length := fun i hi => by rw [getD_in hi]; exact h _ (List.getElem_mem hi)
set_option maxRecDepth 100000 in
set_option maxHeartbeats 4000000 in
theorem lAll_any (bv vt vf : Value) (r n : Int) (cd : Int → Hd × List Pt) (ts : List Th) (fs : List Fe) (k : Int) (w : World) (I : LIn w bv vt vf r n cd ts fs) : Calls Tryz.prog 19 #[bv, vt, vf, .int .i64 k] w (AllPost w r n cd ts fs k) := by
  obtain ⟨i0, hi, hz0, hz1, hz2⟩ := info_parts Tryz.linfoD
  obtain ⟨pt, ct, rfl⟩ := I.things.form
  obtain ⟨pf, cf, rfl⟩ := I.feats.form
  have HBg := lbegin_any bv _ _ r n cd ts fs k w I
  unfold BgPost tbv at HBg
  have HI : Hid (LIn w bv (.slice pt ts.length ct) (.slice pf fs.length cf) r n cd ts fs) := I
  clear I
  go_enter Tryz.func19, Tryz.ntmps19
  go_wp2_with fail
  refine HBg.mono ?_
  rintro e2 w2 ⟨p1, m1, c1, p2, m2, c2, p3, m3, c3, rfl, g2, h2⟩
  obtain ⟨q, hq⟩ : ∃ q, q = bgE r n cd ts fs k := ⟨_, rfl⟩
  have Hq : Hid (q = bgE r n cd ts fs k) := hq
  rw [← hq]
  obtain ⟨V, hV⟩ : ∃ V, V = w2.alloc (.cells #[.slice p1 m1 c1, .slice p2 m2 c2] 118) := ⟨_, rfl⟩
  have HGV : Hid (w.grownBy V none) := by rw [hV]; exact grown_push g2 _
  have HBt : Hid (TbB V w2.heap.size (.slice p1 m1 c1) (.slice p2 m2 c2)) := by rw [hV]; exact alloc_at _ _ _
  have H2 : Hid (∀ R, r = 0 → 1 ≤ k ∧ k ≤ 5 → tabR n cd ts fs = some R → ∃ X, rws X = R ∧ TbO V w.heap.size (.slice p1 m1 c1) (.slice p2 m2 c2) X (pickF R fs) ∧ (∀ x ∈ X, 1 ≤ x.r.nu ∧ x.r.nu ≤ (fs.length : Int)) ∧ SOwn V w.heap.size (.slice p3 m3 c3) (effL R (pickF R fs) k)) := fun R a b c => by
    obtain ⟨X, x1, x2, x3, x4⟩ := h2 R a b c
    have g := World.grownBy_alloc w2 (.cells #[.slice p1 m1 c1, .slice p2 m2 c2] 118) none
    exact ⟨X, x1, by rw [hV]; exact x2.grow g, x3, by rw [hV]; exact own_grow x4 g⟩
  have Hw2 : Hid (w.heap.size ≤ w2.heap.size) := g2.size
  clear HBg g2 h2 hq
  go_upto_region 2 with fail
  rw [← hV]
  obtain ⟨nb, hnb⟩ : ∃ nb, nb = w2.heap.size := ⟨_, rfl⟩
  rw [← hnb] at HBt Hw2 ⊢
  clear hV hnb
  by_cases hq0 : q = 0
  · have e1 : (q != 0) = false := by simpa using hq0
    obtain ⟨hr0, hk0, R, hR⟩ := bgE_of (Hq.out.symm.trans hq0)
    obtain ⟨X, hX, hT, hnu, hS⟩ := H2.out R hr0 hk0 hR
    have HRL : Hid (rws X = R ∧ tabR n cd ts fs = some R ∧ bgE r n cd ts fs k = 0) := ⟨hX, hR, Hq.out.symm.trans hq0⟩
    obtain ⟨L0, hL0⟩ : ∃ L0, L0 = effL R (pickF R fs) k := ⟨_, rfl⟩
    have hLl : L0.length ≤ 64 := by rw [hL0, ← hX]; exact effL_len (fun x hx => (hT.parts x hx).2) hT.few
    have hro : ∀ e ∈ L0, e.ro < X.length := fun e he => by rw [hL0] at he; have := effL_ro he; rwa [← hX, rws_len] at this
    rw [← hL0] at hS
    have HA0 : Hid (AlS w V w.heap.size nb (.slice p1 m1 c1) (.slice p2 m2 c2) (.slice p3 m3 c3) (.slice none 0 0) X (pickF R fs) L0 []) := ⟨hT, HBt.out, hS, RecT.Own.nil _ _ _ _, all_ro hro, by simpa using hLl, HGV.out⟩
    have Hall : Hid (allR R fs k = allL (rws X) L0.length (pickF R fs) L0 []) := by show _ = _; unfold allR; rw [hL0, hX]
    have Hnu : Hid (∀ x ∈ X, 1 ≤ x.r.nu ∧ x.r.nu ≤ (fs.length : Int)) := hnu
    obtain ⟨F0, hF0⟩ : ∃ F0, F0 = pickF R fs := ⟨_, rfl⟩
    rw [← hF0] at HA0 Hall
    clear hq0 hr0 hk0 hR hX hT hnu hS H2 hL0 hLl hro hF0 HBt
    go_wp2_with fail
    go_loopw [12, 14, 15] (fun vL vA _ wr => ∃ (vf' : Value) (F : List Fe) (L A : List Se), Hid (AlS w wr w.heap.size nb (.slice p1 m1 c1) vf' vL vA X F L A) ∧ Hid (allL (rws X) L.length F L A = allL (rws X) L0.length F0 L0 [])) (fun vL _ _ _ => sliceLen vL)
    case atStart => exact ⟨_, F0, L0, [], HA0.out, rfl⟩
    case round =>
      clear HA0
      obtain ⟨vf', F, L, A, HS, HE⟩ := hrel
      obtain ⟨U, hU⟩ : ∃ U, U = wr := ⟨_, rfl⟩
      subst hU
      obtain ⟨pL, cL, rfl⟩ := HS.out.lf.form
      obtain ⟨pA, cA, rfl⟩ := HS.out.ap.form
      rw [List.length_map] at HS ⊢
      obtain ⟨pF, cF, rfl⟩ := RecT.Own.form HS.out.tb.fs
      by_cases hlt : 0 < L.length
      · have hne : L ≠ [] := List.length_pos_iff.1 hlt
        have HNx := lnext_any _ _ (.slice pL L.length cL) X F L U HS.out.tb.at (RecT.Own.at HS.out.lf) HS.out.ro (by have := HS.out.fw; omega)
        obtain ⟨p, hp⟩ : ∃ p, p = nextN (rws X) F L := ⟨_, rfl⟩
        have hpl : p < L.length := by rw [hp]; exact nextN_lt hne
        have HStp : Hid (allL (rws X) L.length F L A = allL (rws X) (L.length - 1) (applyL (rws X) F (L.getD p Se.none)) (L.eraseIdx p) (A ++ [L.getD p Se.none])) := by
          show _ = _
          obtain ⟨m, hm⟩ : ∃ m, L.length = m + 1 := ⟨L.length - 1, by omega⟩
          rw [hm, allL_step hne, ← hp]
          rfl
        rw [← hp] at HNx
        unfold tbv at HNx
        obtain ⟨a0, a1⟩ := tb_box HS.out.bx
        have hlt' : (0 : Int) < (L.length : Int) := by omega
        have Hpl : Hid (p < L.length) := hpl
        clear hp hne hlt hpl
        go_wp2_with fail
        refine HNx.mono ?_
        rintro e4 w4 ⟨rfl, g4⟩
        have HS4 : Hid (AlS w w4 w.heap.size nb (.slice p1 m1 c1) (.slice pF F.length cF) (.slice pL L.length cL) (.slice pA A.length cA) X F L A) := HS.out.grow g4
        obtain ⟨g, off, cap, e1, RR⟩ := SeAt.there (RecT.Own.at HS4.out.lf) Hpl.out
        cases e1
        obtain ⟨g', cap', e', hgB, -, -, -, -⟩ := own_cell HS4.out.lf (Nat.lt_of_le_of_lt (Nat.zero_le _) Hpl.out)
        cases e'
        obtain ⟨e, he⟩ : ∃ e, e = L.getD p Se.none := ⟨_, rfl⟩
        have Hro : Hid (e.ro < X.length) := by show e.ro < X.length; rw [he]; exact HS4.out.ro p Hpl.out
        rw [← he] at RR HStp
        simp only [Nat.zero_add] at RR
        obtain ⟨t0, t1⟩ := tb_box HS4.out.bx
        obtain ⟨s0, s1, s2, s3, s4, s5, s6, s7, s8, s9, s10⟩ := se_cells RR
        have C1 := lapply_any _ _ X F e w4.drew (HS4.out.tb.at.keep (grown_drew _)) Hro.out
        unfold tbv sev at C1
        have HBw : Hid (w.heap.size ≤ w4.heap.size) := HS4.out.gr.size
        have hpl' : (p : Int) < (L.length : Int) := Int.ofNat_lt.2 Hpl.out
        have hwk := wrap_next (k := p) (Nat.le_trans (Nat.le_of_lt Hpl.out) (by have := HS4.out.fw; omega))
        have He : Hid (e = L.getD p Se.none) := he
        have Hgn : Hid (some g ≠ some nb) := fun q => own_tag HS4.out.lf HS4.out.bx (by decide) (q.symm.trans rfl)
        clear HNx g4 RR he a0 a1
        go_upto_region 7 with fail
        refine wp_region_held_drew (S := fun w' => w4.grownBy w' (some nb)) (by kernel_rfl) (grown_drewR _ _) (fun hHeld => ?_)
        refine wpAnyH_take (i := 1) (v := ?_) rfl (by kernel_rfl) (by kernel_rfl) (by kernel_rfl) (fun _ _ _ h => h) (Or.inl ⟨by rfl, ?_⟩) (by assumption) ?_
        rotate_left 1
        · (intro w0 hSw; go_simp; try with_reducible rfl)
        simp only [List.getElem_toArray, List.getElem_cons_zero, List.getElem_cons_succ]
        go_frame
        refine wpAnyH_take (i := 2) (v := ?_) rfl (by kernel_rfl) (by kernel_rfl) (by kernel_rfl) (fun _ _ _ h => h) (Or.inl ⟨by rfl, ?_⟩) (by assumption) ?_
        rotate_left 1
        · (intro w0 hSw; go_simp; try with_reducible rfl)
        simp only [List.getElem_toArray, List.getElem_cons_zero, List.getElem_cons_succ]
        go_frame
        refine wpAnyH_take (i := 3) (v := ?_) rfl (by kernel_rfl) (by kernel_rfl) (by kernel_rfl) (fun _ _ _ h => h) (Or.inl ⟨by rfl, ?_⟩) (by assumption) ?_
        rotate_left 1
        · (intro w0 hSw; go_simp; try with_reducible rfl)
        simp only [List.getElem_toArray, List.getElem_cons_zero, List.getElem_cons_succ]
        go_frame
        refine wpAnyH_take (i := 4) (v := ?_) rfl (by kernel_rfl) (by kernel_rfl) (by kernel_rfl) (fun _ _ _ h => h) (Or.inl ⟨by rfl, ?_⟩) (by assumption) ?_
        rotate_left 1
        · (intro w0 hSw; have s0 := hSw.cell s0 Hgn.out; have s1 := hSw.cell s1 Hgn.out; have s2 := hSw.cell s2 Hgn.out; have s3 := hSw.cell s3 Hgn.out; have s4 := hSw.cell s4 Hgn.out; have s5 := hSw.cell s5 Hgn.out; have s6 := hSw.cell s6 Hgn.out; have s7 := hSw.cell s7 Hgn.out; have s8 := hSw.cell s8 Hgn.out; have s9 := hSw.cell s9 Hgn.out; have s10 := hSw.cell s10 Hgn.out; go_simp; try with_reducible rfl)
        simp only [List.getElem_toArray, List.getElem_cons_zero, List.getElem_cons_succ]
        go_frame
        refine wpAnyH_ready (rs := [0]) (by kernel_rfl) (by simp) ?_
        refine AllReadyH.cons rfl (fun K9 hK => ?_) AllReadyH.nil
        simp only [List.getElem_toArray, List.getElem_cons_zero]
        go_simp
        refine hK.out _ _ (by assumption) (fun hHeld3 => ?_)
        clear hK K9
        (try go_frame)
        refine wpAnyH_ready (rs := [5]) (by kernel_rfl) (by simp) ?_
        refine AllReadyH.cons rfl (fun K hK => ?_) AllReadyH.nil
        simp only [List.getElem_toArray, List.getElem_cons_zero, List.getElem_cons_succ]
        go_simp
        go_at_call 54
        refine (C1).mono ?_
        rintro e5 w5 ⟨v5, rfl, o5, g5⟩
        obtain ⟨p6, c6, rfl⟩ := o5.form
        have HG5 : Hid (w4.grownBy w5 none) := grown_trans (grown_drew _) g5
        have HS5 : Hid (AlS w w5 w.heap.size nb (.slice p1 m1 c1) (.slice pF F.length cF) (.slice (some ⟨g, 0, none⟩) L.length cL) (.slice pA A.length cA) X F L A) := HS4.out.grow HG5.out
        have HO5 : Hid (FOwn w5 w.heap.size (.slice p6 (applyL (rws X) F e).length c6) (applyL (rws X) F e)) := own_big o5 HBw.out
        clear C1 o5 g5 HS4
        refine hK.out _ _ (grown_some HG5.out _) (fun hHeld2 => ?_)
        clear hK K
        (try go_frame)
        refine wpAnyH_ready (rs := [6]) (by kernel_rfl) (by simp) ?_
        refine AllReadyH.cons rfl (fun K9 hK => ?_) AllReadyH.nil
        simp only [List.getElem_toArray, List.getElem_cons_zero, List.getElem_cons_succ]
        refine wp_store_row 118 (.tmp 11) (.tmp 39) rfl nb #[.slice p1 m1 c1, .slice p6 (applyL (rws X) F e).length c6] rfl rfl 118 _ HS5.out.bx (by kernel_rfl) rfl (by simp [Value.oneCell']) ?_
        refine hK.out _ _ (grown_trans (grown_some HG5.out _) (grown_rowL _ _ _)) (fun hHeld4 => ?_)
        clear hK K9
        (try go_frame)
        refine wpAnyH_done (by kernel_rfl) ?_ _
        have HS6 : Hid (AlS w (w5.setRow nb #[.slice p1 m1 c1, .slice p6 (applyL (rws X) F e).length c6]) w.heap.size nb (.slice p1 m1 c1) (.slice p6 (applyL (rws X) F e).length c6) (.slice (some ⟨g, 0, none⟩) L.length cL) (.slice pA A.length cA) X (applyL (rws X) F e) L A) := HS5.out.stored HO5.out (applyL_len _ _ _) Hw2.out
        obtain ⟨Y, hY⟩ : ∃ Y, Y = w5.setRow nb #[.slice p1 m1 c1, .slice p6 (applyL (rws X) F e).length c6] := ⟨_, rfl⟩
        rw [← hY] at HS6 ⊢
        obtain ⟨F', hF'⟩ : ∃ F', F' = applyL (rws X) F e := ⟨_, rfl⟩
        rw [← hF'] at HS6 HStp
        clear hHeld hHeld2 hHeld3 hHeld4 HS5 HO5 HG5 hY hF' s0 s1 s2 s3 s4 s5 s6 s7 s8 s9 s10 t0 t1 Hgn HBw
        obtain ⟨g2, off2, cap2, e2, RR⟩ := SeAt.there (RecT.Own.at HS6.out.lf) Hpl.out
        cases e2
        rw [← He.out] at RR
        simp only [Nat.zero_add] at RR
        obtain ⟨s0, s1, s2, s3, s4, s5, s6, s7, s8, s9, s10⟩ := se_cells RR
        have HAp : Hid (Y.ownsRow w.heap.size 49 10 (.slice pA A.length cA) A.length (sdR.cs (A.map Se.s))) := by have o : Y.ownsRow w.heap.size 49 10 (.slice pA A.length cA) (A.map Se.s).length (sdR.cs (A.map Se.s)) := HS6.out.ap; rw [List.length_map] at o; exact o
        have HLn : Hid (A.length + 1 ≤ maxLen ∧ (A.length + 1) * 56 ≤ 140737488355328) := len_smallD (by have := HS6.out.fw; omega)
        have HYs : Hid (w.heap.size ≤ Y.heap.size) := HS6.out.gr.size
        have HM : Hid (p + (L.length - (p + 1)) < L.length) := by have := Hpl.out; show _ < _; omega
        have HEl : Hid ((L.eraseIdx p).length = L.length - 1) := List.length_eraseIdx_of_lt Hpl.out
        obtain ⟨D, hD⟩ : ∃ D, D = A.map Se.s := ⟨_, rfl⟩
        have HD : Hid (D = A.map Se.s) := hD
        rw [← hD] at HAp
        clear RR hD HS
        go_wp2_with (at_builtin; refine lwpl_app (by rfl) (.tmp 40) (.tmp 46) 36 rfl w.heap.size 49 i0 _ 10 56 Tryz.underlying36 hi hz0 hz1 hz2 rfl (by decide) _ A.length (sdR.cs D) rfl (World.ownsRow.alloc HAp.out _) _ 1 (sdc e.s) rfl (sd_src Y e.s) (sdc_ones _) HLn.out.1 HLn.out.2 (by rw [World.size_alloc]; exact Nat.le_succ_of_le HYs.out) ?_; intro v8 w8 o8 g8 _; have HO8 : Hid _ := o8; have HG8 : Hid _ := g8; clear o8 g8)
        have HS8 : Hid (AlT w w8 w.heap.size nb (.slice p1 m1 c1) (.slice p6 F'.length c6) (.slice (some ⟨g, 0, none⟩) L.length cL) v8 X F' L (A ++ [e])) := HS6.out.taken (by rw [List.map_append, ← HD.out]; exact RecT.more HO8.out (by rw [HD.out, List.length_map])) (grown_trans (grown_some (World.grownBy_alloc Y _ none) _) HG8.out) (by rw [List.length_append]; have := HS6.out.fw; simp only [List.length_cons, List.length_nil]; omega) (Nat.le_refl _)
        have C2 := deleteS_any w.heap.size g cL p (p + 1) L w8 HS8.out.lf (Nat.lt_succ_self _) Hpl.out
        simp only [Int.natCast_add, Int.cast_ofNat_Int] at C2
        refine C2.mono ?_
        rintro e9 w9 ⟨rfl, o9, g9⟩
        rw [← List.eraseIdx_eq_take_drop_succ] at o9
        have HS9 : Hid (AlS w w9 w.heap.size nb (.slice p1 m1 c1) (.slice p6 F'.length c6) (.slice (some ⟨g, 0, none⟩) (p + (L.length - (p + 1))) cL) v8 X F' (L.eraseIdx p) (A ++ [e])) := HS8.out.cut o9 g9 (erase_ro HS8.out.ro) (by rw [HEl.out, List.length_append]; have := HS6.out.fw; have := Hpl.out; simp only [List.length_cons, List.length_nil]; omega) (Nat.le_refl _)
        clear C2 o9 g9 HO8 HG8 HAp HS6 HS8
        go_wp2_with fail
        go_roundw
        case rel => exact ⟨_, F', L.eraseIdx p, A ++ [e], HS9.out, by show _ = _; rw [HEl.out, ← HStp.out]; exact HE.out⟩
        case measure => exact HM.out
      · obtain rfl : L = [] := List.length_eq_zero_iff.1 (by omega)
        have HF : Hid (allR R fs k = (F, A)) := by show _ = _; rw [Hall.out, ← HE.out]; rfl
        have HCa := lamong_any _ _ _ X F fs U HS.out.tb.at (HI.out.feats.keep HS.out.gr) (fun i hi => nu_of Hnu.out hi) (HI.out.few (bgE_of HRL.out.2.2).1)
        unfold tbv at HCa
        obtain ⟨t0, t1⟩ := tb_box HS.out.bx
        clear hlt HE Hall
        go_wp2_with fail
        refine HCa.mono ?_
        rintro e4 w4 ⟨v4, rfl, o4, g4⟩
        obtain ⟨p5, c5, rfl⟩ := o4.form
        have HZ : Hid (FOwn w4 w.heap.size (.slice p5 (amgL fs (rws X) F).length c5) (amgL fs (rws X) F) ∧ DOwn w4 w.heap.size (.slice pA A.length cA) (A.map Se.s) ∧ w.grownBy w4 none) := ⟨own_big o4 HS.out.gr.size, HS.out.ap.grow g4, grown_trans HS.out.gr g4⟩
        clear o4 g4 HCa t0 t1 HS
        go_wp2_with fail
        refine bodyPost_ret (v := .tuple #[.slice p5 (amgL fs (rws X) F).length c5, .slice pA A.length cA, .int .i64 0]) (by simp [results, Tryz.results19, go_sem]) rfl ?_
        refine ⟨_, _, _, _, _, _, by rw [HRL.out.2.2], HZ.out.2.2, fun h => absurd HRL.out.2.2 h, fun R' _ _ a => ?_⟩
        rw [HRL.out.2.1] at a
        cases a
        rw [HF.out, ← HRL.out.1]
        exact ⟨HZ.out.1, HZ.out.2.1⟩
  · have e1 : (q != 0) = true := by simpa using hq0
    have Hq0 : Hid (q ≠ 0) := hq0
    clear hq0
    go_wp2_with fail
    refine bodyPost_ret (v := .tuple #[.slice none 0 0, .slice none 0 0, .int .i64 q]) (by simp [results, Tryz.results19, go_sem]) rfl ?_
    exact ⟨none, 0, 0, none, 0, 0, by rw [← Hq.out], HGV.out, fun _ => ⟨rfl, rfl, rfl, rfl⟩, fun R a b c => absurd (by rw [Hq.out, a]; exact bgE_ok c b) Hq0.out⟩
end Go.Proofs.YtmemeloehgemcaaGreat
namespace Go.Proofs.YtmemeloehgemcaaGreat
open Go.RowKit Go.Shelf

def cmpS (x y : Se) : Int := orV (Lib.compareInt (x.ro : Int) (y.ro : Int)) (Lib.compareInt x.s.pl y.s.pl)
theorem cmpI_lt {a b : Int} : Lib.compareInt a b < 0 ↔ a < b := by
  unfold Lib.compareInt
  by_cases h1 : a < b
  · simp [h1]
  · by_cases h2 : b < a <;> simp [h1, h2]
theorem cmpI_zero {a b : Int} : Lib.compareInt a b = 0 ↔ a = b := by
  unfold Lib.compareInt
  by_cases h1 : a < b
  · simp [h1]; omega
  · by_cases h2 : b < a
    · simp [h1, h2]; omega
    · simp [h1, h2]; omega
theorem ltS (x y : Se) : ltOf cmpS x y = decide (x.ro < y.ro ∨ x.ro = y.ro ∧ x.s.pl < y.s.pl) := by
  unfold ltOf cmpS orV
  by_cases h : Lib.compareInt (x.ro : Int) (y.ro : Int) = 0
  · rw [if_pos h]
    have h1 := cmpI_zero.1 h
    refine decide_eq_decide.2 ⟨fun q => Or.inr ⟨by omega, cmpI_lt.1 q⟩, fun q => cmpI_lt.2 ?_⟩
    omega
  · rw [if_neg h]
    have h1 : ¬ (x.ro : Int) = y.ro := fun q => h (cmpI_zero.2 q)
    refine decide_eq_decide.2 ⟨fun q => Or.inl (by have := cmpI_lt.1 q; omega), fun q => cmpI_lt.2 ?_⟩
    omega
theorem swoS : Go.Sort.SWO (ltOf cmpS) where
  irrefl x := by rw [ltS]; simp
  trans x y z h1 h2 := by rw [ltS] at *; simp at *; omega
  ntrans x y z h1 h2 := by rw [ltS] at *; simp at *; omega
set_option maxRecDepth 100000 in
set_option maxHeartbeats 4000000 in
theorem inS_any (x y : Se) (W : World) : Calls Tryz.prog 65 #[.agg (sec x).toArray, .agg (sec y).toArray] W fun e w' => e = .returned (.int .i64 (cmpS x y)) ∧ ∃ q os', w' = Go.Sort.grow (W.drewN q) os' := by
  have hcon := fun a b W' => AnyG.cmp_Compare_int Tryz.cmpL a b W'
  change ∀ a b W', Calls Tryz.prog 111 _ _ _ at hcon
  unfold cmpS
  obtain ⟨W2, hW2⟩ : ∃ W2, W2 = (W.alloc (.cells (sec x).toArray 123)).alloc (.cells (sec y).toArray 123) := ⟨_, rfl⟩
  have A2 : SeB W2 W.heap.size x := by rw [hW2]; exact grown_keep (World.grownBy_alloc _ _ none) (alloc_at W _ _) (by simp)
  have Z2 : SeB W2 (W.heap.size + 1) y := by rw [hW2]; exact alloc2_b _ _ _ _
  have HW : Hid (W2 = (W.alloc (.cells (sec x).toArray 123)).alloc (.cells (sec y).toArray 123)) := hW2
  obtain ⟨-, x1, -, -, -, -, -, -, -, -, x10⟩ := se_box A2
  obtain ⟨-, y1, -, -, -, -, -, -, -, -, y10⟩ := se_box Z2
  clear A2 Z2
  unfold sec at hW2 ⊢
  go_enter Tryz.func65, Tryz.ntmps65
  go_upto_region 1 with fail
  rw [← hW2]
  clear hW2
  go_region_held3 (fun w' => w'.cell? ⟨W.heap.size, 1, none⟩ = some (.int .i64 x.s.pl) ∧ w'.cell? ⟨W.heap.size, 10, none⟩ = some (.int .i64 (x.ro : Int)) ∧ w'.cell? ⟨W.heap.size + 1, 1, none⟩ = some (.int .i64 y.s.pl) ∧ w'.cell? ⟨W.heap.size + 1, 10, none⟩ = some (.int .i64 (y.ro : Int))) (first | exact ⟨x1, x10, y1, y10⟩ | go_keep) (first | (go_at_call 111; refine (hcon _ _ _).mono ?_; rintro e w3 ⟨rfl, rfl⟩) | (go_at_call 110; refine (or_any _ _ _ _ (by exact block_cell (alloc_at _ _ _) 0) (by exact block_cell (alloc_at _ _ _) 1)).mono ?_; rintro e w3 ⟨rfl, rfl⟩))
  go_wp2
  go_ret
  exact ⟨rfl, 1, _, by rw [HW.out, Go.Sort.alloc_eq_grow, Go.Sort.alloc_eq_grow, Go.Sort.alloc_eq_grow, Go.Sort.grow_grow, Go.Sort.grow_grow]; rfl⟩
def inS (a b : Se) : Prop := a.ro < b.ro ∨ a.ro = b.ro ∧ a.s.pl ≤ b.s.pl
theorem sortStand_any (g cap : Nat) (L : List Se) (base : Nat) (w : World) (O : SOwn w base (.slice (some ⟨g, 0, none⟩) L.length cap) L) (hl : L.length ≤ 4096) : Calls Tryz.prog 64 #[.slice (some ⟨g, 0, none⟩) L.length cap, .func (.func 65) #[] #[]] w fun e w' => e = .returned (.tuple #[]) ∧ ∃ L', L'.Perm L ∧ L'.Pairwise inS ∧ SOwn w' base (.slice (some ⟨g, 0, none⟩) L.length cap) L' ∧ w.grownBy w' (some g) := by
  haveI : Inhabited Se := ⟨Se.none⟩
  have eg : ∀ args w, (callFunc 65 args).run Tryz.prog w = .ok (.enter 65 args) w := enters_of Tryz.func65 (by kernel_rfl) rfl
  have hS := sortQ Tryz.sortS seR 123 Tryz.isAgg123 Tryz.sizeOf123 cmpS swoS 65 eg (fun x y W => inS_any x y W) base g cap L w O (by omega)
  change Calls Tryz.prog 64 _ _ _ at hS
  refine hS.mono ?_
  rintro e w' ⟨rfl, L', hp, hs, o, q⟩
  exact ⟨rfl, L', hp, hs.imp (fun h => by rw [ltS] at h; unfold inS; simp at h; omega), o, q⟩
end Go.Proofs.YtmemeloehgemcaaGreat
namespace Go.Proofs.YtmemeloehgemcaaGreat
open Go.RowKit Go.Shelf

set_option maxHeartbeats 2000000 in
theorem equalIn_part9 (a0 a1 a2 a3 a4 a5 a6 : Int) (s : ByteArray) (b0 b1 b2 b3 b4 b5 b6 : Int) (t : ByteArray) (w : World) : (Op.equalIn 9999 47 (.agg #[.int .u8 a0, .int .u8 a1, .int .u8 a2, .int .i64 a3, .int .u8 a4, .int .u8 a5, .int .u8 a6, .string s]) (.agg #[.int .u8 b0, .int .u8 b1, .int .u8 b2, .int .i64 b3, .int .u8 b4, .int .u8 b5, .int .u8 b6, .string t])).run Tryz.prog w = .ok (samep (⟨a0, a1, a2, a3, a4, a5, a6, s⟩ : Pt) ⟨b0, b1, b2, b3, b4, b5, b6, t⟩) w := by
  unfold samep
  have hS : Tryz.prog.underlying 47 = some (.struct (Tryz.prog.fieldsOf 47)) := by kernel_rfl
  have hp : Tryz.prog.stoodInHeld 47 = false := by kernel_rfl
  have u3 := Tryz.underlying3
  have i3 := Tryz.isAgg3
  have z3 := Tryz.sizeOf3
  have u9 := Tryz.underlying9
  have i9 := Tryz.isAgg9
  have z9 := Tryz.sizeOf9
  have u23 := Tryz.underlying40
  have i23 := Tryz.isAgg40
  have z23 := Tryz.sizeOf40
  have u24 := Tryz.underlying41
  have i24 := Tryz.isAgg41
  have z24 := Tryz.sizeOf41
  have u25 := Tryz.underlying42
  have i25 := Tryz.isAgg42
  have z25 := Tryz.sizeOf42
  have u26 := Tryz.underlying43
  have i26 := Tryz.isAgg43
  have z26 := Tryz.sizeOf43
  have u27 := Tryz.underlying44
  have i27 := Tryz.isAgg44
  have z27 := Tryz.sizeOf44
  have u28 := Tryz.underlying45
  have i28 := Tryz.isAgg45
  have z28 := Tryz.sizeOf45
  rw [show (9999 : Nat) = 9998 + 1 from rfl, run_equalIn_agg w 9998 47 _ _ hS hp]
  simp only [Program.fieldsOf, Tryz.underlying47]
  go_simp
  by_cases h0 : a0 = b0
  case neg => simp [h0]
  simp only [h0]
  by_cases h1 : a1 = b1
  case neg => simp [h1]
  simp only [h1]
  by_cases h2 : a2 = b2
  case neg => simp [h2]
  simp only [h2]
  by_cases h3 : a3 = b3
  case neg => simp [h3]
  simp only [h3]
  by_cases h4 : a4 = b4
  case neg => simp [h4]
  simp only [h4]
  by_cases h5 : a5 = b5
  case neg => simp [h5]
  simp only [h5]
  by_cases h6 : a6 = b6
  case neg => simp [h6]
  simp only [h6]
  by_cases h7 : s = t
  case neg => simp [h7]; exact fun e => h7 (bytes_inj e)
  simp [h7]
def sames (a b : Sd) : Bool := decide (a.th = b.th) && (decide (a.pl = b.pl) && samep a.wh b.wh)
theorem sames_iff {a b : Sd} : sames a b = true ↔ a = b := by
  rcases a with ⟨a1, a2, a3⟩
  rcases b with ⟨b1, b2, b3⟩
  unfold sames
  constructor
  · intro h
    simp only [Bool.and_eq_true, decide_eq_true_eq] at h
    obtain ⟨h1, h2, h3⟩ := h
    rw [h1, h2]
    by_cases q : a3 = b3
    · rw [q]
    · rw [samep_no q] at h3; cases h3
  · intro h
    injection h with h1 h2 h3
    simp [h1, h2, samep_yes h3]
set_option maxHeartbeats 2000000 in
theorem equalIn_sd (x y : Sd) (w : World) : (Op.equalIn 10000 49 (.agg (sdc x).toArray) (.agg (sdc y).toArray)).run Tryz.prog w = .ok (sames x y) w := by
  unfold sames
  have hS : Tryz.prog.underlying 49 = some (.struct (Tryz.prog.fieldsOf 49)) := by kernel_rfl
  have hp : Tryz.prog.stoodInHeld 49 = false := by kernel_rfl
  have u3 := Tryz.underlying3
  have i3 := Tryz.isAgg3
  have z3 := Tryz.sizeOf3
  have iA := Tryz.isAgg47
  have zA := Tryz.sizeOf47
  have h4 := equalIn_part9 x.wh.wn x.wh.vb x.wh.wm x.wh.ct x.wh.su x.wh.tr x.wh.mr x.wh.nm y.wh.wn y.wh.vb y.wh.wm y.wh.ct y.wh.su y.wh.tr y.wh.mr y.wh.nm
  rw [show (10000 : Nat) = 9999 + 1 from rfl, run_equalIn_agg w 9999 49 _ _ hS hp]
  simp only [Program.fieldsOf, Tryz.underlying49, sdc]
  go_simp
  by_cases hc : x.th = y.th
  case neg => simp [hc]
  simp only [hc]
  by_cases ho : x.pl = y.pl
  case neg => simp [ho]
  simp only [ho, if_true]
  show (if samep x.wh y.wh = false then Result.ok false w else Result.ok true w) = Result.ok (true && (true && samep x.wh y.wh)) w
  cases samep x.wh y.wh <;> rfl
theorem eql_sd : EqlAt Tryz.prog 49 (fun x => .agg (sdc x).toArray) sames := ⟨fun x y w => by rw [run_eql_struct, equalIn_sd]; rfl, GuardAt.agg _ (by kernel_rfl)⟩
theorem indexSd_any (v : Value) (S : List Sd) (x : Sd) (w : World) (A : sdR.At w v S) (h0 : 0 < S.length) : Calls Tryz.prog 66 #[v, .agg (sdc x).toArray] w fun e w' => e = .returned (.int .i64 (Lib.idxBy sames S x)) ∧ w.grownBy w' none := by
  haveI : Inhabited Sd := ⟨Sd.none⟩
  obtain ⟨p, cap, rfl, hm, hA⟩ := A
  obtain ⟨g, off, rfl, hR⟩ := hA h0
  have hS := AnyQ.slices_Index Tryz.indexS 10 Tryz.isAgg49 Tryz.sizeOf49 sdc (fun _ => rfl) sames eql_sd g off S.length cap S x w (Nat.le_refl _) (by unfold maxLen at hm; omega) (fun j hj i v hv => hR j _ (by rw [getElem!_pos S j hj]; exact List.getElem?_eq_getElem hj) i v hv)
  change Calls Tryz.prog 66 _ _ _ at hS
  refine hS.mono ?_
  rintro e w' ⟨rfl, q, rfl⟩
  rw [List.take_length]
  exact ⟨rfl, grown_trans (World.grownBy_alloc w _ none) (grown_drewN _ q _)⟩
end Go.Proofs.YtmemeloehgemcaaGreat
namespace Go.Proofs.YtmemeloehgemcaaGreat
open Go.RowKit Go.Shelf

/-- What Next tells. -/
def NextPost (w : World) (r n : Int) (cd : Int → Hd × List Pt) (ts : List Th) (fs : List Fe) (S : List Sd) (e : Ending) (w' : World) : Prop := ∃ p, e = .returned (.tuple #[.int .i64 p, .int .i64 (lkE r n cd ts fs S)]) ∧ w.grownBy w' none ∧ (lkE r n cd ts fs S ≠ 0 → p = 0) ∧ ∀ R L, r = 0 → tabR n cd ts fs = some R → listF R S [] = some L → if L = [] then p = -1 else ∃ L' : List Se, L'.Perm L ∧ L'.Pairwise inS ∧ p = Lib.idxBy sames S (L'.getD (nextN R (pickF R fs) L') Se.none).s
theorem perm_ro {X : List Rv} {L L' : List Se} (hp : L'.Perm L) (h : ∀ e ∈ L, e.ro < X.length) : ∀ i, i < L'.length → (L'.getD i Se.none).ro < X.length := all_ro fun e he => h e (hp.mem_iff.1 he)
set_option maxRecDepth 100000 in
set_option maxHeartbeats 4000000 in
theorem lNext_any (bv vt vf vs : Value) (r n : Int) (cd : Int → Hd × List Pt) (ts : List Th) (fs : List Fe) (S : List Sd) (w : World) (I : LIn w bv vt vf r n cd ts fs) (A : sdR.At w vs S) (hl : S.length ≤ 4096) : Calls Tryz.prog 21 #[bv, vt, vf, vs] w (NextPost w r n cd ts fs S) := by
  obtain ⟨pt, ct, rfl⟩ := I.things.form
  obtain ⟨pf, cf, rfl⟩ := I.feats.form
  obtain ⟨ps, cs, rfl⟩ := A.form
  have HLk := llook_any bv _ _ _ r n cd ts fs S w I A hl
  unfold LkPost tbv at HLk
  have HI : Hid (LIn w bv (.slice pt ts.length ct) (.slice pf fs.length cf) r n cd ts fs) := I
  have HA : Hid (sdR.At w (.slice ps S.length cs) S ∧ S.length ≤ 4096) := ⟨A, hl⟩
  clear I A hl
  go_enter Tryz.func21, Tryz.ntmps21
  go_wp2_with fail
  refine HLk.mono ?_
  rintro e2 w2 ⟨p1, m1, c1, p2, m2, c2, p3, m3, c3, rfl, g2, h2⟩
  obtain ⟨q, hq⟩ : ∃ q, q = lkE r n cd ts fs S := ⟨_, rfl⟩
  have Hq : Hid (q = lkE r n cd ts fs S) := hq
  rw [← hq]
  obtain ⟨V, hV⟩ : ∃ V, V = w2.alloc (.cells #[.slice p1 m1 c1, .slice p2 m2 c2] 118) := ⟨_, rfl⟩
  have HGV : Hid (w.grownBy V none) := by rw [hV]; exact grown_push g2 _
  have HBt : Hid (TbB V w2.heap.size (.slice p1 m1 c1) (.slice p2 m2 c2)) := by rw [hV]; exact alloc_at _ _ _
  have H2 : Hid (∀ R L, r = 0 → tabR n cd ts fs = some R → listF R S [] = some L → ∃ X, rws X = R ∧ TbO V w.heap.size (.slice p1 m1 c1) (.slice p2 m2 c2) X (pickF R fs) ∧ SOwn V w.heap.size (.slice p3 m3 c3) L) := fun R L a b c => by
    obtain ⟨X, x1, x2, x3, x4⟩ := h2 R L a b c
    have g := World.grownBy_alloc w2 (.cells #[.slice p1 m1 c1, .slice p2 m2 c2] 118) none
    exact ⟨X, x1, by rw [hV]; exact x2.grow g, by rw [hV]; exact own_grow x4 g⟩
  clear HLk g2 h2 hq
  go_upto_region 2 with fail
  rw [← hV]
  obtain ⟨nb, hnb⟩ : ∃ nb, nb = w2.heap.size := ⟨_, rfl⟩
  rw [← hnb] at HBt ⊢
  clear hV hnb
  by_cases hq0 : q = 0
  · have e1 : (q != 0) = false := by simpa using hq0
    obtain ⟨hr0, R, L, hR, hL⟩ := lkE_of (Hq.out.symm.trans hq0)
    obtain ⟨X, hX, hT, hS⟩ := H2.out R _ hr0 hR hL
    have hro : ∀ e ∈ L, e.ro < X.length := listF_ro S [] L (fun e he => by cases he) (by rw [hX]; exact hL)
    have hlen : L.length = S.length := by have := listF_len S [] L hL; simpa using this
    have HRL : Hid (rws X = R ∧ tabR n cd ts fs = some R ∧ listF R S [] = some L ∧ lkE r n cd ts fs S = 0) := ⟨hX, hR, hL, Hq.out.symm.trans hq0⟩
    have HTV : Hid (TbO V w.heap.size (.slice p1 m1 c1) (.slice p2 m2 c2) X (pickF R fs)) := hT
    have Hro : Hid (∀ e ∈ L, e.ro < X.length) := hro
    have Hlen : Hid (L.length = S.length) := hlen
    by_cases h0 : L.length = 0
    · obtain rfl : L = [] := List.length_eq_zero_iff.1 h0
      obtain ⟨a3, b3, e3⟩ := RecT.Own.form hS
      cases e3
      clear hq0 hr0 hR hL hX hT hS hro hlen H2 h0
      go_wp2_with fail
      go_ret2
      refine ⟨-1, by rw [HRL.out.2.2.2]; rfl, HGV.out, fun h => absurd HRL.out.2.2.2 h, fun R' L' _ a b => ?_⟩
      rw [HRL.out.2.1] at a
      cases a
      rw [HRL.out.2.2.1] at b
      cases b
      rw [if_pos rfl]
    · obtain ⟨g, cap, e3, hgB, -, -, -, -⟩ := own_cell hS (Nat.pos_of_ne_zero h0)
      cases e3
      have HSo : Hid (SOwn V w.heap.size (.slice (some ⟨g, 0, none⟩) L.length c3) L) := hS
      have CS := sortStand_any g c3 L w.heap.size V hS (by rw [hlen]; exact HA.out.2)
      have H0 : Hid (0 < L.length) := Nat.pos_of_ne_zero h0
      have HgB : Hid (w.heap.size ≤ g) := hgB
      have h0' : ((L.length : Int) == 0) = false := by simpa using h0
      clear hq0 hr0 hR hL hX hT hS hro hlen H2 h0 hgB
      go_wp2_with fail
      refine CS.mono ?_
      rintro e4 w4 ⟨rfl, L', hp, hs, o4, g4⟩
      have HLs : Hid (L'.Perm L ∧ L'.Pairwise inS) := ⟨hp, hs⟩
      have hll : L'.length = L.length := hp.length_eq
      rw [← hll] at o4 ⊢
      have HT4 : Hid (TbO w4 w.heap.size (.slice p1 m1 c1) (.slice p2 m2 c2) X (pickF R fs)) := HTV.out.block HSo.out g4 (by decide) (by decide) (by decide)
      have HB4 : Hid (TbB w4 nb (.slice p1 m1 c1) (.slice p2 m2 c2)) := tb_block HBt.out HSo.out g4 (by decide)
      have HG4 : Hid (w.grownBy w4 none) := grown_own HGV.out g4 (fun y e => by cases e; exact HgB.out)
      have HO4 : Hid (SOwn w4 w.heap.size (.slice (some ⟨g, 0, none⟩) L'.length c3) L') := o4
      have HNx := lnext_any _ _ (.slice (some ⟨g, 0, none⟩) L'.length c3) X (pickF R fs) L' w4 HT4.out.at (RecT.Own.at HO4.out) (perm_ro hp Hro.out) (by rw [hll, Hlen.out]; exact HA.out.2)
      unfold tbv at HNx
      obtain ⟨p, hp'⟩ : ∃ p, p = nextN (rws X) (pickF R fs) L' := ⟨_, rfl⟩
      have hpl : p < L'.length := by rw [hp']; exact nextN_lt (List.length_pos_iff.1 (by rw [hll]; exact H0.out))
      rw [← hp'] at HNx
      have Hp : Hid (p = nextN (rws X) (pickF R fs) L') := hp'
      have Hpl : Hid (p < L'.length) := hpl
      have hpl' : (p : Int) < (L'.length : Int) := Int.ofNat_lt.2 hpl
      obtain ⟨t0, t1⟩ := tb_box HB4.out
      have Hll : Hid (L'.length = L.length) := hll
      clear hp hs hll hp' hpl o4 g4 CS
      go_wp2_with fail
      refine HNx.mono ?_
      rintro e5 w5 ⟨rfl, g5⟩
      obtain ⟨g6, off6, cap6, e6, RR⟩ := SeAt.there (RecT.Own.at (own_grow HO4.out g5)) Hpl.out
      cases e6
      simp only [Nat.zero_add] at RR
      obtain ⟨e, he⟩ : ∃ e, e = L'.getD p Se.none := ⟨_, rfl⟩
      rw [← he] at RR
      have He : Hid (e = L'.getD p Se.none) := he
      obtain ⟨s0, s1, s2, s3, s4, s5, s6, s7, s8, s9, s10⟩ := se_cells RR
      have HG5 : Hid (w.grownBy w5 none) := grown_trans HG4.out g5
      obtain ⟨Y, hY⟩ : ∃ Y, Y = w5.alloc (.cells #[.int .i64 e.s.th, .int .i64 e.s.pl, .int .u8 e.s.wh.wn, .int .u8 e.s.wh.vb, .int .u8 e.s.wh.wm, .int .i64 e.s.wh.ct, .int .u8 e.s.wh.su, .int .u8 e.s.wh.tr, .int .u8 e.s.wh.mr, .string e.s.wh.nm, .int .i64 (e.ro : Int)] 123) := ⟨_, rfl⟩
      have HGY : Hid (w.grownBy Y none) := by rw [hY]; exact grown_push HG5.out _
      have HBe : Hid (SeB Y w5.heap.size e) := by rw [hY]; exact alloc_at _ _ _
      have CI := indexSd_any _ S e.s Y (HA.out.1.keep HGY.out) (by rw [← Hlen.out]; exact H0.out)
      unfold sdc at CI
      clear HNx g5 RR he t0 t1
      go_upto_region 8 with fail
      rw [← hY]
      obtain ⟨nc, hnc⟩ : ∃ nc, nc = w5.heap.size := ⟨_, rfl⟩
      rw [← hnc] at HBe ⊢
      clear hY hnc s0 s1 s2 s3 s4 s5 s6 s7 s8 s9 s10
      obtain ⟨o0, o1, o2, o3, o4, o5, o6, o7, o8, o9, o10⟩ := se_box HBe.out
      go_wp2_with fail
      refine CI.mono ?_
      rintro e8 w8 ⟨rfl, g8⟩
      have HG8 : Hid (w.grownBy w8 none) := grown_trans HGY.out g8
      clear g8 CI o0 o1 o2 o3 o4 o5 o6 o7 o8 o9 o10
      go_wp2_with fail
      go_ret2
      refine ⟨_, by rw [HRL.out.2.2.2]; rfl, HG8.out, fun h => absurd HRL.out.2.2.2 h, fun R' L2 _ a b => ?_⟩
      rw [HRL.out.2.1] at a
      cases a
      rw [HRL.out.2.2.1] at b
      cases b
      rw [if_neg (fun q => by rw [q] at H0; exact absurd H0.out (Nat.lt_irrefl 0))]
      exact ⟨L', HLs.out.1, HLs.out.2, by rw [He.out, Hp.out, HRL.out.1]⟩
  · have e1 : (q != 0) = true := by simpa using hq0
    have Hq0 : Hid (q ≠ 0) := hq0
    clear hq0
    go_wp2_with fail
    go_ret2
    exact ⟨0, by rw [← Hq.out]; rfl, HGV.out, fun _ => rfl, fun R L a b c => absurd (by rw [Hq.out, a]; exact lkE_ok b c) Hq0.out⟩
end Go.Proofs.YtmemeloehgemcaaGreat
namespace Go.Proofs.YtmemeloehgemcaaGreat
open Go.RowKit Go.Shelf

theorem few_at {ok : Nat → Prop} {w : World} {b : Nat} {es : List Ent} {p : Pl} (B : Book ok w b es p) (c : Int) : (atC p es c).2.length ≤ 4 := by
  unfold atC
  split
  · split
    · rename_i e he
      exact B.parts e (List.mem_of_getElem? he)
    · exact Nat.zero_le _
  · exact Nat.zero_le _
theorem LBook.of {ok : Nat → Prop} {w : World} {b : Nat} {es : List Ent} {p : Pl} (B : Book ok w b es p) : LBook w (.pointer (some ⟨b, 0, none⟩)) (es.length : Int) (atC p es) := by
  refine ⟨fun X g => ?_, fun X t g => ⟨_, tcard_book ok b es p t X (B.keep g)⟩, few_at B⟩
  exact (len_yes b es.length (B.keep g).lies.len p X (B.keep g).lies.flags).mono fun e w' q => ⟨q.1, q.2.1⟩
theorem LIn.of {ok : Nat → Prop} {w : World} {b : Nat} {es : List Ent} {p : Pl} {vt vf : Value} {ts : List Th} {fs : List Fe} (B : Book ok w b es p) (T : thR.At w vt ts) (F : feR.At w vf fs) (hf : fs.length ≤ 4096) : LIn w (.pointer (some ⟨b, 0, none⟩)) vt vf (refE p ts.length) (es.length : Int) (atC p es) ts fs := by
  obtain ⟨q, c, rfl⟩ := T.form
  refine ⟨fun X g => lrefusal_book ok b es p q ts.length c X (B.keep g), fun h => ⟨LBook.of B, ?_⟩, T, F, fun _ => hf⟩
  unfold refE at h
  split at h
  · cases h
  · omega
theorem LIn.no {w : World} {v vt vf : Value} {ts : List Th} {fs : List Fe} (B : NoBk w v) (T : thR.At w vt ts) (F : feR.At w vf fs) : LIn w v vt vf 1 0 (fun _ => (Hd.none, [])) ts fs := by
  obtain ⟨q, c, rfl⟩ := T.form
  exact ⟨fun X g => lrefusal_no v q ts.length c X (B.keep g), fun h => absurd h (by decide), T, F, fun h => absurd h (by decide)⟩
end Go.Proofs.YtmemeloehgemcaaGreat
