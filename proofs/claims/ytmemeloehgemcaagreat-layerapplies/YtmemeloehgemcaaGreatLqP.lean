/-
  LayerApplies: what an effect is about rises by stamps; nothing else is changed.
-/
import Derived.Test.YtmemeloehgemcaaGreatL38
namespace Go.Proofs.YtmemeloehgemcaaGreat
open Go.RowKit Go.Shelf

def BsL (w : World) (d n : Nat) (bs : List Bool) : Prop := w.ownsRow d 4 1 (.slice (some ⟨d, 0, none⟩) n n) n (bs.map Value.bool)
theorem bsl_made {w : World} {d n : Nat} (h : w.ownsRow d 4 1 (.slice (some ⟨d, 0, none⟩) n n) n (madeCells (Value.bool false).cells (n * 1)).toList) : BsL w d n (List.replicate n false) := by
  unfold BsL
  rw [List.map_replicate]
  rw [Nat.mul_one] at h
  rw [← toList_madeCells_one]
  exact h
theorem BsL.grow {w w' : World} {d n : Nat} {bs : List Bool} (h : BsL w d n bs) (g : w.grownBy w' none) : BsL w' d n bs := own_grow h g
theorem BsL.cell {w : World} {d n k : Nat} {bs : List Bool} {b : Bool} (h : BsL w d n bs) (hb : bs[k]? = some b) (hk : k < n) : w.cell? ⟨d, k, none⟩ = some (.bool b) := by
  rw [World.ownsRow.cellAt h k (by omega), List.getElem?_map, hb]
  rfl
theorem BsL.free {w : World} {d n : Nat} {bs : List Bool} (h : BsL w d n bs) (i : Nat) : w.frozen? ⟨d, i, none⟩ = false := World.ownsRow.frozenAt h i
theorem BsL.set {w : World} {d n : Nat} {bs : List Bool} (h : BsL w d n bs) (k : Nat) (b : Bool) : BsL (w.setCell ⟨d, k, none⟩ (.bool b)) d n (bs.set k b) ∧ w.grownBy (w.setCell ⟨d, k, none⟩ (.bool b)) (some d) := by
  have := World.ownsRow.stored h k (.bool b)
  refine ⟨?_, this.2⟩
  unfold BsL
  rw [List.map_set]
  exact this.1
/-- Which numbers are marked. -/
def LM (l : List Int) (j n : Nat) (bs : List Bool) : Prop := bs.length = n ∧ ∀ y, y < n → bs[y]? = some (decide (((y : Nat) : Int) ∈ l.take j))
theorem LM.start (l : List Int) (n : Nat) : LM l 0 n (List.replicate n false) := ⟨List.length_replicate, fun y hy => by rw [List.getElem?_replicate, if_pos hy]; simp⟩
theorem LM.step {l : List Int} {j n u : Nat} {bs : List Bool} (h : LM l j n bs) (hj : l[j]? = some (u : Int)) : LM l (j + 1) n (bs.set u true) := by
  refine ⟨by rw [List.length_set]; exact h.1, fun y hy => ?_⟩
  have e : l.take (j + 1) = l.take j ++ [(u : Int)] := by rw [List.take_add_one, hj]; rfl
  rw [e]
  by_cases q : y = u
  · subst q
    rw [List.getElem?_set_self (by rw [h.1]; exact hy)]
    simp
  · rw [List.getElem?_set_ne (by omega), h.2 y hy]
    congr 1
    rw [Bool.eq_iff_iff, decide_eq_true_iff, decide_eq_true_iff, List.mem_append, List.mem_singleton]
    constructor
    · exact Or.inl
    · rintro (z | z)
      · exact z
      · omega
def lastF (ts : List Th) (l : List Int) : Nat → Int
  | 0 => 0
  | j + 1 => stOf ts (l.getD j 0)
theorem last_lt {ts : List Th} {l : List Int} (hp : l.Pairwise fun x y => stOf ts x < stOf ts y) (h0 : ∀ x ∈ l, 0 < stOf ts x) : ∀ j, j < l.length → lastF ts l j < stOf ts (l.getD j 0)
  | 0, h => by rw [getD_in h]; exact h0 _ (List.getElem_mem _)
  | j + 1, h => by
    show stOf ts (l.getD j 0) < _
    rw [getD_in h, getD_in (show j < l.length by omega)]
    exact List.pairwise_iff_getElem.1 hp j (j + 1) (by omega) h (by omega)
theorem ints_cell {w : World} {base : Nat} {v : Value} {l : List Int} (h : LOwnI w base v l) {j : Nat} (hj : j < l.length) : ∃ g c, v = .slice (some ⟨g, 0, none⟩) l.length c ∧ ∀ w', w.grownBy w' none → w'.cell? ⟨g, j, none⟩ = some (.int .i64 (l.getD j 0)) := by
  obtain ⟨g, c, e, _, _, _, _, hc⟩ := own_cell h (by omega)
  refine ⟨g, c, e, fun w' gr => ?_⟩
  refine gr.cell ((hc j (by omega)).1.trans ?_) (by simp)
  unfold ints
  rw [List.getElem?_map, List.getElem?_eq_getElem hj, Option.map_some, getD_in hj]
theorem cell_inL {w : World} {g i : Nat} {v : Value} (h : w.cell? ⟨g, i, none⟩ = some v) : g < w.heap.size := by
  unfold World.cell? at h
  cases hg : w.heap[g]? with
  | none => simp [hg] at h
  | some o => exact (Array.getElem?_eq_some_iff.1 hg).1
theorem lt_of_eq {i n m : Nat} (h : i < n) (e : n = m) : i < m := e ▸ h
theorem la_one {i n n1 : Nat} (h : n1 = n + 1) (hl : i < n) : i + 1 < n1 ∧ ((i : Int) + 1 < (n1 : Int)) := by omega
theorem la_wr {i n : Nat} (hl : i < n) (h : n ≤ 2100) : wrap64 ((i : Int) + 1) = (i : Int) + 1 ∧ IntKind.i64.wrap ((i : Int) + 1) = (i : Int) + 1 := ⟨wrap_next (by omega), by rw [IntWalk.i64_in _ (by omega)]⟩
theorem la_th {th : Int} {n : Nat} (h1 : 1 ≤ th) (h2 : th ≤ (n : Int)) (h : n ≤ 2100) : (th - 1).toNat < n ∧ (((th - 1).toNat : Nat) : Int) < (n : Int) ∧ wrap64 (th - 1) = (((th - 1).toNat : Nat) : Int) ∧ IntKind.i64.wrap (th - 1) = (((th - 1).toNat : Nat) : Int) := ⟨by omega, by omega, by unfold wrap64; omega, by rw [IntWalk.i64_in _ (by omega)]; omega⟩
theorem la_th2 {m : Int} {cd : Int → Hd × List Pt} {ts : List Th} {fs : List Fe} {R : List Rw} {G : List Fe} {k : Int} {x : Se} (h : Tab m cd ts fs R) (hx : x ∈ effL R G k) : 1 ≤ x.s.th ∧ x.s.th ≤ (fs.length : Int) := by
  obtain ⟨h1, h2, _⟩ := eff_mem hx
  have := h.nu _ (List.getElem_mem h1)
  rw [← getD_in (d := Rw.none) h1, ← h2] at this
  exact this
theorem la_be {m : Int} {cd : Int → Hd × List Pt} {ts : List Th} {fs A : List Fe} {R : List Rw} {G : List Fe} {k : Int} {x : Se} {l : List Int} (h : Tab m cd ts fs R) (hx : x ∈ effL R G k) (hA : A = amgL fs R (applyL R (pickF R fs) x)) (hl : l = numL R (aboutL R (pickF R fs) x)) (i : Nat) : A.getD i Fe.none = if decide (((i : Int) + 1) ∈ l) then doneF (fs.getD i Fe.none) x.s.wh (fs.getD (x.s.th - 1).toNat Fe.none).ho else fs.getD i Fe.none := by
  rw [hA, h.becomes hx i, hl]
  by_cases q : ((i : Int) + 1) ∈ numL R (aboutL R (pickF R fs) x)
  · rw [if_pos q, if_pos (decide_eq_true q)]
  · rw [if_neg q, if_neg (by rw [decide_eq_false q]; exact Bool.false_ne_true)]
theorem fe_gets {w : World} {v : Value} {X : List Fe} (h : feR.At w v X) {i : Nat} (hi : i < X.length) : ∃ g off cap, v = .slice (some ⟨g, off, none⟩) X.length cap ∧ w.rangeAt g (off + i * 5) (fec (X.getD i Fe.none)) := by
  obtain ⟨g, off, cap, e, r⟩ := fe_there h hi
  exact ⟨g, off, cap, e, by rw [getD_in hi]; exact r⟩
theorem fe_getz {w : World} {g off n c : Nat} {X : List Fe} (h : feR.At w (.slice (some ⟨g, off, none⟩) n c) X) {i : Nat} (hi : i < X.length) : w.rangeAt g (off + i * 5) (fec (X.getD i Fe.none)) := by
  obtain ⟨g', off', cap, e, r⟩ := fe_gets h hi
  injection e with e1 _ _
  injection e1 with e1
  injection e1 with ea eb
  rw [ea, eb]
  exact r
theorem bs_at {w : World} {d n1 i : Nat} {bl : List Bool} {l : List Int} (h : BsL w d n1 bl) (hb : ∀ y, y < n1 → bl[y]? = some (decide (((y : Nat) : Int) ∈ l))) (hi : i + 1 < n1) : w.cell? ⟨d, i + 1, none⟩ = some (.bool (decide (((i : Int) + 1) ∈ l))) := by
  rw [h.cell (hb (i + 1) hi) hi]
  simp
/-- What stands while LayerApplies looks at its answers. -/
structure AqS (w w7 wr : World) (b1 bs : Nat) (bv vt vf vl va : Value) (m : Int) (cd : Int → Hd × List Pt) (ts : List Th) (fs : List Fe) (s : Sd) (l : List Int) (A : List Fe) : Prop where
  ra : RaS w wr b1 bv vt vf 0 m cd ts fs
  sb : SdB wr bs s
  li : LOwnI wr 0 vl l
  an : feR.At wr va A
  gr : w7.grownBy wr none
theorem AqS.keep {w w7 wr wr' : World} {b1 bs : Nat} {bv vt vf vl va : Value} {m : Int} {cd : Int → Hd × List Pt} {ts : List Th} {fs : List Fe} {s : Sd} {l : List Int} {A : List Fe} (h : AqS w w7 wr b1 bs bv vt vf vl va m cd ts fs s l A) (g : wr.grownBy wr' none) : AqS w w7 wr' b1 bs bv vt vf vl va m cd ts fs s l A := ⟨h.ra.keep g, grown_keep g h.sb (by simp), own_grow h.li g, h.an.keep g, grown_trans h.gr g⟩
theorem num_few {R : List Rw} {F : List Fe} {a : Se} (h : R.length ≤ 16) : (numL R (aboutL R F a)).length ≤ 16 := Nat.le_trans (numU_len _ _ _) h
/-- A store into the marks. -/
theorem AqS.far {w w7 wr wr' : World} {b1 bs d : Nat} {bv vt vf vl va : Value} {m : Int} {cd : Int → Hd × List Pt} {ts : List Th} {fs : List Fe} {s : Sd} {l : List Int} {A : List Fe} (h : AqS w w7 wr b1 bs bv vt vf vl va m cd ts fs s l A) (g : wr.grownBy wr' (some d)) (hd : w7.heap.size ≤ d) (H7 : AqS w w7 w7 b1 bs bv vt vf vl va m cd ts fs s l A) : AqS w w7 wr' b1 bs bv vt vf vl va m cd ts fs s l A := H7.keep (grown_own h.gr g (fun y e => by cases e; exact hd))
set_option maxRecDepth 100000 in
set_option maxHeartbeats 4000000 in
theorem layerApplies_any (vc vm vt vf : Value) (op : Bool) (cs : List Ent) (ms : List Mk) (ts : List Th) (fs : List Fe) (k wh : Int) (w : World) (FI : FiA w vc vm cs ms) (TH : thR.At w vt ts) (FE : feR.At w vf fs) : Calls Tryz.prog 3 #[.agg #[vc, vm, .bool op], .agg #[vt, vf], .int .i64 k, .int .i64 wh] w fun e w' => e = .returned (.bool true) ∧ w.grownBy w' none := by
  obtain ⟨pc, kc, pm, km, rfl, rfl⟩ := FI.forms
  obtain ⟨pt, ct, rfl⟩ := TH.form
  obtain ⟨pf, cf, rfl⟩ := FE.form
  obtain ⟨W, hW⟩ : ∃ W, W = (w.alloc (.cells #[.slice pc cs.length kc, .slice pm ms.length km, .bool op] 25)).alloc (.cells #[.slice pt ts.length ct, .slice pf fs.length cf] 29) := ⟨_, rfl⟩
  have HG : Hid (w.grownBy W none) := by rw [hW]; exact grown_push (World.grownBy_alloc _ _ none) _
  have H0 : Hid (Pre w W w.heap.size (w.heap.size + 1) (.slice pc cs.length kc) (.slice pm ms.length km) (.slice pt ts.length ct) (.slice pf fs.length cf) op cs ms ts fs) := ⟨FI.keep HG.out, TH.keep HG.out, FE.keep HG.out, by rw [hW]; exact alloc_two _ _ _ _ _, by rw [hW]; exact alloc2_b _ _ _ _, HG.out⟩
  clear FI TH FE
  go_enter Tryz.func3, Tryz.ntmps3
  go_upto_region 1 with fail
  rw [← hW]
  obtain ⟨b0, hb0⟩ : ∃ b0, b0 = w.heap.size := ⟨_, rfl⟩
  obtain ⟨b1, hb1⟩ : ∃ b1, b1 = b0 + 1 := ⟨_, rfl⟩
  rw [← hb0, ← hb1] at H0 ⊢
  clear hW hb0 hb1 HG
  have C1 := lawake_any W
  go_wp2_with fail
  refine C1.mono ?_
  rintro e1 w1 ⟨rfl, g1⟩
  have H1 : Hid (Pre w w1 b0 b1 (.slice pc cs.length kc) (.slice pm ms.length km) (.slice pt ts.length ct) (.slice pf fs.length cf) op cs ms ts fs) := H0.out.keep g1
  clear C1 g1 H0
  have C2 := heavy_any pc pm pt pf cs.length ms.length ts.length fs.length kc km ct cf op w1
  obtain ⟨f0, f1, f2⟩ := fil_box H1.out.fb
  obtain ⟨t0, t1⟩ := tab_box H1.out.tb
  go_wp2_with fail
  refine C2.mono ?_
  rintro e2 w2 ⟨rfl, g2⟩
  have H2 : Hid (Pre w w2 b0 b1 (.slice pc cs.length kc) (.slice pm ms.length km) (.slice pt ts.length ct) (.slice pf fs.length cf) op cs ms ts fs) := H1.out.keep g2
  clear C2 g2 H1 f0 f1 f2 t0 t1
  cases hh : heavyB cs.length ms.length ts.length fs.length with
  | true =>
    go_wp2_with fail
    go_ret
    exact ⟨rfl, H2.out.gr⟩
  | false =>
    have HH : Hid (cs.length ≤ 80 ∧ ms.length ≤ 20 ∧ ts.length ≤ 2100 ∧ fs.length ≤ 2100) := heavyB_no hh
    clear hh
    have C3 := books_any _ _ op cs ms w2 H2.out.fi
    unfold BoPost at C3
    obtain ⟨f0, f1, f2⟩ := fil_box H2.out.fb
    obtain ⟨nB, hnB⟩ : ∃ nB, nB = w2.heap.size + 1 := ⟨_, rfl⟩
    rw [← hnB] at C3
    clear hnB
    go_wp2_with fail
    refine C3.mono ?_
    rintro e3 w3 ⟨v3, es3, fs3, p3, rfl, P3, -, g3⟩
    have HS' : Hid (RaS w w3 b1 (.pointer (some ⟨nB, 0, none⟩)) (.slice pt ts.length ct) (.slice pf fs.length cf) (refE p3 ts.length) (es3.length : Int) (atC p3 es3) ts fs) := H2.out.ras g3 P3 (by have := HH.out.2.2.2; omega)
    obtain ⟨r, hr⟩ : ∃ r, r = refE p3 ts.length := ⟨_, rfl⟩
    obtain ⟨m, hm⟩ : ∃ m, m = (es3.length : Int) := ⟨_, rfl⟩
    obtain ⟨cd, hcd⟩ : ∃ cd, cd = atC p3 es3 := ⟨_, rfl⟩
    rw [← hr, ← hm, ← hcd] at HS'
    have HS : Hid (RaS w w3 b1 (.pointer (some ⟨nB, 0, none⟩)) (.slice pt ts.length ct) (.slice pf fs.length cf) r m cd ts fs) := HS'.out
    clear C3 P3 g3 H2 f0 f1 f2 HS' hr hm hcd
    clear p3 es3 fs3 v3
    obtain ⟨vt, hvt⟩ : ∃ vt, vt = Value.slice pt ts.length ct := ⟨_, rfl⟩
    clear hvt vt
    have C4 := lEffects_any _ _ _ r m cd ts fs k w3 HS.out.inn
    unfold EffectsPost at C4
    obtain ⟨t0, t1⟩ := tab_box HS.out.tab
    go_wp2_with fail
    refine C4.mono ?_
    rintro e4 w4 ⟨p4, m4, c4, rfl, g4, z4, h4⟩
    have HS4 : Hid (RaS w w4 b1 (.pointer (some ⟨nB, 0, none⟩)) (.slice pt ts.length ct) (.slice pf fs.length cf) r m cd ts fs) := HS.out.keep g4
    obtain ⟨q, hq⟩ : ∃ q, q = bgE r m cd ts fs k := ⟨_, rfl⟩
    rw [← hq]
    rw [← hq] at z4
    clear C4 t0 t1 HS
    by_cases hq0 : q = 0
    · obtain ⟨hr0, hk5, R, hR⟩ := bgE_of (hq.symm.trans hq0)
      have o4 := (h4 R hr0 hk5 hR).at
      obtain ⟨L, hL⟩ : ∃ L, L = effL R (pickF R fs) k := ⟨_, rfl⟩
      rw [← hL] at o4
      have HTab : Hid (Tab m cd ts fs R) := Tab.of hR
      have HL : Hid (L = effL R (pickF R fs) k) := hL
      have HO : Hid (sdR.At w4 (.slice p4 m4 c4) (L.map Se.s)) := o4
      have hm4 : m4 = L.length := by obtain ⟨a, b, e⟩ := o4.form; cases e; simp
      subst hm4
      subst hr0
      clear hR hL o4 h4 z4 hk5 hq g4
      have hq1 : (q != 0) = false := by simpa using hq0
      clear hq0
      by_cases h0 : L.length = 0
      · have e2 : ((L.length : Int) == 0) = true := by rw [h0]; rfl
        go_wp2_with fail
        go_ret
        exact ⟨rfl, HS4.out.gr⟩
      · have e2 : ((L.length : Int) == 0) = false := by rw [beq_eq_false_iff_ne]; omega
        have hl64 : L.length ≤ 64 := by
          have h3 := HTab.out.effs (HS4.out.inn.book rfl).1.few (pickF R fs) k
          rw [← HL.out] at h3
          exact h3
        obtain ⟨gE, oE, cE, eE, hRE⟩ := es_slice HO.out (Nat.pos_of_ne_zero h0)
        cases eE
        have C5 := kpick_any wh L.length w4 (Nat.pos_of_ne_zero h0) (by omega)
        clear h0
        go_wp2_with fail
        refine C5.mono ?_
        rintro e5 w5 ⟨⟨i, hi, rfl⟩, hw5⟩
        rw [hw5]
        clear hw5 w5 C5
        obtain ⟨x, hx⟩ : ∃ x, x = L.getD i Se.none := ⟨_, rfl⟩
        have HXm : Hid (x ∈ effL R (pickF R fs) k) := by show x ∈ _; rw [hx, ← HL.out, getD_in hi]; exact List.getElem_mem _
        have rx := hRE w4 (grown_refl _ _) i hi
        rw [← hx] at rx
        obtain ⟨x0, x1, x2, x3, x4, x5, x6, x7, x8, x9⟩ := sd_cells rx
        have i0 : (0 : Int) ≤ (i : Int) := by omega
        have i1 : (i : Int) < (L.length : Int) := by omega
        obtain ⟨W5, hW5⟩ : ∃ W5, W5 = w4.alloc (.cells #[.int .i64 x.s.th, .int .i64 x.s.pl, .int .u8 x.s.wh.wn, .int .u8 x.s.wh.vb, .int .u8 x.s.wh.wm, .int .i64 x.s.wh.ct, .int .u8 x.s.wh.su, .int .u8 x.s.wh.tr, .int .u8 x.s.wh.mr, .string x.s.wh.nm] 49) := ⟨_, rfl⟩
        have g5 : w4.grownBy W5 none := by rw [hW5]; exact World.grownBy_alloc _ _ none
        have HS5 : Hid (RaS w W5 b1 (.pointer (some ⟨nB, 0, none⟩)) (.slice pt ts.length ct) (.slice pf fs.length cf) 0 m cd ts fs) := HS4.out.keep g5
        have HB5 : Hid (SdB W5 w4.heap.size x.s) := by rw [hW5]; exact alloc_at _ _ _
        clear hRE hx hi rx hl64 g5 e2
        go_upto_region 9 with fail
        rw [← hW5]
        obtain ⟨bs, hbs⟩ : ∃ bs, bs = w4.heap.size := ⟨_, rfl⟩
        rw [← hbs] at HB5 ⊢
        clear hW5 hbs x0 x1 x2 x3 x4 x5 x6 x7 x8 x9 HO HS4
        have C6 := lAbout_any _ _ _ 0 m cd ts fs x.s W5 HS5.out.inn
        unfold sdv at C6
        obtain ⟨t0, t1⟩ := tab_box HS5.out.tab
        obtain ⟨x0, x1, x2, x3, x4, x5, x6, x7, x8, x9⟩ := sd_box HB5.out
        go_wp2_with fail
        refine (C6.mono fun e w' z => HTab.out.abt HXm.out z).mono ?_
        rintro e6 w6 ⟨p6, c6, rfl, g6, o6⟩
        have HS6 : Hid (RaS w w6 b1 (.pointer (some ⟨nB, 0, none⟩)) (.slice pt ts.length ct) (.slice pf fs.length cf) 0 m cd ts fs) := HS5.out.keep g6
        have HB6 : Hid (SdB w6 bs x.s) := grown_keep g6 HB5.out (by simp)
        obtain ⟨l, hl⟩ : ∃ l, l = numL R (aboutL R (pickF R fs) x) := ⟨_, rfl⟩
        rw [← hl] at o6 ⊢
        have HLI : Hid (l = numL R (aboutL R (pickF R fs) x)) := hl
        have HO6 : Hid (LOwnI w6 0 (.slice p6 l.length c6) l) := own_big o6 (Nat.zero_le _)
        clear C6 t0 t1 x0 x1 x2 x3 x4 x5 x6 x7 x8 x9 HS5 HB5 g6 o6 hl
        have C7 := lApply_any _ _ _ 0 m cd ts fs x.s w6 HS6.out.inn
        unfold sdv at C7
        obtain ⟨t0, t1⟩ := tab_box HS6.out.tab
        obtain ⟨x0, x1, x2, x3, x4, x5, x6, x7, x8, x9⟩ := sd_box HB6.out
        go_wp2_with fail
        refine (C7.mono fun e w' z => HTab.out.app HXm.out z).mono ?_
        rintro e7 w7 ⟨p7, c7, rfl, g7, o7⟩
        obtain ⟨A, hA⟩ : ∃ A, A = amgL fs R (applyL R (pickF R fs) x) := ⟨_, rfl⟩
        rw [← hA] at o7 ⊢
        have HA : Hid (A = amgL fs R (applyL R (pickF R fs) x)) := hA
        have hAl : A.length = fs.length := by rw [hA, amgL_len]
        rw [hAl] at o7 ⊢
        have H7 : Hid (AqS w w7 w7 b1 bs (.pointer (some ⟨nB, 0, none⟩)) (.slice pt ts.length ct) (.slice pf fs.length cf) (.slice p6 l.length c6) (.slice p7 fs.length c7) m cd ts fs x.s l A) := ⟨HS6.out.keep g7, grown_keep g7 HB6.out (by simp), own_grow HO6.out g7, o7.at, grown_refl _ _⟩
        have HAl : Hid (A.length = fs.length) := hAl
        clear C7 t0 t1 x0 x1 x2 x3 x4 x5 x6 x7 x8 x9 HS6 HB6 HO6 g7 o7 hA hAl
        obtain ⟨t0, t1⟩ := tab_box H7.out.ra.tab
        have hff : ((fs.length : Int) != (fs.length : Int)) = false := bne_self_eq_false _
        obtain ⟨n1, hn1⟩ : ∃ n1, n1 = fs.length + 1 := ⟨_, rfl⟩
        have hwn : wrap64 ((fs.length : Int) + 1) = (n1 : Int) := by have := HH.out.2.2.2; unfold wrap64; omega
        have HN1 : Hid (n1 = fs.length + 1 ∧ n1 ≤ 2101) := ⟨hn1, by have := HH.out.2.2.2; omega⟩
        clear hn1
        obtain ⟨ib, hi, hz0, hz1, hz2⟩ := info_parts (P := Tryz.prog) (e := 4) (z := .bool false) (size := 1) (bytes := 1) (by kernel_rfl)
        have hby : ib.bytes * n1 ≤ 281474976710656 := by rw [hz2]; have := HN1.out.2; omega
        have hmx : n1 ≤ maxLen := by have := HN1.out.2; unfold maxLen; omega
        go_upto_region 14 with (at_make; refine wpList_make_full _ rfl _ _ 56 rfl w7.heap.size 4 ib (.bool false) 1 Tryz.underlying56 hi hz0 hz1 .i64 .i64 _ _ n1 rfl rfl hwn hwn hby hmx (Nat.le_refl _) ?_; intro V8 o8 g8; have HO8 := o8; have HD8 : Hid (w7.grownBy V8 none) := g8; clear g8)
        obtain ⟨d, hd⟩ : ∃ d, d = w7.heap.size := ⟨_, rfl⟩
        have HDd : Hid (d = w7.heap.size) := hd
        have HB8 : Hid (BsL V8 d n1 (List.replicate n1 false)) := bsl_made (by rw [← hd] at o8; exact o8)
        rw [← hd]
        have H8 : Hid (AqS w w7 V8 b1 bs (.pointer (some ⟨nB, 0, none⟩)) (.slice pt ts.length ct) (.slice pf fs.length cf) (.slice p6 l.length c6) (.slice p7 fs.length c7) m cd ts fs x.s l A) := H7.out.keep HD8.out
        have HLs : Hid ((l.Pairwise fun a b => stOf ts a < stOf ts b) ∧ ∀ y ∈ l, 1 ≤ y ∧ y ≤ (fs.length : Int) ∧ (ts.getD (y - 1).toNat Th.none).place = 4 ∧ 0 < stOf ts y) := ⟨by show List.Pairwise _ l; rw [HLI.out]; exact HTab.out.rise _ _, fun y hy => by rw [HLI.out] at hy; exact HTab.out.num hy⟩
        have HTl : Hid (ts.length = fs.length) := HTab.out.len
        clear hd o8 HO8 hi hz0 hz1 hz2 ib t0 t1 hff hwn hby hmx HD8
        go_wp2_with fail
        go_loopw [21, 22] (fun x21 x22 wr => ∃ (j : Nat) (bl : List Bool), j ≤ l.length ∧ x22 = .int .i64 (j : Int) ∧ x21 = .int .i64 (lastF ts l j) ∧ Hid (LM l j n1 bl ∧ BsL wr d n1 bl ∧ AqS w w7 wr b1 bs (.pointer (some ⟨nB, 0, none⟩)) (.slice pt ts.length ct) (.slice pf fs.length cf) (.slice p6 l.length c6) (.slice p7 fs.length c7) m cd ts fs x.s l A)) (fun _ x22 _ => l.length - (intOf x22).toNat)
        case atStart => exact ⟨0, _, Nat.zero_le _, rfl, rfl, LM.start l n1, HB8.out, H8.out⟩
        case round =>
          obtain ⟨j, bl, hj, rfl, rfl, HR⟩ := hrel
          obtain ⟨U, hU⟩ : ∃ U, U = wr := ⟨_, rfl⟩
          subst hU
          clear HB8 H8
          rcases (show j < l.length ∨ j = l.length from by omega) with hjl | hje
          · obtain ⟨gl, cl, el, hcl⟩ := ints_cell HR.out.2.2.li hjl
            have ep : p6 = some ⟨gl, 0, none⟩ := by injection el
            subst ep
            obtain ⟨hy1, hy2, hy3, hy4⟩ := HLs.out.2 (l.getD j 0) (by rw [getD_in hjl]; exact List.getElem_mem _)
            have hlt := last_lt HLs.out.1 (fun y hy => (HLs.out.2 y hy).2.2.2) j hjl
            obtain ⟨z, hz⟩ : ∃ z : Nat, z = (l.getD j 0 - 1).toNat := ⟨_, rfl⟩
            obtain ⟨u, hu⟩ : ∃ u : Nat, u = z + 1 := ⟨_, rfl⟩
            have hyu : l.getD j 0 = (u : Int) := by omega
            obtain ⟨gT, oT, cT, eT, hrT⟩ := th_there HR.out.2.2.ra.inn.things (i := z) (by have := HTl.out; omega)
            have ept : pt = some ⟨gT, oT, none⟩ := by injection eT
            subst ept
            obtain ⟨t, htd⟩ : ∃ t, t = ts.getD z Th.none := ⟨_, rfl⟩
            rw [← getD_in (d := Th.none) (show z < ts.length by have := HTl.out; omega), ← htd] at hrT
            have hpl : t.place = 4 := by rw [htd, hz]; exact hy3
            have hst : stOf ts (l.getD j 0) = t.stamp := by unfold stOf; rw [← hz, ← htd]
            rw [hst] at hlt
            obtain ⟨la, hla⟩ : ∃ la, la = lastF ts l j := ⟨_, rfl⟩
            rw [← hla] at hlt ⊢
            have HN : Hid (lastF ts l (j + 1) = t.stamp ∧ l[j]? = some (u : Int) ∧ u < n1 ∧ j < l.length) := ⟨by show stOf ts (l.getD j 0) = _; exact hst, by rw [List.getElem?_eq_getElem hjl, ← getD_in (d := (0 : Int)) hjl, hyu], by have := HN1.out.1; omega, hjl⟩
            have j0 : (0 : Int) ≤ (j : Int) := by omega
            have j1 : (j : Int) < (l.length : Int) := by omega
            have z0 : (0 : Int) ≤ (z : Int) := by omega
            have z1 : (z : Int) < (ts.length : Int) := by have := HTl.out; omega
            have u1 : ¬ ((u : Int) < 1) := by omega
            have u1d : decide ((u : Int) < 1) = false := decide_eq_false u1
            have u2 : ¬ ((fs.length : Int) < (u : Int)) := by omega
            have u2d : decide ((fs.length : Int) < (u : Int)) = false := decide_eq_false u2
            have u2n : ¬ (fs.length < u) := by omega
            have u2e : decide (fs.length < u) = false := decide_eq_false u2n
            have u3 : wrap64 ((u : Int) - 1) = (z : Int) := by have := HH.out.2.2.2; unfold wrap64; omega
            have u3i : IntKind.i64.wrap ((u : Int) - 1) = (z : Int) := by rw [IntWalk.i64_in _ (by have := HH.out.2.2.2; omega)]; omega
            have u4 : (0 : Int) ≤ (u : Int) := by omega
            have u5 : (u : Int) < (n1 : Int) := by have := HN1.out.1; omega
            have s1 : ¬ (t.stamp ≤ la) := by omega
            have s1d : decide (t.stamp ≤ la) = false := decide_eq_false s1
            have p1 : (t.place != 4) = false := by rw [hpl]; rfl
            obtain ⟨D, hD⟩ : ∃ D, D = U.drew := ⟨_, rfl⟩
            have gD : U.grownBy D none := by rw [hD]; exact grown_drew _
            have HRD : Hid (LM l j n1 bl ∧ BsL D d n1 bl ∧ AqS w w7 D b1 bs (.pointer (some ⟨nB, 0, none⟩)) (.slice (some ⟨gT, oT, none⟩) ts.length ct) (.slice pf fs.length cf) (.slice (some ⟨gl, 0, none⟩) l.length c6) (.slice p7 fs.length c7) m cd ts fs x.s l A) := ⟨HR.out.1, HR.out.2.1.grow gD, HR.out.2.2.keep gD⟩
            have l0 := hcl U (grown_refl _ _)
            rw [hyu] at l0
            obtain ⟨a0, a1, a2, a3, a4, a5, a6, a7, a8, a9, a10⟩ := th_cells hrT
            rw [hpl] at a2
            obtain ⟨t0, t1⟩ := tab_box HR.out.2.2.ra.tab
            have m0 := hcl D gD
            rw [hyu] at m0
            obtain ⟨v0, v1⟩ := tab_box HRD.out.2.2.ra.tab
            have b3 := gD.cell a3 (by simp)
            have HE : Hid (D = U.drew) := hD
            clear hj hjl el hcl hy1 hy2 hy3 hy4 hz hu hyu eT hrT htd hst hla hlt HR gD hD a0 a1 a4 a5 a6 a7 a8 a9 a10 hpl
            go_upto_region 18 with fail
            refine wp_region_held_drew (S := fun w' => U.grownBy w' none) (by kernel_rfl) (grown_drew _) (fun hHeld => ?_)
            refine wpAnyH_take (i := 0) (v := ?_) rfl (by kernel_rfl) (by kernel_rfl) (by kernel_rfl) (fun _ _ _ h => h) (Or.inl ⟨by rfl, ?_⟩) (by assumption) ?_
            rotate_left 1
            · (intro w0 hSw; go_simp; try with_reducible rfl)
            simp only [List.getElem_toArray, List.getElem_cons_zero]
            go_frame
            refine wpAnyH_take (i := 1) (v := ?_) rfl (by kernel_rfl) (by kernel_rfl) (by kernel_rfl) (fun _ _ _ h => h) (Or.inl ⟨by rfl, ?_⟩) (by assumption) ?_
            rotate_left 1
            · (intro w0 hSw; go_simp; try with_reducible rfl)
            simp only [List.getElem_toArray, List.getElem_cons_zero, List.getElem_cons_succ]
            go_frame
            refine wpAnyH_take (i := 2) (v := ?_) rfl (by kernel_rfl) (by kernel_rfl) (by kernel_rfl) (fun _ _ _ h => h) (Or.inl ⟨by rfl, ?_⟩) (by assumption) ?_
            rotate_left 1
            · (intro w0 hSw; go_simp; try with_reducible rfl)
            simp only [List.getElem_toArray, List.getElem_cons_zero, List.getElem_cons_succ]
            go_frame
            refine wpAnyH_take (i := 3) (v := ?_) rfl (by kernel_rfl) (by kernel_rfl) (by kernel_rfl) (fun _ _ _ h => h) (Or.inl ⟨by rfl, ?_⟩) (by assumption) ?_
            rotate_left 1
            · (intro w0 hSw; have l0 := hSw.cell l0 (by simp); go_simp; try with_reducible rfl)
            simp only [List.getElem_toArray, List.getElem_cons_zero, List.getElem_cons_succ]
            go_frame
            refine wpAnyH_take (i := 4) (v := ?_) rfl (by kernel_rfl) (by kernel_rfl) (by kernel_rfl) (fun _ _ _ h => h) (Or.inl ⟨by rfl, ?_⟩) (by assumption) ?_
            rotate_left 1
            · (intro w0 hSw; go_simp; try with_reducible rfl)
            simp only [List.getElem_toArray, List.getElem_cons_zero, List.getElem_cons_succ]
            go_frame
            refine wpAnyH_take (i := 5) (v := ?_) rfl (by kernel_rfl) (by kernel_rfl) (by kernel_rfl) (fun _ _ _ h => h) (Or.inl ⟨by rfl, ?_⟩) (by assumption) ?_
            rotate_left 1
            · (intro w0 hSw; go_simp; try with_reducible rfl)
            simp only [List.getElem_toArray, List.getElem_cons_zero, List.getElem_cons_succ]
            go_frame
            refine wpAnyH_take (i := 6) (v := ?_) rfl (by kernel_rfl) (by kernel_rfl) (by kernel_rfl) (fun _ _ _ h => h) (Or.inl ⟨by rfl, ?_⟩) (by assumption) ?_
            rotate_left 1
            · (intro w0 hSw; go_simp; try with_reducible rfl)
            simp only [List.getElem_toArray, List.getElem_cons_zero, List.getElem_cons_succ]
            go_frame
            refine wpAnyH_take (i := 7) (v := ?_) rfl (by kernel_rfl) (by kernel_rfl) (by kernel_rfl) (fun _ _ _ h => h) (Or.inl ⟨by rfl, ?_⟩) (by assumption) ?_
            rotate_left 1
            · (intro w0 hSw; go_simp; try with_reducible rfl)
            simp only [List.getElem_toArray, List.getElem_cons_zero, List.getElem_cons_succ]
            go_frame
            refine wpAnyH_take (i := 8) (v := ?_) rfl (by kernel_rfl) (by kernel_rfl) (by kernel_rfl) (fun _ _ _ h => h) (Or.inl ⟨by rfl, ?_⟩) (by assumption) ?_
            rotate_left 1
            · (intro w0 hSw; go_simp; try with_reducible rfl)
            simp only [List.getElem_toArray, List.getElem_cons_zero, List.getElem_cons_succ]
            go_frame
            refine wpAnyH_take (i := 9) (v := ?_) rfl (by kernel_rfl) (by kernel_rfl) (by kernel_rfl) (fun _ _ _ h => h) (Or.inl ⟨by rfl, ?_⟩) (by assumption) ?_
            rotate_left 1
            · (intro w0 hSw; have l0 := hSw.cell l0 (by simp); go_simp; try with_reducible rfl)
            simp only [List.getElem_toArray, List.getElem_cons_zero, List.getElem_cons_succ]
            go_frame
            refine wpAnyH_take (i := 10) (v := ?_) rfl (by kernel_rfl) (by kernel_rfl) (by kernel_rfl) (fun _ _ _ h => h) (Or.inl ⟨by rfl, ?_⟩) (by assumption) ?_
            rotate_left 1
            · (intro w0 hSw; go_simp; try with_reducible rfl)
            simp only [List.getElem_toArray, List.getElem_cons_zero, List.getElem_cons_succ]
            go_frame
            refine wpAnyH_take (i := 11) (v := ?_) rfl (by kernel_rfl) (by kernel_rfl) (by kernel_rfl) (fun _ _ _ h => h) (Or.inl ⟨by rfl, ?_⟩) (by assumption) ?_
            rotate_left 1
            · (intro w0 hSw; go_simp; try with_reducible rfl)
            simp only [List.getElem_toArray, List.getElem_cons_zero, List.getElem_cons_succ]
            go_frame
            refine wpAnyH_take (i := 12) (v := ?_) rfl (by kernel_rfl) (by kernel_rfl) (by kernel_rfl) (fun _ _ _ h => h) (Or.inl ⟨by rfl, ?_⟩) (by assumption) ?_
            rotate_left 1
            · (intro w0 hSw; go_simp; try with_reducible rfl)
            simp only [List.getElem_toArray, List.getElem_cons_zero, List.getElem_cons_succ]
            go_frame
            refine wpAnyH_take (i := 13) (v := ?_) rfl (by kernel_rfl) (by kernel_rfl) (by kernel_rfl) (fun _ _ _ h => h) (Or.inl ⟨by rfl, ?_⟩) (by assumption) ?_
            rotate_left 1
            · (intro w0 hSw; go_simp; try with_reducible rfl)
            simp only [List.getElem_toArray, List.getElem_cons_zero, List.getElem_cons_succ]
            go_frame
            refine wpAnyH_take (i := 14) (v := ?_) rfl (by kernel_rfl) (by kernel_rfl) (by kernel_rfl) (fun _ _ _ h => h) (Or.inl ⟨by rfl, ?_⟩) (by assumption) ?_
            rotate_left 1
            · (intro w0 hSw; go_simp; try with_reducible rfl)
            simp only [List.getElem_toArray, List.getElem_cons_zero, List.getElem_cons_succ]
            go_frame
            refine wpAnyH_take (i := 15) (v := ?_) rfl (by kernel_rfl) (by kernel_rfl) (by kernel_rfl) (fun _ _ _ h => h) (Or.inl ⟨by rfl, ?_⟩) (by assumption) ?_
            rotate_left 1
            · (intro w0 hSw; go_simp; try with_reducible rfl)
            simp only [List.getElem_toArray, List.getElem_cons_zero, List.getElem_cons_succ]
            go_frame
            refine wpAnyH_take (i := 16) (v := ?_) rfl (by kernel_rfl) (by kernel_rfl) (by kernel_rfl) (fun _ _ _ h => h) (Or.inl ⟨by rfl, ?_⟩) (by assumption) ?_
            rotate_left 1
            · (intro w0 hSw; have t0 := hSw.cell t0 (by simp); go_simp; try with_reducible rfl)
            simp only [List.getElem_toArray, List.getElem_cons_zero, List.getElem_cons_succ]
            go_frame
            refine wpAnyH_take (i := 17) (v := ?_) rfl (by kernel_rfl) (by kernel_rfl) (by kernel_rfl) (fun _ _ _ h => h) (Or.inl ⟨by rfl, ?_⟩) (by assumption) ?_
            rotate_left 1
            · (intro w0 hSw; go_simp; try with_reducible rfl)
            simp only [List.getElem_toArray, List.getElem_cons_zero, List.getElem_cons_succ]
            go_frame
            refine wpAnyH_take (i := 18) (v := ?_) rfl (by kernel_rfl) (by kernel_rfl) (by kernel_rfl) (fun _ _ _ h => h) (Or.inl ⟨by rfl, ?_⟩) (by assumption) ?_
            rotate_left 1
            · (intro w0 hSw; go_simp; try with_reducible rfl)
            simp only [List.getElem_toArray, List.getElem_cons_zero, List.getElem_cons_succ]
            go_frame
            refine wpAnyH_take (i := 19) (v := ?_) rfl (by kernel_rfl) (by kernel_rfl) (by kernel_rfl) (fun _ _ _ h => h) (Or.inl ⟨by rfl, ?_⟩) (by assumption) ?_
            rotate_left 1
            · (intro w0 hSw; go_simp; try with_reducible rfl)
            simp only [List.getElem_toArray, List.getElem_cons_zero, List.getElem_cons_succ]
            go_frame
            refine wpAnyH_take (i := 20) (v := ?_) rfl (by kernel_rfl) (by kernel_rfl) (by kernel_rfl) (fun _ _ _ h => h) (Or.inl ⟨by rfl, ?_⟩) (by assumption) ?_
            rotate_left 1
            · (intro w0 hSw; have l0 := hSw.cell l0 (by simp); go_simp; try with_reducible rfl)
            simp only [List.getElem_toArray, List.getElem_cons_zero, List.getElem_cons_succ]
            go_frame
            refine wpAnyH_take (i := 21) (v := ?_) rfl (by kernel_rfl) (by kernel_rfl) (by kernel_rfl) (fun _ _ _ h => h) (Or.inl ⟨by rfl, ?_⟩) (by assumption) ?_
            rotate_left 1
            · (intro w0 hSw; go_simp; try with_reducible rfl)
            simp only [List.getElem_toArray, List.getElem_cons_zero, List.getElem_cons_succ]
            go_frame
            refine wpAnyH_take (i := 22) (v := ?_) rfl (by kernel_rfl) (by kernel_rfl) (by kernel_rfl) (fun _ _ _ h => h) (Or.inl ⟨by rfl, ?_⟩) (by assumption) ?_
            rotate_left 1
            · (intro w0 hSw; go_simp; try with_reducible rfl)
            simp only [List.getElem_toArray, List.getElem_cons_zero, List.getElem_cons_succ]
            go_frame
            refine wpAnyH_take (i := 23) (v := ?_) rfl (by kernel_rfl) (by kernel_rfl) (by kernel_rfl) (fun _ _ _ h => h) (Or.inl ⟨by rfl, ?_⟩) (by assumption) ?_
            rotate_left 1
            · (intro w0 hSw; go_simp; try with_reducible rfl)
            simp only [List.getElem_toArray, List.getElem_cons_zero, List.getElem_cons_succ]
            go_frame
            refine wpAnyH_take (i := 24) (v := ?_) rfl (by kernel_rfl) (by kernel_rfl) (by kernel_rfl) (fun _ _ _ h => h) (Or.inl ⟨by rfl, ?_⟩) (by assumption) ?_
            rotate_left 1
            · (intro w0 hSw; have a2 := hSw.cell a2 (by simp); go_simp; try with_reducible rfl)
            simp only [List.getElem_toArray, List.getElem_cons_zero, List.getElem_cons_succ]
            go_frame
            refine wpAnyH_take (i := 25) (v := ?_) rfl (by kernel_rfl) (by kernel_rfl) (by kernel_rfl) (fun _ _ _ h => h) (Or.inl ⟨by rfl, ?_⟩) (by assumption) ?_
            rotate_left 1
            · (intro w0 hSw; go_simp; try with_reducible rfl)
            simp only [List.getElem_toArray, List.getElem_cons_zero, List.getElem_cons_succ]
            go_frame
            refine wpAnyH_take (i := 26) (v := ?_) rfl (by kernel_rfl) (by kernel_rfl) (by kernel_rfl) (fun _ _ _ h => h) (Or.inl ⟨by rfl, ?_⟩) (by assumption) ?_
            rotate_left 1
            · (intro w0 hSw; go_simp; try with_reducible rfl)
            simp only [List.getElem_toArray, List.getElem_cons_zero, List.getElem_cons_succ]
            go_frame
            refine wpAnyH_take (i := 27) (v := ?_) rfl (by kernel_rfl) (by kernel_rfl) (by kernel_rfl) (fun _ _ _ h => h) (Or.inl ⟨by rfl, ?_⟩) (by assumption) ?_
            rotate_left 1
            · (intro w0 hSw; go_simp; try with_reducible rfl)
            simp only [List.getElem_toArray, List.getElem_cons_zero, List.getElem_cons_succ]
            go_frame
            refine wpAnyH_take (i := 28) (v := ?_) rfl (by kernel_rfl) (by kernel_rfl) (by kernel_rfl) (fun _ _ _ h => h) (Or.inl ⟨by rfl, ?_⟩) (by assumption) ?_
            rotate_left 1
            · (intro w0 hSw; go_simp; try with_reducible rfl)
            simp only [List.getElem_toArray, List.getElem_cons_zero, List.getElem_cons_succ]
            go_frame
            refine wpAnyH_take (i := 29) (v := ?_) rfl (by kernel_rfl) (by kernel_rfl) (by kernel_rfl) (fun _ _ _ h => h) (Or.inl ⟨by rfl, ?_⟩) (by assumption) ?_
            rotate_left 1
            · (intro w0 hSw; have t0 := hSw.cell t0 (by simp); go_simp; try with_reducible rfl)
            simp only [List.getElem_toArray, List.getElem_cons_zero, List.getElem_cons_succ]
            go_frame
            refine wpAnyH_take (i := 30) (v := ?_) rfl (by kernel_rfl) (by kernel_rfl) (by kernel_rfl) (fun _ _ _ h => h) (Or.inl ⟨by rfl, ?_⟩) (by assumption) ?_
            rotate_left 1
            · (intro w0 hSw; go_simp; try with_reducible rfl)
            simp only [List.getElem_toArray, List.getElem_cons_zero, List.getElem_cons_succ]
            go_frame
            refine wpAnyH_take (i := 31) (v := ?_) rfl (by kernel_rfl) (by kernel_rfl) (by kernel_rfl) (fun _ _ _ h => h) (Or.inl ⟨by rfl, ?_⟩) (by assumption) ?_
            rotate_left 1
            · (intro w0 hSw; go_simp; try with_reducible rfl)
            simp only [List.getElem_toArray, List.getElem_cons_zero, List.getElem_cons_succ]
            go_frame
            refine wpAnyH_take (i := 32) (v := ?_) rfl (by kernel_rfl) (by kernel_rfl) (by kernel_rfl) (fun _ _ _ h => h) (Or.inl ⟨by rfl, ?_⟩) (by assumption) ?_
            rotate_left 1
            · (intro w0 hSw; go_simp; try with_reducible rfl)
            simp only [List.getElem_toArray, List.getElem_cons_zero, List.getElem_cons_succ]
            go_frame
            refine wpAnyH_take (i := 33) (v := ?_) rfl (by kernel_rfl) (by kernel_rfl) (by kernel_rfl) (fun _ _ _ h => h) (Or.inl ⟨by rfl, ?_⟩) (by assumption) ?_
            rotate_left 1
            · (intro w0 hSw; have l0 := hSw.cell l0 (by simp); go_simp; try with_reducible rfl)
            simp only [List.getElem_toArray, List.getElem_cons_zero, List.getElem_cons_succ]
            go_frame
            refine wpAnyH_take (i := 34) (v := ?_) rfl (by kernel_rfl) (by kernel_rfl) (by kernel_rfl) (fun _ _ _ h => h) (Or.inl ⟨by rfl, ?_⟩) (by assumption) ?_
            rotate_left 1
            · (intro w0 hSw; go_simp; try with_reducible rfl)
            simp only [List.getElem_toArray, List.getElem_cons_zero, List.getElem_cons_succ]
            go_frame
            refine wpAnyH_take (i := 35) (v := ?_) rfl (by kernel_rfl) (by kernel_rfl) (by kernel_rfl) (fun _ _ _ h => h) (Or.inl ⟨by rfl, ?_⟩) (by assumption) ?_
            rotate_left 1
            · (intro w0 hSw; go_simp; try with_reducible rfl)
            simp only [List.getElem_toArray, List.getElem_cons_zero, List.getElem_cons_succ]
            go_frame
            refine wpAnyH_take (i := 36) (v := ?_) rfl (by kernel_rfl) (by kernel_rfl) (by kernel_rfl) (fun _ _ _ h => h) (Or.inl ⟨by rfl, ?_⟩) (by assumption) ?_
            rotate_left 1
            · (intro w0 hSw; go_simp; try with_reducible rfl)
            simp only [List.getElem_toArray, List.getElem_cons_zero, List.getElem_cons_succ]
            go_frame
            refine wpAnyH_take (i := 37) (v := ?_) rfl (by kernel_rfl) (by kernel_rfl) (by kernel_rfl) (fun _ _ _ h => h) (Or.inl ⟨by rfl, ?_⟩) (by assumption) ?_
            rotate_left 1
            · (intro w0 hSw; have a3 := hSw.cell a3 (by simp); go_simp; try with_reducible rfl)
            simp only [List.getElem_toArray, List.getElem_cons_zero, List.getElem_cons_succ]
            go_frame
            refine wpAnyH_take (i := 38) (v := ?_) rfl (by kernel_rfl) (by kernel_rfl) (by kernel_rfl) (fun _ _ _ h => h) (Or.inl ⟨by rfl, ?_⟩) (by assumption) ?_
            rotate_left 1
            · (intro w0 hSw; go_simp; try with_reducible rfl)
            simp only [List.getElem_toArray, List.getElem_cons_zero, List.getElem_cons_succ]
            go_frame
            refine wpAnyH_take (i := 39) (v := ?_) rfl (by kernel_rfl) (by kernel_rfl) (by kernel_rfl) (fun _ _ _ h => h) (Or.inl ⟨by rfl, ?_⟩) (by assumption) ?_
            rotate_left 1
            · (intro w0 hSw; go_simp; try with_reducible rfl)
            simp only [List.getElem_toArray, List.getElem_cons_zero, List.getElem_cons_succ]
            go_frame
            refine wpAnyH_take (i := 40) (v := ?_) rfl (by kernel_rfl) (by kernel_rfl) (by kernel_rfl) (fun _ _ _ h => h) (Or.inl ⟨by rfl, ?_⟩) (by assumption) ?_
            rotate_left 1
            · (intro w0 hSw; go_simp; try with_reducible rfl)
            simp only [List.getElem_toArray, List.getElem_cons_zero, List.getElem_cons_succ]
            go_frame
            refine wpAnyH_done (by kernel_rfl) ?_ _
            rw [← HE.out]
            clear t0 t1 l0 a2 a3 HE hHeld
            go_upto_region 20 with fail
            refine wp_region_held_drew (S := fun w' => D.grownBy w' none) (by kernel_rfl) (grown_drew _) (fun hHeld => ?_)
            refine wpAnyH_take (i := 0) (v := ?_) rfl (by kernel_rfl) (by kernel_rfl) (by kernel_rfl) (fun _ _ _ h => h) (Or.inl ⟨by rfl, ?_⟩) (by assumption) ?_
            rotate_left 1
            · (intro w0 hSw; go_simp; try with_reducible rfl)
            simp only [List.getElem_toArray, List.getElem_cons_zero]
            go_frame
            refine wpAnyH_take (i := 1) (v := ?_) rfl (by kernel_rfl) (by kernel_rfl) (by kernel_rfl) (fun _ _ _ h => h) (Or.inl ⟨by rfl, ?_⟩) (by assumption) ?_
            rotate_left 1
            · (intro w0 hSw; have v0 := hSw.cell v0 (by simp); go_simp; try with_reducible rfl)
            simp only [List.getElem_toArray, List.getElem_cons_zero, List.getElem_cons_succ]
            go_frame
            refine wpAnyH_take (i := 2) (v := ?_) rfl (by kernel_rfl) (by kernel_rfl) (by kernel_rfl) (fun _ _ _ h => h) (Or.inl ⟨by rfl, ?_⟩) (by assumption) ?_
            rotate_left 1
            · (intro w0 hSw; go_simp; try with_reducible rfl)
            simp only [List.getElem_toArray, List.getElem_cons_zero, List.getElem_cons_succ]
            go_frame
            refine wpAnyH_take (i := 3) (v := ?_) rfl (by kernel_rfl) (by kernel_rfl) (by kernel_rfl) (fun _ _ _ h => h) (Or.inl ⟨by rfl, ?_⟩) (by assumption) ?_
            rotate_left 1
            · (intro w0 hSw; go_simp; try with_reducible rfl)
            simp only [List.getElem_toArray, List.getElem_cons_zero, List.getElem_cons_succ]
            go_frame
            refine wpAnyH_take (i := 4) (v := ?_) rfl (by kernel_rfl) (by kernel_rfl) (by kernel_rfl) (fun _ _ _ h => h) (Or.inl ⟨by rfl, ?_⟩) (by assumption) ?_
            rotate_left 1
            · (intro w0 hSw; go_simp; try with_reducible rfl)
            simp only [List.getElem_toArray, List.getElem_cons_zero, List.getElem_cons_succ]
            go_frame
            refine wpAnyH_take (i := 5) (v := ?_) rfl (by kernel_rfl) (by kernel_rfl) (by kernel_rfl) (fun _ _ _ h => h) (Or.inl ⟨by rfl, ?_⟩) (by assumption) ?_
            rotate_left 1
            · (intro w0 hSw; have m0 := hSw.cell m0 (by simp); go_simp; try with_reducible rfl)
            simp only [List.getElem_toArray, List.getElem_cons_zero, List.getElem_cons_succ]
            go_frame
            refine wpAnyH_take (i := 6) (v := ?_) rfl (by kernel_rfl) (by kernel_rfl) (by kernel_rfl) (fun _ _ _ h => h) (Or.inl ⟨by rfl, ?_⟩) (by assumption) ?_
            rotate_left 1
            · (intro w0 hSw; go_simp; try with_reducible rfl)
            simp only [List.getElem_toArray, List.getElem_cons_zero, List.getElem_cons_succ]
            go_frame
            refine wpAnyH_take (i := 7) (v := ?_) rfl (by kernel_rfl) (by kernel_rfl) (by kernel_rfl) (fun _ _ _ h => h) (Or.inl ⟨by rfl, ?_⟩) (by assumption) ?_
            rotate_left 1
            · (intro w0 hSw; go_simp; try with_reducible rfl)
            simp only [List.getElem_toArray, List.getElem_cons_zero, List.getElem_cons_succ]
            go_frame
            refine wpAnyH_take (i := 8) (v := ?_) rfl (by kernel_rfl) (by kernel_rfl) (by kernel_rfl) (fun _ _ _ h => h) (Or.inl ⟨by rfl, ?_⟩) (by assumption) ?_
            rotate_left 1
            · (intro w0 hSw; go_simp; try with_reducible rfl)
            simp only [List.getElem_toArray, List.getElem_cons_zero, List.getElem_cons_succ]
            go_frame
            refine wpAnyH_take (i := 9) (v := ?_) rfl (by kernel_rfl) (by kernel_rfl) (by kernel_rfl) (fun _ _ _ h => h) (Or.inl ⟨by rfl, ?_⟩) (by assumption) ?_
            rotate_left 1
            · (intro w0 hSw; have b3 := hSw.cell b3 (by simp); go_simp; try with_reducible rfl)
            simp only [List.getElem_toArray, List.getElem_cons_zero, List.getElem_cons_succ]
            go_frame
            refine wpAnyH_take (i := 10) (v := ?_) rfl (by kernel_rfl) (by kernel_rfl) (by kernel_rfl) (fun _ _ _ h => h) (Or.inl ⟨by rfl, ?_⟩) (by assumption) ?_
            rotate_left 1
            · (intro w0 hSw; go_simp; try with_reducible rfl)
            simp only [List.getElem_toArray, List.getElem_cons_zero, List.getElem_cons_succ]
            go_frame
            refine wpAnyH_done (by kernel_rfl) ?_ _
            obtain ⟨E, hE⟩ : ∃ E, E = D.drew := ⟨_, rfl⟩
            have gE : D.grownBy E none := by rw [hE]; exact grown_drew _
            have HRE : Hid (LM l j n1 bl ∧ BsL E d n1 bl ∧ AqS w w7 E b1 bs (.pointer (some ⟨nB, 0, none⟩)) (.slice (some ⟨gT, oT, none⟩) ts.length ct) (.slice pf fs.length cf) (.slice (some ⟨gl, 0, none⟩) l.length c6) (.slice p7 fs.length c7) m cd ts fs x.s l A) := ⟨HRD.out.1, HRD.out.2.1.grow gE, HRD.out.2.2.keep gE⟩
            have n0 := gE.cell m0 (by simp)
            have bc : E.cell? ⟨d, u, none⟩ = some (.bool (decide (((u : Nat) : Int) ∈ l.take j))) := HRE.out.2.1.cell (HRE.out.1.2 u HN.out.2.2.1) HN.out.2.2.1
            have bf := HRE.out.2.1.free
            rw [← hE]
            clear hE gE m0 v0 v1 b3 HRD hHeld
            go_wp2_with fail
            have SB := HRE.out.2.1.set u true
            go_roundw
            case rel => exact ⟨j + 1, _, HN.out.2.2.2, by rw [wrap_next (by have h1 := HN.out.2.2.2; have h2 : l.length ≤ 16 := (by rw [HLI.out]; exact num_few HTab.out.few); omega)]; rfl, by rw [HN.out.1], HRE.out.1.step HN.out.2.1, SB.1, HRE.out.2.2.far SB.2 (by rw [HDd.out]; exact Nat.le_refl _) H7.out⟩
            case measure => rw [wrap_next (by have h1 := HN.out.2.2.2; have h2 : l.length ≤ 16 := (by rw [HLI.out]; exact num_few HTab.out.few); omega)]; simp [intOf]; have := HN.out.2.2.2; omega
          · have j1 : ¬ (j : Int) < (l.length : Int) := by omega
            have HJ : Hid (j = l.length) := hje
            have HR9 : Hid (LM l j n1 bl ∧ BsL U d n1 bl ∧ AqS w w7 U b1 bs (.pointer (some ⟨nB, 0, none⟩)) (.slice pt ts.length ct) (.slice pf fs.length cf) (.slice p6 l.length c6) (.slice p7 fs.length c7) m cd ts fs x.s l A) := HR
            clear hje hj HR
            go_wp2_with fail
            have HB9 : Hid (BsL U d n1 bl ∧ AqS w w7 U b1 bs (.pointer (some ⟨nB, 0, none⟩)) (.slice pt ts.length ct) (.slice pf fs.length cf) (.slice p6 l.length c6) (.slice p7 fs.length c7) m cd ts fs x.s l A) := ⟨HR9.out.2.1, HR9.out.2.2⟩
            have HLM : Hid (∀ y, y < n1 → bl[y]? = some (decide (((y : Nat) : Int) ∈ l))) := fun y hy => by rw [HR9.out.1.2 y hy, HJ.out, List.take_length]
            obtain ⟨U9, hU9⟩ : ∃ U9, U9 = U := ⟨_, rfl⟩
            clear HR9 HJ j1
            go_loopw [23, 24] (fun y _ wr => ∃ (i : Nat), i ≤ fs.length ∧ y = .int .i64 (i : Int) ∧ Hid (BsL wr d n1 bl ∧ AqS w w7 wr b1 bs (.pointer (some ⟨nB, 0, none⟩)) (.slice pt ts.length ct) (.slice pf fs.length cf) (.slice p6 l.length c6) (.slice p7 fs.length c7) m cd ts fs x.s l A)) (fun y _ _ => fs.length - (intOf y).toNat)
            case atStart => exact ⟨0, Nat.zero_le _, rfl, HB9⟩
            case round =>
              obtain ⟨i, hi, rfl, HQ⟩ := hrel
              obtain ⟨X, hX⟩ : ∃ X, X = wr := ⟨_, rfl⟩
              subst hX
              clear HB9
              by_cases hlt : i < fs.length
              · obtain ⟨gF, oF, kF, eF, rF⟩ := fe_gets HQ.out.2.ra.inn.feats hlt
                have epf : pf = some ⟨gF, oF, none⟩ := by injection eF
                obtain ⟨gA, oA, kA, eA, rA⟩ := fe_gets HQ.out.2.an (lt_of_eq hlt HAl.out.symm)
                have epa : p7 = some ⟨gA, oA, none⟩ := by injection eA
                subst epf
                subst epa
                obtain ⟨f, hf⟩ : ∃ f, f = fs.getD i Fe.none := ⟨_, rfl⟩
                have hbe := la_be HTab.out HXm.out HA.out HLI.out i
                obtain ⟨hx1, hx2⟩ := la_th2 HTab.out HXm.out
                obtain ⟨hztl, zt', hzw, hzi⟩ := la_th hx1 hx2 HH.out.2.2.2
                obtain ⟨zt, hzt⟩ : ∃ zt : Nat, zt = (x.s.th - 1).toNat := ⟨_, rfl⟩
                rw [← hzt] at hztl zt' hzw hzi hbe
                obtain ⟨ho, hho⟩ : ∃ ho, ho = (fs.getD zt Fe.none).ho := ⟨_, rfl⟩
                rw [← hho, ← hf] at hbe
                rw [← hf] at rF
                obtain ⟨hi1, hi1'⟩ := la_one HN1.out.1 hlt
                have bc := bs_at HQ.out.1 HLM.out hi1
                obtain ⟨bb, hbb⟩ : ∃ bb, bb = decide (((i : Int) + 1) ∈ l) := ⟨_, rfl⟩
                rw [← hbb] at bc hbe
                obtain ⟨fa, hfa⟩ : ∃ fa, fa = A.getD i Fe.none := ⟨_, rfl⟩
                rw [← hfa] at hbe rA
                have HBe : Hid (fa = if bb then doneF f x.s.wh ho else f) := hbe
                have rT := fe_getz HQ.out.2.ra.inn.feats hztl
                have cT := (fe_cells rT).1
                rw [← hho] at cT
                obtain ⟨Y, hY⟩ : ∃ Y, Y = X.alloc (.cells #[.int .i64 f.ho, .int .u8 f.su, .int .u16 f.tr, .int .i64 f.po, .int .i64 f.he] 64) := ⟨_, rfl⟩
                have gY : X.grownBy Y none := by rw [hY]; exact World.grownBy_alloc _ _ none
                have HQY : Hid (BsL Y d n1 bl ∧ AqS w w7 Y b1 bs (.pointer (some ⟨nB, 0, none⟩)) (.slice pt ts.length ct) (.slice (some ⟨gF, oF, none⟩) fs.length cf) (.slice p6 l.length c6) (.slice (some ⟨gA, oA, none⟩) fs.length c7) m cd ts fs x.s l A) := ⟨HQ.out.1.grow gY, HQ.out.2.keep gY⟩
                have HBx : Hid (FeB Y X.heap.size f) := by rw [hY]; exact alloc_at _ _ _
                have HRA : Hid (Y.rangeAt gA (oA + i * 5) (fec fa)) := rangeAt_keep rA gY
                have HRT : Hid (Y.cell? ⟨gF, oF + zt * 5, none⟩ = some (.int .i64 ho)) := gY.cell cT (by simp)
                have HNe : Hid (gA < X.heap.size ∧ gF < X.heap.size ∧ d < X.heap.size ∧ b1 < X.heap.size ∧ bs < X.heap.size) := ⟨cell_inL (fe_cells rA).1, cell_inL (fe_cells rF).1, cell_inL bc, block_lt HQ.out.2.ra.tab, block_lt HQ.out.2.sb⟩
                have HW7 : Hid (w7.heap.size ≤ X.heap.size) := HQ.out.2.gr.size
                have hlt' : (i : Int) < (fs.length : Int) := Int.ofNat_lt.2 hlt
                obtain ⟨hwk, hwi⟩ := la_wr hlt HH.out.2.2.2
                have Hlt : Hid (i < fs.length) := hlt
                have HM : Hid (fs.length - (intOf (.int .i64 ((i : Int) + 1))).toNat < fs.length - (intOf (.int .i64 (i : Int))).toNat) := meas_k hlt
                have bcY : Y.cell? ⟨d, i + 1, none⟩ = some (.bool bb) := gY.cell bc (by simp)
                obtain ⟨t0, t1⟩ := tab_box HQ.out.2.ra.tab
                obtain ⟨f0, f1, f2, f3, f4⟩ := fe_cells rF
                clear hi hlt eF eA rA hf hho hbe hbb hi1 hx1 hx2 hzt hztl rT cT hfa gY rF bc HQ
                go_upto_region 26 with fail
                rw [← hY]
                obtain ⟨nb, hnb⟩ : ∃ nb, nb = X.heap.size := ⟨_, rfl⟩
                rw [← hnb] at HBx HNe HW7 ⊢
                clear hY hnb t0 t1 f0 f1 f2 f3 f4
                cases bb with
                | false =>
                  have HAe : Hid (Y.rangeAt gA (oA + i * 5) (fec f)) := by have := HRA.out; rw [HBe.out] at this; exact this
                  obtain ⟨a0, a1, a2, a3, a4⟩ := fe_cells HAe.out
                  obtain ⟨z0, z1, z2, z3, z4⟩ := fe_box HBx.out
                  go_upto_region 28 with fail
                  have hnq := neq_feL
                  have hgq := eqg_feL
                  clear bcY
                  go_quiet (fail)
                  clear a0 a1 a2 a3 a4 z0 z1 z2 z3 z4 hnq hgq
                  go_wp2_with fail
                  go_roundw
                  case rel => exact ⟨i + 1, Hlt.out, by first | rfl | (rw [hwk]; rfl) | go_num, HQY.out.1.grow (grown_drewN _ _ _), HQY.out.2.keep (grown_drewN _ _ _)⟩
                  case measure => first | exact HM.out | (rw [hwk]; exact HM.out)
                | true =>
                  obtain ⟨f9, hf9⟩ : ∃ f9, f9 = doneF f x.s.wh ho := ⟨_, rfl⟩
                  have HAe : Hid (Y.rangeAt gA (oA + i * 5) (fec f9)) := by have := HRA.out; rw [HBe.out, if_pos rfl, ← hf9] at this; exact this
                  have HC : Hid (∀ V, Calls Tryz.prog 16 #[.agg #[.int .i64 f.ho, .int .u8 f.su, .int .u16 f.tr, .int .i64 f.po, .int .i64 f.he], .agg #[.int .u8 x.s.wh.wn, .int .u8 x.s.wh.vb, .int .u8 x.s.wh.wm, .int .i64 x.s.wh.ct, .int .u8 x.s.wh.su, .int .u8 x.s.wh.tr, .int .u8 x.s.wh.mr, .string x.s.wh.nm], .int .i64 ho] V fun e w' => e = .returned (.agg #[.int .i64 f9.ho, .int .u8 f9.su, .int .u16 f9.tr, .int .i64 f9.po, .int .i64 f9.he]) ∧ V.grownBy w' none) := fun V => by
                    have := lawch_any f x.s.wh ho V
                    rw [← hf9] at this
                    exact this
                  clear hf9 HRA HBe
                  obtain ⟨t0, t1⟩ := tab_box HQY.out.2.ra.tab
                  obtain ⟨x0, x1, x2, x3, x4, x5, x6, x7, x8, x9⟩ := sd_box HQY.out.2.sb
                  obtain ⟨z0, z1, z2, z3, z4⟩ := fe_box HBx.out
                  have h0 := HRT.out
                  have nb1 : some b1 ≠ some nb := fun q => by cases q; exact Nat.lt_irrefl _ HNe.out.2.2.2.1
                  have nb2 : some bs ≠ some nb := fun q => by cases q; exact Nat.lt_irrefl _ HNe.out.2.2.2.2
                  have nbF : some gF ≠ some nb := fun q => by cases q; exact Nat.lt_irrefl _ HNe.out.2.1
                  go_upto_region 27 with fail
                  clear bcY
                  refine wp_region_held_drew (S := fun w' => Y.grownBy w' (some nb)) (by kernel_rfl) (grown_drewR _ _) (fun hHeld => ?_)
                  refine wpAnyH_take (i := 1) (v := ?_) rfl (by kernel_rfl) (by kernel_rfl) (by kernel_rfl) (fun _ _ _ h => h) (Or.inl ⟨by rfl, ?_⟩) (by assumption) ?_
                  rotate_left 1
                  · (intro w0 hSw; go_simp; try with_reducible rfl)
                  simp only [List.getElem_toArray, List.getElem_cons_zero, List.getElem_cons_succ]
                  go_frame
                  refine wpAnyH_take (i := 2) (v := ?_) rfl (by kernel_rfl) (by kernel_rfl) (by kernel_rfl) (fun _ _ _ h => h) (Or.inl ⟨by rfl, ?_⟩) (by assumption) ?_
                  rotate_left 1
                  · (intro w0 hSw; have x2 := hSw.cell x2 nb2; have x3 := hSw.cell x3 nb2; have x4 := hSw.cell x4 nb2; have x5 := hSw.cell x5 nb2; have x6 := hSw.cell x6 nb2; have x7 := hSw.cell x7 nb2; have x8 := hSw.cell x8 nb2; have x9 := hSw.cell x9 nb2; go_simp; try with_reducible rfl)
                  simp only [List.getElem_toArray, List.getElem_cons_zero, List.getElem_cons_succ]
                  go_frame
                  refine wpAnyH_take (i := 3) (v := ?_) rfl (by kernel_rfl) (by kernel_rfl) (by kernel_rfl) (fun _ _ _ h => h) (Or.inl ⟨by rfl, ?_⟩) (by assumption) ?_
                  rotate_left 1
                  · (intro w0 hSw; go_simp; try with_reducible rfl)
                  simp only [List.getElem_toArray, List.getElem_cons_zero, List.getElem_cons_succ]
                  go_frame
                  refine wpAnyH_take (i := 4) (v := ?_) rfl (by kernel_rfl) (by kernel_rfl) (by kernel_rfl) (fun _ _ _ h => h) (Or.inl ⟨by rfl, ?_⟩) (by assumption) ?_
                  rotate_left 1
                  · (intro w0 hSw; have t1 := hSw.cell t1 nb1; go_simp; try with_reducible rfl)
                  simp only [List.getElem_toArray, List.getElem_cons_zero, List.getElem_cons_succ]
                  go_frame
                  refine wpAnyH_take (i := 5) (v := ?_) rfl (by kernel_rfl) (by kernel_rfl) (by kernel_rfl) (fun _ _ _ h => h) (Or.inl ⟨by rfl, ?_⟩) (by assumption) ?_
                  rotate_left 1
                  · (intro w0 hSw; go_simp; try with_reducible rfl)
                  simp only [List.getElem_toArray, List.getElem_cons_zero, List.getElem_cons_succ]
                  go_frame
                  refine wpAnyH_take (i := 6) (v := ?_) rfl (by kernel_rfl) (by kernel_rfl) (by kernel_rfl) (fun _ _ _ h => h) (Or.inl ⟨by rfl, ?_⟩) (by assumption) ?_
                  rotate_left 1
                  · (intro w0 hSw; have x0 := hSw.cell x0 nb2; go_simp; try with_reducible rfl)
                  simp only [List.getElem_toArray, List.getElem_cons_zero, List.getElem_cons_succ]
                  go_frame
                  refine wpAnyH_take (i := 7) (v := ?_) rfl (by kernel_rfl) (by kernel_rfl) (by kernel_rfl) (fun _ _ _ h => h) (Or.inl ⟨by rfl, ?_⟩) (by assumption) ?_
                  rotate_left 1
                  · (intro w0 hSw; go_simp; try with_reducible rfl)
                  simp only [List.getElem_toArray, List.getElem_cons_zero, List.getElem_cons_succ]
                  go_frame
                  refine wpAnyH_take (i := 8) (v := ?_) rfl (by kernel_rfl) (by kernel_rfl) (by kernel_rfl) (fun _ _ _ h => h) (Or.inl ⟨by rfl, ?_⟩) (by assumption) ?_
                  rotate_left 1
                  · (intro w0 hSw; go_simp; try with_reducible rfl)
                  simp only [List.getElem_toArray, List.getElem_cons_zero, List.getElem_cons_succ]
                  go_frame
                  refine wpAnyH_take (i := 9) (v := ?_) rfl (by kernel_rfl) (by kernel_rfl) (by kernel_rfl) (fun _ _ _ h => h) (Or.inl ⟨by rfl, ?_⟩) (by assumption) ?_
                  rotate_left 1
                  · (intro w0 hSw; go_simp; try with_reducible rfl)
                  simp only [List.getElem_toArray, List.getElem_cons_zero, List.getElem_cons_succ]
                  go_frame
                  refine wpAnyH_take (i := 10) (v := ?_) rfl (by kernel_rfl) (by kernel_rfl) (by kernel_rfl) (fun _ _ _ h => h) (Or.inl ⟨by rfl, ?_⟩) (by assumption) ?_
                  rotate_left 1
                  · (intro w0 hSw; have h0 := hSw.cell h0 nbF; go_simp; try with_reducible rfl)
                  simp only [List.getElem_toArray, List.getElem_cons_zero, List.getElem_cons_succ]
                  go_frame
                  refine wpAnyH_ready (rs := [0]) (by kernel_rfl) (by simp) ?_
                  refine AllReadyH.cons rfl (fun K9 hK => ?_) AllReadyH.nil
                  simp only [List.getElem_toArray, List.getElem_cons_zero]
                  go_simp
                  refine hK.out _ _ (grown_drewR _ _) (fun hHeld3 => ?_)
                  clear hK K9
                  (try go_frame)
                  clear t0 t1 x0 x1 x2 x3 x4 x5 x6 x7 x8 x9 z0 z1 z2 z3 z4 h0 nb1 nb2 nbF
                  refine wpAnyH_ready (rs := [11]) (by kernel_rfl) (by simp) ?_
                  refine AllReadyH.cons rfl (fun K hK => ?_) AllReadyH.nil
                  simp only [List.getElem_toArray, List.getElem_cons_zero, List.getElem_cons_succ]
                  go_simp
                  go_at_call 16
                  refine (HC.out _).mono ?_
                  rintro e2 w2 ⟨rfl, g2⟩
                  have HG2 : Hid (Y.grownBy w2 none) := grown_trans (grown_drew _) g2
                  clear g2
                  refine hK.out _ _ (grown_some HG2.out _) (fun hHeld2 => ?_)
                  clear hK K
                  (try go_frame)
                  have HB2 : Hid (FeB w2 nb f) := grown_keep HG2.out HBx.out (by simp)
                  obtain ⟨z0, z1, z2, z3, z4⟩ := fe_box HB2.out
                  have zf := fun i => block_free HB2.out i
                  obtain ⟨Z, hZ⟩ : ∃ Z, Z = ((((w2.setCell ⟨nb, 0, none⟩ (.int .i64 f9.ho)).setCell ⟨nb, 1, none⟩ (.int .u8 f9.su)).setCell ⟨nb, 2, none⟩ (.int .u16 f9.tr)).setCell ⟨nb, 3, none⟩ (.int .i64 f9.po)).setCell ⟨nb, 4, none⟩ (.int .i64 f9.he) := ⟨_, rfl⟩
                  have HGZ : Hid (w2.grownBy Z (some nb)) := by rw [hZ]; exact grown_trans (grown_trans (grown_trans (grown_trans (grown_set _ _ _ _) (grown_set _ _ _ _)) (grown_set _ _ _ _)) (grown_set _ _ _ _)) (grown_set _ _ _ _)
                  have HBZ : Hid (FeB Z nb f9) := by
                    rw [hZ]
                    exact block_set (block_set (block_set (block_set (block_set HB2.out 0 _) 1 _) 2 _) 3 _) 4 _
                  refine wpAnyH_ready (rs := [12]) (by kernel_rfl) (by simp) ?_
                  refine AllReadyH.cons rfl (fun K9 hK => ?_) AllReadyH.nil
                  simp only [List.getElem_toArray, List.getElem_cons_zero, List.getElem_cons_succ]
                  go_simp
                  rw [← hZ]
                  refine hK.out _ _ (grown_trans (grown_some HG2.out _) HGZ.out) (fun hHeld3 => ?_)
                  clear hK K9
                  (try go_frame)
                  refine wpAnyH_done (by kernel_rfl) ?_ _
                  clear hZ z0 z1 z2 z3 z4 zf hHeld
                  have HYZ : Hid (Y.grownBy Z (some nb)) := grown_trans (grown_some HG2.out _) HGZ.out
                  have HQZ : Hid (BsL Z d n1 bl ∧ AqS w w7 Z b1 bs (.pointer (some ⟨nB, 0, none⟩)) (.slice pt ts.length ct) (.slice (some ⟨gF, oF, none⟩) fs.length cf) (.slice p6 l.length c6) (.slice (some ⟨gA, oA, none⟩) fs.length c7) m cd ts fs x.s l A) := ⟨own_tagged HQY.out.1 HYZ.out HBx.out (by decide), HQY.out.2.far HYZ.out HW7.out H7.out⟩
                  have HAz : Hid (Z.rangeAt gA (oA + i * 5) (fec f9)) := fun i u hu => HYZ.out.cell (HAe.out i u hu) (fun q => by cases q; exact Nat.lt_irrefl _ HNe.out.1)
                  obtain ⟨a0, a1, a2, a3, a4⟩ := fe_cells HAz.out
                  obtain ⟨z0, z1, z2, z3, z4⟩ := fe_box HBZ.out
                  go_upto_region 28 with fail
                  have hnq := neq_feL
                  have hgq := eqg_feL
                  go_quiet (fail)
                  clear a0 a1 a2 a3 a4 z0 z1 z2 z3 z4 hnq hgq
                  go_wp2_with fail
                  go_roundw
                  case rel => exact ⟨i + 1, Hlt.out, by first | rfl | (rw [hwk]; rfl) | go_num, HQZ.out.1.grow (grown_drewN _ _ _), HQZ.out.2.keep (grown_drewN _ _ _)⟩
                  case measure => first | exact HM.out | (rw [hwk]; exact HM.out)
              · obtain rfl : i = fs.length := Nat.le_antisymm hi (Nat.le_of_not_lt hlt)
                have HX : Hid (w.grownBy X none) := HQ.out.2.ra.gr
                clear hi hlt
                go_wp2_with fail
                go_ret
                exact ⟨rfl, HX.out⟩
    · have hq1 : (q != 0) = true := by simpa using hq0
      clear hq0 hq h4 z4
      go_wp2_with fail
      go_ret
      exact ⟨rfl, HS4.out.gr⟩
end Go.Proofs.YtmemeloehgemcaaGreat
