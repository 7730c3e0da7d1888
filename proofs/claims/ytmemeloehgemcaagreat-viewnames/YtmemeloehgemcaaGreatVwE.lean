/-
  View: Behind, Of.
-/
import Derived.Test.YtmemeloehgemcaaGreatVwD
namespace Go.Proofs.YtmemeloehgemcaaGreat
open Go.RowKit Go.Shelf

theorem vBh_is {r n : Int} {cd : Int → Hd × List Pt} {ts : List Th} {pf : Th → Fe} {mf : Fe → Th → Fe} {me : Th → Int} {k : Int} {R : List Rw} (h : vkE r n cd ts (prtF pf (ts.take 2048)) me = 0) (hk : 0 ≤ k ∧ k ≤ 6) (hT : Tab n cd ts (prtF pf ts) R) : vBh r n cd ts pf mf me k = bhL R mf ts (prtF pf ts) k := by
  unfold vBh
  rw [h, decide_eq_true hk, if_pos vqE_ok, hT.tab]
theorem vBh_no {r n : Int} {cd : Int → Hd × List Pt} {ts : List Th} {pf : Th → Fe} {mf : Fe → Th → Fe} {me : Th → Int} {k : Int} (h : vqE (vkE r n cd ts (prtF pf (ts.take 2048)) me) (decide (0 ≤ k ∧ k ≤ 6)) 2 ≠ 0) : vBh r n cd ts pf mf me k = [] := if_neg h
theorem Twv.keep {w w' : World} {gk gf gs : Nat} {bp : Option Addr} {vt vp vf : Value} {k : Int} {x : Nat} {cs : Array Value} {t : TypeId} (h : Twv w w' gk gf) (c : ClB w gk gf gs bp vt vp k vf) (hx : w.heap[x]? = some (.cells cs t (0, 0))) (h3 : (3 : Nat) ≠ t) (hs : 27 ≠ t) : w'.heap[x]? = some (.cells cs t (0, 0)) := by
  rw [h x (block_lt hx) (fun z => by rw [z, c.kb] at hx; simp at hx; exact h3 hx.2) (fun z => by rw [z, c.fb] at hx; simp at hx; exact hs hx.2)]
  exact hx
theorem Tryz.fl1 (p q r : Option Addr) (a b c d e f : Nat) (w : World) : (Instr.field 150 (.agg #[.slice p a b, .slice q c d, .slice r e f]) 1).run Tryz.prog w = .ok (.slice q c d) w := by kernel_rfl
theorem Tryz.fl2 (p q r : Option Addr) (a b c d e f : Nat) (w : World) : (Instr.field 150 (.agg #[.slice p a b, .slice q c d, .slice r e f]) 2).run Tryz.prog w = .ok (.slice r e f) w := by kernel_rfl
def BhPost (w : World) (r n : Int) (cd : Int → Hd × List Pt) (ts : List Th) (pf : Th → Fe) (mf : Fe → Th → Fe) (me : Th → Int) (k : Int) (e : Ending) (w' : World) : Prop := ∃ v, e = .returned (.tuple #[v, .int .i64 (vqE (vkE r n cd ts (prtF pf (ts.take 2048)) me) (decide (0 ≤ k ∧ k ≤ 6)) 2)]) ∧ w.grownBy w' none ∧ FOwn w' w.heap.size v (vBh r n cd ts pf mf me k)
theorem BhPost.no {w w' : World} {r n : Int} {cd : Int → Hd × List Pt} {ts : List Th} {pf : Th → Fe} {mf : Fe → Th → Fe} {me : Th → Int} {k x : Int} (h : vqE (vkE r n cd ts (prtF pf (ts.take 2048)) me) (decide (0 ≤ k ∧ k ≤ 6)) 2 = x) (hx : x ≠ 0) (g : w.grownBy w' none) : BhPost w r n cd ts pf mf me k (.returned (.tuple #[.slice none 0 0, .int .i64 x])) w' := ⟨_, by rw [h], g, by rw [vBh_no (by rw [h]; exact hx)]; exact RecT.Own.nil _ _ _ _⟩
set_option maxRecDepth 100000 in
set_option maxHeartbeats 4000000 in
theorem vbehind_any (bp : Option Addr) (vt : Value) (r n : Int) (cd : Int → Hd × List Pt) (ts : List Th) (pf : Th → Fe) (mf : Fe → Th → Fe) (me : Th → Int) (k : Int) (w : World) (I : VIn w (.pointer bp) vt r n cd ts pf mf me) : Calls Tryz.prog 26 #[.pointer bp, vt, .int .i64 k] w (BhPost w r n cd ts pf mf me k) := by
  have HLk := vlook_any bp vt r n cd ts pf mf me w I
  unfold VkPost at HLk
  obtain ⟨pt, ct, rfl, hcap⟩ := I.cap
  have HI : Hid (VIn w (.pointer bp) (.slice pt ts.length ct) r n cd ts pf mf me) := I
  clear I hcap
  go_enter Tryz.func26, Tryz.ntmps26
  go_wp2_with fail
  refine HLk.mono ?_
  rintro e2 w2 ⟨bq, p1, m1, c1, p2, m2, c2, rfl, g2, h2⟩
  obtain ⟨q, hq⟩ : ∃ q, q = vkE r n cd ts (prtF pf (ts.take 2048)) me := ⟨_, rfl⟩
  rw [← hq] at h2 ⊢
  have Hq : Hid (q = vkE r n cd ts (prtF pf (ts.take 2048)) me) := hq
  clear HLk hq
  obtain ⟨W3, hW3⟩ : ∃ W3, W3 = w2.alloc (.cells #[.pointer bq, .slice p1 m1 c1, .slice p2 m2 c2] 144) := ⟨_, rfl⟩
  have HG3 : Hid (w.grownBy W3 none) := by rw [hW3]; exact grown_push g2 _
  have HS3 : Hid (ScB W3 w2.heap.size bq (.slice p1 m1 c1) (.slice p2 m2 c2)) := by rw [hW3]; exact alloc_at _ _ _
  have H2 : Hid (q = 0 → bq = bp ∧ Value.slice pt ts.length ct = .slice p1 m1 c1 ∧ FOwn W3 w.heap.size (.slice p2 m2 c2) (prtF pf ts)) := fun z => by
    obtain ⟨a, b, c⟩ := h2 z
    exact ⟨a, b, own_grow c (by rw [hW3]; exact World.grownBy_alloc _ _ none)⟩
  clear g2 h2
  go_upto_region 2 with fail
  rw [← hW3]
  clear hW3
  obtain ⟨ns, hns⟩ : ∃ ns, ns = w2.heap.size := ⟨_, rfl⟩
  simp only [← hns] at HS3 ⊢
  clear hns
  by_cases hq0 : q = 0
  · have e1 : (q != 0) = false := by simpa using hq0
    have hv0 : vkE r n cd ts (prtF pf (ts.take 2048)) me = 0 := Hq.out.symm.trans hq0
    obtain ⟨hr0, ⟨R, hR⟩, -⟩ := vkE_of hv0
    have hts : ts.length ≤ 2048 := HI.out.few hr0
    rw [List.take_of_length_le hts] at hR
    obtain ⟨eb, ev, hO⟩ := H2.out hq0
    subst eb
    injection ev with ev1 ev2 ev3
    subst ev1
    subst ev3
    rw [← ev2] at HS3 ⊢
    obtain ⟨L, hL⟩ : ∃ L, L = ts.length := ⟨_, rfl⟩
    have hm2 : m2 = ts.length := by obtain ⟨a, b, e⟩ := RecT.Own.form hO; injection e with _ e _; rw [e, prtF_len]
    obtain ⟨F, hF⟩ : ∃ F, F = prtF pf ts := ⟨_, rfl⟩
    have HF : Hid (F = prtF pf ts ∧ F.length = ts.length) := ⟨hF, by rw [hF, prtF_len]⟩
    rw [← hF] at hO hR
    rw [hm2] at hO HS3 ⊢
    have HO : Hid (FOwn W3 w.heap.size (.slice p2 ts.length c2) F) := hO
    have HT : Hid (Tab n cd ts F R ∧ r = 0 ∧ ts.length ≤ 2048 ∧ vkE r n cd ts (prtF pf (ts.take 2048)) me = 0) := ⟨hR, hr0, hts, hv0⟩
    clear H2 hq0 hv0 hR hr0 hts hm2 hO hF ev2 m1 m2 hL L
    by_cases hk : 0 ≤ k ∧ k ≤ 6
    · have k1 : decide (k < 0) = false := decide_eq_false (by omega)
      have k2 : decide ((6 : Int) < k) = false := decide_eq_false (by omega)
      have k1' : ¬ (k < 0) := by omega
      have k2' : ¬ ((6 : Int) < k) := by omega
      have Hk : Hid (0 ≤ k ∧ k ≤ 6) := hk
      obtain ⟨m, hm⟩ : ∃ m : Nat, m = (min k 5).toNat := ⟨_, rfl⟩
      have hmin : min k 5 = (m : Int) := by omega
      have Hm : Hid (m ≤ 5 ∧ (k = 6 → m = 5) ∧ (k ≠ 6 → m = k.toNat)) := ⟨by omega, by omega, by omega⟩
      clear hk hm
      go_upto_region 6 with fail
      obtain ⟨s0, s1, s2⟩ := sc_box HS3.out
      refine wp_region_held_drew (S := fun w' => W3.grownBy w' none) (by kernel_rfl) (grown_drew _) (fun hHeld => ?_)
      refine wpAnyH_take (i := 0) (v := ?_) rfl (by kernel_rfl) (by kernel_rfl) (by kernel_rfl) (fun _ _ _ h => h) (Or.inl ⟨by rfl, ?_⟩) (by assumption) ?_
      rotate_left 1
      · (intro w0 hSw; go_simp; try with_reducible rfl)
      simp only [List.getElem_toArray, List.getElem_cons_zero]
      go_frame
      refine wpAnyH_take (i := 1) (v := ?_) rfl (by kernel_rfl) (by kernel_rfl) (by kernel_rfl) (fun _ _ _ h => h) (Or.inl ⟨by rfl, ?_⟩) (by assumption) ?_
      rotate_left 1
      · (intro w0 hSw; have s2 := hSw.cell s2 (by simp); go_simp; try with_reducible rfl)
      simp only [List.getElem_toArray, List.getElem_cons_zero, List.getElem_cons_succ]
      go_frame
      refine wpAnyH_take (i := 2) (v := ?_) rfl (by kernel_rfl) (by kernel_rfl) (by kernel_rfl) (fun _ _ _ h => h) (Or.inl ⟨by rfl, ?_⟩) (by assumption) ?_
      rotate_left 1
      · (intro w0 hSw; have s0 := hSw.cell s0 (by simp); have s1 := hSw.cell s1 (by simp); have s2 := hSw.cell s2 (by simp); go_simp; try with_reducible rfl)
      simp only [List.getElem_toArray, List.getElem_cons_zero, List.getElem_cons_succ]
      go_frame
      refine wpAnyH_ready (rs := [3]) (by kernel_rfl) (by simp) ?_
      refine AllReadyH.cons rfl (fun K hK => ?_) AllReadyH.nil
      simp only [List.getElem_toArray, List.getElem_cons_zero, List.getElem_cons_succ]
      go_simp
      go_at_call 70
      refine (vclimber_any _ _ _ _ _ _ _ _).mono ?_
      rintro e4 w4 ⟨gk, gf, gs, rfl, h4, g4, hk4, hf4⟩
      have HG4 : Hid (W3.grownBy w4 none) := grown_trans (grown_drew _) g4
      have HC4 : Hid (ClB w4 gk gf gs bq (.slice pt ts.length ct) (.slice p2 ts.length c2) 0 (.slice p2 ts.length c2) ∧ w.heap.size ≤ gk ∧ w.heap.size ≤ gf) := ⟨h4, Nat.le_trans HG3.out.size hk4, Nat.le_trans HG3.out.size hf4⟩
      clear h4 g4 hk4 hf4
      refine hK.out _ _ (HG4.out) (fun hHeld2 => ?_)
      clear hK K
      (try go_frame)
      refine wpAnyH_take (i := 4) (v := ?_) rfl (by kernel_rfl) (by kernel_rfl) (by kernel_rfl) (fun _ _ _ h => h) (Or.inl ⟨by rfl, ?_⟩) (by assumption) ?_
      rotate_left 1
      · (intro w0 hSw; go_simp; try with_reducible rfl)
      simp only [List.getElem_toArray, List.getElem_cons_zero, List.getElem_cons_succ]
      go_frame
      refine wpAnyH_take (i := 5) (v := ?_) rfl (by kernel_rfl) (by kernel_rfl) (by kernel_rfl) (fun _ _ _ h => h) (Or.inl ⟨by rfl, ?_⟩) (by assumption) ?_
      rotate_left 1
      · (intro w0 hSw; go_simp; try with_reducible rfl)
      simp only [List.getElem_toArray, List.getElem_cons_zero, List.getElem_cons_succ]
      go_frame
      refine wpAnyH_done (by kernel_rfl) ?_ _
      clear hHeld hHeld2 s0 s1 s2 k1 k2 k1' k2' e1
      have HC0 : Hid (ClS w w4 w.heap.size gk gf gs bq (.slice pt ts.length ct) (.slice p2 ts.length c2) ((0 : Nat) : Int) (.slice p2 ts.length c2) (clF R F 0)) := ⟨HC4.out.1, own_grow HO.out HG4.out, grown_trans HG3.out HG4.out, HC4.out.2.1, HC4.out.2.2⟩
      unfold clV
      go_wp2_with fail
      go_loopw [10, 35] (fun x y wr => ∃ (j : Nat) (p : Option Addr) (c B : Nat), j ≤ m ∧ y = .int .i64 (j : Int) ∧ x = .slice p ts.length c ∧ Hid (ClS w wr B gk gf gs bq (.slice pt ts.length ct) (.slice p2 ts.length c2) (j : Int) (.slice p ts.length c) (clF R F j)) ∧ Hid (w.heap.size ≤ B) ∧ Hid (ScB wr ns bq (.slice pt ts.length ct) (.slice p2 ts.length c2))) (fun _ y _ => m - (intOf y).toNat)
      case atStart => exact ⟨0, p2, c2, w.heap.size, Nat.zero_le _, rfl, rfl, HC0, Nat.le_refl _, grown_keep HG4.out HS3.out (by simp)⟩
      case round =>
        obtain ⟨j, p, c, B, hj, rfl, rfl, HC, HB, HSU⟩ := hrel
        obtain ⟨U, hU⟩ : ∃ U, U = wr := ⟨_, rfl⟩
        subst hU
        clear HC0
        by_cases hlt : j < m
        · have hlf : (clF R F j).length = ts.length := by rw [clF_len]; exact HF.out.2
          have C5 := vclimb_any bq pt p2 ct ts.length c2 r n cd ts pf mf me w U B gk gf gs (j : Int) (.slice p ts.length c) (clF R F j) R HI.out HC.out (HT.out.1.cl j) HT.out.2.1 (by omega) (by have := Hm.out.1; omega)
          unfold ClPost at C5
          rw [hlf] at C5
          have hlt' : (j : Int) < (m : Int) := by omega
          have hwk := wrap_next (k := j) (by have := Hm.out.1; omega)
          have Hlt : Hid (j < m) := hlt
          have HM : Hid (m - (intOf (.int .i64 ((j : Int) + 1))).toNat < m - (intOf (.int .i64 (j : Int))).toNat) := meas_k hlt
          have HSz : Hid (w.heap.size ≤ U.heap.size) := HC.out.gr.size
          have HCl := HC.out.cl
          have HCL : Hid (ClB U gk gf gs bq (.slice pt ts.length ct) (.slice p2 ts.length c2) (j : Int) (.slice p ts.length c)) := HCl
          clear hlt hj hlf HC HCl
          have hfl := Tryz.fl2
          go_wp2_with (go_at_call 113; refine C5.mono ?_; rintro e5 w5 ⟨q1, n1, d1, q2, d2, rfl, h5, -, -, tw5⟩; have HC5 : Hid (ClS w w5 U.heap.size gk gf gs bq (.slice pt ts.length ct) (.slice p2 ts.length c2) ((j + 1 : Nat) : Int) (.slice q2 ts.length d2) (clF R F (j + 1))) := h5; have HSU5 : Hid (ScB w5 ns bq (.slice pt ts.length ct) (.slice p2 ts.length c2)) := tw5.keep HCL.out HSU.out (by decide) (by decide); clear C5 h5 tw5)
          go_roundw
          case rel => exact ⟨j + 1, q2, d2, U.heap.size, Hlt.out, by first | rfl | (rw [hwk]; rfl) | go_num, rfl, HC5, HSz, HSU5⟩
          case measure => first | exact HM.out | (rw [hwk]; exact HM.out)
        · obtain rfl : j = m := Nat.le_antisymm hj (Nat.le_of_not_lt hlt)
          clear hj hlt
          by_cases h6 : k = 6
          · have e6 : (k == 6) = true := by rw [h6]; rfl
            have HL : Hid (bhL R mf ts F k = mkdL mf ts (clF R F j)) := by show _ = _; unfold bhL; rw [if_pos h6, (Hm.out.2.1 h6)]
            have C6 := vmarked_any bq _ _ p2 ts.length c2 ts (clF R F j) mf me U (HI.out.th.keep HC.out.gr) (RecT.Own.at HC.out.fo) (by rw [clF_len]; exact HF.out.2.symm) HT.out.2.2.1 (HI.out.keep HC.out.gr).mkd
            obtain ⟨s0, s1, s2⟩ := sc_box HSU.out
            have HGU : Hid (w.grownBy U none) := HC.out.gr
            clear h6
            go_wp2_with fail
            refine C6.mono ?_
            rintro e6 w6 ⟨v6, rfl, o6, g6⟩
            have HX : Hid (FOwn w6 w.heap.size v6 (vBh r n cd ts pf mf me k) ∧ w.grownBy w6 none) := ⟨by rw [vBh_is HT.out.2.2.2 Hk.out (HF.out.1 ▸ HT.out.1), ← HF.out.1, HL.out]; exact own_big o6 HGU.out.size, grown_trans HGU.out g6⟩
            clear C6 o6 g6 s0 s1 s2
            go_wp2_with fail
            go_ret2
            exact ⟨_, by rw [HT.out.2.2.2, decide_eq_true Hk.out]; rfl, HX.out.2, HX.out.1⟩
          · have e6 : (k == 6) = false := by simpa using h6
            have HL : Hid (bhL R mf ts F k = clF R F j) := by show _ = _; unfold bhL; rw [if_neg h6, (Hm.out.2.2 h6)]
            have HX : Hid (FOwn U w.heap.size (.slice p ts.length c) (vBh r n cd ts pf mf me k) ∧ w.grownBy U none) := ⟨by rw [vBh_is HT.out.2.2.2 Hk.out (HF.out.1 ▸ HT.out.1), ← HF.out.1, HL.out]; exact own_big HC.out.fo HB.out, HC.out.gr⟩
            clear h6
            go_wp2_with fail
            go_ret2
            exact ⟨_, by rw [HT.out.2.2.2, decide_eq_true Hk.out]; rfl, HX.out.2, HX.out.1⟩
    · have HX : Hid (vqE (vkE r n cd ts (prtF pf (ts.take 2048)) me) (decide (0 ≤ k ∧ k ≤ 6)) 2 = 2) := by show _ = _; rw [HT.out.2.2.2, decide_eq_false hk]; rfl
      by_cases hl : k < 0
      · have k1 : decide (k < 0) = true := decide_eq_true hl
        clear hk hl
        go_wp2_with fail
        go_ret2
        exact BhPost.no HX.out (by decide) HG3.out
      · have k1 : decide (k < 0) = false := decide_eq_false hl
        have k2 : decide ((6 : Int) < k) = true := decide_eq_true (by omega)
        have k2' : (6 : Int) < k := by omega
        clear hk
        go_wp2_with fail
        go_ret2
        exact BhPost.no HX.out (by decide) HG3.out
  · have e1 : (q != 0) = true := by simpa using hq0
    have HX : Hid (vqE (vkE r n cd ts (prtF pf (ts.take 2048)) me) (decide (0 ≤ k ∧ k ≤ 6)) 2 = q) := by show _ = _; rw [← Hq.out, vqE_no hq0]
    have Hq0 : Hid (q ≠ 0) := hq0
    clear hq0
    go_wp2_with fail
    go_ret2
    exact BhPost.no HX.out Hq0.out HG3.out
theorem vof_any (bp : Option Addr) (vt : Value) (r n : Int) (cd : Int → Hd × List Pt) (ts : List Th) (pf : Th → Fe) (mf : Fe → Th → Fe) (me : Th → Int) (w : World) (I : VIn w (.pointer bp) vt r n cd ts pf mf me) : Calls Tryz.prog 30 #[.pointer bp, vt] w (BhPost w r n cd ts pf mf me 6) := by
  have C := vbehind_any bp vt r n cd ts pf mf me 6 w I
  unfold BhPost at C
  go_enter Tryz.func30, Tryz.ntmps30
  go_wp2_with fail
  refine C.mono ?_
  rintro e2 w2 ⟨v, rfl, g, o⟩
  have H : Hid (w.grownBy w2 none ∧ FOwn w2 w.heap.size v (vBh r n cd ts pf mf me 6)) := ⟨g, o⟩
  clear C g o
  go_wp2_with fail
  go_ret2
  exact ⟨_, rfl, H.out.1, H.out.2⟩
end Go.Proofs.YtmemeloehgemcaaGreat
