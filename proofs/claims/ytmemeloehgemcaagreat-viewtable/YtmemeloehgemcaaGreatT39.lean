/-
  View: Behind, Of.
  SameFeatures, SameStandings of lists that are the same.
  A pair of books, filled alike: CopyCard; what a step keeps.
-/
import Derived.Test.YtmemeloehgemcaaGreatVwD
import Derived.Test.YtmemeloehgemcaaGreatT37
import Derived.Test.YtmemeloehgemcaaGreatT25
import Derived.Test.YtmemeloehgemcaaGreatT13
import Derived.Test.YtmemeloehgemcaaGreatT21
namespace Go.Proofs.YtmemeloehgemcaaGreat
open Go.RowKit Go.Shelf

theorem vBh_is {r n : Int} {cd : Int → Hd × List Pt} {ts : List Th} {pf : Th → Fe} {mf : Fe → Th → Fe} {me : Th → Int} {k : Int} {R : List Rw} (h : vkE r n cd ts (prtF pf (ts.take 2048)) me = 0) (hk : 0 ≤ k ∧ k ≤ 6) (hT : Tab n cd ts (prtF pf ts) R) : vBh r n cd ts pf mf me k = bhL R mf ts (prtF pf ts) k := by
  unfold vBh
  rw [h, decide_eq_true hk, if_pos vqE_ok, hT.tab]
theorem vBh_no {r n : Int} {cd : Int → Hd × List Pt} {ts : List Th} {pf : Th → Fe} {mf : Fe → Th → Fe} {me : Th → Int} {k : Int} (h : vqE (vkE r n cd ts (prtF pf (ts.take 2048)) me) (decide (0 ≤ k ∧ k ≤ 6)) 2 ≠ 0) : vBh r n cd ts pf mf me k = [] := if_neg h
theorem Twv.keep {w w' : World} {gk gf gs : Nat} {bp : Option Addr} {vt vp vf : Value} {k : Int} {x : Nat} {cs : Array Value} {t : TypeId} (h : Twv w w' gk gf) (c : ClB w gk gf gs bp vt vp k vf) (hx : w.heap[x]? = some (.cells cs t (0, 0))) (h3 : (3 : Nat) ≠ t) (hs : 27 ≠ t) : w'.heap[x]? = some (.cells cs t (0, 0)) := by
  rw [h x (block_lt hx) (fun z => by rw [z, c.kb] at hx; simp at hx; exact h3 hx.2) (fun z => by rw [z, c.fb] at hx; simp at hx; exact hs hx.2)]
  exact hx
theorem Tryz.fl1 (p q r : Option Addr) (a b c d e f : Nat) (w : World) : (Instr.field 150 (.agg #[.slice p a b, .slice q c d, .slice r e f]) 1).run Tryz.prog w = .ok (.slice q c d) w := by kernel_rfl
theorem Tryz.fl2 (p q r : Option Addr) (a b c d e f : Nat) (w : World) : (Instr.field 150 (.agg #[.slice p a b, .slice q c d, .slice r e f]) 2).run Tryz.prog w = .ok (.slice r e f) w := by kernel_rfl
def BhPost (w : World) (r n : Int) (cd : Int → Hd × List Pt) (ts : List Th) (pf : Th → Fe) (mf : Fe → Th → Fe) (me : Th → Int) (k : Int) (e : Ending) (w' : World) : Prop := ∃ v, e = .returned (.tuple #[v, .int .i64 (vqE (vkE r n cd ts (prtF pf (ts.take 2048)) me) (decide (0 ≤ k ∧ k ≤ 6)) 2)]) ∧ w.grownBy w' none ∧ FOwn w' w.heap.size v (vBh r n cd ts pf mf me k)
theorem BhPost.no {w w' : World} {r n : Int} {cd : Int → Hd × List Pt} {ts : List Th} {pf : Th → Fe} {mf : Fe → Th → Fe} {me : Th → Int} {k x : Int} (h : vqE (vkE r n cd ts (prtF pf (ts.take 2048)) me) (decide (0 ≤ k ∧ k ≤ 6)) 2 = x) (hx : x ≠ 0) (g : w.grownBy w' none) : BhPost w r n cd ts pf mf me k (.returned (.tuple #[.slice none 0 0, .int .i64 x])) w' := ⟨_, by rw [h], g, by rw [vBh_no (by rw [h]; exact hx)]; exact RecT.Own.nil _ _ _ _⟩
set_option maxRecDepth 100000 in
set_option maxHeartbeats 4000000 in
theorem vbehind_any (bp : Option Addr) (vt : Value) (r n : Int) (cd : Int → Hd × List Pt) (ts : List Th) (pf : Th → Fe) (mf : Fe → Th → Fe) (me : Th → Int) (k : Int) (w : World) (I : VIn w (.pointer bp) vt r n cd ts pf mf me) : Calls Tryz.prog 26 #[.pointer bp, vt, .int .i64 k] w (BhPost w r n cd ts pf mf me k) := by
  have HLk := vlook_any bp vt r n cd ts pf mf me w I
  unfold VkPost at HLk
  obtain ⟨pt, ct, rfl, hcap⟩ := I.cap
  have HI : Hid (VIn w (.pointer bp) (.slice pt ts.length ct) r n cd ts pf mf me) := I
  clear I hcap
  go_enter Tryz.func26, Tryz.ntmps26
  go_wp2_with fail
  refine HLk.mono ?_
  rintro e2 w2 ⟨bq, p1, m1, c1, p2, m2, c2, rfl, g2, h2⟩
  obtain ⟨q, hq⟩ : ∃ q, q = vkE r n cd ts (prtF pf (ts.take 2048)) me := ⟨_, rfl⟩
  rw [← hq] at h2 ⊢
  have Hq : Hid (q = vkE r n cd ts (prtF pf (ts.take 2048)) me) := hq
  clear HLk hq
  obtain ⟨W3, hW3⟩ : ∃ W3, W3 = w2.alloc (.cells #[.pointer bq, .slice p1 m1 c1, .slice p2 m2 c2] 144) := ⟨_, rfl⟩
  have HG3 : Hid (w.grownBy W3 none) := by rw [hW3]; exact grown_push g2 _
  have HS3 : Hid (ScB W3 w2.heap.size bq (.slice p1 m1 c1) (.slice p2 m2 c2)) := by rw [hW3]; exact alloc_at _ _ _
  have H2 : Hid (q = 0 → bq = bp ∧ Value.slice pt ts.length ct = .slice p1 m1 c1 ∧ FOwn W3 w.heap.size (.slice p2 m2 c2) (prtF pf ts)) := fun z => by
    obtain ⟨a, b, c⟩ := h2 z
    exact ⟨a, b, own_grow c (by rw [hW3]; exact World.grownBy_alloc _ _ none)⟩
  clear g2 h2
  go_upto_region 2 with fail
  rw [← hW3]
  clear hW3
  obtain ⟨ns, hns⟩ : ∃ ns, ns = w2.heap.size := ⟨_, rfl⟩
  simp only [← hns] at HS3 ⊢
  clear hns
  by_cases hq0 : q = 0
  · have e1 : (q != 0) = false := by simpa using hq0
    have hv0 : vkE r n cd ts (prtF pf (ts.take 2048)) me = 0 := Hq.out.symm.trans hq0
    obtain ⟨hr0, ⟨R, hR⟩, -⟩ := vkE_of hv0
    have hts : ts.length ≤ 2048 := HI.out.few hr0
    rw [List.take_of_length_le hts] at hR
    obtain ⟨eb, ev, hO⟩ := H2.out hq0
    subst eb
    injection ev with ev1 ev2 ev3
    subst ev1
    subst ev3
    rw [← ev2] at HS3 ⊢
    obtain ⟨L, hL⟩ : ∃ L, L = ts.length := ⟨_, rfl⟩
    have hm2 : m2 = ts.length := by obtain ⟨a, b, e⟩ := RecT.Own.form hO; injection e with _ e _; rw [e, prtF_len]
    obtain ⟨F, hF⟩ : ∃ F, F = prtF pf ts := ⟨_, rfl⟩
    have HF : Hid (F = prtF pf ts ∧ F.length = ts.length) := ⟨hF, by rw [hF, prtF_len]⟩
    rw [← hF] at hO hR
    rw [hm2] at hO HS3 ⊢
    have HO : Hid (FOwn W3 w.heap.size (.slice p2 ts.length c2) F) := hO
    have HT : Hid (Tab n cd ts F R ∧ r = 0 ∧ ts.length ≤ 2048 ∧ vkE r n cd ts (prtF pf (ts.take 2048)) me = 0) := ⟨hR, hr0, hts, hv0⟩
    clear H2 hq0 hv0 hR hr0 hts hm2 hO hF ev2 m1 m2 hL L
    by_cases hk : 0 ≤ k ∧ k ≤ 6
    · have k1 : decide (k < 0) = false := decide_eq_false (by omega)
      have k2 : decide ((6 : Int) < k) = false := decide_eq_false (by omega)
      have k1' : ¬ (k < 0) := by omega
      have k2' : ¬ ((6 : Int) < k) := by omega
      have Hk : Hid (0 ≤ k ∧ k ≤ 6) := hk
      obtain ⟨m, hm⟩ : ∃ m : Nat, m = (min k 5).toNat := ⟨_, rfl⟩
      have hmin : min k 5 = (m : Int) := by omega
      have Hm : Hid (m ≤ 5 ∧ (k = 6 → m = 5) ∧ (k ≠ 6 → m = k.toNat)) := ⟨by omega, by omega, by omega⟩
      clear hk hm
      go_upto_region 6 with fail
      obtain ⟨s0, s1, s2⟩ := sc_box HS3.out
      refine wp_region_held_drew (S := fun w' => W3.grownBy w' none) (by kernel_rfl) (grown_drew _) (fun hHeld => ?_)
      refine wpAnyH_take (i := 0) (v := ?_) rfl (by kernel_rfl) (by kernel_rfl) (by kernel_rfl) (fun _ _ _ h => h) (Or.inl ⟨by rfl, ?_⟩) (by assumption) ?_
      rotate_left 1
      · (intro w0 hSw; go_simp; try with_reducible rfl)
      simp only [List.getElem_toArray, List.getElem_cons_zero]
      go_frame
      refine wpAnyH_take (i := 1) (v := ?_) rfl (by kernel_rfl) (by kernel_rfl) (by kernel_rfl) (fun _ _ _ h => h) (Or.inl ⟨by rfl, ?_⟩) (by assumption) ?_
      rotate_left 1
      · (intro w0 hSw; have s2 := hSw.cell s2 (by simp); go_simp; try with_reducible rfl)
      simp only [List.getElem_toArray, List.getElem_cons_zero, List.getElem_cons_succ]
      go_frame
      refine wpAnyH_take (i := 2) (v := ?_) rfl (by kernel_rfl) (by kernel_rfl) (by kernel_rfl) (fun _ _ _ h => h) (Or.inl ⟨by rfl, ?_⟩) (by assumption) ?_
      rotate_left 1
      · (intro w0 hSw; have s0 := hSw.cell s0 (by simp); have s1 := hSw.cell s1 (by simp); have s2 := hSw.cell s2 (by simp); go_simp; try with_reducible rfl)
      simp only [List.getElem_toArray, List.getElem_cons_zero, List.getElem_cons_succ]
      go_frame
      refine wpAnyH_ready (rs := [3]) (by kernel_rfl) (by simp) ?_
      refine AllReadyH.cons rfl (fun K hK => ?_) AllReadyH.nil
      simp only [List.getElem_toArray, List.getElem_cons_zero, List.getElem_cons_succ]
      go_simp
      go_at_call 70
      refine (vclimber_any _ _ _ _ _ _ _ _).mono ?_
      rintro e4 w4 ⟨gk, gf, gs, rfl, h4, g4, hk4, hf4⟩
      have HG4 : Hid (W3.grownBy w4 none) := grown_trans (grown_drew _) g4
      have HC4 : Hid (ClB w4 gk gf gs bq (.slice pt ts.length ct) (.slice p2 ts.length c2) 0 (.slice p2 ts.length c2) ∧ w.heap.size ≤ gk ∧ w.heap.size ≤ gf) := ⟨h4, Nat.le_trans HG3.out.size hk4, Nat.le_trans HG3.out.size hf4⟩
      clear h4 g4 hk4 hf4
      refine hK.out _ _ (HG4.out) (fun hHeld2 => ?_)
      clear hK K
      (try go_frame)
      refine wpAnyH_take (i := 4) (v := ?_) rfl (by kernel_rfl) (by kernel_rfl) (by kernel_rfl) (fun _ _ _ h => h) (Or.inl ⟨by rfl, ?_⟩) (by assumption) ?_
      rotate_left 1
      · (intro w0 hSw; go_simp; try with_reducible rfl)
      simp only [List.getElem_toArray, List.getElem_cons_zero, List.getElem_cons_succ]
      go_frame
      refine wpAnyH_take (i := 5) (v := ?_) rfl (by kernel_rfl) (by kernel_rfl) (by kernel_rfl) (fun _ _ _ h => h) (Or.inl ⟨by rfl, ?_⟩) (by assumption) ?_
      rotate_left 1
      · (intro w0 hSw; go_simp; try with_reducible rfl)
      simp only [List.getElem_toArray, List.getElem_cons_zero, List.getElem_cons_succ]
      go_frame
      refine wpAnyH_done (by kernel_rfl) ?_ _
      clear hHeld hHeld2 s0 s1 s2 k1 k2 k1' k2' e1
      have HC0 : Hid (ClS w w4 w.heap.size gk gf gs bq (.slice pt ts.length ct) (.slice p2 ts.length c2) ((0 : Nat) : Int) (.slice p2 ts.length c2) (clF R F 0)) := ⟨HC4.out.1, own_grow HO.out HG4.out, grown_trans HG3.out HG4.out, HC4.out.2.1, HC4.out.2.2⟩
      unfold clV
      go_wp2_with fail
      go_loopw [10, 35] (fun x y wr => ∃ (j : Nat) (p : Option Addr) (c B : Nat), j ≤ m ∧ y = .int .i64 (j : Int) ∧ x = .slice p ts.length c ∧ Hid (ClS w wr B gk gf gs bq (.slice pt ts.length ct) (.slice p2 ts.length c2) (j : Int) (.slice p ts.length c) (clF R F j)) ∧ Hid (w.heap.size ≤ B) ∧ Hid (ScB wr ns bq (.slice pt ts.length ct) (.slice p2 ts.length c2))) (fun _ y _ => m - (intOf y).toNat)
      case atStart => exact ⟨0, p2, c2, w.heap.size, Nat.zero_le _, rfl, rfl, HC0, Nat.le_refl _, grown_keep HG4.out HS3.out (by simp)⟩
      case round =>
        obtain ⟨j, p, c, B, hj, rfl, rfl, HC, HB, HSU⟩ := hrel
        obtain ⟨U, hU⟩ : ∃ U, U = wr := ⟨_, rfl⟩
        subst hU
        clear HC0
        by_cases hlt : j < m
        · have hlf : (clF R F j).length = ts.length := by rw [clF_len]; exact HF.out.2
          have C5 := vclimb_any bq pt p2 ct ts.length c2 r n cd ts pf mf me w U B gk gf gs (j : Int) (.slice p ts.length c) (clF R F j) R HI.out HC.out (HT.out.1.cl j) HT.out.2.1 (by omega) (by have := Hm.out.1; omega)
          unfold ClPost at C5
          rw [hlf] at C5
          have hlt' : (j : Int) < (m : Int) := by omega
          have hwk := wrap_next (k := j) (by have := Hm.out.1; omega)
          have Hlt : Hid (j < m) := hlt
          have HM : Hid (m - (intOf (.int .i64 ((j : Int) + 1))).toNat < m - (intOf (.int .i64 (j : Int))).toNat) := meas_k hlt
          have HSz : Hid (w.heap.size ≤ U.heap.size) := HC.out.gr.size
          have HCl := HC.out.cl
          have HCL : Hid (ClB U gk gf gs bq (.slice pt ts.length ct) (.slice p2 ts.length c2) (j : Int) (.slice p ts.length c)) := HCl
          clear hlt hj hlf HC HCl
          have hfl := Tryz.fl2
          go_wp2_with (go_at_call 113; refine C5.mono ?_; rintro e5 w5 ⟨q1, n1, d1, q2, d2, rfl, h5, -, -, tw5⟩; have HC5 : Hid (ClS w w5 U.heap.size gk gf gs bq (.slice pt ts.length ct) (.slice p2 ts.length c2) ((j + 1 : Nat) : Int) (.slice q2 ts.length d2) (clF R F (j + 1))) := h5; have HSU5 : Hid (ScB w5 ns bq (.slice pt ts.length ct) (.slice p2 ts.length c2)) := tw5.keep HCL.out HSU.out (by decide) (by decide); clear C5 h5 tw5)
          go_roundw
          case rel => exact ⟨j + 1, q2, d2, U.heap.size, Hlt.out, by first | rfl | (rw [hwk]; rfl) | go_num, rfl, HC5, HSz, HSU5⟩
          case measure => first | exact HM.out | (rw [hwk]; exact HM.out)
        · obtain rfl : j = m := Nat.le_antisymm hj (Nat.le_of_not_lt hlt)
          clear hj hlt
          by_cases h6 : k = 6
          · have e6 : (k == 6) = true := by rw [h6]; rfl
            have HL : Hid (bhL R mf ts F k = mkdL mf ts (clF R F j)) := by show _ = _; unfold bhL; rw [if_pos h6, (Hm.out.2.1 h6)]
            have C6 := vmarked_any bq _ _ p2 ts.length c2 ts (clF R F j) mf me U (HI.out.th.keep HC.out.gr) (RecT.Own.at HC.out.fo) (by rw [clF_len]; exact HF.out.2.symm) HT.out.2.2.1 (HI.out.keep HC.out.gr).mkd
            obtain ⟨s0, s1, s2⟩ := sc_box HSU.out
            have HGU : Hid (w.grownBy U none) := HC.out.gr
            clear h6
            go_wp2_with fail
            refine C6.mono ?_
            rintro e6 w6 ⟨v6, rfl, o6, g6⟩
            have HX : Hid (FOwn w6 w.heap.size v6 (vBh r n cd ts pf mf me k) ∧ w.grownBy w6 none) := ⟨by rw [vBh_is HT.out.2.2.2 Hk.out (HF.out.1 ▸ HT.out.1), ← HF.out.1, HL.out]; exact own_big o6 HGU.out.size, grown_trans HGU.out g6⟩
            clear C6 o6 g6 s0 s1 s2
            go_wp2_with fail
            go_ret2
            exact ⟨_, by rw [HT.out.2.2.2, decide_eq_true Hk.out]; rfl, HX.out.2, HX.out.1⟩
          · have e6 : (k == 6) = false := by simpa using h6
            have HL : Hid (bhL R mf ts F k = clF R F j) := by show _ = _; unfold bhL; rw [if_neg h6, (Hm.out.2.2 h6)]
            have HX : Hid (FOwn U w.heap.size (.slice p ts.length c) (vBh r n cd ts pf mf me k) ∧ w.grownBy U none) := ⟨by rw [vBh_is HT.out.2.2.2 Hk.out (HF.out.1 ▸ HT.out.1), ← HF.out.1, HL.out]; exact own_big HC.out.fo HB.out, HC.out.gr⟩
            clear h6
            go_wp2_with fail
            go_ret2
            exact ⟨_, by rw [HT.out.2.2.2, decide_eq_true Hk.out]; rfl, HX.out.2, HX.out.1⟩
    · have HX : Hid (vqE (vkE r n cd ts (prtF pf (ts.take 2048)) me) (decide (0 ≤ k ∧ k ≤ 6)) 2 = 2) := by show _ = _; rw [HT.out.2.2.2, decide_eq_false hk]; rfl
      by_cases hl : k < 0
      · have k1 : decide (k < 0) = true := decide_eq_true hl
        clear hk hl
        go_wp2_with fail
        go_ret2
        exact BhPost.no HX.out (by decide) HG3.out
      · have k1 : decide (k < 0) = false := decide_eq_false hl
        have k2 : decide ((6 : Int) < k) = true := decide_eq_true (by omega)
        have k2' : (6 : Int) < k := by omega
        clear hk
        go_wp2_with fail
        go_ret2
        exact BhPost.no HX.out (by decide) HG3.out
  · have e1 : (q != 0) = true := by simpa using hq0
    have HX : Hid (vqE (vkE r n cd ts (prtF pf (ts.take 2048)) me) (decide (0 ≤ k ∧ k ≤ 6)) 2 = q) := by show _ = _; rw [← Hq.out, vqE_no hq0]
    have Hq0 : Hid (q ≠ 0) := hq0
    clear hq0
    go_wp2_with fail
    go_ret2
    exact BhPost.no HX.out Hq0.out HG3.out
theorem vof_any (bp : Option Addr) (vt : Value) (r n : Int) (cd : Int → Hd × List Pt) (ts : List Th) (pf : Th → Fe) (mf : Fe → Th → Fe) (me : Th → Int) (w : World) (I : VIn w (.pointer bp) vt r n cd ts pf mf me) : Calls Tryz.prog 30 #[.pointer bp, vt] w (BhPost w r n cd ts pf mf me 6) := by
  have C := vbehind_any bp vt r n cd ts pf mf me 6 w I
  unfold BhPost at C
  go_enter Tryz.func30, Tryz.ntmps30
  go_wp2_with fail
  refine C.mono ?_
  rintro e2 w2 ⟨v, rfl, g, o⟩
  have H : Hid (w.grownBy w2 none ∧ FOwn w2 w.heap.size v (vBh r n cd ts pf mf me 6)) := ⟨g, o⟩
  clear C g o
  go_wp2_with fail
  go_ret2
  exact ⟨_, rfl, H.out.1, H.out.2⟩
end Go.Proofs.YtmemeloehgemcaaGreat
namespace Go.Proofs.YtmemeloehgemcaaGreat
open Go.RowKit Go.Shelf

set_option maxHeartbeats 2000000 in
theorem equalIn_feL (a0 a1 a2 a3 a4 : Int) (w : World) : (Op.equalIn 10000 64 (.agg #[.int .i64 a0, .int .u8 a1, .int .u16 a2, .int .i64 a3, .int .i64 a4]) (.agg #[.int .i64 a0, .int .u8 a1, .int .u16 a2, .int .i64 a3, .int .i64 a4])).run Tryz.prog w = .ok true w := by
  have hS : Tryz.prog.underlying 64 = some (.struct (Tryz.prog.fieldsOf 64)) := by kernel_rfl
  have hp : Tryz.prog.stoodInHeld 64 = false := by kernel_rfl
  have u3 := Tryz.underlying3
  have i3 := Tryz.isAgg3
  have z3 := Tryz.sizeOf3
  have uS := Tryz.underlying43
  have iS := Tryz.isAgg43
  have zS := Tryz.sizeOf43
  have uT := Tryz.underlying62
  have iT := Tryz.isAgg62
  have zT := Tryz.sizeOf62
  rw [show (10000 : Nat) = 9999 + 1 from rfl, run_equalIn_agg w 9999 64 _ _ hS hp]
  simp only [Program.fieldsOf, Tryz.underlying64]
  go_simp
theorem neq_feL (a0 a1 a2 a3 a4 : Int) (w : World) : (binOp .neq 64 (.agg #[.int .i64 a0, .int .u8 a1, .int .u16 a2, .int .i64 a3, .int .i64 a4]) (.agg #[.int .i64 a0, .int .u8 a1, .int .u16 a2, .int .i64 a3, .int .i64 a4])).run Tryz.prog w = .ok (.bool false) w := by
  rw [run_neq_struct, equalIn_feL]; rfl
theorem eqg_feL (op : BinOp) (x y : Operand) (xs ys : Array Value) (w : World) : (eqGuard op 64 x y (.agg xs) (.agg ys)).run Tryz.prog w = .ok () w := run_eqGuard_agg w op 64 x y xs ys (by kernel_rfl)
theorem neq_sdL (s : Sd) (w : World) : (binOp .neq 49 (sdv s) (sdv s)).run Tryz.prog w = .ok (.bool false) w := by
  rw [show sdv s = .agg (sdc s).toArray from rfl, run_neq_struct, equalIn_sd, show sames s s = true from sames_iff.2 rfl]; rfl
theorem eqg_sdL (op : BinOp) (x y : Operand) (xs ys : Array Value) (w : World) : (eqGuard op 49 x y (.agg xs) (.agg ys)).run Tryz.prog w = .ok () w := run_eqGuard_agg w op 49 x y xs ys (by kernel_rfl)
set_option maxRecDepth 100000 in
set_option maxHeartbeats 4000000 in
theorem sameFe_eq (va vb : Value) (l : List Fe) (w : World) (A : feR.At w va l) (B : feR.At w vb l) (hs : l.length ≤ 4096) : Calls Tryz.prog 34 #[va, vb] w fun e w' => e = .returned (.bool true) ∧ w.grownBy w' none := by
  obtain ⟨pa, ca, rfl⟩ := A.form
  obtain ⟨pb, cb, rfl⟩ := B.form
  have HA : Hid (feR.At w (.slice pa l.length ca) l) := A
  have HB : Hid (feR.At w (.slice pb l.length cb) l) := B
  have hsm : Small l.length := by unfold Small; omega
  have hnq := neq_feL
  have hgq := eqg_feL
  clear A B hs
  go_enter Tryz.func34, Tryz.ntmps34
  go_wp2_with fail
  go_loopw [5] (fun x5 wr => ∃ k : Nat, k ≤ l.length ∧ x5 = .int .i64 (k : Int) ∧ w.grownBy wr none) (fun x5 _ => l.length - (intOf x5).toNat)
  case atStart => exact ⟨0, Nat.zero_le _, rfl, grown_refl _ _⟩
  case round =>
    obtain ⟨k, hk, rfl, G⟩ := hrel
    obtain ⟨U, hU⟩ : ∃ U, U = wr := ⟨_, rfl⟩
    subst hU
    have HG : Hid (w.grownBy U none) := G
    clear G
    rcases (show k < l.length ∨ k = l.length from by omega) with hkl | hke
    · have k0 : (0 : Int) ≤ (k : Int) := by omega
      have k1 : (k : Int) < (l.length : Int) := by omega
      obtain ⟨ga, oa, xa, ea, Ra⟩ := fe_there (HA.out.keep HG.out) hkl
      cases ea
      obtain ⟨gb, ob, xb, eb, Rb⟩ := fe_there (HB.out.keep HG.out) hkl
      cases eb
      obtain ⟨x, hx⟩ : ∃ x, x = l[k] := ⟨_, rfl⟩
      rw [← hx] at Ra Rb
      obtain ⟨a0, a1, a2, a3, a4⟩ := fe_cells Ra
      obtain ⟨b0, b1, b2, b3, b4⟩ := fe_cells Rb
      clear hx Ra Rb
      go_upto_region 6 with fail
      go_quiet (fail)
      go_wp2_with fail
      go_roundw
      case rel => exact ⟨k + 1, hkl, by first | rfl | (rw [hsm.wrap hkl]; rfl), grown_trans HG.out (grown_drewN _ _ _)⟩
      case measure => first | exact meas_next hkl | (rw [hsm.wrap hkl]; exact meas_next hkl)
    · have k1 : ¬ (k : Int) < (l.length : Int) := by omega
      clear hke
      go_wp2_with fail
      go_ret
      exact ⟨rfl, HG.out⟩
set_option maxRecDepth 100000 in
set_option maxHeartbeats 4000000 in
theorem sameSd_eq (va vb : Value) (l : List Sd) (w : World) (A : sdR.At w va l) (B : sdR.At w vb l) (hs : l.length ≤ 4096) : Calls Tryz.prog 29 #[va, vb] w fun e w' => e = .returned (.bool true) ∧ w.grownBy w' none := by
  obtain ⟨pa, ca, rfl⟩ := A.form
  obtain ⟨pb, cb, rfl⟩ := B.form
  have HA : Hid (sdR.At w (.slice pa l.length ca) l) := A
  have HB : Hid (sdR.At w (.slice pb l.length cb) l) := B
  have hsm : Small l.length := by unfold Small; omega
  have hnq := fun (s : Sd) (w : World) => (by have h := neq_sdL s w; unfold sdv at h; exact h : (binOp .neq 49 (.agg #[.int .i64 s.th, .int .i64 s.pl, .int .u8 s.wh.wn, .int .u8 s.wh.vb, .int .u8 s.wh.wm, .int .i64 s.wh.ct, .int .u8 s.wh.su, .int .u8 s.wh.tr, .int .u8 s.wh.mr, .string s.wh.nm]) (.agg #[.int .i64 s.th, .int .i64 s.pl, .int .u8 s.wh.wn, .int .u8 s.wh.vb, .int .u8 s.wh.wm, .int .i64 s.wh.ct, .int .u8 s.wh.su, .int .u8 s.wh.tr, .int .u8 s.wh.mr, .string s.wh.nm])).run Tryz.prog w = .ok (.bool false) w)
  have hgq := eqg_sdL
  clear A B hs
  go_enter Tryz.func29, Tryz.ntmps29
  go_wp2_with fail
  go_loopw [5] (fun x5 wr => ∃ k : Nat, k ≤ l.length ∧ x5 = .int .i64 (k : Int) ∧ w.grownBy wr none) (fun x5 _ => l.length - (intOf x5).toNat)
  case atStart => exact ⟨0, Nat.zero_le _, rfl, grown_refl _ _⟩
  case round =>
    obtain ⟨k, hk, rfl, G⟩ := hrel
    obtain ⟨U, hU⟩ : ∃ U, U = wr := ⟨_, rfl⟩
    subst hU
    have HG : Hid (w.grownBy U none) := G
    clear G
    rcases (show k < l.length ∨ k = l.length from by omega) with hkl | hke
    · have k0 : (0 : Int) ≤ (k : Int) := by omega
      have k1 : (k : Int) < (l.length : Int) := by omega
      obtain ⟨ga, oa, xa, ea, Ra⟩ := sd_there (HA.out.keep HG.out) hkl
      cases ea
      obtain ⟨gb, ob, xb, eb, Rb⟩ := sd_there (HB.out.keep HG.out) hkl
      cases eb
      obtain ⟨x, hx⟩ : ∃ x, x = l[k] := ⟨_, rfl⟩
      rw [← hx] at Ra Rb
      obtain ⟨a0, a1, a2, a3, a4, a5, a6, a7, a8, a9⟩ := sd_cells Ra
      obtain ⟨b0, b1, b2, b3, b4, b5, b6, b7, b8, b9⟩ := sd_cells Rb
      clear hx Ra Rb
      go_upto_region 6 with fail
      go_quiet (fail)
      go_wp2_with fail
      go_roundw
      case rel => exact ⟨k + 1, hkl, by first | rfl | (rw [hsm.wrap hkl]; rfl), grown_trans HG.out (grown_drewN _ _ _)⟩
      case measure => first | exact meas_next hkl | (rw [hsm.wrap hkl]; exact meas_next hkl)
    · have k1 : ¬ (k : Int) < (l.length : Int) := by omega
      clear hke
      go_wp2_with fail
      go_ret
      exact ⟨rfl, HG.out⟩
end Go.Proofs.YtmemeloehgemcaaGreat
namespace Go.Proofs.YtmemeloehgemcaaGreat
open Go.RowKit

theorem caE_zero {p : Pl} {es : List Ent} {c : Cd} (h0 : caE p es c = 0) : p.shut = false ∧ cchk c = 0 ∧ ¬ c.nm ∈ names es := by
  unfold caE at h0
  split at h0
  · omega
  · rename_i hs
    split at h0
    · exact absurd h0 (by assumption)
    · rename_i hq
      split at h0
      · omega
      · rename_i hz
        exact ⟨by simpa using hs, by simpa using hq, pos_no (Int.not_le.1 hz)⟩
theorem ins_names (es : List Ent) (e : Ent) : (names (ins es e)).Perm (e.h.nm :: names es) := by
  induction es with
  | nil => exact List.Perm.refl _
  | cons y r ih =>
    rw [ins_cons]
    split
    · exact (List.Perm.cons _ ih).trans (List.Perm.swap _ _ _)
    · exact List.Perm.refl _
theorem hp_at {es fs : List Ent} (h : es.map hp = fs.map hp) {m : Nat} {e : Ent} (he : es[m]? = some e) : ∃ f, fs[m]? = some f ∧ f.h = e.h ∧ f.ps = e.ps := by
  have h1 : (es.map hp)[m]? = some (hp e) := by rw [List.getElem?_map, he]; rfl
  rw [h, List.getElem?_map] at h1
  cases hf : fs[m]? with
  | none => rw [hf] at h1; cases h1
  | some f =>
    rw [hf] at h1
    injection h1 with h1
    injection h1 with h1 h2
    exact ⟨f, rfl, h1, h2⟩
theorem Pr.step {ok : Nat → Prop} {w U1 U2 : World} {b r : Nat} {v : Value} {es fs : List Ent} {p p' : Pl} (P : Pr ok w b r v es fs p) (hb : ¬ ok b) (hr : ¬ ok r) (hne : ¬ b = r) (B : Book ok U1 b es p') (g1 : w.grownBy U1 (some b)) (R : RJ U2 r v p') (g2 : U1.grownBy U2 (some r)) (hm : MkD p') (hz : p'.nms[0]? = some ⟨#[]⟩) : Pr ok U2 b r v es fs p' := by
  have nb : ∀ k, ok k → some k ≠ some b := fun k hk e => by injection e with e; exact hb (e ▸ hk)
  have nr : ∀ k, ok k → some k ≠ some r := fun k hk e => by injection e with e; exact hr (e ▸ hk)
  refine ⟨B.keepR g2 (fun e => by injection e with e; exact hne e) nr, R, ?_, ?_, (P.good.keepR g1 nb).keepR g2 nr, P.same, hm, hz⟩
  · exact (P.rl.keepR g1 (fun k hk => nb k (P.own k hk).1)).keepR g2 (fun k hk => nr k (P.own k hk).1)
  · intro k hk
    exact ⟨(P.own k hk).1, Nat.lt_of_lt_of_le (P.own k hk).2 (Nat.le_trans g1.size g2.size)⟩
theorem maP_zero' {p : Pl} (h : p.nms[0]? = some ⟨#[]⟩) (m : Mk) : (maP p m).nms[0]? = some ⟨#[]⟩ := by
  unfold maP
  split <;> exact h
theorem sealP_zero' {p : Pl} (h : p.nms[0]? = some ⟨#[]⟩) (es : List Ent) : (sealP p es).nms[0]? = some ⟨#[]⟩ := by
  unfold sealP
  split <;> exact h
theorem sealP_mkd {p : Pl} (h : MkD p) (es : List Ent) : MkD (sealP p es) := by
  unfold sealP
  split <;> exact h
theorem hp_kd {es fs : List Ent} (h : es.map hp = fs.map hp) (n : Nat) : kdAt es n = kdAt fs n := by
  unfold kdAt
  cases he : es[n]? with
  | none =>
    have h1 : fs[n]? = none := List.getElem?_eq_none (by rw [← hp_len h]; exact List.getElem?_eq_none_iff.1 he)
    rw [h1]
  | some e =>
    obtain ⟨f, hf, h1, _⟩ := hp_at h he
    rw [hf]
    simp only
    rw [h1]
theorem hp_call {es fs : List Ent} (h : es.map hp = fs.map hp) (x : Pt) : callE es x = callE fs x := by
  unfold callE
  rw [hp_names h, hp_kd h]
theorem hp_calls {es fs : List Ent} (h : es.map hp = fs.map hp) : ∀ ps, callsE es ps = callsE fs ps
  | [] => rfl
  | x :: r => by simp only [callsE, hp_call h, hp_calls h r]
theorem hp_sealL {es fs : List Ent} (h : es.map hp = fs.map hp) : ∀ {a b : List Ent}, a.map hp = b.map hp → sealL es a = sealL fs b
  | [], [], _ => rfl
  | [], _ :: _, e => by simp at e
  | _ :: _, [], e => by simp at e
  | x :: r, y :: t, e => by
    rw [List.map_cons, List.map_cons] at e
    injection e with e1 e2
    injection e1 with _ e1
    simp only [sealL, hp_calls h, e1, hp_sealL h e2]
theorem hp_seal {es fs : List Ent} (h : es.map hp = fs.map hp) (p : Pl) : sealE p es = sealE p fs ∧ sealP p es = sealP p fs := by
  have h1 : sealE p es = sealE p fs := by unfold sealE; rw [hp_sealL h h]
  refine ⟨h1, ?_⟩
  unfold sealP
  rw [h1]
theorem plNew_mkd : MkD plNew := ⟨rfl, fun m hm => by simp [plNew] at hm; exact Or.inl hm⟩
set_option maxRecDepth 100000 in
set_option maxHeartbeats 2000000 in
theorem copyCard_any (h : Hd) (v : Value) (ps : List Pt) (w : World) (hp : PsAt w v ps) (hL : Fits ps.length) : Calls Tryz.prog 42 #[cv h v] w fun e w' => ∃ a c, e = .returned (cv h (.slice a ps.length c)) ∧ POwn w' w.heap.size (.slice a ps.length c) ps ∧ w.grownBy w' none := by
  have HP : Hid (PsAt w v ps) := hp
  obtain ⟨nm, su, kd, co, po, he, tr, tk⟩ := h
  obtain ⟨a, c, rfl⟩ := hp.form
  clear hp
  unfold cv
  simp only
  go_enter Tryz.func42, Tryz.ntmps42
  go_wp2_with fail
  refine (copy_any _ ps _ (HP.out.keep (grown_push (World.grownBy_alloc _ _ none) _)) hL.copy).mono ?_
  rintro e w1 ⟨u, rfl, o1, g1⟩
  obtain ⟨a1, c1', rfl⟩ := o1.at.form
  rw [World.size_alloc, World.size_alloc] at o1
  have A2 : CAt w1 w.heap.size ⟨nm, su, kd, co, po, he, tr, tk⟩ (.slice a ps.length c) := by
    refine CAt.keep ?_ g1
    exact CAt.keep (alloc_at w (ccs ⟨nm, su, kd, co, po, he, tr, tk⟩ (.slice a ps.length c)) 88) (World.grownBy_alloc _ _ none)
  have Z2 : CAt w1 (w.heap.size + 1) Hd.none (.slice none 0 0) := by
    refine CAt.keep ?_ g1
    have := alloc_at (w.alloc (.cells (ccs ⟨nm, su, kd, co, po, he, tr, tk⟩ (.slice a ps.length c)) 88)) (ccs Hd.none (.slice none 0 0)) 88
    rw [World.size_alloc] at this
    exact this
  have G2 : w.grownBy w1 none := grown_trans (grown_push (World.grownBy_alloc _ _ none) _) g1
  clear g1
  obtain ⟨c0, c1, c2, c3, c4, c5, c6, c7, c8⟩ := A2.cells
  obtain ⟨z0, z1, z2, z3, z4, z5, z6, z7, z8⟩ := Z2.cells
  have f := A2.free 8
  have e0 := Z2.free 0; have e1 := Z2.free 1; have e2 := Z2.free 2; have e3 := Z2.free 3; have e4 := Z2.free 4; have e5 := Z2.free 5; have e6 := Z2.free 6; have e7 := Z2.free 7; have e8 := Z2.free 8
  simp only [Hd.none] at c0 c1 c2 c3 c4 c5 c6 c7 c8 z0 z1 z2 z3 z4 z5 z6 z7 z8
  have HO : Hid (POwn w1 (w.heap.size + 1 + 1) (.slice a1 ps.length c1') ps) := o1
  have HG : Hid (w.grownBy w1 none) := G2
  clear A2 Z2 G2 o1 HP
  go_wp2
  refine bodyPost_ret (v := .agg #[.string nm, .int .u8 su, .int .u8 kd, .int .i64 co, .int .i64 po, .int .i64 he, .int .u16 tr, .bool tk, .slice a1 ps.length c1']) (by simp [results, Tryz.results42, go_sem, z0, z1, z2, z3, z4, z5, z6, z7, z8]) rfl ⟨a1, c1', rfl, ?_, ?_⟩
  · exact ((HO.out.keep (grown_set _ _ 8 _) (fun x e => by cases e; omega)).keep (row_st9 _ (w.heap.size + 1) _ _ _ _ _ _ _ _ _) (fun x e => by cases e; omega)).big (by omega)
  · exact grown_own (grown_own HG.out (grown_set _ _ 8 _) (fun x e => by cases e; exact Nat.le_refl _)) (row_st9 _ (w.heap.size + 1) _ _ _ _ _ _ _ _ _) (fun x e => by cases e; omega)
theorem Pr.card {ok : Nat → Prop} {w w1 w2 w3 w4 : World} {b r : Nat} {v : Value} {es fs : List Ent} {p : Pl} {h : Hd} {u u' : Value} {v' : Value} {ps : List Pt} {t : Int} (P : Pr ok w b r v es fs p) (hr : ¬ ok r) (hne : ¬ b = r) (hnew : ∀ k, w.heap.size ≤ k → ok k) (g1 : w.grownBy w1 none) (B2 : Book ok w2 b (if t = 0 then ins es ⟨h, u, ps⟩ else es) p) (g2 : w1.grownBy w2 (some b)) (g3 : w2.grownBy w3 none) (Q1 : RJ w4 r v' p) (Q2 : RL w4 v' (if t = 0 then ins fs ⟨h, u', ps⟩ else fs)) (Q3 : v' = v ∨ ∀ k, v'.ownBlock = some k → w3.heap.size ≤ k ∧ k < w4.heap.size) (Q4 : Good (fun k => (ok k ∧ k < w3.heap.size) ∨ (w3.heap.size ≤ k ∧ some k ≠ v'.ownBlock)) w4 (if t = 0 then ins fs ⟨h, u', ps⟩ else fs)) (Q5 : w3.grownBy w4 (some r)) : ∃ fs', Pr ok w4 b r v' (if t = 0 then ins es ⟨h, u, ps⟩ else es) fs' p := by
  have nr : ∀ k, ok k → some k ≠ some r := fun k hk e => by cases e; exact hr hk
  have s1 : w.heap.size ≤ w3.heap.size := Nat.le_trans g1.size (Nat.le_trans g2.size g3.size)
  have s2 : w3.heap.size ≤ w4.heap.size := Q5.size
  refine ⟨_, (B2.keep g3).keepR Q5 (fun e => by cases e; exact hne rfl) nr, Q1, Q2, ?_, ?_, ?_, P.mkd, P.zero⟩
  · intro k hk
    rcases Q3 with rfl | Q3
    · have := P.own k hk
      exact ⟨this.1, by omega⟩
    · have := Q3 k hk
      exact ⟨hnew k (by omega), this.2⟩
  · exact Q4.mono fun k hk => hk.elim (fun h => h.1) (fun h => hnew k (by omega))
  · by_cases h0 : t = 0
    · rw [if_pos h0, if_pos h0]; exact hp_ins P.same _ _ _ _
    · rw [if_neg h0, if_neg h0]; exact P.same
end Go.Proofs.YtmemeloehgemcaaGreat
