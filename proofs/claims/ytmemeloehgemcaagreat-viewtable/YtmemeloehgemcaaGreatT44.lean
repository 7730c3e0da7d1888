/-
  View's laws: the chapter's examples, plainly; what view is asked of, of a book, of none.
  View's laws: lives.
  View's laws, helpers: large, alone, a verb's layer, printed ones with marks.
  View's laws, helpers: effects among others, in their order.
  ViewPlain, plainly: what no effect is about; what Raises alone are about.
  ViewTable, plainly: the same things with stamps of another size, or in another order: features and steps are the same, each its own.
  LayerStamps: other stamps in the same order, other Hurt, Done, Fresh and Marks.
-/
import Derived.Test.YtmemeloehgemcaaGreatT42
import Derived.Test.YtmemeloehgemcaaGreatVxB
import Derived.Test.YtmemeloehgemcaaGreatT39
import Derived.Test.YtmemeloehgemcaaGreatT41
import Derived.Test.YtmemeloehgemcaaGreatT34
import Derived.Test.YtmemeloehgemcaaGreatT35
namespace Go.Proofs.YtmemeloehgemcaaGreat
open Go.RowKit Go.Shelf

def pfB (p : Pl) (es : List Ent) (t : Th) : Fe := ptF (atC p es t.card).1 (atX p es t.card) t
def okT (t : Th) : Bool := okcs t.m0 t.m1 t.m2 t.m3
def mfB (p : Pl) (f : Fe) (t : Th) : Fe := if okT t then mkdF p f t.m0 t.m1 t.m2 t.m3 else Fe.none
def meB (t : Th) : Int := if okT t then 0 else 2
theorem VIn.of {ok : Nat → Prop} {w : World} {b : Nat} {es : List Ent} {p : Pl} {vt : Value} {ts : List Th} (B : Book ok w b es p) (A : thR.At w vt ts) (hc : ∃ q c, vt = .slice q ts.length c ∧ ts.length ≤ c) : VIn w (.pointer (some ⟨b, 0, none⟩)) vt (refE p ts.length) (es.length : Int) (atC p es) ts (pfB p es) (mfB p) meB := by
  refine ⟨fun X vf fs g F hf => LIn.of (B.keep g) (A.keep g) F hf, fun X t g => ⟨_, tprinted_of _ t _ _ _ X fun Y q => tcard_book ok b es p t Y ((B.keep g).keep q)⟩, fun X f t g => ?_, fun h => ?_, A, hc⟩
  · unfold mfB meB okT
    cases ho : okcs t.m0 t.m1 t.m2 t.m3 with
    | true => exact marked_yes ok b es p f t.m0 t.m1 t.m2 t.m3 X (B.keep g) ho
    | false => exact marked_no ok b es p f t.m0 t.m1 t.m2 t.m3 X (B.keep g) ho
  · unfold refE at h
    split at h
    · cases h
    · omega
theorem VIn.no {w : World} {bp : Option Addr} {vt : Value} {ts : List Th} (B : NoBk w (.pointer bp)) (A : thR.At w vt ts) (hc : ∃ q c, vt = .slice q ts.length c ∧ ts.length ≤ c) : VIn w (.pointer bp) vt 1 0 (fun _ => (Hd.none, [])) ts (fun t => ptF Hd.none 1 t) (fun _ _ => Fe.none) (fun _ => 1) :=
  ⟨fun X vf fs g F _ => LIn.no (B.keep g) (A.keep g) F, fun X t g => ⟨_, tprinted_of _ t Hd.none [] 1 X fun Y q => tcard_none _ t Y ((B.keep g).keep q)⟩, fun X f t g => marked_nil _ f _ _ _ _ X (B.keep g), fun h => absurd h (by decide), A, hc⟩
theorem own_cap {w : World} {base e size n : Nat} {v : Value} {xs : List Value} (h : w.ownsRow base e size v n xs) : ∃ q c, v = .slice q n c ∧ n ≤ c := by
  obtain ⟨_, q⟩ := h
  rcases q with ⟨e1, e2⟩ | ⟨g, cap, cur, e1, _, _, h4, _⟩
  · exact ⟨none, 0, by rw [e1, e2], by omega⟩
  · exact ⟨_, _, e1, h4⟩
def vxRw : List Rw := [⟨1, 1, exC, [exCp]⟩, ⟨2, 2, vxB, [exBp]⟩, ⟨3, 3, exE, []⟩, ⟨4, 4, exE, []⟩]
def vxF0 : List Fe := [⟨0, 6, 0, 0, 0⟩, ⟨0, 5, 0, 0, 0⟩, ⟨0, 2, 0, 2, 2⟩, ⟨1, 2, 0, 2, 2⟩]
def vxF5 : List Fe := [⟨0, 6, 0, 0, 0⟩, ⟨0, 5, 0, 0, 0⟩, ⟨0, 6, 0, 3, 3⟩, ⟨1, 2, 0, 2, 2⟩]
theorem vx_prt (vE vB vC : Value) : prtF (pfB vxP (vxES vE vB vC)) vxT = vxF0 := by kernel_rfl
theorem vx_sort : sortR vxRw = vxRw := List.mergeSort_of_pairwise (by unfold vxRw; simp)
theorem vx_tab (vE vB vC : Value) : tabR 3 (atC vxP (vxES vE vB vC)) vxT vxF0 = some vxRw := by
  unfold tabR
  rw [if_pos (show vxT.length = vxF0.length from rfl), show layF 3 (atC vxP (vxES vE vB vC)) (vxT.zip vxF0) 0 [] = some vxRw from by kernel_rfl]
  simp only [vx_sort]
  rfl
end Go.Proofs.YtmemeloehgemcaaGreat
namespace Go.Proofs.YtmemeloehgemcaaGreat
open Go.RowKit Go.Shelf

theorem vx_vk (vE vB vC : Value) : vkE (refE vxP vxT.length) ((vxES vE vB vC).length : Int) (atC vxP (vxES vE vB vC)) vxT (prtF (pfB vxP (vxES vE vB vC)) (vxT.take 2048)) meB = 0 := by
  rw [List.take_of_length_le (by decide), vx_prt, show refE vxP vxT.length = 0 from by kernel_rfl, show (((vxES vE vB vC).length : Nat) : Int) = 3 from rfl, vkE_yes (bgE_ok (vx_tab vE vB vC) (by decide))]
  kernel_rfl
theorem vx_Tab (vE vB vC : Value) : Tab ((vxES vE vB vC).length : Int) (atC vxP (vxES vE vB vC)) vxT (prtF (pfB vxP (vxES vE vB vC)) vxT) vxRw := by
  rw [vx_prt]
  exact Tab.of (vx_tab vE vB vC)
theorem vx_bh (vE vB vC : Value) {k : Int} (hk : 0 ≤ k ∧ k ≤ 6) : vBh (refE vxP vxT.length) ((vxES vE vB vC).length : Int) (atC vxP (vxES vE vB vC)) vxT (pfB vxP (vxES vE vB vC)) (mfB vxP) meB k = bhL vxRw (mfB vxP) vxT vxF0 k := by
  rw [vBh_is (vx_vk vE vB vC) hk (vx_Tab vE vB vC), vx_prt]
theorem vx_of : bhL vxRw (mfB vxP) vxT vxF0 6 = vxF5 := by kernel_rfl
theorem VxR.inn {w wr : World} {b S g : Nat} {vE vB vC : Value} (h : VxR w wr b S g vE vB vC) : VIn wr (.pointer (some ⟨b, 0, none⟩)) (.slice (some ⟨g, 0, none⟩) 4 4) (refE vxP vxT.length) ((vxES vE vB vC).length : Int) (atC vxP (vxES vE vB vC)) vxT (pfB vxP (vxES vE vB vC)) (mfB vxP) meB := VIn.of h.bk (RecT.Own.at h.th) ⟨_, _, rfl, Nat.le_refl _⟩
theorem fe_at {w : World} {base p c : Nat} {L : List Fe} (o : FOwn w base (.slice (some ⟨p, 0, none⟩) 4 c) L) (i : Nat) {f : Fe} (hf : L[i]? = some f) : w.rangeAt p (i * 5) (fec f) := by
  have hi : i < L.length := (List.getElem?_eq_some_iff.1 hf).1
  obtain ⟨g, off, cap, e, R⟩ := fe_there (RecT.Own.at o) hi
  obtain ⟨g', c', e', _⟩ := own_cell o (by omega)
  injection e with e1 e2 e3
  injection e1 with e1
  injection e1 with a1 a2
  rw [← a1, ← a2, Nat.zero_add, show L[i] = f from (List.getElem?_eq_some_iff.1 hf).2] at R
  exact R
theorem eql_feL (a0 a1 a2 a3 a4 : Int) (w : World) : (binOp .eql 64 (.agg #[.int .i64 a0, .int .u8 a1, .int .u16 a2, .int .i64 a3, .int .i64 a4]) (.agg #[.int .i64 a0, .int .u8 a1, .int .u16 a2, .int .i64 a3, .int .i64 a4])).run Tryz.prog w = .ok (.bool true) w := by
  rw [run_eql_struct, equalIn_feL]; rfl
set_option maxRecDepth 100000 in
set_option maxHeartbeats 4000000 in
theorem vlives_any (w : World) : Calls Tryz.prog 25 #[] w fun e w' => e = .returned (.bool true) ∧ w.grownBy w' none := by
  have C1 := vexample_any w
  have hnq := eql_feL
  have hgq := eqg_feL
  go_enter Tryz.func25, Tryz.ntmps25
  go_wp2_with fail
  refine C1.mono ?_
  rintro e1 w1 ⟨vE, vB, vC, S, g, rfl, h1⟩
  have C2 := vof_any _ _ _ _ _ _ _ _ _ w1 h1.inn
  have HG1 : Hid (w.grownBy w1 none) := h1.gr
  obtain ⟨b, hb⟩ : ∃ b, b = w.heap.size := ⟨_, rfl⟩
  rw [← hb] at C2 ⊢
  have C3 : Calls Tryz.prog 30 #[.pointer (some ⟨b, 0, none⟩), .slice (some ⟨g, 0, none⟩) 4 4] w1 fun e w' => ∃ p c, e = .returned (.tuple #[.slice (some ⟨p, 0, none⟩) 4 c, .int .i64 0]) ∧ w1.grownBy w' none ∧ FOwn w' w1.heap.size (.slice (some ⟨p, 0, none⟩) 4 c) vxF5 := by
    refine C2.mono ?_
    rintro e w' ⟨v, rfl, g', o⟩
    rw [vx_bh vE vB vC (by decide), vx_of] at o
    obtain ⟨p, c, e1, _⟩ := own_cell o (by decide)
    subst e1
    exact ⟨p, c, by rw [vx_vk]; rfl, g', o⟩
  clear C1 C2 h1 hb
  go_wp2_with fail
  refine C3.mono ?_
  rintro e2 w2 ⟨p, c, rfl, g2, o2⟩
  have HG2 : Hid (w.grownBy w2 none) := grown_trans HG1.out g2
  have r2 := fe_at o2 2 (show vxF5[2]? = some ⟨0, 6, 0, 3, 3⟩ from rfl)
  have r3 := fe_at o2 3 (show vxF5[3]? = some ⟨1, 2, 0, 2, 2⟩ from rfl)
  obtain ⟨a0, a1, a2, a3, a4⟩ := fe_cells r2
  obtain ⟨b0, b1, b2, b3, b4⟩ := fe_cells r3
  simp only [Nat.reduceMul, Nat.reduceAdd] at a0 a1 a2 a3 a4 b0 b1 b2 b3 b4
  clear C3 g2 o2 r2 r3
  go_wp2_with fail
  go_ret
  exact ⟨rfl, HG2.out⟩
end Go.Proofs.YtmemeloehgemcaaGreat
namespace Go.Proofs.YtmemeloehgemcaaGreat
open Go.RowKit Go.Shelf

def largeB (c m t : Nat) : Bool := decide (70 < c) || (decide (40 < m) || (decide (60 < t) && decide (t ≤ 2048)))
set_option maxRecDepth 100000 in
set_option maxHeartbeats 4000000 in
theorem large_any (pc pm pt : Option Addr) (c m t kc km kt : Nat) (op : Bool) (w : World) : Calls Tryz.prog 74 #[.agg #[.slice pc c kc, .slice pm m km, .bool op], .slice pt t kt] w fun e w' => e = .returned (.bool (largeB c m t)) ∧ w.grownBy w' none := by
  obtain ⟨W, hW⟩ : ∃ W, W = w.alloc (.cells #[.slice pc c kc, .slice pm m km, .bool op] 25) := ⟨_, rfl⟩
  have HG : Hid (w.grownBy W none) := by rw [hW]; exact World.grownBy_alloc _ _ none
  have H0 : Hid (W.heap[w.heap.size]? = some (.cells #[.slice pc c kc, .slice pm m km, .bool op] 25 (0, 0))) := by rw [hW]; exact alloc_at _ _ _
  go_enter Tryz.func74, Tryz.ntmps74
  go_upto_region 1 with fail
  rw [← hW]
  obtain ⟨b0, hb0⟩ : ∃ b0, b0 = w.heap.size := ⟨_, rfl⟩
  rw [← hb0] at H0 ⊢
  clear hW hb0
  have f0 : W.cell? ⟨b0, 0, none⟩ = some (.slice pc c kc) := (block_cell H0.out 0).trans rfl
  have f1 : W.cell? ⟨b0, 1, none⟩ = some (.slice pm m km) := (block_cell H0.out 1).trans rfl
  by_cases h1 : 70 < c
  · have e1 : decide ((70 : Int) < (c : Int)) = true := decide_eq_true (by omega)
    have HE : Hid (largeB c m t = true) := by show _ = _; unfold largeB; rw [decide_eq_true h1]; rfl
    go_wp2_with fail
    go_ret
    exact ⟨by rw [HE.out]; rfl, HG.out⟩
  · have e1 : decide ((70 : Int) < (c : Int)) = false := decide_eq_false (by omega)
    by_cases h2 : 40 < m
    · have e2 : decide ((40 : Int) < (m : Int)) = true := decide_eq_true (by omega)
      have HE : Hid (largeB c m t = true) := by show _ = _; unfold largeB; rw [decide_eq_true h2, Bool.true_or, Bool.or_true]
      go_wp2_with fail
      go_ret
      exact ⟨by rw [HE.out]; rfl, HG.out⟩
    · have e2 : decide ((40 : Int) < (m : Int)) = false := decide_eq_false (by omega)
      by_cases h3 : 60 < t
      · have e3 : decide ((60 : Int) < (t : Int)) = true := decide_eq_true (by omega)
        by_cases h4 : t ≤ 2048
        · have e4 : decide ((t : Int) ≤ 2048) = true := decide_eq_true (by omega)
          have HE : Hid (largeB c m t = true) := by show _ = _; unfold largeB; rw [decide_eq_true h3, decide_eq_true h4, Bool.true_and, Bool.or_true, Bool.or_true]
          go_wp2_with fail
          go_ret
          exact ⟨by rw [HE.out]; rfl, HG.out⟩
        · have e4 : decide ((t : Int) ≤ 2048) = false := decide_eq_false (by omega)
          have HE : Hid (largeB c m t = false) := by show _ = _; unfold largeB; rw [decide_eq_false h1, decide_eq_false h2, decide_eq_false h4]; simp
          go_wp2_with fail
          go_ret
          exact ⟨by rw [HE.out]; rfl, HG.out⟩
      · have e3 : decide ((60 : Int) < (t : Int)) = false := decide_eq_false (by omega)
        have HE : Hid (largeB c m t = false) := by show _ = _; unfold largeB; rw [decide_eq_false h1, decide_eq_false h2, decide_eq_false h3]; rfl
        go_wp2_with fail
        go_ret
        exact ⟨by rw [HE.out]; rfl, HG.out⟩
structure AlR (w : World) (base b : Nat) (v : Value) (vt : Value) (ts : List Th) (es : List Ent) (p : Pl) (ok : Nat → Prop) : Prop where
  bk : Book ok w b es p
  th : thR.At w vt ts
  cap : ∃ q c, vt = .slice q ts.length c ∧ ts.length ≤ c
  few : ts.length ≤ 60
  vk : vkE (refE p ts.length) (es.length : Int) (atC p es) ts (prtF (pfB p es) (ts.take 2048)) meB = 0
  fo : FOwn w base v (vBh (refE p ts.length) (es.length : Int) (atC p es) ts (pfB p es) (mfB p) meB 6)
theorem AlR.keep {w w' : World} {base b : Nat} {v vt : Value} {ts : List Th} {es : List Ent} {p : Pl} {ok : Nat → Prop} (h : AlR w base b v vt ts es p ok) (g : w.grownBy w' none) : AlR w' base b v vt ts es p ok := ⟨h.bk.keep g, h.th.keep g, h.cap, h.few, h.vk, own_grow h.fo g⟩
theorem AlR.inn {w : World} {base b : Nat} {v vt : Value} {ts : List Th} {es : List Ent} {p : Pl} {ok : Nat → Prop} (h : AlR w base b v vt ts es p ok) : VIn w (.pointer (some ⟨b, 0, none⟩)) vt (refE p ts.length) (es.length : Int) (atC p es) ts (pfB p es) (mfB p) meB := VIn.of h.bk h.th h.cap
theorem AlR.tab {w : World} {base b : Nat} {v vt : Value} {ts : List Th} {es : List Ent} {p : Pl} {ok : Nat → Prop} (h : AlR w base b v vt ts es p ok) : ∃ R, Tab (es.length : Int) (atC p es) ts (prtF (pfB p es) ts) R := by
  obtain ⟨_, ⟨R, hR⟩, _⟩ := vkE_of h.vk
  rw [List.take_of_length_le (by have := h.few; omega)] at hR
  exact ⟨R, hR⟩
def AnPost (w : World) (vt : Value) (ts : List Th) (e : Ending) (w' : World) : Prop := w.grownBy w' none ∧ ((∃ bp q m c, e = .returned (.tuple #[.pointer bp, .slice q m c, .bool false])) ∨ ∃ b q c es p ok, e = .returned (.tuple #[.pointer (some ⟨b, 0, none⟩), .slice q ts.length c, .bool true]) ∧ AlR w' w.heap.size b (.slice q ts.length c) vt ts es p ok)
theorem vBh_len {r n : Int} {cd : Int → Hd × List Pt} {ts : List Th} {pf : Th → Fe} {mf : Fe → Th → Fe} {me : Th → Int} (h : vkE r n cd ts (prtF pf (ts.take 2048)) me = 0) (hl : ts.length ≤ 2048) : (vBh r n cd ts pf mf me 6).length = ts.length := by
  obtain ⟨_, ⟨R, hR⟩, _⟩ := vkE_of h
  rw [List.take_of_length_le hl] at hR
  rw [vBh_is h (by decide) hR]
  unfold bhL
  rw [if_pos rfl]
  unfold mkdL
  rw [List.length_zipWith, clF_len, prtF_len, Nat.min_self]
set_option maxRecDepth 100000 in
set_option maxHeartbeats 4000000 in
theorem alone_any (vc vm vt : Value) (op : Bool) (cs : List Ent) (ms : List Mk) (ts : List Th) (w : World) (FI : FiA w vc vm cs ms) (A : thR.At w vt ts) (hc : ∃ q c, vt = .slice q ts.length c ∧ ts.length ≤ c) : Calls Tryz.prog 32 #[.agg #[vc, vm, .bool op], vt] w (AnPost w vt ts) := by
  obtain ⟨pc, kc, pm, km, rfl, rfl⟩ := FI.forms
  obtain ⟨pt, ct, rfl, hcap⟩ := hc
  have Hcap : Hid (ts.length ≤ ct) := hcap
  obtain ⟨W, hW⟩ : ∃ W, W = w.alloc (.cells #[.slice pc cs.length kc, .slice pm ms.length km, .bool op] 25) := ⟨_, rfl⟩
  have HG : Hid (w.grownBy W none) := by rw [hW]; exact World.grownBy_alloc _ _ none
  have H0 : Hid (W.heap[w.heap.size]? = some (.cells #[.slice pc cs.length kc, .slice pm ms.length km, .bool op] 25 (0, 0))) := by rw [hW]; exact alloc_at _ _ _
  have HF : Hid (FiA W (.slice pc cs.length kc) (.slice pm ms.length km) cs ms ∧ thR.At W (.slice pt ts.length ct) ts) := ⟨FI.keep HG.out, A.keep HG.out⟩
  clear FI A hcap
  go_enter Tryz.func32, Tryz.ntmps32
  go_upto_region 1 with fail
  rw [← hW]
  obtain ⟨b0, hb0⟩ : ∃ b0, b0 = w.heap.size := ⟨_, rfl⟩
  rw [← hb0] at H0 ⊢
  clear hW hb0
  have C1 := large_any pc pm pt cs.length ms.length ts.length kc km ct op W
  have f0 : W.cell? ⟨b0, 0, none⟩ = some (.slice pc cs.length kc) := (block_cell H0.out 0).trans rfl
  have f1 : W.cell? ⟨b0, 1, none⟩ = some (.slice pm ms.length km) := (block_cell H0.out 1).trans rfl
  have f2 : W.cell? ⟨b0, 2, none⟩ = some (.bool op) := (block_cell H0.out 2).trans rfl
  go_wp2_with fail
  refine C1.mono ?_
  rintro e1 w1 ⟨rfl, g1⟩
  have HG1 : Hid (w.grownBy w1 none) := grown_trans HG.out g1
  have HF1 : Hid (FiA w1 (.slice pc cs.length kc) (.slice pm ms.length km) cs ms ∧ thR.At w1 (.slice pt ts.length ct) ts) := ⟨HF.out.1.keep g1, HF.out.2.keep g1⟩
  have H1 : Hid (w1.heap[b0]? = some (.cells #[.slice pc cs.length kc, .slice pm ms.length km, .bool op] 25 (0, 0))) := grown_keep g1 H0.out (by simp)
  clear C1 g1 H0 HF f0 f1 f2 HG
  obtain ⟨lb, hlb⟩ : ∃ lb, lb = largeB cs.length ms.length ts.length := ⟨_, rfl⟩
  rw [← hlb]
  clear hlb
  cases lb with
  | true =>
    go_wp2_with fail
    refine bodyPost_ret (v := .tuple #[.pointer none, .slice none 0 0, .bool false]) (by simp [results, Tryz.results32, go_sem]) rfl ⟨HG1.out, Or.inl ⟨none, none, 0, 0, rfl⟩⟩
  | false =>
    by_cases h6 : 60 < ts.length
    · have e6 : decide ((60 : Int) < (ts.length : Int)) = true := decide_eq_true (by omega)
      clear h6
      go_wp2_with fail
      refine bodyPost_ret (v := .tuple #[.pointer none, .slice none 0 0, .bool false]) (by simp [results, Tryz.results32, go_sem]) rfl ⟨HG1.out, Or.inl ⟨none, none, 0, 0, rfl⟩⟩
    · have e6 : decide ((60 : Int) < (ts.length : Int)) = false := decide_eq_false (by omega)
      have H6 : Hid (ts.length ≤ 60) := Nat.le_of_not_lt h6
      clear h6
      have C3 := books_any _ _ op cs ms w1 HF1.out.1
      unfold BoPost at C3
      have f0 : w1.cell? ⟨b0, 0, none⟩ = some (.slice pc cs.length kc) := (block_cell H1.out 0).trans rfl
      have f1 : w1.cell? ⟨b0, 1, none⟩ = some (.slice pm ms.length km) := (block_cell H1.out 1).trans rfl
      have f2 : w1.cell? ⟨b0, 2, none⟩ = some (.bool op) := (block_cell H1.out 2).trans rfl
      obtain ⟨nB, hnB⟩ : ∃ nB, nB = w1.heap.size + 1 := ⟨_, rfl⟩
      rw [← hnB] at C3
      clear hnB
      go_wp2_with fail
      refine C3.mono ?_
      rintro e3 w3 ⟨v3, es, fs3, p, rfl, P3, -, g3⟩
      have HP : Hid (Book (okB nB) w3 nB es p) := P3.book
      have HG3 : Hid (w.grownBy w3 none) := grown_trans HG1.out g3
      have HT3 : Hid (thR.At w3 (.slice pt ts.length ct) ts) := HF1.out.2.keep g3
      clear C3 P3 g3 f0 f1 f2 H1 HF1 e6
      have C4 := vof_any _ _ _ _ _ _ _ _ _ w3 (VIn.of HP.out HT3.out ⟨_, _, rfl, Hcap.out⟩)
      unfold BhPost at C4
      obtain ⟨q, hq⟩ : ∃ q, q = vkE (refE p ts.length) (es.length : Int) (atC p es) ts (prtF (pfB p es) (ts.take 2048)) meB := ⟨_, rfl⟩
      rw [← hq] at C4
      have Hq : Hid (q = vkE (refE p ts.length) (es.length : Int) (atC p es) ts (prtF (pfB p es) (ts.take 2048)) meB) := hq
      clear hq
      by_cases hq0 : q = 0
      · have Hq0 : Hid (q = 0) := hq0
        rw [hq0, show vqE 0 (decide ((0 : Int) ≤ 6 ∧ (6 : Int) ≤ 6)) 2 = 0 from rfl] at C4
        clear hq0
        go_wp2_with fail
        refine C4.mono ?_
        rintro e4 w4 ⟨v4, rfl, g4, o4⟩
        have hv := vBh_len (mf := mfB p) (Hq.out.symm.trans Hq0.out) (Nat.le_trans H6.out (by decide))
        obtain ⟨p4, c4, ev⟩ := RecT.Own.form o4
        rw [hv] at ev
        subst ev
        have HR : Hid (AlR w4 w.heap.size nB (.slice p4 ts.length c4) (.slice pt ts.length ct) ts es p (okB nB) ∧ w.grownBy w4 none) := ⟨⟨HP.out.keep g4, HT3.out.keep g4, ⟨_, _, rfl, Hcap.out⟩, H6.out, Hq.out.symm.trans Hq0.out, own_big o4 HG3.out.size⟩, grown_trans HG3.out g4⟩
        clear C4 g4 o4 hv
        go_wp2_with fail
        refine bodyPost_ret (v := .tuple #[.pointer (some ⟨nB, 0, none⟩), .slice p4 ts.length c4, .bool true]) (by simp [results, Tryz.results32, go_sem]) rfl ⟨HR.out.2, Or.inr ⟨nB, p4, c4, es, p, okB nB, rfl, HR.out.1⟩⟩
      · have hqe : (q == 0) = false := by simpa using hq0
        rw [vqE_no hq0] at C4
        clear hq0
        go_wp2_with fail
        refine C4.mono ?_
        rintro e4 w4 ⟨v4, rfl, g4, o4⟩
        obtain ⟨p4, c4, ev⟩ := RecT.Own.form o4
        subst ev
        have HG4 : Hid (w.grownBy w4 none) := grown_trans HG3.out g4
        clear C4 g4 o4
        go_wp2_with fail
        refine bodyPost_ret (v := .tuple #[.pointer (some ⟨nB, 0, none⟩), .slice p4 _ c4, .bool false]) (by simp [results, Tryz.results32, go_sem]; rfl) rfl ⟨HG4.out, Or.inl ⟨_, _, _, _, rfl⟩⟩
end Go.Proofs.YtmemeloehgemcaaGreat
namespace Go.Proofs.YtmemeloehgemcaaGreat
open Go.RowKit Go.Shelf

end Go.Proofs.YtmemeloehgemcaaGreat
namespace Go.Proofs.YtmemeloehgemcaaGreat
open Go.RowKit Go.Shelf

theorem mkd_at {mf : Fe → Th → Fe} {ts : List Th} {fs : List Fe} {j : Nat} {t : Th} {f : Fe} (ht : ts[j]? = some t) (hf : fs[j]? = some f) : (mkdL mf ts fs).getD j Fe.none = mkdT mf t f := by
  unfold mkdL
  rw [List.getD_eq_getElem?_getD, List.getElem?_zipWith, ht, hf]
  rfl
theorem plain_off {ts : List Th} {pf : Th → Fe} {mf : Fe → Th → Fe} {R : List Rw} {j : Nat} {t : Th} (ht : ts[j]? = some t) (hp : ¬ t.place = 4) : (bhL R mf ts (prtF pf ts) 6).getD j Fe.none = Fe.none := by
  have hj : j < ts.length := (List.getElem?_eq_some_iff.1 ht).1
  unfold bhL
  rw [if_pos rfl, mkd_at ht (List.getElem?_eq_getElem (show j < (clF R (prtF pf ts) 5).length by rw [clF_len, prtF_len]; exact hj))]
  exact if_neg hp
end Go.Proofs.YtmemeloehgemcaaGreat
namespace Go.Proofs.YtmemeloehgemcaaGreat
open Go.RowKit Go.Shelf

theorem pfB_same (p : Pl) (es : List Ent) (t u : Th) (h1 : u.card = t.card) (h2 : u.owner = t.owner) : pfB p es u = pfB p es t := by
  unfold pfB ptF own01
  rw [h1, h2]
theorem mfB_same (p : Pl) (f : Fe) {t u : Th} (h0 : u.m0 = t.m0) (h1 : u.m1 = t.m1) (h2 : u.m2 = t.m2) (h3 : u.m3 = t.m3) : mfB p f u = mfB p f t := by
  unfold mfB okT
  rw [h0, h1, h2, h3]
theorem meB_same {t u : Th} (h0 : u.m0 = t.m0) (h1 : u.m1 = t.m1) (h2 : u.m2 = t.m2) (h3 : u.m3 = t.m3) : meB u = meB t := by
  unfold meB okT
  rw [h0, h1, h2, h3]
theorem mkE_all {me : Th → Int} : ∀ (l : List Th), (∀ t ∈ l, t.place = 4 → me t = 0) → mkE me l = 0
  | [], _ => rfl
  | t :: l, h => by
    rw [mkE_yes (fun q => q.2 (h t List.mem_cons_self q.1))]
    exact mkE_all l fun u hu => h u (List.mem_cons_of_mem _ hu)
theorem mkE_each {me : Th → Int} : ∀ (l : List Th), mkE me l = 0 → ∀ t ∈ l, t.place = 4 → me t = 0
  | [], _, t, ht, _ => by cases ht
  | u :: l, h, t, ht, h4 => by
    by_cases q : u.place = 4 ∧ me u ≠ 0
    · rw [mkE_no q.1 q.2] at h
      exact absurd h q.2
    · rw [mkE_yes q] at h
      rcases List.mem_cons.1 ht with rfl | ht
      · exact Classical.byContradiction fun z => q ⟨h4, z⟩
      · exact mkE_each l h t ht h4
theorem Turned.vk {n : Int} {cd : Int → Hd × List Pt} {s : Nat → Nat} {ts us : List Th} {p : Pl} {es : List Ent} {R : List Rw} {r : Int} (T : Turned n s ts us) (hR : Tab n cd ts (prtF (pfB p es) ts) R) (hl : ts.length ≤ 2048) (h : vkE r n cd ts (prtF (pfB p es) (ts.take 2048)) meB = 0) : vkE r n cd us (prtF (pfB p es) (us.take 2048)) meB = 0 := by
  obtain ⟨h0, _, hm⟩ := vkE_of h
  obtain ⟨Q, hQ, _, _⟩ := T.tab (fun t u => pfB_same p es t u) hR
  rw [List.take_of_length_le (by rw [T.len]; exact hl)]
  subst h0
  rw [vkE_yes (bgE_ok hQ.tab (by decide))]
  refine mkE_all _ fun u hu h4 => ?_
  obtain ⟨i, hi, e⟩ := List.getElem_of_mem hu
  obtain ⟨j, hj, es'⟩ := T.sur i (by rw [← T.len]; exact hi)
  have ht : ts[j]? = some ts[j] := List.getElem?_eq_getElem hj
  have hu' : us[s j]? = some u := by rw [es', List.getElem?_eq_getElem hi, e]
  obtain ⟨p1, -, p3⟩ := T.pl j _ u ht hu'
  have h4' := p1.1 h4
  obtain ⟨-, -, a, b, c, d, -⟩ := p3 h4'
  rw [meB_same a b c d]
  exact mkE_each ts hm _ (List.getElem_mem hj) h4'
theorem Turned.bh {n : Int} {cd : Int → Hd × List Pt} {s : Nat → Nat} {ts us : List Th} {p : Pl} {es : List Ent} {R Q : List Rw} (T : Turned n s ts us) (hR : Tab n cd ts (prtF (pfB p es) ts) R) (hQ : Tab n cd us (prtF (pfB p es) us) Q) (h : SmQ (uOf s) R Q) (e : pickF Q (prtF (pfB p es) us) = pickF R (prtF (pfB p es) ts)) {j : Nat} (hj : j < ts.length) : (bhL Q (mfB p) us (prtF (pfB p es) us) 6).getD (s j) Fe.none = (bhL R (mfB p) ts (prtF (pfB p es) ts) 6).getD j Fe.none := by
  have ht : ts[j]? = some ts[j] := List.getElem?_eq_getElem hj
  obtain ⟨u, hu⟩ := T.get ht
  obtain ⟨p1, -, p3⟩ := T.pl j _ u ht hu
  by_cases h4 : ts[j].place = 4
  · obtain ⟨i, hi, en⟩ := hR.has ht h4
    obtain ⟨-, -, m0, m1, m2, m3, -⟩ := p3 h4
    have eq : (Q.getD i Rw.none).nu = ((s j : Nat) : Int) + 1 := by
      rw [h.nu i hi, en]
      unfold uOf
      rw [toN]
    have a := hR.cl_at hi en 5
    have b := hQ.cl_at (show i < Q.length by rw [h.len]; exact hi) eq 5
    rw [e, h.pkF] at b
    unfold bhL
    rw [if_pos rfl, if_pos rfl, mkd_at hu b, mkd_at ht a]
    unfold mkdT
    rw [if_pos h4, if_pos (p1.2 h4), mfB_same p _ m0 m1 m2 m3]
  · rw [plain_off ht h4, plain_off hu (fun q => h4 (p1.1 q))]
theorem bhL_len {R : List Rw} {mf : Fe → Th → Fe} {ts : List Th} {pf : Th → Fe} : (bhL R mf ts (prtF pf ts) 6).length = ts.length := by
  unfold bhL
  rw [if_pos rfl]
  unfold mkdL
  rw [List.length_zipWith, clF_len, prtF_len, Nat.min_self]
def cntL (ts : List Th) (s : Int) (k : Nat) : Nat := ((ts.take k).filter fun t => decide (t.place = 4) && decide (t.stamp < s)).length
theorem cnt_yes {ts : List Th} {s : Int} {k : Nat} {t : Th} (h : ts[k]? = some t) (h4 : t.place = 4) (hs : t.stamp < s) : cntL ts s (k + 1) = cntL ts s k + 1 := by
  unfold cntL
  rw [List.take_add_one, h, List.filter_append, List.length_append]
  simp [h4, hs]
theorem cnt_no {ts : List Th} {s : Int} {k : Nat} {t : Th} (h : ts[k]? = some t) (hn : ¬ (t.place = 4 ∧ t.stamp < s)) : cntL ts s (k + 1) = cntL ts s k := by
  unfold cntL
  rw [List.take_add_one, h, List.filter_append, List.length_append]
  have : (decide (t.place = 4) && decide (t.stamp < s)) = false := by
    rw [Bool.and_eq_false_iff, decide_eq_false_iff_not, decide_eq_false_iff_not]
    by_cases q : t.place = 4
    · exact Or.inr fun z => hn ⟨q, z⟩
    · exact Or.inl q
  simp [this]
theorem cnt_le (ts : List Th) (s : Int) (k : Nat) : cntL ts s k ≤ k := Nat.le_trans (List.length_filter_le _ _) (by rw [List.length_take]; exact Nat.min_le_left _ _)
theorem cnt_lt {ts : List Th} {t t' : Th} (ht : t ∈ ts) (h4 : t.place = 4) (h : t.stamp < t'.stamp) : cntL ts t.stamp ts.length < cntL ts t'.stamp ts.length := by
  unfold cntL
  rw [List.take_length]
  have e : (ts.filter fun x => decide (x.place = 4) && decide (x.stamp < t.stamp)) = (ts.filter fun x => decide (x.place = 4) && decide (x.stamp < t'.stamp)).filter fun x => decide (x.place = 4) && decide (x.stamp < t.stamp) := by
    rw [List.filter_filter]
    refine List.filter_congr fun x _ => ?_
    by_cases q : x.place = 4
    · by_cases z : x.stamp < t.stamp
      · have : x.stamp < t'.stamp := by omega
        simp [q, z, this]
      · simp [z]
    · simp [q]
  rw [e, List.length_filter_lt_length_iff_exists]
  exact ⟨t, List.mem_filter.2 ⟨ht, by simp [h4, h]⟩, by simp⟩
def rkS (r : Nat) (ts : List Th) (t : Th) : Int := 1 + (cntL ts t.stamp ts.length : Int) * (1 + (r : Int))
def rkT (r : Nat) (ts : List Th) (t : Th) : Th := if t.place = 4 then { t with stamp := rkS r ts t, hurt := 7, done := 0, fresh := !t.fresh } else ⟨t.card, t.owner, 5, 0, 0, 0, 0, 0, 0, 0, false⟩
theorem rkT_on {r : Nat} {ts : List Th} {t : Th} (h : t.place = 4) : rkT r ts t = { t with stamp := rkS r ts t, hurt := 7, done := 0, fresh := !t.fresh } := if_pos h
theorem rkT_off {r : Nat} {ts : List Th} {t : Th} (h : ¬ t.place = 4) : rkT r ts t = ⟨t.card, t.owner, 5, 0, 0, 0, 0, 0, 0, 0, false⟩ := if_neg h
theorem ranked_turned {n : Int} {cd : Int → Hd × List Pt} {ts : List Th} {fs : List Fe} {R : List Rw} (r : Nat) (h : Tab n cd ts fs R) : Turned n id ts (ts.map (rkT r ts)) := by
  have hg : ∀ j t u, ts[j]? = some t → (ts.map (rkT r ts))[id j]? = some u → u = rkT r ts t := fun j t u a b => by
    rw [id, List.getElem?_map, a] at b
    exact (Option.some.inj b).symm
  refine ⟨List.length_map _, fun j hj => hj, fun i j _ _ e => e, fun i hi => ⟨i, hi, rfl⟩, fun j t u a b => ?_, fun i j t t' u u' a b c d e f g => ?_⟩
  · have hf : ∃ f, fs[j]? = some f := ⟨_, List.getElem?_eq_getElem (by rw [← h.len]; exact (List.getElem?_eq_some_iff.1 a).1)⟩
    obtain ⟨f, hf⟩ := hf
    obtain ⟨m1, m2⟩ := h.mays a hf
    rw [hg j t u a b]
    by_cases h4 : t.place = 4
    · rw [rkT_on h4]
      refine ⟨Iff.rfl, rfl, fun _ => ⟨rfl, rfl, rfl, rfl, rfl, rfl, ?_⟩⟩
      show 0 < rkS r ts t
      unfold rkS
      have : (0 : Int) ≤ (cntL ts t.stamp ts.length : Int) * (1 + (r : Int)) := Int.mul_nonneg (by omega) (by omega)
      omega
    · rw [rkT_off h4]
      refine ⟨⟨fun q => absurd (show (5 : Int) = 4 from q) (by decide), fun q => absurd q h4⟩, ?_, fun q => absurd q h4⟩
      rw [m1]
      unfold mayBeB at m1 ⊢
      simp only [Bool.and_eq_true, decide_eq_true_eq] at m1 ⊢
      obtain ⟨⟨⟨⟨a1, a2⟩, a3⟩, a4⟩, a5⟩ := m1
      exact ⟨⟨⟨⟨a1, a2⟩, a3⟩, by decide⟩, by decide⟩
  · rw [hg i t u a c, hg j t' u' b d, rkT_on e, rkT_on f]
    show rkS r ts t < rkS r ts t'
    have q := cnt_lt (t' := t') (List.mem_of_getElem? a) e g
    unfold rkS
    have : (cntL ts t.stamp ts.length : Int) * (1 + (r : Int)) < (cntL ts t'.stamp ts.length : Int) * (1 + (r : Int)) := Int.mul_lt_mul_of_pos_right (by omega) (by omega)
    omega
theorem turned_order {n : Int} {cd : Int → Hd × List Pt} {ts : List Th} {fs : List Fe} {R : List Rw} (h : Tab n cd ts fs R) {A : List Nat} (hA : A.Perm (List.range ts.length)) : Turned n (fun j => A.idxOf j) ts (A.map fun a => ts.getD a Th.none) := by
  have hl : A.length = ts.length := by rw [hA.length_eq, List.length_range]
  have hm : ∀ j, j < ts.length → j ∈ A := fun j hj => hA.mem_iff.2 (List.mem_range.2 hj)
  have hn : A.Nodup := hA.nodup_iff.2 List.nodup_range
  have hx : ∀ j, (hj : j < ts.length) → A[A.idxOf j]? = some j := fun j hj => by
    have q := List.idxOf_lt_length_of_mem (hm j hj)
    rw [List.getElem?_eq_getElem q, List.getElem_idxOf q]
  have hg : ∀ j t u, ts[j]? = some t → (A.map fun a => ts.getD a Th.none)[A.idxOf j]? = some u → u = t := fun j t u a b => by
    rw [List.getElem?_map, hx j (List.getElem?_eq_some_iff.1 a).1] at b
    have := Option.some.inj b
    rw [← this]
    show ts.getD j Th.none = t
    rw [List.getD_eq_getElem?_getD, a]
    rfl
  refine ⟨by rw [List.length_map, hl], fun j hj => by rw [← hl]; exact List.idxOf_lt_length_of_mem (hm j hj), fun i j hi hj e => ?_, fun i hi => ?_, fun j t u a b => ?_, fun i j t t' u u' a b c d e f g => ?_⟩
  · have a := hx i hi
    have b := hx j hj
    have e : A.idxOf i = A.idxOf j := e
    rw [e] at a
    exact Option.some.inj (a.symm.trans b)
  · have hi' : i < A.length := by rw [hl]; exact hi
    have hlt : A[i] < ts.length := List.mem_range.1 (hA.mem_iff.1 (List.getElem_mem hi'))
    refine ⟨A[i], hlt, ?_⟩
    exact hn.idxOf_getElem i hi'
  · have hf : ∃ f, fs[j]? = some f := ⟨_, List.getElem?_eq_getElem (by rw [← h.len]; exact (List.getElem?_eq_some_iff.1 a).1)⟩
    obtain ⟨f, hf⟩ := hf
    obtain ⟨m1, m2⟩ := h.mays a hf
    rw [hg j t u a b]
    refine ⟨Iff.rfl, rfl, fun h4 => ⟨rfl, rfl, rfl, rfl, rfl, rfl, ?_⟩⟩
    have := (m2 h4).1
    unfold mayLieB at this
    simp only [Bool.and_eq_true, decide_eq_true_eq] at this
    exact this.1.1
  · rw [hg i t u a c, hg j t' u' b d]
    exact g
theorem st_th {R : List Rw} {fs : List Fe} : ∀ (k : Nat) {e : Se}, e ∈ stU R fs k → ∃ i, i < R.length ∧ e.s.th = (R.getD i Rw.none).nu
  | 0, e, h => by cases h
  | k + 1, e, h => by
    rcases List.mem_append.1 h with h | h
    · exact st_th k h
    · obtain ⟨a, b, _⟩ := eff_mem (ap_eff h)
      exact ⟨e.ro, a, b⟩
end Go.Proofs.YtmemeloehgemcaaGreat
namespace Go.Proofs.YtmemeloehgemcaaGreat
open Go.RowKit Go.Shelf

theorem set_set (Y : List Th) (i : Nat) (a b : Th) : (Y.set i a).set i b = Y.set i b := by simp
theorem th_at {w : World} {base g n c : Nat} {l : List Th} {i : Nat} {t : Th} (O : thR.Own 60 w base (.slice (some ⟨g, 0, none⟩) n c) l) (ht : l[i]? = some t) : w.rangeAt g (i * 11) (thc t) := by
  have hi := (List.getElem?_eq_some_iff.1 ht)
  obtain ⟨g', off, cap, e, q⟩ := th_there (RecT.Own.at O) hi.1
  cases e
  rw [Nat.zero_add, hi.2] at q
  exact q
theorem th_free {w : World} {base g n c : Nat} {l : List Th} (O : thR.Own 60 w base (.slice (some ⟨g, 0, none⟩) n c) l) (j : Nat) : w.frozen? ⟨g, j, none⟩ = false := by
  obtain ⟨p, q, e⟩ := RecT.Own.form O
  cases e
  exact World.ownsRow.frozenAt O j
theorem th_form {w : World} {base n : Nat} {p : Option Addr} {c : Nat} {l : List Th} (O : thR.Own 60 w base (.slice p n c) l) (h0 : 0 < l.length) : ∃ g, p = some ⟨g, 0, none⟩ ∧ base ≤ g := by
  obtain ⟨g, cap, e, hb, _⟩ := own_cell O h0
  cases e
  exact ⟨g, rfl, hb⟩
end Go.Proofs.YtmemeloehgemcaaGreat
