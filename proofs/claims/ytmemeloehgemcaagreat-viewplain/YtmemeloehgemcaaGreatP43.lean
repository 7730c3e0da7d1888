/-
  View's laws: the chapter's examples, plainly; what view is asked of, of a book, of none.
  View's laws: lives.
  View's laws, helpers: large, alone, a verb's layer, printed ones with marks.
-/
import Derived.Test.YtmemeloehgemcaaGreatP41
import Derived.Test.YtmemeloehgemcaaGreatVxB
import Derived.Test.YtmemeloehgemcaaGreatP38
import Derived.Test.YtmemeloehgemcaaGreatP40
namespace Go.Proofs.YtmemeloehgemcaaGreat
open Go.RowKit Go.Shelf

def pfB (p : Pl) (es : List Ent) (t : Th) : Fe := ptF (atC p es t.card).1 (atX p es t.card) t
def okT (t : Th) : Bool := okcs t.m0 t.m1 t.m2 t.m3
def mfB (p : Pl) (f : Fe) (t : Th) : Fe := if okT t then mkdF p f t.m0 t.m1 t.m2 t.m3 else Fe.none
def meB (t : Th) : Int := if okT t then 0 else 2
theorem VIn.of {ok : Nat → Prop} {w : World} {b : Nat} {es : List Ent} {p : Pl} {vt : Value} {ts : List Th} (B : Book ok w b es p) (A : thR.At w vt ts) (hc : ∃ q c, vt = .slice q ts.length c ∧ ts.length ≤ c) : VIn w (.pointer (some ⟨b, 0, none⟩)) vt (refE p ts.length) (es.length : Int) (atC p es) ts (pfB p es) (mfB p) meB := by
  refine ⟨fun X vf fs g F hf => LIn.of (B.keep g) (A.keep g) F hf, fun X t g => ⟨_, tprinted_of _ t _ _ _ X fun Y q => tcard_book ok b es p t Y ((B.keep g).keep q)⟩, fun X f t g => ?_, fun h => ?_, A, hc⟩
  · unfold mfB meB okT
    cases ho : okcs t.m0 t.m1 t.m2 t.m3 with
    | true => exact marked_yes ok b es p f t.m0 t.m1 t.m2 t.m3 X (B.keep g) ho
    | false => exact marked_no ok b es p f t.m0 t.m1 t.m2 t.m3 X (B.keep g) ho
  · unfold refE at h
    split at h
    · cases h
    · omega
theorem VIn.no {w : World} {bp : Option Addr} {vt : Value} {ts : List Th} (B : NoBk w (.pointer bp)) (A : thR.At w vt ts) (hc : ∃ q c, vt = .slice q ts.length c ∧ ts.length ≤ c) : VIn w (.pointer bp) vt 1 0 (fun _ => (Hd.none, [])) ts (fun t => ptF Hd.none 1 t) (fun _ _ => Fe.none) (fun _ => 1) :=
  ⟨fun X vf fs g F _ => LIn.no (B.keep g) (A.keep g) F, fun X t g => ⟨_, tprinted_of _ t Hd.none [] 1 X fun Y q => tcard_none _ t Y ((B.keep g).keep q)⟩, fun X f t g => marked_nil _ f _ _ _ _ X (B.keep g), fun h => absurd h (by decide), A, hc⟩
def vxRw : List Rw := [⟨1, 1, exC, [exCp]⟩, ⟨2, 2, vxB, [exBp]⟩, ⟨3, 3, exE, []⟩, ⟨4, 4, exE, []⟩]
def vxF0 : List Fe := [⟨0, 6, 0, 0, 0⟩, ⟨0, 5, 0, 0, 0⟩, ⟨0, 2, 0, 2, 2⟩, ⟨1, 2, 0, 2, 2⟩]
def vxF5 : List Fe := [⟨0, 6, 0, 0, 0⟩, ⟨0, 5, 0, 0, 0⟩, ⟨0, 6, 0, 3, 3⟩, ⟨1, 2, 0, 2, 2⟩]
theorem vx_prt (vE vB vC : Value) : prtF (pfB vxP (vxES vE vB vC)) vxT = vxF0 := by kernel_rfl
theorem vx_sort : sortR vxRw = vxRw := List.mergeSort_of_pairwise (by unfold vxRw; simp)
theorem vx_tab (vE vB vC : Value) : tabR 3 (atC vxP (vxES vE vB vC)) vxT vxF0 = some vxRw := by
  unfold tabR
  rw [if_pos (show vxT.length = vxF0.length from rfl), show layF 3 (atC vxP (vxES vE vB vC)) (vxT.zip vxF0) 0 [] = some vxRw from by kernel_rfl]
  simp only [vx_sort]
  rfl
end Go.Proofs.YtmemeloehgemcaaGreat
namespace Go.Proofs.YtmemeloehgemcaaGreat
open Go.RowKit Go.Shelf

theorem vx_vk (vE vB vC : Value) : vkE (refE vxP vxT.length) ((vxES vE vB vC).length : Int) (atC vxP (vxES vE vB vC)) vxT (prtF (pfB vxP (vxES vE vB vC)) (vxT.take 2048)) meB = 0 := by
  rw [List.take_of_length_le (by decide), vx_prt, show refE vxP vxT.length = 0 from by kernel_rfl, show (((vxES vE vB vC).length : Nat) : Int) = 3 from rfl, vkE_yes (bgE_ok (vx_tab vE vB vC) (by decide))]
  kernel_rfl
theorem vx_Tab (vE vB vC : Value) : Tab ((vxES vE vB vC).length : Int) (atC vxP (vxES vE vB vC)) vxT (prtF (pfB vxP (vxES vE vB vC)) vxT) vxRw := by
  rw [vx_prt]
  exact Tab.of (vx_tab vE vB vC)
theorem vx_bh (vE vB vC : Value) {k : Int} (hk : 0 ≤ k ∧ k ≤ 6) : vBh (refE vxP vxT.length) ((vxES vE vB vC).length : Int) (atC vxP (vxES vE vB vC)) vxT (pfB vxP (vxES vE vB vC)) (mfB vxP) meB k = bhL vxRw (mfB vxP) vxT vxF0 k := by
  rw [vBh_is (vx_vk vE vB vC) hk (vx_Tab vE vB vC), vx_prt]
theorem vx_of : bhL vxRw (mfB vxP) vxT vxF0 6 = vxF5 := by kernel_rfl
theorem VxR.inn {w wr : World} {b S g : Nat} {vE vB vC : Value} (h : VxR w wr b S g vE vB vC) : VIn wr (.pointer (some ⟨b, 0, none⟩)) (.slice (some ⟨g, 0, none⟩) 4 4) (refE vxP vxT.length) ((vxES vE vB vC).length : Int) (atC vxP (vxES vE vB vC)) vxT (pfB vxP (vxES vE vB vC)) (mfB vxP) meB := VIn.of h.bk (RecT.Own.at h.th) ⟨_, _, rfl, Nat.le_refl _⟩
theorem fe_at {w : World} {base p c : Nat} {L : List Fe} (o : FOwn w base (.slice (some ⟨p, 0, none⟩) 4 c) L) (i : Nat) {f : Fe} (hf : L[i]? = some f) : w.rangeAt p (i * 5) (fec f) := by
  have hi : i < L.length := (List.getElem?_eq_some_iff.1 hf).1
  obtain ⟨g, off, cap, e, R⟩ := fe_there (RecT.Own.at o) hi
  obtain ⟨g', c', e', _⟩ := own_cell o (by omega)
  injection e with e1 e2 e3
  injection e1 with e1
  injection e1 with a1 a2
  rw [← a1, ← a2, Nat.zero_add, show L[i] = f from (List.getElem?_eq_some_iff.1 hf).2] at R
  exact R
theorem eql_feL (a0 a1 a2 a3 a4 : Int) (w : World) : (binOp .eql 64 (.agg #[.int .i64 a0, .int .u8 a1, .int .u16 a2, .int .i64 a3, .int .i64 a4]) (.agg #[.int .i64 a0, .int .u8 a1, .int .u16 a2, .int .i64 a3, .int .i64 a4])).run Tryz.prog w = .ok (.bool true) w := by
  rw [run_eql_struct, equalIn_feL]; rfl
set_option maxRecDepth 100000 in
set_option maxHeartbeats 4000000 in
theorem vlives_any (w : World) : Calls Tryz.prog 25 #[] w fun e w' => e = .returned (.bool true) ∧ w.grownBy w' none := by
  have C1 := vexample_any w
  have hnq := eql_feL
  have hgq := eqg_feL
  go_enter Tryz.func25, Tryz.ntmps25
  go_wp2_with fail
  refine C1.mono ?_
  rintro e1 w1 ⟨vE, vB, vC, S, g, rfl, h1⟩
  have C2 := vof_any _ _ _ _ _ _ _ _ _ w1 h1.inn
  have HG1 : Hid (w.grownBy w1 none) := h1.gr
  obtain ⟨b, hb⟩ : ∃ b, b = w.heap.size := ⟨_, rfl⟩
  rw [← hb] at C2 ⊢
  have C3 : Calls Tryz.prog 30 #[.pointer (some ⟨b, 0, none⟩), .slice (some ⟨g, 0, none⟩) 4 4] w1 fun e w' => ∃ p c, e = .returned (.tuple #[.slice (some ⟨p, 0, none⟩) 4 c, .int .i64 0]) ∧ w1.grownBy w' none ∧ FOwn w' w1.heap.size (.slice (some ⟨p, 0, none⟩) 4 c) vxF5 := by
    refine C2.mono ?_
    rintro e w' ⟨v, rfl, g', o⟩
    rw [vx_bh vE vB vC (by decide), vx_of] at o
    obtain ⟨p, c, e1, _⟩ := own_cell o (by decide)
    subst e1
    exact ⟨p, c, by rw [vx_vk]; rfl, g', o⟩
  clear C1 C2 h1 hb
  go_wp2_with fail
  refine C3.mono ?_
  rintro e2 w2 ⟨p, c, rfl, g2, o2⟩
  have HG2 : Hid (w.grownBy w2 none) := grown_trans HG1.out g2
  have r2 := fe_at o2 2 (show vxF5[2]? = some ⟨0, 6, 0, 3, 3⟩ from rfl)
  have r3 := fe_at o2 3 (show vxF5[3]? = some ⟨1, 2, 0, 2, 2⟩ from rfl)
  obtain ⟨a0, a1, a2, a3, a4⟩ := fe_cells r2
  obtain ⟨b0, b1, b2, b3, b4⟩ := fe_cells r3
  simp only [Nat.reduceMul, Nat.reduceAdd] at a0 a1 a2 a3 a4 b0 b1 b2 b3 b4
  clear C3 g2 o2 r2 r3
  go_wp2_with fail
  go_ret
  exact ⟨rfl, HG2.out⟩
end Go.Proofs.YtmemeloehgemcaaGreat
namespace Go.Proofs.YtmemeloehgemcaaGreat
open Go.RowKit Go.Shelf

def largeB (c m t : Nat) : Bool := decide (70 < c) || (decide (40 < m) || (decide (60 < t) && decide (t ≤ 2048)))
set_option maxRecDepth 100000 in
set_option maxHeartbeats 4000000 in
theorem large_any (pc pm pt : Option Addr) (c m t kc km kt : Nat) (op : Bool) (w : World) : Calls Tryz.prog 74 #[.agg #[.slice pc c kc, .slice pm m km, .bool op], .slice pt t kt] w fun e w' => e = .returned (.bool (largeB c m t)) ∧ w.grownBy w' none := by
  obtain ⟨W, hW⟩ : ∃ W, W = w.alloc (.cells #[.slice pc c kc, .slice pm m km, .bool op] 25) := ⟨_, rfl⟩
  have HG : Hid (w.grownBy W none) := by rw [hW]; exact World.grownBy_alloc _ _ none
  have H0 : Hid (W.heap[w.heap.size]? = some (.cells #[.slice pc c kc, .slice pm m km, .bool op] 25 (0, 0))) := by rw [hW]; exact alloc_at _ _ _
  go_enter Tryz.func74, Tryz.ntmps74
  go_upto_region 1 with fail
  rw [← hW]
  obtain ⟨b0, hb0⟩ : ∃ b0, b0 = w.heap.size := ⟨_, rfl⟩
  rw [← hb0] at H0 ⊢
  clear hW hb0
  have f0 : W.cell? ⟨b0, 0, none⟩ = some (.slice pc c kc) := (block_cell H0.out 0).trans rfl
  have f1 : W.cell? ⟨b0, 1, none⟩ = some (.slice pm m km) := (block_cell H0.out 1).trans rfl
  by_cases h1 : 70 < c
  · have e1 : decide ((70 : Int) < (c : Int)) = true := decide_eq_true (by omega)
    have HE : Hid (largeB c m t = true) := by show _ = _; unfold largeB; rw [decide_eq_true h1]; rfl
    go_wp2_with fail
    go_ret
    exact ⟨by rw [HE.out]; rfl, HG.out⟩
  · have e1 : decide ((70 : Int) < (c : Int)) = false := decide_eq_false (by omega)
    by_cases h2 : 40 < m
    · have e2 : decide ((40 : Int) < (m : Int)) = true := decide_eq_true (by omega)
      have HE : Hid (largeB c m t = true) := by show _ = _; unfold largeB; rw [decide_eq_true h2, Bool.true_or, Bool.or_true]
      go_wp2_with fail
      go_ret
      exact ⟨by rw [HE.out]; rfl, HG.out⟩
    · have e2 : decide ((40 : Int) < (m : Int)) = false := decide_eq_false (by omega)
      by_cases h3 : 60 < t
      · have e3 : decide ((60 : Int) < (t : Int)) = true := decide_eq_true (by omega)
        by_cases h4 : t ≤ 2048
        · have e4 : decide ((t : Int) ≤ 2048) = true := decide_eq_true (by omega)
          have HE : Hid (largeB c m t = true) := by show _ = _; unfold largeB; rw [decide_eq_true h3, decide_eq_true h4, Bool.true_and, Bool.or_true, Bool.or_true]
          go_wp2_with fail
          go_ret
          exact ⟨by rw [HE.out]; rfl, HG.out⟩
        · have e4 : decide ((t : Int) ≤ 2048) = false := decide_eq_false (by omega)
          have HE : Hid (largeB c m t = false) := by show _ = _; unfold largeB; rw [decide_eq_false h1, decide_eq_false h2, decide_eq_false h4]; simp
          go_wp2_with fail
          go_ret
          exact ⟨by rw [HE.out]; rfl, HG.out⟩
      · have e3 : decide ((60 : Int) < (t : Int)) = false := decide_eq_false (by omega)
        have HE : Hid (largeB c m t = false) := by show _ = _; unfold largeB; rw [decide_eq_false h1, decide_eq_false h2, decide_eq_false h3]; rfl
        go_wp2_with fail
        go_ret
        exact ⟨by rw [HE.out]; rfl, HG.out⟩
structure AlR (w : World) (base b : Nat) (v : Value) (vt : Value) (ts : List Th) (es : List Ent) (p : Pl) (ok : Nat → Prop) : Prop where
  bk : Book ok w b es p
  th : thR.At w vt ts
  cap : ∃ q c, vt = .slice q ts.length c ∧ ts.length ≤ c
  few : ts.length ≤ 60
  vk : vkE (refE p ts.length) (es.length : Int) (atC p es) ts (prtF (pfB p es) (ts.take 2048)) meB = 0
  fo : FOwn w base v (vBh (refE p ts.length) (es.length : Int) (atC p es) ts (pfB p es) (mfB p) meB 6)
theorem AlR.keep {w w' : World} {base b : Nat} {v vt : Value} {ts : List Th} {es : List Ent} {p : Pl} {ok : Nat → Prop} (h : AlR w base b v vt ts es p ok) (g : w.grownBy w' none) : AlR w' base b v vt ts es p ok := ⟨h.bk.keep g, h.th.keep g, h.cap, h.few, h.vk, own_grow h.fo g⟩
theorem AlR.inn {w : World} {base b : Nat} {v vt : Value} {ts : List Th} {es : List Ent} {p : Pl} {ok : Nat → Prop} (h : AlR w base b v vt ts es p ok) : VIn w (.pointer (some ⟨b, 0, none⟩)) vt (refE p ts.length) (es.length : Int) (atC p es) ts (pfB p es) (mfB p) meB := VIn.of h.bk h.th h.cap
theorem AlR.tab {w : World} {base b : Nat} {v vt : Value} {ts : List Th} {es : List Ent} {p : Pl} {ok : Nat → Prop} (h : AlR w base b v vt ts es p ok) : ∃ R, Tab (es.length : Int) (atC p es) ts (prtF (pfB p es) ts) R := by
  obtain ⟨_, ⟨R, hR⟩, _⟩ := vkE_of h.vk
  rw [List.take_of_length_le (by have := h.few; omega)] at hR
  exact ⟨R, hR⟩
def AnPost (w : World) (vt : Value) (ts : List Th) (e : Ending) (w' : World) : Prop := w.grownBy w' none ∧ ((∃ bp q m c, e = .returned (.tuple #[.pointer bp, .slice q m c, .bool false])) ∨ ∃ b q c es p ok, e = .returned (.tuple #[.pointer (some ⟨b, 0, none⟩), .slice q ts.length c, .bool true]) ∧ AlR w' w.heap.size b (.slice q ts.length c) vt ts es p ok)
theorem vBh_len {r n : Int} {cd : Int → Hd × List Pt} {ts : List Th} {pf : Th → Fe} {mf : Fe → Th → Fe} {me : Th → Int} (h : vkE r n cd ts (prtF pf (ts.take 2048)) me = 0) (hl : ts.length ≤ 2048) : (vBh r n cd ts pf mf me 6).length = ts.length := by
  obtain ⟨_, ⟨R, hR⟩, _⟩ := vkE_of h
  rw [List.take_of_length_le hl] at hR
  rw [vBh_is h (by decide) hR]
  unfold bhL
  rw [if_pos rfl]
  unfold mkdL
  rw [List.length_zipWith, clF_len, prtF_len, Nat.min_self]
set_option maxRecDepth 100000 in
set_option maxHeartbeats 4000000 in
theorem alone_any (vc vm vt : Value) (op : Bool) (cs : List Ent) (ms : List Mk) (ts : List Th) (w : World) (FI : FiA w vc vm cs ms) (A : thR.At w vt ts) (hc : ∃ q c, vt = .slice q ts.length c ∧ ts.length ≤ c) : Calls Tryz.prog 32 #[.agg #[vc, vm, .bool op], vt] w (AnPost w vt ts) := by
  obtain ⟨pc, kc, pm, km, rfl, rfl⟩ := FI.forms
  obtain ⟨pt, ct, rfl, hcap⟩ := hc
  have Hcap : Hid (ts.length ≤ ct) := hcap
  obtain ⟨W, hW⟩ : ∃ W, W = w.alloc (.cells #[.slice pc cs.length kc, .slice pm ms.length km, .bool op] 25) := ⟨_, rfl⟩
  have HG : Hid (w.grownBy W none) := by rw [hW]; exact World.grownBy_alloc _ _ none
  have H0 : Hid (W.heap[w.heap.size]? = some (.cells #[.slice pc cs.length kc, .slice pm ms.length km, .bool op] 25 (0, 0))) := by rw [hW]; exact alloc_at _ _ _
  have HF : Hid (FiA W (.slice pc cs.length kc) (.slice pm ms.length km) cs ms ∧ thR.At W (.slice pt ts.length ct) ts) := ⟨FI.keep HG.out, A.keep HG.out⟩
  clear FI A hcap
  go_enter Tryz.func32, Tryz.ntmps32
  go_upto_region 1 with fail
  rw [← hW]
  obtain ⟨b0, hb0⟩ : ∃ b0, b0 = w.heap.size := ⟨_, rfl⟩
  rw [← hb0] at H0 ⊢
  clear hW hb0
  have C1 := large_any pc pm pt cs.length ms.length ts.length kc km ct op W
  have f0 : W.cell? ⟨b0, 0, none⟩ = some (.slice pc cs.length kc) := (block_cell H0.out 0).trans rfl
  have f1 : W.cell? ⟨b0, 1, none⟩ = some (.slice pm ms.length km) := (block_cell H0.out 1).trans rfl
  have f2 : W.cell? ⟨b0, 2, none⟩ = some (.bool op) := (block_cell H0.out 2).trans rfl
  go_wp2_with fail
  refine C1.mono ?_
  rintro e1 w1 ⟨rfl, g1⟩
  have HG1 : Hid (w.grownBy w1 none) := grown_trans HG.out g1
  have HF1 : Hid (FiA w1 (.slice pc cs.length kc) (.slice pm ms.length km) cs ms ∧ thR.At w1 (.slice pt ts.length ct) ts) := ⟨HF.out.1.keep g1, HF.out.2.keep g1⟩
  have H1 : Hid (w1.heap[b0]? = some (.cells #[.slice pc cs.length kc, .slice pm ms.length km, .bool op] 25 (0, 0))) := grown_keep g1 H0.out (by simp)
  clear C1 g1 H0 HF f0 f1 f2 HG
  obtain ⟨lb, hlb⟩ : ∃ lb, lb = largeB cs.length ms.length ts.length := ⟨_, rfl⟩
  rw [← hlb]
  clear hlb
  cases lb with
  | true =>
    go_wp2_with fail
    refine bodyPost_ret (v := .tuple #[.pointer none, .slice none 0 0, .bool false]) (by simp [results, Tryz.results32, go_sem]) rfl ⟨HG1.out, Or.inl ⟨none, none, 0, 0, rfl⟩⟩
  | false =>
    by_cases h6 : 60 < ts.length
    · have e6 : decide ((60 : Int) < (ts.length : Int)) = true := decide_eq_true (by omega)
      clear h6
      go_wp2_with fail
      refine bodyPost_ret (v := .tuple #[.pointer none, .slice none 0 0, .bool false]) (by simp [results, Tryz.results32, go_sem]) rfl ⟨HG1.out, Or.inl ⟨none, none, 0, 0, rfl⟩⟩
    · have e6 : decide ((60 : Int) < (ts.length : Int)) = false := decide_eq_false (by omega)
      have H6 : Hid (ts.length ≤ 60) := Nat.le_of_not_lt h6
      clear h6
      have C3 := books_any _ _ op cs ms w1 HF1.out.1
      unfold BoPost at C3
      have f0 : w1.cell? ⟨b0, 0, none⟩ = some (.slice pc cs.length kc) := (block_cell H1.out 0).trans rfl
      have f1 : w1.cell? ⟨b0, 1, none⟩ = some (.slice pm ms.length km) := (block_cell H1.out 1).trans rfl
      have f2 : w1.cell? ⟨b0, 2, none⟩ = some (.bool op) := (block_cell H1.out 2).trans rfl
      obtain ⟨nB, hnB⟩ : ∃ nB, nB = w1.heap.size + 1 := ⟨_, rfl⟩
      rw [← hnB] at C3
      clear hnB
      go_wp2_with fail
      refine C3.mono ?_
      rintro e3 w3 ⟨v3, es, fs3, p, rfl, P3, -, g3⟩
      have HP : Hid (Book (okB nB) w3 nB es p) := P3.book
      have HG3 : Hid (w.grownBy w3 none) := grown_trans HG1.out g3
      have HT3 : Hid (thR.At w3 (.slice pt ts.length ct) ts) := HF1.out.2.keep g3
      clear C3 P3 g3 f0 f1 f2 H1 HF1 e6
      have C4 := vof_any _ _ _ _ _ _ _ _ _ w3 (VIn.of HP.out HT3.out ⟨_, _, rfl, Hcap.out⟩)
      unfold BhPost at C4
      obtain ⟨q, hq⟩ : ∃ q, q = vkE (refE p ts.length) (es.length : Int) (atC p es) ts (prtF (pfB p es) (ts.take 2048)) meB := ⟨_, rfl⟩
      rw [← hq] at C4
      have Hq : Hid (q = vkE (refE p ts.length) (es.length : Int) (atC p es) ts (prtF (pfB p es) (ts.take 2048)) meB) := hq
      clear hq
      by_cases hq0 : q = 0
      · have Hq0 : Hid (q = 0) := hq0
        rw [hq0, show vqE 0 (decide ((0 : Int) ≤ 6 ∧ (6 : Int) ≤ 6)) 2 = 0 from rfl] at C4
        clear hq0
        go_wp2_with fail
        refine C4.mono ?_
        rintro e4 w4 ⟨v4, rfl, g4, o4⟩
        have hv := vBh_len (mf := mfB p) (Hq.out.symm.trans Hq0.out) (Nat.le_trans H6.out (by decide))
        obtain ⟨p4, c4, ev⟩ := RecT.Own.form o4
        rw [hv] at ev
        subst ev
        have HR : Hid (AlR w4 w.heap.size nB (.slice p4 ts.length c4) (.slice pt ts.length ct) ts es p (okB nB) ∧ w.grownBy w4 none) := ⟨⟨HP.out.keep g4, HT3.out.keep g4, ⟨_, _, rfl, Hcap.out⟩, H6.out, Hq.out.symm.trans Hq0.out, own_big o4 HG3.out.size⟩, grown_trans HG3.out g4⟩
        clear C4 g4 o4 hv
        go_wp2_with fail
        refine bodyPost_ret (v := .tuple #[.pointer (some ⟨nB, 0, none⟩), .slice p4 ts.length c4, .bool true]) (by simp [results, Tryz.results32, go_sem]) rfl ⟨HR.out.2, Or.inr ⟨nB, p4, c4, es, p, okB nB, rfl, HR.out.1⟩⟩
      · have hqe : (q == 0) = false := by simpa using hq0
        rw [vqE_no hq0] at C4
        clear hq0
        go_wp2_with fail
        refine C4.mono ?_
        rintro e4 w4 ⟨v4, rfl, g4, o4⟩
        obtain ⟨p4, c4, ev⟩ := RecT.Own.form o4
        subst ev
        have HG4 : Hid (w.grownBy w4 none) := grown_trans HG3.out g4
        clear C4 g4 o4
        go_wp2_with fail
        refine bodyPost_ret (v := .tuple #[.pointer (some ⟨nB, 0, none⟩), .slice p4 _ c4, .bool false]) (by simp [results, Tryz.results32, go_sem]; rfl) rfl ⟨HG4.out, Or.inl ⟨_, _, _, _, rfl⟩⟩
def ordV (v : Int) : Int := if v = 10 then 1 else if v = 11 then 2 else if v = 12 ∨ v = 13 then 3 else if v = 14 then 4 else 5
theorem ord_lay {v : Int} (h : 1 ≤ lay v) : ordV v = lay v := by
  unfold lay at h ⊢
  unfold ordV
  split
  · rfl
  · split
    · rfl
    · split
      · rfl
      · split
        · rfl
        · split
          · rfl
          · rename_i h1 h2 h3 h4 h5
            rw [if_neg h1, if_neg h2, if_neg h3, if_neg h4, if_neg h5] at h
            omega
set_option maxHeartbeats 1000000 in
theorem vorder_any (v : Int) (w : World) : Calls Tryz.prog 35 #[.int .u8 v] w fun e w' => e = .returned (.int .i64 (ordV v)) ∧ w' = w := by
  by_cases h1 : v = 10
  · subst h1
    go_enter Tryz.func35, Tryz.ntmps35
    go_wp2
    go_ret
    exact ⟨rfl, rfl⟩
  · by_cases h2 : v = 11
    · subst h2
      go_enter Tryz.func35, Tryz.ntmps35
      go_wp2
      go_ret
      exact ⟨rfl, rfl⟩
    · by_cases h3 : v = 12
      · subst h3
        go_enter Tryz.func35, Tryz.ntmps35
        go_wp2
        go_ret
        exact ⟨rfl, rfl⟩
      · by_cases h4 : v = 13
        · subst h4
          go_enter Tryz.func35, Tryz.ntmps35
          go_wp2
          go_ret
          exact ⟨rfl, rfl⟩
        · by_cases h5 : v = 14
          · subst h5
            go_enter Tryz.func35, Tryz.ntmps35
            go_wp2
            go_ret
            exact ⟨rfl, rfl⟩
          · have HO : Hid (ordV v = 5) := by show _ = _; unfold ordV; rw [if_neg h1, if_neg h2, if_neg (by omega), if_neg h5]
            have e1 : (v == 10) = false := by simpa using h1
            have e2 : (v == 11) = false := by simpa using h2
            have e3 : (v == 12) = false := by simpa using h3
            have e4 : (v == 13) = false := by simpa using h4
            have e5 : (v == 14) = false := by simpa using h5
            clear h1 h2 h3 h4 h5
            go_enter Tryz.func35, Tryz.ntmps35
            go_wp2
            go_ret
            exact ⟨by rw [HO.out]; rfl, rfl⟩
set_option maxRecDepth 100000 in
set_option maxHeartbeats 4000000 in
theorem vplain_any (bp : Option Addr) (vt : Value) (r n : Int) (cd : Int → Hd × List Pt) (ts : List Th) (pf : Th → Fe) (mf : Fe → Th → Fe) (me : Th → Int) (t : Th) (w : World) (I : VIn w (.pointer bp) vt r n cd ts pf mf me) : Calls Tryz.prog 37 #[.pointer bp, thv t] w fun e w' => e = .returned (fev (mf (pf t) t)) ∧ w.grownBy w' none := by
  obtain ⟨W, hW⟩ : ∃ W, W = (w.alloc (.cells #[.int .i64 t.card, .int .i64 t.owner, .int .u8 t.place, .int .i64 t.stamp, .int .i64 t.hurt, .int .i64 t.m0, .int .i64 t.m1, .int .i64 t.m2, .int .i64 t.m3, .int .i64 t.done, .bool t.fresh] 60)).alloc (.cells #[.int .i64 0, .int .u8 0, .int .u16 0, .int .i64 0, .int .i64 0] 64) := ⟨_, rfl⟩
  have HG : Hid (w.grownBy W none) := by rw [hW]; exact grown_push (World.grownBy_alloc _ _ none) _
  have HT : Hid (ThB W w.heap.size t) := by rw [hW]; exact alloc_two _ _ _ _ _
  have HR : Hid (FeB W (w.heap.size + 1) Fe.none) := by rw [hW]; exact alloc2_b _ _ _ _
  obtain ⟨x, C1⟩ := I.pr W t HG.out
  obtain ⟨f, hf⟩ : ∃ f, f = pf t := ⟨_, rfl⟩
  obtain ⟨f2, hf2⟩ : ∃ f2, f2 = mf f t := ⟨_, rfl⟩
  have HM : Hid (∀ X, w.grownBy X none → Calls Tryz.prog 39 #[.pointer bp, .agg #[.int .i64 f.ho, .int .u8 f.su, .int .u16 f.tr, .int .i64 f.po, .int .i64 f.he], .agg #[.int .i64 t.m0, .int .i64 t.m1, .int .i64 t.m2, .int .i64 t.m3]] X fun e w' => e = .returned (.tuple #[.agg #[.int .i64 f2.ho, .int .u8 f2.su, .int .u16 f2.tr, .int .i64 f2.po, .int .i64 f2.he], .int .i64 (me t)]) ∧ X.grownBy w' none) := fun X g => by
    have := I.mkd X f t g
    rw [← hf2] at this
    exact this
  rw [← hf] at C1 ⊢
  rw [← hf2]
  unfold thv fev at C1 ⊢
  clear I hf hf2
  go_enter Tryz.func37, Tryz.ntmps37
  go_upto_region 1 with fail
  rw [← hW]
  clear hW
  obtain ⟨n0, hn0⟩ : ∃ n0, n0 = w.heap.size := ⟨_, rfl⟩
  obtain ⟨n1, hn1⟩ : ∃ n1, n1 = n0 + 1 := ⟨_, rfl⟩
  have Hn : Hid (w.heap.size ≤ n0 ∧ w.heap.size ≤ n1) := ⟨by omega, by omega⟩
  simp only [← hn0, ← hn1] at HT HR ⊢
  clear hn0 hn1
  obtain ⟨b0, b1, b2, b3, b4, b5, b6, b7, b8, b9, b10⟩ := th_box HT.out
  go_wp2_with fail
  refine C1.mono ?_
  rintro e1 w1 ⟨rfl, g1⟩
  obtain ⟨V, hV⟩ : ∃ V, V = w1.alloc (.cells #[.int .i64 f.ho, .int .u8 f.su, .int .u16 f.tr, .int .i64 f.po, .int .i64 f.he] 64) := ⟨_, rfl⟩
  have HGV : Hid (W.grownBy V none) := by rw [hV]; exact grown_push g1 _
  have HB : Hid (FeB V w1.heap.size f ∧ n1 < w1.heap.size) := ⟨by rw [hV]; exact alloc_at _ _ _, Nat.lt_of_lt_of_le (block_lt HR.out) g1.size⟩
  have HTV : Hid (ThB V n0 t ∧ FeB V n1 Fe.none) := ⟨grown_keep HGV.out HT.out (by simp), grown_keep HGV.out HR.out (by simp)⟩
  clear C1 g1 b0 b1 b2 b3 b4 b5 b6 b7 b8 b9 b10
  go_upto_region 2 with fail
  rw [← hV]
  clear hV
  obtain ⟨n2, hn2⟩ : ∃ n2, n2 = w1.heap.size := ⟨_, rfl⟩
  rw [← hn2] at HB ⊢
  clear hn2
  have C2 := HM.out V (grown_trans HG.out HGV.out)
  obtain ⟨b0, b1, b2, b3, b4, b5, b6, b7, b8, b9, b10⟩ := th_box HTV.out.1
  obtain ⟨f0, f1, f2', f3, f4⟩ := fe_box HB.out.1
  go_wp2_with fail
  refine C2.mono ?_
  rintro e3 w3 ⟨rfl, g3⟩
  have HB3 : Hid (FeB w3 n2 f ∧ FeB w3 n1 Fe.none ∧ w.grownBy w3 none) := ⟨grown_keep g3 HB.out.1 (by simp), grown_keep g3 HTV.out.2 (by simp), grown_trans HG.out (grown_trans HGV.out g3)⟩
  clear C2 g3 b0 b1 b2 b3 b4 b5 b6 b7 b8 b9 b10 f0 f1 f2' f3 f4
  obtain ⟨f0, f1, f2', f3, f4⟩ := fe_box HB3.out.1
  have ff := fun i => block_free HB3.out.1 i
  obtain ⟨Z, hZ⟩ : ∃ Z, Z = ((((w3.setCell ⟨n2, 0, none⟩ (.int .i64 f2.ho)).setCell ⟨n2, 1, none⟩ (.int .u8 f2.su)).setCell ⟨n2, 2, none⟩ (.int .u16 f2.tr)).setCell ⟨n2, 3, none⟩ (.int .i64 f2.po)).setCell ⟨n2, 4, none⟩ (.int .i64 f2.he) := ⟨_, rfl⟩
  have HGZ : Hid (w3.grownBy Z (some n2)) := by rw [hZ]; exact grown_trans (grown_trans (grown_trans (grown_trans (grown_set _ _ _ _) (grown_set _ _ _ _)) (grown_set _ _ _ _)) (grown_set _ _ _ _)) (grown_set _ _ _ _)
  have HBZ : Hid (FeB Z n2 f2 ∧ FeB Z n1 Fe.none ∧ w.grownBy Z none) := by
    refine ⟨?_, grown_keep HGZ.out HB3.out.2.1 (fun q => by cases q; exact Nat.lt_irrefl _ HB.out.2), grown_own HB3.out.2.2 HGZ.out (fun y e => by cases e; have := Hn.out.2; have := HB.out.2; omega)⟩
    rw [hZ]
    exact block_set (block_set (block_set (block_set (block_set HB3.out.1 0 _) 1 _) 2 _) 3 _) 4 _
  go_upto_region 3 with fail
  rw [← hZ]
  clear hZ f0 f1 f2' f3 f4 ff
  obtain ⟨f0, f1, f2', f3, f4⟩ := fe_box HBZ.out.1
  obtain ⟨r0, r1, r2, r3, r4⟩ := fe_box HBZ.out.2.1
  have rf := fun i => block_free HBZ.out.2.1 i
  go_wp2_with fail
  refine bodyPost_ret (v := .agg #[.int .i64 f2.ho, .int .u8 f2.su, .int .u16 f2.tr, .int .i64 f2.po, .int .i64 f2.he]) (by simp [results, Tryz.results37, go_sem, r0, r1, r2, r3, r4]) rfl ⟨rfl, ?_⟩
  have k : ∀ {v : World} (i : Nat) (u : Value), w.grownBy v none → w.grownBy (v.setCell ⟨n1, i, none⟩ u) none := fun i u q => grown_own q (grown_set _ _ _ _) (fun y e => by cases e; exact Hn.out.2)
  exact k _ _ (k _ _ (k _ _ (k _ _ (k _ _ HBZ.out.2.2))))
end Go.Proofs.YtmemeloehgemcaaGreat
