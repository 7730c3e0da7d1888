/-
  View's laws: the chapter's examples, plainly; what view is asked of, of a book, of none.
  View's laws: lives.
  ViewNil: what is answered of no book.
-/
import Derived.Test.YtmemeloehgemcaaGreatV41
import Derived.Test.YtmemeloehgemcaaGreatVxB
import Derived.Test.YtmemeloehgemcaaGreatV39
import Derived.Test.YtmemeloehgemcaaGreatV36
namespace Go.Proofs.YtmemeloehgemcaaGreat
open Go.RowKit Go.Shelf

def pfB (p : Pl) (es : List Ent) (t : Th) : Fe := ptF (atC p es t.card).1 (atX p es t.card) t
def okT (t : Th) : Bool := okcs t.m0 t.m1 t.m2 t.m3
def mfB (p : Pl) (f : Fe) (t : Th) : Fe := if okT t then mkdF p f t.m0 t.m1 t.m2 t.m3 else Fe.none
def meB (t : Th) : Int := if okT t then 0 else 2
theorem VIn.of {ok : Nat → Prop} {w : World} {b : Nat} {es : List Ent} {p : Pl} {vt : Value} {ts : List Th} (B : Book ok w b es p) (A : thR.At w vt ts) (hc : ∃ q c, vt = .slice q ts.length c ∧ ts.length ≤ c) : VIn w (.pointer (some ⟨b, 0, none⟩)) vt (refE p ts.length) (es.length : Int) (atC p es) ts (pfB p es) (mfB p) meB := by
  refine ⟨fun X vf fs g F hf => LIn.of (B.keep g) (A.keep g) F hf, fun X t g => ⟨_, tprinted_of _ t _ _ _ X fun Y q => tcard_book ok b es p t Y ((B.keep g).keep q)⟩, fun X f t g => ?_, fun h => ?_, A, hc⟩
  · unfold mfB meB okT
    cases ho : okcs t.m0 t.m1 t.m2 t.m3 with
    | true => exact marked_yes ok b es p f t.m0 t.m1 t.m2 t.m3 X (B.keep g) ho
    | false => exact marked_no ok b es p f t.m0 t.m1 t.m2 t.m3 X (B.keep g) ho
  · unfold refE at h
    split at h
    · cases h
    · omega
theorem VIn.no {w : World} {bp : Option Addr} {vt : Value} {ts : List Th} (B : NoBk w (.pointer bp)) (A : thR.At w vt ts) (hc : ∃ q c, vt = .slice q ts.length c ∧ ts.length ≤ c) : VIn w (.pointer bp) vt 1 0 (fun _ => (Hd.none, [])) ts (fun t => ptF Hd.none 1 t) (fun _ _ => Fe.none) (fun _ => 1) :=
  ⟨fun X vf fs g F _ => LIn.no (B.keep g) (A.keep g) F, fun X t g => ⟨_, tprinted_of _ t Hd.none [] 1 X fun Y q => tcard_none _ t Y ((B.keep g).keep q)⟩, fun X f t g => marked_nil _ f _ _ _ _ X (B.keep g), fun h => absurd h (by decide), A, hc⟩
theorem no_vk (ts : List Th) (fs : List Fe) (me : Th → Int) : vkE 1 0 (fun _ => (Hd.none, [])) ts fs me = 1 := by
  have h : bgE 1 0 (fun _ => (Hd.none, [])) ts fs 5 = 1 := by
    unfold bgE
    rw [lkE_no (by decide), if_neg (by decide)]
  rw [vkE_no (by rw [h]; decide), h]
theorem own_cap {w : World} {base e size n : Nat} {v : Value} {xs : List Value} (h : w.ownsRow base e size v n xs) : ∃ q c, v = .slice q n c ∧ n ≤ c := by
  obtain ⟨_, q⟩ := h
  rcases q with ⟨e1, e2⟩ | ⟨g, cap, cur, e1, _, _, h4, _⟩
  · exact ⟨none, 0, by rw [e1, e2], by omega⟩
  · exact ⟨_, _, e1, h4⟩
/-- The example, plainly. -/
def vxRw : List Rw := [⟨1, 1, exC, [exCp]⟩, ⟨2, 2, vxB, [exBp]⟩, ⟨3, 3, exE, []⟩, ⟨4, 4, exE, []⟩]
def vxF0 : List Fe := [⟨0, 6, 0, 0, 0⟩, ⟨0, 5, 0, 0, 0⟩, ⟨0, 2, 0, 2, 2⟩, ⟨1, 2, 0, 2, 2⟩]
def vxF2 : List Fe := [⟨0, 6, 0, 0, 0⟩, ⟨0, 5, 0, 0, 0⟩, ⟨0, 6, 0, 2, 2⟩, ⟨1, 2, 0, 2, 2⟩]
def vxF5 : List Fe := [⟨0, 6, 0, 0, 0⟩, ⟨0, 5, 0, 0, 0⟩, ⟨0, 6, 0, 3, 3⟩, ⟨1, 2, 0, 2, 2⟩]
theorem vx_prt (vE vB vC : Value) : prtF (pfB vxP (vxES vE vB vC)) vxT = vxF0 := by kernel_rfl
theorem vx_sort : sortR vxRw = vxRw := List.mergeSort_of_pairwise (by unfold vxRw; simp)
theorem vx_tab (vE vB vC : Value) : tabR 3 (atC vxP (vxES vE vB vC)) vxT vxF0 = some vxRw := by
  unfold tabR
  rw [if_pos (show vxT.length = vxF0.length from rfl), show layF 3 (atC vxP (vxES vE vB vC)) (vxT.zip vxF0) 0 [] = some vxRw from by kernel_rfl]
  simp only [vx_sort]
  rfl
theorem vx_st : stU vxRw vxF0 5 = [⟨⟨2, 0, exBp⟩, 1⟩, ⟨⟨1, 0, exCp⟩, 0⟩] := by kernel_rfl
theorem vx_wh3 : whU vxRw 3 vxF0 5 = [⟨⟨2, 0, exBp⟩, 1⟩, ⟨⟨1, 0, exCp⟩, 0⟩] := by kernel_rfl
theorem vx_wh4 : whU vxRw 4 vxF0 5 = [] := by kernel_rfl
theorem vx_wh1 : whU vxRw 1 vxF0 5 = [] := by kernel_rfl
end Go.Proofs.YtmemeloehgemcaaGreat
namespace Go.Proofs.YtmemeloehgemcaaGreat
open Go.RowKit Go.Shelf

theorem vx_vk (vE vB vC : Value) : vkE (refE vxP vxT.length) ((vxES vE vB vC).length : Int) (atC vxP (vxES vE vB vC)) vxT (prtF (pfB vxP (vxES vE vB vC)) (vxT.take 2048)) meB = 0 := by
  rw [List.take_of_length_le (by decide), vx_prt, show refE vxP vxT.length = 0 from by kernel_rfl, show (((vxES vE vB vC).length : Nat) : Int) = 3 from rfl, vkE_yes (bgE_ok (vx_tab vE vB vC) (by decide))]
  kernel_rfl
theorem vx_Tab (vE vB vC : Value) : Tab ((vxES vE vB vC).length : Int) (atC vxP (vxES vE vB vC)) vxT (prtF (pfB vxP (vxES vE vB vC)) vxT) vxRw := by
  rw [vx_prt]
  exact Tab.of (vx_tab vE vB vC)
theorem vx_bh (vE vB vC : Value) {k : Int} (hk : 0 ≤ k ∧ k ≤ 6) : vBh (refE vxP vxT.length) ((vxES vE vB vC).length : Int) (atC vxP (vxES vE vB vC)) vxT (pfB vxP (vxES vE vB vC)) (mfB vxP) meB k = bhL vxRw (mfB vxP) vxT vxF0 k := by
  rw [vBh_is (vx_vk vE vB vC) hk (vx_Tab vE vB vC), vx_prt]
theorem vx_of : bhL vxRw (mfB vxP) vxT vxF0 6 = vxF5 := by kernel_rfl
theorem vx_bh2 : bhL vxRw (mfB vxP) vxT vxF0 2 = vxF2 := by kernel_rfl
theorem vx_bh0 : bhL vxRw (mfB vxP) vxT vxF0 0 = vxF0 := by kernel_rfl
theorem vx_bh5 : bhL vxRw (mfB vxP) vxT vxF0 5 = vxF5 := by kernel_rfl
theorem VxR.inn {w wr : World} {b S g : Nat} {vE vB vC : Value} (h : VxR w wr b S g vE vB vC) : VIn wr (.pointer (some ⟨b, 0, none⟩)) (.slice (some ⟨g, 0, none⟩) 4 4) (refE vxP vxT.length) ((vxES vE vB vC).length : Int) (atC vxP (vxES vE vB vC)) vxT (pfB vxP (vxES vE vB vC)) (mfB vxP) meB := VIn.of h.bk (RecT.Own.at h.th) ⟨_, _, rfl, Nat.le_refl _⟩
/-- Behind, of the example. -/
theorem vx_behind {w wr : World} {b S g : Nat} {vE vB vC : Value} (h : VxR w wr b S g vE vB vC) (k : Int) (hk : 0 ≤ k ∧ k ≤ 6) (L : List Fe) (hL : bhL vxRw (mfB vxP) vxT vxF0 k = L) (h4 : L.length = 4) : Calls Tryz.prog 26 #[.pointer (some ⟨b, 0, none⟩), .slice (some ⟨g, 0, none⟩) 4 4, .int .i64 k] wr fun e w' => ∃ p c, e = .returned (.tuple #[.slice (some ⟨p, 0, none⟩) 4 c, .int .i64 0]) ∧ wr.grownBy w' none ∧ FOwn w' wr.heap.size (.slice (some ⟨p, 0, none⟩) 4 c) L := by
  refine (vbehind_any _ _ _ _ _ _ _ _ _ k wr h.inn).mono ?_
  rintro e w' ⟨v, rfl, g', o⟩
  rw [vx_bh vE vB vC hk, hL] at o
  obtain ⟨p, c, e1, _⟩ := own_cell o (by omega)
  rw [h4] at e1
  subst e1
  exact ⟨p, c, by rw [vx_vk, decide_eq_true hk]; rfl, g', o⟩
theorem fe_at {w : World} {base p c : Nat} {L : List Fe} (o : FOwn w base (.slice (some ⟨p, 0, none⟩) 4 c) L) (i : Nat) {f : Fe} (hf : L[i]? = some f) : w.rangeAt p (i * 5) (fec f) := by
  have hi : i < L.length := (List.getElem?_eq_some_iff.1 hf).1
  obtain ⟨g, off, cap, e, R⟩ := fe_there (RecT.Own.at o) hi
  obtain ⟨g', c', e', _⟩ := own_cell o (by omega)
  injection e with e1 e2 e3
  injection e1 with e1
  injection e1 with a1 a2
  rw [← a1, ← a2, Nat.zero_add, show L[i] = f from (List.getElem?_eq_some_iff.1 hf).2] at R
  exact R
theorem eql_feL (a0 a1 a2 a3 a4 : Int) (w : World) : (binOp .eql 64 (.agg #[.int .i64 a0, .int .u8 a1, .int .u16 a2, .int .i64 a3, .int .i64 a4]) (.agg #[.int .i64 a0, .int .u8 a1, .int .u16 a2, .int .i64 a3, .int .i64 a4])).run Tryz.prog w = .ok (.bool true) w := by
  rw [run_eql_struct, equalIn_feL]; rfl
set_option maxRecDepth 100000 in
set_option maxHeartbeats 4000000 in
theorem vlives_any (w : World) : Calls Tryz.prog 25 #[] w fun e w' => e = .returned (.bool true) ∧ w.grownBy w' none := by
  have C1 := vexample_any w
  have hnq := eql_feL
  have hgq := eqg_feL
  go_enter Tryz.func25, Tryz.ntmps25
  go_wp2_with fail
  refine C1.mono ?_
  rintro e1 w1 ⟨vE, vB, vC, S, g, rfl, h1⟩
  have C2 := vof_any _ _ _ _ _ _ _ _ _ w1 h1.inn
  have HG1 : Hid (w.grownBy w1 none) := h1.gr
  obtain ⟨b, hb⟩ : ∃ b, b = w.heap.size := ⟨_, rfl⟩
  rw [← hb] at C2 ⊢
  have C3 : Calls Tryz.prog 30 #[.pointer (some ⟨b, 0, none⟩), .slice (some ⟨g, 0, none⟩) 4 4] w1 fun e w' => ∃ p c, e = .returned (.tuple #[.slice (some ⟨p, 0, none⟩) 4 c, .int .i64 0]) ∧ w1.grownBy w' none ∧ FOwn w' w1.heap.size (.slice (some ⟨p, 0, none⟩) 4 c) vxF5 := by
    refine C2.mono ?_
    rintro e w' ⟨v, rfl, g', o⟩
    rw [vx_bh vE vB vC (by decide), vx_of] at o
    obtain ⟨p, c, e1, _⟩ := own_cell o (by decide)
    subst e1
    exact ⟨p, c, by rw [vx_vk]; rfl, g', o⟩
  clear C1 C2 h1 hb
  go_wp2_with fail
  refine C3.mono ?_
  rintro e2 w2 ⟨p, c, rfl, g2, o2⟩
  have HG2 : Hid (w.grownBy w2 none) := grown_trans HG1.out g2
  have r2 := fe_at o2 2 (show vxF5[2]? = some ⟨0, 6, 0, 3, 3⟩ from rfl)
  have r3 := fe_at o2 3 (show vxF5[3]? = some ⟨1, 2, 0, 2, 2⟩ from rfl)
  obtain ⟨a0, a1, a2, a3, a4⟩ := fe_cells r2
  obtain ⟨b0, b1, b2, b3, b4⟩ := fe_cells r3
  simp only [Nat.reduceMul, Nat.reduceAdd] at a0 a1 a2 a3 a4 b0 b1 b2 b3 b4
  clear C3 g2 o2 r2 r3
  go_wp2_with fail
  go_ret
  exact ⟨rfl, HG2.out⟩
end Go.Proofs.YtmemeloehgemcaaGreat
namespace Go.Proofs.YtmemeloehgemcaaGreat
open Go.RowKit Go.Shelf Go.Deep

theorem zeroB_noV (w : World) : NoBk (w.alloc (.cells Tryz.zeroCells97 97)) (.pointer (some ⟨w.heap.size, 0, none⟩)) := Or.inr ⟨_, rfl, by rw [block_cell (alloc_at w Tryz.zeroCells97 _)]; kernel_rfl⟩
theorem bh_no {w w' : World} {ts : List Th} {pf : Th → Fe} {mf : Fe → Th → Fe} {me : Th → Int} {k : Int} {e : Ending} (h : BhPost w 1 0 (fun _ => (Hd.none, [])) ts pf mf me k e w') : ∃ p c, e = .returned (.tuple #[.slice p 0 c, .int .i64 1]) ∧ w.grownBy w' none := by
  obtain ⟨v, e1, g, o⟩ := h
  have hq : vqE (vkE 1 0 (fun _ => (Hd.none, [])) ts (prtF pf (ts.take 2048)) me) (decide (0 ≤ k ∧ k ≤ 6)) 2 = 1 := by rw [no_vk, vqE_no (by decide)]
  rw [hq] at e1
  rw [vBh_no (by rw [hq]; decide)] at o
  obtain ⟨p, c, rfl⟩ := RecT.Own.form o
  exact ⟨p, c, e1, g⟩
theorem st_no {w w' : World} {ts : List Th} {pf : Th → Fe} {me : Th → Int} {e : Ending} (h : StPost w 1 0 (fun _ => (Hd.none, [])) ts pf me e w') : ∃ p c, e = .returned (.tuple #[.slice p 0 c, .int .i64 1]) ∧ w.grownBy w' none := by
  obtain ⟨v, e1, g, o⟩ := h
  rw [no_vk] at e1
  rw [vSt_no (by rw [no_vk]; decide)] at o
  obtain ⟨p, c, rfl⟩ := RecT.Own.form o
  exact ⟨p, c, e1, g⟩
theorem wh_no {w w' : World} {ts : List Th} {pf : Th → Fe} {me : Th → Int} {x : Int} {e : Ending} (h : WhPost w 1 0 (fun _ => (Hd.none, [])) ts pf me x e w') : ∃ p c, e = .returned (.tuple #[.slice p 0 c, .int .i64 1]) ∧ w.grownBy w' none := by
  obtain ⟨v, e1, g, o⟩ := h
  have hq : vqE (vkE 1 0 (fun _ => (Hd.none, [])) ts (prtF pf (ts.take 2048)) me) (onT ts x) 6 = 1 := by rw [no_vk, vqE_no (by decide)]
  rw [hq] at e1
  rw [vWh_no (by rw [hq]; decide)] at o
  obtain ⟨p, c, rfl⟩ := RecT.Own.form o
  exact ⟨p, c, e1, g⟩
/-- What stands while no book is asked. -/
structure NvS (w wr : World) (bb z : Nat) (vt : Value) (ts : List Th) : Prop where
  bx : wr.heap[bb]? = some (.cells #[.pointer none, .pointer (some ⟨z, 0, none⟩)] 32 (0, 0))
  zb : NoBk wr (.pointer (some ⟨z, 0, none⟩))
  th : thR.At wr vt ts
  gr : w.grownBy wr none
theorem NvS.keep {w wr w' : World} {bb z : Nat} {vt : Value} {ts : List Th} (h : NvS w wr bb z vt ts) (g : wr.grownBy w' none) : NvS w w' bb z vt ts := ⟨grown_keep g h.bx (by simp), h.zb.keep g, h.th.keep g, grown_trans h.gr g⟩
set_option maxRecDepth 100000 in
set_option maxHeartbeats 4000000 in
theorem viewNil_any (vt : Value) (ts : List Th) (k x : Int) (w : World) (A : thR.At w vt ts) (hc : ∃ q c, vt = .slice q ts.length c ∧ ts.length ≤ c) : Calls Tryz.prog 6 #[vt, .int .i64 k, .int .i64 x] w fun e w' => e = .returned (.bool true) ∧ w.grownBy w' none := by
  have NZ : Hid (∀ w : World, NoBk (w.alloc (.cells Tryz.zeroCells97 97)) (.pointer (some ⟨w.heap.size, 0, none⟩))) := zeroB_noV
  obtain ⟨pt, ct, rfl, hcap⟩ := hc
  have Hcap : Hid (ts.length ≤ ct) := hcap
  obtain ⟨W1, hW1⟩ : ∃ W1, W1 = (w.alloc (.cells Tryz.zeroCells97 97)).alloc (.cells #[.pointer none, .pointer (some ⟨w.heap.size, 0, none⟩)] 32) := ⟨_, rfl⟩
  have HS : Hid (NvS w W1 (w.heap.size + 1) w.heap.size (.slice pt ts.length ct) ts) := by
    have g : w.grownBy W1 none := by rw [hW1]; exact grown_push (World.grownBy_alloc _ _ none) _
    exact ⟨by rw [hW1]; exact alloc2_b _ _ _ _, by rw [hW1]; exact (NZ.out w).keep (World.grownBy_alloc _ _ none), A.keep g, g⟩
  clear A hcap NZ
  go_enter Tryz.func6, Tryz.ntmps6
  go_upto_region 2 with fail
  rw [← hW1]
  clear hW1
  obtain ⟨z, hz⟩ : ∃ z, z = w.heap.size := ⟨_, rfl⟩
  obtain ⟨bb, hbb⟩ : ∃ bb, bb = z + 1 := ⟨_, rfl⟩
  simp only [← hz, ← hbb] at HS ⊢
  clear hz hbb
  go_wp2_with fail
  go_loopw [8, 9, 10, 11, 12, 13, 14, 15, 16] (fun i _ _ _ _ _ _ _ _ wr => ∃ (j : Nat), j ≤ 2 ∧ i = .int .i64 (j : Int) ∧ Hid (NvS w wr bb z (.slice pt ts.length ct) ts)) (fun i _ _ _ _ _ _ _ _ _ => 2 - (intOf i).toNat)
  case atStart => exact ⟨0, by decide, rfl, HS⟩
  case round =>
    clear HS
    obtain ⟨j, hj, rfl, HS⟩ := hrel
    obtain ⟨U, hU⟩ : ∃ U, U = wr := ⟨_, rfl⟩
    subst hU
    have hj' : j = 0 ∨ j = 1 ∨ j = 2 := by omega
    clear hj
    rcases hj' with rfl | rfl | rfl
    · have C0 := (vof_any none (.slice pt ts.length ct) 1 0 (fun _ => (Hd.none, [])) ts (fun t => ptF Hd.none 1 t) (fun _ _ => Fe.none) (fun _ => 1) U (VIn.no (Or.inl rfl) HS.out.th ⟨_, _, rfl, Hcap.out⟩)).mono fun e w' q => bh_no q
      have x0 : U.cell? ⟨bb, 0, none⟩ = some (.pointer none) := (block_cell HS.out.bx 0).trans rfl
      go_wp2_with fail
      refine C0.mono ?_
      rintro e0 y0 ⟨p0, c0, rfl, g0⟩
      have HS0 : Hid (NvS w y0 bb z (.slice pt ts.length ct) ts) := HS.out.keep g0
      clear C0 g0 x0 HS
      have C1 := (vbehind_any none (.slice pt ts.length ct) 1 0 (fun _ => (Hd.none, [])) ts (fun t => ptF Hd.none 1 t) (fun _ _ => Fe.none) (fun _ => 1) k y0 (VIn.no (Or.inl rfl) HS0.out.th ⟨_, _, rfl, Hcap.out⟩)).mono fun e w' q => bh_no q
      have x1 : y0.cell? ⟨bb, 0, none⟩ = some (.pointer none) := (block_cell HS0.out.bx 0).trans rfl
      go_wp2_with fail
      refine C1.mono ?_
      rintro e1 y1 ⟨p1, c1, rfl, g1⟩
      have HS1 : Hid (NvS w y1 bb z (.slice pt ts.length ct) ts) := HS0.out.keep g1
      clear C1 g1 x1 HS0
      have C2 := (vsteps_any none (.slice pt ts.length ct) 1 0 (fun _ => (Hd.none, [])) ts (fun t => ptF Hd.none 1 t) (fun _ _ => Fe.none) (fun _ => 1) y1 (VIn.no (Or.inl rfl) HS1.out.th ⟨_, _, rfl, Hcap.out⟩)).mono fun e w' q => st_no q
      have x2 : y1.cell? ⟨bb, 0, none⟩ = some (.pointer none) := (block_cell HS1.out.bx 0).trans rfl
      go_wp2_with fail
      refine C2.mono ?_
      rintro e2 y2 ⟨p2, c2, rfl, g2⟩
      have HS2 : Hid (NvS w y2 bb z (.slice pt ts.length ct) ts) := HS1.out.keep g2
      clear C2 g2 x2 HS1
      have C3 := (vwhy_any none (.slice pt ts.length ct) 1 0 (fun _ => (Hd.none, [])) ts (fun t => ptF Hd.none 1 t) (fun _ _ => Fe.none) (fun _ => 1) x y2 (VIn.no (Or.inl rfl) HS2.out.th ⟨_, _, rfl, Hcap.out⟩)).mono fun e w' q => wh_no q
      have x3 : y2.cell? ⟨bb, 0, none⟩ = some (.pointer none) := (block_cell HS2.out.bx 0).trans rfl
      go_wp2_with fail
      refine C3.mono ?_
      rintro e3 y3 ⟨p3, c3, rfl, g3⟩
      have HS3 : Hid (NvS w y3 bb z (.slice pt ts.length ct) ts) := HS2.out.keep g3
      clear C3 g3 x3 HS2
      go_wp2_with fail
      go_roundw
      case rel => exact ⟨1, by decide, rfl, HS3⟩
      case measure => decide
    · have C0 := (vof_any (some ⟨z, 0, none⟩) (.slice pt ts.length ct) 1 0 (fun _ => (Hd.none, [])) ts (fun t => ptF Hd.none 1 t) (fun _ _ => Fe.none) (fun _ => 1) U (VIn.no (HS.out.zb) HS.out.th ⟨_, _, rfl, Hcap.out⟩)).mono fun e w' q => bh_no q
      have x0 : U.cell? ⟨bb, 1, none⟩ = some (.pointer (some ⟨z, 0, none⟩)) := (block_cell HS.out.bx 1).trans rfl
      go_wp2_with fail
      refine C0.mono ?_
      rintro e0 y0 ⟨p0, c0, rfl, g0⟩
      have HS0 : Hid (NvS w y0 bb z (.slice pt ts.length ct) ts) := HS.out.keep g0
      clear C0 g0 x0 HS
      have C1 := (vbehind_any (some ⟨z, 0, none⟩) (.slice pt ts.length ct) 1 0 (fun _ => (Hd.none, [])) ts (fun t => ptF Hd.none 1 t) (fun _ _ => Fe.none) (fun _ => 1) k y0 (VIn.no (HS0.out.zb) HS0.out.th ⟨_, _, rfl, Hcap.out⟩)).mono fun e w' q => bh_no q
      have x1 : y0.cell? ⟨bb, 1, none⟩ = some (.pointer (some ⟨z, 0, none⟩)) := (block_cell HS0.out.bx 1).trans rfl
      go_wp2_with fail
      refine C1.mono ?_
      rintro e1 y1 ⟨p1, c1, rfl, g1⟩
      have HS1 : Hid (NvS w y1 bb z (.slice pt ts.length ct) ts) := HS0.out.keep g1
      clear C1 g1 x1 HS0
      have C2 := (vsteps_any (some ⟨z, 0, none⟩) (.slice pt ts.length ct) 1 0 (fun _ => (Hd.none, [])) ts (fun t => ptF Hd.none 1 t) (fun _ _ => Fe.none) (fun _ => 1) y1 (VIn.no (HS1.out.zb) HS1.out.th ⟨_, _, rfl, Hcap.out⟩)).mono fun e w' q => st_no q
      have x2 : y1.cell? ⟨bb, 1, none⟩ = some (.pointer (some ⟨z, 0, none⟩)) := (block_cell HS1.out.bx 1).trans rfl
      go_wp2_with fail
      refine C2.mono ?_
      rintro e2 y2 ⟨p2, c2, rfl, g2⟩
      have HS2 : Hid (NvS w y2 bb z (.slice pt ts.length ct) ts) := HS1.out.keep g2
      clear C2 g2 x2 HS1
      have C3 := (vwhy_any (some ⟨z, 0, none⟩) (.slice pt ts.length ct) 1 0 (fun _ => (Hd.none, [])) ts (fun t => ptF Hd.none 1 t) (fun _ _ => Fe.none) (fun _ => 1) x y2 (VIn.no (HS2.out.zb) HS2.out.th ⟨_, _, rfl, Hcap.out⟩)).mono fun e w' q => wh_no q
      have x3 : y2.cell? ⟨bb, 1, none⟩ = some (.pointer (some ⟨z, 0, none⟩)) := (block_cell HS2.out.bx 1).trans rfl
      go_wp2_with fail
      refine C3.mono ?_
      rintro e3 y3 ⟨p3, c3, rfl, g3⟩
      have HS3 : Hid (NvS w y3 bb z (.slice pt ts.length ct) ts) := HS2.out.keep g3
      clear C3 g3 x3 HS2
      go_wp2_with fail
      go_roundw
      case rel => exact ⟨2, by decide, rfl, HS3⟩
      case measure => decide
    · have C := vlives_any U
      have HG : Hid (w.grownBy U none) := HS.out.gr
      go_wp2_with fail
      refine C.mono ?_
      rintro e2 w2 ⟨rfl, g2⟩
      have HG2 : Hid (w.grownBy w2 none) := grown_trans HG.out g2
      clear C g2
      go_wp2_with fail
      go_ret
      exact ⟨rfl, HG2.out⟩
theorem recs_cap {α : Type} (R : RecT α) {T E : TypeId} (hu : Tryz.prog.underlying T = some (.slice E)) {H : Type} {enc : TypeId × Value → H} {w : World} {base : Nat} {sp : Nat → Bool} {held : Bool} {fuel : Nat} {v : Value} {x : DataW H × List MemPlace} (h : DataW.trod enc Tryz.prog w base sp held fuel T [v] = some x) {l : List α} (hA : R.At w v l) : ∃ q c, v = .slice q l.length c ∧ l.length ≤ c := by
  obtain ⟨p, c, e⟩ := hA.form
  rcases open_slice hu h with ⟨hcs, _⟩ | ⟨a, len, cp, m, f, D, Pl, hcs, _, hl, hm, hmm, hxx, hx⟩
  · simp at hcs
    rw [e] at hcs
    injection hcs with _ e2 e3
    exact ⟨p, c, e, by omega⟩
  · simp at hcs
    rw [e] at hcs
    injection hcs with _ e2 e3
    exact ⟨p, c, e, by omega⟩
theorem open_things {H : Type} {enc : TypeId × Value → H} {w : World} {base : Nat} {sp : Nat → Bool} {held : Bool} {v : Value} {x : DataW H × List MemPlace} (h : ∃ fuel, DataW.trod enc Tryz.prog w base sp held fuel 26 [v] = some x) : ∃ ts, thR.At w v ts ∧ ∃ q c, v = .slice q ts.length c ∧ ts.length ≤ c := by
  obtain ⟨fuel, hf⟩ := h
  haveI : Inhabited Th := ⟨⟨0, 0, 0, 0, 0, 0, 0, 0, 0, 0, false⟩⟩
  obtain ⟨ts, hT⟩ := recs_open thR Tryz.underlying26 cOfTh (fun a b => thing_cells a b) hf
  exact ⟨ts, hT, recs_cap thR Tryz.underlying26 hf hT⟩
end Go.Proofs.YtmemeloehgemcaaGreat
