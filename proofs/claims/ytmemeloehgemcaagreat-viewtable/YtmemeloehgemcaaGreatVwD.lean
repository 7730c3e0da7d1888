/-
  View: the closure that tells one layer more each time.
-/
import Derived.Test.YtmemeloehgemcaaGreatT37
import Derived.Test.YtmemeloehgemcaaGreatLzB
namespace Go.Proofs.YtmemeloehgemcaaGreat
open Go.RowKit Go.Shelf

structure ClB (w : World) (gk gf gs : Nat) (bp : Option Addr) (vt vp : Value) (k : Int) (vf : Value) : Prop where
  kb : w.heap[gk]? = some (.cells #[.int .i64 k] 3 (0, 0))
  fb : w.heap[gf]? = some (.cells #[vf] 27 (0, 0))
  sb : ScB w gs bp vt vp
theorem ClB.keep {w w' : World} {gk gf gs : Nat} {bp : Option Addr} {vt vp vf : Value} {k : Int} (h : ClB w gk gf gs bp vt vp k vf) (g : w.grownBy w' none) : ClB w' gk gf gs bp vt vp k vf := ⟨grown_keep g h.kb (by simp), grown_keep g h.fb (by simp), grown_keep g h.sb (by simp)⟩
def FlB (w : World) (g : Nat) (a b c : Value) : Prop := w.heap[g]? = some (.cells #[a, b, c] 150 (0, 0))
theorem fl_box {w : World} {g : Nat} {a b c : Value} (h : FlB w g a b c) : w.cell? ⟨g, 0, none⟩ = some a ∧ w.cell? ⟨g, 1, none⟩ = some b ∧ w.cell? ⟨g, 2, none⟩ = some c := ⟨(block_cell h 0).trans rfl, (block_cell h 1).trans rfl, (block_cell h 2).trans rfl⟩
theorem fl_set {w : World} {g : Nat} {a b c x y : Value} (h : FlB w g a b c) : FlB ((w.setCell ⟨g, 2, none⟩ x).setCell ⟨g, 1, none⟩ y) g a y x := by
  have h1 := block_set h 2 x
  exact block_set h1 1 y
theorem clb_one {W : World} {gs : Nat} {bp : Option Addr} {vt vp : Value} (h : ScB W gs bp vt vp) (k : Int) (vf : Value) : ClB ((W.alloc (.cells #[.int .i64 k] 3)).alloc (.cells #[vf] 27)) W.heap.size (W.heap.size + 1) gs bp vt vp k vf := ⟨alloc_two _ _ _ _ _, alloc2_b _ _ _ _, grown_keep (grown_push (World.grownBy_alloc _ _ none) _) h (by simp)⟩
theorem clb_two {W : World} {gs : Nat} {bp : Option Addr} {vt vp : Value} (h : ScB W gs bp vt vp) (k : Int) (vf : Value) : ClB ((W.alloc (.cells #[vf] 27)).alloc (.cells #[.int .i64 k] 3)) (W.heap.size + 1) W.heap.size gs bp vt vp k vf := ⟨alloc2_b _ _ _ _, alloc_two _ _ _ _ _, grown_keep (grown_push (World.grownBy_alloc _ _ none) _) h (by simp)⟩
def clV (gk gf gs : Nat) : Value := .func (.func 113) #[] #[.pointer (some ⟨gk, 0, none⟩), .pointer (some ⟨gf, 0, none⟩), .pointer (some ⟨gs, 0, none⟩)]
set_option maxRecDepth 100000 in
set_option maxHeartbeats 4000000 in
theorem vclimber_any (bp pt pp : Option Addr) (nt ct np cp : Nat) (w : World) : Calls Tryz.prog 70 #[.agg #[.pointer bp, .slice pt nt ct, .slice pp np cp]] w fun e w' => ∃ gk gf gs, e = .returned (clV gk gf gs) ∧ ClB w' gk gf gs bp (.slice pt nt ct) (.slice pp np cp) 0 (.slice pp np cp) ∧ w.grownBy w' none ∧ w.heap.size ≤ gk ∧ w.heap.size ≤ gf := by
  have hmf : ∀ (fn : Fn) (first cap : Array Value) (w : World), (Instr.makeFunc fn first cap).run Tryz.prog w = .ok (.func fn first cap) w := fun _ _ _ _ => rfl
  obtain ⟨W1, hW1⟩ : ∃ W1, W1 = w.alloc (.cells #[.pointer bp, .slice pt nt ct, .slice pp np cp] 144) := ⟨_, rfl⟩
  have HG1 : Hid (w.grownBy W1 none) := by rw [hW1]; exact World.grownBy_alloc _ _ none
  have HS1 : Hid (ScB W1 w.heap.size bp (.slice pt nt ct) (.slice pp np cp)) := by rw [hW1]; exact alloc_at _ _ _
  unfold clV
  go_enter Tryz.func70, Tryz.ntmps70
  go_upto_region 1 with fail
  rw [← hW1]
  clear hW1
  obtain ⟨n0, hn0⟩ : ∃ n0, n0 = w.heap.size := ⟨_, rfl⟩
  simp only [← hn0] at HS1 ⊢
  have Hn0 : Hid (n0 = w.heap.size ∧ w.heap.size ≤ W1.heap.size) := ⟨hn0, HG1.out.size⟩
  clear hn0
  obtain ⟨s0, s1, s2⟩ := sc_box HS1.out
  have a1 : ∀ o, (W1.alloc o).cell? ⟨n0, 2, none⟩ = some (.slice pp np cp) := fun o => (World.grownBy_alloc W1 o none).cell s2 (by simp)
  have a2 : ∀ o o', ((W1.alloc o).alloc o').cell? ⟨n0, 2, none⟩ = some (.slice pp np cp) := fun o o' => (World.grownBy_alloc (W1.alloc o) o' none).cell (a1 o) (by simp)
  go_region
  all_goals (try go_wp2_with fail)
  · go_ret
    exact ⟨_, _, _, rfl, ClB.keep (clb_one HS1.out _ _) (grown_drew _), grown_trans (grown_trans HG1.out (grown_push (World.grownBy_alloc _ _ none) _)) (grown_drew _), by have := Hn0.out.2; omega, by have := Hn0.out.2; omega⟩
  · go_ret
    exact ⟨_, _, _, rfl, ClB.keep (clb_two HS1.out _ _) (grown_drew _), grown_trans (grown_trans HG1.out (grown_push (World.grownBy_alloc _ _ none) _)) (grown_drew _), by have := Hn0.out.2; omega, by have := Hn0.out.2; omega⟩
structure ClS (w0 w : World) (B gk gf gs : Nat) (bp : Option Addr) (vt vp : Value) (k : Int) (vf : Value) (fs : List Fe) : Prop where
  cl : ClB w gk gf gs bp vt vp k vf
  fo : FOwn w B vf fs
  gr : w0.grownBy w none
  hk : w0.heap.size ≤ gk
  hf : w0.heap.size ≤ gf
theorem ClS.keep {w0 w w' : World} {B gk gf gs : Nat} {bp : Option Addr} {vt vp vf : Value} {k : Int} {fs : List Fe} (h : ClS w0 w B gk gf gs bp vt vp k vf fs) (g : w.grownBy w' none) : ClS w0 w' B gk gf gs bp vt vp k vf fs := ⟨h.cl.keep g, own_grow h.fo g, grown_trans h.gr g, h.hk, h.hf⟩
def Twv (w w' : World) (gk gf : Nat) : Prop := ∀ x, x < w.heap.size → x ≠ gk → x ≠ gf → w'.heap[x]? = w.heap[x]?
theorem Twv.own {w w' : World} {gk gf gs : Nat} {bp : Option Addr} {vt vp vf : Value} {k : Int} {base e size n : Nat} {v : Value} {xs : List Value} (h : Twv w w' gk gf) (c : ClB w gk gf gs bp vt vp k vf) (o : w.ownsRow base e size v n xs) (h3 : (3 : Nat) ≠ e) (hs : 27 ≠ e) : w'.ownsRow base e size v n xs := by
  obtain ⟨hl, q⟩ := o
  refine ⟨hl, ?_⟩
  rcases q with q | ⟨g, cap, cur, e1, hb, hh, h4, h5, h6, h7⟩
  · exact Or.inl q
  · refine Or.inr ⟨g, cap, cur, e1, hb, ?_, h4, h5, h6, h7⟩
    have hg : g < w.heap.size := (Array.getElem?_eq_some_iff.1 hh).1
    rw [h g hg (fun z => by rw [z, c.kb] at hh; simp at hh; exact h3 hh.2) (fun z => by rw [z, c.fb] at hh; simp at hh; exact hs hh.2)]
    exact hh
def ClPost (w0 w : World) (B gk gf gs : Nat) (bp : Option Addr) (vt vp : Value) (k : Int) (vf : Value) (fs : List Fe) (R : List Rw) (e : Ending) (w' : World) : Prop := ∃ p1 m1 c1 p2 c2, e = .returned (.agg #[vf, .slice p1 m1 c1, .slice p2 fs.length c2]) ∧ ClS w0 w' w.heap.size gk gf gs bp vt vp (k + 1) (.slice p2 fs.length c2) (nxtF R fs (k + 1)) ∧ DOwn w' w.heap.size (.slice p1 m1 c1) ((allR R fs (k + 1)).2.map Se.s) ∧ FOwn w' B vf fs ∧ Twv w w' gk gf
set_option maxRecDepth 100000 in
set_option maxHeartbeats 4000000 in
theorem vclimb_any (bp pt pp : Option Addr) (ct np cp : Nat) (r n : Int) (cd : Int → Hd × List Pt) (ts : List Th) (pf : Th → Fe) (mf : Fe → Th → Fe) (me : Th → Int) (w0 w : World) (B gk gf gs : Nat) (k : Int) (vf : Value) (fs : List Fe) (R : List Rw) (I : VIn w0 (.pointer bp) (.slice pt ts.length ct) r n cd ts pf mf me) (C : ClS w0 w B gk gf gs bp (.slice pt ts.length ct) (.slice pp np cp) k vf fs) (hT : Tab n cd ts fs R) (hr : r = 0) (hk0 : 0 ≤ k) (hk5 : k < 5) : Calls Tryz.prog 113 #[.pointer (some ⟨gk, 0, none⟩), .pointer (some ⟨gf, 0, none⟩), .pointer (some ⟨gs, 0, none⟩)] w (ClPost w0 w B gk gf gs bp (.slice pt ts.length ct) (.slice pp np cp) k vf fs R) := by
  obtain ⟨pf1, cf1, rfl⟩ := RecT.Own.form C.fo
  obtain ⟨k1, hk1⟩ : ∃ k1, k1 = k + 1 := ⟨_, rfl⟩
  have hwk : wrap64 (k + 1) = k1 := by rw [hk1]; unfold wrap64; omega
  obtain ⟨W1, hW1⟩ : ∃ W1, W1 = w.alloc (.cells #[.slice none 0 0, .slice none 0 0, .slice none 0 0] 150) := ⟨_, rfl⟩
  have HG1 : Hid (w.grownBy W1 none) := by rw [hW1]; exact World.grownBy_alloc _ _ none
  have HR1 : Hid (FlB W1 w.heap.size (.slice none 0 0) (.slice none 0 0) (.slice none 0 0)) := by rw [hW1]; exact alloc_at _ _ _
  have HC1 : Hid (ClS w0 W1 B gk gf gs bp (.slice pt ts.length ct) (.slice pp np cp) k (.slice pf1 fs.length cf1) fs) := C.keep HG1.out
  have Hlt : Hid (gk < w.heap.size ∧ gf < w.heap.size ∧ gs < w.heap.size) := ⟨block_lt C.cl.kb, block_lt C.cl.fb, block_lt C.cl.sb⟩
  have Hne : Hid (gk ≠ gf ∧ gk ≠ gs ∧ gf ≠ gs) := by
    refine ⟨fun q => ?_, fun q => ?_, fun q => ?_⟩
    · have h1 := C.cl.kb; rw [q, C.cl.fb] at h1; simp at h1
    · have h1 := C.cl.kb; rw [q, C.cl.sb] at h1; simp at h1
    · have h1 := C.cl.fb; rw [q, C.cl.sb] at h1; simp at h1
  have HI : Hid (VIn w0 (.pointer bp) (.slice pt ts.length ct) r n cd ts pf mf me) := I
  have HT : Hid (Tab n cd ts fs R ∧ r = 0 ∧ 1 ≤ k1 ∧ k1 ≤ 5) := ⟨hT, hr, by omega, by omega⟩
  have Hk1 : Hid (k1 = k + 1) := hk1
  clear I C hT hr hk0 hk5
  go_enter Tryz.func113, Tryz.ntmps113
  go_upto_region 1 with fail
  rw [← hW1]
  clear hW1 hk1
  obtain ⟨n0, hn0⟩ : ∃ n0, n0 = w.heap.size := ⟨_, rfl⟩
  simp only [← hn0] at HR1 ⊢
  have Hn0 : Hid (n0 = w.heap.size) := hn0
  clear hn0
  have k0 : W1.cell? ⟨gk, 0, none⟩ = some (.int .i64 k) := (block_cell HC1.out.cl.kb 0).trans rfl
  have kf : W1.frozen? ⟨gk, 0, none⟩ = false := block_free HC1.out.cl.kb 0
  obtain ⟨W2, hW2⟩ : ∃ W2, W2 = W1.setCell ⟨gk, 0, none⟩ (.int .i64 k1) := ⟨_, rfl⟩
  have HG2 : Hid (W1.grownBy W2 (some gk)) := by rw [hW2]; exact grown_set _ _ _ _
  have HC2 : Hid (ClS w0 W2 B gk gf gs bp (.slice pt ts.length ct) (.slice pp np cp) k1 (.slice pf1 fs.length cf1) fs) := ⟨⟨by rw [hW2]; exact block_set HC1.out.cl.kb 0 _, grown_keep HG2.out HC1.out.cl.fb (fun q => by injection q with q; exact Hne.out.1 q.symm), grown_keep HG2.out HC1.out.cl.sb (fun q => by injection q with q; exact Hne.out.2.1 q.symm)⟩, own_tagged HC1.out.fo HG2.out HC1.out.cl.kb (by decide), grown_own HC1.out.gr HG2.out (fun y e => by cases e; exact HC1.out.hk), HC1.out.hk, HC1.out.hf⟩
  have HR2 : Hid (FlB W2 n0 (.slice none 0 0) (.slice none 0 0) (.slice none 0 0)) := grown_keep HG2.out HR1.out (fun q => by injection q with q; have := Hlt.out.1; have := Hn0.out; omega)
  go_upto_region 2 with fail
  rw [← hW2]
  clear hW2 k0 kf hwk
  have f0 : W2.cell? ⟨gf, 0, none⟩ = some (.slice pf1 fs.length cf1) := (block_cell HC2.out.cl.fb 0).trans rfl
  obtain ⟨W3, hW3⟩ : ∃ W3, W3 = W2.alloc (.cells #[.slice pf1 fs.length cf1, .slice none 0 0, .slice none 0 0] 150) := ⟨_, rfl⟩
  have HG3 : Hid (W2.grownBy W3 none) := by rw [hW3]; exact World.grownBy_alloc _ _ none
  have HF3 : Hid (FlB W3 W2.heap.size (.slice pf1 fs.length cf1) (.slice none 0 0) (.slice none 0 0)) := by rw [hW3]; exact alloc_at _ _ _
  go_upto_region 3 with fail
  rw [← hW3]
  clear hW3 f0
  obtain ⟨n1, hn1⟩ : ∃ n1, n1 = W2.heap.size := ⟨_, rfl⟩
  simp only [← hn1] at HF3 ⊢
  have Hn1 : Hid (n1 = W2.heap.size ∧ w.heap.size < n1) := ⟨hn1, by rw [hn1, ← Hn0.out]; exact block_lt HR2.out⟩
  clear hn1
  have HC3 : Hid (ClS w0 W3 B gk gf gs bp (.slice pt ts.length ct) (.slice pp np cp) k1 (.slice pf1 fs.length cf1) fs) := HC2.out.keep HG3.out
  have HR3 : Hid (FlB W3 n0 (.slice none 0 0) (.slice none 0 0) (.slice none 0 0)) := grown_keep HG3.out HR2.out (by simp)
  have C4 := lAll_any _ _ _ r n cd ts fs k1 W3 (HI.out.li W3 _ fs HC3.out.gr (RecT.Own.at HC3.out.fo) (by rw [← HT.out.1.len]; exact Nat.le_trans (HI.out.few HT.out.2.1) (by decide)))
  unfold AllPost at C4
  have k0 : W3.cell? ⟨gk, 0, none⟩ = some (.int .i64 k1) := (block_cell HC3.out.cl.kb 0).trans rfl
  have f0 : W3.cell? ⟨gf, 0, none⟩ = some (.slice pf1 fs.length cf1) := (block_cell HC3.out.cl.fb 0).trans rfl
  obtain ⟨s0, s1, s2⟩ := sc_box HC3.out.cl.sb
  go_wp2_with fail
  refine C4.mono ?_
  rintro e4 w4 ⟨p2, m2, c2, p1, m1, c1, rfl, g4, -, h4⟩
  obtain ⟨o1, o2⟩ := h4 R HT.out.2.1 HT.out.2.2 HT.out.1.tab
  have hm2 : m2 = fs.length := by obtain ⟨a, b, e⟩ := RecT.Own.form o1; injection e with _ e _; rw [e, amgL_len]
  subst hm2
  obtain ⟨qb, hqb⟩ : ∃ qb, qb = bgE r n cd ts fs k1 := ⟨_, rfl⟩
  rw [← hqb]
  have HG4 : Hid (W3.grownBy w4 none) := g4
  have HF4 : Hid (FlB w4 n1 (.slice pf1 fs.length cf1) (.slice none 0 0) (.slice none 0 0)) := grown_keep g4 HF3.out (by simp)
  have HR4 : Hid (FlB w4 n0 (.slice none 0 0) (.slice none 0 0) (.slice none 0 0)) := grown_keep g4 HR3.out (by simp)
  have HC4 : Hid (ClS w0 w4 B gk gf gs bp (.slice pt ts.length ct) (.slice pp np cp) k1 (.slice pf1 fs.length cf1) fs) := HC3.out.keep g4
  have HO4 : Hid (FOwn w4 W3.heap.size (.slice p2 fs.length c2) (nxtF R fs k1) ∧ DOwn w4 W3.heap.size (.slice p1 m1 c1) ((allR R fs k1).2.map Se.s)) := ⟨o1, o2⟩
  clear C4 g4 h4 k0 f0 s0 s1 s2 hqb o1 o2
  obtain ⟨W5, hW5⟩ : ∃ W5, W5 = (w4.setCell ⟨n1, 2, none⟩ (.slice p2 fs.length c2)).setCell ⟨n1, 1, none⟩ (.slice p1 m1 c1) := ⟨_, rfl⟩
  have HG5 : Hid (w4.grownBy W5 (some n1)) := by rw [hW5]; exact grown_trans (grown_set _ _ _ _) (grown_set _ _ _ _)
  have HF5 : Hid (FlB W5 n1 (.slice pf1 fs.length cf1) (.slice p1 m1 c1) (.slice p2 fs.length c2)) := by rw [hW5]; exact fl_set HF4.out
  obtain ⟨l0, l1, l2⟩ := fl_box HF4.out
  have lf := fun i => block_free HF4.out i
  go_upto_region 4 with fail
  rw [← hW5]
  clear hW5 l0 l1 l2 lf
  have Hnn : Hid (n1 ≠ n0 ∧ n1 ≠ gk ∧ n1 ≠ gf ∧ n1 ≠ gs ∧ n0 ≠ gf ∧ n0 ≠ gk ∧ n0 ≠ gs) := by
    have a := Hn1.out.2; have b := Hn0.out; have c := Hlt.out
    exact ⟨by omega, by omega, by omega, by omega, by omega, by omega, by omega⟩
  have HR5 : Hid (FlB W5 n0 (.slice none 0 0) (.slice none 0 0) (.slice none 0 0)) := grown_keep HG5.out HR4.out (fun q => by injection q with q; exact Hnn.out.1 q.symm)
  have HK5 : Hid (ClB W5 gk gf gs bp (.slice pt ts.length ct) (.slice pp np cp) k1 (.slice pf1 fs.length cf1)) := ⟨grown_keep HG5.out HC4.out.cl.kb (fun q => by injection q with q; exact Hnn.out.2.1 q.symm), grown_keep HG5.out HC4.out.cl.fb (fun q => by injection q with q; exact Hnn.out.2.2.1 q.symm), grown_keep HG5.out HC4.out.cl.sb (fun q => by injection q with q; exact Hnn.out.2.2.2.1 q.symm)⟩
  have f0 : W5.cell? ⟨gf, 0, none⟩ = some (.slice pf1 fs.length cf1) := (block_cell HK5.out.fb 0).trans rfl
  have ff : W5.frozen? ⟨gf, 0, none⟩ = false := block_free HK5.out.fb 0
  obtain ⟨l0, l1, l2⟩ := fl_box HF5.out
  obtain ⟨W6, hW6⟩ : ∃ W6, W6 = W5.setCell ⟨gf, 0, none⟩ (.slice p2 fs.length c2) := ⟨_, rfl⟩
  have HG6 : Hid (W5.grownBy W6 (some gf)) := by rw [hW6]; exact grown_set _ _ _ _
  have HK6 : Hid (ClB W6 gk gf gs bp (.slice pt ts.length ct) (.slice pp np cp) k1 (.slice p2 fs.length c2)) := ⟨grown_keep HG6.out HK5.out.kb (fun q => by injection q with q; exact Hne.out.1 q), by rw [hW6]; exact block_set HK5.out.fb 0 _, grown_keep HG6.out HK5.out.sb (fun q => by injection q with q; exact Hne.out.2.2 q.symm)⟩
  go_upto_region 5 with fail
  rw [← hW6]
  clear hW6 l0 l1 l2 f0 ff
  have HF6 : Hid (FlB W6 n1 (.slice pf1 fs.length cf1) (.slice p1 m1 c1) (.slice p2 fs.length c2)) := grown_keep HG6.out HF5.out (fun q => by injection q with q; exact Hnn.out.2.2.1 q)
  have HR6 : Hid (FlB W6 n0 (.slice none 0 0) (.slice none 0 0) (.slice none 0 0)) := grown_keep HG6.out HR5.out (fun q => by injection q with q; exact Hnn.out.2.2.2.2.1 q)
  obtain ⟨l0, l1, l2⟩ := fl_box HF6.out
  obtain ⟨r0, r1, r2⟩ := fl_box HR6.out
  have rf := fun i => block_free HR6.out i
  obtain ⟨W7, hW7⟩ : ∃ W7, W7 = ((W6.setCell ⟨n0, 0, none⟩ (.slice pf1 fs.length cf1)).setCell ⟨n0, 1, none⟩ (.slice p1 m1 c1)).setCell ⟨n0, 2, none⟩ (.slice p2 fs.length c2) := ⟨_, rfl⟩
  have HG7 : Hid (W6.grownBy W7 (some n0)) := by rw [hW7]; exact grown_trans (grown_trans (grown_set _ _ _ _) (grown_set _ _ _ _)) (grown_set _ _ _ _)
  have HTw : Hid (Twv w W7 gk gf) := fun x hx h1 h2 => by
    have z1 : x < W1.heap.size := Nat.lt_of_lt_of_le hx HG1.out.size
    have z2 : x < W2.heap.size := Nat.lt_of_lt_of_le z1 HG2.out.size
    have z3 : x < W3.heap.size := Nat.lt_of_lt_of_le z2 HG3.out.size
    have z4 : x < w4.heap.size := Nat.lt_of_lt_of_le z3 HG4.out.size
    have z5 : x < W5.heap.size := Nat.lt_of_lt_of_le z4 HG5.out.size
    have z6 : x < W6.heap.size := Nat.lt_of_lt_of_le z5 HG6.out.size
    have a1 := Hn1.out.2
    have a0 := Hn0.out
    rw [HG7.out.block x z6 (fun q => by injection q with q; omega), HG6.out.block x z5 (fun q => by injection q with q; exact h2 q), HG5.out.block x z4 (fun q => by injection q with q; omega), HG4.out.block x z3 (by simp), HG3.out.block x z2 (by simp), HG2.out.block x z1 (fun q => by injection q with q; exact h1 q), HG1.out.block x hx (by simp)]
  have HS : Hid (ClS w0 W7 w.heap.size gk gf gs bp (.slice pt ts.length ct) (.slice pp np cp) (k + 1) (.slice p2 fs.length c2) (nxtF R fs (k + 1)) ∧ DOwn W7 w.heap.size (.slice p1 m1 c1) ((allR R fs (k + 1)).2.map Se.s) ∧ FOwn W7 B (.slice pf1 fs.length cf1) fs) := by
    have kp : ∀ {base e size n : Nat} {v : Value} {xs : List Value}, w4.ownsRow base e size v n xs → 150 ≠ e → 27 ≠ e → W7.ownsRow base e size v n xs := fun o h1 h2 => own_tagged (own_tagged (own_tagged o HG5.out HF4.out h1) HG6.out HK5.out.fb h2) HG7.out HR6.out h1
    have hB : w.heap.size ≤ W3.heap.size := Nat.le_trans HG1.out.size (Nat.le_trans HG2.out.size HG3.out.size)
    have b0 : w0.heap.size ≤ n0 := by have := HC4.out.hk; have := Hlt.out.1; have := Hn0.out; omega
    have b1 : w0.heap.size ≤ n1 := by have := Hn1.out.2; have := Hn0.out; omega
    rw [← Hk1.out]
    refine ⟨⟨⟨grown_keep HG7.out HK6.out.kb (fun q => by injection q with q; exact Hnn.out.2.2.2.2.2.1 q.symm), grown_keep HG7.out HK6.out.fb (fun q => by injection q with q; exact Hnn.out.2.2.2.2.1 q.symm), grown_keep HG7.out HK6.out.sb (fun q => by injection q with q; exact Hnn.out.2.2.2.2.2.2 q.symm)⟩, own_big (kp HO4.out.1 (by decide) (by decide)) hB, ?_, HC4.out.hk, HC4.out.hf⟩, own_big (kp HO4.out.2 (by decide) (by decide)) hB, kp HC4.out.fo (by decide) (by decide)⟩
    exact grown_own (grown_own (grown_own HC4.out.gr HG5.out (fun y e => by cases e; exact b1)) HG6.out (fun y e => by cases e; exact HC4.out.hf)) HG7.out (fun y e => by cases e; exact b0)
  go_wp2_with fail
  refine bodyPost_ret (v := .agg #[.slice pf1 fs.length cf1, .slice p1 m1 c1, .slice p2 fs.length c2]) (by simp [results, Tryz.results113, go_sem, r0, r1, r2]) rfl ⟨p1, m1, c1, p2, c2, rfl, ?_⟩
  rw [← hW7]
  exact ⟨HS.out.1, HS.out.2.1, HS.out.2.2, HTw.out⟩
end Go.Proofs.YtmemeloehgemcaaGreat
