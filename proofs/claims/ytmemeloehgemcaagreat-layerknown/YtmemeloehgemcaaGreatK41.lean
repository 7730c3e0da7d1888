/-
  Layers: effects in their order.
  Layers: when two effects are the same; the place of one in a list.
  Layers: Next.
  Layers: what the ways of layer ask of a book, things and features.
  Layers: what is answered of no book.
  The book of chapter 18's examples.
-/
import Derived.Test.YtmemeloehgemcaaGreatLzB
import Derived.Test.YtmemeloehgemcaaGreatK9
import Derived.Test.YtmemeloehgemcaaGreatK4
import Derived.Shelf.SlicesQ.Index
import Derived.Test.YtmemeloehgemcaaGreatK28
namespace Go.Proofs.YtmemeloehgemcaaGreat
open Go.RowKit Go.Shelf

def cmpS (x y : Se) : Int := orV (Lib.compareInt (x.ro : Int) (y.ro : Int)) (Lib.compareInt x.s.pl y.s.pl)
theorem cmpI_lt {a b : Int} : Lib.compareInt a b < 0 ↔ a < b := by
  unfold Lib.compareInt
  by_cases h1 : a < b
  · simp [h1]
  · by_cases h2 : b < a <;> simp [h1, h2]
theorem cmpI_zero {a b : Int} : Lib.compareInt a b = 0 ↔ a = b := by
  unfold Lib.compareInt
  by_cases h1 : a < b
  · simp [h1]; omega
  · by_cases h2 : b < a
    · simp [h1, h2]; omega
    · simp [h1, h2]; omega
theorem ltS (x y : Se) : ltOf cmpS x y = decide (x.ro < y.ro ∨ x.ro = y.ro ∧ x.s.pl < y.s.pl) := by
  unfold ltOf cmpS orV
  by_cases h : Lib.compareInt (x.ro : Int) (y.ro : Int) = 0
  · rw [if_pos h]
    have h1 := cmpI_zero.1 h
    refine decide_eq_decide.2 ⟨fun q => Or.inr ⟨by omega, cmpI_lt.1 q⟩, fun q => cmpI_lt.2 ?_⟩
    omega
  · rw [if_neg h]
    have h1 : ¬ (x.ro : Int) = y.ro := fun q => h (cmpI_zero.2 q)
    refine decide_eq_decide.2 ⟨fun q => Or.inl (by have := cmpI_lt.1 q; omega), fun q => cmpI_lt.2 ?_⟩
    omega
theorem swoS : Go.Sort.SWO (ltOf cmpS) where
  irrefl x := by rw [ltS]; simp
  trans x y z h1 h2 := by rw [ltS] at *; simp at *; omega
  ntrans x y z h1 h2 := by rw [ltS] at *; simp at *; omega
set_option maxRecDepth 100000 in
set_option maxHeartbeats 4000000 in
theorem inS_any (x y : Se) (W : World) : Calls Tryz.prog 65 #[.agg (sec x).toArray, .agg (sec y).toArray] W fun e w' => e = .returned (.int .i64 (cmpS x y)) ∧ ∃ q os', w' = Go.Sort.grow (W.drewN q) os' := by
  have hcon := fun a b W' => AnyG.cmp_Compare_int Tryz.cmpL a b W'
  change ∀ a b W', Calls Tryz.prog 111 _ _ _ at hcon
  unfold cmpS
  obtain ⟨W2, hW2⟩ : ∃ W2, W2 = (W.alloc (.cells (sec x).toArray 123)).alloc (.cells (sec y).toArray 123) := ⟨_, rfl⟩
  have A2 : SeB W2 W.heap.size x := by rw [hW2]; exact grown_keep (World.grownBy_alloc _ _ none) (alloc_at W _ _) (by simp)
  have Z2 : SeB W2 (W.heap.size + 1) y := by rw [hW2]; exact alloc2_b _ _ _ _
  have HW : Hid (W2 = (W.alloc (.cells (sec x).toArray 123)).alloc (.cells (sec y).toArray 123)) := hW2
  obtain ⟨-, x1, -, -, -, -, -, -, -, -, x10⟩ := se_box A2
  obtain ⟨-, y1, -, -, -, -, -, -, -, -, y10⟩ := se_box Z2
  clear A2 Z2
  unfold sec at hW2 ⊢
  go_enter Tryz.func65, Tryz.ntmps65
  go_upto_region 1 with fail
  rw [← hW2]
  clear hW2
  go_region_held3 (fun w' => w'.cell? ⟨W.heap.size, 1, none⟩ = some (.int .i64 x.s.pl) ∧ w'.cell? ⟨W.heap.size, 10, none⟩ = some (.int .i64 (x.ro : Int)) ∧ w'.cell? ⟨W.heap.size + 1, 1, none⟩ = some (.int .i64 y.s.pl) ∧ w'.cell? ⟨W.heap.size + 1, 10, none⟩ = some (.int .i64 (y.ro : Int))) (first | exact ⟨x1, x10, y1, y10⟩ | go_keep) (first | (go_at_call 111; refine (hcon _ _ _).mono ?_; rintro e w3 ⟨rfl, rfl⟩) | (go_at_call 110; refine (or_any _ _ _ _ (by exact block_cell (alloc_at _ _ _) 0) (by exact block_cell (alloc_at _ _ _) 1)).mono ?_; rintro e w3 ⟨rfl, rfl⟩))
  go_wp2
  go_ret
  exact ⟨rfl, 1, _, by rw [HW.out, Go.Sort.alloc_eq_grow, Go.Sort.alloc_eq_grow, Go.Sort.alloc_eq_grow, Go.Sort.grow_grow, Go.Sort.grow_grow]; rfl⟩
def inS (a b : Se) : Prop := a.ro < b.ro ∨ a.ro = b.ro ∧ a.s.pl ≤ b.s.pl
theorem sortStand_any (g cap : Nat) (L : List Se) (base : Nat) (w : World) (O : SOwn w base (.slice (some ⟨g, 0, none⟩) L.length cap) L) (hl : L.length ≤ 4096) : Calls Tryz.prog 64 #[.slice (some ⟨g, 0, none⟩) L.length cap, .func (.func 65) #[] #[]] w fun e w' => e = .returned (.tuple #[]) ∧ ∃ L', L'.Perm L ∧ L'.Pairwise inS ∧ SOwn w' base (.slice (some ⟨g, 0, none⟩) L.length cap) L' ∧ w.grownBy w' (some g) := by
  haveI : Inhabited Se := ⟨Se.none⟩
  have eg : ∀ args w, (callFunc 65 args).run Tryz.prog w = .ok (.enter 65 args) w := enters_of Tryz.func65 (by kernel_rfl) rfl
  have hS := sortQ Tryz.sortS seR 123 Tryz.isAgg123 Tryz.sizeOf123 cmpS swoS 65 eg (fun x y W => inS_any x y W) base g cap L w O (by omega)
  change Calls Tryz.prog 64 _ _ _ at hS
  refine hS.mono ?_
  rintro e w' ⟨rfl, L', hp, hs, o, q⟩
  exact ⟨rfl, L', hp, hs.imp (fun h => by rw [ltS] at h; unfold inS; simp at h; omega), o, q⟩
end Go.Proofs.YtmemeloehgemcaaGreat
namespace Go.Proofs.YtmemeloehgemcaaGreat
open Go.RowKit Go.Shelf

set_option maxHeartbeats 2000000 in
theorem equalIn_part9 (a0 a1 a2 a3 a4 a5 a6 : Int) (s : ByteArray) (b0 b1 b2 b3 b4 b5 b6 : Int) (t : ByteArray) (w : World) : (Op.equalIn 9999 47 (.agg #[.int .u8 a0, .int .u8 a1, .int .u8 a2, .int .i64 a3, .int .u8 a4, .int .u8 a5, .int .u8 a6, .string s]) (.agg #[.int .u8 b0, .int .u8 b1, .int .u8 b2, .int .i64 b3, .int .u8 b4, .int .u8 b5, .int .u8 b6, .string t])).run Tryz.prog w = .ok (samep (⟨a0, a1, a2, a3, a4, a5, a6, s⟩ : Pt) ⟨b0, b1, b2, b3, b4, b5, b6, t⟩) w := by
  unfold samep
  have hS : Tryz.prog.underlying 47 = some (.struct (Tryz.prog.fieldsOf 47)) := by kernel_rfl
  have hp : Tryz.prog.stoodInHeld 47 = false := by kernel_rfl
  have u3 := Tryz.underlying3
  have i3 := Tryz.isAgg3
  have z3 := Tryz.sizeOf3
  have u9 := Tryz.underlying9
  have i9 := Tryz.isAgg9
  have z9 := Tryz.sizeOf9
  have u23 := Tryz.underlying40
  have i23 := Tryz.isAgg40
  have z23 := Tryz.sizeOf40
  have u24 := Tryz.underlying41
  have i24 := Tryz.isAgg41
  have z24 := Tryz.sizeOf41
  have u25 := Tryz.underlying42
  have i25 := Tryz.isAgg42
  have z25 := Tryz.sizeOf42
  have u26 := Tryz.underlying43
  have i26 := Tryz.isAgg43
  have z26 := Tryz.sizeOf43
  have u27 := Tryz.underlying44
  have i27 := Tryz.isAgg44
  have z27 := Tryz.sizeOf44
  have u28 := Tryz.underlying45
  have i28 := Tryz.isAgg45
  have z28 := Tryz.sizeOf45
  rw [show (9999 : Nat) = 9998 + 1 from rfl, run_equalIn_agg w 9998 47 _ _ hS hp]
  simp only [Program.fieldsOf, Tryz.underlying47]
  go_simp
  by_cases h0 : a0 = b0
  case neg => simp [h0]
  simp only [h0]
  by_cases h1 : a1 = b1
  case neg => simp [h1]
  simp only [h1]
  by_cases h2 : a2 = b2
  case neg => simp [h2]
  simp only [h2]
  by_cases h3 : a3 = b3
  case neg => simp [h3]
  simp only [h3]
  by_cases h4 : a4 = b4
  case neg => simp [h4]
  simp only [h4]
  by_cases h5 : a5 = b5
  case neg => simp [h5]
  simp only [h5]
  by_cases h6 : a6 = b6
  case neg => simp [h6]
  simp only [h6]
  by_cases h7 : s = t
  case neg => simp [h7]; exact fun e => h7 (bytes_inj e)
  simp [h7]
def sames (a b : Sd) : Bool := decide (a.th = b.th) && (decide (a.pl = b.pl) && samep a.wh b.wh)
set_option maxHeartbeats 2000000 in
theorem equalIn_sd (x y : Sd) (w : World) : (Op.equalIn 10000 49 (.agg (sdc x).toArray) (.agg (sdc y).toArray)).run Tryz.prog w = .ok (sames x y) w := by
  unfold sames
  have hS : Tryz.prog.underlying 49 = some (.struct (Tryz.prog.fieldsOf 49)) := by kernel_rfl
  have hp : Tryz.prog.stoodInHeld 49 = false := by kernel_rfl
  have u3 := Tryz.underlying3
  have i3 := Tryz.isAgg3
  have z3 := Tryz.sizeOf3
  have iA := Tryz.isAgg47
  have zA := Tryz.sizeOf47
  have h4 := equalIn_part9 x.wh.wn x.wh.vb x.wh.wm x.wh.ct x.wh.su x.wh.tr x.wh.mr x.wh.nm y.wh.wn y.wh.vb y.wh.wm y.wh.ct y.wh.su y.wh.tr y.wh.mr y.wh.nm
  rw [show (10000 : Nat) = 9999 + 1 from rfl, run_equalIn_agg w 9999 49 _ _ hS hp]
  simp only [Program.fieldsOf, Tryz.underlying49, sdc]
  go_simp
  by_cases hc : x.th = y.th
  case neg => simp [hc]
  simp only [hc]
  by_cases ho : x.pl = y.pl
  case neg => simp [ho]
  simp only [ho, if_true]
  show (if samep x.wh y.wh = false then Result.ok false w else Result.ok true w) = Result.ok (true && (true && samep x.wh y.wh)) w
  cases samep x.wh y.wh <;> rfl
theorem eql_sd : EqlAt Tryz.prog 49 (fun x => .agg (sdc x).toArray) sames := ⟨fun x y w => by rw [run_eql_struct, equalIn_sd]; rfl, GuardAt.agg _ (by kernel_rfl)⟩
theorem indexSd_any (v : Value) (S : List Sd) (x : Sd) (w : World) (A : sdR.At w v S) (h0 : 0 < S.length) : Calls Tryz.prog 66 #[v, .agg (sdc x).toArray] w fun e w' => e = .returned (.int .i64 (Lib.idxBy sames S x)) ∧ w.grownBy w' none := by
  haveI : Inhabited Sd := ⟨Sd.none⟩
  obtain ⟨p, cap, rfl, hm, hA⟩ := A
  obtain ⟨g, off, rfl, hR⟩ := hA h0
  have hS := AnyQ.slices_Index Tryz.indexS 10 Tryz.isAgg49 Tryz.sizeOf49 sdc (fun _ => rfl) sames eql_sd g off S.length cap S x w (Nat.le_refl _) (by unfold maxLen at hm; omega) (fun j hj i v hv => hR j _ (by rw [getElem!_pos S j hj]; exact List.getElem?_eq_getElem hj) i v hv)
  change Calls Tryz.prog 66 _ _ _ at hS
  refine hS.mono ?_
  rintro e w' ⟨rfl, q, rfl⟩
  rw [List.take_length]
  exact ⟨rfl, grown_trans (World.grownBy_alloc w _ none) (grown_drewN _ q _)⟩
end Go.Proofs.YtmemeloehgemcaaGreat
namespace Go.Proofs.YtmemeloehgemcaaGreat
open Go.RowKit Go.Shelf

def NextPost (w : World) (r n : Int) (cd : Int → Hd × List Pt) (ts : List Th) (fs : List Fe) (S : List Sd) (e : Ending) (w' : World) : Prop := ∃ p, e = .returned (.tuple #[.int .i64 p, .int .i64 (lkE r n cd ts fs S)]) ∧ w.grownBy w' none ∧ (lkE r n cd ts fs S ≠ 0 → p = 0) ∧ ∀ R L, r = 0 → tabR n cd ts fs = some R → listF R S [] = some L → if L = [] then p = -1 else ∃ L' : List Se, L'.Perm L ∧ L'.Pairwise inS ∧ p = Lib.idxBy sames S (L'.getD (nextN R (pickF R fs) L') Se.none).s
theorem perm_ro {X : List Rv} {L L' : List Se} (hp : L'.Perm L) (h : ∀ e ∈ L, e.ro < X.length) : ∀ i, i < L'.length → (L'.getD i Se.none).ro < X.length := all_ro fun e he => h e (hp.mem_iff.1 he)
set_option maxRecDepth 100000 in
set_option maxHeartbeats 4000000 in
theorem lNext_any (bv vt vf vs : Value) (r n : Int) (cd : Int → Hd × List Pt) (ts : List Th) (fs : List Fe) (S : List Sd) (w : World) (I : LIn w bv vt vf r n cd ts fs) (A : sdR.At w vs S) (hl : S.length ≤ 4096) : Calls Tryz.prog 21 #[bv, vt, vf, vs] w (NextPost w r n cd ts fs S) := by
  obtain ⟨pt, ct, rfl⟩ := I.things.form
  obtain ⟨pf, cf, rfl⟩ := I.feats.form
  obtain ⟨ps, cs, rfl⟩ := A.form
  have HLk := llook_any bv _ _ _ r n cd ts fs S w I A hl
  unfold LkPost tbv at HLk
  have HI : Hid (LIn w bv (.slice pt ts.length ct) (.slice pf fs.length cf) r n cd ts fs) := I
  have HA : Hid (sdR.At w (.slice ps S.length cs) S ∧ S.length ≤ 4096) := ⟨A, hl⟩
  clear I A hl
  go_enter Tryz.func21, Tryz.ntmps21
  go_wp2_with fail
  refine HLk.mono ?_
  rintro e2 w2 ⟨p1, m1, c1, p2, m2, c2, p3, m3, c3, rfl, g2, h2⟩
  obtain ⟨q, hq⟩ : ∃ q, q = lkE r n cd ts fs S := ⟨_, rfl⟩
  have Hq : Hid (q = lkE r n cd ts fs S) := hq
  rw [← hq]
  obtain ⟨V, hV⟩ : ∃ V, V = w2.alloc (.cells #[.slice p1 m1 c1, .slice p2 m2 c2] 118) := ⟨_, rfl⟩
  have HGV : Hid (w.grownBy V none) := by rw [hV]; exact grown_push g2 _
  have HBt : Hid (TbB V w2.heap.size (.slice p1 m1 c1) (.slice p2 m2 c2)) := by rw [hV]; exact alloc_at _ _ _
  have H2 : Hid (∀ R L, r = 0 → tabR n cd ts fs = some R → listF R S [] = some L → ∃ X, rws X = R ∧ TbO V w.heap.size (.slice p1 m1 c1) (.slice p2 m2 c2) X (pickF R fs) ∧ SOwn V w.heap.size (.slice p3 m3 c3) L) := fun R L a b c => by
    obtain ⟨X, x1, x2, x3, x4⟩ := h2 R L a b c
    have g := World.grownBy_alloc w2 (.cells #[.slice p1 m1 c1, .slice p2 m2 c2] 118) none
    exact ⟨X, x1, by rw [hV]; exact x2.grow g, by rw [hV]; exact own_grow x4 g⟩
  clear HLk g2 h2 hq
  go_upto_region 2 with fail
  rw [← hV]
  obtain ⟨nb, hnb⟩ : ∃ nb, nb = w2.heap.size := ⟨_, rfl⟩
  rw [← hnb] at HBt ⊢
  clear hV hnb
  by_cases hq0 : q = 0
  · have e1 : (q != 0) = false := by simpa using hq0
    obtain ⟨hr0, R, L, hR, hL⟩ := lkE_of (Hq.out.symm.trans hq0)
    obtain ⟨X, hX, hT, hS⟩ := H2.out R _ hr0 hR hL
    have hro : ∀ e ∈ L, e.ro < X.length := listF_ro S [] L (fun e he => by cases he) (by rw [hX]; exact hL)
    have hlen : L.length = S.length := by have := listF_len S [] L hL; simpa using this
    have HRL : Hid (rws X = R ∧ tabR n cd ts fs = some R ∧ listF R S [] = some L ∧ lkE r n cd ts fs S = 0) := ⟨hX, hR, hL, Hq.out.symm.trans hq0⟩
    have HTV : Hid (TbO V w.heap.size (.slice p1 m1 c1) (.slice p2 m2 c2) X (pickF R fs)) := hT
    have Hro : Hid (∀ e ∈ L, e.ro < X.length) := hro
    have Hlen : Hid (L.length = S.length) := hlen
    by_cases h0 : L.length = 0
    · obtain rfl : L = [] := List.length_eq_zero_iff.1 h0
      obtain ⟨a3, b3, e3⟩ := RecT.Own.form hS
      cases e3
      clear hq0 hr0 hR hL hX hT hS hro hlen H2 h0
      go_wp2_with fail
      go_ret2
      refine ⟨-1, by rw [HRL.out.2.2.2]; rfl, HGV.out, fun h => absurd HRL.out.2.2.2 h, fun R' L' _ a b => ?_⟩
      rw [HRL.out.2.1] at a
      cases a
      rw [HRL.out.2.2.1] at b
      cases b
      rw [if_pos rfl]
    · obtain ⟨g, cap, e3, hgB, -, -, -, -⟩ := own_cell hS (Nat.pos_of_ne_zero h0)
      cases e3
      have HSo : Hid (SOwn V w.heap.size (.slice (some ⟨g, 0, none⟩) L.length c3) L) := hS
      have CS := sortStand_any g c3 L w.heap.size V hS (by rw [hlen]; exact HA.out.2)
      have H0 : Hid (0 < L.length) := Nat.pos_of_ne_zero h0
      have HgB : Hid (w.heap.size ≤ g) := hgB
      have h0' : ((L.length : Int) == 0) = false := by simpa using h0
      clear hq0 hr0 hR hL hX hT hS hro hlen H2 h0 hgB
      go_wp2_with fail
      refine CS.mono ?_
      rintro e4 w4 ⟨rfl, L', hp, hs, o4, g4⟩
      have HLs : Hid (L'.Perm L ∧ L'.Pairwise inS) := ⟨hp, hs⟩
      have hll : L'.length = L.length := hp.length_eq
      rw [← hll] at o4 ⊢
      have HT4 : Hid (TbO w4 w.heap.size (.slice p1 m1 c1) (.slice p2 m2 c2) X (pickF R fs)) := HTV.out.block HSo.out g4 (by decide) (by decide) (by decide)
      have HB4 : Hid (TbB w4 nb (.slice p1 m1 c1) (.slice p2 m2 c2)) := tb_block HBt.out HSo.out g4 (by decide)
      have HG4 : Hid (w.grownBy w4 none) := grown_own HGV.out g4 (fun y e => by cases e; exact HgB.out)
      have HO4 : Hid (SOwn w4 w.heap.size (.slice (some ⟨g, 0, none⟩) L'.length c3) L') := o4
      have HNx := lnext_any _ _ (.slice (some ⟨g, 0, none⟩) L'.length c3) X (pickF R fs) L' w4 HT4.out.at (RecT.Own.at HO4.out) (perm_ro hp Hro.out) (by rw [hll, Hlen.out]; exact HA.out.2)
      unfold tbv at HNx
      obtain ⟨p, hp'⟩ : ∃ p, p = nextN (rws X) (pickF R fs) L' := ⟨_, rfl⟩
      have hpl : p < L'.length := by rw [hp']; exact nextN_lt (List.length_pos_iff.1 (by rw [hll]; exact H0.out))
      rw [← hp'] at HNx
      have Hp : Hid (p = nextN (rws X) (pickF R fs) L') := hp'
      have Hpl : Hid (p < L'.length) := hpl
      have hpl' : (p : Int) < (L'.length : Int) := Int.ofNat_lt.2 hpl
      obtain ⟨t0, t1⟩ := tb_box HB4.out
      have Hll : Hid (L'.length = L.length) := hll
      clear hp hs hll hp' hpl o4 g4 CS
      go_wp2_with fail
      refine HNx.mono ?_
      rintro e5 w5 ⟨rfl, g5⟩
      obtain ⟨g6, off6, cap6, e6, RR⟩ := SeAt.there (RecT.Own.at (own_grow HO4.out g5)) Hpl.out
      cases e6
      simp only [Nat.zero_add] at RR
      obtain ⟨e, he⟩ : ∃ e, e = L'.getD p Se.none := ⟨_, rfl⟩
      rw [← he] at RR
      have He : Hid (e = L'.getD p Se.none) := he
      obtain ⟨s0, s1, s2, s3, s4, s5, s6, s7, s8, s9, s10⟩ := se_cells RR
      have HG5 : Hid (w.grownBy w5 none) := grown_trans HG4.out g5
      obtain ⟨Y, hY⟩ : ∃ Y, Y = w5.alloc (.cells #[.int .i64 e.s.th, .int .i64 e.s.pl, .int .u8 e.s.wh.wn, .int .u8 e.s.wh.vb, .int .u8 e.s.wh.wm, .int .i64 e.s.wh.ct, .int .u8 e.s.wh.su, .int .u8 e.s.wh.tr, .int .u8 e.s.wh.mr, .string e.s.wh.nm, .int .i64 (e.ro : Int)] 123) := ⟨_, rfl⟩
      have HGY : Hid (w.grownBy Y none) := by rw [hY]; exact grown_push HG5.out _
      have HBe : Hid (SeB Y w5.heap.size e) := by rw [hY]; exact alloc_at _ _ _
      have CI := indexSd_any _ S e.s Y (HA.out.1.keep HGY.out) (by rw [← Hlen.out]; exact H0.out)
      unfold sdc at CI
      clear HNx g5 RR he t0 t1
      go_upto_region 8 with fail
      rw [← hY]
      obtain ⟨nc, hnc⟩ : ∃ nc, nc = w5.heap.size := ⟨_, rfl⟩
      rw [← hnc] at HBe ⊢
      clear hY hnc s0 s1 s2 s3 s4 s5 s6 s7 s8 s9 s10
      obtain ⟨o0, o1, o2, o3, o4, o5, o6, o7, o8, o9, o10⟩ := se_box HBe.out
      go_wp2_with fail
      refine CI.mono ?_
      rintro e8 w8 ⟨rfl, g8⟩
      have HG8 : Hid (w.grownBy w8 none) := grown_trans HGY.out g8
      clear g8 CI o0 o1 o2 o3 o4 o5 o6 o7 o8 o9 o10
      go_wp2_with fail
      go_ret2
      refine ⟨_, by rw [HRL.out.2.2.2]; rfl, HG8.out, fun h => absurd HRL.out.2.2.2 h, fun R' L2 _ a b => ?_⟩
      rw [HRL.out.2.1] at a
      cases a
      rw [HRL.out.2.2.1] at b
      cases b
      rw [if_neg (fun q => by rw [q] at H0; exact absurd H0.out (Nat.lt_irrefl 0))]
      exact ⟨L', HLs.out.1, HLs.out.2, by rw [He.out, Hp.out, HRL.out.1]⟩
  · have e1 : (q != 0) = true := by simpa using hq0
    have Hq0 : Hid (q ≠ 0) := hq0
    clear hq0
    go_wp2_with fail
    go_ret2
    exact ⟨0, by rw [← Hq.out]; rfl, HGV.out, fun _ => rfl, fun R L a b c => absurd (by rw [Hq.out, a]; exact lkE_ok b c) Hq0.out⟩
end Go.Proofs.YtmemeloehgemcaaGreat
namespace Go.Proofs.YtmemeloehgemcaaGreat
open Go.RowKit Go.Shelf

theorem few_at {ok : Nat → Prop} {w : World} {b : Nat} {es : List Ent} {p : Pl} (B : Book ok w b es p) (c : Int) : (atC p es c).2.length ≤ 4 := by
  unfold atC
  split
  · split
    · rename_i e he
      exact B.parts e (List.mem_of_getElem? he)
    · exact Nat.zero_le _
  · exact Nat.zero_le _
theorem LBook.of {ok : Nat → Prop} {w : World} {b : Nat} {es : List Ent} {p : Pl} (B : Book ok w b es p) : LBook w (.pointer (some ⟨b, 0, none⟩)) (es.length : Int) (atC p es) := by
  refine ⟨fun X g => ?_, fun X t g => ⟨_, tcard_book ok b es p t X (B.keep g)⟩, few_at B⟩
  exact (len_yes b es.length (B.keep g).lies.len p X (B.keep g).lies.flags).mono fun e w' q => ⟨q.1, q.2.1⟩
theorem LIn.of {ok : Nat → Prop} {w : World} {b : Nat} {es : List Ent} {p : Pl} {vt vf : Value} {ts : List Th} {fs : List Fe} (B : Book ok w b es p) (T : thR.At w vt ts) (F : feR.At w vf fs) (hf : fs.length ≤ 4096) : LIn w (.pointer (some ⟨b, 0, none⟩)) vt vf (refE p ts.length) (es.length : Int) (atC p es) ts fs := by
  obtain ⟨q, c, rfl⟩ := T.form
  refine ⟨fun X g => lrefusal_book ok b es p q ts.length c X (B.keep g), fun h => ⟨LBook.of B, ?_⟩, T, F, fun _ => hf⟩
  unfold refE at h
  split at h
  · cases h
  · omega
theorem LIn.no {w : World} {v vt vf : Value} {ts : List Th} {fs : List Fe} (B : NoBk w v) (T : thR.At w vt ts) (F : feR.At w vf fs) : LIn w v vt vf 1 0 (fun _ => (Hd.none, [])) ts fs := by
  obtain ⟨q, c, rfl⟩ := T.form
  exact ⟨fun X g => lrefusal_no v q ts.length c X (B.keep g), fun h => absurd h (by decide), T, F, fun h => absurd h (by decide)⟩
end Go.Proofs.YtmemeloehgemcaaGreat
namespace Go.Proofs.YtmemeloehgemcaaGreat
open Go.RowKit Go.Shelf

theorem bgE_no {r n : Int} {cd : Int → Hd × List Pt} {ts : List Th} {fs : List Fe} {k : Int} (h : r ≠ 0) : bgE r n cd ts fs k = r := by
  unfold bgE
  rw [lkE_no h, if_neg h]
def TabB (w : World) (g : Nat) (vt vf : Value) : Prop := w.heap[g]? = some (.cells #[vt, vf] 29 (0, 0))
theorem tab_box {w : World} {g : Nat} {vt vf : Value} (h : TabB w g vt vf) : w.cell? ⟨g, 0, none⟩ = some vt ∧ w.cell? ⟨g, 1, none⟩ = some vf := ⟨(block_cell h 0).trans rfl, (block_cell h 1).trans rfl⟩
theorem nil_sd (w : World) : sdR.At w (.slice none 0 0) [] := ⟨none, 0, rfl, Nat.zero_le _, fun h => absurd h (Nat.lt_irrefl 0)⟩
end Go.Proofs.YtmemeloehgemcaaGreat
namespace Go.Proofs.YtmemeloehgemcaaGreat
open Go.RowKit

def tgOk (b : Nat) (k : Nat) : Prop := b < k
end Go.Proofs.YtmemeloehgemcaaGreat
