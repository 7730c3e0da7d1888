/-
  Layers: what all calls look at first: look, begin.
-/
import Derived.Test.YthfjgpjcepmnmaaGreatLyW
namespace Go.Proofs.YthfjgpjcepmnmaaGreat
open Go.RowKit

def lkE (r : Int) (n : Int) (cd : Int → Hd × List Pt) (ts : List Th) (fs : List Fe) (S : List Sd) : Int := if r = 0 then (match tabR n cd ts fs with | none => 2 | some R => match listF R S [] with | none => 2 | some _ => 0) else r
theorem lkE_no {r n : Int} {cd : Int → Hd × List Pt} {ts : List Th} {fs : List Fe} {S : List Sd} (h : r ≠ 0) : lkE r n cd ts fs S = r := if_neg h
theorem lkE_tab {n : Int} {cd : Int → Hd × List Pt} {ts : List Th} {fs : List Fe} {S : List Sd} (h : tabR n cd ts fs = none) : lkE 0 n cd ts fs S = 2 := by unfold lkE; rw [if_pos rfl, h]
theorem lkE_list {n : Int} {cd : Int → Hd × List Pt} {ts : List Th} {fs : List Fe} {S : List Sd} {R : List Rw} (h : tabR n cd ts fs = some R) (h2 : listF R S [] = none) : lkE 0 n cd ts fs S = 2 := by unfold lkE; rw [if_pos rfl, h]; simp only; rw [h2]
theorem lkE_ok {n : Int} {cd : Int → Hd × List Pt} {ts : List Th} {fs : List Fe} {S : List Sd} {R : List Rw} {L : List Se} (h : tabR n cd ts fs = some R) (h2 : listF R S [] = some L) : lkE 0 n cd ts fs S = 0 := by unfold lkE; rw [if_pos rfl, h]; simp only; rw [h2]
structure LIn (w : World) (bv vt vf : Value) (r n : Int) (cd : Int → Hd × List Pt) (ts : List Th) (fs : List Fe) : Prop where
  ref : ∀ X, w.grownBy X none → Calls Tryz.prog 155 #[bv, vt] X fun e w' => e = .returned (.int .i64 r) ∧ X.grownBy w' none
  book : r = 0 → LBook w bv n cd ∧ ts.length ≤ 2048
  things : thR.At w vt ts
  feats : feR.At w vf fs
  few : r = 0 → fs.length ≤ 4096
theorem LIn.keep {w w' : World} {bv vt vf : Value} {r n : Int} {cd : Int → Hd × List Pt} {ts : List Th} {fs : List Fe} (h : LIn w bv vt vf r n cd ts fs) (g : w.grownBy w' none) : LIn w' bv vt vf r n cd ts fs := ⟨fun X q => h.ref X (grown_trans g q), fun q => ⟨(h.book q).1.keep g, (h.book q).2⟩, h.things.keep g, h.feats.keep g, h.few⟩
def LkPost (w : World) (r n : Int) (cd : Int → Hd × List Pt) (ts : List Th) (fs : List Fe) (S : List Sd) (e : Ending) (w' : World) : Prop := ∃ p1 m1 c1 p2 m2 c2 p3 m3 c3, e = .returned (.tuple #[tbv (.slice p1 m1 c1) (.slice p2 m2 c2), .slice p3 m3 c3, .int .i64 (lkE r n cd ts fs S)]) ∧ w.grownBy w' none ∧ ∀ R L, r = 0 → tabR n cd ts fs = some R → listF R S [] = some L → ∃ X, rws X = R ∧ TbO w' w.heap.size (.slice p1 m1 c1) (.slice p2 m2 c2) X (pickF R fs) ∧ (∀ x ∈ X, 1 ≤ x.r.nu ∧ x.r.nu ≤ (fs.length : Int)) ∧ SOwn w' w.heap.size (.slice p3 m3 c3) L
theorem LkPost.no {w w' : World} {r n : Int} {cd : Int → Hd × List Pt} {ts : List Th} {fs : List Fe} {S : List Sd} {q : Int} (h : lkE r n cd ts fs S = q) (hq : q ≠ 0) (g : w.grownBy w' none) : LkPost w r n cd ts fs S (.returned (.tuple #[.agg #[.slice none 0 0, .slice none 0 0], .slice none 0 0, .int .i64 q])) w' := ⟨none, 0, 0, none, 0, 0, none, 0, 0, by rw [h]; rfl, g, fun R L h0 h1 h2 => by rw [h0, lkE_ok h1 h2] at h; exact absurd h.symm hq⟩
set_option maxRecDepth 100000 in
set_option maxHeartbeats 4000000 in
theorem llook_any (bv vt vf vs : Value) (r n : Int) (cd : Int → Hd × List Pt) (ts : List Th) (fs : List Fe) (S : List Sd) (w : World) (I : LIn w bv vt vf r n cd ts fs) (A : sdR.At w vs S) (hl : S.length ≤ 4096) : Calls Tryz.prog 89 #[bv, vt, vf, vs] w (LkPost w r n cd ts fs S) := by
  obtain ⟨pt, ct, rfl⟩ := I.things.form
  obtain ⟨pf, cf, rfl⟩ := I.feats.form
  obtain ⟨pl, cl, rfl⟩ := A.form
  obtain ⟨W1, hW1⟩ : ∃ W1, W1 = w.alloc (.cells #[.slice none 0 0, .slice none 0 0] 161) := ⟨_, rfl⟩
  have HG1 : Hid (w.grownBy W1 none) := by rw [hW1]; exact World.grownBy_alloc _ _ none
  have HR : Hid (TbB W1 w.heap.size (.slice none 0 0) (.slice none 0 0)) := by rw [hW1]; exact alloc_at w _ _
  have HI : Hid (LIn W1 bv (.slice pt ts.length ct) (.slice pf fs.length cf) r n cd ts fs) := I.keep HG1.out
  have HA : Hid (sdR.At W1 (.slice pl S.length cl) S) := A.keep HG1.out
  have Hl : Hid (S.length ≤ 4096) := hl
  have HRf := HI.out.ref W1 (grown_refl _ _)
  clear I A hl
  go_enter Tryz.func89, Tryz.ntmps89
  go_upto_region 1 with fail
  rw [← hW1]
  clear hW1
  obtain ⟨n0, h0⟩ : ∃ n0, n0 = w.heap.size := ⟨_, rfl⟩
  have Hn0 : Hid (w.heap.size ≤ n0 ∧ n0 < W1.heap.size) := ⟨by rw [h0]; exact Nat.le_refl _, by rw [h0]; exact block_lt HR.out⟩
  simp only [← h0] at HR ⊢
  clear h0
  go_wp2_with fail
  refine HRf.mono ?_
  rintro e2 w2 ⟨rfl, g2⟩
  have HG2 : Hid (W1.grownBy w2 none) := g2
  have HR2 : Hid (TbB w2 n0 (.slice none 0 0) (.slice none 0 0)) := grown_keep g2 HR.out (by simp)
  clear HRf g2
  by_cases hr : r = 0
  · obtain ⟨hB, hts⟩ := HI.out.book hr
    have HLy := llay_any bv _ _ n cd ts fs w2 (hB.keep HG2.out) (HI.out.things.keep HG2.out) (HI.out.feats.keep HG2.out) hts (HI.out.few hr)
    have e1 : (r != 0) = false := by simpa using hr
    have Hr : Hid (r = 0) := hr
    clear hr hB hts
    go_wp2_with fail
    refine HLy.mono ?_
    intro e3 w3 Q3
    obtain ⟨p1, m1, c1, p2, m2, c2, rfl, g3, h3⟩ := Q3.tab
    unfold tbv
    obtain ⟨V, hV⟩ : ∃ V, V = w3.alloc (.cells #[.slice p1 m1 c1, .slice p2 m2 c2] 161) := ⟨_, rfl⟩
    have HG3 : Hid (w2.grownBy V none) := by rw [hV]; exact grown_push g3 _
    have HBt : Hid (TbB V w3.heap.size (.slice p1 m1 c1) (.slice p2 m2 c2)) := by rw [hV]; exact alloc_at _ _ _
    have HRV : Hid (TbB V n0 (.slice none 0 0) (.slice none 0 0)) := grown_keep HG3.out HR2.out (by simp)
    have HGW : Hid (W1.grownBy V none) := grown_trans HG2.out HG3.out
    have H3 : Hid (∀ R, tabR n cd ts fs = some R → ∃ X, rws X = R ∧ TbO V w2.heap.size (.slice p1 m1 c1) (.slice p2 m2 c2) X (pickF R fs) ∧ ∀ x ∈ X, 1 ≤ x.r.nu ∧ x.r.nu ≤ (fs.length : Int)) := fun R q => by
      obtain ⟨X, a, b, c⟩ := h3 R q
      exact ⟨X, a, b.grow (by rw [hV]; exact World.grownBy_alloc _ _ none), c⟩
    clear HLy Q3 g3 h3
    cases ht : tabR n cd ts fs with
    | none =>
      have HX : Hid (lkE r n cd ts fs S = 2) := by rw [Hr.out]; exact lkE_tab ht
      clear ht
      go_upto_region 5 with fail
      rw [← hV]
      obtain ⟨r0, r1⟩ := tb_zero HRV.out
      have rf := fun i => block_free HRV.out i
      clear hV
      go_wp2_with fail
      refine bodyPost_ret (v := .tuple #[.agg #[.slice none 0 0, .slice none 0 0], .slice none 0 0, .int .i64 2]) (by simp [results, Tryz.results89, go_sem, r0, r1]) rfl (LkPost.no HX.out (by decide) ?_)
      exact grown_set2 (grown_set2 (grown_trans HG1.out HGW.out) Hn0.out.1 _ _) Hn0.out.1 _ _
    | some R =>
      obtain ⟨X, hX, hT, hnu⟩ := H3.out R ht
      have HT : Hid (rws X = R ∧ TbO V w2.heap.size (.slice p1 m1 c1) (.slice p2 m2 c2) X (pickF R fs) ∧ ∀ x ∈ X, 1 ≤ x.r.nu ∧ x.r.nu ≤ (fs.length : Int)) := ⟨hX, hT, hnu⟩
      have HLi := llist_any _ _ _ X (pickF R fs) S V hT.at (HA.out.keep HGW.out) Hl.out
      unfold LiPost tbv at HLi
      have Ht : Hid (tabR n cd ts fs = some R) := ht
      rw [hX] at HLi
      clear ht H3 hX hT hnu
      go_upto_region 5 with fail
      rw [← hV]
      obtain ⟨nc, hnc⟩ : ∃ nc, nc = w3.heap.size := ⟨_, rfl⟩
      rw [← hnc] at HBt ⊢
      clear hV hnc
      obtain ⟨t0, t1⟩ := tb_box HBt.out
      go_wp2_with fail
      refine HLi.mono ?_
      rintro e5 w5 ⟨p3, m3, c3, b5, rfl, g5, hb5, h5⟩
      have HG5 : Hid (V.grownBy w5 none) := g5
      have H5 : Hid (∀ L, listF R S [] = some L → SOwn w5 V.heap.size (.slice p3 m3 c3) L) := h5
      have HR5 : Hid (TbB w5 n0 (.slice none 0 0) (.slice none 0 0)) := grown_keep g5 HRV.out (by simp)
      have HB5 : Hid (TbB w5 nc (.slice p1 m1 c1) (.slice p2 m2 c2)) := grown_keep g5 HBt.out (by simp)
      have HGw5 : Hid (w.grownBy w5 none) := grown_trans HG1.out (grown_trans HGW.out g5)
      clear HLi g5 h5 t0 t1
      obtain ⟨r0, r1⟩ := tb_zero HR5.out
      have rf := fun i => block_free HR5.out i
      cases hls : listF R S [] with
      | none =>
        rw [hls] at hb5
        subst hb5
        have HX : Hid (lkE r n cd ts fs S = 2) := by rw [Hr.out]; exact lkE_list Ht.out hls
        clear hls
        simp only [Option.isSome_none]
        go_wp2_with fail
        refine bodyPost_ret (v := .tuple #[.agg #[.slice none 0 0, .slice none 0 0], .slice none 0 0, .int .i64 2]) (by simp [results, Tryz.results89, go_sem, r0, r1]) rfl (LkPost.no HX.out (by decide) ?_)
        exact grown_set2 (grown_set2 HGw5.out Hn0.out.1 _ _) Hn0.out.1 _ _
      | some L =>
        rw [hls] at hb5
        subst hb5
        have HX : Hid (lkE r n cd ts fs S = 0) := by rw [Hr.out]; exact lkE_ok Ht.out hls
        have Hls : Hid (listF R S [] = some L) := hls
        clear hls
        simp only [Option.isSome_some]
        obtain ⟨t0, t1⟩ := tb_box HB5.out
        have Hnc : Hid (n0 < V.heap.size ∧ w.heap.size ≤ V.heap.size) := ⟨Nat.lt_of_lt_of_le Hn0.out.2 HGW.out.size, Nat.le_trans HG1.out.size HGW.out.size⟩
        go_wp2_with fail
        refine bodyPost_ret (v := .tuple #[.agg #[.slice p1 m1 c1, .slice p2 m2 c2], .slice p3 m3 c3, .int .i64 0]) (by simp [results, Tryz.results89, go_sem, r0, r1]) rfl ⟨p1, m1, c1, p2, m2, c2, p3, m3, c3, by rw [HX.out]; rfl, ?_, fun R' L' _ q1 q2 => ?_⟩
        · exact grown_set2 (grown_set2 HGw5.out Hn0.out.1 _ _) Hn0.out.1 _ _
        · rw [Ht.out] at q1
          cases q1
          rw [Hls.out] at q2
          cases q2
          have q1 := grown_trans (grown_set w5 n0 0 (.slice p1 m1 c1)) (grown_set (w5.setCell ⟨n0, 0, none⟩ (.slice p1 m1 c1)) n0 1 (.slice p2 m2 c2))
          refine ⟨X, HT.out.1, ?_, HT.out.2.2, own_big (own_far (H5.out L Hls.out) q1 Hnc.out.1) Hnc.out.2⟩
          exact ((HT.out.2.1.grow HG5.out).far q1 (Nat.lt_of_lt_of_le Hn0.out.2 HG2.out.size)).big (Nat.le_trans HG1.out.size HG2.out.size)
  · have e1 : (r != 0) = true := by simpa using hr
    have HX : Hid (lkE r n cd ts fs S = r) := lkE_no hr
    have Hr : Hid (r ≠ 0) := hr
    clear hr
    obtain ⟨r0, r1⟩ := tb_zero HR2.out
    have rf := fun i => block_free HR2.out i
    go_wp2_with fail
    refine bodyPost_ret (v := .tuple #[.agg #[.slice none 0 0, .slice none 0 0], .slice none 0 0, .int .i64 r]) (by simp [results, Tryz.results89, go_sem, r0, r1]) rfl (LkPost.no HX.out Hr.out ?_)
    exact grown_set2 (grown_set2 (grown_trans HG1.out HG2.out) Hn0.out.1 _ _) Hn0.out.1 _ _
def bgE (r n : Int) (cd : Int → Hd × List Pt) (ts : List Th) (fs : List Fe) (k : Int) : Int := if lkE r n cd ts fs [] = 0 then (if 1 ≤ k ∧ k ≤ 5 then 0 else 2) else lkE r n cd ts fs []
def BgPost (w : World) (r n : Int) (cd : Int → Hd × List Pt) (ts : List Th) (fs : List Fe) (k : Int) (e : Ending) (w' : World) : Prop := ∃ p1 m1 c1 p2 m2 c2 p3 m3 c3, e = .returned (.tuple #[tbv (.slice p1 m1 c1) (.slice p2 m2 c2), .slice p3 m3 c3, .int .i64 (bgE r n cd ts fs k)]) ∧ w.grownBy w' none ∧ ∀ R, r = 0 → 1 ≤ k ∧ k ≤ 5 → tabR n cd ts fs = some R → ∃ X, rws X = R ∧ TbO w' w.heap.size (.slice p1 m1 c1) (.slice p2 m2 c2) X (pickF R fs) ∧ (∀ x ∈ X, 1 ≤ x.r.nu ∧ x.r.nu ≤ (fs.length : Int)) ∧ SOwn w' w.heap.size (.slice p3 m3 c3) (effL R (pickF R fs) k)
theorem lkE_nil {r n : Int} {cd : Int → Hd × List Pt} {ts : List Th} {fs : List Fe} (h : lkE r n cd ts fs [] = 0) : r = 0 ∧ ∃ R, tabR n cd ts fs = some R := by
  unfold lkE at h
  split at h
  · rename_i h0
    refine ⟨h0, ?_⟩
    cases ht : tabR n cd ts fs with
    | none => rw [ht] at h; cases h
    | some R => exact ⟨R, rfl⟩
  · rename_i h0
    exact absurd h h0
theorem lkE_tabs {n : Int} {cd : Int → Hd × List Pt} {ts : List Th} {fs : List Fe} {R : List Rw} (h : tabR n cd ts fs = some R) : lkE 0 n cd ts fs [] = 0 := lkE_ok (L := []) h rfl
theorem BgPost.no {w w' : World} {r n : Int} {cd : Int → Hd × List Pt} {ts : List Th} {fs : List Fe} {k : Int} {q : Int} (h : bgE r n cd ts fs k = q) (hq : q ≠ 0) (g : w.grownBy w' none) : BgPost w r n cd ts fs k (.returned (.tuple #[.agg #[.slice none 0 0, .slice none 0 0], .slice none 0 0, .int .i64 q])) w' := ⟨none, 0, 0, none, 0, 0, none, 0, 0, by rw [h]; rfl, g, fun R h0 h1 h2 => by unfold bgE at h; rw [h0, if_pos (lkE_tabs h2), if_pos h1] at h; exact absurd h.symm hq⟩
set_option maxRecDepth 100000 in
set_option maxHeartbeats 4000000 in
theorem lbegin_any (bv vt vf : Value) (r n : Int) (cd : Int → Hd × List Pt) (ts : List Th) (fs : List Fe) (k : Int) (w : World) (I : LIn w bv vt vf r n cd ts fs) : Calls Tryz.prog 97 #[bv, vt, vf, .int .i64 k] w (BgPost w r n cd ts fs k) := by
  obtain ⟨pt, ct, rfl⟩ := I.things.form
  obtain ⟨pf, cf, rfl⟩ := I.feats.form
  obtain ⟨W1, hW1⟩ : ∃ W1, W1 = w.alloc (.cells #[.slice none 0 0, .slice none 0 0] 161) := ⟨_, rfl⟩
  have HG1 : Hid (w.grownBy W1 none) := by rw [hW1]; exact World.grownBy_alloc _ _ none
  have HR : Hid (TbB W1 w.heap.size (.slice none 0 0) (.slice none 0 0)) := by rw [hW1]; exact alloc_at w _ _
  have HLk := llook_any bv _ _ (.slice none 0 0) r n cd ts fs [] W1 (I.keep HG1.out) (RecT.At.nil _ _) (Nat.zero_le _)
  unfold LkPost tbv at HLk
  clear I
  go_enter Tryz.func97, Tryz.ntmps97
  go_upto_region 1 with fail
  rw [← hW1]
  clear hW1
  obtain ⟨n0, h0⟩ : ∃ n0, n0 = w.heap.size := ⟨_, rfl⟩
  have Hn0 : Hid (w.heap.size ≤ n0 ∧ n0 < W1.heap.size) := ⟨by rw [h0]; exact Nat.le_refl _, by rw [h0]; exact block_lt HR.out⟩
  simp only [← h0] at HR ⊢
  clear h0
  go_wp2_with fail
  refine HLk.mono ?_
  rintro e2 w2 ⟨p1, m1, c1, p2, m2, c2, p3, m3, c3, rfl, g2, h2⟩
  obtain ⟨q, hq⟩ : ∃ q, q = lkE r n cd ts fs [] := ⟨_, rfl⟩
  have Hq : Hid (q = lkE r n cd ts fs []) := hq
  rw [← hq]
  obtain ⟨V, hV⟩ : ∃ V, V = w2.alloc (.cells #[.slice p1 m1 c1, .slice p2 m2 c2] 161) := ⟨_, rfl⟩
  have HGV : Hid (W1.grownBy V none) := by rw [hV]; exact grown_push g2 _
  have HBt : Hid (TbB V w2.heap.size (.slice p1 m1 c1) (.slice p2 m2 c2)) := by rw [hV]; exact alloc_at _ _ _
  have HRV : Hid (TbB V n0 (.slice none 0 0) (.slice none 0 0)) := grown_keep HGV.out HR.out (by simp)
  have H2 : Hid (∀ R, r = 0 → tabR n cd ts fs = some R → ∃ X, rws X = R ∧ TbO V W1.heap.size (.slice p1 m1 c1) (.slice p2 m2 c2) X (pickF R fs) ∧ ∀ x ∈ X, 1 ≤ x.r.nu ∧ x.r.nu ≤ (fs.length : Int)) := fun R a b => by
    obtain ⟨X, x1, x2, x3, _⟩ := h2 R [] a b rfl
    exact ⟨X, x1, x2.grow (by rw [hV]; exact World.grownBy_alloc _ _ none), x3⟩
  have Hsz : Hid (W1.heap.size ≤ w2.heap.size) := g2.size
  clear HLk g2 h2 hq
  go_upto_region 2 with fail
  rw [← hV]
  obtain ⟨nb, hnb⟩ : ∃ nb, nb = w2.heap.size := ⟨_, rfl⟩
  rw [← hnb] at HBt ⊢
  have Hnb : Hid (some nb ≠ some n0) := by show _ ≠ _; rw [hnb]; intro q; have := Option.some.inj q; have := Hn0.out.2; have := Hsz.out; omega
  clear hV hnb
  obtain ⟨r0, r1⟩ := tb_zero HRV.out
  have rf := fun i => block_free HRV.out i
  by_cases hq0 : q = 0
  · have e1 : (q != 0) = false := by simpa using hq0
    obtain ⟨hr0, R, hR⟩ := lkE_nil (Hq.out.symm.trans hq0)
    obtain ⟨X, hX, hT, hnu⟩ := H2.out R hr0 hR
    have HT : Hid (rws X = R ∧ TbO V W1.heap.size (.slice p1 m1 c1) (.slice p2 m2 c2) X (pickF R fs) ∧ ∀ x ∈ X, 1 ≤ x.r.nu ∧ x.r.nu ≤ (fs.length : Int)) := ⟨hX, hT, hnu⟩
    have HtR : Hid (tabR n cd ts fs = some R) := hR
    have Hq0 : Hid (lkE r n cd ts fs [] = 0) := Hq.out.symm.trans hq0
    clear hr0 hX hT hnu hR H2 hq0
    by_cases hk1 : k < 1
    · have HX : Hid (bgE r n cd ts fs k = 2) := by show _ = _; unfold bgE; rw [if_pos Hq0.out, if_neg (by omega)]
      go_wp2_with fail
      refine bodyPost_ret (v := .tuple #[.agg #[.slice none 0 0, .slice none 0 0], .slice none 0 0, .int .i64 2]) (by simp [results, Tryz.results97, go_sem, r0, r1]) rfl (BgPost.no HX.out (by decide) ?_)
      exact grown_set2 (grown_set2 (grown_trans HG1.out HGV.out) Hn0.out.1 _ _) Hn0.out.1 _ _
    · have e2 : decide (k < 1) = false := decide_eq_false hk1
      by_cases hk2 : 5 < k
      · have HX : Hid (bgE r n cd ts fs k = 2) := by show _ = _; unfold bgE; rw [if_pos Hq0.out, if_neg (by omega)]
        clear hk1
        go_wp2_with fail
        refine bodyPost_ret (v := .tuple #[.agg #[.slice none 0 0, .slice none 0 0], .slice none 0 0, .int .i64 2]) (by simp [results, Tryz.results97, go_sem, r0, r1]) rfl (BgPost.no HX.out (by decide) ?_)
        exact grown_set2 (grown_set2 (grown_trans HG1.out HGV.out) Hn0.out.1 _ _) Hn0.out.1 _ _
      · have e3 : decide (5 < k) = false := decide_eq_false hk2
        have HX : Hid (bgE r n cd ts fs k = 0) := by show _ = _; unfold bgE; rw [if_pos Hq0.out, if_pos (by omega)]
        have HE := leffects_any _ _ X (pickF R fs) k V.drew (HT.out.2.1.at.keep (grown_drew _))
        unfold tbv at HE
        obtain ⟨t0, t1⟩ := tb_box HBt.out
        have dd : some nb ≠ some n0 := Hnb.out
        clear hk1 hk2
        go_upto_region 6 with fail
        refine wp_region_held_drew (S := fun w' => V.grownBy w' (some n0)) (by kernel_rfl) (grown_drewR _ _) (fun hHeld => ?_)
        refine wpAnyH_take (i := 0) (v := ?_) rfl (by kernel_rfl) (by kernel_rfl) (by kernel_rfl) (fun _ _ _ h => h) (Or.inl ⟨by rfl, ?_⟩) (by assumption) ?_
        rotate_left 1
        · (intro w0 hSw; have t0 := hSw.cell t0 dd; have t1 := hSw.cell t1 dd; go_simp; try with_reducible rfl)
        simp only [List.getElem_toArray, List.getElem_cons_zero]
        go_frame
        refine wpAnyH_take (i := 1) (v := ?_) rfl (by kernel_rfl) (by kernel_rfl) (by kernel_rfl) (fun _ _ _ h => h) (Or.inl ⟨by rfl, ?_⟩) (by assumption) ?_
        rotate_left 1
        · (intro w0 hSw; have t0 := hSw.cell t0 dd; have t1 := hSw.cell t1 dd; go_simp; try with_reducible rfl)
        simp only [List.getElem_toArray, List.getElem_cons_zero, List.getElem_cons_succ]
        go_frame
        refine wpAnyH_take (i := 2) (v := ?_) rfl (by kernel_rfl) (by kernel_rfl) (by kernel_rfl) (fun _ _ _ h => h) (Or.inl ⟨by rfl, ?_⟩) (by assumption) ?_
        rotate_left 1
        · (intro w0 hSw; go_simp; try with_reducible rfl)
        simp only [List.getElem_toArray, List.getElem_cons_zero, List.getElem_cons_succ]
        go_frame
        refine wpAnyH_ready (rs := [3]) (by kernel_rfl) (by simp) ?_
        refine AllReadyH.cons rfl (fun K hK => ?_) AllReadyH.nil
        simp only [List.getElem_toArray, List.getElem_cons_zero, List.getElem_cons_succ]
        go_simp
        go_at_call 167
        refine (HE).mono ?_
        rintro e5 w5 ⟨v5, rfl, o5, g5⟩
        obtain ⟨p5, c5, rfl⟩ := o5.form
        have HG5 : Hid (V.grownBy w5 none) := grown_trans (grown_drew _) g5
        have HO5 : Hid (SOwn w5 V.heap.size (.slice p5 (effL (rws X) (pickF R fs) k).length c5) (effL (rws X) (pickF R fs) k)) := o5
        obtain ⟨m5, hm5⟩ : ∃ m5, m5 = (effL (rws X) (pickF R fs) k).length := ⟨_, rfl⟩
        rw [← hm5] at HO5 ⊢
        have HO5' : Hid (w5.ownsRow V.heap.size 167 11 (.slice p5 m5 c5) (effL (rws X) (pickF R fs) k).length (seR.cs (effL (rws X) (pickF R fs) k))) := HO5.out
        have HR5 : Hid (TbB w5 n0 (.slice none 0 0) (.slice none 0 0)) := grown_keep HG5.out HRV.out (by simp)
        clear g5 o5 HE hm5 t0 t1 r0 r1 rf
        obtain ⟨r0, r1⟩ := tb_zero HR5.out
        have rf := fun i => block_free HR5.out i
        refine hK.out _ _ (grown_some HG5.out _) (fun hHeld2 => ?_)
        clear hK K
        (try go_frame)
        refine wpAnyH_ready (rs := [4]) (by kernel_rfl) (by simp) ?_
        refine AllReadyH.cons rfl (fun K9 hK => ?_) AllReadyH.nil
        simp only [List.getElem_toArray, List.getElem_cons_zero, List.getElem_cons_succ]
        go_simp
        refine hK.out _ _ (grown_trans (grown_some HG5.out _) (grown_trans (grown_set _ _ _ _) (grown_set _ _ _ _))) (fun hHeld3 => ?_)
        clear hK K9
        (try go_frame)
        refine wpAnyH_take (i := 5) (v := ?_) rfl (by kernel_rfl) (by kernel_rfl) (by kernel_rfl) (fun _ _ _ h => h) (Or.inl ⟨by rfl, ?_⟩) (by assumption) ?_
        rotate_left 1
        · (intro w0 hSw; go_simp; try with_reducible rfl)
        simp only [List.getElem_toArray, List.getElem_cons_zero, List.getElem_cons_succ]
        go_frame
        refine wpAnyH_take (i := 6) (v := ?_) rfl (by kernel_rfl) (by kernel_rfl) (by kernel_rfl) (fun _ _ _ h => h) (Or.inl ⟨by rfl, ?_⟩) (by assumption) ?_
        rotate_left 1
        · (intro w0 hSw; go_simp; try with_reducible rfl)
        simp only [List.getElem_toArray, List.getElem_cons_zero, List.getElem_cons_succ]
        go_frame
        refine wpAnyH_done (by kernel_rfl) ?_ _
        go_wp2_with fail
        refine bodyPost_ret (v := .tuple #[.agg #[.slice p1 m1 c1, .slice p2 m2 c2], .slice p5 m5 c5, .int .i64 0]) (by simp [results, Tryz.results97, go_sem, r0, r1]) rfl ⟨p1, m1, c1, p2, m2, c2, p5, m5, c5, by rw [HX.out]; rfl, ?_, fun R' _ _ q1 => ?_⟩
        · exact grown_set2 (grown_set2 (grown_trans HG1.out (grown_trans HGV.out HG5.out)) Hn0.out.1 _ _) Hn0.out.1 _ _
        · rw [HtR.out] at q1
          cases q1
          have q1 := grown_trans (grown_set w5 n0 0 (.slice p1 m1 c1)) (grown_set (w5.setCell ⟨n0, 0, none⟩ (.slice p1 m1 c1)) n0 1 (.slice p2 m2 c2))
          refine ⟨X, HT.out.1, ((HT.out.2.1.grow HG5.out).far q1 Hn0.out.2).big HG1.out.size, HT.out.2.2, ?_⟩
          rw [← HT.out.1]
          rw [HT.out.1]
          rw [show pickF R fs = pickF R fs from rfl]
          have q2 := own_big (own_far HO5'.out q1 (Nat.lt_of_lt_of_le Hn0.out.2 HGV.out.size)) (Nat.le_trans HG1.out.size HGV.out.size)
          rw [HT.out.1] at q2
          exact q2
  · have e1 : (q != 0) = true := by simpa using hq0
    have HX : Hid (bgE r n cd ts fs k = q) := by show _ = _; unfold bgE; rw [if_neg (by rw [← Hq.out]; exact hq0)]; exact Hq.out.symm
    have Hq0 : Hid (q ≠ 0) := hq0
    clear hq0
    go_wp2_with fail
    refine bodyPost_ret (v := .tuple #[.agg #[.slice none 0 0, .slice none 0 0], .slice none 0 0, .int .i64 q]) (by simp [results, Tryz.results97, go_sem, r0, r1]) rfl (BgPost.no HX.out Hq0.out ?_)
    exact grown_set2 (grown_set2 (grown_trans HG1.out HGV.out) Hn0.out.1 _ _) Hn0.out.1 _ _
end Go.Proofs.YthfjgpjcepmnmaaGreat
