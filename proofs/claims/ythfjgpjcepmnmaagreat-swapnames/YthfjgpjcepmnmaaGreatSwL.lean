/-
  Swaps: the next swap that was not used and swaps an event.
-/
import Derived.Test.YthfjgpjcepmnmaaGreatSwK
namespace Go.Proofs.YthfjgpjcepmnmaaGreat
open Go.RowKit

theorem set10_some (b : World) (c : Nat) (v0 v1 v2 v3 v4 v5 v6 v7 v8 v9 : Value) : b.grownBy ((((((((((b.setCell ⟨c, 0, none⟩ v0).setCell ⟨c, 1, none⟩ v1).setCell ⟨c, 2, none⟩ v2).setCell ⟨c, 3, none⟩ v3).setCell ⟨c, 4, none⟩ v4).setCell ⟨c, 5, none⟩ v5).setCell ⟨c, 6, none⟩ v6).setCell ⟨c, 7, none⟩ v7).setCell ⟨c, 8, none⟩ v8).setCell ⟨c, 9, none⟩ v9) (some c) := ((((((((((grown_set _ _ _ _).trans (grown_set _ _ _ _)).trans (grown_set _ _ _ _)).trans (grown_set _ _ _ _)).trans (grown_set _ _ _ _)).trans (grown_set _ _ _ _)).trans (grown_set _ _ _ _)).trans (grown_set _ _ _ _)).trans (grown_set _ _ _ _)).trans (grown_set _ _ _ _))
theorem grown_set10 {a b : World} {c : Nat} (h : a.grownBy b none) (hc : a.heap.size ≤ c) (v0 v1 v2 v3 v4 v5 v6 v7 v8 v9 : Value) : a.grownBy ((((((((((b.setCell ⟨c, 0, none⟩ v0).setCell ⟨c, 1, none⟩ v1).setCell ⟨c, 2, none⟩ v2).setCell ⟨c, 3, none⟩ v3).setCell ⟨c, 4, none⟩ v4).setCell ⟨c, 5, none⟩ v5).setCell ⟨c, 6, none⟩ v6).setCell ⟨c, 7, none⟩ v7).setCell ⟨c, 8, none⟩ v8).setCell ⟨c, 9, none⟩ v9) none := grown_own h (set10_some b c v0 v1 v2 v3 v4 v5 v6 v7 v8 v9) (fun y e => by cases e; exact hc)
theorem set10_sd {b : World} {c : Nat} {x : Sd} (s : Sd) (H : SdB b c x) : SdB ((((((((((b.setCell ⟨c, 0, none⟩ (.int .i64 s.th)).setCell ⟨c, 1, none⟩ (.int .i64 s.pl)).setCell ⟨c, 2, none⟩ (.int .u8 s.wh.wn)).setCell ⟨c, 3, none⟩ (.int .u8 s.wh.vb)).setCell ⟨c, 4, none⟩ (.int .u8 s.wh.wm)).setCell ⟨c, 5, none⟩ (.int .i64 s.wh.ct)).setCell ⟨c, 6, none⟩ (.int .u8 s.wh.su)).setCell ⟨c, 7, none⟩ (.int .u8 s.wh.tr)).setCell ⟨c, 8, none⟩ (.int .u8 s.wh.mr)).setCell ⟨c, 9, none⟩ (.string s.wh.nm)) c s := by
  unfold SdB at H ⊢
  have h0 := block_set H 0 (.int .i64 s.th)
  have h1 := block_set h0 1 (.int .i64 s.pl)
  have h2 := block_set h1 2 (.int .u8 s.wh.wn)
  have h3 := block_set h2 3 (.int .u8 s.wh.vb)
  have h4 := block_set h3 4 (.int .u8 s.wh.wm)
  have h5 := block_set h4 5 (.int .i64 s.wh.ct)
  have h6 := block_set h5 6 (.int .u8 s.wh.su)
  have h7 := block_set h6 7 (.int .u8 s.wh.tr)
  have h8 := block_set h7 8 (.int .u8 s.wh.mr)
  have h9 := block_set h8 9 (.string s.wh.nm)
  simp only [List.setIfInBounds_toArray, List.set_cons_zero, List.set_cons_succ] at h9
  exact h9
def hpa (h : Hp) : Array Value := #[.int .u8 h.vb, .int .i64 h.on, .int .i64 h.ct, .int .i64 h.ho, .bool h.vn, .bool h.dr]
def sda (s : Sd) : Array Value := #[.int .i64 s.th, .int .i64 s.pl, .int .u8 s.wh.wn, .int .u8 s.wh.vb, .int .u8 s.wh.wm, .int .i64 s.wh.ct, .int .u8 s.wh.su, .int .u8 s.wh.tr, .int .u8 s.wh.mr, .string s.wh.nm]
theorem ne_of_big {a b c : Nat} (h : b ≤ a) (h' : c < b) : a ≠ c := by omega
theorem sd_zero {w : World} {g : Nat} (h : SdB w g Sd.none) : w.cell? ⟨g, 0, none⟩ = some (.int .i64 0) ∧ w.cell? ⟨g, 1, none⟩ = some (.int .i64 0) ∧ w.cell? ⟨g, 2, none⟩ = some (.int .u8 0) ∧ w.cell? ⟨g, 3, none⟩ = some (.int .u8 0) ∧ w.cell? ⟨g, 4, none⟩ = some (.int .u8 0) ∧ w.cell? ⟨g, 5, none⟩ = some (.int .i64 0) ∧ w.cell? ⟨g, 6, none⟩ = some (.int .u8 0) ∧ w.cell? ⟨g, 7, none⟩ = some (.int .u8 0) ∧ w.cell? ⟨g, 8, none⟩ = some (.int .u8 0) ∧ w.cell? ⟨g, 9, none⟩ = some (.string ⟨#[]⟩) := sd_box h
def SwOk (F : List Fe) (s : Sd) : Prop := ∃ (z : Nat) (g : Fe), s.th = (z : Int) + 1 ∧ F[z]? = some g ∧ (g.ho = 0 ∨ g.ho = 1) ∧ 16 ≤ s.wh.vb ∧ s.wh.vb ≤ 19
structure NIn (w : World) (bv vt vf vl : Value) (n : Int) (cd : Int → Hd × List Pt) (ts : List Th) (F : List Fe) (L : List Sd) : Prop where
  at1 : thR.At w vt ts
  at2 : feR.At w vf F
  at3 : sdR.At w vl L
  card : SCard w bv n cd
  len : ts.length = F.length
  few : ts.length ≤ 2048
  be : ∀ (j : Nat) t, ts[j]? = some t → 1 ≤ t.card ∧ t.card ≤ n
  ok : ∀ s ∈ L, SwOk F s
theorem NIn.keep {w w' : World} {bv vt vf vl : Value} {n : Int} {cd : Int → Hd × List Pt} {ts : List Th} {F : List Fe} {L : List Sd} (h : NIn w bv vt vf vl n cd ts F L) (q : w.grownBy w' none) : NIn w' bv vt vf vl n cd ts F L := ⟨h.at1.keep q, h.at2.keep q, h.at3.keep q, h.card.keep q, h.len, h.few, h.be, h.ok⟩
theorem NIn.one {w : World} {bv vt vf vl : Value} {n : Int} {cd : Int → Hd × List Pt} {ts : List Th} {F : List Fe} {L : List Sd} {s : Sd} (h : NIn w bv vt vf vl n cd ts F L) (hs : SwOk F s) : ∃ z g, AIn w bv vt vf n cd ts F s z g ∧ g.ho = hoN F s.th ∧ 16 ≤ s.wh.vb ∧ s.wh.vb ≤ 19 := by
  obtain ⟨z, g, a, b, c, d, e⟩ := hs
  exact ⟨z, g, ⟨h.at1, h.at2, h.card, a, b, c, h.len, h.few, h.be⟩, (hoN_at a b).symm, d, e⟩
def behH (F : List Fe) (s : Sd) (h : Hp) : Hp := behW s (hoN F s.th) h
def nxtA (F : List Fe) (h : Hp) : Option Sd → Hp
  | none => Hp.none
  | some s => behH F s h
def nxtS : Option Sd → Sd
  | none => Sd.none
  | some s => s
theorem sfind_no {p : Sd → Bool} {L : List Sd} {k : Nat} {s : Sd} (h : (L.take k).find? p = none) (hs : L[k]? = some s) (hp : p s = false) : (L.take (k + 1)).find? p = none := by
  rw [List.take_add_one, hs, List.find?_append, h]
  simp [hp]
theorem sfind_yes {p : Sd → Bool} {L : List Sd} {k : Nat} {s : Sd} (h : (L.take k).find? p = none) (hs : L[k]? = some s) (hp : p s = true) : L.find? p = some s := by
  have hk := (List.getElem?_eq_some_iff.1 hs)
  obtain ⟨hk1, hk2⟩ := hk
  rw [← List.take_append_drop k L, List.find?_append, h, List.drop_eq_getElem_cons hk1, hk2]
  simp [hp]
theorem wrap_max {k n : Nat} (h : k < n) (hn : n ≤ maxLen) : wrap64 ((k : Int) + 1) = (k : Int) + 1 := by unfold maxLen at hn; unfold wrap64; omega
set_option maxRecDepth 100000 in
set_option maxHeartbeats 4000000 in
theorem snext_any (bv vt vf vl vu : Value) (n : Int) (cd : Int → Hd × List Pt) (ts : List Th) (F : List Fe) (L S : List Sd) (h : Hp) (w : World) (I : NIn w bv vt vf vl n cd ts F L) (AU : sdR.At w vu S) (hm : hpMay ts h = true) : Calls Tryz.prog 81 #[scnv bv vt vf vl, hpv h, vu] w fun e w' => e = .returned (.tuple #[hpv (nxtA F h (nxtN cd ts F L h S)), sdv (nxtS (nxtN cd ts F L h S)), .bool (nxtN cd ts F L h S).isSome]) ∧ w.grownBy w' none := by
  obtain ⟨pt, ct, rfl⟩ := I.at1.form
  obtain ⟨pf, cf, rfl⟩ := I.at2.form
  obtain ⟨pl, cl, rfl⟩ := I.at3.form
  obtain ⟨pu, cu, rfl⟩ := AU.form
  have HLn : Hid (L.length ≤ maxLen) := by obtain ⟨_, _, _, q, _⟩ := I.at3; exact q
  obtain ⟨A0, hA0⟩ : ∃ A0, A0 = w.alloc (.cells #[bv, .slice pt ts.length ct, .slice pf F.length cf, .slice pl L.length cl] 136) := ⟨_, rfl⟩
  obtain ⟨A1, hA1⟩ : ∃ A1, A1 = A0.alloc (.cells #[.int .u8 h.vb, .int .i64 h.on, .int .i64 h.ct, .int .i64 h.ho, .bool h.vn, .bool h.dr] 43) := ⟨_, rfl⟩
  obtain ⟨A2, hA2⟩ : ∃ A2, A2 = A1.alloc (.cells #[.int .u8 0, .int .i64 0, .int .i64 0, .int .i64 0, .bool false, .bool false] 43) := ⟨_, rfl⟩
  obtain ⟨V, hV⟩ : ∃ V, V = A2.alloc (.cells #[.int .i64 0, .int .i64 0, .int .u8 0, .int .u8 0, .int .u8 0, .int .i64 0, .int .u8 0, .int .u8 0, .int .u8 0, .string ⟨#[]⟩] 40) := ⟨_, rfl⟩
  have g0 : w.grownBy A0 none := by rw [hA0]; exact World.grownBy_alloc _ _ none
  have g1 : A0.grownBy A1 none := by rw [hA1]; exact World.grownBy_alloc _ _ none
  have g2 : A1.grownBy A2 none := by rw [hA2]; exact World.grownBy_alloc _ _ none
  have g3 : A2.grownBy V none := by rw [hV]; exact World.grownBy_alloc _ _ none
  have e0 : A0.heap.size = w.heap.size + 1 := by rw [hA0, World.size_alloc]
  have e1 : A1.heap.size = w.heap.size + 1 + 1 := by rw [hA1, World.size_alloc, e0]
  have e2 : A2.heap.size = w.heap.size + 1 + 1 + 1 := by rw [hA2, World.size_alloc, e1]
  have HG : Hid (w.grownBy V none) := grown_trans (grown_trans (grown_trans g0 g1) g2) g3
  have HC : Hid (ScnB V w.heap.size bv (.slice pt ts.length ct) (.slice pf F.length cf) (.slice pl L.length cl)) := grown_keep (grown_trans (grown_trans g1 g2) g3) (by rw [hA0]; exact alloc_at w _ _) (by simp)
  have HH : Hid (HpB V (w.heap.size + 1) h) := grown_keep (grown_trans g2 g3) (by rw [← e0, hA1]; exact alloc_at _ _ _) (by simp)
  have HZ : Hid (HpB V (w.heap.size + 1 + 1) Hp.none) := grown_keep g3 (by rw [← e1, hA2]; exact alloc_at _ _ _) (by simp)
  have HY : Hid (SdB V (w.heap.size + 1 + 1 + 1) Sd.none) := by rw [← e2, hV]; exact alloc_at _ _ _
  have HI : Hid (NIn V bv (.slice pt ts.length ct) (.slice pf F.length cf) (.slice pl L.length cl) n cd ts F L ∧ sdR.At V (.slice pu S.length cu) S ∧ hpMay ts h = true) := ⟨I.keep HG.out, AU.keep HG.out, hm⟩
  have hV' : V = (((w.alloc (.cells #[bv, .slice pt ts.length ct, .slice pf F.length cf, .slice pl L.length cl] 136)).alloc (.cells #[.int .u8 h.vb, .int .i64 h.on, .int .i64 h.ct, .int .i64 h.ho, .bool h.vn, .bool h.dr] 43)).alloc (.cells #[.int .u8 0, .int .i64 0, .int .i64 0, .int .i64 0, .bool false, .bool false] 43)).alloc (.cells #[.int .i64 0, .int .i64 0, .int .u8 0, .int .u8 0, .int .u8 0, .int .i64 0, .int .u8 0, .int .u8 0, .int .u8 0, .string ⟨#[]⟩] 40) := by rw [hV, hA2, hA1, hA0]
  unfold scnv hpv
  clear I AU hm hA0 hA1 hA2 hV g0 g1 g2 g3 e0 e1 e2
  go_enter Tryz.func81, Tryz.ntmps81
  go_upto_region 1 with fail
  rw [← hV']
  clear hV'
  obtain ⟨n0, hn0⟩ : ∃ n0, n0 = w.heap.size := ⟨_, rfl⟩
  have Hn0 : Hid (w.heap.size ≤ n0) := by rw [hn0]; exact Nat.le_refl _
  simp only [← hn0] at HC HH HZ HY ⊢
  obtain ⟨n1, hn1⟩ : ∃ n1, n1 = n0 + 1 := ⟨_, rfl⟩
  simp only [← hn1] at HH HZ HY ⊢
  obtain ⟨n2, hn2⟩ : ∃ n2, n2 = n1 + 1 := ⟨_, rfl⟩
  simp only [← hn2] at HZ HY ⊢
  obtain ⟨n3, hn3⟩ : ∃ n3, n3 = n2 + 1 := ⟨_, rfl⟩
  simp only [← hn3] at HY ⊢
  have Hne : Hid ((n0 ≠ n2 ∧ n0 ≠ n3 ∧ n1 ≠ n2 ∧ n1 ≠ n3 ∧ n2 ≠ n3) ∧ w.heap.size ≤ n2 ∧ w.heap.size ≤ n3 ∧ n3 < V.heap.size ∧ n2 < V.heap.size) := ⟨⟨by omega, by omega, by omega, by omega, by omega⟩, by have := Hn0.out; omega, by have := Hn0.out; omega, block_lt HY.out, block_lt HZ.out⟩
  clear hn0 hn1 hn2 hn3
  obtain ⟨c0, c1, c2, c3⟩ := scn_box HC.out
  obtain ⟨x0, x1, x2, x3, x4, x5⟩ := hp_box HH.out
  go_wp2_with fail
  go_loopw [14] (fun i wr => ∃ k : Nat, k ≤ L.length ∧ i = .int .i64 (k : Int) ∧ Hid ((L.take k).find? (nxtB cd ts F h S) = none ∧ V.grownBy wr none)) (fun i _ => L.length - (intOf i).toNat)
  case atStart => exact ⟨0, Nat.zero_le _, rfl, rfl, grown_refl _ _⟩
  case round =>
    obtain ⟨k, hk', rfl, HK⟩ := hrel
    obtain ⟨U, hU⟩ : ∃ U, U = wr := ⟨_, rfl⟩
    subst hU
    by_cases hlt : k < L.length
    · have i1 : (k : Int) < (L.length : Int) := Int.ofNat_lt.2 hlt
      have hwk := wrap_max (k := k) hlt HLn.out
      have HM : Hid (L.length - (intOf (.int .i64 ((k : Int) + 1))).toNat < L.length - (intOf (.int .i64 (k : Int))).toNat) := meas_k hlt
      obtain ⟨s, hs⟩ : ∃ s, L[k]? = some s := ⟨_, List.getElem?_eq_getElem hlt⟩
      obtain ⟨gL, oL, cL, eL, -⟩ := sd_there HI.out.1.at3 hlt
      injection eL with eL eL2 eL3
      clear eL2 eL3
      subst eL
      obtain ⟨d0, d1, d2, d3, d4, d5, d6, d7, d8, d9⟩ := sd_cells (rec_sdV (HI.out.1.at3.keep HK.out.2) hs)
      have c0 := HK.out.2.cell c0 (by simp)
      have c1 := HK.out.2.cell c1 (by simp)
      have c2 := HK.out.2.cell c2 (by simp)
      have c3 := HK.out.2.cell c3 (by simp)
      obtain ⟨X, hX⟩ : ∃ X, X = U.alloc (.cells #[.int .i64 s.th, .int .i64 s.pl, .int .u8 s.wh.wn, .int .u8 s.wh.vb, .int .u8 s.wh.wm, .int .i64 s.wh.ct, .int .u8 s.wh.su, .int .u8 s.wh.tr, .int .u8 s.wh.mr, .string s.wh.nm] 40) := ⟨_, rfl⟩
      have HX : Hid (SdB X U.heap.size s ∧ V.grownBy X none ∧ V.heap.size ≤ U.heap.size) := ⟨by rw [hX]; exact alloc_at _ _ _, by rw [hX]; exact grown_push HK.out.2 _, HK.out.2.size⟩
      obtain ⟨z, g, hA, hgo, hv1, hv2⟩ := (HI.out.1.keep HX.out.2.1).one (HI.out.1.ok s (List.mem_of_getElem? hs))
      have Hs : Hid (L[k]? = some s ∧ k + 1 ≤ L.length ∧ (L.take k).find? (nxtB cd ts F h S) = none) := ⟨hs, hlt, HK.out.1⟩
      have CA := sisAmong_any (.slice pu S.length cu) S s X (HI.out.2.1.keep HX.out.2.1)
      have CS : ∀ Y, X.grownBy Y none → Calls Tryz.prog 88 #[scnv bv (.slice pt ts.length ct) (.slice pf F.length cf) (.slice (some ⟨gL, oL, none⟩) L.length cl), sdv s, hpv h] Y fun e w' => e = .returned (.bool (swpB cd ts F s h)) ∧ Y.grownBy w' none := fun Y q => sswaps_any bv _ _ _ n cd ts F s z g h Y (hA.keep q) HI.out.2.2
      have CB : ∀ Y, X.grownBy Y none → Calls Tryz.prog 151 #[scnv bv (.slice pt ts.length ct) (.slice pf F.length cf) (.slice (some ⟨gL, oL, none⟩) L.length cl), hpv h, sdv s] Y fun e w' => e = .returned (hpv (behH F s h)) ∧ Y.grownBy w' none := fun Y q => by unfold behH; rw [← hgo]; exact sbehind_any bv _ _ _ n cd ts F s z g h Y (hA.keep q) ⟨hv1, hv2⟩
      unfold sdv at CA
      unfold scnv sdv hpv at CS CB
      clear hk' hlt hs HK hA hgo hv1 hv2
      go_upto_region 4 with fail
      rw [← hX]
      obtain ⟨n4, hn4⟩ : ∃ n4, n4 = U.heap.size := ⟨_, rfl⟩
      rw [← hn4] at HX ⊢
      clear hX hn4 d0 d1 d2 d3 d4 d5 d6 d7 d8 d9
      have c0 := HX.out.2.1.cell (scn_box HC.out).1 (by simp)
      have c1 := HX.out.2.1.cell (scn_box HC.out).2.1 (by simp)
      have c2 := HX.out.2.1.cell (scn_box HC.out).2.2.1 (by simp)
      have c3 := HX.out.2.1.cell (scn_box HC.out).2.2.2 (by simp)
      obtain ⟨d0, d1, d2, d3, d4, d5, d6, d7, d8, d9⟩ := sd_box HX.out.1
      obtain ⟨a, ha⟩ : ∃ a, a = amgB S s := ⟨_, rfl⟩
      have Ha : Hid (a = amgB S s) := ha
      rw [← ha] at CA
      clear ha
      go_wp2_with fail
      refine CA.mono ?_
      rintro e1 w1 ⟨rfl, g1⟩
      have H1 : Hid (X.grownBy w1 none ∧ V.grownBy w1 none) := ⟨g1, grown_trans HX.out.2.1 g1⟩
      clear CA g1 c0 c1 c2 c3 d0 d1 d2 d3 d4 d5 d6 d7 d8 d9
      cases a with
      | true =>
        have HN : Hid ((L.take (k + 1)).find? (nxtB cd ts F h S) = none) := sfind_no Hs.out.2.2 Hs.out.1 (by unfold nxtB; rw [← Ha.out]; rfl)
        go_wp2_with fail
        go_roundw
        case rel => exact ⟨k + 1, Hs.out.2.1, by first | rfl | (rw [hwk]; rfl) | go_num, HN.out, H1.out.2⟩
        case measure => first | exact HM.out | (rw [hwk]; exact HM.out)
      | false =>
        have HC1 : Hid (ScnB w1 n0 bv (.slice pt ts.length ct) (.slice pf F.length cf) (.slice (some ⟨gL, oL, none⟩) L.length cl)) := grown_keep H1.out.2 HC.out (by simp)
        have HH1 : Hid (HpB w1 n1 h) := grown_keep H1.out.2 HH.out (by simp)
        have HS1 : Hid (SdB w1 n4 s) := grown_keep H1.out.1 HX.out.1 (by simp)
        obtain ⟨c0, c1, c2, c3⟩ := scn_box HC1.out
        obtain ⟨x0, x1, x2, x3, x4, x5⟩ := hp_box HH1.out
        obtain ⟨d0, d1, d2, d3, d4, d5, d6, d7, d8, d9⟩ := sd_box HS1.out
        have CS1 := CS w1 H1.out.1
        obtain ⟨b, hb⟩ : ∃ b, b = swpB cd ts F s h := ⟨_, rfl⟩
        have Hb : Hid (nxtB cd ts F h S s = b) := by show _ = _; unfold nxtB; rw [← Ha.out, hb]; rfl
        rw [← hb] at CS1
        clear hb CS
        go_wp2_with fail
        refine CS1.mono ?_
        rintro e2 w2 ⟨rfl, g2⟩
        have H2 : Hid (X.grownBy w2 none ∧ V.grownBy w2 none) := ⟨grown_trans H1.out.1 g2, grown_trans H1.out.2 g2⟩
        clear CS1 g2 c0 c1 c2 c3 d0 d1 d2 d3 d4 d5 d6 d7 d8 d9 x0 x1 x2 x3 x4 x5
        cases b with
        | false =>
          have HN : Hid ((L.take (k + 1)).find? (nxtB cd ts F h S) = none) := sfind_no Hs.out.2.2 Hs.out.1 Hb.out
          go_wp2_with fail
          go_roundw
          case rel => exact ⟨k + 1, Hs.out.2.1, by first | rfl | (rw [hwk]; rfl) | go_num, HN.out, H2.out.2⟩
          case measure => first | exact HM.out | (rw [hwk]; exact HM.out)
        | true =>
          have HF : Hid (nxtN cd ts F L h S = some s) := sfind_yes Hs.out.2.2 Hs.out.1 Hb.out
          have HS2 : Hid (ScnB w2 n0 bv (.slice pt ts.length ct) (.slice pf F.length cf) (.slice (some ⟨gL, oL, none⟩) L.length cl) ∧ HpB w2 n1 h ∧ SdB w2 n4 s) := ⟨grown_keep H2.out.2 HC.out (by simp), grown_keep H2.out.2 HH.out (by simp), grown_keep H2.out.1 HX.out.1 (by simp)⟩
          have HZ2 : Hid (HpB w2 n2 Hp.none ∧ SdB w2 n3 Sd.none) := ⟨grown_keep H2.out.2 HZ.out (by simp), grown_keep H2.out.2 HY.out (by simp)⟩
          have Hn4 : Hid (n4 ≠ n2 ∧ n4 ≠ n3) := ⟨ne_of_big HX.out.2.2 Hne.out.2.2.2.2, ne_of_big HX.out.2.2 Hne.out.2.2.2.1⟩
          obtain ⟨bh, hbh⟩ : ∃ bh, bh = behH F s h := ⟨_, rfl⟩
          have Hbh : Hid (bh = behH F s h) := hbh
          rw [← hbh] at CB
          have CB2 := CB w2.drew (grown_trans H2.out.1 (grown_drew _))
          clear CB hbh Hb Ha
          go_upto_region 5 with fail
          refine wp_region_held_drew (S := fun w' => ScnB w' n0 bv (.slice pt ts.length ct) (.slice pf F.length cf) (.slice (some ⟨gL, oL, none⟩) L.length cl) ∧ HpB w' n1 h ∧ SdB w' n4 s) (by kernel_rfl) (HS2.out) (fun hHeld => ?_)
          refine wpAnyH_take (i := 0) (v := ?_) rfl (by kernel_rfl) (by kernel_rfl) (by kernel_rfl) (fun _ _ _ h => h) (Or.inl ⟨by rfl, ?_⟩) (by assumption) ?_
          rotate_left 1
          · (intro w0 hSw; obtain ⟨c0, c1, c2, c3⟩ := scn_box hSw.1; go_simp; try with_reducible rfl)
          simp only [List.getElem_toArray, List.getElem_cons_zero]
          go_frame
          refine wpAnyH_take (i := 1) (v := ?_) rfl (by kernel_rfl) (by kernel_rfl) (by kernel_rfl) (fun _ _ _ h => h) (Or.inl ⟨by rfl, ?_⟩) (by assumption) ?_
          rotate_left 1
          · (intro w0 hSw; obtain ⟨x0, x1, x2, x3, x4, x5⟩ := hp_box hSw.2.1; go_simp; try with_reducible rfl)
          simp only [List.getElem_toArray, List.getElem_cons_zero, List.getElem_cons_succ]
          go_frame
          refine wpAnyH_take (i := 2) (v := ?_) rfl (by kernel_rfl) (by kernel_rfl) (by kernel_rfl) (fun _ _ _ h => h) (Or.inl ⟨by rfl, ?_⟩) (by assumption) ?_
          rotate_left 1
          · (intro w0 hSw; obtain ⟨d0, d1, d2, d3, d4, d5, d6, d7, d8, d9⟩ := sd_box hSw.2.2; go_simp; try with_reducible rfl)
          simp only [List.getElem_toArray, List.getElem_cons_zero, List.getElem_cons_succ]
          go_frame
          refine wpAnyH_take (i := 4) (v := ?_) rfl (by kernel_rfl) (by kernel_rfl) (by kernel_rfl) (fun _ _ _ h => h) (Or.inl ⟨by rfl, ?_⟩) (by assumption) ?_
          rotate_left 1
          · (intro w0 hSw; obtain ⟨d0, d1, d2, d3, d4, d5, d6, d7, d8, d9⟩ := sd_box hSw.2.2; go_simp; try with_reducible rfl)
          simp only [List.getElem_toArray, List.getElem_cons_zero, List.getElem_cons_succ]
          go_frame
          refine wpAnyH_ready (rs := [3]) (by kernel_rfl) (by simp) ?_
          refine AllReadyH.cons rfl (fun K hK => ?_) AllReadyH.nil
          simp only [List.getElem_toArray, List.getElem_cons_zero, List.getElem_cons_succ]
          go_simp
          go_at_call 151
          refine (CB2).mono ?_
          rintro e5 w5 ⟨rfl, g5⟩
          have HG5 : Hid (w2.grownBy w5 none) := grown_trans (grown_drew _) g5
          have HS5 : Hid (ScnB w5 n0 bv (.slice pt ts.length ct) (.slice pf F.length cf) (.slice (some ⟨gL, oL, none⟩) L.length cl) ∧ HpB w5 n1 h ∧ SdB w5 n4 s) := ⟨grown_keep HG5.out HS2.out.1 (by simp), grown_keep HG5.out HS2.out.2.1 (by simp), grown_keep HG5.out HS2.out.2.2 (by simp)⟩
          have HZ5 : Hid (HpB w5 n2 Hp.none ∧ SdB w5 n3 Sd.none) := ⟨grown_keep HG5.out HZ2.out.1 (by simp), grown_keep HG5.out HZ2.out.2 (by simp)⟩
          obtain ⟨z0, z1, z2, z3, z4, z5⟩ := hp_zero HZ5.out.1
          have zf := fun i => block_free HZ5.out.1 i
          clear g5 CB2
          refine hK.out _ _ (HS5.out) (fun hHeld2 => ?_)
          clear hK K
          (try go_frame)
          refine wpAnyH_ready (rs := [5]) (by kernel_rfl) (by simp) ?_
          refine AllReadyH.cons rfl (fun K9 hK => ?_) AllReadyH.nil
          simp only [List.getElem_toArray, List.getElem_cons_zero, List.getElem_cons_succ]
          go_simp
          refine hK.out _ _ (⟨grown_keep (set6_some _ _ _ _ _ _ _ _) HS5.out.1 (fun q => Hne.out.1.1 (Option.some.inj q)), grown_keep (set6_some _ _ _ _ _ _ _ _) HS5.out.2.1 (fun q => Hne.out.1.2.2.1 (Option.some.inj q)), grown_keep (set6_some _ _ _ _ _ _ _ _) HS5.out.2.2 (fun q => Hn4.out.1 (Option.some.inj q))⟩) (fun hHeld3 => ?_)
          clear hK K9
          (try go_frame)
          obtain ⟨Y, hY⟩ : ∃ Y, Y = (((((w5.setCell ⟨n2, 0, none⟩ (.int .u8 bh.vb)).setCell ⟨n2, 1, none⟩ (.int .i64 bh.on)).setCell ⟨n2, 2, none⟩ (.int .i64 bh.ct)).setCell ⟨n2, 3, none⟩ (.int .i64 bh.ho)).setCell ⟨n2, 4, none⟩ (.bool bh.vn)).setCell ⟨n2, 5, none⟩ (.bool bh.dr) := ⟨_, rfl⟩
          rw [← hY]
          have HY5 : Hid (HpB Y n2 bh ∧ SdB Y n3 Sd.none ∧ w.grownBy Y none ∧ (ScnB Y n0 bv (.slice pt ts.length ct) (.slice pf F.length cf) (.slice (some ⟨gL, oL, none⟩) L.length cl) ∧ HpB Y n1 h ∧ SdB Y n4 s)) := by
            rw [hY]
            exact ⟨set6_hp bh HZ5.out.1, grown_keep (set6_some _ _ _ _ _ _ _ _) HZ5.out.2 (fun q => Hne.out.1.2.2.2.2 (Option.some.inj q).symm), grown_set6 (grown_trans (grown_trans HG.out H2.out.2) HG5.out) Hne.out.2.1 _ _ _ _ _ _, ⟨grown_keep (set6_some _ _ _ _ _ _ _ _) HS5.out.1 (fun q => Hne.out.1.1 (Option.some.inj q)), grown_keep (set6_some _ _ _ _ _ _ _ _) HS5.out.2.1 (fun q => Hne.out.1.2.2.1 (Option.some.inj q)), grown_keep (set6_some _ _ _ _ _ _ _ _) HS5.out.2.2 (fun q => Hn4.out.1 (Option.some.inj q))⟩⟩
          clear hY z0 z1 z2 z3 z4 z5 zf hHeld hHeld2 hHeld3
          obtain ⟨z0, z1, z2, z3, z4, z5, z6, z7, z8, z9⟩ := sd_zero HY5.out.2.1
          have zf := fun i => block_free HY5.out.2.1 i
          refine wpAnyH_ready (rs := [6]) (by kernel_rfl) (by simp) ?_
          refine AllReadyH.cons rfl (fun K9 hK => ?_) AllReadyH.nil
          simp only [List.getElem_toArray, List.getElem_cons_zero, List.getElem_cons_succ]
          go_simp
          refine hK.out _ _ (⟨grown_keep (set10_some _ _ _ _ _ _ _ _ _ _ _ _) HY5.out.2.2.2.1 (fun q => Hne.out.1.2.1 (Option.some.inj q)), grown_keep (set10_some _ _ _ _ _ _ _ _ _ _ _ _) HY5.out.2.2.2.2.1 (fun q => Hne.out.1.2.2.2.1 (Option.some.inj q)), grown_keep (set10_some _ _ _ _ _ _ _ _ _ _ _ _) HY5.out.2.2.2.2.2 (fun q => Hn4.out.2 (Option.some.inj q))⟩) (fun hHeld3 => ?_)
          clear hK K9
          (try go_frame)
          obtain ⟨Q, hQ⟩ : ∃ Q, Q = (((((((((Y.setCell ⟨n3, 0, none⟩ (.int .i64 s.th)).setCell ⟨n3, 1, none⟩ (.int .i64 s.pl)).setCell ⟨n3, 2, none⟩ (.int .u8 s.wh.wn)).setCell ⟨n3, 3, none⟩ (.int .u8 s.wh.vb)).setCell ⟨n3, 4, none⟩ (.int .u8 s.wh.wm)).setCell ⟨n3, 5, none⟩ (.int .i64 s.wh.ct)).setCell ⟨n3, 6, none⟩ (.int .u8 s.wh.su)).setCell ⟨n3, 7, none⟩ (.int .u8 s.wh.tr)).setCell ⟨n3, 8, none⟩ (.int .u8 s.wh.mr)).setCell ⟨n3, 9, none⟩ (.string s.wh.nm) := ⟨_, rfl⟩
          rw [← hQ]
          have HQ : Hid (HpB Q n2 bh ∧ SdB Q n3 s ∧ w.grownBy Q none ∧ (ScnB Q n0 bv (.slice pt ts.length ct) (.slice pf F.length cf) (.slice (some ⟨gL, oL, none⟩) L.length cl) ∧ HpB Q n1 h ∧ SdB Q n4 s)) := by
            rw [hQ]
            exact ⟨grown_keep (set10_some _ _ _ _ _ _ _ _ _ _ _ _) HY5.out.1 (fun q => Hne.out.1.2.2.2.2 (Option.some.inj q)), set10_sd s HY5.out.2.1, grown_set10 HY5.out.2.2.1 Hne.out.2.2.1 _ _ _ _ _ _ _ _ _ _, ⟨grown_keep (set10_some _ _ _ _ _ _ _ _ _ _ _ _) HY5.out.2.2.2.1 (fun q => Hne.out.1.2.1 (Option.some.inj q)), grown_keep (set10_some _ _ _ _ _ _ _ _ _ _ _ _) HY5.out.2.2.2.2.1 (fun q => Hne.out.1.2.2.2.1 (Option.some.inj q)), grown_keep (set10_some _ _ _ _ _ _ _ _ _ _ _ _) HY5.out.2.2.2.2.2 (fun q => Hn4.out.2 (Option.some.inj q))⟩⟩
          have hHeld9 := HQ.out.2.2.2
          clear hQ z0 z1 z2 z3 z4 z5 z6 z7 z8 z9 zf
          refine wpAnyH_take (i := 7) (v := ?_) rfl (by kernel_rfl) (by kernel_rfl) (by kernel_rfl) (fun _ _ _ h => h) (Or.inl ⟨by rfl, ?_⟩) (by assumption) ?_
          rotate_left 1
          · (intro w0 hSw; go_simp; try with_reducible rfl)
          simp only [List.getElem_toArray, List.getElem_cons_zero, List.getElem_cons_succ]
          go_frame
          refine wpAnyH_done (by kernel_rfl) ?_ _
          obtain ⟨z0, z1, z2, z3, z4, z5⟩ := hp_box HQ.out.1
          obtain ⟨d0, d1, d2, d3, d4, d5, d6, d7, d8, d9⟩ := sd_box HQ.out.2.1
          go_wp2_with fail
          refine bodyPost_ret (v := .tuple #[hpv bh, sdv s, .bool true]) (by simp [results, Tryz.results81, go_sem, hpv, sdv, z0, z1, z2, z3, z4, z5, d0, d1, d2, d3, d4, d5, d6, d7, d8, d9]) rfl ⟨by rw [HF.out, Hbh.out]; rfl, HQ.out.2.2.1⟩
    · obtain rfl : k = L.length := Nat.le_antisymm hk' (Nat.le_of_not_lt hlt)
      have i1 : ¬ (L.length : Int) < (L.length : Int) := Int.lt_irrefl _
      have HF : Hid (nxtN cd ts F L h S = none ∧ HpB U n2 Hp.none ∧ SdB U n3 Sd.none ∧ w.grownBy U none) := ⟨by have := HK.out.1; rw [List.take_length] at this; exact this, grown_keep HK.out.2 HZ.out (by simp), grown_keep HK.out.2 HY.out (by simp), grown_trans HG.out HK.out.2⟩
      clear hk' hlt HK c0 c1 c2 c3 x0 x1 x2 x3 x4 x5
      obtain ⟨W5, hW5⟩ : ∃ W5, W5 = U.setRow n2 (hpa Hp.none) := ⟨_, rfl⟩
      have H5 : Hid (HpB W5 n2 Hp.none ∧ SdB W5 n3 Sd.none ∧ w.grownBy W5 none) := ⟨by rw [hW5]; exact setRow_heap U n2 _ _ _ _ HF.out.2.1, by rw [hW5]; exact grown_keep (grown_rowL _ _ _) HF.out.2.2.1 (fun q => Hne.out.1.2.2.2.2 (Option.some.inj q).symm), by rw [hW5]; exact grown_own HF.out.2.2.2 (grown_rowL _ _ _) (fun y e => by cases e; exact Hne.out.2.1)⟩
      obtain ⟨W6, hW6⟩ : ∃ W6, W6 = W5.setRow n3 (sda Sd.none) := ⟨_, rfl⟩
      have H6 : Hid (HpB W6 n2 Hp.none ∧ SdB W6 n3 Sd.none ∧ w.grownBy W6 none) := ⟨by rw [hW6]; exact grown_keep (grown_rowL _ _ _) H5.out.1 (fun q => Hne.out.1.2.2.2.2 (Option.some.inj q)), by rw [hW6]; exact setRow_heap W5 n3 _ _ _ _ H5.out.2.1, by rw [hW6]; exact grown_own H5.out.2.2 (grown_rowL _ _ _) (fun y e => by cases e; exact Hne.out.2.2.1)⟩
      go_upto_region 7 with fail
      go_wp2_with (first | (refine wpList_store_row rfl 43 (.tmp 6) (.tmp 34) rfl n2 (hpa Hp.none) rfl rfl 43 _ HF.out.2.1 (by kernel_rfl) rfl (by simp [hpa, Value.oneCell']) ?_) | (refine wpList_store_row rfl 40 (.tmp 7) (.tmp 35) rfl n3 (sda Sd.none) rfl rfl 40 _ (by rw [← hW5]; exact H5.out.2.1) (by kernel_rfl) rfl (by simp [sda, Value.oneCell']) ?_))
      rw [← hW5, ← hW6]
      obtain ⟨y0, y1, y2, y3, y4, y5⟩ := hp_zero H6.out.1
      obtain ⟨z0, z1, z2, z3, z4, z5, z6, z7, z8, z9⟩ := sd_zero H6.out.2.1
      refine bodyPost_ret (v := .tuple #[hpv Hp.none, sdv Sd.none, .bool false]) (by simp [results, Tryz.results81, go_sem, hpv, sdv, Hp.none, Sd.none, Pt.none, y0, y1, y2, y3, y4, y5, z0, z1, z2, z3, z4, z5, z6, z7, z8, z9]) rfl ⟨by rw [HF.out.1]; rfl, H6.out.2.2⟩
end Go.Proofs.YthfjgpjcepmnmaaGreat
