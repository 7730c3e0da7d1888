/-
  View: what all ways look at first.
  Layers: what is answered of no book.
  The book of chapter 18's examples.
  Layers: the book of the chapter's examples.
-/
import Derived.Test.YtmemeloehgemcaaGreatV38
import Derived.Test.YtmemeloehgemcaaGreatV34
import Derived.Test.YtmemeloehgemcaaGreatV35
import Derived.Test.YtmemeloehgemcaaGreatV26
namespace Go.Proofs.YtmemeloehgemcaaGreat
open Go.RowKit Go.Shelf

/-- What look tells. -/
def VkPost (w : World) (bp : Option Addr) (vt : Value) (r n : Int) (cd : Int → Hd × List Pt) (ts : List Th) (pf : Th → Fe) (me : Th → Int) (e : Ending) (w' : World) : Prop := ∃ bq p1 m1 c1 p2 m2 c2, e = .returned (.tuple #[.agg #[.pointer bq, .slice p1 m1 c1, .slice p2 m2 c2], .int .i64 (vkE r n cd ts (prtF pf (ts.take 2048)) me)]) ∧ w.grownBy w' none ∧ (vkE r n cd ts (prtF pf (ts.take 2048)) me = 0 → bq = bp ∧ vt = .slice p1 m1 c1 ∧ FOwn w' w.heap.size (.slice p2 m2 c2) (prtF pf ts))
theorem VkPost.no {w w' : World} {bp : Option Addr} {vt : Value} {r n : Int} {cd : Int → Hd × List Pt} {ts : List Th} {pf : Th → Fe} {me : Th → Int} {q : Int} (h : vkE r n cd ts (prtF pf (ts.take 2048)) me = q) (hq : q ≠ 0) (g : w.grownBy w' none) : VkPost w bp vt r n cd ts pf me (.returned (.tuple #[.agg #[.pointer none, .slice none 0 0, .slice none 0 0], .int .i64 q])) w' := ⟨none, none, 0, 0, none, 0, 0, by rw [h], g, fun z => absurd (h.symm.trans z) hq⟩
theorem sc_zero {w : World} {g : Nat} (h : ScB w g none (.slice none 0 0) (.slice none 0 0)) : w.cell? ⟨g, 0, none⟩ = some (.pointer none) ∧ w.cell? ⟨g, 1, none⟩ = some (.slice none 0 0) ∧ w.cell? ⟨g, 2, none⟩ = some (.slice none 0 0) := sc_box h
theorem grown_set3 {w w' : World} {g : Nat} (h : w.grownBy w' none) (hg : w.heap.size ≤ g) (a b c : Value) : w.grownBy (((w'.setCell ⟨g, 0, none⟩ a).setCell ⟨g, 1, none⟩ b).setCell ⟨g, 2, none⟩ c) none := by
  have k : ∀ {v : World} (i : Nat) (x : Value), w.grownBy v none → w.grownBy (v.setCell ⟨g, i, none⟩ x) none := fun i x q => grown_own q (grown_set _ _ _ _) (fun y e => by cases e; exact hg)
  exact k 2 c (k 1 b (k 0 a h))
theorem set3_far {w : World} {g : Nat} (a b c : Value) : w.grownBy (((w.setCell ⟨g, 0, none⟩ a).setCell ⟨g, 1, none⟩ b).setCell ⟨g, 2, none⟩ c) (some g) := grown_trans (grown_trans (grown_set _ _ _ _) (grown_set _ _ _ _)) (grown_set _ _ _ _)
theorem set3_same {w : World} {g : Nat} {a b c x y z : Value} (h : w.heap[g]? = some (.cells #[x, y, z] 144 (0, 0))) : (((w.setCell ⟨g, 0, none⟩ a).setCell ⟨g, 1, none⟩ b).setCell ⟨g, 2, none⟩ c).heap[g]? = some (.cells #[a, b, c] 144 (0, 0)) := by
  have h1 := block_set h 0 a
  have h2 := block_set h1 1 b
  exact block_set h2 2 c
/-- What look still has to ask. -/
theorem mkE_at {me : Th → Int} : ∀ {ts : List Th} {k : Nat} (hk : k < ts.length), mkE me (ts.drop k) = if ts[k].place = 4 ∧ me ts[k] ≠ 0 then me ts[k] else mkE me (ts.drop (k + 1)) := fun {ts k} hk => by
  rw [List.drop_eq_getElem_cons hk, mkE]
set_option maxRecDepth 100000 in
set_option maxHeartbeats 4000000 in
theorem vlook_any (bp : Option Addr) (vt : Value) (r n : Int) (cd : Int → Hd × List Pt) (ts : List Th) (pf : Th → Fe) (mf : Fe → Th → Fe) (me : Th → Int) (w : World) (I : VIn w (.pointer bp) vt r n cd ts pf mf me) : Calls Tryz.prog 69 #[.pointer bp, vt] w (VkPost w bp vt r n cd ts pf me) := by
  obtain ⟨pt, ct, rfl, hcap⟩ := I.cap
  obtain ⟨W1, hW1⟩ : ∃ W1, W1 = w.alloc (.cells #[.pointer none, .slice none 0 0, .slice none 0 0] 144) := ⟨_, rfl⟩
  have HG1 : Hid (w.grownBy W1 none) := by rw [hW1]; exact World.grownBy_alloc _ _ none
  have HR : Hid (ScB W1 w.heap.size none (.slice none 0 0) (.slice none 0 0)) := by rw [hW1]; exact alloc_at w _ _
  have HI : Hid (VIn W1 (.pointer bp) (.slice pt ts.length ct) r n cd ts pf mf me) := I.keep HG1.out
  have HL : Hid (ts.length ≤ maxLen) := by obtain ⟨_, _, _, q, _⟩ := I.th; exact q
  obtain ⟨m, hm⟩ : ∃ m : Nat, m = min ts.length 2048 := ⟨_, rfl⟩
  have hmin : min (ts.length : Int) 2048 = (m : Int) := by omega
  have hmt : (ts.take 2048).length = m := by rw [List.length_take]; omega
  have htk : ts.take 2048 = ts.take m := by
    rw [hm]
    by_cases q : ts.length ≤ 2048
    · rw [Nat.min_eq_left q, List.take_of_length_le q, List.take_of_length_le (Nat.le_refl _)]
    · rw [Nat.min_eq_right (by omega)]
  have C1 := vprinted_any (.pointer bp) (.slice pt m ct) (ts.take 2048) pf W1 (by rw [htk]; exact HI.out.th.take m (by omega)) (by rw [hmt]; omega) HI.out.pr
  have Hm : Hid (m = min ts.length 2048 ∧ (ts.take 2048).length = m) := ⟨hm, hmt⟩
  have m0 : (0 : Int) ≤ (m : Int) := by omega
  have m1 : (m : Int) ≤ (ct : Int) := by omega
  have m2 : m ≤ ct := by omega
  clear I hm hmt htk hcap
  go_enter Tryz.func69, Tryz.ntmps69
  go_upto_region 1 with fail
  rw [← hW1]
  clear hW1
  obtain ⟨n0, h0⟩ : ∃ n0, n0 = w.heap.size := ⟨_, rfl⟩
  have Hn0 : Hid (w.heap.size ≤ n0 ∧ n0 < W1.heap.size) := ⟨by rw [h0]; exact Nat.le_refl _, by rw [h0]; exact block_lt HR.out⟩
  simp only [← h0] at HR ⊢
  clear h0
  go_wp2_with fail
  refine C1.mono ?_
  rintro e2 w2 ⟨v2, rfl, o2, g2⟩
  obtain ⟨p2, c2, rfl⟩ := RecT.Own.form o2
  obtain ⟨fs, hfs⟩ : ∃ fs, fs = prtF pf (ts.take 2048) := ⟨_, rfl⟩
  have Hfs : Hid (fs = prtF pf (ts.take 2048)) := hfs
  rw [← hfs] at o2 ⊢
  have hfl : fs.length = m := by rw [hfs, prtF_len]; exact Hm.out.2
  have HG2 : Hid (W1.grownBy w2 none) := g2
  have HO2 : Hid (FOwn w2 W1.heap.size (.slice p2 fs.length c2) fs) := o2
  have C2 := lEffects_any _ _ _ r n cd ts fs 5 w2 (HI.out.li w2 _ fs g2 (RecT.Own.at o2) (by have := Hm.out.1; omega))
  unfold EffectsPost at C2
  clear C1 g2 o2 hfs hfl
  go_wp2_with fail
  refine C2.mono ?_
  rintro e3 w3 ⟨p3, m3, c3, rfl, g3, -, -⟩
  have HG3 : Hid (W1.grownBy w3 none) := grown_trans HG2.out g3
  have HO3 : Hid (FOwn w3 W1.heap.size (.slice p2 fs.length c2) fs) := own_grow HO2.out g3
  have HR3 : Hid (ScB w3 n0 none (.slice none 0 0) (.slice none 0 0)) := grown_keep HG3.out HR.out (by simp)
  obtain ⟨q, hq⟩ : ∃ q, q = bgE r n cd ts fs 5 := ⟨_, rfl⟩
  rw [← hq]
  clear C2 g3 HO2 HG2
  by_cases hq0 : q = 0
  · have e1 : (q != 0) = false := by simpa using hq0
    obtain ⟨hr0, -⟩ := bgE_any (hq.symm.trans hq0)
    have HV : Hid (vkE r n cd ts fs me = mkE me ts) := vkE_yes (hq.symm.trans hq0)
    have Hts : Hid (ts.length ≤ 2048) := HI.out.few hr0
    clear hq hr0
    go_wp2_with fail
    go_loopw [10, 11, 12, 33] (fun _ _ _ i wr => ∃ k : Nat, k ≤ ts.length ∧ i = .int .i64 (k : Int) ∧ Hid (mkE me ts = mkE me (ts.drop k)) ∧ Hid (W1.grownBy wr none) ∧ Hid (FOwn wr W1.heap.size (.slice p2 fs.length c2) fs)) (fun _ _ _ i _ => ts.length - (intOf i).toNat)
    case atStart => exact ⟨0, Nat.zero_le _, rfl, rfl, HG3.out, HO3.out⟩
    case round =>
      obtain ⟨k, hk, rfl, HK, HG, HO⟩ := hrel
      obtain ⟨U, hU⟩ : ∃ U, U = wr := ⟨_, rfl⟩
      subst hU
      clear HG3 HO3 HR3
      by_cases hlt : k < ts.length
      · obtain ⟨g, off, cap, ee, R⟩ := th_there (HI.out.th.keep HG.out) hlt
        cases ee
        obtain ⟨t, ht⟩ : ∃ t, t = ts[k] := ⟨_, rfl⟩
        rw [← ht] at R
        have HKn : Hid (mkE me ts = if t.place = 4 ∧ me t ≠ 0 then me t else mkE me (ts.drop (k + 1))) := by show _ = _; rw [HK.out, mkE_at hlt, ← ht]
        obtain ⟨c0, c1, c2', c3', c4, c5, c6, c7, c8, c9, c10⟩ := th_cells R
        obtain ⟨Y, hY⟩ : ∃ Y, Y = U.alloc (.cells #[.int .i64 t.card, .int .i64 t.owner, .int .u8 t.place, .int .i64 t.stamp, .int .i64 t.hurt, .int .i64 t.m0, .int .i64 t.m1, .int .i64 t.m2, .int .i64 t.m3, .int .i64 t.done, .bool t.fresh] 60) := ⟨_, rfl⟩
        have HGY : Hid (U.grownBy Y none) := by rw [hY]; exact World.grownBy_alloc _ _ none
        have HBx : Hid (ThB Y U.heap.size t) := by rw [hY]; exact alloc_at _ _ _
        have HG1Y : Hid (W1.grownBy Y none) := grown_trans HG.out HGY.out
        have HOY : Hid (FOwn Y W1.heap.size (.slice p2 fs.length c2) fs) := own_grow HO.out HGY.out
        have hlt' : (k : Int) < ts.length := Int.ofNat_lt.2 hlt
        have hwk := wrap_next (k := k) (Nat.le_trans (Nat.le_of_lt hlt) (Nat.le_trans Hts.out (by decide)))
        have Hlt : Hid (k < ts.length) := hlt
        have HM : Hid (ts.length - (intOf (.int .i64 ((k : Int) + 1))).toNat < ts.length - (intOf (.int .i64 (k : Int))).toNat) := meas_k hlt
        clear R ht hlt hk HO HG HK
        go_upto_region 8 with fail
        rw [← hY]
        clear hY c0 c1 c2' c3' c4 c5 c6 c7 c8 c9 c10
        obtain ⟨nb, hnb⟩ : ∃ nb, nb = U.heap.size := ⟨_, rfl⟩
        rw [← hnb] at HBx ⊢
        clear hnb
        obtain ⟨b0, b1, b2, b3, b4, b5, b6, b7, b8, b9, b10⟩ := th_box HBx.out
        by_cases hp : t.place = 4
        · have hpb : (t.place != 4) = false := by rw [hp]; rfl
          have C3 := HI.out.mkd Y Fe.none t HG1Y.out
          obtain ⟨f2, hf2⟩ : ∃ f2, f2 = mf Fe.none t := ⟨_, rfl⟩
          obtain ⟨x, hx⟩ : ∃ x, x = me t := ⟨_, rfl⟩
          rw [← hf2, ← hx] at C3
          unfold fev Fe.none at C3
          have HKx : Hid (mkE me ts = if x ≠ 0 then x else mkE me (ts.drop (k + 1))) := by
            show _ = _
            rw [HKn.out, hx]
            by_cases z : me t = 0
            · rw [if_neg (fun y => y.2 z), if_neg (fun y => y z)]
            · rw [if_pos ⟨hp, z⟩, if_pos z]
          clear hp hf2 hx HKn
          go_wp2_with fail
          refine C3.mono ?_
          rintro e4 w4 ⟨rfl, g4⟩
          obtain ⟨V, hV⟩ : ∃ V, V = w4.alloc (.cells #[.int .i64 f2.ho, .int .u8 f2.su, .int .u16 f2.tr, .int .i64 f2.po, .int .i64 f2.he] 64) := ⟨_, rfl⟩
          have HGV : Hid (Y.grownBy V none) := by rw [hV]; exact grown_push g4 _
          have HG1V : Hid (W1.grownBy V none) := grown_trans HG1Y.out HGV.out
          have HOV : Hid (FOwn V W1.heap.size (.slice p2 fs.length c2) fs) := own_grow HOY.out HGV.out
          have HRV : Hid (ScB V n0 none (.slice none 0 0) (.slice none 0 0)) := grown_keep HG1V.out HR.out (by simp)
          clear C3 g4 b0 b1 b2 b3 b4 b5 b6 b7 b8 b9 b10 hpb
          go_upto_region 10 with fail
          rw [← hV]
          clear hV
          by_cases hx0 : x = 0
          · have ex : (x != 0) = false := by simpa using hx0
            have HKy : Hid (mkE me ts = mkE me (ts.drop (k + 1))) := by show _ = _; rw [HKx.out, if_neg (fun y => y hx0)]
            clear hx0
            go_wp2_with fail
            go_roundw
            case rel => exact ⟨k + 1, Hlt.out, by first | rfl | (rw [hwk]; rfl) | go_num, HKy, HG1V, HOV⟩
            case measure => first | exact HM.out | (rw [hwk]; exact HM.out)
          · have ex : (x != 0) = true := by simpa using hx0
            have HX : Hid (vkE r n cd ts (prtF pf (ts.take 2048)) me = x) := by show _ = _; rw [← Hfs.out, HV.out, HKx.out, if_pos hx0]
            have Hx0 : Hid (x ≠ 0) := hx0
            obtain ⟨r0, r1, r2⟩ := sc_zero HRV.out
            have rf := fun i => block_free HRV.out i
            clear hx0
            go_wp2_with fail
            refine bodyPost_ret (v := .tuple #[.agg #[.pointer none, .slice none 0 0, .slice none 0 0], .int .i64 x]) (by simp [results, Tryz.results69, go_sem, r0, r1, r2]) rfl (VkPost.no HX.out Hx0.out ?_)
            exact grown_set3 (grown_trans HG1.out HG1V.out) Hn0.out.1 _ _ _
        · have hpb : (t.place != 4) = true := by simpa using hp
          have HKy : Hid (mkE me ts = mkE me (ts.drop (k + 1))) := by show _ = _; rw [HKn.out, if_neg (fun y => hp y.1)]
          clear hp HKn
          go_wp2_with fail
          go_roundw
          case rel => exact ⟨k + 1, Hlt.out, by first | rfl | (rw [hwk]; rfl) | go_num, HKy, HG1Y, HOY⟩
          case measure => first | exact HM.out | (rw [hwk]; exact HM.out)
      · obtain rfl : k = ts.length := Nat.le_antisymm hk (Nat.le_of_not_lt hlt)
        have HX : Hid (vkE r n cd ts (prtF pf (ts.take 2048)) me = 0) := by show _ = _; rw [← Hfs.out, HV.out, HK.out, List.drop_length]; rfl
        have HRV : Hid (ScB U n0 none (.slice none 0 0) (.slice none 0 0)) := grown_keep HG.out HR.out (by simp)
        have He : Hid (fs = prtF pf ts) := by show _ = _; rw [Hfs.out, List.take_of_length_le Hts.out]
        obtain ⟨r0, r1, r2⟩ := sc_zero HRV.out
        have rf := fun i => block_free HRV.out i
        clear hk hlt HK
        go_wp2_with fail
        refine bodyPost_ret (v := .tuple #[.agg #[.pointer bp, .slice pt ts.length ct, .slice p2 fs.length c2], .int .i64 0]) (by simp [results, Tryz.results69, go_sem, r0, r1, r2]) rfl ⟨bp, pt, ts.length, ct, p2, fs.length, c2, by rw [HX.out], ?_, fun _ => ⟨rfl, rfl, ?_⟩⟩
        · exact grown_set3 (grown_trans HG1.out HG.out) Hn0.out.1 _ _ _
        · rw [← He.out]
          exact own_big (own_far HO.out (set3_far _ _ _) Hn0.out.2) HG1.out.size
  · have e1 : (q != 0) = true := by simpa using hq0
    have HX : Hid (vkE r n cd ts (prtF pf (ts.take 2048)) me = q) := by show _ = _; rw [← Hfs.out, vkE_no (by rw [← hq]; exact hq0), ← hq]
    have Hq0 : Hid (q ≠ 0) := hq0
    clear hq hq0
    obtain ⟨r0, r1, r2⟩ := sc_zero HR3.out
    have rf := fun i => block_free HR3.out i
    go_wp2_with fail
    refine bodyPost_ret (v := .tuple #[.agg #[.pointer none, .slice none 0 0, .slice none 0 0], .int .i64 q]) (by simp [results, Tryz.results69, go_sem, r0, r1, r2]) rfl (VkPost.no HX.out Hq0.out ?_)
    exact grown_set3 (grown_trans HG1.out HG3.out) Hn0.out.1 _ _ _
end Go.Proofs.YtmemeloehgemcaaGreat
namespace Go.Proofs.YtmemeloehgemcaaGreat
open Go.RowKit Go.Shelf

theorem bgE_no {r n : Int} {cd : Int → Hd × List Pt} {ts : List Th} {fs : List Fe} {k : Int} (h : r ≠ 0) : bgE r n cd ts fs k = r := by
  unfold bgE
  rw [lkE_no h, if_neg h]
theorem about_no {w : World} {n : Int} {cd : Int → Hd × List Pt} {ts : List Th} {fs : List Fe} {s : Sd} {e : Ending} {w' : World} (h : AboutPost w 1 n cd ts fs s e w') : ∃ p c, e = .returned (.tuple #[.slice p 0 c, .int .i64 1]) ∧ w.grownBy w' none := by
  obtain ⟨p, m, c, he, g, h0, -⟩ := h
  rw [lkE_no (by decide)] at he h0
  obtain ⟨rfl, -⟩ := h0 (by decide)
  exact ⟨p, c, he, g⟩
theorem apply_no {w : World} {n : Int} {cd : Int → Hd × List Pt} {ts : List Th} {fs : List Fe} {s : Sd} {e : Ending} {w' : World} (h : ApplyPost w 1 n cd ts fs s e w') : ∃ p c, e = .returned (.tuple #[.slice p 0 c, .int .i64 1]) ∧ w.grownBy w' none := by
  obtain ⟨p, m, c, he, g, h0, -⟩ := h
  rw [lkE_no (by decide)] at he h0
  obtain ⟨rfl, -⟩ := h0 (by decide)
  exact ⟨p, c, he, g⟩
theorem depends_no {w : World} {n : Int} {cd : Int → Hd × List Pt} {ts : List Th} {fs : List Fe} {s o : Sd} {e : Ending} {w' : World} (h : DependsPost w 1 n cd ts fs s o e w') : e = .returned (.tuple #[.bool false, .int .i64 1]) ∧ w.grownBy w' none := by
  obtain ⟨b, he, g, h0, -⟩ := h
  rw [lkE_no (by decide)] at he h0
  obtain rfl := h0 (by decide)
  exact ⟨he, g⟩
theorem next_no {w : World} {n : Int} {cd : Int → Hd × List Pt} {ts : List Th} {fs : List Fe} {S : List Sd} {e : Ending} {w' : World} (h : NextPost w 1 n cd ts fs S e w') : e = .returned (.tuple #[.int .i64 0, .int .i64 1]) ∧ w.grownBy w' none := by
  obtain ⟨b, he, g, h0, -⟩ := h
  rw [lkE_no (by decide)] at he h0
  obtain rfl := h0 (by decide)
  exact ⟨he, g⟩
theorem effects_no {w : World} {n : Int} {cd : Int → Hd × List Pt} {ts : List Th} {fs : List Fe} {k : Int} {e : Ending} {w' : World} (h : EffectsPost w 1 n cd ts fs k e w') : ∃ p c, e = .returned (.tuple #[.slice p 0 c, .int .i64 1]) ∧ w.grownBy w' none := by
  obtain ⟨p, m, c, he, g, h0, -⟩ := h
  rw [bgE_no (by decide)] at he h0
  obtain ⟨rfl, -⟩ := h0 (by decide)
  exact ⟨p, c, he, g⟩
theorem all_no {w : World} {n : Int} {cd : Int → Hd × List Pt} {ts : List Th} {fs : List Fe} {k : Int} {e : Ending} {w' : World} (h : AllPost w 1 n cd ts fs k e w') : ∃ p c p' c', e = .returned (.tuple #[.slice p 0 c, .slice p' 0 c', .int .i64 1]) ∧ w.grownBy w' none := by
  obtain ⟨p, m, c, p', m', c', he, g, h0, -⟩ := h
  rw [bgE_no (by decide)] at he h0
  obtain ⟨rfl, -, rfl, -⟩ := h0 (by decide)
  exact ⟨p, c, p', c', he, g⟩
def TabB (w : World) (g : Nat) (vt vf : Value) : Prop := w.heap[g]? = some (.cells #[vt, vf] 29 (0, 0))
theorem tab_box {w : World} {g : Nat} {vt vf : Value} (h : TabB w g vt vf) : w.cell? ⟨g, 0, none⟩ = some vt ∧ w.cell? ⟨g, 1, none⟩ = some vf := ⟨(block_cell h 0).trans rfl, (block_cell h 1).trans rfl⟩
theorem nil_sd (w : World) : sdR.At w (.slice none 0 0) [] := ⟨none, 0, rfl, Nat.zero_le _, fun h => absurd h (Nat.lt_irrefl 0)⟩
/-- What stands while nothing is asked of no book. -/
structure NnS (w : World) (b0 b1 : Nat) (bv vt vf : Value) (s : Sd) (ts : List Th) (fs : List Fe) : Prop where
  inn : LIn w bv vt vf 1 0 (fun _ => (Hd.none, [])) ts fs
  tab : TabB w b0 vt vf
  std : SdB w b1 s
theorem NnS.keep {w w' : World} {b0 b1 : Nat} {bv vt vf : Value} {s : Sd} {ts : List Th} {fs : List Fe} (h : NnS w b0 b1 bv vt vf s ts fs) (g : w.grownBy w' none) : NnS w' b0 b1 bv vt vf s ts fs := ⟨h.inn.keep g, grown_keep g h.tab (by simp), grown_keep g h.std (by simp)⟩
end Go.Proofs.YtmemeloehgemcaaGreat
namespace Go.Proofs.YtmemeloehgemcaaGreat
open Go.RowKit

def tgR : Hd := ⟨⟨#[114, 111, 99, 107]⟩, 2, 1, 1, 2, 3, 2, false⟩
def tgF : Hd := ⟨⟨#[102, 111, 103]⟩, 1, 2, 0, 0, 0, 0, false⟩
def tgU : Mk := ⟨1, ⟨#[117, 112]⟩, 1, 1⟩
def tgD : Mk := ⟨2, ⟨#[100, 111, 119, 110]⟩, -1, -1⟩
def tgES (u v : Value) : List Ent := [⟨tgF, u, []⟩, ⟨tgR, v, []⟩]
def tgP1 : Pl := { plNew with mks := plNew.mks.set 1 tgU }
def tgP2 : Pl := { tgP1 with mks := tgP1.mks.set 2 tgD }
def tgP3 : Pl := { tgP2 with shut := true }
theorem tx_rock : caE plNew [] (tgR.with []) = 0 := by decide +kernel
theorem tx_fog (v : Value) : caE plNew [⟨tgR, v, []⟩] (tgF.with []) = 0 := by
  show (if plNew.shut = true then (7 : Int) else if ¬ cchk (tgF.with []) = 0 then cchk (tgF.with []) else if 0 ≤ pos [tgR.nm] tgF.nm then 5 else if (1 : Nat) = 64 then 14 else 0) = 0
  decide +kernel
theorem tx_ins (u v : Value) : ins [⟨tgR, v, []⟩] ⟨tgF, u, []⟩ = tgES u v := by
  rw [ins_cons, if_neg (by show ¬ ord tgR tgF < 0; decide +kernel)]
  rfl
theorem tx_up : maE plNew tgU = 0 := by decide +kernel
theorem tx_down : maE tgP1 tgD = 0 := by decide +kernel
theorem tx_upP : maP plNew tgU = tgP1 := if_pos tx_up
theorem tx_downP : maP tgP1 tgD = tgP2 := if_pos tx_down
theorem tx_seal (u v : Value) : sealE tgP2 (tgES u v) = 0 := by
  unfold sealE
  rw [if_neg (by decide)]
  simp [tgES, sealL, callsE]
theorem tx_shut (u v : Value) : sealP tgP2 (tgES u v) = tgP3 := if_pos (tx_seal u v)
def tgOk (b : Nat) (k : Nat) : Prop := b < k
theorem tgP3_mkd : MkD tgP3 := ⟨rfl, fun m hm => by
  simp [tgP3, tgP2, tgP1, plNew, List.set] at hm
  rcases hm with h | h | h | h <;> subst h
  · exact Or.inl rfl
  · exact Or.inr ⟨by decide, by decide⟩
  · exact Or.inr ⟨by decide, by decide⟩
  · exact Or.inl rfl⟩
theorem tx_mo : moM tgP3 1 = tgU ∧ moM tgP3 2 = tgD ∧ moM tgP3 3 = Mk.none ∧ moM tgP3 4 = Mk.none := ⟨rfl, rfl, rfl, rfl⟩
end Go.Proofs.YtmemeloehgemcaaGreat
namespace Go.Proofs.YtmemeloehgemcaaGreat
open Go.RowKit Go.Shelf

def exC : Hd := ⟨⟨#[99, 114, 111, 119, 110]⟩, 6, 3, 0, 0, 0, 0, false⟩
def exCp : Pt := ⟨5, 15, 9, 1, 6, 0, 0, ⟨#[]⟩⟩
def exB : Hd := ⟨⟨#[98, 114, 117, 115, 104]⟩, 6, 3, 0, 0, 0, 0, false⟩
def exBp : Pt := ⟨5, 11, 5, 0, 6, 0, 0, ⟨#[]⟩⟩
def exE : Hd := ⟨⟨#[98, 101, 97, 114]⟩, 2, 1, 0, 2, 2, 0, false⟩
def exF : Hd := ⟨⟨#[116, 104, 105, 101, 102]⟩, 5, 1, 0, 1, 1, 0, false⟩
def exFp : Pt := ⟨5, 10, 6, 0, 0, 0, 0, ⟨#[]⟩⟩
theorem ex_caC : caE plNew [] (exC.with [exCp]) = 0 := by
  show (if plNew.shut = true then (7 : Int) else if ¬ cchk (exC.with [exCp]) = 0 then cchk (exC.with [exCp]) else if 0 ≤ pos [] exC.nm then 5 else if (0 : Nat) = 64 then 14 else 0) = 0
  decide +kernel
theorem ex_inC (vC : Value) : ins [] ⟨exC, vC, [exCp]⟩ = [⟨exC, vC, [exCp]⟩] := by
  rfl
theorem ex_caB (vC : Value) : caE plNew [⟨exC, vC, [exCp]⟩] (exB.with [exBp]) = 0 := by
  show (if plNew.shut = true then (7 : Int) else if ¬ cchk (exB.with [exBp]) = 0 then cchk (exB.with [exBp]) else if 0 ≤ pos [exC.nm] exB.nm then 5 else if (1 : Nat) = 64 then 14 else 0) = 0
  decide +kernel
theorem ex_inB (vB vC : Value) : ins [⟨exC, vC, [exCp]⟩] ⟨exB, vB, [exBp]⟩ = [⟨exB, vB, [exBp]⟩, ⟨exC, vC, [exCp]⟩] := by
  rw [ins_cons, if_neg (by show ¬ ord exC exB < 0; decide +kernel)]
theorem ex_caE (vB vC : Value) : caE plNew [⟨exB, vB, [exBp]⟩, ⟨exC, vC, [exCp]⟩] (exE.with []) = 0 := by
  show (if plNew.shut = true then (7 : Int) else if ¬ cchk (exE.with []) = 0 then cchk (exE.with []) else if 0 ≤ pos [exB.nm, exC.nm] exE.nm then 5 else if (2 : Nat) = 64 then 14 else 0) = 0
  decide +kernel
theorem ex_inE (vE vB vC : Value) : ins [⟨exB, vB, [exBp]⟩, ⟨exC, vC, [exCp]⟩] ⟨exE, vE, []⟩ = [⟨exE, vE, []⟩, ⟨exB, vB, [exBp]⟩, ⟨exC, vC, [exCp]⟩] := by
  rw [ins_cons, if_neg (by show ¬ ord exB exE < 0; decide +kernel)]
theorem ex_caF (vE vB vC : Value) : caE plNew [⟨exE, vE, []⟩, ⟨exB, vB, [exBp]⟩, ⟨exC, vC, [exCp]⟩] (exF.with [exFp]) = 0 := by
  show (if plNew.shut = true then (7 : Int) else if ¬ cchk (exF.with [exFp]) = 0 then cchk (exF.with [exFp]) else if 0 ≤ pos [exE.nm, exB.nm, exC.nm] exF.nm then 5 else if (3 : Nat) = 64 then 14 else 0) = 0
  decide +kernel
theorem ex_inF (vE vF vB vC : Value) : ins [⟨exE, vE, []⟩, ⟨exB, vB, [exBp]⟩, ⟨exC, vC, [exCp]⟩] ⟨exF, vF, [exFp]⟩ = [⟨exE, vE, []⟩, ⟨exF, vF, [exFp]⟩, ⟨exB, vB, [exBp]⟩, ⟨exC, vC, [exCp]⟩] := by
  rw [ins_cons, if_pos (by show ord exE exF < 0; decide +kernel)]
  rw [ins_cons, if_neg (by show ¬ ord exB exF < 0; decide +kernel)]
def exES (vE vB vC vF : Value) : List Ent := [⟨exE, vE, []⟩, ⟨exF, vF, [exFp]⟩, ⟨exB, vB, [exBp]⟩, ⟨exC, vC, [exCp]⟩]
def exP : Pl := { plNew with shut := true }
theorem ex_seal (vE vB vC vF : Value) : sealE plNew (exES vE vB vC vF) = 0 := by
  unfold sealE
  rw [if_neg (by decide)]
  simp [exES, sealL, callsE, callE, exBp, exCp, exFp]
theorem ex_shut (vE vB vC vF : Value) : sealP plNew (exES vE vB vC vF) = exP := if_pos (ex_seal vE vB vC vF)
theorem ps_one {W : World} {n : Nat} {p : Pt} (h : W.heap[n]? = some (.cells #[.int .u8 p.wn, .int .u8 p.vb, .int .u8 p.wm, .int .i64 p.ct, .int .u8 p.su, .int .u8 p.tr, .int .u8 p.mr, .string p.nm] 47 (0, 0))) : PsAt W (.slice (some ⟨n, 0, none⟩) 1 1) [p] := by
  refine Or.inr ⟨⟨n, 0, none⟩, 1, rfl, Nat.le_refl _, fun j u hu => ?_⟩
  have hb := block_cell h j
  rw [add_plain', Nat.zero_add, hb]
  have e : pcells [p] = [.int .u8 p.wn, .int .u8 p.vb, .int .u8 p.wm, .int .i64 p.ct, .int .u8 p.su, .int .u8 p.tr, .int .u8 p.mr, .string p.nm] := rfl
  rw [e] at hu
  simpa using hu
theorem cell_blockL {w : World} {g o : Nat} {v : Value} (h : w.cell? ⟨g, o, none⟩ = some v) : g < w.heap.size := by
  by_cases hg : g < w.heap.size
  · exact hg
  · have : w.heap[g]? = none := Array.getElem?_eq_none (by omega)
    simp [World.cell?, this] at h
theorem Good.oldL {ok : Nat → Prop} {w : World} {es : List Ent} (h : Good ok w es) : Good (fun k => ok k ∧ k < w.heap.size) w es := fun e he => by
  obtain ⟨h1, h2⟩ := h e he
  refine ⟨h1, fun g o n c ev hn => ⟨h2 g o n c ev hn, ?_⟩⟩
  obtain ⟨x, y, hf⟩ := h1.form
  rw [hf] at ev
  injection ev with e1 e2 e3
  have h0 : 0 < e.ps.length := by omega
  obtain ⟨g', off, cap, ev', hP⟩ := h1.part h0
  rw [hf] at ev'
  injection ev' with e1' _ _
  rw [e1] at e1'
  injection e1' with e1'
  injection e1' with e1' _ _
  subst e1'
  obtain ⟨p, hp⟩ : ∃ p, e.ps[0]? = some p := ⟨_, List.getElem?_eq_getElem h0⟩
  exact cell_blockL (hP 0 p hp).c0
theorem Book.oldL {ok : Nat → Prop} {w : World} {b : Nat} {es : List Ent} {p : Pl} (h : Book ok w b es p) : Book (fun k => ok k ∧ k < w.heap.size) w b es p := ⟨h.lies, h.good.oldL, h.srt, h.fine, h.may⟩
def exT : List Th := [⟨4, 0, 4, 1, 0, 0, 0, 0, 0, 0, false⟩, ⟨3, 0, 4, 2, 0, 0, 0, 0, 0, 0, false⟩, ⟨1, 0, 4, 3, 0, 0, 0, 0, 0, 0, false⟩, ⟨1, 1, 4, 4, 0, 0, 0, 0, 0, 0, false⟩]
def exFs : List Fe := [⟨0, 6, 0, 0, 0⟩, ⟨0, 6, 0, 0, 0⟩, ⟨0, 2, 0, 2, 2⟩, ⟨1, 2, 0, 2, 2⟩]
/-- What the example's book and table are. -/
structure ExS (w wr : World) (b S nb ns t0 : Nat) (vE vB vC vF vt vf : Value) (T : List Th) (F : List Fe) : Prop where
  bk : Book (fun k => tgOk b k ∧ k < S) wr b (exES vE vB vC vF) exP
  tab : TabB wr nb vt vf
  res : TabB wr t0 (.slice none 0 0) (.slice none 0 0)
  th : thR.Own 60 wr S vt T
  fe : feR.Own 64 wr S vf F
  nm : wr.heap[ns]? = some (.cells #[.string exC.nm, .string exB.nm, .string exE.nm, .string exE.nm] 9 (0, 0))
  gr : w.grownBy wr none
  lie : w.heap.size ≤ t0 ∧ t0 < b ∧ b < S ∧ S ≤ nb ∧ nb < ns
theorem ExS.grow {w wr w' : World} {b S nb ns t0 : Nat} {vE vB vC vF vt vf : Value} {T : List Th} {F : List Fe} (h : ExS w wr b S nb ns t0 vE vB vC vF vt vf T F) (g : wr.grownBy w' none) : ExS w w' b S nb ns t0 vE vB vC vF vt vf T F := ⟨h.bk.keep g, grown_keep g h.tab (by simp), grown_keep g h.res (by simp), h.th.grow g, h.fe.grow g, grown_keep g h.nm (by simp), grown_trans h.gr g, h.lie⟩
theorem blk_setL {w : World} {b i : Nat} {T : TypeId} {cs cs' : Array Value} {u : Value} (h : w.heap[b]? = some (.cells cs T (0, 0))) (e : cs.setIfInBounds i u = cs') : (w.setCell ⟨b, i, none⟩ u).heap[b]? = some (.cells cs' T (0, 0)) := by rw [← e]; exact block_set h i u
theorem ExS.things {w wr w' : World} {b S nb ns t0 : Nat} {vE vB vC vF vt vf vt' : Value} {T T' : List Th} {F : List Fe} (h : ExS w wr b S nb ns t0 vE vB vC vF vt vf T F) (o : thR.Own 60 w' S vt' T') (g : wr.grownBy w' vt.ownBlock) : ExS w (w'.setCell ⟨nb, 0, none⟩ vt') b S nb ns t0 vE vB vC vF vt' vf T' F := by
  obtain ⟨l0, l1, l2, l3, l4⟩ := h.lie
  have hy : ∀ y, vt.ownBlock = some y → S ≤ y := fun y e => (World.ownsRow.lt h.th y e).1
  have b1 := h.bk.keepR g (fun q => by have := hy b q.symm; omega) (fun k hk q => by have := hy k q.symm; omega)
  have t1 : TabB w' nb vt vf := grown_keep g h.tab (own_tag h.th h.tab (by decide))
  have r1 : TabB w' t0 (.slice none 0 0) (.slice none 0 0) := grown_keep g h.res (own_tag h.th h.res (by decide))
  have n1 := grown_keep g h.nm (own_tag h.th h.nm (by decide))
  have g2 := grown_set w' nb 0 vt'
  exact ⟨b1.keepR g2 (fun q => by cases q; omega) (fun k hk q => by cases q; omega), blk_setL t1 rfl, grown_keep g2 r1 (fun q => by cases q; omega), own_tagged o g2 t1 (by decide), own_tagged (own_other h.fe h.th (by decide) g) g2 t1 (by decide), grown_keep g2 n1 (fun q => by cases q; omega), grown_set2 (grown_own h.gr g (fun y e => by have := hy y e; omega)) (by omega) _ _, h.lie⟩
theorem ExS.feats {w wr w' : World} {b S nb ns t0 : Nat} {vE vB vC vF vt vf vf' : Value} {T : List Th} {F F' : List Fe} (h : ExS w wr b S nb ns t0 vE vB vC vF vt vf T F) (o : feR.Own 64 w' S vf' F') (g : wr.grownBy w' vf.ownBlock) : ExS w (w'.setCell ⟨nb, 1, none⟩ vf') b S nb ns t0 vE vB vC vF vt vf' T F' := by
  obtain ⟨l0, l1, l2, l3, l4⟩ := h.lie
  have hy : ∀ y, vf.ownBlock = some y → S ≤ y := fun y e => (World.ownsRow.lt h.fe y e).1
  have b1 := h.bk.keepR g (fun q => by have := hy b q.symm; omega) (fun k hk q => by have := hy k q.symm; omega)
  have t1 : TabB w' nb vt vf := grown_keep g h.tab (own_tag h.fe h.tab (by decide))
  have r1 : TabB w' t0 (.slice none 0 0) (.slice none 0 0) := grown_keep g h.res (own_tag h.fe h.res (by decide))
  have n1 := grown_keep g h.nm (own_tag h.fe h.nm (by decide))
  have g2 := grown_set w' nb 1 vf'
  exact ⟨b1.keepR g2 (fun q => by cases q; omega) (fun k hk q => by cases q; omega), blk_setL t1 rfl, grown_keep g2 r1 (fun q => by cases q; omega), own_tagged (own_other h.th h.fe (by decide) g) g2 t1 (by decide), own_tagged o g2 t1 (by decide), grown_keep g2 n1 (fun q => by cases q; omega), grown_set2 (grown_own h.gr g (fun y e => by have := hy y e; omega)) (by omega) _ _, h.lie⟩
theorem ExS.cellT {w wr : World} {b S nb ns t0 : Nat} {vE vB vC vF vt vf : Value} {T : List Th} {F : List Fe} (h : ExS w wr b S nb ns t0 vE vB vC vF vt vf T F) : ∀ w', wr.grownBy w' vt.ownBlock → w'.cell? ⟨nb, 0, none⟩ = some vt ∧ w'.frozen? ⟨nb, 0, none⟩ = false := fun w' g => by
  have t1 : TabB w' nb vt vf := grown_keep g h.tab (own_tag h.th h.tab (by decide))
  exact ⟨(tab_box t1).1, block_free t1 0⟩
theorem ExS.cellF {w wr : World} {b S nb ns t0 : Nat} {vE vB vC vF vt vf : Value} {T : List Th} {F : List Fe} (h : ExS w wr b S nb ns t0 vE vB vC vF vt vf T F) : ∀ w', wr.grownBy w' vf.ownBlock → w'.cell? ⟨nb, 1, none⟩ = some vf ∧ w'.frozen? ⟨nb, 1, none⟩ = false := fun w' g => by
  have t1 : TabB w' nb vt vf := grown_keep g h.tab (own_tag h.fe h.tab (by decide))
  exact ⟨(tab_box t1).2, block_free t1 1⟩
/-- What comes of the example. -/
structure ExR (w wr : World) (b S : Nat) (vE vB vC vF vt vf : Value) : Prop where
  bk : Book (fun k => tgOk b k ∧ k < S) wr b (exES vE vB vC vF) exP
  th : thR.Own 60 wr S vt exT
  fe : feR.Own 64 wr S vf exFs
  gr : w.grownBy wr none
  lie : w.heap.size < b ∧ b < S
theorem ExS.done {w wr : World} {b S nb ns t0 : Nat} {vE vB vC vF vt vf : Value} (h : ExS w wr b S nb ns t0 vE vB vC vF vt vf exT exFs) : ExR w ((wr.setCell ⟨t0, 0, none⟩ vt).setCell ⟨t0, 1, none⟩ vf).drew b S vE vB vC vF vt vf ∧ TabB ((wr.setCell ⟨t0, 0, none⟩ vt).setCell ⟨t0, 1, none⟩ vf).drew t0 vt vf := by
  obtain ⟨l0, l1, l2, l3, l4⟩ := h.lie
  have g1 := grown_set wr t0 0 vt
  have r1 : TabB (wr.setCell ⟨t0, 0, none⟩ vt) t0 vt (.slice none 0 0) := blk_setL h.res rfl
  have g2 := grown_set (wr.setCell ⟨t0, 0, none⟩ vt) t0 1 vf
  have r2 : TabB ((wr.setCell ⟨t0, 0, none⟩ vt).setCell ⟨t0, 1, none⟩ vf) t0 vt vf := blk_setL r1 rfl
  have hb : some b ≠ some t0 := fun q => by cases q; omega
  have hk : ∀ k, tgOk b k ∧ k < S → some k ≠ some t0 := fun k hk q => by cases q; have h1 : b < t0 := hk.1; omega
  have b2 := (h.bk.keepR g1 hb hk).keepR g2 hb hk
  have o1 := own_tagged (own_tagged h.th g1 h.res (by decide)) g2 r1 (by decide)
  have o2 := own_tagged (own_tagged h.fe g1 h.res (by decide)) g2 r1 (by decide)
  exact ⟨⟨b2.keep (grown_drew _), own_grow o1 (grown_drew _), own_grow o2 (grown_drew _), grown_trans (grown_set2 (grown_set2 h.gr l0 _ _) l0 _ _) (grown_drew _), ⟨by omega, l2⟩⟩, r2⟩
theorem ex_fN (vE vB vC vF : Value) : (fndN exP.shut (pos (names (exES vE vB vC vF)) exC.nm) = 4 ∧ fndN exP.shut (pos (names (exES vE vB vC vF)) exB.nm) = 3) ∧ fndN exP.shut (pos (names (exES vE vB vC vF)) exE.nm) = 1 ∧ fndN exP.shut (pos (names (exES vE vB vC vF)) exF.nm) = 2 := by
  show (fndN true (pos [exE.nm, exF.nm, exB.nm, exC.nm] exC.nm) = 4 ∧ fndN true (pos [exE.nm, exF.nm, exB.nm, exC.nm] exB.nm) = 3) ∧ fndN true (pos [exE.nm, exF.nm, exB.nm, exC.nm] exE.nm) = 1 ∧ fndN true (pos [exE.nm, exF.nm, exB.nm, exC.nm] exF.nm) = 2
  decide +kernel
theorem ex_fE (vE vB vC vF : Value) : (fndE exP.shut (pos (names (exES vE vB vC vF)) exC.nm) = 0 ∧ fndE exP.shut (pos (names (exES vE vB vC vF)) exB.nm) = 0) ∧ fndE exP.shut (pos (names (exES vE vB vC vF)) exE.nm) = 0 ∧ fndE exP.shut (pos (names (exES vE vB vC vF)) exF.nm) = 0 := by
  show (fndE true (pos [exE.nm, exF.nm, exB.nm, exC.nm] exC.nm) = 0 ∧ fndE true (pos [exE.nm, exF.nm, exB.nm, exC.nm] exB.nm) = 0) ∧ fndE true (pos [exE.nm, exF.nm, exB.nm, exC.nm] exE.nm) = 0 ∧ fndE true (pos [exE.nm, exF.nm, exB.nm, exC.nm] exF.nm) = 0
  decide +kernel
theorem Tryz.linfoT : (Tryz.prog.info? 60).map (fun i => (i.zero, i.size, i.bytes)) = some (some (.agg #[.int .i64 0, .int .i64 0, .int .u8 0, .int .i64 0, .int .i64 0, .int .i64 0, .int .i64 0, .int .i64 0, .int .i64 0, .int .i64 0, .bool false]), 11, 88) := by kernel_rfl
theorem len_smallT {n : Nat} (h : n ≤ 4096) : n + 1 ≤ maxLen ∧ (n + 1) * 88 ≤ 140737488355328 := by unfold maxLen; omega
theorem len_smallF {n : Nat} (h : n ≤ 4096) : n + 1 ≤ maxLen ∧ (n + 1) * 32 ≤ 140737488355328 := by unfold maxLen; omega
theorem th_src (Z : World) (t : Th) : Src (Z.alloc (.cells (thc t).toArray 60)) (.slice (some ⟨Z.heap.size, 0, none⟩) 1 1) 1 11 (thc t) := lit_Src (cs := (thc t).toArray) (alloc_at Z _ _) rfl 1
theorem fe_src (Z : World) (f : Fe) : Src (Z.alloc (.cells (fec f).toArray 64)) (.slice (some ⟨Z.heap.size, 0, none⟩) 1 1) 1 5 (fec f) := lit_Src (cs := (fec f).toArray) (alloc_at Z _ _) rfl 1
end Go.Proofs.YtmemeloehgemcaaGreat
