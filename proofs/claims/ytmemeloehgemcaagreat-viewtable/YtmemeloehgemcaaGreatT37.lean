/-
  View: what all ways look at first.
  Layers: what is answered of no book.
  The book of chapter 18's examples.
  Layers: the book of the chapter's examples.
  Layers: the chapter's example.
  Layers: the chapter's examples, plainly.
  Layers: awake.
  LayerNone: what is answered of no book.
  Layers: a table and a standing effect, read as data.
  Layers' laws, small helpers: Pick; lists copied; lists held against lists that are the same; heavy.
-/
import Derived.Test.YtmemeloehgemcaaGreatT36
import Derived.Test.YtmemeloehgemcaaGreatT32
import Derived.Test.YtmemeloehgemcaaGreatT34
import Derived.Test.YtmemeloehgemcaaGreatT25
import Derived.Test.YtmemeloehgemcaaGreatT14
import Derived.Test.YtmemeloehgemcaaGreatT13
import Derived.Test.YtmemeloehgemcaaGreatT3
import Derived.BigQuiet
namespace Go.Proofs.YtmemeloehgemcaaGreat
open Go.RowKit Go.Shelf

def VkPost (w : World) (bp : Option Addr) (vt : Value) (r n : Int) (cd : Int → Hd × List Pt) (ts : List Th) (pf : Th → Fe) (me : Th → Int) (e : Ending) (w' : World) : Prop := ∃ bq p1 m1 c1 p2 m2 c2, e = .returned (.tuple #[.agg #[.pointer bq, .slice p1 m1 c1, .slice p2 m2 c2], .int .i64 (vkE r n cd ts (prtF pf (ts.take 2048)) me)]) ∧ w.grownBy w' none ∧ (vkE r n cd ts (prtF pf (ts.take 2048)) me = 0 → bq = bp ∧ vt = .slice p1 m1 c1 ∧ FOwn w' w.heap.size (.slice p2 m2 c2) (prtF pf ts))
theorem VkPost.no {w w' : World} {bp : Option Addr} {vt : Value} {r n : Int} {cd : Int → Hd × List Pt} {ts : List Th} {pf : Th → Fe} {me : Th → Int} {q : Int} (h : vkE r n cd ts (prtF pf (ts.take 2048)) me = q) (hq : q ≠ 0) (g : w.grownBy w' none) : VkPost w bp vt r n cd ts pf me (.returned (.tuple #[.agg #[.pointer none, .slice none 0 0, .slice none 0 0], .int .i64 q])) w' := ⟨none, none, 0, 0, none, 0, 0, by rw [h], g, fun z => absurd (h.symm.trans z) hq⟩
theorem sc_zero {w : World} {g : Nat} (h : ScB w g none (.slice none 0 0) (.slice none 0 0)) : w.cell? ⟨g, 0, none⟩ = some (.pointer none) ∧ w.cell? ⟨g, 1, none⟩ = some (.slice none 0 0) ∧ w.cell? ⟨g, 2, none⟩ = some (.slice none 0 0) := sc_box h
theorem grown_set3 {w w' : World} {g : Nat} (h : w.grownBy w' none) (hg : w.heap.size ≤ g) (a b c : Value) : w.grownBy (((w'.setCell ⟨g, 0, none⟩ a).setCell ⟨g, 1, none⟩ b).setCell ⟨g, 2, none⟩ c) none := by
  have k : ∀ {v : World} (i : Nat) (x : Value), w.grownBy v none → w.grownBy (v.setCell ⟨g, i, none⟩ x) none := fun i x q => grown_own q (grown_set _ _ _ _) (fun y e => by cases e; exact hg)
  exact k 2 c (k 1 b (k 0 a h))
theorem set3_far {w : World} {g : Nat} (a b c : Value) : w.grownBy (((w.setCell ⟨g, 0, none⟩ a).setCell ⟨g, 1, none⟩ b).setCell ⟨g, 2, none⟩ c) (some g) := grown_trans (grown_trans (grown_set _ _ _ _) (grown_set _ _ _ _)) (grown_set _ _ _ _)
theorem mkE_at {me : Th → Int} : ∀ {ts : List Th} {k : Nat} (hk : k < ts.length), mkE me (ts.drop k) = if ts[k].place = 4 ∧ me ts[k] ≠ 0 then me ts[k] else mkE me (ts.drop (k + 1)) := fun {ts k} hk => by
  rw [List.drop_eq_getElem_cons hk, mkE]
set_option maxRecDepth 100000 in
set_option maxHeartbeats 4000000 in
theorem vlook_any (bp : Option Addr) (vt : Value) (r n : Int) (cd : Int → Hd × List Pt) (ts : List Th) (pf : Th → Fe) (mf : Fe → Th → Fe) (me : Th → Int) (w : World) (I : VIn w (.pointer bp) vt r n cd ts pf mf me) : Calls Tryz.prog 69 #[.pointer bp, vt] w (VkPost w bp vt r n cd ts pf me) := by
  obtain ⟨pt, ct, rfl, hcap⟩ := I.cap
  obtain ⟨W1, hW1⟩ : ∃ W1, W1 = w.alloc (.cells #[.pointer none, .slice none 0 0, .slice none 0 0] 144) := ⟨_, rfl⟩
  have HG1 : Hid (w.grownBy W1 none) := by rw [hW1]; exact World.grownBy_alloc _ _ none
  have HR : Hid (ScB W1 w.heap.size none (.slice none 0 0) (.slice none 0 0)) := by rw [hW1]; exact alloc_at w _ _
  have HI : Hid (VIn W1 (.pointer bp) (.slice pt ts.length ct) r n cd ts pf mf me) := I.keep HG1.out
  have HL : Hid (ts.length ≤ maxLen) := by obtain ⟨_, _, _, q, _⟩ := I.th; exact q
  obtain ⟨m, hm⟩ : ∃ m : Nat, m = min ts.length 2048 := ⟨_, rfl⟩
  have hmin : min (ts.length : Int) 2048 = (m : Int) := by omega
  have hmt : (ts.take 2048).length = m := by rw [List.length_take]; omega
  have htk : ts.take 2048 = ts.take m := by
    rw [hm]
    by_cases q : ts.length ≤ 2048
    · rw [Nat.min_eq_left q, List.take_of_length_le q, List.take_of_length_le (Nat.le_refl _)]
    · rw [Nat.min_eq_right (by omega)]
  have C1 := vprinted_any (.pointer bp) (.slice pt m ct) (ts.take 2048) pf W1 (by rw [htk]; exact HI.out.th.take m (by omega)) (by rw [hmt]; omega) HI.out.pr
  have Hm : Hid (m = min ts.length 2048 ∧ (ts.take 2048).length = m) := ⟨hm, hmt⟩
  have m0 : (0 : Int) ≤ (m : Int) := by omega
  have m1 : (m : Int) ≤ (ct : Int) := by omega
  have m2 : m ≤ ct := by omega
  clear I hm hmt htk hcap
  go_enter Tryz.func69, Tryz.ntmps69
  go_upto_region 1 with fail
  rw [← hW1]
  clear hW1
  obtain ⟨n0, h0⟩ : ∃ n0, n0 = w.heap.size := ⟨_, rfl⟩
  have Hn0 : Hid (w.heap.size ≤ n0 ∧ n0 < W1.heap.size) := ⟨by rw [h0]; exact Nat.le_refl _, by rw [h0]; exact block_lt HR.out⟩
  simp only [← h0] at HR ⊢
  clear h0
  go_wp2_with fail
  refine C1.mono ?_
  rintro e2 w2 ⟨v2, rfl, o2, g2⟩
  obtain ⟨p2, c2, rfl⟩ := RecT.Own.form o2
  obtain ⟨fs, hfs⟩ : ∃ fs, fs = prtF pf (ts.take 2048) := ⟨_, rfl⟩
  have Hfs : Hid (fs = prtF pf (ts.take 2048)) := hfs
  rw [← hfs] at o2 ⊢
  have hfl : fs.length = m := by rw [hfs, prtF_len]; exact Hm.out.2
  have HG2 : Hid (W1.grownBy w2 none) := g2
  have HO2 : Hid (FOwn w2 W1.heap.size (.slice p2 fs.length c2) fs) := o2
  have C2 := lEffects_any _ _ _ r n cd ts fs 5 w2 (HI.out.li w2 _ fs g2 (RecT.Own.at o2) (by have := Hm.out.1; omega))
  unfold EffectsPost at C2
  clear C1 g2 o2 hfs hfl
  go_wp2_with fail
  refine C2.mono ?_
  rintro e3 w3 ⟨p3, m3, c3, rfl, g3, -, -⟩
  have HG3 : Hid (W1.grownBy w3 none) := grown_trans HG2.out g3
  have HO3 : Hid (FOwn w3 W1.heap.size (.slice p2 fs.length c2) fs) := own_grow HO2.out g3
  have HR3 : Hid (ScB w3 n0 none (.slice none 0 0) (.slice none 0 0)) := grown_keep HG3.out HR.out (by simp)
  obtain ⟨q, hq⟩ : ∃ q, q = bgE r n cd ts fs 5 := ⟨_, rfl⟩
  rw [← hq]
  clear C2 g3 HO2 HG2
  by_cases hq0 : q = 0
  · have e1 : (q != 0) = false := by simpa using hq0
    obtain ⟨hr0, -⟩ := bgE_any (hq.symm.trans hq0)
    have HV : Hid (vkE r n cd ts fs me = mkE me ts) := vkE_yes (hq.symm.trans hq0)
    have Hts : Hid (ts.length ≤ 2048) := HI.out.few hr0
    clear hq hr0
    go_wp2_with fail
    go_loopw [10, 11, 12, 33] (fun _ _ _ i wr => ∃ k : Nat, k ≤ ts.length ∧ i = .int .i64 (k : Int) ∧ Hid (mkE me ts = mkE me (ts.drop k)) ∧ Hid (W1.grownBy wr none) ∧ Hid (FOwn wr W1.heap.size (.slice p2 fs.length c2) fs)) (fun _ _ _ i _ => ts.length - (intOf i).toNat)
    case atStart => exact ⟨0, Nat.zero_le _, rfl, rfl, HG3.out, HO3.out⟩
    case round =>
      obtain ⟨k, hk, rfl, HK, HG, HO⟩ := hrel
      obtain ⟨U, hU⟩ : ∃ U, U = wr := ⟨_, rfl⟩
      subst hU
      clear HG3 HO3 HR3
      by_cases hlt : k < ts.length
      · obtain ⟨g, off, cap, ee, R⟩ := th_there (HI.out.th.keep HG.out) hlt
        cases ee
        obtain ⟨t, ht⟩ : ∃ t, t = ts[k] := ⟨_, rfl⟩
        rw [← ht] at R
        have HKn : Hid (mkE me ts = if t.place = 4 ∧ me t ≠ 0 then me t else mkE me (ts.drop (k + 1))) := by show _ = _; rw [HK.out, mkE_at hlt, ← ht]
        obtain ⟨c0, c1, c2', c3', c4, c5, c6, c7, c8, c9, c10⟩ := th_cells R
        obtain ⟨Y, hY⟩ : ∃ Y, Y = U.alloc (.cells #[.int .i64 t.card, .int .i64 t.owner, .int .u8 t.place, .int .i64 t.stamp, .int .i64 t.hurt, .int .i64 t.m0, .int .i64 t.m1, .int .i64 t.m2, .int .i64 t.m3, .int .i64 t.done, .bool t.fresh] 60) := ⟨_, rfl⟩
        have HGY : Hid (U.grownBy Y none) := by rw [hY]; exact World.grownBy_alloc _ _ none
        have HBx : Hid (ThB Y U.heap.size t) := by rw [hY]; exact alloc_at _ _ _
        have HG1Y : Hid (W1.grownBy Y none) := grown_trans HG.out HGY.out
        have HOY : Hid (FOwn Y W1.heap.size (.slice p2 fs.length c2) fs) := own_grow HO.out HGY.out
        have hlt' : (k : Int) < ts.length := Int.ofNat_lt.2 hlt
        have hwk := wrap_next (k := k) (Nat.le_trans (Nat.le_of_lt hlt) (Nat.le_trans Hts.out (by decide)))
        have Hlt : Hid (k < ts.length) := hlt
        have HM : Hid (ts.length - (intOf (.int .i64 ((k : Int) + 1))).toNat < ts.length - (intOf (.int .i64 (k : Int))).toNat) := meas_k hlt
        clear R ht hlt hk HO HG HK
        go_upto_region 8 with fail
        rw [← hY]
        clear hY c0 c1 c2' c3' c4 c5 c6 c7 c8 c9 c10
        obtain ⟨nb, hnb⟩ : ∃ nb, nb = U.heap.size := ⟨_, rfl⟩
        rw [← hnb] at HBx ⊢
        clear hnb
        obtain ⟨b0, b1, b2, b3, b4, b5, b6, b7, b8, b9, b10⟩ := th_box HBx.out
        by_cases hp : t.place = 4
        · have hpb : (t.place != 4) = false := by rw [hp]; rfl
          have C3 := HI.out.mkd Y Fe.none t HG1Y.out
          obtain ⟨f2, hf2⟩ : ∃ f2, f2 = mf Fe.none t := ⟨_, rfl⟩
          obtain ⟨x, hx⟩ : ∃ x, x = me t := ⟨_, rfl⟩
          rw [← hf2, ← hx] at C3
          unfold fev Fe.none at C3
          have HKx : Hid (mkE me ts = if x ≠ 0 then x else mkE me (ts.drop (k + 1))) := by
            show _ = _
            rw [HKn.out, hx]
            by_cases z : me t = 0
            · rw [if_neg (fun y => y.2 z), if_neg (fun y => y z)]
            · rw [if_pos ⟨hp, z⟩, if_pos z]
          clear hp hf2 hx HKn
          go_wp2_with fail
          refine C3.mono ?_
          rintro e4 w4 ⟨rfl, g4⟩
          obtain ⟨V, hV⟩ : ∃ V, V = w4.alloc (.cells #[.int .i64 f2.ho, .int .u8 f2.su, .int .u16 f2.tr, .int .i64 f2.po, .int .i64 f2.he] 64) := ⟨_, rfl⟩
          have HGV : Hid (Y.grownBy V none) := by rw [hV]; exact grown_push g4 _
          have HG1V : Hid (W1.grownBy V none) := grown_trans HG1Y.out HGV.out
          have HOV : Hid (FOwn V W1.heap.size (.slice p2 fs.length c2) fs) := own_grow HOY.out HGV.out
          have HRV : Hid (ScB V n0 none (.slice none 0 0) (.slice none 0 0)) := grown_keep HG1V.out HR.out (by simp)
          clear C3 g4 b0 b1 b2 b3 b4 b5 b6 b7 b8 b9 b10 hpb
          go_upto_region 10 with fail
          rw [← hV]
          clear hV
          by_cases hx0 : x = 0
          · have ex : (x != 0) = false := by simpa using hx0
            have HKy : Hid (mkE me ts = mkE me (ts.drop (k + 1))) := by show _ = _; rw [HKx.out, if_neg (fun y => y hx0)]
            clear hx0
            go_wp2_with fail
            go_roundw
            case rel => exact ⟨k + 1, Hlt.out, by first | rfl | (rw [hwk]; rfl) | go_num, HKy, HG1V, HOV⟩
            case measure => first | exact HM.out | (rw [hwk]; exact HM.out)
          · have ex : (x != 0) = true := by simpa using hx0
            have HX : Hid (vkE r n cd ts (prtF pf (ts.take 2048)) me = x) := by show _ = _; rw [← Hfs.out, HV.out, HKx.out, if_pos hx0]
            have Hx0 : Hid (x ≠ 0) := hx0
            obtain ⟨r0, r1, r2⟩ := sc_zero HRV.out
            have rf := fun i => block_free HRV.out i
            clear hx0
            go_wp2_with fail
            refine bodyPost_ret (v := .tuple #[.agg #[.pointer none, .slice none 0 0, .slice none 0 0], .int .i64 x]) (by simp [results, Tryz.results69, go_sem, r0, r1, r2]) rfl (VkPost.no HX.out Hx0.out ?_)
            exact grown_set3 (grown_trans HG1.out HG1V.out) Hn0.out.1 _ _ _
        · have hpb : (t.place != 4) = true := by simpa using hp
          have HKy : Hid (mkE me ts = mkE me (ts.drop (k + 1))) := by show _ = _; rw [HKn.out, if_neg (fun y => hp y.1)]
          clear hp HKn
          go_wp2_with fail
          go_roundw
          case rel => exact ⟨k + 1, Hlt.out, by first | rfl | (rw [hwk]; rfl) | go_num, HKy, HG1Y, HOY⟩
          case measure => first | exact HM.out | (rw [hwk]; exact HM.out)
      · obtain rfl : k = ts.length := Nat.le_antisymm hk (Nat.le_of_not_lt hlt)
        have HX : Hid (vkE r n cd ts (prtF pf (ts.take 2048)) me = 0) := by show _ = _; rw [← Hfs.out, HV.out, HK.out, List.drop_length]; rfl
        have HRV : Hid (ScB U n0 none (.slice none 0 0) (.slice none 0 0)) := grown_keep HG.out HR.out (by simp)
        have He : Hid (fs = prtF pf ts) := by show _ = _; rw [Hfs.out, List.take_of_length_le Hts.out]
        obtain ⟨r0, r1, r2⟩ := sc_zero HRV.out
        have rf := fun i => block_free HRV.out i
        clear hk hlt HK
        go_wp2_with fail
        refine bodyPost_ret (v := .tuple #[.agg #[.pointer bp, .slice pt ts.length ct, .slice p2 fs.length c2], .int .i64 0]) (by simp [results, Tryz.results69, go_sem, r0, r1, r2]) rfl ⟨bp, pt, ts.length, ct, p2, fs.length, c2, by rw [HX.out], ?_, fun _ => ⟨rfl, rfl, ?_⟩⟩
        · exact grown_set3 (grown_trans HG1.out HG.out) Hn0.out.1 _ _ _
        · rw [← He.out]
          exact own_big (own_far HO.out (set3_far _ _ _) Hn0.out.2) HG1.out.size
  · have e1 : (q != 0) = true := by simpa using hq0
    have HX : Hid (vkE r n cd ts (prtF pf (ts.take 2048)) me = q) := by show _ = _; rw [← Hfs.out, vkE_no (by rw [← hq]; exact hq0), ← hq]
    have Hq0 : Hid (q ≠ 0) := hq0
    clear hq hq0
    obtain ⟨r0, r1, r2⟩ := sc_zero HR3.out
    have rf := fun i => block_free HR3.out i
    go_wp2_with fail
    refine bodyPost_ret (v := .tuple #[.agg #[.pointer none, .slice none 0 0, .slice none 0 0], .int .i64 q]) (by simp [results, Tryz.results69, go_sem, r0, r1, r2]) rfl (VkPost.no HX.out Hq0.out ?_)
    exact grown_set3 (grown_trans HG1.out HG3.out) Hn0.out.1 _ _ _
end Go.Proofs.YtmemeloehgemcaaGreat
namespace Go.Proofs.YtmemeloehgemcaaGreat
open Go.RowKit Go.Shelf

end Go.Proofs.YtmemeloehgemcaaGreat
namespace Go.Proofs.YtmemeloehgemcaaGreat
open Go.RowKit

def tgU : Mk := ⟨1, ⟨#[117, 112]⟩, 1, 1⟩
def tgD : Mk := ⟨2, ⟨#[100, 111, 119, 110]⟩, -1, -1⟩
def tgP1 : Pl := { plNew with mks := plNew.mks.set 1 tgU }
def tgP2 : Pl := { tgP1 with mks := tgP1.mks.set 2 tgD }
theorem tx_up : maE plNew tgU = 0 := by decide +kernel
theorem tx_down : maE tgP1 tgD = 0 := by decide +kernel
theorem tx_upP : maP plNew tgU = tgP1 := if_pos tx_up
theorem tx_downP : maP tgP1 tgD = tgP2 := if_pos tx_down
def tgOk (b : Nat) (k : Nat) : Prop := b < k
end Go.Proofs.YtmemeloehgemcaaGreat
namespace Go.Proofs.YtmemeloehgemcaaGreat
open Go.RowKit Go.Shelf

def exC : Hd := ⟨⟨#[99, 114, 111, 119, 110]⟩, 6, 3, 0, 0, 0, 0, false⟩
def exCp : Pt := ⟨5, 15, 9, 1, 6, 0, 0, ⟨#[]⟩⟩
def exBp : Pt := ⟨5, 11, 5, 0, 6, 0, 0, ⟨#[]⟩⟩
def exE : Hd := ⟨⟨#[98, 101, 97, 114]⟩, 2, 1, 0, 2, 2, 0, false⟩
theorem ps_one {W : World} {n : Nat} {p : Pt} (h : W.heap[n]? = some (.cells #[.int .u8 p.wn, .int .u8 p.vb, .int .u8 p.wm, .int .i64 p.ct, .int .u8 p.su, .int .u8 p.tr, .int .u8 p.mr, .string p.nm] 47 (0, 0))) : PsAt W (.slice (some ⟨n, 0, none⟩) 1 1) [p] := by
  refine Or.inr ⟨⟨n, 0, none⟩, 1, rfl, Nat.le_refl _, fun j u hu => ?_⟩
  have hb := block_cell h j
  rw [add_plain', Nat.zero_add, hb]
  have e : pcells [p] = [.int .u8 p.wn, .int .u8 p.vb, .int .u8 p.wm, .int .i64 p.ct, .int .u8 p.su, .int .u8 p.tr, .int .u8 p.mr, .string p.nm] := rfl
  rw [e] at hu
  simpa using hu
theorem cell_blockL {w : World} {g o : Nat} {v : Value} (h : w.cell? ⟨g, o, none⟩ = some v) : g < w.heap.size := by
  by_cases hg : g < w.heap.size
  · exact hg
  · have : w.heap[g]? = none := Array.getElem?_eq_none (by omega)
    simp [World.cell?, this] at h
theorem Good.oldL {ok : Nat → Prop} {w : World} {es : List Ent} (h : Good ok w es) : Good (fun k => ok k ∧ k < w.heap.size) w es := fun e he => by
  obtain ⟨h1, h2⟩ := h e he
  refine ⟨h1, fun g o n c ev hn => ⟨h2 g o n c ev hn, ?_⟩⟩
  obtain ⟨x, y, hf⟩ := h1.form
  rw [hf] at ev
  injection ev with e1 e2 e3
  have h0 : 0 < e.ps.length := by omega
  obtain ⟨g', off, cap, ev', hP⟩ := h1.part h0
  rw [hf] at ev'
  injection ev' with e1' _ _
  rw [e1] at e1'
  injection e1' with e1'
  injection e1' with e1' _ _
  subst e1'
  obtain ⟨p, hp⟩ : ∃ p, e.ps[0]? = some p := ⟨_, List.getElem?_eq_getElem h0⟩
  exact cell_blockL (hP 0 p hp).c0
theorem Book.oldL {ok : Nat → Prop} {w : World} {b : Nat} {es : List Ent} {p : Pl} (h : Book ok w b es p) : Book (fun k => ok k ∧ k < w.heap.size) w b es p := ⟨h.lies, h.good.oldL, h.srt, h.fine, h.may⟩
theorem Tryz.linfoT : (Tryz.prog.info? 60).map (fun i => (i.zero, i.size, i.bytes)) = some (some (.agg #[.int .i64 0, .int .i64 0, .int .u8 0, .int .i64 0, .int .i64 0, .int .i64 0, .int .i64 0, .int .i64 0, .int .i64 0, .int .i64 0, .bool false]), 11, 88) := by kernel_rfl
theorem len_smallT {n : Nat} (h : n ≤ 4096) : n + 1 ≤ maxLen ∧ (n + 1) * 88 ≤ 140737488355328 := by unfold maxLen; omega
theorem th_src (Z : World) (t : Th) : Src (Z.alloc (.cells (thc t).toArray 60)) (.slice (some ⟨Z.heap.size, 0, none⟩) 1 1) 1 11 (thc t) := lit_Src (cs := (thc t).toArray) (alloc_at Z _ _) rfl 1
end Go.Proofs.YtmemeloehgemcaaGreat
namespace Go.Proofs.YtmemeloehgemcaaGreat
open Go.RowKit Go.Shelf

end Go.Proofs.YtmemeloehgemcaaGreat
namespace Go.Proofs.YtmemeloehgemcaaGreat
open Go.RowKit Go.Shelf

end Go.Proofs.YtmemeloehgemcaaGreat
namespace Go.Proofs.YtmemeloehgemcaaGreat
open Go.RowKit Go.Shelf

end Go.Proofs.YtmemeloehgemcaaGreat
namespace Go.Proofs.YtmemeloehgemcaaGreat
open Go.RowKit Go.Shelf

end Go.Proofs.YtmemeloehgemcaaGreat
namespace Go.Proofs.YtmemeloehgemcaaGreat
open Go.ChangeShapes Go.WideShapes Go.ChangeAt Go.RowKit Go.Deep

set_option maxRecDepth 100000 in
theorem thing_cells {H : Type} {enc : TypeId × Value → H} {w : World} {base : Nat} {sp : Nat → Bool} {held : Bool} {fuel : Nat} {l : List Value} {x : DataW H × List MemPlace} (hsz : l.length = 11) (hf : DataW.trod enc Tryz.prog w base sp held fuel 60 l = some x) : ∃ t : Th, l = thc t := by
  obtain ⟨c0, c1, c2, c3, c4, c5, c6, c7, c8, c9, c10, rfl⟩ : ∃ c0 c1 c2 c3 c4 c5 c6 c7 c8 c9 c10, l = [c0, c1, c2, c3, c4, c5, c6, c7, c8, c9, c10] := by
    match l, (show l.length = 11 from hsz) with
    | [c0, c1, c2, c3, c4, c5, c6, c7, c8, c9, c10], _ => exact ⟨c0, c1, c2, c3, c4, c5, c6, c7, c8, c9, c10, rfl⟩
  obtain ⟨xs, n, _, hx, _, hlen, hfl⟩ := DataW.trod_struct Tryz.underlying60 hf
  match xs, hlen with
  | [y0, y1, y2, y3, y4, y5, y6, y7], _ =>
    have t0 : DataW.trod enc Tryz.prog w base sp held n 3 (([c0, c1, c2, c3, c4, c5, c6, c7, c8, c9, c10].drop 0).take (Tryz.prog.cellsOf 3)) = some y0 := hfl 0 _ rfl
    rw [cOfI] at t0
    have t1 : DataW.trod enc Tryz.prog w base sp held n 3 (([c0, c1, c2, c3, c4, c5, c6, c7, c8, c9, c10].drop 1).take (Tryz.prog.cellsOf 3)) = some y1 := hfl 1 _ rfl
    rw [cOfI] at t1
    have t2 : DataW.trod enc Tryz.prog w base sp held n 57 (([c0, c1, c2, c3, c4, c5, c6, c7, c8, c9, c10].drop 2).take (Tryz.prog.cellsOf 57)) = some y2 := hfl 2 _ rfl
    rw [cOfPl] at t2
    have t3 : DataW.trod enc Tryz.prog w base sp held n 3 (([c0, c1, c2, c3, c4, c5, c6, c7, c8, c9, c10].drop 3).take (Tryz.prog.cellsOf 3)) = some y3 := hfl 3 _ rfl
    rw [cOfI] at t3
    have t4 : DataW.trod enc Tryz.prog w base sp held n 3 (([c0, c1, c2, c3, c4, c5, c6, c7, c8, c9, c10].drop 4).take (Tryz.prog.cellsOf 3)) = some y4 := hfl 4 _ rfl
    rw [cOfI] at t4
    have t5 : DataW.trod enc Tryz.prog w base sp held n 58 (([c0, c1, c2, c3, c4, c5, c6, c7, c8, c9, c10].drop 5).take (Tryz.prog.cellsOf 58)) = some y5 := hfl 5 _ rfl
    rw [cOf4] at t5
    have t6 : DataW.trod enc Tryz.prog w base sp held n 3 (([c0, c1, c2, c3, c4, c5, c6, c7, c8, c9, c10].drop 9).take (Tryz.prog.cellsOf 3)) = some y6 := hfl 6 _ rfl
    rw [cOfI] at t6
    have t7 : DataW.trod enc Tryz.prog w base sp held n 4 (([c0, c1, c2, c3, c4, c5, c6, c7, c8, c9, c10].drop 10).take (Tryz.prog.cellsOf 4)) = some y7 := hfl 7 _ rfl
    rw [cOfB] at t7
    obtain ⟨z0, e0, _, w0⟩ := DataW.trod_int Tryz.underlying3 (cs := [c0]) t0
    simp only [List.cons.injEq, and_true] at e0
    subst e0
    obtain ⟨z1, e1, _, w1⟩ := DataW.trod_int Tryz.underlying3 (cs := [c1]) t1
    simp only [List.cons.injEq, and_true] at e1
    subst e1
    obtain ⟨z2, e2, _, w2⟩ := DataW.trod_int Tryz.underlying57 (cs := [c2]) t2
    simp only [List.cons.injEq, and_true] at e2
    subst e2
    obtain ⟨z3, e3, _, w3⟩ := DataW.trod_int Tryz.underlying3 (cs := [c3]) t3
    simp only [List.cons.injEq, and_true] at e3
    subst e3
    obtain ⟨z4, e4, _, w4⟩ := DataW.trod_int Tryz.underlying3 (cs := [c4]) t4
    simp only [List.cons.injEq, and_true] at e4
    subst e4
    obtain ⟨z5, z6, z7, z8, rfl, rfl, rfl, rfl, w5, w6, w7, w8⟩ := four_cells (c0 := c5) (c1 := c6) (c2 := c7) (c3 := c8) t5
    obtain ⟨z9, e9, _, w9⟩ := DataW.trod_int Tryz.underlying3 (cs := [c9]) t6
    simp only [List.cons.injEq, and_true] at e9
    subst e9
    obtain ⟨z10, e10, _⟩ := DataW.trod_bool Tryz.underlying4 (cs := [c10]) t7
    simp only [List.cons.injEq, and_true] at e10
    subst e10
    exact ⟨⟨z0, z1, z2, z3, z4, z5, z6, z7, z8, z9, z10⟩, rfl⟩
theorem recs_open {α : Type} [Inhabited α] (R : RecT α) {T E : TypeId} (hu : Tryz.prog.underlying T = some (.slice E)) (hk : Tryz.prog.cellsOf E = R.k) {H : Type} {enc : TypeId × Value → H} {w : World} {base : Nat} {sp : Nat → Bool} {held : Bool} (hc : ∀ {fuel : Nat} {l : List Value} {x : DataW H × List MemPlace}, l.length = R.k → DataW.trod enc Tryz.prog w base sp held fuel E l = some x → ∃ e, l = R.enc e) {fuel : Nat} {v : Value} {x : DataW H × List MemPlace} (h : DataW.trod enc Tryz.prog w base sp held fuel T [v] = some x) : ∃ l, R.At w v l := by
  rcases open_slice hu h with ⟨hcs, _⟩ | ⟨a, len, cp, m, f, D, Pl, hcs, _, hl, hm, hmm, hxx, hx⟩
  · simp at hcs
    subst hcs
    exact ⟨[], RecT.At.nil R w⟩
  · simp at hcs
    subst hcs
    rw [hk] at hx
    have hnm : len ≤ m := by rw [hmm]; split <;> omega
    have hp : ∀ i, i < len → ∃ e : α, ∀ k u, (R.enc e)[k]? = some u → w.cell? ((a.add (i * R.k)).add k) = some u := fun i hi => by
      obtain ⟨cs', h1, h2⟩ := hx i (by omega)
      obtain ⟨_, hlen, hcc⟩ := World.cells?_some h1
      obtain ⟨e, he⟩ := hc hlen h2
      subst he
      refine ⟨e, fun k y hk' => ?_⟩
      have hk4 : k < R.k := by have := (List.getElem?_eq_some_iff.1 hk').1; rwa [R.hk] at this
      rw [hcc k hk4]
      exact hk'
    obtain ⟨F, hF⟩ := choose_lt (α := α) hp
    have hln : ((List.range len).map F).length = len := by simp
    refine ⟨(List.range len).map F, some a, cp, by rw [hln], by rw [hln]; exact Nat.le_trans hl hm, fun h0 => ?_⟩
    have h0' : 0 < len := by rwa [hln] at h0
    obtain ⟨v0, hv0⟩ : ∃ v0, (R.enc (F 0))[0]? = some v0 := ⟨_, List.getElem?_eq_getElem (by rw [R.hk]; exact R.hp)⟩
    have c0 := (hF 0 h0') 0 _ hv0
    have ex : (a.add (0 * R.k)).add 0 = a := by simp [Addr.add]
    rw [ex] at c0
    have pl := addr_plain c0
    refine ⟨a.block, a.off, by rw [← pl], fun j e he => ?_⟩
    have hj : j < len := by have := (List.getElem?_eq_some_iff.1 he).1; rwa [hln] at this
    obtain rfl : e = F j := by simp [hj] at he; exact he.symm
    intro k u hk'
    have := hF j hj k u hk'
    rw [add_add pl, pl, add_plain, ← Nat.add_assoc] at this
    exact this
end Go.Proofs.YtmemeloehgemcaaGreat
namespace Go.Proofs.YtmemeloehgemcaaGreat
open Go.RowKit Go.Shelf

set_option maxRecDepth 100000 in
set_option maxHeartbeats 4000000 in
theorem copyTh_any (v : Value) (l : List Th) (w : World) (h : thR.At w v l) (hb : l.length ≤ 4096) : Calls Tryz.prog 31 #[v] w fun e w' => ∃ v', e = .returned v' ∧ thR.Own 60 w' w.heap.size v' l ∧ w.grownBy w' none := by
  obtain ⟨i0, hi, hz0, hz1, hz2⟩ := info_parts Tryz.linfoT
  have HS : Hid (Src w v l.length 11 (thR.cs l)) := h.src
  obtain ⟨n, hn⟩ : ∃ n, n = l.length := ⟨_, rfl⟩
  have HN : Hid (n = l.length) := hn
  have HL : Hid (0 + n ≤ maxLen ∧ (0 + n) * 88 ≤ 140737488355328) := by show _ ∧ _; unfold maxLen; omega
  rw [← hn] at HS
  clear h hb hn
  go_enter Tryz.func31, Tryz.ntmps31
  go_wp2_with (at_builtin; refine lwpl_app (by rfl) (.tmp 4) (.tmp 5) 26 rfl w.heap.size 60 i0 _ 11 88 Tryz.underlying26 hi hz0 hz1 hz2 rfl (by decide) _ 0 [] rfl (RecT.Own.nil thR 60 w w.heap.size) _ n (thR.cs l) rfl HS.out (thR.ones l) HL.out.1 HL.out.2 (Nat.le_refl _) ?_; intro v3 w3 o3 g3 _; have HF : Hid (thR.Own 60 w3 w.heap.size v3 l ∧ w.grownBy w3 none) := ⟨by unfold RecT.Own; rw [← HN.out]; rw [Nat.zero_add, List.nil_append] at o3; exact o3, g3⟩; clear o3 g3)
  go_ret
  exact ⟨_, rfl, HF.out.1, HF.out.2⟩
theorem alloc_two (w : World) (a b : Array Value) (s t : TypeId) : ((w.alloc (.cells a s)).alloc (.cells b t)).heap[w.heap.size]? = some (.cells a s (0, 0)) := grown_keep (World.grownBy_alloc _ _ none) (alloc_at w a s) (by simp)
end Go.Proofs.YtmemeloehgemcaaGreat
