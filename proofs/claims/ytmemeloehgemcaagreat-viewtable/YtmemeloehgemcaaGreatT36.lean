/-
  View: what every way asks of a book and things; lists that are filled; printed.
  View: features with marks.
-/
import Derived.Test.YtmemeloehgemcaaGreatT35
import Derived.Test.YtmemeloehgemcaaGreatT27
import Derived.Test.YtmemeloehgemcaaGreatT34
import Derived.Test.YtmemeloehgemcaaGreatLyF
namespace Go.Proofs.YtmemeloehgemcaaGreat
open Go.RowKit Go.Shelf

structure VIn (w : World) (bv vt : Value) (r n : Int) (cd : Int → Hd × List Pt) (ts : List Th) (pf : Th → Fe) (mf : Fe → Th → Fe) (me : Th → Int) : Prop where
  li : ∀ X vf fs, w.grownBy X none → feR.At X vf fs → fs.length ≤ 4096 → LIn X bv vt vf r n cd ts fs
  pr : ∀ X t, w.grownBy X none → ∃ x, Calls Tryz.prog 38 #[bv, thv t] X fun e w' => e = .returned (.tuple #[fev (pf t), .int .i64 x]) ∧ X.grownBy w' none
  mkd : ∀ X f (t : Th), w.grownBy X none → Calls Tryz.prog 39 #[bv, fev f, .agg #[.int .i64 t.m0, .int .i64 t.m1, .int .i64 t.m2, .int .i64 t.m3]] X fun e w' => e = .returned (.tuple #[fev (mf f t), .int .i64 (me t)]) ∧ X.grownBy w' none
  few : r = 0 → ts.length ≤ 2048
  th : thR.At w vt ts
  cap : ∃ p c, vt = .slice p ts.length c ∧ ts.length ≤ c
theorem VIn.keep {w w' : World} {bv vt : Value} {r n : Int} {cd : Int → Hd × List Pt} {ts : List Th} {pf : Th → Fe} {mf : Fe → Th → Fe} {me : Th → Int} (h : VIn w bv vt r n cd ts pf mf me) (g : w.grownBy w' none) : VIn w' bv vt r n cd ts pf mf me := ⟨fun X vf fs q => h.li X vf fs (grown_trans g q), fun X t q => h.pr X t (grown_trans g q), fun X f t q => h.mkd X f t (grown_trans g q), h.few, h.th.keep g, h.cap⟩
theorem RecT.At.take {α : Type} {R : RecT α} {w : World} {p : Option Addr} {n c : Nat} {l : List α} (h : R.At w (.slice p n c) l) (m : Nat) (hm : m ≤ n) : R.At w (.slice p m c) (l.take m) := by
  obtain ⟨p', c', e, hl, h1⟩ := h
  injection e with e1 e2 e3
  subst e1
  subst e3
  have hlm : (l.take m).length = m := by rw [List.length_take]; omega
  refine ⟨p, c, by rw [hlm], by rw [hlm]; omega, fun h0 => ?_⟩
  rw [hlm] at h0
  obtain ⟨g, off, e, hc⟩ := h1 (by omega)
  exact ⟨g, off, e, fun j x hj => hc j x (by
    rw [List.getElem?_take] at hj
    split at hj
    · exact hj
    · cases hj)⟩
def fillU (h : Nat → Fe) (n k : Nat) : List Fe := (List.range n).map fun i => if i < k then h i else Fe.none
theorem fillU_len (h : Nat → Fe) (n k : Nat) : (fillU h n k).length = n := by simp [fillU]
theorem fillU_zero (h : Nat → Fe) (n : Nat) : fillU h n 0 = List.replicate n Fe.none := by
  refine List.ext_getElem (by simp [fillU]) fun i h1 h2 => ?_
  simp [fillU]
theorem fillU_set {h : Nat → Fe} {n k : Nat} {f : Fe} (e : h k = f) : (fillU h n k).set k f = fillU h n (k + 1) := by
  refine List.ext_getElem (by simp [fillU]) fun i h1 h2 => ?_
  rw [List.getElem_set]
  simp only [fillU, List.getElem_map, List.getElem_range]
  by_cases q : k = i
  · subst q
    rw [if_pos rfl, if_pos (by omega), e]
  · rw [if_neg q]
    by_cases z : i < k
    · rw [if_pos z, if_pos (by omega)]
    · rw [if_neg z, if_neg (by omega)]
theorem fillU_skip {h : Nat → Fe} {n k : Nat} (e : h k = Fe.none) : fillU h n (k + 1) = fillU h n k := by
  unfold fillU
  refine List.map_congr_left fun i _ => ?_
  by_cases q : i = k
  · subst q
    rw [if_pos (by omega), if_neg (by omega), e]
  · by_cases z : i < k
    · rw [if_pos z, if_pos (by omega)]
    · rw [if_neg z, if_neg (by omega)]
theorem fillU_all (h : Nat → Fe) (n : Nat) : fillU h n n = (List.range n).map h := by
  unfold fillU
  exact List.map_congr_left fun i hi => if_pos (List.mem_range.1 hi)
theorem fec_zero : ∀ r, r < 5 → (fec Fe.none)[r]? = some ((#[.int .i64 0, .int .u8 0, .int .u16 0, .int .i64 0, .int .i64 0] : Array Value)[r]!)
  | 0, _ => rfl
  | 1, _ => rfl
  | 2, _ => rfl
  | 3, _ => rfl
  | 4, _ => rfl
  | n + 5, h => by omega
theorem made_fe (n : Nat) : (madeCells (Value.agg #[.int .i64 0, .int .u8 0, .int .u16 0, .int .i64 0, .int .i64 0]).cells (n * 5)).toList = feR.cs (List.replicate n Fe.none) := by
  refine List.ext_getElem? fun i => ?_
  by_cases hi : i < n * 5
  · have h1 := feR.at' (l := List.replicate n Fe.none) (j := i / 5) (x := Fe.none) (by rw [List.getElem?_replicate, if_pos (by omega)]) (i % 5) (show i % 5 < 5 by omega)
    have h2 : (feR.cs (List.replicate n Fe.none))[i / 5 * 5 + i % 5]? = (fec Fe.none)[i % 5]? := h1
    rw [show i / 5 * 5 + i % 5 = i by omega, fec_zero _ (by omega)] at h2
    rw [h2]
    show ((Array.range (n * 5)).map _).toList[i]? = _
    rw [Array.toList_map, List.getElem?_map, Array.toList_range, List.getElem?_range hi]
    rfl
  · rw [List.getElem?_eq_none (by rw [Array.length_toList, size_madeCells]; omega), List.getElem?_eq_none (by rw [feR.len, List.length_replicate]; show n * 5 ≤ i; omega)]
theorem made_own {V : World} {base g n : Nat} (h : V.ownsRow base 64 5 (.slice (some ⟨g, 0, none⟩) n n) n (madeCells (Value.agg #[.int .i64 0, .int .u8 0, .int .u16 0, .int .i64 0, .int .i64 0]).cells (n * 5)).toList) : FOwn V base (.slice (some ⟨g, 0, none⟩) n n) (List.replicate n Fe.none) := by
  unfold FOwn RecT.Own
  rw [List.length_replicate, ← made_fe]
  exact h
theorem prt_fill (pf : Th → Fe) (ts : List Th) : fillU (fun i => prtT pf (ts.getD i Th.none)) ts.length ts.length = prtF pf ts := by
  rw [fillU_all]
  unfold prtF
  refine List.ext_getElem (by simp) fun i h1 h2 => ?_
  simp only [List.getElem_map, List.getElem_range]
  rw [getD_in (by simpa using h2)]
theorem fe_there_own {w : World} {base g n k : Nat} {L : List Fe} (h : FOwn w base (.slice (some ⟨g, 0, none⟩) n n) L) (hn : L.length = n) (hk : k < n) : w.there g (k * 5) 5 := RecT.Own.there h hn hk
theorem fe_set_own {w : World} {base g n k : Nat} {L : List Fe} (h : FOwn w base (.slice (some ⟨g, 0, none⟩) n n) L) (hn : L.length = n) (hk : k < n) (f : Fe) : FOwn (w.setCells g (k * 5) (fec f)) base (.slice (some ⟨g, 0, none⟩) n n) (L.set k f) ∧ w.grownBy (w.setCells g (k * 5) (fec f)) (some g) := RecT.Own.set h hn hk f
set_option maxRecDepth 100000 in
set_option maxHeartbeats 4000000 in
theorem vprinted_any (bv v : Value) (us : List Th) (pf : Th → Fe) (w : World) (A : thR.At w v us) (hl : us.length ≤ 2048) (P : ∀ X t, w.grownBy X none → ∃ x, Calls Tryz.prog 38 #[bv, thv t] X fun e w' => e = .returned (.tuple #[fev (pf t), .int .i64 x]) ∧ X.grownBy w' none) : Calls Tryz.prog 112 #[bv, v] w fun e w' => ∃ v', e = .returned v' ∧ FOwn w' w.heap.size v' (prtF pf us) ∧ w.grownBy w' none := by
  obtain ⟨i0, hi, hz0, hz1, hz2⟩ := info_parts Tryz.linfoF
  obtain ⟨p, c, rfl⟩ := A.form
  obtain ⟨h, hh⟩ : ∃ h : Nat → Fe, h = fun i => prtT pf (us.getD i Th.none) := ⟨_, rfl⟩
  have Hh : Hid (h = fun i => prtT pf (us.getD i Th.none)) := hh
  have HA : Hid (thR.At w (.slice p us.length c) us) := A
  have HP : Hid (∀ X t, w.grownBy X none → ∃ x, Calls Tryz.prog 38 #[bv, thv t] X fun e w' => e = .returned (.tuple #[fev (pf t), .int .i64 x]) ∧ X.grownBy w' none) := P
  have Hl : Hid (us.length ≤ 2048) := hl
  have Hbb : Hid (i0.bytes * us.length ≤ 281474976710656) := by show i0.bytes * us.length ≤ _; rw [hz2]; omega
  have Hbm : Hid (us.length ≤ maxLen) := by show us.length ≤ maxLen; unfold maxLen; omega
  clear A P hl hh
  go_enter Tryz.func112, Tryz.ntmps112
  go_wp2_with (at_make; refine wpList_make_full _ rfl _ _ 27 rfl w.heap.size 64 i0 _ 5 Tryz.underlying27 hi hz0 hz1 .i64 .i64 _ _ us.length rfl rfl rfl rfl Hbb.out Hbm.out (Nat.le_refl _) ?_; intro V o1 gv; have HF0 : Hid (FOwn V w.heap.size (.slice (some ⟨w.heap.size, 0, none⟩) us.length us.length) (List.replicate us.length Fe.none)) := made_own o1; have HGV : Hid (w.grownBy V none) := gv; clear o1 gv)
  obtain ⟨g0, h0⟩ : ∃ g0, g0 = w.heap.size := ⟨_, rfl⟩
  have Hg0 : Hid (g0 = w.heap.size) := h0
  simp only [← h0] at HF0 ⊢
  clear h0
  go_loopw [6, 7, 13] (fun _ _ i wr => ∃ k : Nat, k ≤ us.length ∧ i = .int .i64 (k : Int) ∧ FOwn wr g0 (.slice (some ⟨g0, 0, none⟩) us.length us.length) (fillU h us.length k) ∧ w.grownBy wr none) (fun _ _ i _ => us.length - (intOf i).toNat)
  case atStart => exact ⟨0, Nat.zero_le _, rfl, by rw [fillU_zero]; exact HF0.out, HGV.out⟩
  case round =>
    obtain ⟨k, hk, rfl, O, G⟩ := hrel
    obtain ⟨U, hU⟩ : ∃ U, U = wr := ⟨_, rfl⟩
    subst hU
    have HO : Hid (FOwn U g0 (.slice (some ⟨g0, 0, none⟩) us.length us.length) (fillU h us.length k)) := O
    have HG : Hid (w.grownBy U none) := G
    by_cases hlt : k < us.length
    · obtain ⟨g, off, cap, e1, R⟩ := th_there (HA.out.keep G) hlt
      cases e1
      obtain ⟨t, ht⟩ : ∃ t, t = us[k] := ⟨_, rfl⟩
      rw [← ht] at R
      have HT : Hid (h k = prtT pf t) := by show _ = _; rw [Hh.out, ht]; show prtT pf (us.getD k Th.none) = _; rw [getD_in hlt]
      obtain ⟨c0, c1, c2, c3, c4, c5, c6, c7, c8, c9, c10⟩ := th_cells R
      obtain ⟨Y, hY⟩ : ∃ Y, Y = U.alloc (.cells #[.int .i64 t.card, .int .i64 t.owner, .int .u8 t.place, .int .i64 t.stamp, .int .i64 t.hurt, .int .i64 t.m0, .int .i64 t.m1, .int .i64 t.m2, .int .i64 t.m3, .int .i64 t.done, .bool t.fresh] 60) := ⟨_, rfl⟩
      have HGY : Hid (U.grownBy Y none) := by rw [hY]; exact World.grownBy_alloc _ _ none
      have HB : Hid (ThB Y U.heap.size t) := by rw [hY]; exact alloc_at _ _ _
      have HOY : Hid (FOwn Y g0 (.slice (some ⟨g0, 0, none⟩) us.length us.length) (fillU h us.length k)) := own_grow O HGY.out
      have hlt' : (k : Int) < us.length := Int.ofNat_lt.2 hlt
      have hwk := wrap_next (k := k) (Nat.le_trans (Nat.le_of_lt hlt) (Nat.le_trans Hl.out (by decide)))
      have Hlt : Hid (k < us.length) := hlt
      have HM : Hid (us.length - (intOf (.int .i64 ((k : Int) + 1))).toNat < us.length - (intOf (.int .i64 (k : Int))).toNat) := meas_k hlt
      clear O G R ht hlt hk HO
      go_upto_region 5 with fail
      rw [← hY]
      clear hY c0 c1 c2 c3 c4 c5 c6 c7 c8 c9 c10
      obtain ⟨nb, hnb⟩ : ∃ nb, nb = U.heap.size := ⟨_, rfl⟩
      rw [← hnb] at HB ⊢
      clear hnb
      obtain ⟨b0, b1, b2, b3, b4, b5, b6, b7, b8, b9, b10⟩ := th_box HB.out
      by_cases hp : t.place = 4
      · have hpb : (t.place == 4) = true := by rw [hp]; rfl
        obtain ⟨x, C⟩ := HP.out Y t (grown_trans HG.out HGY.out)
        have HF : Hid (h k = pf t) := HT.out.trans (if_pos hp)
        obtain ⟨f, hf⟩ : ∃ f, f = pf t := ⟨_, rfl⟩
        rw [← hf] at C HF
        unfold thv fev at C
        clear hp hf HT
        go_wp2_with fail
        refine C.mono ?_
        rintro e2 w2 ⟨rfl, g2⟩
        have HO2 : Hid (FOwn w2 g0 (.slice (some ⟨g0, 0, none⟩) us.length us.length) (fillU h us.length k)) := own_grow HOY.out g2
        have HG2 : Hid (w.grownBy w2 none) := grown_trans HG.out (grown_trans HGY.out g2)
        clear C g2 b0 b1 b2 b3 b4 b5 b6 b7 b8 b9 b10 hpb
        obtain ⟨u0, u1, u2, u3, u4, y0, y1, y2, y3, y4, q0, q1, q2, q3, q4⟩ := there5 (fe_there_own HO2.out (fillU_len h _ k) Hlt.out)
        obtain ⟨Z, hZ⟩ : ∃ Z, Z = ((((w2.setCell ⟨g0, k * 5, none⟩ (.int .i64 f.ho)).setCell ⟨g0, k * 5 + 1, none⟩ (.int .u8 f.su)).setCell ⟨g0, k * 5 + 2, none⟩ (.int .u16 f.tr)).setCell ⟨g0, k * 5 + 3, none⟩ (.int .i64 f.po)).setCell ⟨g0, k * 5 + 4, none⟩ (.int .i64 f.he) := ⟨_, rfl⟩
        have q := fe_set_own HO2.out (fillU_len h _ k) Hlt.out f
        rw [show w2.setCells g0 (k * 5) (fec f) = Z from by rw [hZ]; rfl] at q
        have HQ : Hid (FOwn Z g0 (.slice (some ⟨g0, 0, none⟩) us.length us.length) (fillU h us.length (k + 1)) ∧ w.grownBy Z none) := ⟨by rw [← fillU_set HF.out]; exact q.1, grown_own HG2.out q.2 (fun y e => by cases e; rw [Hg0.out]; exact Nat.le_refl _)⟩
        clear q
        go_upto_region 7 with fail
        rw [← hZ]
        clear hZ y0 y1 y2 y3 y4 q0 q1 q2 q3 q4
        go_wp2_with fail
        go_roundw
        case rel => exact ⟨k + 1, Hlt.out, by first | rfl | (rw [hwk]; rfl) | go_num, HQ.out⟩
        case measure => first | exact HM.out | (rw [hwk]; exact HM.out)
      · have hpb : (t.place == 4) = false := by simpa using hp
        have HF : Hid (h k = Fe.none) := HT.out.trans (if_neg hp)
        have HQ : Hid (FOwn Y g0 (.slice (some ⟨g0, 0, none⟩) us.length us.length) (fillU h us.length (k + 1)) ∧ w.grownBy Y none) := ⟨by rw [fillU_skip HF.out]; exact HOY.out, grown_trans HG.out HGY.out⟩
        clear hp HT HF
        go_wp2_with fail
        go_roundw
        case rel => exact ⟨k + 1, Hlt.out, by first | rfl | (rw [hwk]; rfl) | go_num, HQ.out⟩
        case measure => first | exact HM.out | (rw [hwk]; exact HM.out)
    · obtain rfl : k = us.length := Nat.le_antisymm hk (Nat.le_of_not_lt hlt)
      have HF : Hid (FOwn U w.heap.size (.slice (some ⟨g0, 0, none⟩) us.length us.length) (prtF pf us) ∧ w.grownBy U none) := ⟨by rw [← prt_fill, ← Hh.out, ← Hg0.out]; exact O, G⟩
      clear O G hk hlt
      go_wp2_with fail
      go_ret
      exact ⟨_, rfl, HF.out⟩
end Go.Proofs.YtmemeloehgemcaaGreat
namespace Go.Proofs.YtmemeloehgemcaaGreat
open Go.RowKit Go.Shelf

def ScB (w : World) (g : Nat) (bp : Option Addr) (vt vp : Value) : Prop := w.heap[g]? = some (.cells #[.pointer bp, vt, vp] 144 (0, 0))
theorem sc_box {w : World} {g : Nat} {bp : Option Addr} {vt vp : Value} (h : ScB w g bp vt vp) : w.cell? ⟨g, 0, none⟩ = some (.pointer bp) ∧ w.cell? ⟨g, 1, none⟩ = some vt ∧ w.cell? ⟨g, 2, none⟩ = some vp := ⟨(block_cell h 0).trans rfl, (block_cell h 1).trans rfl, (block_cell h 2).trans rfl⟩
theorem mkd_fill (mf : Fe → Th → Fe) (ts : List Th) (fs : List Fe) (hl : ts.length = fs.length) : fillU (fun i => mkdT mf (ts.getD i Th.none) (fs.getD i Fe.none)) fs.length fs.length = mkdL mf ts fs := by
  rw [fillU_all]
  unfold mkdL
  refine List.ext_getElem (by simp; omega) fun i h1 h2 => ?_
  simp only [List.getElem_map, List.getElem_range, List.getElem_zipWith]
  simp only [List.length_zipWith] at h2
  rw [getD_in (by omega), getD_in (by omega)]
theorem cell_in {w : World} {g i : Nat} {v : Value} (h : w.cell? ⟨g, i, none⟩ = some v) : g < w.heap.size := by
  unfold World.cell? at h
  cases hg : w.heap[g]? with
  | none => simp [hg] at h
  | some o => exact (Array.getElem?_eq_some_iff.1 hg).1
set_option maxRecDepth 100000 in
set_option maxHeartbeats 4000000 in
theorem vmarked_any (bp : Option Addr) (vt vf : Value) (pp : Option Addr) (np cp : Nat) (ts : List Th) (fs : List Fe) (mf : Fe → Th → Fe) (me : Th → Int) (w : World) (A : thR.At w vt ts) (B : feR.At w vf fs) (hl : ts.length = fs.length) (h2 : ts.length ≤ 2048) (M : ∀ X f (t : Th), w.grownBy X none → Calls Tryz.prog 39 #[.pointer bp, fev f, .agg #[.int .i64 t.m0, .int .i64 t.m1, .int .i64 t.m2, .int .i64 t.m3]] X fun e w' => e = .returned (.tuple #[fev (mf f t), .int .i64 (me t)]) ∧ X.grownBy w' none) : Calls Tryz.prog 71 #[.agg #[.pointer bp, vt, .slice pp np cp], vf] w fun e w' => ∃ v', e = .returned v' ∧ FOwn w' w.heap.size v' (mkdL mf ts fs) ∧ w.grownBy w' none := by
  obtain ⟨i0, hi, hz0, hz1, hz2⟩ := info_parts Tryz.linfoF
  obtain ⟨pt, ct, rfl⟩ := A.form
  obtain ⟨pf, cf, rfl⟩ := B.form
  obtain ⟨h, hh⟩ : ∃ h : Nat → Fe, h = fun i => mkdT mf (ts.getD i Th.none) (fs.getD i Fe.none) := ⟨_, rfl⟩
  have Hh : Hid (h = fun i => mkdT mf (ts.getD i Th.none) (fs.getD i Fe.none)) := hh
  obtain ⟨W1, hW1⟩ : ∃ W1, W1 = w.alloc (.cells #[.pointer bp, .slice pt ts.length ct, .slice pp np cp] 144) := ⟨_, rfl⟩
  have HG1 : Hid (w.grownBy W1 none) := by rw [hW1]; exact World.grownBy_alloc _ _ none
  have HS1 : Hid (ScB W1 w.heap.size bp (.slice pt ts.length ct) (.slice pp np cp)) := by rw [hW1]; exact alloc_at _ _ _
  have HA : Hid (thR.At W1 (.slice pt ts.length ct) ts) := A.keep HG1.out
  have HB : Hid (feR.At W1 (.slice pf fs.length cf) fs) := B.keep HG1.out
  have HP : Hid (∀ X f (t : Th), w.grownBy X none → Calls Tryz.prog 39 #[.pointer bp, fev f, .agg #[.int .i64 t.m0, .int .i64 t.m1, .int .i64 t.m2, .int .i64 t.m3]] X fun e w' => e = .returned (.tuple #[fev (mf f t), .int .i64 (me t)]) ∧ X.grownBy w' none) := M
  have Hl : Hid (ts.length = fs.length ∧ ts.length ≤ 2048) := ⟨hl, h2⟩
  have Hbb : Hid (i0.bytes * fs.length ≤ 281474976710656) := by show i0.bytes * fs.length ≤ _; rw [hz2]; omega
  have Hbm : Hid (fs.length ≤ maxLen) := by show fs.length ≤ maxLen; unfold maxLen; omega
  clear A B M hl h2 hh
  go_enter Tryz.func71, Tryz.ntmps71
  go_upto_region 1 with fail
  rw [← hW1]
  clear hW1
  obtain ⟨n0, hn0⟩ : ∃ n0, n0 = w.heap.size := ⟨_, rfl⟩
  simp only [← hn0] at HS1 ⊢
  have Hn0 : Hid (n0 < W1.heap.size ∧ w.heap.size ≤ W1.heap.size) := ⟨block_lt HS1.out, HG1.out.size⟩
  clear hn0
  go_upto_region 2 with (at_make; refine wpList_make_full _ rfl _ _ 27 rfl W1.heap.size 64 i0 _ 5 Tryz.underlying27 hi hz0 hz1 .i64 .i64 _ _ fs.length rfl rfl rfl rfl Hbb.out Hbm.out (Nat.le_refl _) ?_; intro V o1 gv; have HF0 : Hid (FOwn V W1.heap.size (.slice (some ⟨W1.heap.size, 0, none⟩) fs.length fs.length) (List.replicate fs.length Fe.none)) := made_own o1; have HGV : Hid (W1.grownBy V none) := gv; clear o1 gv)
  obtain ⟨g0, h0⟩ : ∃ g0, g0 = W1.heap.size := ⟨_, rfl⟩
  have Hg0 : Hid (g0 = W1.heap.size) := h0
  simp only [← h0] at HF0 ⊢
  clear h0 hi hz0 hz1 hz2
  have HSV : Hid (ScB V n0 bp (.slice pt ts.length ct) (.slice pp np cp)) := grown_keep HGV.out HS1.out (by simp)
  obtain ⟨s0, s1, s2⟩ := sc_box HSV.out
  go_wp2_with fail
  clear s0 s1 s2
  go_loopw [6, 7, 14] (fun _ _ i wr => ∃ k : Nat, k ≤ ts.length ∧ i = .int .i64 (k : Int) ∧ FOwn wr g0 (.slice (some ⟨g0, 0, none⟩) fs.length fs.length) (fillU h fs.length k) ∧ W1.grownBy wr none) (fun _ _ i _ => ts.length - (intOf i).toNat)
  case atStart => exact ⟨0, Nat.zero_le _, rfl, by rw [fillU_zero]; exact HF0.out, HGV.out⟩
  case round =>
    obtain ⟨k, hk, rfl, O, G⟩ := hrel
    obtain ⟨U, hU⟩ : ∃ U, U = wr := ⟨_, rfl⟩
    subst hU
    have HG : Hid (W1.grownBy U none) := G
    by_cases hlt : k < ts.length
    · obtain ⟨g, off, cap, e1, R⟩ := th_there (HA.out.keep G) hlt
      cases e1
      have hlf : k < fs.length := by have := Hl.out.1; omega
      obtain ⟨gf, fof, fcap, e2, RF⟩ := fe_there HB.out hlf
      cases e2
      obtain ⟨t, ht⟩ : ∃ t, t = ts[k] := ⟨_, rfl⟩
      rw [← ht] at R
      obtain ⟨f, hf⟩ : ∃ f, f = fs[k] := ⟨_, rfl⟩
      rw [← hf] at RF
      have HT : Hid (h k = mkdT mf t f) := by show _ = _; rw [Hh.out, ht, hf]; show mkdT mf (ts.getD k Th.none) (fs.getD k Fe.none) = _; rw [getD_in hlt, getD_in hlf]
      have Hgf : Hid (some gf ≠ some g0) := by
        have q := cell_in (fe_cells RF).1
        have := Hg0.out
        intro e; injection e with e; omega
      obtain ⟨c0, c1, c2, c3, c4, c5, c6, c7, c8, c9, c10⟩ := th_cells R
      obtain ⟨Y, hY⟩ : ∃ Y, Y = U.alloc (.cells #[.int .i64 t.card, .int .i64 t.owner, .int .u8 t.place, .int .i64 t.stamp, .int .i64 t.hurt, .int .i64 t.m0, .int .i64 t.m1, .int .i64 t.m2, .int .i64 t.m3, .int .i64 t.done, .bool t.fresh] 60) := ⟨_, rfl⟩
      have HGY : Hid (U.grownBy Y none) := by rw [hY]; exact World.grownBy_alloc _ _ none
      have HBx : Hid (ThB Y U.heap.size t) := by rw [hY]; exact alloc_at _ _ _
      have HG1Y : Hid (W1.grownBy Y none) := grown_trans G HGY.out
      have HOY : Hid (FOwn Y g0 (.slice (some ⟨g0, 0, none⟩) fs.length fs.length) (fillU h fs.length k)) := own_grow O HGY.out
      have HRF : Hid (Y.rangeAt gf (fof + k * 5) (fec f)) := rangeAt_keep RF HG1Y.out
      have hlt' : (k : Int) < ts.length := Int.ofNat_lt.2 hlt
      have hlf' : (k : Int) < fs.length := Int.ofNat_lt.2 hlf
      have hwk := wrap_next (k := k) (Nat.le_trans (Nat.le_of_lt hlt) (Nat.le_trans Hl.out.2 (by decide)))
      have Hlt : Hid (k < ts.length ∧ k < fs.length) := ⟨hlt, hlf⟩
      have HM : Hid (ts.length - (intOf (.int .i64 ((k : Int) + 1))).toNat < ts.length - (intOf (.int .i64 (k : Int))).toNat) := meas_k hlt
      have HNb : Hid (some U.heap.size ≠ some g0) := by
        have := (RecT.Own.lt O g0 rfl).2
        intro e; injection e with e; omega
      clear O G R RF ht hf hlt hk hlf
      go_upto_region 5 with fail
      rw [← hY]
      clear hY c0 c1 c2 c3 c4 c5 c6 c7 c8 c9 c10
      obtain ⟨nb, hnb⟩ : ∃ nb, nb = U.heap.size := ⟨_, rfl⟩
      rw [← hnb] at HBx HNb ⊢
      clear hnb
      obtain ⟨b0, b1, b2, b3, b4, b5, b6, b7, b8, b9, b10⟩ := th_box HBx.out
      by_cases hp : t.place = 4
      · have hpb : (t.place == 4) = true := by rw [hp]; rfl
        have HF : Hid (h k = mf f t) := HT.out.trans (if_pos hp)
        have C0 := HP.out
        obtain ⟨f2, hf2⟩ : ∃ f2, f2 = mf f t := ⟨_, rfl⟩
        have HC : Hid (∀ X, Y.grownBy X none → Calls Tryz.prog 39 #[.pointer bp, .agg #[.int .i64 f.ho, .int .u8 f.su, .int .u16 f.tr, .int .i64 f.po, .int .i64 f.he], .agg #[.int .i64 t.m0, .int .i64 t.m1, .int .i64 t.m2, .int .i64 t.m3]] X fun e w' => e = .returned (.tuple #[.agg #[.int .i64 f2.ho, .int .u8 f2.su, .int .u16 f2.tr, .int .i64 f2.po, .int .i64 f2.he], .int .i64 (me t)]) ∧ X.grownBy w' none) := fun X q => by
          have := C0 X f t (grown_trans HG1.out (grown_trans HG1Y.out q))
          rw [← hf2] at this
          exact this
        rw [← hf2] at HF
        have HSY : Hid (ScB Y n0 bp (.slice (some ⟨g, off, none⟩) ts.length ct) (.slice pp np cp)) := grown_keep HG1Y.out HS1.out (by simp)
        obtain ⟨s0, s1, s2⟩ := sc_box HSY.out
        obtain ⟨f0, f1, f2', f3, f4⟩ := fe_cells HRF.out
        have hn0 : some n0 ≠ some g0 := by
          have := Hn0.out.1
          have := Hg0.out
          intro e; injection e with e; omega
        have hnf := Hgf.out
        have hnb := HNb.out
        clear hp hf2 HT C0
        go_upto_region 6 with fail
        refine wp_region_held_drew (S := fun w' => Y.grownBy w' (some g0)) (by kernel_rfl) (grown_drewR _ _) (fun hHeld => ?_)
        refine wpAnyH_take (i := 0) (v := ?_) rfl (by kernel_rfl) (by kernel_rfl) (by kernel_rfl) (fun _ _ _ h => h) (Or.inl ⟨by rfl, ?_⟩) (by assumption) ?_
        rotate_left 1
        · (intro w0 hSw; go_simp; try with_reducible rfl)
        simp only [List.getElem_toArray, List.getElem_cons_zero]
        go_frame
        refine wpAnyH_take (i := 1) (v := ?_) rfl (by kernel_rfl) (by kernel_rfl) (by kernel_rfl) (fun _ _ _ h => h) (Or.inl ⟨by rfl, ?_⟩) (by assumption) ?_
        rotate_left 1
        · (intro w0 hSw; go_simp; try with_reducible rfl)
        simp only [List.getElem_toArray, List.getElem_cons_zero, List.getElem_cons_succ]
        go_frame
        refine wpAnyH_take (i := 2) (v := ?_) rfl (by kernel_rfl) (by kernel_rfl) (by kernel_rfl) (fun _ _ _ h => h) (Or.inl ⟨by rfl, ?_⟩) (by assumption) ?_
        rotate_left 1
        · (intro w0 hSw; go_simp; try with_reducible rfl)
        simp only [List.getElem_toArray, List.getElem_cons_zero, List.getElem_cons_succ]
        go_frame
        refine wpAnyH_take (i := 3) (v := ?_) rfl (by kernel_rfl) (by kernel_rfl) (by kernel_rfl) (fun _ _ _ h => h) (Or.inl ⟨by rfl, ?_⟩) (by assumption) ?_
        rotate_left 1
        · (intro w0 hSw; have s0 := hSw.cell s0 hn0; go_simp; try with_reducible rfl)
        simp only [List.getElem_toArray, List.getElem_cons_zero, List.getElem_cons_succ]
        go_frame
        refine wpAnyH_take (i := 4) (v := ?_) rfl (by kernel_rfl) (by kernel_rfl) (by kernel_rfl) (fun _ _ _ h => h) (Or.inl ⟨by rfl, ?_⟩) (by assumption) ?_
        rotate_left 1
        · (intro w0 hSw; go_simp; try with_reducible rfl)
        simp only [List.getElem_toArray, List.getElem_cons_zero, List.getElem_cons_succ]
        go_frame
        refine wpAnyH_take (i := 5) (v := ?_) rfl (by kernel_rfl) (by kernel_rfl) (by kernel_rfl) (fun _ _ _ h => h) (Or.inl ⟨by rfl, ?_⟩) (by assumption) ?_
        rotate_left 1
        · (intro w0 hSw; go_simp; try with_reducible rfl)
        simp only [List.getElem_toArray, List.getElem_cons_zero, List.getElem_cons_succ]
        go_frame
        refine wpAnyH_take (i := 6) (v := ?_) rfl (by kernel_rfl) (by kernel_rfl) (by kernel_rfl) (fun _ _ _ h => h) (Or.inl ⟨by rfl, ?_⟩) (by assumption) ?_
        rotate_left 1
        · (intro w0 hSw; go_simp; try with_reducible rfl)
        simp only [List.getElem_toArray, List.getElem_cons_zero, List.getElem_cons_succ]
        go_frame
        refine wpAnyH_take (i := 7) (v := ?_) rfl (by kernel_rfl) (by kernel_rfl) (by kernel_rfl) (fun _ _ _ h => h) (Or.inl ⟨by rfl, ?_⟩) (by assumption) ?_
        rotate_left 1
        · (intro w0 hSw; have f0 := hSw.cell f0 hnf; have f1 := hSw.cell f1 hnf; have f2' := hSw.cell f2' hnf; have f3 := hSw.cell f3 hnf; have f4 := hSw.cell f4 hnf; go_simp; try with_reducible rfl)
        simp only [List.getElem_toArray, List.getElem_cons_zero, List.getElem_cons_succ]
        go_frame
        refine wpAnyH_take (i := 8) (v := ?_) rfl (by kernel_rfl) (by kernel_rfl) (by kernel_rfl) (fun _ _ _ h => h) (Or.inl ⟨by rfl, ?_⟩) (by assumption) ?_
        rotate_left 1
        · (intro w0 hSw; go_simp; try with_reducible rfl)
        simp only [List.getElem_toArray, List.getElem_cons_zero, List.getElem_cons_succ]
        go_frame
        refine wpAnyH_take (i := 9) (v := ?_) rfl (by kernel_rfl) (by kernel_rfl) (by kernel_rfl) (fun _ _ _ h => h) (Or.inl ⟨by rfl, ?_⟩) (by assumption) ?_
        rotate_left 1
        · (intro w0 hSw; have b5 := hSw.cell b5 hnb; have b6 := hSw.cell b6 hnb; have b7 := hSw.cell b7 hnb; have b8 := hSw.cell b8 hnb; go_simp; try with_reducible rfl)
        simp only [List.getElem_toArray, List.getElem_cons_zero, List.getElem_cons_succ]
        go_frame
        clear s0 s1 s2 f0 f1 f2' f3 f4 b0 b1 b2 b3 b4 b5 b6 b7 b8 b9 b10 hn0 hnf hnb
        refine wpAnyH_ready (rs := [10]) (by kernel_rfl) (by simp) ?_
        refine AllReadyH.cons rfl (fun K hK => ?_) AllReadyH.nil
        simp only [List.getElem_toArray, List.getElem_cons_zero, List.getElem_cons_succ]
        go_simp
        go_at_call 39
        refine (HC.out _ (grown_drew _)).mono ?_
        rintro e2 w2 ⟨rfl, g2⟩
        have HG2 : Hid (Y.grownBy w2 none) := grown_trans (grown_drew _) g2
        clear g2
        refine hK.out _ _ (grown_some HG2.out _) (fun hHeld2 => ?_)
        clear hK K
        (try go_frame)
        refine wpAnyH_take (i := 11) (v := ?_) rfl (by kernel_rfl) (by kernel_rfl) (by kernel_rfl) (fun _ _ _ h => h) (Or.inl ⟨by rfl, ?_⟩) (by assumption) ?_
        rotate_left 1
        · (intro w0 hSw; go_simp; try with_reducible rfl)
        simp only [List.getElem_toArray, List.getElem_cons_zero, List.getElem_cons_succ]
        go_frame
        refine wpAnyH_take (i := 12) (v := ?_) rfl (by kernel_rfl) (by kernel_rfl) (by kernel_rfl) (fun _ _ _ h => h) (Or.inl ⟨by rfl, ?_⟩) (by assumption) ?_
        rotate_left 1
        · (intro w0 hSw; go_simp; try with_reducible rfl)
        simp only [List.getElem_toArray, List.getElem_cons_zero, List.getElem_cons_succ]
        go_frame
        refine wpAnyH_take (i := 13) (v := ?_) rfl (by kernel_rfl) (by kernel_rfl) (by kernel_rfl) (fun _ _ _ h => h) (Or.inl ⟨by rfl, ?_⟩) (by assumption) ?_
        rotate_left 1
        · (intro w0 hSw; go_simp; try with_reducible rfl)
        simp only [List.getElem_toArray, List.getElem_cons_zero, List.getElem_cons_succ]
        go_frame
        refine wpAnyH_take (i := 14) (v := ?_) rfl (by kernel_rfl) (by kernel_rfl) (by kernel_rfl) (fun _ _ _ h => h) (Or.inl ⟨by rfl, ?_⟩) (by assumption) ?_
        rotate_left 1
        · (intro w0 hSw; go_simp; try with_reducible rfl)
        simp only [List.getElem_toArray, List.getElem_cons_zero, List.getElem_cons_succ]
        go_frame
        have HO2 : Hid (FOwn w2 g0 (.slice (some ⟨g0, 0, none⟩) fs.length fs.length) (fillU h fs.length k)) := own_grow HOY.out HG2.out
        obtain ⟨u0, u1, u2, u3, u4, y0, y1, y2, y3, y4, q0, q1, q2, q3, q4⟩ := there5 (fe_there_own HO2.out (fillU_len h _ k) Hlt.out.2)
        obtain ⟨Z, hZ⟩ : ∃ Z, Z = ((((w2.setCell ⟨g0, k * 5, none⟩ (.int .i64 f2.ho)).setCell ⟨g0, k * 5 + 1, none⟩ (.int .u8 f2.su)).setCell ⟨g0, k * 5 + 2, none⟩ (.int .u16 f2.tr)).setCell ⟨g0, k * 5 + 3, none⟩ (.int .i64 f2.po)).setCell ⟨g0, k * 5 + 4, none⟩ (.int .i64 f2.he) := ⟨_, rfl⟩
        have q := fe_set_own HO2.out (fillU_len h _ k) Hlt.out.2 f2
        rw [show w2.setCells g0 (k * 5) (fec f2) = Z from by rw [hZ]; rfl] at q
        have HGZ : Hid (w2.grownBy Z (some g0)) := q.2
        have HQ : Hid (FOwn Z g0 (.slice (some ⟨g0, 0, none⟩) fs.length fs.length) (fillU h fs.length (k + 1)) ∧ W1.grownBy Z none) := ⟨by rw [← fillU_set HF.out]; exact q.1, grown_own (grown_trans HG1Y.out HG2.out) q.2 (fun y e => by cases e; rw [Hg0.out]; exact Nat.le_refl _)⟩
        clear q
        refine wpAnyH_ready (rs := [15]) (by kernel_rfl) (by simp) ?_
        refine AllReadyH.cons rfl (fun K9 hK => ?_) AllReadyH.nil
        simp only [List.getElem_toArray, List.getElem_cons_zero, List.getElem_cons_succ]
        go_simp
        rw [← hZ]
        refine hK.out _ _ (grown_trans (grown_some HG2.out _) HGZ.out) (fun hHeld3 => ?_)
        clear hK K9
        (try go_frame)
        refine wpAnyH_done (by kernel_rfl) ?_ _
        clear hZ y0 y1 y2 y3 y4 q0 q1 q2 q3 q4
        go_wp2_with fail
        go_roundw
        case rel => exact ⟨k + 1, Hlt.out.1, by first | rfl | (rw [hwk]; rfl) | go_num, HQ.out⟩
        case measure => first | exact HM.out | (rw [hwk]; exact HM.out)
      · have hpb : (t.place == 4) = false := by simpa using hp
        have HF : Hid (h k = Fe.none) := HT.out.trans (if_neg hp)
        have HQ : Hid (FOwn Y g0 (.slice (some ⟨g0, 0, none⟩) fs.length fs.length) (fillU h fs.length (k + 1)) ∧ W1.grownBy Y none) := ⟨by rw [fillU_skip HF.out]; exact HOY.out, HG1Y.out⟩
        clear hp HT HF
        go_wp2_with fail
        go_roundw
        case rel => exact ⟨k + 1, Hlt.out.1, by first | rfl | (rw [hwk]; rfl) | go_num, HQ.out⟩
        case measure => first | exact HM.out | (rw [hwk]; exact HM.out)
    · obtain rfl : k = ts.length := Nat.le_antisymm hk (Nat.le_of_not_lt hlt)
      have HF : Hid (FOwn U w.heap.size (.slice (some ⟨g0, 0, none⟩) fs.length fs.length) (mkdL mf ts fs) ∧ w.grownBy U none) := ⟨by rw [← mkd_fill mf ts fs Hl.out.1, ← Hh.out, ← Hl.out.1]; rw [Hl.out.1] at O ⊢; exact own_big O (by rw [Hg0.out]; exact Hn0.out.2), grown_trans HG1.out G⟩
      clear O G hk hlt
      go_wp2_with fail
      go_ret
      exact ⟨_, rfl, HF.out⟩
end Go.Proofs.YtmemeloehgemcaaGreat
