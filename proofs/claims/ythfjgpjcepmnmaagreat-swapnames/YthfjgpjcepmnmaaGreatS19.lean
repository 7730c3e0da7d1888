/-
  Layers: the features of the rows; whether stamps differ; rows by stamps.
  Layers: whether stamps differ; rows sorted by their stamps.
-/
import Derived.Test.YthfjgpjcepmnmaaGreatS18
import Derived.Shelf.SlicesG.Cmp
import Derived.Shelf.SlSortCmp.NoneTotal
namespace Go.Proofs.YthfjgpjcepmnmaaGreat
open Go.RowKit Go.Shelf

theorem rv_there {w : World} {v : Value} {X : List Rv} (h : rvR.At w v X) {i : Nat} (hi : i < X.length) : ∃ g off cap, v = .slice (some ⟨g, off, none⟩) X.length cap ∧ w.rangeAt g (off + i * 11) (rvc X[i]) := RecT.At.there h hi
theorem fe_there {w : World} {v : Value} {X : List Fe} (h : feR.At w v X) {i : Nat} (hi : i < X.length) : ∃ g off cap, v = .slice (some ⟨g, off, none⟩) X.length cap ∧ w.rangeAt g (off + i * 5) (fec X[i]) := RecT.At.there h hi
theorem th_there {w : World} {v : Value} {X : List Th} (h : thR.At w v X) {i : Nat} (hi : i < X.length) : ∃ g off cap, v = .slice (some ⟨g, off, none⟩) X.length cap ∧ w.rangeAt g (off + i * 11) (thc X[i]) := RecT.At.there h hi
theorem sd_there {w : World} {v : Value} {X : List Sd} (h : sdR.At w v X) {i : Nat} (hi : i < X.length) : ∃ g off cap, v = .slice (some ⟨g, off, none⟩) X.length cap ∧ w.rangeAt g (off + i * 10) (sdc X[i]) := RecT.At.there h hi
def pickU (R : List Rw) (fs : List Fe) (k : Nat) : List Fe := (List.range k).map fun i => fs.getD ((R.getD i Rw.none).nu - 1).toNat Fe.none
theorem pickU_next (R : List Rw) (fs : List Fe) (k : Nat) : pickU R fs (k + 1) = pickU R fs k ++ [fs.getD ((R.getD k Rw.none).nu - 1).toNat Fe.none] := by
  unfold pickU
  rw [List.range_succ, List.map_append]
  rfl
theorem pickU_len (R : List Rw) (fs : List Fe) (k : Nat) : (pickU R fs k).length = k := by simp [pickU]
theorem pickU_all (R : List Rw) (fs : List Fe) : pickU R fs R.length = pickF R fs := by
  unfold pickU pickF
  refine List.ext_getElem? fun i => ?_
  rw [List.getElem?_map, List.getElem?_map]
  by_cases h : i < R.length
  · rw [List.getElem?_range h, List.getElem?_eq_getElem h]
    simp [List.getD, h]
  · rw [List.getElem?_eq_none (by simpa using h), List.getElem?_eq_none (by omega)]
    rfl
def FillS (w : World) (base g n : Nat) (L : List Fe) : Prop := ∃ rest : List Value, rest.length = (n - L.length) * 5 ∧ w.ownsRow base 65 5 (.slice (some ⟨g, 0, none⟩) n n) n (feR.cs L ++ rest)
theorem fill_len (L : List Fe) : (feR.cs L).length = L.length * 5 := feR.len L
theorem FillS.grow {w w' : World} {base g n : Nat} {L : List Fe} (h : FillS w base g n L) (k : w.grownBy w' none) : FillS w' base g n L := by
  obtain ⟨r, e, o⟩ := h
  exact ⟨r, e, own_grow o k⟩
theorem FillS.there {w : World} {base g n k : Nat} {L : List Fe} (h : FillS w base g n L) (hk : L.length = k) (hn : k < n) : w.there g (k * 5) 5 := by
  obtain ⟨r, e, o⟩ := h
  intro i hi
  refine ⟨?_, World.ownsRow.frozenAt o _⟩
  rw [World.ownsRow.cellAt o (k * 5 + i) (by omega), List.getElem?_eq_getElem (by rw [List.length_append, fill_len, e]; omega)]
  rfl
theorem there5 {w : World} {g o : Nat} (h : w.there g o 5) : ∃ u0 u1 u2 u3 u4, w.cell? ⟨g, o, none⟩ = some u0 ∧ w.cell? ⟨g, o + 1, none⟩ = some u1 ∧ w.cell? ⟨g, o + 2, none⟩ = some u2 ∧ w.cell? ⟨g, o + 3, none⟩ = some u3 ∧ w.cell? ⟨g, o + 4, none⟩ = some u4 ∧ w.frozen? ⟨g, o, none⟩ = false ∧ w.frozen? ⟨g, o + 1, none⟩ = false ∧ w.frozen? ⟨g, o + 2, none⟩ = false ∧ w.frozen? ⟨g, o + 3, none⟩ = false ∧ w.frozen? ⟨g, o + 4, none⟩ = false := by
  have h0 := h 0 (by decide)
  have h1 := h 1 (by decide)
  have h2 := h 2 (by decide)
  have h3 := h 3 (by decide)
  have h4 := h 4 (by decide)
  obtain ⟨u0, e0⟩ := Option.isSome_iff_exists.1 h0.1
  obtain ⟨u1, e1⟩ := Option.isSome_iff_exists.1 h1.1
  obtain ⟨u2, e2⟩ := Option.isSome_iff_exists.1 h2.1
  obtain ⟨u3, e3⟩ := Option.isSome_iff_exists.1 h3.1
  obtain ⟨u4, e4⟩ := Option.isSome_iff_exists.1 h4.1
  exact ⟨u0, u1, u2, u3, u4, e0, e1, e2, e3, e4, h0.2, h1.2, h2.2, h3.2, h4.2⟩
theorem FillS.more {w : World} {base g n k : Nat} {L : List Fe} (h : FillS w base g n L) (hk : L.length = k) (hn : k < n) (f : Fe) : FillS (w.setCells g (k * 5) (fec f)) base g n (L ++ [f]) ∧ w.grownBy (w.setCells g (k * 5) (fec f)) (some g) := by
  obtain ⟨r, e, o⟩ := h
  obtain ⟨h1, h2⟩ := own_setCells (fec f) _ (k * 5) w o
  refine ⟨⟨r.drop 5, ?_, ?_⟩, h2⟩
  · rw [List.length_drop, e, List.length_append, List.length_singleton]
    omega
  · have hl : (feR.cs L).length = k * 5 := by rw [fill_len, hk]
    rw [setFrom_eq _ _ _ (by rw [List.length_append, hl, e]; show k * 5 + 5 ≤ _; omega)] at h1
    rw [List.take_append_of_le_length (by omega), List.take_of_length_le (by omega), show k * 5 + (fec f).length = (feR.cs L).length + 5 from by rw [hl]; rfl, List.drop_append, List.drop_eq_nil_of_le (by omega)] at h1
    simp only [List.nil_append, Nat.add_sub_cancel_left] at h1
    rw [feR.app, feR.one, List.append_assoc]
    exact h1
theorem FillS.done {w : World} {base g n : Nat} {L : List Fe} (h : FillS w base g n L) (hn : L.length = n) : FOwn w base (.slice (some ⟨g, 0, none⟩) n n) L := by
  obtain ⟨r, e, o⟩ := h
  rw [hn, Nat.sub_self, Nat.zero_mul] at e
  obtain rfl : r = [] := List.length_eq_zero_iff.1 e
  rw [List.append_nil] at o
  unfold FOwn RecT.Own
  rw [hn]
  exact o
theorem FillS.lt {w : World} {base g n : Nat} {L : List Fe} (h : FillS w base g n L) : base ≤ g ∧ g < w.heap.size := by
  obtain ⟨r, e, o⟩ := h
  exact World.ownsRow.lt o g rfl
set_option maxRecDepth 100000 in
set_option maxHeartbeats 4000000 in
theorem lpick_any (vr v : Value) (X : List Rv) (fs : List Fe) (w : World) (A : rvR.At w vr X) (B : feR.At w v fs) (hn : ∀ i, i < X.length → 1 ≤ ((rws X).getD i Rw.none).nu ∧ ((rws X).getD i Rw.none).nu ≤ (fs.length : Int)) (hl : fs.length ≤ 4096) (h16 : X.length ≤ 16) : Calls Tryz.prog 220 #[vr, v] w fun e' w' => ∃ v', e' = .returned v' ∧ FOwn w' w.heap.size v' (pickF (rws X) fs) ∧ w.grownBy w' none := by
  obtain ⟨i0, hi, hz0, hz1, hz2⟩ := info_parts Tryz.linfoF
  obtain ⟨pr, cr, rfl⟩ := A.form
  obtain ⟨pl, cl, rfl⟩ := B.form
  have HA : Hid (rvR.At w (.slice pr X.length cr) X) := A
  have HBf : Hid (feR.At w (.slice pl fs.length cl) fs) := B
  have HNu : Hid (∀ i, i < X.length → 1 ≤ ((rws X).getD i Rw.none).nu ∧ ((rws X).getD i Rw.none).nu ≤ (fs.length : Int)) := hn
  have Hl : Hid (fs.length ≤ 4096) := hl
  have H16 : Hid (X.length ≤ 16) := h16
  have Hbb : Hid (i0.bytes * X.length ≤ 281474976710656) := by show i0.bytes * X.length ≤ _; rw [hz2]; omega
  have Hbm : Hid (X.length ≤ maxLen) := by show X.length ≤ maxLen; unfold maxLen; omega
  clear A B hn hl h16
  go_enter Tryz.func220, Tryz.ntmps220
  go_wp2_with (at_make; refine wpList_make_full _ rfl _ _ 24 rfl w.heap.size 65 i0 _ 5 Tryz.underlying24 hi hz0 hz1 .i64 .i64 _ _ X.length rfl rfl rfl rfl Hbb.out Hbm.out (Nat.le_refl _) ?_; intro V o1 gv; have HF0 : Hid (FillS V w.heap.size w.heap.size X.length []) := ⟨_, by have := o1.1; simpa using this, o1⟩; have HGV : Hid (w.grownBy V none) := gv; clear o1 gv)
  obtain ⟨g0, h0⟩ : ∃ g0, g0 = w.heap.size := ⟨_, rfl⟩
  have Hg0 : Hid (g0 = w.heap.size) := h0
  rw [show FillS V w.heap.size w.heap.size X.length [] = FillS V w.heap.size g0 X.length [] from by rw [h0]] at HF0
  simp only [← h0] at ⊢
  clear h0
  go_loopw [6, 7, 13] (fun _ _ i wr => ∃ k : Nat, k ≤ X.length ∧ i = .int .i64 (k : Int) ∧ FillS wr g0 g0 X.length (pickU (rws X) fs k) ∧ w.grownBy wr none) (fun _ _ i _ => X.length - (intOf i).toNat)
  case atStart => exact ⟨0, Nat.zero_le _, rfl, by rw [← Hg0.out] at HF0; exact HF0.out, HGV.out⟩
  case round =>
    obtain ⟨k, hk, rfl, O, G⟩ := hrel
    obtain ⟨U, hU⟩ : ∃ U, U = wr := ⟨_, rfl⟩
    subst hU
    have HO : Hid (FillS U g0 g0 X.length (pickU (rws X) fs k)) := O
    have HG : Hid (w.grownBy U none) := G
    by_cases hlt : k < X.length
    · have hnu := HNu.out k hlt
      obtain ⟨g, off, cap, e1, R⟩ := rv_there (HA.out.keep G) hlt
      cases e1
      obtain ⟨x, hx⟩ : ∃ x, x = X[k] := ⟨_, rfl⟩
      rw [← hx] at R
      have en : ((rws X).getD k Rw.none).nu = x.r.nu := by rw [rws_get hlt, ← hx]
      rw [en] at hnu
      obtain ⟨j, hj⟩ : ∃ j : Nat, x.r.nu = (j : Int) + 1 := ⟨(x.r.nu - 1).toNat, by omega⟩
      have hjl : j < fs.length := by omega
      obtain ⟨gf, fof, fcap, e2, RF⟩ := fe_there (HBf.out.keep G) hjl
      cases e2
      obtain ⟨f, hf⟩ : ∃ f, f = fs[j] := ⟨_, rfl⟩
      rw [← hf] at RF
      have HY : Hid (pickU (rws X) fs (k + 1) = pickU (rws X) fs k ++ [f]) := by show _ = _; rw [pickU_next, en, hj, show ((j : Int) + 1 - 1).toNat = j by omega, getD_in hjl, ← hf]
      obtain ⟨c0, c1, c2', c3, c4, c5, c6, c7, c8, c9, c10⟩ := rv_cells R
      have c10' : U.cell? ⟨g, off + k * 11 + 10, none⟩ = some (.slice x.pa x.r.ps.length x.ca) := c10
      obtain ⟨Y, hY⟩ : ∃ Y, Y = U.alloc (.cells #[.int .i64 x.r.nu, .int .i64 x.r.st, .string x.r.h.nm, .int .u8 x.r.h.su, .int .u8 x.r.h.kd, .int .i64 x.r.h.co, .int .i64 x.r.h.po, .int .i64 x.r.h.he, .int .u16 x.r.h.tr, .bool x.r.h.tk, .slice x.pa x.r.ps.length x.ca] 248) := ⟨_, rfl⟩
      have HGY : Hid (U.grownBy Y none) := by rw [hY]; exact World.grownBy_alloc _ _ none
      have z0 : Y.cell? ⟨U.heap.size, 0, none⟩ = some (.int .i64 ((j : Int) + 1)) := by rw [hY, ← hj]; exact (block_cell (alloc_at _ _ _) 0).trans rfl
      obtain ⟨f0, f1, f2, f3, f4⟩ := fe_cells (rangeAt_keep RF HGY.out)
      have HOY : Hid (FillS Y g0 g0 X.length (pickU (rws X) fs k)) := O.grow HGY.out
      have hw1 := wrap_smallI (j := j) (Nat.le_trans (Nat.le_of_lt hjl) Hl.out)
      have hw2 := wrap_small (j := j) (Nat.le_trans (Nat.le_of_lt hjl) Hl.out)
      have hjl' : (j : Int) < fs.length := Int.ofNat_lt.2 hjl
      have hlt' : (k : Int) < X.length := Int.ofNat_lt.2 hlt
      have hwk := wrap_next (k := k) (Nat.le_trans (Nat.le_of_lt hlt) (Nat.le_trans H16.out (by decide)))
      have Hlt : Hid (k < X.length) := hlt
      have HM : Hid (X.length - (intOf (.int .i64 ((k : Int) + 1))).toNat < X.length - (intOf (.int .i64 (k : Int))).toNat) := meas_k hlt
      clear O G R RF hx en hj hf c10 hnu hlt hk hjl
      go_upto_region 5 with fail
      rw [← hY]
      clear hY c0 c1 c2' c3 c4 c5 c6 c7 c8 c9 c10'
      obtain ⟨nb, hnb⟩ : ∃ nb, nb = U.heap.size := ⟨_, rfl⟩
      rw [← hnb] at z0 ⊢
      clear hnb
      obtain ⟨u0, u1, u2, u3, u4, y0, y1, y2, y3, y4, q0, q1, q2, q3, q4⟩ := there5 (HOY.out.there (pickU_len (rws X) fs k) Hlt.out)
      obtain ⟨Z, hZ⟩ : ∃ Z, Z = ((((Y.setCell ⟨g0, k * 5, none⟩ (.int .i64 f.ho)).setCell ⟨g0, k * 5 + 1, none⟩ (.int .u8 f.su)).setCell ⟨g0, k * 5 + 2, none⟩ (.int .u16 f.tr)).setCell ⟨g0, k * 5 + 3, none⟩ (.int .i64 f.po)).setCell ⟨g0, k * 5 + 4, none⟩ (.int .i64 f.he) := ⟨_, rfl⟩
      have q := HOY.out.more (pickU_len (rws X) fs k) Hlt.out f
      rw [show Y.setCells g0 (k * 5) (fec f) = Z from by rw [hZ]; rfl] at q
      have HQ : Hid (FillS Z g0 g0 X.length (pickU (rws X) fs (k + 1)) ∧ w.grownBy Z none) := ⟨by rw [HY.out]; exact q.1, grown_own (grown_trans HG.out HGY.out) q.2 (fun y e => by cases e; rw [Hg0.out]; exact Nat.le_refl _)⟩
      clear q
      go_upto_region 6 with fail
      rw [← hZ]
      clear hZ y0 y1 y2 y3 y4 q0 q1 q2 q3 q4 f0 f1 f2 f3 f4 z0
      go_wp2_with fail
      go_roundw
      case rel => exact ⟨k + 1, Hlt.out, by first | rfl | (rw [hwk]; rfl) | go_num, HQ.out⟩
      case measure => first | exact HM.out | (rw [hwk]; exact HM.out)
    · obtain rfl : k = X.length := Nat.le_antisymm hk (Nat.le_of_not_lt hlt)
      have HF : Hid (FOwn U w.heap.size (.slice (some ⟨g0, 0, none⟩) X.length X.length) (pickF (rws X) fs) ∧ w.grownBy U none) := ⟨by rw [← pickU_all, rws_len, ← Hg0.out]; exact O.done (pickU_len _ _ _), G⟩
      clear O G hk hlt
      go_wp2_with fail
      go_ret
      exact ⟨_, rfl, HF.out⟩
end Go.Proofs.YthfjgpjcepmnmaaGreat
namespace Go.Proofs.YthfjgpjcepmnmaaGreat
open Go.RowKit Go.Shelf

theorem dif_cons (a b : Int) (l : List Int) : dif (a :: b :: l) = (decide (a ≠ b) && dif (b :: l)) := rfl
theorem dif_true : ∀ (l : List Int), (∀ j, j + 1 < l.length → l.getD (j + 1) 0 ≠ l.getD j 0) → dif l = true
  | [], _ => rfl
  | [a], _ => rfl
  | a :: b :: l, h => by
    rw [dif_cons, dif_true (b :: l) (fun j hj => by have := h (j + 1) (by simpa using hj); simpa using this)]
    have := h 0 (by simp)
    simp at this
    simp
    exact fun e => this e.symm
theorem dif_false : ∀ (l : List Int) (j : Nat), j + 1 < l.length → l.getD (j + 1) 0 = l.getD j 0 → dif l = false
  | [], j, h, _ => by simp at h
  | [a], j, h, _ => by simp at h
  | a :: b :: l, 0, h, e => by
    rw [dif_cons]
    simp at e
    simp [e]
  | a :: b :: l, j + 1, h, e => by
    rw [dif_cons, dif_false (b :: l) j (by simpa using h) (by simpa using e), Bool.and_false]
theorem st_at {X : List Rv} {i : Nat} (h : i < X.length) : (stampsR (rws X)).getD i 0 = X[i].r.st := by
  unfold stampsR rws
  rw [getD_in (by simpa using h)]
  simp
theorem st_len (X : List Rv) : (stampsR (rws X)).length = X.length := by unfold stampsR rws; simp
set_option maxRecDepth 100000 in
set_option maxHeartbeats 4000000 in
theorem lstamps_any (vr : Value) (X : List Rv) (w : World) (A : rvR.At w vr X) (h16 : X.length ≤ 16) : Calls Tryz.prog 221 #[vr] w fun e' w' => e' = .returned (.bool (dif (stampsR (rws X)))) ∧ w.grownBy w' none := by
  obtain ⟨pr, cr, rfl⟩ := A.form
  have HA : Hid (rvR.At w (.slice pr X.length cr) X) := A
  have H16 : Hid (X.length ≤ 16) := h16
  clear A h16
  go_enter Tryz.func221, Tryz.ntmps221
  go_wp2_with fail
  go_loopw [3] (fun i wr => ∃ k : Nat, (k = 0 ∨ k < X.length) ∧ i = .int .i64 ((k : Int) + 1) ∧ (∀ j, j < k → j + 1 < X.length → (stampsR (rws X)).getD (j + 1) 0 ≠ (stampsR (rws X)).getD j 0) ∧ w.grownBy wr none) (fun i _ => X.length - (intOf i - 1).toNat)
  case atStart => exact ⟨0, Or.inl rfl, rfl, fun j hj => absurd hj (Nat.not_lt_zero _), grown_refl _ _⟩
  case round =>
    obtain ⟨k, hk, rfl, hd, G⟩ := hrel
    obtain ⟨U, hU⟩ : ∃ U, U = wr := ⟨_, rfl⟩
    subst hU
    have Hd : Hid (∀ j, j < k → j + 1 < X.length → (stampsR (rws X)).getD (j + 1) 0 ≠ (stampsR (rws X)).getD j 0) := hd
    have HG : Hid (w.grownBy U none) := G
    by_cases hlt : k + 1 < X.length
    · obtain ⟨g, off, cap, e1, R⟩ := rv_there (HA.out.keep G) (i := k) (by omega)
      cases e1
      obtain ⟨g', off', cap', e1, R'⟩ := rv_there (HA.out.keep G) hlt
      cases e1
      have HX0 : Hid ((stampsR (rws X)).getD k 0 = X[k].r.st) := st_at (by omega)
      have HX1 : Hid ((stampsR (rws X)).getD (k + 1) 0 = X[k + 1].r.st) := st_at hlt
      obtain ⟨a, ha⟩ : ∃ a, a = X[k].r.st := ⟨_, rfl⟩
      obtain ⟨b, hb⟩ : ∃ b, b = X[k + 1].r.st := ⟨_, rfl⟩
      have c1 := (rv_cells R).2.1
      have d1 := (rv_cells R').2.1
      rw [← ha] at c1 HX0
      rw [← hb] at d1 HX1
      have hlt' : (k : Int) + 1 < X.length := by omega
      have hk1 : (k : Int) < X.length := by omega
      have hw0 := wrap_small (j := k) (by have := H16.out; omega)
      have hw0' := wrap_smallI (j := k) (by have := H16.out; omega)
      have hw1 : wrap64 ((k : Int) + 1 + 1) = (k : Int) + 1 + 1 := by unfold wrap64; have := H16.out; omega
      have Hlt : Hid (k + 1 < X.length) := hlt
      have HM : Hid (X.length - (intOf (.int .i64 ((k : Int) + 1 + 1)) - 1).toNat < X.length - (intOf (.int .i64 ((k : Int) + 1)) - 1).toNat) := by show X.length - ((k : Int) + 1 + 1 - 1).toNat < X.length - ((k : Int) + 1 - 1).toNat; omega
      clear hd G R R' ha hb hlt hk
      by_cases hab : b = a
      · have e1 : (b == a) = true := by simpa using hab
        have HX : Hid (dif (stampsR (rws X)) = false) := dif_false _ k (by rw [st_len]; exact Hlt.out) (by rw [HX0.out, HX1.out]; exact hab)
        clear hab
        go_wp2_with fail
        go_quiet (fail)
        go_wp2
        go_ret
        exact ⟨ret_bb HX.out.symm, grown_trans HG.out (grown_drewN _ _ _)⟩
      · have e1 : (b == a) = false := by simpa using hab
        have HX : Hid (∀ j, j < k + 1 → j + 1 < X.length → (stampsR (rws X)).getD (j + 1) 0 ≠ (stampsR (rws X)).getD j 0) := fun j hj hj2 => by
          by_cases q : j = k
          · subst q
            rw [HX0.out, HX1.out]
            exact hab
          · exact Hd.out j (by omega) hj2
        clear hab
        go_wp2_with fail
        go_quiet (fail)
        go_wp2
        go_roundw
        case rel => exact ⟨k + 1, Or.inr Hlt.out, by first | rfl | (rw [hw1]; rfl) | go_num, HX.out, grown_trans HG.out (grown_drewN _ _ _)⟩
        case measure => first | exact HM.out | (rw [hw1]; exact HM.out)
    · have hlt' : decide ((k : Int) + 1 < (X.length : Int)) = false := decide_eq_false (by omega)
      have HX : Hid (dif (stampsR (rws X)) = true) := dif_true _ (fun j hj => by rw [st_len] at hj; exact Hd.out j (by omega) hj)
      clear hd G hlt hk
      go_wp2_with fail
      go_ret
      exact ⟨ret_bb HX.out.symm, HG.out⟩
def cmpR (x y : Rv) : Int := Lib.compareInt x.r.st y.r.st
theorem ltR (x y : Rv) : ltOf cmpR x y = decide (x.r.st < y.r.st) := by
  unfold ltOf cmpR Lib.compareInt
  by_cases h1 : x.r.st < y.r.st
  · simp [h1]
  · by_cases h2 : y.r.st < x.r.st <;> simp [h1, h2]
theorem swoR : Go.Sort.SWO (ltOf cmpR) where
  irrefl x := by rw [ltR]; simp
  trans x y z h1 h2 := by rw [ltR] at *; simp at *; omega
  ntrans x y z h1 h2 := by rw [ltR] at *; simp at *; omega
set_option maxRecDepth 100000 in
set_option maxHeartbeats 4000000 in
theorem lay1_any (x y : Rv) (W : World) : Calls Tryz.prog 219 #[.agg (rvc x).toArray, .agg (rvc y).toArray] W fun e w' => e = .returned (.int .i64 (cmpR x y)) ∧ ∃ q os', w' = Go.Sort.grow (W.drewN q) os' := by
  have hcon := fun W' => AnyG.cmp_Compare_int Tryz.cmpL x.r.st y.r.st W'
  change ∀ W', Calls Tryz.prog 161 _ _ _ at hcon
  unfold cmpR
  generalize Lib.compareInt x.r.st y.r.st = r at hcon ⊢
  unfold rvc Rv.u
  go_enter Tryz.func219, Tryz.ntmps219
  go_wp2_with (go_at_call 161; refine (hcon _).mono ?_; rintro e w' ⟨rfl, rfl⟩)
  go_ret
  exact ⟨rfl, 0, _, by rw [Go.Sort.alloc_eq_grow, Go.Sort.alloc_eq_grow, Go.Sort.grow_grow]; rfl⟩
def ROwn (w : World) (base : Nat) (v : Value) (X : List Rv) : Prop := rvR.Own 248 w base v X
theorem sortRows_any (v : Value) (X : List Rv) (base : Nat) (w : World) (O : ROwn w base v X) (h16 : X.length ≤ 16) : Calls Tryz.prog 218 #[v, .func (.func 219) #[] #[]] w fun e w' => e = .returned (.tuple #[]) ∧ ∃ X', X'.Perm X ∧ (X'.Pairwise fun a b => a.r.st ≤ b.r.st) ∧ ROwn w' base v X' ∧ w.grownBy w' v.ownBlock := by
  haveI : Inhabited Rv := ⟨⟨Rw.none, none, 0⟩⟩
  by_cases h0 : X.length = 0
  · have e1 : X = [] := List.length_eq_zero_iff.1 h0
    subst e1
    obtain ⟨p, cap, rfl⟩ := O.form
    have hS := AnyF.slices_SortFunc_none (P := Tryz.prog) (ρ := Tryz.sortR_ren) { Tryz.sortR with } p cap (.func (.func 219) #[] #[]) w
    change Calls Tryz.prog 218 _ _ _ at hS
    refine hS.mono ?_
    rintro e w' ⟨rfl, rfl⟩
    exact ⟨rfl, [], List.Perm.refl _, List.Pairwise.nil, O, grown_refl _ _⟩
  · obtain ⟨g, cap, e1, _, _, _, _, _⟩ := own_cell O (Nat.pos_of_ne_zero h0)
    subst e1
    have eg : ∀ args w, (callFunc 219 args).run Tryz.prog w = .ok (.enter 219 args) w := enters_of Tryz.func219 (by kernel_rfl) rfl
    have hS := sortQ Tryz.sortR rvR 248 Tryz.isAgg248 Tryz.sizeOf248 cmpR swoR 219 eg (fun x y W => lay1_any x y W) base g cap X w O (by omega)
    change Calls Tryz.prog 218 _ _ _ at hS
    refine hS.mono ?_
    rintro e w' ⟨rfl, X', hp, hs, o, q⟩
    exact ⟨rfl, X', hp, hs.imp (fun h => by rw [ltR] at h; simpa using h), o, q⟩
end Go.Proofs.YthfjgpjcepmnmaaGreat
