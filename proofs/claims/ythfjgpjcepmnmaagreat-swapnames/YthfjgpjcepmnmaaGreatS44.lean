/-
  Swap's laws: what is behind all swaps, in the example.
  Swap's laws: what the example's answers are, plainly.
  Swap's laws: is an answer this one?
  Swap's laws: some of the chapter's examples.
-/
import Derived.Test.YthfjgpjcepmnmaaGreatSxB
import Derived.Test.YthfjgpjcepmnmaaGreatS29
import Derived.BigQuiet
namespace Go.Proofs.YthfjgpjcepmnmaaGreat
open Go.RowKit Go.Shelf

def sxCd : Int → Hd × List Pt := atC exP (sxES (.bool false) (.bool false) (.bool false) (.bool false))
theorem sx_cd (vG vR vK vH : Value) : atC exP (sxES vG vR vK vH) = sxCd := by
  funext n
  unfold sxCd atC
  split
  · generalize (n - 1).toNat = k
    match k with
    | 0 => rfl
    | 1 => rfl
    | 2 => rfl
    | 3 => rfl
    | k + 4 => rfl
  · rfl
def sxE (h : Hp) : Int := laE 0 4 sxCd sxT sxF h
def sxA (h : Hp) : Ss := allT 0 4 sxCd sxT sxF h
def sxX (h : Hp) : Ss := if sxE h = 0 then sxA h else ⟨Hp.none, [], -1, 0⟩
theorem sx_in {w wr : World} {b S g f : Nat} {vG vR vK vH : Value} (H : SxR w wr b S g f vG vR vK vH) : SIn wr (.pointer (some ⟨b, 0, none⟩)) (.slice (some ⟨g, 0, none⟩) 4 4) (.slice (some ⟨f, 0, none⟩) 4 4) 0 4 sxCd sxT sxF := by
  have h := SIn.of H.bk H.th.at H.fe.at (by decide)
  rw [sx_cd] at h
  exact h
set_option maxRecDepth 100000 in
set_option maxHeartbeats 4000000 in
theorem sxall_any (vb on ct : Int) (w : World) : Calls Tryz.prog 12 #[.int .u8 vb, .int .i64 on, .int .i64 ct] w fun e w' => ∃ p m c, e = .returned (swdv (sxX ⟨vb, on, ct, 0, false, false⟩).af (.slice p m c) (sxX ⟨vb, on, ct, 0, false, false⟩).go (sxX ⟨vb, on, ct, 0, false, false⟩).li) ∧ DOwn w' w.heap.size (.slice p m c) (sxX ⟨vb, on, ct, 0, false, false⟩).us ∧ w.grownBy w' none := by
  obtain ⟨W1, hW1⟩ : ∃ W1, W1 = w.alloc (.cells #[.int .u8 0, .int .i64 0, .int .i64 0, .int .i64 0, .bool false, .bool false, .slice none 0 0, .int .i64 0, .int .i64 0] 45) := ⟨_, rfl⟩
  have HW1 : Hid (w.grownBy W1 none ∧ SwB W1 w.heap.size Hp.none (.slice none 0 0) 0 0) := by rw [hW1]; exact ⟨World.grownBy_alloc _ _ none, alloc_at _ _ _⟩
  have C1 := sxexample_any W1
  go_enter Tryz.func12, Tryz.ntmps12
  go_upto_region 1 with fail
  rw [← hW1]
  clear hW1
  obtain ⟨n6, hn6⟩ : ∃ n6, n6 = w.heap.size := ⟨_, rfl⟩
  have Hn6 : Hid (w.heap.size ≤ n6) := by show _ ≤ _; omega
  rw [← hn6] at HW1 ⊢
  clear hn6
  go_wp2_with fail
  refine C1.mono ?_
  rintro e w2 ⟨vG, vR, vK, vH, S, g, f, rfl, H2⟩
  have HR : Hid (W1.grownBy w2 none) := H2.gr
  have CA := sAll_any _ _ _ 0 4 sxCd sxT sxF ⟨vb, on, ct, 0, false, false⟩ w2 (sx_in H2) ⟨_, rfl⟩
  unfold hpv at CA
  obtain ⟨x, hx⟩ : ∃ x, x = sxE ⟨vb, on, ct, 0, false, false⟩ := ⟨_, rfl⟩
  obtain ⟨X, hX⟩ : ∃ X, X = sxA ⟨vb, on, ct, 0, false, false⟩ := ⟨_, rfl⟩
  rw [show laE 0 4 sxCd sxT sxF ⟨vb, on, ct, 0, false, false⟩ = x from hx.symm, show allT 0 4 sxCd sxT sxF ⟨vb, on, ct, 0, false, false⟩ = X from hX.symm] at CA
  have HX : Hid (sxX ⟨vb, on, ct, 0, false, false⟩ = if x = 0 then X else ⟨Hp.none, [], -1, 0⟩) := by rw [hx, hX]; rfl
  clear C1 H2 hx hX
  go_wp2_with fail
  refine CA.mono ?_
  rintro e w3 ⟨p, m, c, rfl, o3, g3⟩
  have H3 : Hid (DOwn w3 w.heap.size (.slice p m c) X.us ∧ w.grownBy w3 none ∧ SwB w3 n6 Hp.none (.slice none 0 0) 0 0) := ⟨own_big o3 (grown_trans HW1.out.1 HR.out).size, grown_trans HW1.out.1 (grown_trans HR.out g3), grown_keep (grown_trans HR.out g3) HW1.out.2 (by simp)⟩
  clear CA o3 g3 HR HW1
  unfold swdv
  obtain ⟨Y, hY⟩ : ∃ Y, Y = w3.alloc (.cells #[.int .u8 X.af.vb, .int .i64 X.af.on, .int .i64 X.af.ct, .int .i64 X.af.ho, .bool X.af.vn, .bool X.af.dr, .slice p m c, .int .i64 X.go, .int .i64 X.li] 45) := ⟨_, rfl⟩
  have HY : Hid (SwB Y w3.heap.size X.af (.slice p m c) X.go X.li ∧ DOwn Y w.heap.size (.slice p m c) X.us ∧ w.grownBy Y none ∧ SwB Y n6 Hp.none (.slice none 0 0) 0 0) := by
    have g : w3.grownBy Y none := by rw [hY]; exact World.grownBy_alloc _ _ none
    exact ⟨by rw [hY]; exact alloc_at _ _ _, own_grow H3.out.1 g, grown_trans H3.out.2.1 g, grown_keep g H3.out.2.2 (by simp)⟩
  clear H3
  go_upto_region 3 with fail
  rw [← hY]
  clear hY
  obtain ⟨n10, hn10⟩ : ∃ n10, n10 = w3.heap.size := ⟨_, rfl⟩
  rw [← hn10] at HY ⊢
  clear hn10
  by_cases hx : x = 0
  · subst hx
    have HE : Hid (sxX ⟨vb, on, ct, 0, false, false⟩ = X) := HX.out.trans (if_pos rfl)
    clear HX
    obtain ⟨y0, y1, y2, y3, y4, y5, y6, y7, y8⟩ := sw_box HY.out.1
    go_wp2_with (refine wpList_store_row rfl 45 (.tmp 6) (.tmp 31) rfl n6 (swa X.af (.slice p m c) X.go X.li) rfl rfl 45 _ HY.out.2.2.2 (by kernel_rfl) rfl (by simp [swa, Value.oneCell']) ?_)
    obtain ⟨Wr, hWr⟩ : ∃ Wr, Wr = Y.setRow n6 (swa X.af (.slice p m c) X.go X.li) := ⟨_, rfl⟩
    have HWr : Hid (SwB Wr n6 X.af (.slice p m c) X.go X.li ∧ Y.grownBy Wr (some n6)) := ⟨by rw [hWr]; exact swa_row Y n6 _ _ _ _ _ _ _ _ (HY.out.2.2.2), by rw [hWr]; exact grown_rowL _ _ _⟩
    rw [← hWr]
    clear hWr y0 y1 y2 y3 y4 y5 y6 y7 y8
    obtain ⟨r0, r1, r2, r3, r4, r5, r6, r7, r8⟩ := sw_box HWr.out.1
    refine bodyPost_ret (v := swdv X.af (.slice p m c) X.go X.li) (by simp [results, Tryz.results12, go_sem, swdv, r0, r1, r2, r3, r4, r5, r6, r7, r8]) rfl ⟨p, m, c, by rw [HE.out], ?_, grown_own HY.out.2.2.1 HWr.out.2 (fun y e => by cases e; exact Hn6.out)⟩
    rw [HE.out]
    exact own_tagged HY.out.2.1 HWr.out.2 HY.out.2.2.2 (by decide)
  · have HE : Hid (sxX ⟨vb, on, ct, 0, false, false⟩ = ⟨Hp.none, [], -1, 0⟩) := HX.out.trans (if_neg hx)
    have k1 : (x == 0) = false := by simpa using hx
    clear HX
    go_wp2_with (refine wpList_store_row rfl 45 (.tmp 6) (.tmp 30) rfl n6 (swa Hp.none (.slice none 0 0) (-1) 0) rfl rfl 45 _ HY.out.2.2.2 (by kernel_rfl) rfl (by simp [swa, Value.oneCell']) ?_)
    obtain ⟨Wr, hWr⟩ : ∃ Wr, Wr = Y.setRow n6 (swa Hp.none (.slice none 0 0) (-1) 0) := ⟨_, rfl⟩
    have HWr : Hid (SwB Wr n6 Hp.none (.slice none 0 0) (-1) 0 ∧ Y.grownBy Wr (some n6)) := ⟨by rw [hWr]; exact swa_row Y n6 _ _ _ _ _ _ _ _ (HY.out.2.2.2), by rw [hWr]; exact grown_rowL _ _ _⟩
    rw [← hWr]
    clear hWr
    obtain ⟨r0, r1, r2, r3, r4, r5, r6, r7, r8⟩ := sw_box HWr.out.1
    refine bodyPost_ret (v := swdv Hp.none (.slice none 0 0) (-1) 0) (by simp [results, Tryz.results12, go_sem, swdv, r0, r1, r2, r3, r4, r5, r6, r7, r8]) rfl ⟨none, 0, 0, by rw [HE.out], ?_, grown_own HY.out.2.2.1 HWr.out.2 (fun y e => by cases e; exact Hn6.out)⟩
    rw [HE.out]
    exact RecT.Own.nil sdR _ Wr _
end Go.Proofs.YthfjgpjcepmnmaaGreat
namespace Go.Proofs.YthfjgpjcepmnmaaGreat
open Go.RowKit Go.Shelf

def sxRw : List Rw := [⟨1, 1, sxR, [sxAl, sxAl, sxRp]⟩, ⟨2, 2, sxG, [sxAl, sxGp]⟩, ⟨3, 3, sxH, [sxHp, sxHq]⟩, ⟨4, 4, sxK, []⟩]
def sxLs : List Sd := [⟨1, 2, sxRp⟩, ⟨2, 1, sxGp⟩, ⟨3, 0, sxHp⟩, ⟨3, 1, sxHq⟩]
theorem sx_sort : sortR sxRw = sxRw := List.mergeSort_of_pairwise (by unfold sxRw; simp)
theorem sx_tab : tabR 4 sxCd sxT sxF = some sxRw := by
  unfold tabR
  rw [if_pos (by decide), show layF 4 sxCd (sxT.zip sxF) 0 [] = some sxRw from by kernel_rfl]
  simp only [sx_sort]
  rw [if_pos (by decide)]
theorem sx_ls : swL sxRw sxF = sxLs := by kernel_rfl
def sxV (h : Hp) : Ss := if hpMay sxT h = true then (if noHarm h = true then Ss.none else if (decide (h.vb = 1) && shlB sxCd sxT h.on) = true then ⟨Hp.none, [], 1, 0⟩ else allQ sxCd sxT sxF sxLs h (leftN sxLs []) (Ss.begin h)) else ⟨Hp.none, [], -1, 0⟩
theorem sx_val (h : Hp) : sxX h = sxV h := by
  have hb := bgE_ok sx_tab (k := 1) (by decide)
  have e : sxE h = if hpMay sxT h = true then 0 else 2 := by unfold sxE laE; rw [if_pos hb]
  unfold sxX sxV
  by_cases hm : hpMay sxT h = true
  · rw [if_pos hm] at e ⊢
    rw [if_pos e]
    unfold sxA allT
    rw [if_neg (fun q => q e), swT_ok hb sx_tab, sx_ls]
    rfl
  · rw [if_neg hm] at e ⊢
    rw [e, if_neg (by decide)]
theorem sx_v1 : sxX ⟨1, 4, 3, 0, false, false⟩ = ⟨⟨1, 4, 2, 0, false, false⟩, [⟨1, 2, sxRp⟩], 0, 0⟩ := by rw [sx_val]; kernel_rfl
theorem sx_v2 : sxX ⟨1, -2, 5, 0, false, false⟩ = ⟨⟨1, -1, 10, 0, false, false⟩, [⟨3, 1, sxHq⟩, ⟨3, 0, sxHp⟩], 0, 0⟩ := by rw [sx_val]; kernel_rfl
theorem sx_v3 : sxX ⟨1, -1, 3, 0, false, false⟩ = ⟨⟨1, -1, 6, 0, false, false⟩, [⟨3, 0, sxHp⟩], 0, 0⟩ := by rw [sx_val]; kernel_rfl
theorem sx_v4 : sxX ⟨1, 2, 3, 0, false, false⟩ = ⟨Hp.none, [], 1, 0⟩ := by rw [sx_val]; kernel_rfl
theorem sx_v5 : sxX ⟨1, 4, 1, 0, false, false⟩ = ⟨Hp.none, [⟨1, 2, sxRp⟩], 0, 0⟩ := by rw [sx_val]; kernel_rfl
theorem sx_v6 : sxX ⟨6, 2, 0, 0, false, false⟩ = ⟨Hp.none, [⟨2, 1, sxGp⟩], 1, 0⟩ := by rw [sx_val]; kernel_rfl
theorem sx_v7 : sxX ⟨6, 4, 0, 0, false, false⟩ = ⟨⟨6, 4, 0, 0, false, false⟩, [], 0, 0⟩ := by rw [sx_val]; kernel_rfl
theorem sx_v8 : sxX ⟨3, -1, 0, 0, false, false⟩ = ⟨⟨3, -1, 0, 0, false, false⟩, [], 0, 0⟩ := by rw [sx_val]; kernel_rfl
theorem sx_v9 : sxX ⟨1, 4, 0, 0, false, false⟩ = Ss.none := by rw [sx_val]; kernel_rfl
theorem sx_v10 : sxX ⟨1, 4, -9999, 0, false, false⟩ = Ss.none := by rw [sx_val]; kernel_rfl
theorem sx_no {h : Hp} (hm : hpMay sxT h = false) : sxX h = ⟨Hp.none, [], -1, 0⟩ := by rw [sx_val]; unfold sxV; rw [if_neg (by rw [hm]; decide)]
end Go.Proofs.YthfjgpjcepmnmaaGreat
namespace Go.Proofs.YthfjgpjcepmnmaaGreat
open Go.RowKit Go.Shelf

def UsAt (w : World) (q : Option Addr) (L : List Sd) : Prop := 0 < L.length → ∃ g, q = some ⟨g, 0, none⟩ ∧ ∀ (j : Nat) s, L[j]? = some s → w.cell? ⟨g, 2 * j, none⟩ = some (.int .i64 s.th) ∧ w.cell? ⟨g, 2 * j + 1, none⟩ = some (.int .i64 s.pl)
theorem UsAt.keep {w w' : World} {q : Option Addr} {L : List Sd} (h : UsAt w q L) (g : w.grownBy w' none) : UsAt w' q L := fun h0 => by
  obtain ⟨a, e, h2⟩ := h h0
  exact ⟨a, e, fun j s hs => ⟨g.cell (h2 j s hs).1 (by simp), g.cell (h2 j s hs).2 (by simp)⟩⟩
theorem idx_swL (j n : Nat) (hj : j < n) (hn : n ≤ 64) : (0 : Int) ≤ (j : Int) ∧ (j : Int) < (n : Int) ∧ ((j : Int)).toNat = j ∧ (0 : Int) ≤ 2 * (j : Int) ∧ 2 * (j : Int) < ((2 * n : Nat) : Int) ∧ (2 * (j : Int)).toNat = 2 * j ∧ (0 : Int) ≤ 2 * (j : Int) + 1 ∧ 2 * (j : Int) + 1 < ((2 * n : Nat) : Int) ∧ (2 * (j : Int) + 1).toNat = 2 * j + 1 ∧ wrap64 (2 * (j : Int)) = 2 * (j : Int) ∧ wrap64 (2 * (j : Int) + 1) = 2 * (j : Int) + 1 ∧ wrap64 ((j : Int) + 1) = (j : Int) + 1 := by
  refine ⟨by omega, by omega, by omega, by omega, by omega, by omega, by omega, by omega, by omega, ?_, ?_, ?_⟩ <;> (unfold wrap64; omega)
theorem ms_swL {j n : Nat} (h : (j : Int) < (n : Int)) : j < n ∧ n - (j + 1) < n - j ∧ j + 1 ≤ n := by omega
theorem nl_swL {j n : Nat} (h : ¬ (j : Int) < (n : Int)) : ¬ j < n := by omega
theorem len_swL {j n : Nat} {L : List Sd} (h : (j : Int) < (n : Int)) (e : n = L.length) : j < L.length ∧ 0 < L.length := by omega
set_option maxRecDepth 100000 in
set_option maxHeartbeats 4000000 in
theorem sxis_any (v on ct go : Int) (p q : Option Addr) (n c m d : Nat) (L : List Sd) (w : World) (A : sdR.At w (.slice p n c) L) (B : UsAt w q L) (hn : n = L.length) (hm : m = 2 * n) (hl : L.length ≤ 64) : Calls Tryz.prog 11 #[swdv ⟨v, on, ct, 0, false, false⟩ (.slice p n c) go 0, .int .u8 v, .int .i64 on, .int .i64 ct, .int .i64 go, .slice q m d] w fun e w' => e = .returned (.bool true) ∧ w.grownBy w' none := by
  obtain ⟨V, hV⟩ : ∃ V, V = w.alloc (.cells #[.int .u8 v, .int .i64 on, .int .i64 ct, .int .i64 0, .bool false, .bool false, .slice p n c, .int .i64 go, .int .i64 0] 45) := ⟨_, rfl⟩
  have HG : Hid (w.grownBy V none) := by rw [hV]; exact World.grownBy_alloc _ _ none
  have HS : Hid (SwB V w.heap.size ⟨v, on, ct, 0, false, false⟩ (.slice p n c) go 0) := by rw [hV]; exact alloc_at w _ _
  have HA : Hid (sdR.At V (.slice p n c) L ∧ UsAt V q L) := ⟨A.keep HG.out, B.keep HG.out⟩
  have HL : Hid (n = L.length ∧ n ≤ 64) := ⟨hn, by omega⟩
  have w2 : wrap64 (2 * (n : Int)) = (m : Int) := by unfold wrap64; omega
  have hnq := neq_hp
  have hgq := eqg_hp
  unfold hpa at hnq
  have kn : (((n : Int) * 2) == (m : Int)) = true := by rw [hm]; simp; omega
  unfold swdv
  have HMn : Hid (m = 2 * n) := hm
  clear A B hn hl hm
  go_enter Tryz.func11, Tryz.ntmps11
  go_upto_region 1 with fail
  rw [← hV]
  clear hV
  obtain ⟨n0, hn0⟩ : ∃ n0, n0 = w.heap.size := ⟨_, rfl⟩
  simp only [← hn0] at HS ⊢
  clear hn0
  obtain ⟨x0, x1, x2, x3, x4, x5, x6, x7, x8⟩ := sw_box HS.out
  go_wp2_with fail
  clear x0 x1 x2 x3 x4 x5 x6 x7 x8 hnq hgq kn w2
  go_loopw [13] (fun i wr => ∃ (j : Nat), j ≤ n ∧ i = .int .i64 (j : Int) ∧ Hid (V.grownBy wr none)) (fun i _ => n - (intOf i).toNat)
  case atStart => exact ⟨0, Nat.zero_le _, rfl, grown_refl _ _⟩
  case round =>
    obtain ⟨j, hj, rfl, HR⟩ := hrel
    obtain ⟨U, hU⟩ : ∃ U, U = wr := ⟨_, rfl⟩
    subst hU
    have HS2 : Hid (SwB U n0 ⟨v, on, ct, 0, false, false⟩ (.slice p n c) go 0) := grown_keep HR.out HS.out (by simp)
    obtain ⟨x0, x1, x2, x3, x4, x5, x6, x7, x8⟩ := sw_box HS2.out
    by_cases hc : (j : Int) < (n : Int)
    · have hjn : j < L.length := (len_swL hc HL.out.1).1
      obtain ⟨p', c', e1, hmx, hA⟩ := HA.out.1.keep HR.out
      injection e1 with e1 e2 e3
      obtain ⟨g, off, e4, hR⟩ := hA (len_swL hc HL.out.1).2
      obtain ⟨g2, e5, hB⟩ := HA.out.2.keep HR.out (len_swL hc HL.out.1).2
      have hx := sd_cells (hR j L[j] (List.getElem?_eq_getElem hjn))
      have hy := hB j L[j] (List.getElem?_eq_getElem hjn)
      obtain ⟨y0, y1, -⟩ := hx
      obtain ⟨z0, z1⟩ := hy
      rw [e4] at e1
      obtain ⟨s, hs⟩ : ∃ s, s = L[j] := ⟨_, rfl⟩
      rw [← hs] at y0 y1 z0 z1
      rw [show sdR.k = 10 from rfl] at y0 y1
      have HX := idx_swL j n (ms_swL hc).1 HL.out.2
      rw [← HMn.out] at HX
      obtain ⟨k1, k2, k3, k4, k5, k6, k7, k8, k9, k10, k11, k12⟩ := HX
      subst e1
      subst e5
      have HM : Hid (n - (j + 1) < n - j ∧ j + 1 ≤ n) := (ms_swL hc).2
      clear e2 e3 e4 hmx hA hB hR hs
      go_upto_region 6 with fail
      go_quiet (fail)
      go_wp2_with fail
      go_roundw
      case rel => exact ⟨j + 1, HM.out.2, by rw [k12]; rfl, grown_trans HR.out (grown_drewN _ _ _)⟩
      case measure => rw [k12]; exact HM.out.1
    · have hc' : ¬ j < n := nl_swL hc
      go_wp2_with fail
      go_ret
      exact ⟨rfl, grown_trans HG.out HR.out⟩
end Go.Proofs.YthfjgpjcepmnmaaGreat
namespace Go.Proofs.YthfjgpjcepmnmaaGreat
open Go.RowKit Go.Shelf

theorem sxall_at (vb on ct : Int) (X : Ss) (hX : sxX ⟨vb, on, ct, 0, false, false⟩ = X) (w : World) : Calls Tryz.prog 12 #[.int .u8 vb, .int .i64 on, .int .i64 ct] w fun e w' => ∃ p c, e = .returned (swdv X.af (.slice p X.us.length c) X.go X.li) ∧ sdR.At w' (.slice p X.us.length c) X.us ∧ w.grownBy w' none := by
  refine (sxall_any vb on ct w).mono ?_
  rintro e w' ⟨p, m, c, rfl, O, g⟩
  rw [hX] at O ⊢
  obtain ⟨p2, c2, e2⟩ := O.form
  injection e2 with e3 e4 e5
  subst e4
  exact ⟨p, c, rfl, RecT.Own.at O, g⟩
theorem us_nil (w : World) : UsAt w none [] := fun h => absurd h (Nat.lt_irrefl _)
theorem flat_at : ∀ (L : List Sd) (j : Nat) (s : Sd), L[j]? = some s → (L.flatMap fun s => [Value.int .i64 s.th, .int .i64 s.pl])[2 * j]? = some (.int .i64 s.th) ∧ (L.flatMap fun s => [Value.int .i64 s.th, .int .i64 s.pl])[2 * j + 1]? = some (.int .i64 s.pl)
  | [], j, s, h => by simp at h
  | a :: L, 0, s, h => by
    simp at h
    subst h
    exact ⟨rfl, rfl⟩
  | a :: L, j + 1, s, h => by
    have q := flat_at L j s (by simpa using h)
    exact ⟨q.1, q.2⟩
theorem us_lit {W : World} {g : Nat} {L : List Sd} {T : TypeId} {cs : Array Value} (h : W.heap[g]? = some (.cells cs T (0, 0))) (e : cs.toList = L.flatMap fun s => [Value.int .i64 s.th, .int .i64 s.pl]) : UsAt W (some ⟨g, 0, none⟩) L := fun _ => ⟨g, rfl, fun j s hs => by
  have q := flat_at L j s hs
  rw [← e] at q
  exact ⟨(block_cell h (2 * j)).trans (by simpa using q.1), (block_cell h (2 * j + 1)).trans (by simpa using q.2)⟩⟩
set_option maxRecDepth 100000 in
set_option maxHeartbeats 4000000 in
theorem sxawake_any (w : World) : Calls Tryz.prog 14 #[] w fun e w' => e = .returned (.bool true) ∧ w.grownBy w' none := by
  have HW : Hid (w.grownBy w none) := grown_refl _ _
  go_enter Tryz.func14, Tryz.ntmps14
  have C1 : Calls Tryz.prog 12 #[.int .u8 1, .int .i64 4, .int .i64 3] w fun e w' => ∃ p c, e = .returned (.agg #[.int .u8 1, .int .i64 4, .int .i64 2, .int .i64 0, .bool false, .bool false, .slice p 1 c, .int .i64 0, .int .i64 0]) ∧ sdR.At w' (.slice p 1 c) [⟨1, 2, sxRp⟩] ∧ w.grownBy w' none := sxall_at _ _ _ _ sx_v1 w
  go_wp2_with fail
  refine C1.mono ?_
  rintro e v1 ⟨p1, c1, rfl, A1, g1⟩
  have HV1 : Hid (w.grownBy v1 none) := grown_trans HW.out g1
  obtain ⟨X1, hX1⟩ : ∃ X, X = v1.alloc (.cells #[.int .i64 1, .int .i64 2] 3) := ⟨_, rfl⟩
  have HX1 : Hid (w.grownBy X1 none) := by rw [hX1]; exact grown_push HV1.out _
  have I1 : Calls Tryz.prog 11 #[.agg #[.int .u8 1, .int .i64 4, .int .i64 2, .int .i64 0, .bool false, .bool false, .slice p1 1 c1, .int .i64 0, .int .i64 0], .int .u8 1, .int .i64 4, .int .i64 2, .int .i64 0, .slice (some ⟨v1.heap.size, 0, none⟩) 2 2] X1 fun e w' => e = .returned (.bool true) ∧ X1.grownBy w' none := sxis_any 1 4 2 0 p1 _ 1 c1 2 2 [⟨1, 2, sxRp⟩] X1 (A1.keep (by rw [hX1]; exact World.grownBy_alloc _ _ none)) (us_lit (L := [⟨1, 2, sxRp⟩]) (by rw [hX1]; exact alloc_at _ _ _) rfl) rfl rfl (by decide)
  clear A1 g1 C1
  go_wp2_with fail
  rw [← hX1]
  clear hX1
  refine I1.mono ?_
  rintro e u1 ⟨rfl, g1⟩
  have HU1 : Hid (w.grownBy u1 none) := grown_trans HX1.out g1
  clear g1 I1
  have C2 : Calls Tryz.prog 12 #[.int .u8 1, .int .i64 (-2), .int .i64 5] u1 fun e w' => ∃ p c, e = .returned (.agg #[.int .u8 1, .int .i64 (-1), .int .i64 10, .int .i64 0, .bool false, .bool false, .slice p 2 c, .int .i64 0, .int .i64 0]) ∧ sdR.At w' (.slice p 2 c) [⟨3, 1, sxHq⟩, ⟨3, 0, sxHp⟩] ∧ u1.grownBy w' none := sxall_at _ _ _ _ sx_v2 u1
  go_wp2_with fail
  refine C2.mono ?_
  rintro e v2 ⟨p2, c2, rfl, A2, g2⟩
  have HV2 : Hid (w.grownBy v2 none) := grown_trans HU1.out g2
  obtain ⟨X2, hX2⟩ : ∃ X, X = v2.alloc (.cells #[.int .i64 3, .int .i64 1, .int .i64 3, .int .i64 0] 3) := ⟨_, rfl⟩
  have HX2 : Hid (w.grownBy X2 none) := by rw [hX2]; exact grown_push HV2.out _
  have I2 : Calls Tryz.prog 11 #[.agg #[.int .u8 1, .int .i64 (-1), .int .i64 10, .int .i64 0, .bool false, .bool false, .slice p2 2 c2, .int .i64 0, .int .i64 0], .int .u8 1, .int .i64 (-1), .int .i64 10, .int .i64 0, .slice (some ⟨v2.heap.size, 0, none⟩) 4 4] X2 fun e w' => e = .returned (.bool true) ∧ X2.grownBy w' none := sxis_any 1 (-1) 10 0 p2 _ 2 c2 4 4 [⟨3, 1, sxHq⟩, ⟨3, 0, sxHp⟩] X2 (A2.keep (by rw [hX2]; exact World.grownBy_alloc _ _ none)) (us_lit (L := [⟨3, 1, sxHq⟩, ⟨3, 0, sxHp⟩]) (by rw [hX2]; exact alloc_at _ _ _) rfl) rfl rfl (by decide)
  clear A2 g2 C2
  go_wp2_with fail
  rw [← hX2]
  clear hX2
  refine I2.mono ?_
  rintro e u2 ⟨rfl, g2⟩
  have HU2 : Hid (w.grownBy u2 none) := grown_trans HX2.out g2
  clear g2 I2
  go_wp2_with fail
  go_ret
  exact ⟨rfl, HU2.out⟩
end Go.Proofs.YthfjgpjcepmnmaaGreat
