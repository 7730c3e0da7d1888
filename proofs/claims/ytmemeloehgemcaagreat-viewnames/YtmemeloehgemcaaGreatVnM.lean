/-
  ViewNames: the chapter's examples.
-/
import Derived.Test.YtmemeloehgemcaaGreatV43
import Derived.Test.YtmemeloehgemcaaGreatV36
namespace Go.Proofs.YtmemeloehgemcaaGreat
open Go.RowKit Go.Shelf Go.Deep

def vyT : List Th := [⟨3, 0, 4, 1, 0, 0, 0, 0, 0, 0, false⟩, ⟨2, 0, 4, 2, 0, 0, 0, 0, 0, 0, false⟩, ⟨1, 0, 4, 3, 0, 0, 0, 0, 0, 0, false⟩, ⟨1, 1, 4, 4, 0, 2, 1, 0, 0, 0, false⟩]
def vzT : List Th := [⟨99, 0, 4, 1, 0, 0, 0, 0, 0, 0, false⟩, ⟨2, 0, 4, 2, 0, 0, 0, 0, 0, 0, false⟩, ⟨1, 0, 4, 3, 0, 0, 0, 0, 0, 0, false⟩, ⟨1, 1, 4, 4, 0, 2, 1, 0, 0, 0, false⟩]
def vyF : List Fe := [⟨0, 6, 0, 0, 0⟩, ⟨0, 5, 0, 0, 0⟩, ⟨0, 6, 0, 3, 3⟩, ⟨1, 2, 0, 3, 3⟩]
/-- What stands while the examples are asked. -/
structure VyS (w wr : World) (b S g : Nat) (vE vB vC : Value) (T : List Th) : Prop where
  bk : Book (fun k => tgOk b k ∧ k < S) wr b (vxES vE vB vC) vxP
  th : thR.Own 60 wr S (.slice (some ⟨g, 0, none⟩) 4 4) T
  len : T.length = 4
  gr : w.grownBy wr none
  lie : w.heap.size ≤ b ∧ b < S
theorem VyS.keep {w wr w' : World} {b S g : Nat} {vE vB vC : Value} {T : List Th} (h : VyS w wr b S g vE vB vC T) (k : wr.grownBy w' none) : VyS w w' b S g vE vB vC T := ⟨h.bk.keep k, own_grow h.th k, h.len, grown_trans h.gr k, h.lie⟩
theorem VyS.ge {w wr : World} {b S g : Nat} {vE vB vC : Value} {T : List Th} (h : VyS w wr b S g vE vB vC T) : S ≤ g ∧ g < wr.heap.size := World.ownsRow.lt h.th g rfl
theorem VyS.inn {w wr : World} {b S g : Nat} {vE vB vC : Value} {T : List Th} (h : VyS w wr b S g vE vB vC T) : VIn wr (.pointer (some ⟨b, 0, none⟩)) (.slice (some ⟨g, 0, none⟩) 4 4) (refE vxP T.length) ((vxES vE vB vC).length : Int) (atC vxP (vxES vE vB vC)) T (pfB vxP (vxES vE vB vC)) (mfB vxP) meB := VIn.of h.bk (RecT.Own.at h.th) ⟨_, _, by rw [h.len], by rw [h.len]; exact Nat.le_refl _⟩
theorem VyS.put {w wr w' : World} {b S g : Nat} {vE vB vC : Value} {T T' : List Th} (h : VyS w wr b S g vE vB vC T) (k : wr.grownBy w' (some g)) (o : thR.Own 60 w' S (.slice (some ⟨g, 0, none⟩) 4 4) T') (hl : T'.length = 4) : VyS w w' b S g vE vB vC T' := by
  obtain ⟨l1, l2⟩ := h.lie
  obtain ⟨g1, g2⟩ := h.ge
  exact ⟨h.bk.keepR k (fun q => by cases q; omega) (fun x hx q => by cases q; have := hx.2; omega), o, hl, grown_own h.gr k (fun y e => by cases e; omega), h.lie⟩
theorem VxR.vy {w wr : World} {b S g : Nat} {vE vB vC : Value} (h : VxR w wr b S g vE vB vC) : VyS w wr b S g vE vB vC vxT := ⟨h.bk, h.th, rfl, h.gr, h.lie⟩
theorem VyS.vx {w wr : World} {b S g : Nat} {vE vB vC : Value} (h : VyS w wr b S g vE vB vC vxT) : VxR w wr b S g vE vB vC := ⟨h.bk, h.th, h.gr, h.lie⟩
theorem vy_tab (vE vB vC : Value) : tabR 3 (atC vxP (vxES vE vB vC)) vyT vxF0 = some vxRw := by
  unfold tabR
  rw [if_pos (show vyT.length = vxF0.length from rfl), show layF 3 (atC vxP (vxES vE vB vC)) (vyT.zip vxF0) 0 [] = some vxRw from by kernel_rfl]
  simp only [vx_sort]
  rfl
theorem vy_prt (vE vB vC : Value) : prtF (pfB vxP (vxES vE vB vC)) vyT = vxF0 := by kernel_rfl
theorem vy_vk (vE vB vC : Value) : vkE (refE vxP vyT.length) ((vxES vE vB vC).length : Int) (atC vxP (vxES vE vB vC)) vyT (prtF (pfB vxP (vxES vE vB vC)) (vyT.take 2048)) meB = 0 := by
  rw [List.take_of_length_le (by decide), vy_prt, show refE vxP vyT.length = 0 from by kernel_rfl, show (((vxES vE vB vC).length : Nat) : Int) = 3 from rfl, vkE_yes (bgE_ok (vy_tab vE vB vC) (by decide))]
  kernel_rfl
theorem vy_of (vE vB vC : Value) : vBh (refE vxP vyT.length) ((vxES vE vB vC).length : Int) (atC vxP (vxES vE vB vC)) vyT (pfB vxP (vxES vE vB vC)) (mfB vxP) meB 6 = vyF := by
  rw [vBh_is (R := vxRw) (vy_vk vE vB vC) (by decide) (by rw [vy_prt]; exact Tab.of (vy_tab vE vB vC)), vy_prt]
  kernel_rfl
theorem vz_vk (vE vB vC : Value) : vkE (refE vxP vzT.length) ((vxES vE vB vC).length : Int) (atC vxP (vxES vE vB vC)) vzT (prtF (pfB vxP (vxES vE vB vC)) (vzT.take 2048)) meB = 2 := by
  have ht : tabR 3 (atC vxP (vxES vE vB vC)) vzT (prtF (pfB vxP (vxES vE vB vC)) (vzT.take 2048)) = none := by
    unfold tabR
    rw [if_pos (by rw [prtF_len]; rfl), show layF 3 (atC vxP (vxES vE vB vC)) (vzT.zip (prtF (pfB vxP (vxES vE vB vC)) (vzT.take 2048))) 0 [] = none from by kernel_rfl]
  have hb : bgE 0 3 (atC vxP (vxES vE vB vC)) vzT (prtF (pfB vxP (vxES vE vB vC)) (vzT.take 2048)) 5 = 2 := by
    unfold bgE
    rw [lkE_tab ht, if_neg (by decide)]
  rw [show refE vxP vzT.length = 0 from by kernel_rfl, show (((vxES vE vB vC).length : Nat) : Int) = 3 from rfl, vkE_no (by rw [hb]; decide), hb]
theorem r_vk {r n : Int} {cd : Int → Hd × List Pt} {ts : List Th} {fs : List Fe} {me : Th → Int} (h : r ≠ 0) : vkE r n cd ts fs me = r := by
  have hb : bgE r n cd ts fs 5 = r := bgE_no h
  rw [vkE_no (by rw [hb]; exact h), hb]
theorem bh_err {w w' : World} {r n : Int} {cd : Int → Hd × List Pt} {ts : List Th} {pf : Th → Fe} {mf : Fe → Th → Fe} {me : Th → Int} {k q : Int} {e : Ending} (h : BhPost w r n cd ts pf mf me k e w') (hq : vqE (vkE r n cd ts (prtF pf (ts.take 2048)) me) (decide (0 ≤ k ∧ k ≤ 6)) 2 = q) : ∃ p m c, e = .returned (.tuple #[.slice p m c, .int .i64 q]) ∧ w.grownBy w' none := by
  obtain ⟨v, e1, g, o⟩ := h
  rw [hq] at e1
  obtain ⟨p, c, rfl⟩ := RecT.Own.form o
  exact ⟨p, _, c, e1, g⟩
def vxS : List Sd := [⟨2, 0, exBp⟩, ⟨1, 0, exCp⟩]
theorem vx_steps {w wr : World} {b S g : Nat} {vE vB vC : Value} (h : VxR w wr b S g vE vB vC) : Calls Tryz.prog 27 #[.pointer (some ⟨b, 0, none⟩), .slice (some ⟨g, 0, none⟩) 4 4] wr fun e w' => ∃ p c, e = .returned (.tuple #[.slice (some ⟨p, 0, none⟩) 2 c, .int .i64 0]) ∧ wr.grownBy w' none ∧ DOwn w' wr.heap.size (.slice (some ⟨p, 0, none⟩) 2 c) vxS := by
  refine (vsteps_any _ _ _ _ _ _ _ _ _ wr h.inn).mono ?_
  rintro e w' ⟨v, rfl, g', o⟩
  rw [vSt_is (vx_vk vE vB vC) (vx_Tab vE vB vC), vx_prt, vx_st] at o
  obtain ⟨p, c, e1, _⟩ := own_cell o (by decide)
  subst e1
  exact ⟨p, c, by rw [vx_vk]; rfl, g', o⟩
theorem vx_why {w wr : World} {b S g : Nat} {vE vB vC : Value} (h : VxR w wr b S g vE vB vC) (x : Int) (hx : onT vxT x = true) (L : List Sd) (hL : (whU vxRw x vxF0 5).map Se.s = L) : Calls Tryz.prog 28 #[.pointer (some ⟨b, 0, none⟩), .slice (some ⟨g, 0, none⟩) 4 4, .int .i64 x] wr fun e w' => ∃ p c, e = .returned (.tuple #[.slice p L.length c, .int .i64 0]) ∧ wr.grownBy w' none ∧ DOwn w' wr.heap.size (.slice p L.length c) L := by
  refine (vwhy_any _ _ _ _ _ _ _ _ _ x wr h.inn).mono ?_
  rintro e w' ⟨v, rfl, g', o⟩
  rw [vWh_is (vx_vk vE vB vC) hx (vx_Tab vE vB vC), vx_prt, hL] at o
  obtain ⟨p, c, rfl⟩ := RecT.Own.form o
  exact ⟨p, c, by rw [vx_vk, hx]; rfl, g', o⟩
theorem vx_miss {w wr : World} {b S g : Nat} {vE vB vC : Value} (h : VxR w wr b S g vE vB vC) (x : Int) (hx : onT vxT x = false) : Calls Tryz.prog 28 #[.pointer (some ⟨b, 0, none⟩), .slice (some ⟨g, 0, none⟩) 4 4, .int .i64 x] wr fun e w' => ∃ p c, e = .returned (.tuple #[.slice p 0 c, .int .i64 6]) ∧ wr.grownBy w' none := by
  refine (vwhy_any _ _ _ _ _ _ _ _ _ x wr h.inn).mono ?_
  rintro e w' ⟨v, rfl, g', o⟩
  have hq : vqE (vkE (refE vxP vxT.length) ((vxES vE vB vC).length : Int) (atC vxP (vxES vE vB vC)) vxT (prtF (pfB vxP (vxES vE vB vC)) (vxT.take 2048)) meB) (onT vxT x) 6 = 6 := by rw [vx_vk, hx]; rfl
  rw [vWh_no (by rw [hq]; decide)] at o
  obtain ⟨p, c, rfl⟩ := RecT.Own.form o
  exact ⟨p, c, by rw [hq]; rfl, g'⟩
theorem sd_at {w : World} {base p n c : Nat} {L : List Sd} (o : DOwn w base (.slice (some ⟨p, 0, none⟩) n c) L) (i : Nat) {s : Sd} (hf : L[i]? = some s) : w.rangeAt p (i * 10) (sdc s) := by
  have hi : i < L.length := (List.getElem?_eq_some_iff.1 hf).1
  obtain ⟨g, off, cap, e, R⟩ := sd_there (RecT.Own.at o) hi
  injection e with e1 e2 e3
  injection e1 with e1
  injection e1 with a1 a2
  rw [← a1, ← a2, Nat.zero_add, show L[i] = s from (List.getElem?_eq_some_iff.1 hf).2] at R
  exact R
theorem thc_zero : ∀ r, r < 11 → (thc ⟨0, 0, 0, 0, 0, 0, 0, 0, 0, 0, false⟩)[r]? = some ((#[.int .i64 0, .int .i64 0, .int .u8 0, .int .i64 0, .int .i64 0, .int .i64 0, .int .i64 0, .int .i64 0, .int .i64 0, .int .i64 0, .bool false] : Array Value)[r]!)
  | 0, _ => rfl
  | 1, _ => rfl
  | 2, _ => rfl
  | 3, _ => rfl
  | 4, _ => rfl
  | 5, _ => rfl
  | 6, _ => rfl
  | 7, _ => rfl
  | 8, _ => rfl
  | 9, _ => rfl
  | 10, _ => rfl
  | n + 11, h => by omega
def thZ : Th := ⟨0, 0, 0, 0, 0, 0, 0, 0, 0, 0, false⟩
theorem made_th (n : Nat) : (madeCells (Value.agg #[.int .i64 0, .int .i64 0, .int .u8 0, .int .i64 0, .int .i64 0, .int .i64 0, .int .i64 0, .int .i64 0, .int .i64 0, .int .i64 0, .bool false]).cells (n * 11)).toList = thR.cs (List.replicate n thZ) := by
  refine List.ext_getElem? fun i => ?_
  by_cases hi : i < n * 11
  · have h1 := thR.at' (l := List.replicate n thZ) (j := i / 11) (x := thZ) (by rw [List.getElem?_replicate, if_pos (by omega)]) (i % 11) (show i % 11 < 11 by omega)
    have h2 : (thR.cs (List.replicate n thZ))[i / 11 * 11 + i % 11]? = (thc thZ)[i % 11]? := h1
    rw [show i / 11 * 11 + i % 11 = i by omega, show thc thZ = thc ⟨0, 0, 0, 0, 0, 0, 0, 0, 0, 0, false⟩ from rfl, thc_zero _ (by omega)] at h2
    rw [h2]
    show ((Array.range (n * 11)).map _).toList[i]? = _
    rw [Array.toList_map, List.getElem?_map, Array.toList_range, List.getElem?_range hi]
    rfl
  · rw [List.getElem?_eq_none (by rw [Array.length_toList, size_madeCells]; omega), List.getElem?_eq_none (by rw [thR.len, List.length_replicate]; show n * 11 ≤ i; omega)]
theorem made_ownT {V : World} {base g n : Nat} (h : V.ownsRow base 60 11 (.slice (some ⟨g, 0, none⟩) n n) n (madeCells (Value.agg #[.int .i64 0, .int .i64 0, .int .u8 0, .int .i64 0, .int .i64 0, .int .i64 0, .int .i64 0, .int .i64 0, .int .i64 0, .int .i64 0, .bool false]).cells (n * 11)).toList) : thR.Own 60 V base (.slice (some ⟨g, 0, none⟩) n n) (List.replicate n thZ) := by
  unfold RecT.Own
  rw [List.length_replicate, ← made_th]
  exact h
theorem own_far2 {w w' : World} {base e size n g c x : Nat} {xs : List Value} (h : w.ownsRow base e size (.slice (some ⟨g, 0, none⟩) n c) n xs) (k : w.grownBy w' (some x)) (hx : g < x) : w'.ownsRow base e size (.slice (some ⟨g, 0, none⟩) n c) n xs := World.ownsRow.kept h k (Or.inr fun q => by simp [Value.ownBlock] at q; omega)
/-- More than may be. -/
theorem many_of {w wr V : World} {b S g g2 : Nat} {vE vB vC : Value} {T : List Th} {n : Nat} (h : VyS w wr b S g vE vB vC T) (k : wr.grownBy V none) (o : thR.Own 60 V 0 (.slice (some ⟨g2, 0, none⟩) n n) (List.replicate n thZ)) (hn : 2048 < n) : Calls Tryz.prog 30 #[.pointer (some ⟨b, 0, none⟩), .slice (some ⟨g2, 0, none⟩) n n] V fun e w' => ∃ p m c, e = .returned (.tuple #[.slice p m c, .int .i64 3]) ∧ V.grownBy w' none := by
  have hr : refE vxP (List.replicate n thZ).length = 3 := by unfold refE; rw [List.length_replicate, if_pos hn]
  have I := VIn.of (h.bk.keep k) (RecT.Own.at o) ⟨_, _, by rw [List.length_replicate], by rw [List.length_replicate]; exact Nat.le_refl _⟩
  rw [hr] at I
  exact (vof_any _ _ _ _ _ _ _ _ _ V I).mono fun e w' q => bh_err q (by rw [r_vk (by decide), vqE_no (by decide)])
set_option maxRecDepth 100000 in
set_option maxHeartbeats 4000000 in
theorem viewNames_any (w : World) : Calls Tryz.prog 5 #[] w fun e w' => e = .returned (.bool true) ∧ w.grownBy w' none := by
  have hnq := neq_feL
  have hgq := eqg_feL
  obtain ⟨iT, hiT, hT0, hT1, hT2⟩ := info_parts Tryz.linfoT
  have HiT : Hid (iT.bytes = 88) := hT2
  clear hT2
  have C1 := vexample_any w
  go_enter Tryz.func5, Tryz.ntmps5
  go_wp2_with fail
  refine C1.mono ?_
  rintro e1 w1 ⟨vE, vB, vC, S, g, rfl, h1⟩
  obtain ⟨b, hb⟩ : ∃ b, b = w.heap.size := ⟨_, rfl⟩
  rw [← hb] at h1 ⊢
  have H1 : Hid (VyS w w1 b S g vE vB vC vxT) := h1.vy
  clear C1 h1 hb
  have C2 := vlives_any w1
  go_wp2_with fail
  refine C2.mono ?_
  rintro e2 w2 ⟨rfl, g2⟩
  have H2 : Hid (VyS w w2 b S g vE vB vC vxT) := H1.out.keep g2
  clear C2 g2 H1
  obtain ⟨V3, hV3⟩ : ∃ V3, V3 = (w2.alloc (.cells #[.int .i64 0, .int .u8 2, .int .u16 0, .int .i64 2, .int .i64 2, .int .i64 0, .int .u8 6, .int .u16 0, .int .i64 2, .int .i64 2, .int .i64 0, .int .u8 6, .int .u16 0, .int .i64 3, .int .i64 3] 64)).alloc (.cells #[.int .i64 0, .int .i64 2, .int .i64 5] 3) := ⟨_, rfl⟩
  have g3 : w2.grownBy V3 none := by rw [hV3]; exact grown_push (World.grownBy_alloc _ _ none) _
  have H3 : Hid (VyS w V3 b S g vE vB vC vxT) := H2.out.keep g3
  have HW3 : Hid (V3.heap[w2.heap.size]? = some (.cells #[.int .i64 0, .int .u8 2, .int .u16 0, .int .i64 2, .int .i64 2, .int .i64 0, .int .u8 6, .int .u16 0, .int .i64 2, .int .i64 2, .int .i64 0, .int .u8 6, .int .u16 0, .int .i64 3, .int .i64 3] 64 (0, 0)) ∧ V3.heap[w2.heap.size + 1]? = some (.cells #[.int .i64 0, .int .i64 2, .int .i64 5] 3 (0, 0))) := ⟨by rw [hV3]; exact alloc_two _ _ _ _ _, by rw [hV3]; exact alloc2_b _ _ _ _⟩
  clear g3 H2
  go_upto_region 7 with fail
  rw [← hV3]
  clear hV3
  obtain ⟨nw, hnw⟩ : ∃ nw, nw = w2.heap.size := ⟨_, rfl⟩
  obtain ⟨na, hna⟩ : ∃ na, na = nw + 1 := ⟨_, rfl⟩
  simp only [← hnw, ← hna] at HW3 ⊢
  clear hnw hna
  go_wp2_with fail
  go_loopw [7, 8, 9] (fun i _ _ wr => ∃ (j : Nat), j ≤ 3 ∧ i = .int .i64 (j : Int) ∧ Hid (VyS w wr b S g vE vB vC vxT) ∧ Hid (V3.grownBy wr none)) (fun i _ _ _ => 3 - (intOf i).toNat)
  case atStart => exact ⟨0, by decide, rfl, H3, grown_refl _ _⟩
  case round =>
    clear H3
    obtain ⟨j, hj, rfl, HS, HG⟩ := hrel
    obtain ⟨U, hU⟩ : ∃ U, U = wr := ⟨_, rfl⟩
    subst hU
    have hj' : j = 0 ∨ j = 1 ∨ j = 2 ∨ j = 3 := by omega
    clear hj
    rcases hj' with rfl | rfl | rfl | rfl
    · have C4 := vx_behind HS.out.vx 0 (by decide) vxF0 vx_bh0 rfl
      have a0 : U.cell? ⟨na, 0, none⟩ = some (.int .i64 0) := (block_cell (grown_keep HG.out HW3.out.2 (by simp)) 0).trans rfl
      go_wp2_with fail
      refine C4.mono ?_
      rintro e4 w4 ⟨p4, c4, rfl, g4, o4⟩
      have H4 : Hid (VyS w w4 b S g vE vB vC vxT) := HS.out.keep g4
      have HG4 : Hid (V3.grownBy w4 none) := grown_trans HG.out g4
      have r4 := fe_at o4 2 (show vxF0[2]? = some ⟨0, 2, 0, 2, 2⟩ from rfl)
      clear C4 g4 o4 a0 HS HG
      obtain ⟨D, hD⟩ : ∃ D, D = w4.drew := ⟨_, rfl⟩
      go_upto_region 11 with fail
      have gD : w4.grownBy w4.drew none := grown_drew _
      obtain ⟨f0, f1, f2, f3, f4⟩ := fe_cells r4
      simp only [Nat.reduceMul, Nat.reduceAdd] at f0 f1 f2 f3 f4
      have hb := grown_keep HG4.out HW3.out.1 (by simp)
      have y0 := (block_cell hb 0).trans (show _ = some (.int .i64 0) from rfl)
      have y1 := (block_cell hb 1).trans (show _ = some (.int .u8 2) from rfl)
      have y2 := (block_cell hb 2).trans (show _ = some (.int .u16 0) from rfl)
      have y3 := (block_cell hb 3).trans (show _ = some (.int .i64 2) from rfl)
      have y4 := (block_cell hb 4).trans (show _ = some (.int .i64 2) from rfl)
      clear r4 hb hD D gD
      go_quiet (fail)
      clear f0 f1 f2 f3 f4 y0 y1 y2 y3 y4
      go_wp2_with fail
      go_roundw
      case rel => exact ⟨1, by decide, rfl, H4.out.keep (grown_drewN _ _ _), grown_trans HG4.out (grown_drewN _ _ _)⟩
      case measure => decide
    · have C4 := vx_behind HS.out.vx 2 (by decide) vxF2 vx_bh2 rfl
      have a0 : U.cell? ⟨na, 1, none⟩ = some (.int .i64 2) := (block_cell (grown_keep HG.out HW3.out.2 (by simp)) 1).trans rfl
      go_wp2_with fail
      refine C4.mono ?_
      rintro e4 w4 ⟨p4, c4, rfl, g4, o4⟩
      have H4 : Hid (VyS w w4 b S g vE vB vC vxT) := HS.out.keep g4
      have HG4 : Hid (V3.grownBy w4 none) := grown_trans HG.out g4
      have r4 := fe_at o4 2 (show vxF2[2]? = some ⟨0, 6, 0, 2, 2⟩ from rfl)
      clear C4 g4 o4 a0 HS HG
      obtain ⟨D, hD⟩ : ∃ D, D = w4.drew := ⟨_, rfl⟩
      go_upto_region 11 with fail
      have gD : w4.grownBy w4.drew none := grown_drew _
      obtain ⟨f0, f1, f2, f3, f4⟩ := fe_cells r4
      simp only [Nat.reduceMul, Nat.reduceAdd] at f0 f1 f2 f3 f4
      have hb := grown_keep HG4.out HW3.out.1 (by simp)
      have y0 := (block_cell hb 5).trans (show _ = some (.int .i64 0) from rfl)
      have y1 := (block_cell hb 6).trans (show _ = some (.int .u8 6) from rfl)
      have y2 := (block_cell hb 7).trans (show _ = some (.int .u16 0) from rfl)
      have y3 := (block_cell hb 8).trans (show _ = some (.int .i64 2) from rfl)
      have y4 := (block_cell hb 9).trans (show _ = some (.int .i64 2) from rfl)
      clear r4 hb hD D gD
      go_quiet (fail)
      clear f0 f1 f2 f3 f4 y0 y1 y2 y3 y4
      go_wp2_with fail
      go_roundw
      case rel => exact ⟨2, by decide, rfl, H4.out.keep (grown_drewN _ _ _), grown_trans HG4.out (grown_drewN _ _ _)⟩
      case measure => decide
    · have C4 := vx_behind HS.out.vx 5 (by decide) vxF5 vx_bh5 rfl
      have a0 : U.cell? ⟨na, 2, none⟩ = some (.int .i64 5) := (block_cell (grown_keep HG.out HW3.out.2 (by simp)) 2).trans rfl
      go_wp2_with fail
      refine C4.mono ?_
      rintro e4 w4 ⟨p4, c4, rfl, g4, o4⟩
      have H4 : Hid (VyS w w4 b S g vE vB vC vxT) := HS.out.keep g4
      have HG4 : Hid (V3.grownBy w4 none) := grown_trans HG.out g4
      have r4 := fe_at o4 2 (show vxF5[2]? = some ⟨0, 6, 0, 3, 3⟩ from rfl)
      clear C4 g4 o4 a0 HS HG
      obtain ⟨D, hD⟩ : ∃ D, D = w4.drew := ⟨_, rfl⟩
      go_upto_region 11 with fail
      have gD : w4.grownBy w4.drew none := grown_drew _
      obtain ⟨f0, f1, f2, f3, f4⟩ := fe_cells r4
      simp only [Nat.reduceMul, Nat.reduceAdd] at f0 f1 f2 f3 f4
      have hb := grown_keep HG4.out HW3.out.1 (by simp)
      have y0 := (block_cell hb 10).trans (show _ = some (.int .i64 0) from rfl)
      have y1 := (block_cell hb 11).trans (show _ = some (.int .u8 6) from rfl)
      have y2 := (block_cell hb 12).trans (show _ = some (.int .u16 0) from rfl)
      have y3 := (block_cell hb 13).trans (show _ = some (.int .i64 3) from rfl)
      have y4 := (block_cell hb 14).trans (show _ = some (.int .i64 3) from rfl)
      clear r4 hb hD D gD
      go_quiet (fail)
      clear f0 f1 f2 f3 f4 y0 y1 y2 y3 y4
      go_wp2_with fail
      go_roundw
      case rel => exact ⟨3, by decide, rfl, H4.out.keep (grown_drewN _ _ _), grown_trans HG4.out (grown_drewN _ _ _)⟩
      case measure => decide
    · have C5 := vx_steps HS.out.vx
      clear HW3 HG
      go_wp2_with fail
      refine C5.mono ?_
      rintro e5 w5 ⟨p5, c5, rfl, g5, o5⟩
      have H5 : Hid (VyS w w5 b S g vE vB vC vxT) := HS.out.keep g5
      have HO5 : Hid (sdR.At w5 (.slice (some ⟨p5, 0, none⟩) 2 c5) vxS) := RecT.Own.at o5
      have r0 := sd_at o5 0 (show vxS[0]? = some ⟨2, 0, exBp⟩ from rfl)
      have r1 := sd_at o5 1 (show vxS[1]? = some ⟨1, 0, exCp⟩ from rfl)
      obtain ⟨z0, z1, z2, z3, z4, z5, z6, z7, z8, z9⟩ := sd_cells r0
      obtain ⟨u0, u1, u2, u3, u4, u5, u6, u7, u8, u9⟩ := sd_cells r1
      simp only [Nat.reduceMul, Nat.reduceAdd] at z0 z1 z3 u0 u3
      unfold exBp at z3
      unfold exCp at u3
      clear C5 g5 o5 r0 r1 HS z2 z4 z5 z6 z7 z8 z9 u1 u2 u4 u5 u6 u7 u8 u9
      have C6 := vx_why H5.out.vx 3 (by decide) vxS (by rw [vx_wh3]; rfl)
      rw [show vxS.length = 2 from rfl] at C6
      go_wp2_with fail
      refine C6.mono ?_
      rintro e6 w6 ⟨p6, c6, rfl, g6, o6⟩
      have H6 : Hid (VyS w w6 b S g vE vB vC vxT) := H5.out.keep g6
      have HO6 : Hid (sdR.At w6 (.slice (some ⟨p5, 0, none⟩) 2 c5) vxS ∧ sdR.At w6 (.slice p6 2 c6) vxS) := ⟨HO5.out.keep g6, RecT.Own.at o6⟩
      clear C6 g6 o6 z0 z1 z3 u0 u3 H5 HO5
      have C7 := vx_why H6.out.vx 4 (by decide) [] (by rw [vx_wh4]; rfl)
      rw [show ([] : List Sd).length = 0 from rfl] at C7
      go_wp2_with fail
      refine C7.mono ?_
      rintro e7 w7 ⟨p7, c7, rfl, g7, -⟩
      have H7 : Hid (VyS w w7 b S g vE vB vC vxT) := H6.out.keep g7
      have HO7 : Hid (sdR.At w7 (.slice (some ⟨p5, 0, none⟩) 2 c5) vxS ∧ sdR.At w7 (.slice p6 2 c6) vxS) := ⟨HO6.out.1.keep g7, HO6.out.2.keep g7⟩
      clear C7 g7 H6 HO6
      have C8 := vx_why H7.out.vx 1 (by decide) [] (by rw [vx_wh1]; rfl)
      rw [show ([] : List Sd).length = 0 from rfl] at C8
      go_wp2_with fail
      refine C8.mono ?_
      rintro e8 w8 ⟨p8, c8, rfl, g8, -⟩
      have H8 : Hid (VyS w w8 b S g vE vB vC vxT) := H7.out.keep g8
      have HO8 : Hid (sdR.At w8 (.slice (some ⟨p5, 0, none⟩) 2 c5) vxS ∧ sdR.At w8 (.slice p6 2 c6) vxS) := ⟨HO7.out.1.keep g8, HO7.out.2.keep g8⟩
      clear C8 g8 H7 HO7
      have C9 := vx_miss H8.out.vx 9 (by decide)
      go_wp2_with fail
      refine C9.mono ?_
      rintro e9 w9 ⟨p9, c9, rfl, g9⟩
      have H9 : Hid (VyS w w9 b S g vE vB vC vxT) := H8.out.keep g9
      have C10 := sameSd_eq (.slice p6 2 c6) (.slice (some ⟨p5, 0, none⟩) 2 c5) vxS w9 (HO8.out.2.keep g9) (HO8.out.1.keep g9) (by decide)
      clear C9 g9 H8 HO8
      go_wp2_with fail
      refine C10.mono ?_
      rintro e10 w10 ⟨rfl, g10⟩
      have H10 : Hid (VyS w w10 b S g vE vB vC vxT) := H9.out.keep g10
      clear C10 g10 H9
      have q38 : w10.cell? ⟨g, 38, none⟩ = some (.int .i64 0) := World.ownsRow.cellAt H10.out.th 38 (by decide)
      have q39 : w10.cell? ⟨g, 39, none⟩ = some (.int .i64 0) := World.ownsRow.cellAt H10.out.th 39 (by decide)
      have q40 : w10.cell? ⟨g, 40, none⟩ = some (.int .i64 0) := World.ownsRow.cellAt H10.out.th 40 (by decide)
      have q41 : w10.cell? ⟨g, 41, none⟩ = some (.int .i64 0) := World.ownsRow.cellAt H10.out.th 41 (by decide)
      have qf := fun i => World.ownsRow.frozenAt H10.out.th i
      obtain ⟨V11, hV11⟩ : ∃ V11, V11 = (((w10.setCell ⟨g, 38, none⟩ (.int .i64 2)).setCell ⟨g, 39, none⟩ (.int .i64 1)).setCell ⟨g, 40, none⟩ (.int .i64 0)).setCell ⟨g, 41, none⟩ (.int .i64 0) := ⟨_, rfl⟩
      have H11 : Hid (VyS w V11 b S g vE vB vC vyT) := by
        have h := own_setCells [.int .i64 2, .int .i64 1, .int .i64 0, .int .i64 0] _ 38 w10 H10.out.th
        rw [show w10.setCells g 38 [.int .i64 2, .int .i64 1, .int .i64 0, .int .i64 0] = V11 from by rw [hV11]; rfl] at h
        exact H10.out.put h.2 (show thR.Own 60 V11 S (.slice (some ⟨g, 0, none⟩) 4 4) vyT from h.1) rfl
      go_upto_region 21 with fail
      rw [← hV11]
      clear hV11 q38 q39 q40 q41 qf H10
      have C12 : Calls Tryz.prog 30 #[.pointer (some ⟨b, 0, none⟩), .slice (some ⟨g, 0, none⟩) 4 4] V11 fun e w' => ∃ p c, e = .returned (.tuple #[.slice (some ⟨p, 0, none⟩) 4 c, .int .i64 0]) ∧ V11.grownBy w' none ∧ FOwn w' V11.heap.size (.slice (some ⟨p, 0, none⟩) 4 c) vyF := by
        refine (vof_any _ _ _ _ _ _ _ _ _ V11 H11.out.inn).mono ?_
        rintro e w' ⟨v, rfl, g', o⟩
        rw [vy_of] at o
        obtain ⟨p, c, e1, _⟩ := own_cell o (by decide)
        subst e1
        exact ⟨p, c, by rw [vy_vk]; rfl, g', o⟩
      go_wp2_with fail
      refine C12.mono ?_
      rintro e12 w12 ⟨p12, c12, rfl, g12, o12⟩
      have H12 : Hid (VyS w w12 b S g vE vB vC vyT) := H11.out.keep g12
      have HO12 : Hid (w12.rangeAt p12 15 (fec ⟨1, 2, 0, 3, 3⟩)) := fe_at o12 3 (show vyF[3]? = some ⟨1, 2, 0, 3, 3⟩ from rfl)
      clear C12 g12 o12 H11
      have C13 := (vbehind_any _ _ _ _ _ _ _ _ _ 7 w12 H12.out.inn).mono fun e w' q => bh_err q (q := 2) (by rw [vy_vk]; rfl)
      go_wp2_with fail
      refine C13.mono ?_
      rintro e13 w13 ⟨p13, m13, c13, rfl, g13⟩
      have H13 : Hid (VyS w w13 b S g vE vB vC vyT) := H12.out.keep g13
      have HO13 : Hid (w13.rangeAt p12 15 (fec ⟨1, 2, 0, 3, 3⟩)) := rangeAt_keep HO12.out g13
      clear C13 g13 H12 HO12
      have C14 := bnew (tgOk w13.heap.size) w13
      obtain ⟨b2, hb2⟩ : ∃ b2, b2 = w13.heap.size := ⟨_, rfl⟩
      rw [← hb2] at C14
      clear hb2
      go_wp2_with fail
      refine C14.mono ?_
      rintro e14 w14 ⟨rfl, B14, g14, -⟩
      have H14 : Hid (VyS w w14 b S g vE vB vC vyT) := H13.out.keep g14
      have HO14 : Hid (w14.rangeAt p12 15 (fec ⟨1, 2, 0, 3, 3⟩)) := rangeAt_keep HO13.out g14
      have C15 : Calls Tryz.prog 30 #[.pointer (some ⟨b2, 0, none⟩), .slice (some ⟨g, 0, none⟩) 4 4] w14 fun e w' => ∃ p m c, e = .returned (.tuple #[.slice p m c, .int .i64 2]) ∧ w14.grownBy w' none := by
        have I := VIn.of B14 (RecT.Own.at H14.out.th) ⟨_, _, rfl, Nat.le_refl _⟩
        rw [show refE plNew vyT.length = 2 from by kernel_rfl] at I
        exact (vof_any _ _ _ _ _ _ _ _ _ w14 I).mono fun e w' q => bh_err q (by rw [r_vk (by decide), vqE_no (by decide)])
      clear C14 B14 g14 H13 HO13
      go_wp2_with fail
      refine C15.mono ?_
      rintro e15 w15 ⟨p15, m15, c15, rfl, g15⟩
      have H15 : Hid (VyS w w15 b S g vE vB vC vyT) := H14.out.keep g15
      have HO15 : Hid (w15.rangeAt p12 15 (fec ⟨1, 2, 0, 3, 3⟩)) := rangeAt_keep HO14.out g15
      clear C15 g15 H14 HO14
      have C16 := copyTh_any (.slice (some ⟨g, 0, none⟩) 4 4) vyT w15 (RecT.Own.at H15.out.th) (by decide)
      go_wp2_with fail
      refine C16.mono ?_
      rintro e16 w16 ⟨v16, rfl, o16, g16⟩
      obtain ⟨g7, c16, e17, hg7, _⟩ := own_cell o16 (by decide)
      subst e17
      have H16 : Hid (VyS w w16 b S g vE vB vC vyT) := H15.out.keep g16
      have HO16 : Hid (w16.rangeAt p12 15 (fec ⟨1, 2, 0, 3, 3⟩)) := rangeAt_keep HO15.out g16
      have HC16 : Hid (thR.Own 60 w16 w15.heap.size (.slice (some ⟨g7, 0, none⟩) 4 c16) vyT) := o16
      have HN16 : Hid (g < g7 ∧ p12 < g7 ∧ b < g7 ∧ S ≤ g7) := by
        have h1 := H15.out.ge
        have h2 := cell_in (fe_cells HO15.out).1
        have h3 := H15.out.lie
        exact ⟨by omega, by omega, by omega, by omega⟩
      clear C16 o16 g16 hg7 H15 HO15
      have q0 : w16.cell? ⟨g7, 0, none⟩ = some (.int .i64 3) := World.ownsRow.cellAt HC16.out 0 (by decide)
      have qf := fun i => World.ownsRow.frozenAt HC16.out i
      obtain ⟨V17, hV17⟩ : ∃ V17, V17 = w16.setCell ⟨g7, 0, none⟩ (.int .i64 99) := ⟨_, rfl⟩
      have HS17 := own_setCells [.int .i64 99] _ 0 w16 HC16.out
      rw [show w16.setCells g7 0 [.int .i64 99] = V17 from by rw [hV17]; rfl] at HS17
      have H17 : Hid (VyS w V17 b S g vE vB vC vyT) := ⟨H16.out.bk.keepR HS17.2 (fun q => by cases q; exact Nat.lt_irrefl _ HN16.out.2.2.1) (fun x hx q => by cases q; have := hx.2; have := HN16.out.2.2.2; omega), own_far2 H16.out.th HS17.2 HN16.out.1, rfl, grown_own H16.out.gr HS17.2 (fun y e => by cases e; have := H16.out.lie; have := HN16.out.2.2.2; omega), H16.out.lie⟩
      have HO17 : Hid (V17.rangeAt p12 15 (fec ⟨1, 2, 0, 3, 3⟩)) := fun i u hu => HS17.2.cell (HO16.out i u hu) (fun q => by cases q; exact Nat.lt_irrefl _ HN16.out.2.1)
      have HC17 : Hid (thR.Own 60 V17 w15.heap.size (.slice (some ⟨g7, 0, none⟩) 4 c16) vzT) := HS17.1
      go_upto_region 26 with fail
      rw [← hV17]
      clear hV17 q0 qf HS17 H16 HO16 HC16 HN16
      have C18 : Calls Tryz.prog 30 #[.pointer (some ⟨b, 0, none⟩), .slice (some ⟨g7, 0, none⟩) 4 c16] V17 fun e w' => ∃ p m c, e = .returned (.tuple #[.slice p m c, .int .i64 2]) ∧ V17.grownBy w' none := by
        exact (vof_any _ _ _ _ _ _ _ _ _ V17 (VIn.of H17.out.bk (RecT.Own.at HC17.out) (own_cap HC17.out))).mono fun e w' q => bh_err q (by rw [vz_vk, vqE_no (by decide)])
      go_wp2_with fail
      refine C18.mono ?_
      rintro e18 w18 ⟨p18, m18, c18, rfl, g18⟩
      have H18 : Hid (VyS w w18 b S g vE vB vC vyT) := H17.out.keep g18
      have HO18 : Hid (w18.rangeAt p12 15 (fec ⟨1, 2, 0, 3, 3⟩)) := rangeAt_keep HO17.out g18
      clear C18 g18 H17 HO17 HC17
      obtain ⟨N, hN⟩ : ∃ N : Nat, N = 2049 := ⟨_, rfl⟩
      have HN : Hid (N = 2049) := hN
      have Hbb : Hid (iT.bytes * 2049 ≤ 281474976710656) := by show _ ≤ _; rw [HiT.out]; decide
      have Hbm : Hid (2049 ≤ maxLen) := by show _ ≤ _; unfold maxLen; decide
      clear hN
      go_wp2_with (first
        | (at_make; refine wpList_make_full _ rfl _ _ 26 rfl w18.heap.size 60 iT _ 11 Tryz.underlying26 hiT hT0 hT1 .i64 .i64 _ _ 2049 rfl rfl rfl rfl Hbb.out Hbm.out (Nat.le_refl _) ?_; intro V19 o19 g19; have HM19 : Hid (∃ n, n = 2049 ∧ thR.Own 60 V19 0 (.slice (some ⟨w18.heap.size, 0, none⟩) n n) (List.replicate n thZ)) := ⟨2049, rfl, own_big (made_ownT o19) (Nat.zero_le _)⟩; have HG19 : Hid (w18.grownBy V19 none) := g19; clear o19 g19)
        | (go_at_call 30; obtain ⟨n, hn, hM⟩ := HM19.out; rw [hn] at hM; have C20 := many_of H18.out HG19.out hM (by decide); refine C20.mono ?_; rintro e20 w20 ⟨p20, m20, c20, rfl, g20⟩; have HG20 : Hid (w.grownBy w20 none) := grown_trans H18.out.gr (grown_trans HG19.out g20); have HO20 : Hid (w20.rangeAt p12 15 (fec ⟨1, 2, 0, 3, 3⟩)) := rangeAt_keep HO18.out (grown_trans HG19.out g20); have f3 : w20.cell? ⟨p12, 18, none⟩ = some (.int .i64 3) := (fe_cells HO20.out).2.2.2.1; have f4 : w20.cell? ⟨p12, 19, none⟩ = some (.int .i64 3) := (fe_cells HO20.out).2.2.2.2; clear C20 g20 hn hM n))
      go_ret
      exact ⟨rfl, HG20.out⟩
end Go.Proofs.YtmemeloehgemcaaGreat
