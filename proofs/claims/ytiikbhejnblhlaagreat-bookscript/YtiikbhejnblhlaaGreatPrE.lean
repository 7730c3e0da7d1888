/-
  BookScript: pair.asked: At.
-/
import Derived.Test.YtiikbhejnblhlaaGreatPrA
namespace Go.Proofs.YtiikbhejnblhlaaGreat
open Go.RowKit

theorem over_nil (w : World) : Calls Tryz.prog 21 #[.slice none 0 0] w fun e w' => (∃ v, e = .returned v) ∧ w' = w := by
  go_enter Tryz.func21, Tryz.ntmps21
  go_wp2_with fail
  go_loopw [2] (fun i wr => i = .int .i64 0 ∧ wr = w) (fun _ _ => 0)
  case atStart => exact ⟨rfl, rfl⟩
  case round =>
    obtain ⟨rfl, rfl⟩ := hrel
    go_wp2
    go_end0
    exact ⟨⟨_, rfl⟩, rfl⟩
/-- What a call has made is written over. -/
theorem over_own (u : Value) (ps : List Pt) (base : Nat) (w : World) (h : POwn w base u ps) : Calls Tryz.prog 21 #[u] w fun e w' => (∃ v, e = .returned v) ∧ ∃ r, w.grownBy w' r ∧ ∀ k, r = some k → base ≤ k ∧ u.ownBlock = some k := by
  have h' := h
  obtain ⟨_, ⟨rfl, _⟩ | ⟨g, cap, cur, rfl, hb, hh, hn, hc, hz, _⟩⟩ := h'
  · refine (over_nil w).mono ?_
    rintro e w' ⟨h1, rfl⟩
    exact ⟨h1, none, grown_refl _ _, fun k e => by cases e⟩
  · refine (over_any g _ cap w (own_room h).1 hn hc).mono ?_
    rintro e w' ⟨h1, _, h2⟩
    exact ⟨h1, some g, h2, fun k e => by cases e; exact ⟨hb, rfl⟩⟩
theorem hp_at {es fs : List Ent} (h : es.map hp = fs.map hp) {m : Nat} {e : Ent} (he : es[m]? = some e) : ∃ f, fs[m]? = some f ∧ f.h = e.h ∧ f.ps = e.ps := by
  have h1 : (es.map hp)[m]? = some (hp e) := by rw [List.getElem?_map, he]; rfl
  rw [h, List.getElem?_map] at h1
  cases hf : fs[m]? with
  | none => rw [hf] at h1; cases h1
  | some f =>
    rw [hf] at h1
    injection h1 with h1
    injection h1 with h1 h2
    exact ⟨f, rfl, h1, h2⟩
theorem hp_in {es fs : List Ent} (h : es.map hp = fs.map hp) (p : Pl) (n : Int) : atIn p es n ↔ atIn p fs n := by
  unfold atIn
  rw [hp_len h]
set_option maxRecDepth 100000 in
set_option maxHeartbeats 8000000 in
theorem pfive_in (ok : Nat → Prop) (b r : Nat) (v : Value) (es fs : List Ent) (p : Pl) (a : Dn) (w : World) (P : Pr ok w b r v es fs p) (hk : a.kd = 5) (m : Nat) (e0 f0 : Ent) (hn : a.n = (m : Int) + 1) (hs : p.shut = true) (he : es[m]? = some e0) (hf : fs[m]? = some f0) (hh : f0.h = e0.h) (hps : f0.ps = e0.ps) : Calls Tryz.prog 17 #[.agg #[.pointer (some ⟨b, 0, none⟩), .pointer (some ⟨r, 0, none⟩)], .agg (dcs a)] w fun e w' => e = .returned (.bool true) ∧ w.grownBy w' none := by
  have HP : Hid (Pr ok w b r v es fs p) := P
  obtain ⟨kd, onn, hd, vv, tt, nm, mm, nn⟩ := a
  simp only at hk
  subst hk
  obtain ⟨W2, hW2⟩ : ∃ W2, W2 = (w.alloc (.cells #[.pointer (some ⟨b, 0, none⟩), .pointer (some ⟨r, 0, none⟩)] 28)).alloc (.cells (dcs ⟨5, onn, hd, vv, tt, nm, mm, nn⟩) 41) := ⟨_, rfl⟩
  have HG2 : Hid (w.grownBy W2 none) := by rw [hW2]; exact grown_push (World.grownBy_alloc _ _ none) _
  have HA2 : Hid (W2.heap[w.heap.size]? = some (.cells #[.pointer (some ⟨b, 0, none⟩), .pointer (some ⟨r, 0, none⟩)] 28 (0, 0))) := by rw [hW2]; exact grown_keep (World.grownBy_alloc _ _ none) (alloc_at w _ _) (by simp)
  have Z2 : W2.heap[w.heap.size + 1]? = some (.cells (dcs ⟨5, onn, hd, vv, tt, nm, mm, nn⟩) 41 (0, 0)) := by
    have := alloc_at (w.alloc (.cells #[.pointer (some ⟨b, 0, none⟩), .pointer (some ⟨r, 0, none⟩)] 28)) (dcs ⟨5, onn, hd, vv, tt, nm, mm, nn⟩) 41
    rw [World.size_alloc] at this
    rw [hW2]
    exact this
  have HZ2 : Hid (W2.heap[w.heap.size + 1]? = some (.cells (dcs ⟨5, onn, hd, vv, tt, nm, mm, nn⟩) 41 (0, 0))) := Z2
  have z0 : W2.cell? ⟨w.heap.size + 1, 0, none⟩ = some (.int .i64 5) := block_cell Z2 0
  have x0 : W2.cell? ⟨w.heap.size, 0, none⟩ = some (.pointer (some ⟨b, 0, none⟩)) := block_cell HA2.out 0
  have x1 : W2.cell? ⟨w.heap.size, 1, none⟩ = some (.pointer (some ⟨r, 0, none⟩)) := block_cell HA2.out 1
  clear Z2 P
  unfold dcs at hW2 ⊢
  simp only at hn
  subst hn
  have z17 : W2.cell? ⟨w.heap.size + 1, 17, none⟩ = some (.int .i64 ((m : Int) + 1)) := block_cell HZ2.out 17
  have h64 : fs.length ≤ 64 := by rw [← hp_len HP.out.same]; exact HP.out.book.lies.len
  have h4 : e0.ps.length ≤ 4 := HP.out.book.parts e0 (List.mem_of_getElem? he)
  have C1 := at_in ok b es p m e0 W2 (HP.out.keep HG2.out).book.lies (HP.out.keep HG2.out).book.good hs he h4
  have C2 := fun W (g : w.grownBy W none) => rat_in ok r v p fs m f0 W (HP.out.keep g).rj (HP.out.keep g).rl h64 (HP.out.keep g).good hs hf (by rw [hps]; exact h4)
  rw [hh, hps] at C2
  have HC2 : Hid (∀ W, w.grownBy W none → Calls Tryz.prog 46 #[.pointer (some ⟨r, 0, none⟩), .int .i64 ((m : Int) + 1)] W fun e w' => ∃ u, e = .returned (.tuple #[cv e0.h u, .int .i64 0]) ∧ POwn w' W.heap.size u e0.ps ∧ W.grownBy w' none) := C2
  have hsm : Small e0.ps.length := by unfold Small; omega
  clear C2 h64 h4 hs he hf hh hps
  obtain ⟨⟨n0, n1, n2, n3, n4, n5, n6, n7⟩, ev, eps⟩ := e0
  simp only at C1 HC2 hsm
  have HC1 : Hid (Calls Tryz.prog 45 #[.pointer (some ⟨b, 0, none⟩), .int .i64 ((m : Int) + 1)] W2 fun e w' => ∃ u, e = .returned (.tuple #[cv ⟨n0, n1, n2, n3, n4, n5, n6, n7⟩ u, .int .i64 0]) ∧ POwn w' W2.heap.size u eps ∧ W2.grownBy w' none) := C1
  clear C1
  go_enter Tryz.func17, Tryz.ntmps17
  go_upto_region 1 with fail
  rw [← hW2]
  clear hW2
  go_wp2_with fail
  refine HC1.out.mono ?_
  rintro e U1 ⟨u, rfl, O1, g1⟩
  obtain ⟨xa, ya, rfl⟩ : ∃ xa ya, u = .slice xa eps.length ya := O1.at.form
  obtain ⟨U2, hU2⟩ : ∃ U2, U2 = U1.alloc (.cells (ccs ⟨n0, n1, n2, n3, n4, n5, n6, n7⟩ (.slice xa eps.length ya)) 36) := ⟨_, rfl⟩
  have G2 : W2.grownBy U2 none := by rw [hU2]; exact grown_push g1 _
  have HO2 : Hid (POwn U2 W2.heap.size (.slice xa eps.length ya) eps) := by rw [hU2]; exact POwn.keep O1 (World.grownBy_alloc _ _ none) (by simp)
  have HK2 : Hid (CAt U2 U1.heap.size ⟨n0, n1, n2, n3, n4, n5, n6, n7⟩ (.slice xa eps.length ya)) := by rw [hU2]; exact alloc_at _ _ _
  have HGu2 : Hid (W2.grownBy U2 none) := G2
  have x1' := G2.cell x1 (by simp)
  have z17' := G2.cell z17 (by simp)
  clear HC1 O1 g1 G2 z0 x0 x1 z17
  unfold cv
  unfold ccs at hU2
  go_upto_region 8 with fail
  rw [← hU2]
  clear hU2
  go_wp2_with fail
  refine (HC2.out U2 (grown_trans HG2.out HGu2.out)).mono ?_
  rintro e U3 ⟨u', rfl, O3, g3⟩
  obtain ⟨xb, yb, rfl⟩ : ∃ xb yb, u' = .slice xb eps.length yb := O3.at.form
  obtain ⟨U4, hU4⟩ : ∃ U4, U4 = U3.alloc (.cells (ccs ⟨n0, n1, n2, n3, n4, n5, n6, n7⟩ (.slice xb eps.length yb)) 36) := ⟨_, rfl⟩
  have G4 : U2.grownBy U4 none := by rw [hU4]; exact grown_push g3 _
  have P4 : PsAt U4 (.slice xb eps.length yb) eps := by rw [hU4]; exact O3.at.keep (World.grownBy_alloc _ _ none)
  have K4 : CAt U4 U3.heap.size ⟨n0, n1, n2, n3, n4, n5, n6, n7⟩ (.slice xb eps.length yb) := by rw [hU4]; exact alloc_at _ _ _
  have HO4 : Hid (POwn U4 W2.heap.size (.slice xa eps.length ya) eps) := HO2.out.keep G4 (by simp)
  have HKc : Hid (CAt U4 U1.heap.size ⟨n0, n1, n2, n3, n4, n5, n6, n7⟩ (.slice xa eps.length ya)) := HK2.out.keep G4
  have HSC := sameCard_any ⟨n0, n1, n2, n3, n4, n5, n6, n7⟩ ⟨n0, n1, n2, n3, n4, n5, n6, n7⟩ _ _ eps eps U4 HO4.out.at P4 hsm
  rw [sameHd_refl, samePs_refl] at HSC
  have HG4 : Hid (W2.grownBy U4 none) := grown_trans HGu2.out G4
  obtain ⟨a0, a1, a2, a3, a4, a5, a6, a7, a8⟩ := HKc.out.cells
  obtain ⟨b0, b1, b2, b3, b4, b5, b6, b7, b8⟩ := K4.cells
  simp only at a0 a1 a2 a3 a4 a5 a6 a7 a8 b0 b1 b2 b3 b4 b5 b6 b7 b8
  unfold cv at HSC
  simp only at HSC
  clear O3 g3 G4 P4 K4 x1' z17' HC2 HO2 HK2 HGu2
  unfold cv
  unfold ccs at hU4
  go_upto_region 9 with fail
  rw [← hU4]
  clear hU4
  go_wp2_with fail
  refine HSC.mono ?_
  rintro e U5 ⟨rfl, g5⟩
  have HG5 : Hid (W2.grownBy U5 none) := grown_trans HG4.out g5
  have OV := over_own _ eps W2.heap.size U5 (HO4.out.keep g5 (by simp))
  have c8 := (HKc.out.keep g5).cells.2.2.2.2.2.2.2.2
  clear g5 HSC a0 a1 a2 a3 a4 a5 a6 a7 a8 b0 b1 b2 b3 b4 b5 b6 b7 b8 HG4 HKc HO4
  go_wp2_with fail
  refine OV.mono ?_
  rintro e U6 ⟨⟨vv, rfl⟩, rr, g6, h6⟩
  have HF : Hid (w.grownBy U6 none) := grown_trans HG2.out (grown_own HG5.out g6 (fun k hk => (h6 k hk).1))
  clear OV g6 h6 c8
  go_wp2
  go_ret
  exact ⟨rfl, HF.out⟩
set_option maxRecDepth 100000 in
set_option maxHeartbeats 8000000 in
theorem pfive_out (ok : Nat → Prop) (b r : Nat) (v : Value) (es fs : List Ent) (p : Pl) (a : Dn) (w : World) (P : Pr ok w b r v es fs p) (hk : a.kd = 5) (hn : ¬ atIn p es a.n) : Calls Tryz.prog 17 #[.agg #[.pointer (some ⟨b, 0, none⟩), .pointer (some ⟨r, 0, none⟩)], .agg (dcs a)] w fun e w' => e = .returned (.bool true) ∧ w.grownBy w' none := by
  have HP : Hid (Pr ok w b r v es fs p) := P
  obtain ⟨kd, onn, hh, vv, tt, nm, mm, nn⟩ := a
  simp only at hk
  subst hk
  obtain ⟨W2, hW2⟩ : ∃ W2, W2 = (w.alloc (.cells #[.pointer (some ⟨b, 0, none⟩), .pointer (some ⟨r, 0, none⟩)] 28)).alloc (.cells (dcs ⟨5, onn, hh, vv, tt, nm, mm, nn⟩) 41) := ⟨_, rfl⟩
  have HG2 : Hid (w.grownBy W2 none) := by rw [hW2]; exact grown_push (World.grownBy_alloc _ _ none) _
  have HA2 : Hid (W2.heap[w.heap.size]? = some (.cells #[.pointer (some ⟨b, 0, none⟩), .pointer (some ⟨r, 0, none⟩)] 28 (0, 0))) := by rw [hW2]; exact grown_keep (World.grownBy_alloc _ _ none) (alloc_at w _ _) (by simp)
  have Z2 : W2.heap[w.heap.size + 1]? = some (.cells (dcs ⟨5, onn, hh, vv, tt, nm, mm, nn⟩) 41 (0, 0)) := by
    have := alloc_at (w.alloc (.cells #[.pointer (some ⟨b, 0, none⟩), .pointer (some ⟨r, 0, none⟩)] 28)) (dcs ⟨5, onn, hh, vv, tt, nm, mm, nn⟩) 41
    rw [World.size_alloc] at this
    rw [hW2]
    exact this
  have HZ2 : Hid (W2.heap[w.heap.size + 1]? = some (.cells (dcs ⟨5, onn, hh, vv, tt, nm, mm, nn⟩) 41 (0, 0))) := Z2
  have z0 : W2.cell? ⟨w.heap.size + 1, 0, none⟩ = some (.int .i64 5) := block_cell Z2 0
  have x0 : W2.cell? ⟨w.heap.size, 0, none⟩ = some (.pointer (some ⟨b, 0, none⟩)) := block_cell HA2.out 0
  have x1 : W2.cell? ⟨w.heap.size, 1, none⟩ = some (.pointer (some ⟨r, 0, none⟩)) := block_cell HA2.out 1
  clear Z2 P
  unfold dcs at hW2 ⊢
  simp only at hn
  have z17 : W2.cell? ⟨w.heap.size + 1, 17, none⟩ = some (.int .i64 nn) := block_cell HZ2.out 17
  have HC1 : Hid (Calls Tryz.prog 45 #[.pointer (some ⟨b, 0, none⟩), .int .i64 nn] W2 fun e w' => ∃ u, e = .returned (.tuple #[cv Hd.none u, .int .i64 6]) ∧ POwn w' W2.heap.size u [] ∧ W2.grownBy w' none) := (at_out b es p nn W2 (HP.out.keep HG2.out).book.lies hn).mono fun e w' h => ⟨_, h.1, ⟨rfl, Or.inl ⟨rfl, rfl⟩⟩, h.2⟩
  have HC2 : Hid (∀ W, w.grownBy W none → Calls Tryz.prog 46 #[.pointer (some ⟨r, 0, none⟩), .int .i64 nn] W fun e w' => ∃ u, e = .returned (.tuple #[cv Hd.none u, .int .i64 6]) ∧ POwn w' W.heap.size u [] ∧ W.grownBy w' none) := fun W g => (rat_out r v p fs nn W (HP.out.keep g).rj (HP.out.keep g).rl (fun h => hn ((hp_in HP.out.same p nn).2 h))).mono fun e w' h => ⟨_, h.1, ⟨rfl, Or.inl ⟨rfl, rfl⟩⟩, h.2⟩
  have hsm : Small ([] : List Pt).length := by unfold Small; decide
  clear hn
  go_enter Tryz.func17, Tryz.ntmps17
  go_upto_region 1 with fail
  rw [← hW2]
  clear hW2
  go_wp2_with fail
  refine HC1.out.mono ?_
  rintro e U1 ⟨u, rfl, O1, g1⟩
  obtain ⟨xa, ya, rfl⟩ : ∃ xa ya, u = .slice xa 0 ya := O1.at.form
  obtain ⟨U2, hU2⟩ : ∃ U2, U2 = U1.alloc (.cells (ccs Hd.none (.slice xa 0 ya)) 36) := ⟨_, rfl⟩
  have G2 : W2.grownBy U2 none := by rw [hU2]; exact grown_push g1 _
  have HO2 : Hid (POwn U2 W2.heap.size (.slice xa 0 ya) []) := by rw [hU2]; exact POwn.keep O1 (World.grownBy_alloc _ _ none) (by simp)
  have HK2 : Hid (CAt U2 U1.heap.size Hd.none (.slice xa 0 ya)) := by rw [hU2]; exact alloc_at _ _ _
  have HGu2 : Hid (W2.grownBy U2 none) := G2
  have x1' := G2.cell x1 (by simp)
  have z17' := G2.cell z17 (by simp)
  clear HC1 O1 g1 G2 z0 x0 x1 z17
  unfold cv Hd.none
  unfold ccs Hd.none at hU2
  go_upto_region 8 with fail
  rw [← hU2]
  clear hU2
  go_wp2_with fail
  refine (HC2.out U2 (grown_trans HG2.out HGu2.out)).mono ?_
  rintro e U3 ⟨u', rfl, O3, g3⟩
  obtain ⟨xb, yb, rfl⟩ : ∃ xb yb, u' = .slice xb 0 yb := O3.at.form
  obtain ⟨U4, hU4⟩ : ∃ U4, U4 = U3.alloc (.cells (ccs Hd.none (.slice xb 0 yb)) 36) := ⟨_, rfl⟩
  have G4 : U2.grownBy U4 none := by rw [hU4]; exact grown_push g3 _
  have P4 : PsAt U4 (.slice xb 0 yb) [] := by rw [hU4]; exact O3.at.keep (World.grownBy_alloc _ _ none)
  have K4 : CAt U4 U3.heap.size Hd.none (.slice xb 0 yb) := by rw [hU4]; exact alloc_at _ _ _
  have HO4 : Hid (POwn U4 W2.heap.size (.slice xa 0 ya) []) := HO2.out.keep G4 (by simp)
  have HKc : Hid (CAt U4 U1.heap.size Hd.none (.slice xa 0 ya)) := HK2.out.keep G4
  have HSC := sameCard_any Hd.none Hd.none _ _ [] [] U4 HO4.out.at P4 hsm
  rw [sameHd_refl, samePs_refl] at HSC
  have HG4 : Hid (W2.grownBy U4 none) := grown_trans HGu2.out G4
  obtain ⟨a0, a1, a2, a3, a4, a5, a6, a7, a8⟩ := HKc.out.cells
  obtain ⟨b0, b1, b2, b3, b4, b5, b6, b7, b8⟩ := K4.cells
  simp only [Hd.none] at a0 a1 a2 a3 a4 a5 a6 a7 a8 b0 b1 b2 b3 b4 b5 b6 b7 b8
  unfold cv Hd.none at HSC
  simp only at HSC
  clear O3 g3 G4 P4 K4 x1' z17' HC2 HO2 HK2 HGu2
  unfold cv Hd.none
  unfold ccs Hd.none at hU4
  go_upto_region 9 with fail
  rw [← hU4]
  clear hU4
  go_wp2_with fail
  refine HSC.mono ?_
  rintro e U5 ⟨rfl, g5⟩
  have HG5 : Hid (W2.grownBy U5 none) := grown_trans HG4.out g5
  have OV := over_own _ [] W2.heap.size U5 (HO4.out.keep g5 (by simp))
  have c8 := (HKc.out.keep g5).cells.2.2.2.2.2.2.2.2
  clear g5 HSC a0 a1 a2 a3 a4 a5 a6 a7 a8 b0 b1 b2 b3 b4 b5 b6 b7 b8 HG4 HKc HO4
  go_wp2_with fail
  refine OV.mono ?_
  rintro e U6 ⟨⟨vv, rfl⟩, rr, g6, h6⟩
  have HF : Hid (w.grownBy U6 none) := grown_trans HG2.out (grown_own HG5.out g6 (fun k hk => (h6 k hk).1))
  clear OV g6 h6 c8
  go_wp2
  go_ret
  exact ⟨rfl, HF.out⟩
theorem pfive_any (ok : Nat → Prop) (b r : Nat) (v : Value) (es fs : List Ent) (p : Pl) (a : Dn) (w : World) (P : Pr ok w b r v es fs p) (hk : a.kd = 5) : Calls Tryz.prog 17 #[.agg #[.pointer (some ⟨b, 0, none⟩), .pointer (some ⟨r, 0, none⟩)], .agg (dcs a)] w fun e w' => e = .returned (.bool true) ∧ w.grownBy w' none := by
  by_cases hn : atIn p es a.n
  · obtain ⟨hs, h1, h2⟩ := hn
    obtain ⟨m, hm⟩ : ∃ m : Nat, a.n = (m : Int) + 1 := ⟨(a.n - 1).toNat, by omega⟩
    obtain ⟨e0, he⟩ : ∃ e, es[m]? = some e := ⟨_, List.getElem?_eq_getElem (by omega)⟩
    obtain ⟨f0, hf, h3, h4⟩ := hp_at P.same he
    exact pfive_in ok b r v es fs p a w P hk m e0 f0 hm hs he hf h3 h4
  · exact pfive_out ok b r v es fs p a w P hk hn
end Go.Proofs.YtiikbhejnblhlaaGreat
