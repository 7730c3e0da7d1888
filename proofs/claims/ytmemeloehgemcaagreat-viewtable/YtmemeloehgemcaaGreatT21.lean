/-
  The document's own book: Mark.
  The document's own book: Seal.
-/
import Derived.Test.YtmemeloehgemcaaGreatT13
namespace Go.Proofs.YtmemeloehgemcaaGreat
open Go.RowKit

theorem RJ.setTail {w : World} {b : Nat} {v : Value} {p : Pl} {cs : List Value} (f2 : p.nms.length = 9) (h : w.heap[b]? = some (.cells (Value.bool true :: .bool p.shut :: v :: (p.nms.map Value.string ++ cs)).toArray 159 (0, 0))) (i : Nat) (u : Value) : (w.setCell ⟨b, 12 + i, none⟩ u).heap[b]? = some (.cells (Value.bool true :: .bool p.shut :: v :: (p.nms.map Value.string ++ cs.set i u)).toArray 159 (0, 0)) := by
  rw [block_set h]
  congr 2
  rw [List.setIfInBounds_toArray]
  congr 1
  rw [show 12 + i = 9 + i + 1 + 1 + 1 by omega]
  simp only [List.set_cons_succ]
  rw [List.set_append_right _ _ (by simp [f2]), List.length_map, f2, show 9 + i - 9 = i by omega]
theorem RJ.setM {w : World} {b : Nat} {v : Value} {p : Pl} (h : RJ w b v p) {n : Nat} (hn : n < 5) (m : Mk) : RJ (st4 w b (12 + n * 4) m) b v { p with mks := p.mks.set n m } := by
  refine ⟨?_, h.nine, by simpa using h.five⟩
  have e := RJ.setTail h.nine (RJ.setTail h.nine (RJ.setTail h.nine (RJ.setTail h.nine (cs := mcells p.mks) h.lies (n * 4) (.int .u8 m.mi)) (n * 4 + 1) (.string m.nm)) (n * 4 + 2) (.int .i64 m.po)) (n * 4 + 3) (.int .i64 m.he)
  rw [mcells_set _ _ _ (by rw [h.five]; exact hn)] at e
  exact e
def NoM (p : Pl) (t : Nat) (s : ByteArray) (i : Nat) : Prop := ∀ (j : Nat) x, 1 ≤ j → j < i → p.mks[j]? = some x → ¬ x.nm = s ∧ (j = t → x.nm = ⟨#[]⟩)
theorem NoM.next {p : Pl} {t i : Nat} {s : ByteArray} {x : Mk} (h : NoM p t s i) (hx : p.mks[i]? = some x) (h1 : ¬ x.nm = s) (h2 : i = t → x.nm = ⟨#[]⟩) : NoM p t s (i + 1) := fun j y hj1 hj hy => by
  rcases (show j < i ∨ j = i from by omega) with hji | rfl
  · exact h j y hj1 hji hy
  · rw [hx] at hy
    obtain rfl := Option.some.inj hy
    exact ⟨h1, h2⟩
theorem maE_eq {p : Pl} {t : Nat} {s : ByteArray} {po he : Int} (hs : p.shut = false) (h1 : 1 ≤ t ∧ t ≤ 4 ∧ fF po = true ∧ fF he = true) (hn : nameOk s.data.toList = true) : maE p ⟨(t : Int), s, po, he⟩ = if ¬ (p.mks.getD t Mk.none).nm = ⟨#[]⟩ ∨ 0 ≤ pos (mnames p.mks) s then 5 else 0 := by
  unfold maE
  rw [if_neg (by simp [hs]), if_neg ?_, if_neg (by simp [hn])]
  · rfl
  · rintro (h | h | h | h)
    · have h' : (t : Int) < 1 := h
      omega
    · have h' : (4 : Int) < (t : Int) := h
      omega
    · rw [show fF po = false from h] at h1
      cases h1.2.2.1
    · rw [show fF he = false from h] at h1
      cases h1.2.2.2
theorem maE_hit {p : Pl} {t i : Nat} {s : ByteArray} {po he : Int} {x : Mk} (hs : p.shut = false) (h1 : 1 ≤ t ∧ t ≤ 4 ∧ fF po = true ∧ fF he = true) (hn : nameOk s.data.toList = true) (hx : p.mks[i]? = some x) (h : x.nm = s ∨ (i = t ∧ ¬ x.nm = ⟨#[]⟩)) : maE p ⟨(t : Int), s, po, he⟩ = 5 := by
  rw [maE_eq hs h1 hn, if_pos ?_]
  rcases h with rfl | ⟨rfl, h⟩
  · right
    apply Classical.byContradiction
    intro hc
    exact pos_no (Int.not_le.1 hc) (List.mem_of_getElem? (mnames_at hx))
  · left
    rw [List.getD_eq_getElem?_getD, hx]
    exact h
theorem maE_free {p : Pl} {t : Nat} {s : ByteArray} {po he : Int} (hs : p.shut = false) (h1 : 1 ≤ t ∧ t ≤ 4 ∧ fF po = true ∧ fF he = true) (hn : nameOk s.data.toList = true) (h5 : p.mks.length = 5) (hz : p.mks[0]? = some Mk.none) (h : NoM p t s 5) : maE p ⟨(t : Int), s, po, he⟩ = 0 := by
  rw [maE_eq hs h1 hn, if_neg ?_]
  rintro (h2 | h2)
  · obtain ⟨x, hx⟩ : ∃ x, p.mks[t]? = some x := ⟨_, List.getElem?_eq_getElem (by omega)⟩
    rw [List.getD_eq_getElem?_getD, hx] at h2
    exact h2 ((h t x h1.1 (by omega) hx).2 rfl)
  · have hm := pos_yes _ _ h2
    unfold mnames at hm
    rw [List.getElem?_map] at hm
    obtain ⟨x, hx, hxs⟩ := Option.map_eq_some_iff.1 hm
    have hl := (List.getElem?_eq_some_iff.1 hx).1
    by_cases h0 : (pos (mnames p.mks) s).toNat = 0
    · unfold mnames at h0
      rw [h0, hz] at hx
      obtain rfl := Option.some.inj hx
      rw [← hxs] at hn
      rw [show (Mk.none).nm = (⟨#[]⟩ : ByteArray) from rfl, empty_name] at hn
      cases hn
    · unfold mnames at h0
      exact (h _ x (by omega) (by omega) hx).1 hxs
theorem maP_mkd {p : Pl} (h : MkD p) (m : Mk) : MkD (maP p m) := by
  unfold maP
  by_cases h0 : maE p m = 0
  · rw [if_pos h0]
    have hm : 1 ≤ m.mi ∧ ¬ m.nm = ⟨#[]⟩ := by
      unfold maE at h0
      split at h0
      · omega
      · split at h0
        · omega
        · rename_i hr
          split at h0
          · omega
          · rename_i hn
            refine ⟨by omega, fun e => hn ?_⟩
            rw [e]
            rfl
    refine ⟨?_, fun x hx => ?_⟩
    · show (p.mks.set m.mi.toNat m)[0]? = _
      rw [List.getElem?_set_ne (by omega)]
      exact h.1
    · rcases List.mem_or_eq_of_mem_set hx with hx | rfl
      · exact h.2 x hx
      · exact Or.inr ⟨by omega, hm.2⟩
  · rw [if_neg h0]; exact h
set_option maxRecDepth 100000 in
set_option maxHeartbeats 8000000 in
theorem rmark_any (b : Nat) (v : Value) (p : Pl) (m : Mk) (w : World) (R : RJ w b v p) (h0 : 0 ≤ m.mi ∧ m.mi ≤ 255) (hD : MkD p) : Calls Tryz.prog 45 #[.pointer (some ⟨b, 0, none⟩), mv m] w fun e w' => e = .returned (.int .i64 (maE p m)) ∧ RJ w' b v (maP p m) ∧ w.grownBy w' (some b) := by
  obtain ⟨mi, nm, po, he⟩ := m
  obtain ⟨W1, hW1⟩ : ∃ W1, W1 = w.alloc (.cells #[.int .u8 mi, .string nm, .int .i64 po, .int .i64 he] 92) := ⟨_, rfl⟩
  have HG1 : Hid (w.grownBy W1 none) := by rw [hW1]; exact World.grownBy_alloc _ _ none
  have A : W1.heap[w.heap.size]? = some (.cells #[.int .u8 mi, .string nm, .int .i64 po, .int .i64 he] 92 (0, 0)) := by rw [hW1]; exact alloc_at w _ _
  have HA : Hid (W1.heap[w.heap.size]? = some (.cells #[.int .u8 mi, .string nm, .int .i64 po, .int .i64 he] 92 (0, 0))) := A
  have HR : Hid (RJ W1 b v p) := R.keep HG1.out
  have HD : Hid (MkD p) := hD
  have a0 := block_cell A 0
  have a1 := block_cell A 1
  have a2 := block_cell A 2
  have a3 := block_cell A 3
  have af := fun i => block_free A i
  have HE : Hid (w.grownBy W1 (some b)) := grown_own' HG1.out (grown_refl _ _)
  have c1 := HR.out.shut
  clear A R hD
  unfold mv
  cases hs : p.shut with
  | true =>
    rw [hs] at c1
    have e1 : maE p ⟨mi, nm, po, he⟩ = 7 := if_pos hs
    have e2 : maP p ⟨mi, nm, po, he⟩ = p := if_neg (by rw [e1]; decide)
    rw [e1, e2]
    clear e1 e2 hs
    go_enter Tryz.func45, Tryz.ntmps45
    go_upto_region 1 with fail
    rw [← hW1]
    clear hW1
    go_wp2_with fail
    refine (rnone_any b _ p W1 HR.out).mono ?_
    rintro e w1 ⟨rfl, h1⟩
    obtain rfl : W1 = w1 := h1.symm
    go_wp2
    go_ret
    exact ⟨rfl, HR.out, HE.out⟩
  | false =>
    rw [hs] at c1
    by_cases ht : mi < 1 ∨ 4 < mi ∨ fF po = false ∨ fF he = false
    · have e1 : maE p ⟨mi, nm, po, he⟩ = 2 := by unfold maE; rw [if_neg (by simp [hs]), if_pos ht]
      have e2 : maP p ⟨mi, nm, po, he⟩ = p := if_neg (by rw [e1]; decide)
      rw [e1, e2]
      clear e1 e2 hs
      rcases (show mi < 1 ∨ (¬ mi < 1 ∧ 4 < mi) ∨ (¬ mi < 1 ∧ ¬ 4 < mi ∧ po < -9) ∨ (¬ mi < 1 ∧ ¬ 4 < mi ∧ ¬ po < -9 ∧ 9 < po) ∨ (¬ mi < 1 ∧ ¬ 4 < mi ∧ ¬ po < -9 ∧ ¬ 9 < po ∧ he < -9) ∨ (¬ mi < 1 ∧ ¬ 4 < mi ∧ ¬ po < -9 ∧ ¬ 9 < po ∧ ¬ he < -9 ∧ 9 < he) by
        unfold fF at ht
        simp only [Bool.and_eq_false_iff, decide_eq_false_iff_not] at ht
        omega) with h | ⟨k1, h⟩ | ⟨k1, k2, h⟩ | ⟨k1, k2, k3, h⟩ | ⟨k1, k2, k3, k4, h⟩ | ⟨k1, k2, k3, k4, k5, h⟩
      all_goals
        clear ht h0
        go_enter Tryz.func45, Tryz.ntmps45
        go_upto_region 1 with fail
        rw [← hW1]
        clear hW1
        go_wp2_with fail
        refine (rnone_any b _ p W1 HR.out).mono ?_
        rintro e w1 ⟨rfl, h1⟩
        obtain rfl : W1 = w1 := h1.symm
        go_wp2
        go_ret
        exact ⟨rfl, HR.out, HE.out⟩
    · obtain ⟨k1, k2, k3, k4, k5, k6⟩ : ¬ mi < 1 ∧ ¬ 4 < mi ∧ ¬ po < -9 ∧ ¬ 9 < po ∧ ¬ he < -9 ∧ ¬ 9 < he := by
        unfold fF at ht
        simp only [Bool.and_eq_false_iff, decide_eq_false_iff_not] at ht
        omega
      have f1 : fF po = true := by unfold fF; simp; omega
      have f2 : fF he = true := by unfold fF; simp; omega
      cases hn : nameOk nm.data.toList with
      | false =>
        have e1 : maE p ⟨mi, nm, po, he⟩ = 4 := by unfold maE; rw [if_neg (by simp [hs]), if_neg ht, if_pos hn]
        have e2 : maP p ⟨mi, nm, po, he⟩ = p := if_neg (by rw [e1]; decide)
        have HN := r7name_any nm W1
        rw [hn] at HN
        rw [e1, e2]
        clear e1 e2 hs hn ht f1 f2 h0
        go_enter Tryz.func45, Tryz.ntmps45
        go_upto_region 1 with fail
        rw [← hW1]
        clear hW1
        go_wp2_with fail
        refine (rnone_any b _ p W1 HR.out).mono ?_
        rintro e w1 ⟨rfl, h1⟩
        obtain rfl : W1 = w1 := h1.symm
        go_wp2_with fail
        refine HN.mono ?_
        rintro e w1 ⟨rfl, h1⟩
        obtain rfl : W1 = w1 := h1.symm
        go_wp2
        go_ret
        exact ⟨rfl, HR.out, HE.out⟩
      | true =>
        have HN := r7name_any nm W1
        rw [hn] at HN
        obtain ⟨n, rfl⟩ := Int.eq_ofNat_of_zero_le h0.1
        have HNm : Hid (nameOk nm.data.toList = true) := hn
        have HSh : Hid (p.shut = false) := hs
        have HT : Hid (1 ≤ n ∧ n ≤ 4 ∧ fF po = true ∧ fF he = true) := ⟨by omega, by omega, f1, f2⟩
        have s5 : Small 5 := by unfold Small; decide
        clear hs hn ht f1 f2 h0
        go_enter Tryz.func45, Tryz.ntmps45
        go_upto_region 1 with fail
        rw [← hW1]
        clear hW1
        go_wp2_with fail
        refine (rnone_any b _ p W1 HR.out).mono ?_
        rintro e w1 ⟨rfl, h1⟩
        obtain rfl : W1 = w1 := h1.symm
        go_wp2_with fail
        refine HN.mono ?_
        rintro e w1 ⟨rfl, h1⟩
        obtain rfl : W1 = w1 := h1.symm
        clear HN k1 k2 k3 k4 k5 k6
        go_wp2_with fail
        go_loopw [5] (fun x5 wr => W1.grownBy wr none ∧ ∃ i : Nat, 1 ≤ i ∧ i ≤ 5 ∧ x5 = .int .i64 (i : Int) ∧ NoM p n nm i) (fun x5 _ => 5 - (intOf x5).toNat)
        case atStart => exact ⟨grown_refl _ _, 1, Nat.le_refl _, by decide, rfl, fun j x h1 h2 => absurd h2 (by omega)⟩
        case round =>
          obtain ⟨gr, i, hi1, hi5, rfl, hN⟩ := hrel
          have HNo : Hid (NoM p n nm i) := hN
          have HGr : Hid (W1.grownBy wr none) := gr
          have HRr : Hid (RJ wr b v p) := HR.out.keep gr
          have A2 := grown_keep gr HA.out (by simp)
          have HA2 : Hid (wr.heap[w.heap.size]? = some (.cells #[.int .u8 (n : Int), .string nm, .int .i64 po, .int .i64 he] 92 (0, 0))) := A2
          clear hN gr a0 a1 a2 a3 af c1
          have a0 := block_cell A2 0
          have a1 := block_cell A2 1
          have a2 := block_cell A2 2
          have a3 := block_cell A2 3
          clear A2
          rcases (show i < 5 ∨ i = 5 from by omega) with hil | hie
          · have i0 : (0 : Int) ≤ (i : Int) := by omega
            have i4 : (i : Int) ≤ 4 := by omega
            have i5 : (i : Int) < 5 := by omega
            have im : (i : Int) % 256 = (i : Int) := by omega
            obtain ⟨x, hx⟩ : ∃ x, p.mks[i]? = some x := ⟨_, List.getElem?_eq_getElem (by rw [HR.out.five]; exact hil)⟩
            obtain ⟨d0, d1, d2, d3⟩ := HRr.out.mark hx
            have hd := HD.out.2 x (List.mem_of_getElem? hx)
            have hz : x.mi = 0 ↔ x.nm = ⟨#[]⟩ := by
              rcases hd with h | h
              · rw [h]; exact ⟨fun _ => rfl, fun _ => rfl⟩
              · exact ⟨fun e => absurd e h.1, fun e => absurd e h.2⟩
            clear hd d2 d3
            by_cases hxs : x.nm = nm
            · have q1 := bytes_yes hxs
              have e1 : Hid (maE p ⟨(n : Int), nm, po, he⟩ = 5) := maE_hit HSh.out HT.out HNm.out hx (Or.inl hxs)
              have e2 : Hid (maP p ⟨(n : Int), nm, po, he⟩ = p) := if_neg (by rw [e1.out]; decide)
              by_cases hit : i = n
              · have q2 : ((i : Int) == (n : Int)) = true := by simp [hit]
                by_cases hx0 : x.mi = 0
                · have q3 : (x.mi != 0) = false := by simp [hx0]
                  clear hx hit hxs hz hx0
                  go_wp2_with fail
                  go_quiet (fail)
                  go_wp2
                  go_ret
                  exact ⟨ret_int e1.out.symm, by rw [e2.out]; exact HRr.out.keep (grown_drewN _ _ none), grown_own' (grown_trans HG1.out HGr.out) (grown_drewN _ _ _)⟩
                · have q3 : (x.mi != 0) = true := by simpa using hx0
                  clear hx hit hxs hz hx0
                  go_wp2_with fail
                  go_quiet (fail)
                  go_wp2
                  go_ret
                  exact ⟨ret_int e1.out.symm, by rw [e2.out]; exact HRr.out.keep (grown_drewN _ _ none), grown_own' (grown_trans HG1.out HGr.out) (grown_drewN _ _ _)⟩
              · have q2 : ((i : Int) == (n : Int)) = false := by simpa using (show ¬ (i : Int) = (n : Int) by omega)
                clear hx hit hxs hz
                go_wp2_with fail
                go_quiet (fail)
                go_wp2
                go_ret
                exact ⟨ret_int e1.out.symm, by rw [e2.out]; exact HRr.out.keep (grown_drewN _ _ none), grown_own' (grown_trans HG1.out HGr.out) (grown_drewN _ _ _)⟩
            · have q1 := bytes_no hxs
              by_cases hit : i = n
              · have q2 : ((i : Int) == (n : Int)) = true := by simp [hit]
                by_cases hx0 : x.mi = 0
                · have q3 : (x.mi != 0) = false := by simp [hx0]
                  have HN2 : Hid (NoM p n nm (i + 1)) := HNo.out.next hx hxs (fun _ => hz.1 hx0)
                  clear hx hit hxs hz hx0 hi1 hi5
                  go_wp2_with fail
                  go_quiet (fail)
                  go_wp2_with fail
                  go_roundw
                  case rel => exact ⟨grown_trans HGr.out (grown_drewN _ _ none), i + 1, by omega, hil, by first | rfl | (rw [s5.wrap hil]; rfl), HN2.out⟩
                  case measure => first | exact meas_next hil | (rw [s5.wrap hil]; exact meas_next hil)
                · have q3 : (x.mi != 0) = true := by simpa using hx0
                  have e1 : Hid (maE p ⟨(n : Int), nm, po, he⟩ = 5) := maE_hit HSh.out HT.out HNm.out hx (Or.inr ⟨hit, fun e => hx0 (hz.2 e)⟩)
                  have e2 : Hid (maP p ⟨(n : Int), nm, po, he⟩ = p) := if_neg (by rw [e1.out]; decide)
                  clear hx hit hxs hz hx0
                  go_wp2_with fail
                  go_quiet (fail)
                  go_wp2
                  go_ret
                  exact ⟨ret_int e1.out.symm, by rw [e2.out]; exact HRr.out.keep (grown_drewN _ _ none), grown_own' (grown_trans HG1.out HGr.out) (grown_drewN _ _ _)⟩
              · have q2 : ((i : Int) == (n : Int)) = false := by simpa using (show ¬ (i : Int) = (n : Int) by omega)
                have HN2 : Hid (NoM p n nm (i + 1)) := HNo.out.next hx hxs (fun e => absurd e hit)
                clear hx hit hxs hz hi1 hi5
                go_wp2_with fail
                go_quiet (fail)
                go_wp2_with fail
                go_roundw
                case rel => exact ⟨grown_trans HGr.out (grown_drewN _ _ none), i + 1, by omega, hil, by first | rfl | (rw [s5.wrap hil]; rfl), HN2.out⟩
                case measure => first | exact meas_next hil | (rw [s5.wrap hil]; exact meas_next hil)
          · have i4 : ¬ (i : Int) ≤ 4 := by omega
            have e1 : Hid (maE p ⟨(n : Int), nm, po, he⟩ = 0) := maE_free HSh.out HT.out HNm.out HR.out.five HD.out.1 (by rw [← hie]; exact HNo.out)
            have e2 : Hid (maP p ⟨(n : Int), nm, po, he⟩ = { p with mks := p.mks.set n ⟨(n : Int), nm, po, he⟩ }) := by
              show maP p ⟨(n : Int), nm, po, he⟩ = _
              unfold maP
              rw [if_pos e1.out]
              rfl
            have n5 : n < 5 := by have := HT.out.2.1; omega
            obtain ⟨d0, d1, d2, d3⟩ := HRr.out.mark (t := n) (getD_some (d := Mk.none) (by rw [HR.out.five]; exact n5))
            have df := fun i => HRr.out.free i
            have t0 : (0 : Int) ≤ (n : Int) := by omega
            have t5 : (n : Int) < 5 := by omega
            clear hie hi1 hi5
            go_wp2_with fail
            go_region
            go_wp2
            go_ret
            have F1 := (HRr.out.setM n5 ⟨(n : Int), nm, po, he⟩).keep (grown_drew _)
            have F2 := grown_own' (grown_trans HG1.out HGr.out) ((grown_st4 wr b (12 + n * 4) ⟨(n : Int), nm, po, he⟩).trans (grown_drew' _ _))
            unfold st4 at F1 F2
            exact ⟨ret_int e1.out.symm, by rw [e2.out]; exact F1, F2⟩
end Go.Proofs.YtmemeloehgemcaaGreat
namespace Go.Proofs.YtmemeloehgemcaaGreat
open Go.RowKit

theorem RJ.shutIt {w : World} {b : Nat} {v : Value} {p : Pl} (h : RJ w b v p) : RJ (w.setCell ⟨b, 1, none⟩ (.bool true)) b v { p with shut := true } := by
  refine ⟨?_, h.nine, h.five⟩
  rw [block_set h.lies, List.setIfInBounds_toArray]
  rfl
def ptA (x : Pt) : Array Value := #[.int .u8 x.wn, .int .u8 x.vb, .int .u8 x.wm, .int .i64 x.ct, .int .u8 x.su, .int .u8 x.tr, .int .u8 x.mr, .string x.nm]
def newP (w : World) (x : Pt) : World := w.alloc (.cells (ptA x) 47)
theorem grown_newP (w : World) (x : Pt) : w.grownBy (newP w x) none := World.grownBy_alloc _ _ none
theorem newP_at (w : World) (x : Pt) : (newP w x).heap[w.heap.size]? = some (.cells (ptA x) 47 (0, 0)) := alloc_at w _ _
set_option maxRecDepth 100000 in
set_option maxHeartbeats 8000000 in
theorem rseal_any (ok : Nat → Prop) (b : Nat) (v : Value) (p : Pl) (fs : List Ent) (w : World) (R : RJ w b v p) (L : RL w v fs) (hl : fs.length ≤ 64) (hG : Good ok w fs) (hL : ∀ e ∈ fs, e.ps.length ≤ 4) : Calls Tryz.prog 47 #[.pointer (some ⟨b, 0, none⟩)] w fun e w' => e = .returned (.int .i64 (sealE p fs)) ∧ RJ w' b v (sealP p fs) ∧ w.grownBy w' (some b) := by
  have HR : Hid (RJ w b v p) := R
  have HL : Hid (RL w v fs) := L
  have HGd : Hid (Good ok w fs) := hG
  have HLl : Hid (∀ e ∈ fs, e.ps.length ≤ 4) := hL
  have H64 : Hid (fs.length ≤ 64) := hl
  have c1 := R.shut
  obtain ⟨a, k, rfl⟩ := L.form
  have hsm : Small fs.length := by unfold Small; omega
  clear R L hG hL hl
  cases hs : p.shut with
  | true =>
    rw [hs] at c1
    have e1 : sealE p fs = 7 := if_pos hs
    have e2 : sealP p fs = p := if_neg (by rw [e1]; decide)
    rw [e1, e2]
    clear e1 e2 hs
    go_enter Tryz.func47, Tryz.ntmps47
    go_wp2_with fail
    refine (rnone_any b _ p w HR.out).mono ?_
    rintro e w1 ⟨rfl, h1⟩
    obtain rfl : w = w1 := h1.symm
    go_wp2
    go_ret
    exact ⟨rfl, HR.out, grown_refl _ _⟩
  | false =>
    rw [hs] at c1
    have e1 : sealE p fs = sealL fs fs := if_neg (by simp [hs])
    obtain ⟨r, hr⟩ : ∃ r, sealL fs fs = r := ⟨_, rfl⟩
    have HE : Hid (sealP p fs = if r = 0 then { p with shut := true } else p) := by unfold Hid sealP; rw [e1, hr]
    have H0 : Hid (Left fs 0 r) := hr
    rw [e1, hr]
    clear e1 hr hs
    go_enter Tryz.func47, Tryz.ntmps47
    go_wp2_with fail
    refine (rnone_any b _ p w HR.out).mono ?_
    rintro e w1 ⟨rfl, h1⟩
    obtain rfl : w = w1 := h1.symm
    go_wp2_with fail
    go_loopw [3] (fun x3 wr => ∃ k : Nat, k ≤ fs.length ∧ x3 = .int .i64 k ∧ Left fs k r ∧ w.grownBy wr none) (fun x3 _ => fs.length - (intOf x3).toNat)
    case atStart => exact ⟨0, Nat.zero_le _, rfl, H0.out, grown_refl _ _⟩
    case round =>
      obtain ⟨i, hi, rfl, hq, G⟩ := hrel
      have HG : Hid (w.grownBy wr none) := G
      have HQ : Hid (Left fs i r) := hq
      have HRr : Hid (RJ wr b (.slice a fs.length k) p) := HR.out.keep G
      have cl := HRr.out.list
      clear G hq H0 c1
      rcases (show i = fs.length ∨ i < fs.length from by omega) with hie | hlt
      · have e : r = 0 := by have := HQ.out; unfold Left at this; rw [hie, List.drop_length] at this; exact this.symm
        subst e
        have i1 : ¬ (i : Int) < (fs.length : Int) := by omega
        have s1 := HRr.out.shut
        have sf := HRr.out.free 1
        clear hi hie HQ
        go_wp2
        go_ret
        refine ⟨rfl, ?_, grown_own' HG.out (grown_set _ _ _ _)⟩
        rw [HE.out]
        simp only [if_true]
        exact HRr.out.shutIt
      · have i1 : (i : Int) < (fs.length : Int) := by omega
        have i0 : (0 : Int) ≤ (i : Int) := by omega
        obtain ⟨g, cap, ev, hrow⟩ := (HL.out.keep HG.out).row (by omega)
        injection ev with e1 _ e3
        subst e1
        subst e3
        obtain ⟨e, he⟩ : ∃ e, fs[i]? = some e := ⟨_, List.getElem?_eq_getElem hlt⟩
        have HST : Hid ((if ¬ callsE fs e.ps = 0 then callsE fs e.ps else sealL fs (fs.drop (i + 1))) = r) := left_step HQ.out he
        have PS := (HGd.out e (List.mem_of_getElem? he)).1.keep HG.out
        have hp4 := HLl.out e (List.mem_of_getElem? he)
        have C8 := (hrow i e he).c8
        obtain ⟨hd, u, ps⟩ := e
        simp only at HST PS hp4 C8
        obtain ⟨pa, pc, rfl⟩ := PS.form
        have HPS : Hid (PsAt wr (.slice pa ps.length pc) ps) := PS
        have HC8 : Hid (wr.cell? ⟨g, i * 9 + 8, none⟩ = some (.slice pa ps.length pc)) := C8
        have hmp : Small ps.length := by unfold Small; omega
        obtain ⟨q, hq⟩ : ∃ q, callsE fs ps = q := ⟨_, rfl⟩
        rw [hq] at HST
        have HQ0 : Hid (LeftP fs ps 0 q) := hq
        clear he PS HQ hq hrow hi C8
        obtain ⟨wo, ho⟩ : ∃ wo, wo = wr := ⟨_, rfl⟩
        subst ho
        go_wp2_with fail
        go_loopw [4] (fun x4 wr2 => ∃ j : Nat, j ≤ ps.length ∧ x4 = .int .i64 j ∧ LeftP fs ps j q ∧ wo.grownBy wr2 none) (fun x4 _ => ps.length - (intOf x4).toNat)
        case atStart => exact ⟨0, Nat.zero_le _, rfl, HQ0.out, grown_refl _ _⟩
        case round =>
          obtain ⟨j, hj, rfl, R2, G2⟩ := hrel
          have HG2 : Hid (wo.grownBy wr none) := G2
          have HQ2 : Hid (LeftP fs ps j q) := R2
          have HRj : Hid (RJ wr b (.slice (some ⟨g, 0, none⟩) fs.length k) p) := HRr.out.keep G2
          clear R2 G2 HQ0 cl
          have cl := HRj.out.list
          have c8 := HG2.out.cell HC8.out (by simp)
          have HGw : Hid (w.grownBy wr none) := grown_trans HG.out HG2.out
          rcases (show j = ps.length ∨ j < ps.length from by omega) with hje | hjt
          · have e : q = 0 := by have := HQ2.out; unfold LeftP at this; rw [hje, List.drop_length] at this; exact this.symm
            have HN : Hid (Left fs (i + 1) r) := by have := HST.out; rw [e] at this; exact this
            have j1 : ¬ (j : Int) < (ps.length : Int) := by omega
            clear HST HQ2 hj e hp4 hje
            go_wp2_with fail
            go_roundw
            case rel => exact ⟨i + 1, hlt, by first | rfl | (rw [hsm.wrap hlt]; rfl), HN.out, HGw.out⟩
            case measure => first | exact meas_next hlt | (rw [hsm.wrap hlt]; exact meas_next hlt)
          · have j1 : (j : Int) < (ps.length : Int) := by omega
            have j0 : (0 : Int) ≤ (j : Int) := by omega
            obtain ⟨pg, po, cap2, ev, PA⟩ := HPS.out.part (by omega)
            injection ev with e1 _ e3
            subst e1
            subst e3
            obtain ⟨x, hx⟩ : ∃ x, ps[j]? = some x := ⟨_, List.getElem?_eq_getElem hjt⟩
            have HSTP : Hid ((if ¬ callE fs x = 0 then callE fs x else callsE fs (ps.drop (j + 1))) = q) := leftP_step HQ2.out hx
            obtain ⟨p0, p1, p2, p3, p4, p5, p6, p7⟩ := (PA j x hx).keep HG2.out
            clear PA hx HQ2 hj
            have HW3 : Hid (wr.grownBy (newP wr x) none) := grown_newP wr x
            have HA3 : Hid ((newP wr x).heap[wr.heap.size]? = some (.cells (ptA x) 47 (0, 0))) := newP_at wr x
            obtain ⟨W3, hW3⟩ : ∃ W3, W3 = newP wr x := ⟨_, rfl⟩
            rw [← hW3] at HW3 HA3
            unfold newP ptA at hW3
            go_upto_region 12 with fail
            rw [← hW3]
            clear hW3 p0 p1 p2 p3 p4 p5 p6 p7
            have HR3 : Hid (RJ W3 b (.slice (some ⟨g, 0, none⟩) fs.length k) p) := HRj.out.keep HW3.out
            have HL3 : Hid (RL W3 (.slice (some ⟨g, 0, none⟩) fs.length k) fs) := HL.out.keep (grown_trans HGw.out HW3.out)
            have HG3 : Hid (wo.grownBy W3 none) := grown_trans HG2.out HW3.out
            have y1 := block_cell HA3.out 1
            have y7 := block_cell HA3.out 7
            unfold ptA at y1 y7
            by_cases h7 : x.vb = 7
            case neg =>
              have e0 : callE fs x = 0 := if_pos h7
              have HN : Hid (LeftP fs ps (j + 1) q) := by have := HSTP.out; rw [if_neg (by simp [e0])] at this; exact this
              have h7' : (x.vb != 7) = true := by simpa using h7
              clear e0 h7 HSTP
              go_wp2_with fail
              go_roundw
              case rel => exact ⟨j + 1, hjt, by first | rfl | (rw [hmp.wrap hjt]; rfl), HN.out, HG3.out⟩
              case measure => first | exact meas_next hjt | (rw [hmp.wrap hjt]; exact meas_next hjt)
            case pos =>
              have e0 : callE fs x = if pos (names fs) x.nm < 0 then 6 else if kdAt fs (pos (names fs) x.nm).toNat = 2 then 8 else 0 := if_neg (by simp [h7])
              have h7' : (x.vb != 7) = false := by simp [h7]
              have HP := rplace_any b _ p fs x.nm W3 HR3.out HL3.out H64.out
              obtain ⟨z, hz⟩ : ∃ z, z = pos (names fs) x.nm := ⟨_, rfl⟩
              have hz1 := pos_low (names fs) x.nm
              rw [names_len] at hz1
              rw [← hz] at HP e0 hz1
              clear hz h7
              by_cases h0 : z < 0
              · rw [if_pos h0] at e0
                have e1 : (6 : Int) = q := by have := HSTP.out; rw [if_pos (by rw [e0]; decide), e0] at this; exact this
                have e2 : q = r := by have := HST.out; rw [if_pos (by rw [← e1]; decide)] at this; exact this
                have HE' : Hid (sealP p fs = p) := by have := HE.out; rw [if_neg (by rw [← e2, ← e1]; decide)] at this; exact this
                have HT : Hid ((6 : Int) = r) := e1.trans e2
                clear HSTP HST HE e1 e2 e0 hz1
                go_wp2_with fail
                refine HP.mono ?_
                rintro e w4 ⟨rfl, h1⟩
                obtain rfl : W3 = w4 := h1.symm
                go_wp2
                go_ret
                refine ⟨ret_int HT.out, ?_, grown_own' (grown_trans HGw.out HW3.out) (grown_refl _ _)⟩
                rw [HE'.out]
                exact HR3.out
              · rw [if_neg h0] at e0
                obtain ⟨n, rfl⟩ := Int.eq_ofNat_of_zero_le (show 0 ≤ z by omega)
                have hn : n < fs.length := by omega
                obtain ⟨e, he⟩ : ∃ e, fs[n]? = some e := ⟨_, List.getElem?_eq_getElem hn⟩
                have ek : kdAt fs ((n : Int).toNat) = e.h.kd := by show kdAt fs n = _; unfold kdAt; rw [he]
                rw [ek] at e0
                have n0 : (0 : Int) ≤ (n : Int) := by omega
                have n1 : (n : Int) < (fs.length : Int) := by omega
                obtain ⟨g', cap', ev', hrow'⟩ := HL3.out.row (by omega)
                injection ev' with e1' _ e3'
                injection e1' with e1'
                injection e1' with e1'
                subst e1'
                have kk := (hrow' n e he).c2
                have cl3 := HR3.out.list
                clear ek he hn hz1 hrow' e3' cl c8
                by_cases h2 : e.h.kd = 2
                · rw [if_pos h2] at e0
                  have h2' : (e.h.kd == 2) = true := by simpa using h2
                  have e1 : (8 : Int) = q := by have := HSTP.out; rw [if_pos (by rw [e0]; decide), e0] at this; exact this
                  have e2 : q = r := by have := HST.out; rw [if_pos (by rw [← e1]; decide)] at this; exact this
                  have HE' : Hid (sealP p fs = p) := by have := HE.out; rw [if_neg (by rw [← e2, ← e1]; decide)] at this; exact this
                  have HT : Hid ((8 : Int) = r) := e1.trans e2
                  clear HSTP HST HE e1 e2 e0 h2
                  go_wp2_with fail
                  refine HP.mono ?_
                  rintro e w4 ⟨rfl, h1⟩
                  obtain rfl : W3 = w4 := h1.symm
                  go_wp2
                  go_ret
                  refine ⟨ret_int HT.out, ?_, grown_own' (grown_trans HGw.out HW3.out) (grown_refl _ _)⟩
                  rw [HE'.out]
                  exact HR3.out
                · rw [if_neg h2] at e0
                  have h2' : (e.h.kd == 2) = false := by simpa using h2
                  have HN : Hid (LeftP fs ps (j + 1) q) := by have := HSTP.out; rw [if_neg (by simp [e0])] at this; exact this
                  clear HSTP e0 h2
                  go_wp2_with fail
                  refine HP.mono ?_
                  rintro e w4 ⟨rfl, h1⟩
                  obtain rfl : W3 = w4 := h1.symm
                  go_wp2_with fail
                  go_roundw
                  case rel => exact ⟨j + 1, hjt, by first | rfl | (rw [hmp.wrap hjt]; rfl), HN.out, HG3.out⟩
                  case measure => first | exact meas_next hjt | (rw [hmp.wrap hjt]; exact meas_next hjt)
end Go.Proofs.YtmemeloehgemcaaGreat
