/-
  The document's own book: Trait, TraitName.
  The document's own book: MarkOf, Mark.
-/
import Derived.Test.YtknlcjhcamhfmaaGreatDoorJ34
namespace Go.Proofs.YtknlcjhcamhfmaaGreatDoor
open Go.RowKit

theorem RJ.setN {w : World} {b : Nat} {v : Value} {p : Pl} (h : RJ w b v p) {t : Nat} (ht : t < 9) (s : ByteArray) : RJ (w.setCell ⟨b, 3 + t, none⟩ (.string s)) b v { p with nms := p.nms.set t s } := by
  refine ⟨?_, by simpa using h.nine, h.five⟩
  rw [block_set h.lies]
  congr 2
  rw [List.setIfInBounds_toArray]
  congr 1
  unfold rcells
  rw [show 3 + t = t + 1 + 1 + 1 by omega]
  simp only [List.set_cons_succ]
  rw [List.set_append_left _ _ (by simp [h.nine]; omega), List.map_set]
/-- No name of these is the name, and that of the trait is free. -/
def NoT (p : Pl) (t : Nat) (s : ByteArray) (i : Nat) : Prop := ∀ (j : Nat) x, 1 ≤ j → j < i → p.nms[j]? = some x → ¬ x = s ∧ (j = t → x = ⟨#[]⟩)
theorem empty_name : nameOk (ByteArray.mk #[]).data.toList = false := rfl
theorem trE_hit {p : Pl} {t i : Nat} {s x : ByteArray} (hs : p.shut = false) (h1 : 1 ≤ t) (h8 : t ≤ 8) (hn : nameOk s.data.toList = true) (hx : p.nms[i]? = some x) (h : x = s ∨ (i = t ∧ ¬ x = ⟨#[]⟩)) : trE p (t : Int) s = 5 := by
  unfold trE
  rw [if_neg (by simp [hs]), if_neg (by omega), if_neg (by simp [hn]), if_pos ?_]
  rcases h with rfl | ⟨rfl, h⟩
  · right
    apply Classical.byContradiction
    intro hc
    exact pos_no (Int.not_le.1 hc) (List.mem_of_getElem? hx)
  · left
    rw [Int.toNat_natCast, List.getD_eq_getElem?_getD, hx]
    exact h
theorem trE_free {p : Pl} {t : Nat} {s : ByteArray} (hs : p.shut = false) (h1 : 1 ≤ t) (h8 : t ≤ 8) (hn : nameOk s.data.toList = true) (h9 : p.nms.length = 9) (hz : p.nms[0]? = some ⟨#[]⟩) (h : NoT p t s 9) : trE p (t : Int) s = 0 := by
  unfold trE
  rw [if_neg (by simp [hs]), if_neg (by omega), if_neg (by simp [hn]), if_neg ?_]
  rintro (h2 | h2)
  · obtain ⟨x, hx⟩ : ∃ x, p.nms[t]? = some x := ⟨_, List.getElem?_eq_getElem (by omega)⟩
    rw [Int.toNat_natCast, List.getD_eq_getElem?_getD, hx] at h2
    exact h2 ((h t x h1 (by omega) hx).2 rfl)
  · have hm := pos_yes _ _ h2
    have hl := (List.getElem?_eq_some_iff.1 hm).1
    by_cases h0 : (pos p.nms s).toNat = 0
    · rw [h0, hz] at hm
      obtain rfl := Option.some.inj hm
      rw [empty_name] at hn
      cases hn
    · exact (h _ s (by omega) (by omega) hm).1 rfl
theorem NoT.next {p : Pl} {t i : Nat} {s x : ByteArray} (h : NoT p t s i) (hx : p.nms[i]? = some x) (h1 : ¬ x = s) (h2 : i = t → x = ⟨#[]⟩) : NoT p t s (i + 1) := fun j y hj1 hj hy => by
  rcases (show j < i ∨ j = i from by omega) with hji | rfl
  · exact h j y hj1 hji hy
  · rw [hx] at hy
    obtain rfl := Option.some.inj hy
    exact ⟨h1, h2⟩
set_option maxRecDepth 100000 in
set_option maxHeartbeats 4000000 in
theorem rtrait_any (b : Nat) (v : Value) (p : Pl) (t : Nat) (s : ByteArray) (w : World) (R : RJ w b v p) (ht : t ≤ 255) (hz : p.nms[0]? = some ⟨#[]⟩) : Calls Tryz.prog 139 #[.pointer (some ⟨b, 0, none⟩), .int .u8 (t : Int), .string s] w fun e w' => e = .returned (.int .i64 (trE p (t : Int) s)) ∧ RJ w' b v (trP p (t : Int) s) ∧ w.grownBy w' (some b) := by
  have HR : Hid (RJ w b v p) := R
  have HZ : Hid (p.nms[0]? = some ⟨#[]⟩) := hz
  have c1 := R.shut
  clear R hz
  cases hs : p.shut with
  | true =>
    rw [hs] at c1
    have e1 : trE p (t : Int) s = 7 := if_pos hs
    have e2 : trP p (t : Int) s = p := if_neg (by rw [e1]; decide)
    rw [e1, e2]
    clear e1 e2 hs
    go_enter Tryz.func139, Tryz.ntmps139
    go_wp2_with fail
    refine (rnone_any b _ p w HR.out).mono ?_
    rintro e w1 ⟨rfl, h1⟩
    obtain rfl : w = w1 := h1.symm
    go_wp2
    go_ret
    exact ⟨rfl, HR.out, grown_refl _ _⟩
  | false =>
    rw [hs] at c1
    by_cases hr : t < 1 ∨ 8 < t
    · have e1 : trE p (t : Int) s = 2 := by unfold trE; rw [if_neg (by simp [hs]), if_pos (by omega)]
      have e2 : trP p (t : Int) s = p := if_neg (by rw [e1]; decide)
      rw [e1, e2]
      clear e1 e2 hs
      rcases (show (t : Int) < 1 ∨ (¬ (t : Int) < 1 ∧ (8 : Int) < (t : Int)) by omega) with h | ⟨h, h'⟩
      all_goals
        clear hr
        go_enter Tryz.func139, Tryz.ntmps139
        go_wp2_with fail
        refine (rnone_any b _ p w HR.out).mono ?_
        rintro e w1 ⟨rfl, h1⟩
        obtain rfl : w = w1 := h1.symm
        go_wp2
        go_ret
        exact ⟨rfl, HR.out, grown_refl _ _⟩
    · have t1 : ¬ (t : Int) < 1 := by omega
      have t8 : ¬ (8 : Int) < (t : Int) := by omega
      have HT : Hid (1 ≤ t ∧ t ≤ 8) := ⟨by omega, by omega⟩
      clear hr ht
      cases hn : nameOk s.data.toList with
      | false =>
        have e1 : trE p (t : Int) s = 4 := by unfold trE; rw [if_neg (by simp [hs]), if_neg (by omega), if_pos hn]
        have e2 : trP p (t : Int) s = p := if_neg (by rw [e1]; decide)
        have HN := r7name_any s w
        rw [hn] at HN
        rw [e1, e2]
        clear e1 e2 hs hn
        go_enter Tryz.func139, Tryz.ntmps139
        go_wp2_with fail
        refine (rnone_any b _ p w HR.out).mono ?_
        rintro e w1 ⟨rfl, h1⟩
        obtain rfl : w = w1 := h1.symm
        go_wp2_with fail
        refine HN.mono ?_
        rintro e w1 ⟨rfl, h1⟩
        obtain rfl : w = w1 := h1.symm
        go_wp2
        go_ret
        exact ⟨rfl, HR.out, grown_refl _ _⟩
      | true =>
        have HN := r7name_any s w
        rw [hn] at HN
        have HNm : Hid (nameOk s.data.toList = true) := hn
        have HSh : Hid (p.shut = false) := hs
        have s9 : Small 9 := by unfold Small; decide
        clear hs hn
        go_enter Tryz.func139, Tryz.ntmps139
        go_wp2_with fail
        refine (rnone_any b _ p w HR.out).mono ?_
        rintro e w1 ⟨rfl, h1⟩
        obtain rfl : w = w1 := h1.symm
        go_wp2_with fail
        refine HN.mono ?_
        rintro e w1 ⟨rfl, h1⟩
        obtain rfl : w = w1 := h1.symm
        clear HN
        go_wp2_with fail
        go_loopw [7] (fun x7 wr => wr = w ∧ ∃ i : Nat, 1 ≤ i ∧ i ≤ 9 ∧ x7 = .int .i64 (i : Int) ∧ NoT p t s i) (fun x7 _ => 9 - (intOf x7).toNat)
        case atStart => exact ⟨rfl, 1, Nat.le_refl _, by decide, rfl, fun j x h1 h2 => absurd h2 (by omega)⟩
        case round =>
          obtain ⟨rfl, i, hi1, hi9, rfl, hN⟩ := hrel
          have HNo : Hid (NoT p t s i) := hN
          clear hN
          rcases (show i < 9 ∨ i = 9 from by omega) with hil | hie
          · have i0 : (0 : Int) ≤ (i : Int) := by omega
            have i8 : (i : Int) ≤ 8 := by omega
            have i9 : (i : Int) < 9 := by omega
            have im : (i : Int) % 256 = (i : Int) := by omega
            obtain ⟨x, hx⟩ : ∃ x, p.nms[i]? = some x := ⟨_, List.getElem?_eq_getElem (by rw [HR.out.nine]; exact hil)⟩
            have cx := HR.out.name hx
            by_cases hxs : x = s
            · have q1 := bytes_yes hxs
              have e1 : Hid (trE p (t : Int) s = 5) := trE_hit HSh.out HT.out.1 HT.out.2 HNm.out hx (Or.inl hxs)
              have e2 : Hid (trP p (t : Int) s = p) := if_neg (by rw [e1.out]; decide)
              by_cases hit : i = t
              · have q2 : ((i : Int) == (t : Int)) = true := by simp [hit]
                by_cases hxe : x = ⟨#[]⟩
                · have q3 := bytes_yes hxe
                  have q4 : (x.toList == []) = true := by rw [hxe, empty_list]; rfl
                  clear hx hit hxe hxs
                  go_wp2
                  go_ret
                  exact ⟨ret_int e1.out.symm, by rw [e2.out]; exact HR.out, grown_refl _ _⟩
                · have q4 := toList_ne hxe
                  clear hx hit hxe hxs
                  go_wp2
                  go_ret
                  exact ⟨ret_int e1.out.symm, by rw [e2.out]; exact HR.out, grown_refl _ _⟩
              · have q2 : ((i : Int) == (t : Int)) = false := by simpa using (show ¬ (i : Int) = (t : Int) by omega)
                clear hx hit hxs
                go_wp2
                go_ret
                exact ⟨ret_int e1.out.symm, by rw [e2.out]; exact HR.out, grown_refl _ _⟩
            · have q1 := bytes_no hxs
              by_cases hit : i = t
              · have q2 : ((i : Int) == (t : Int)) = true := by simp [hit]
                by_cases hxe : x = ⟨#[]⟩
                · have q4 : (x.toList == []) = true := by rw [hxe, empty_list]; rfl
                  have HN2 : Hid (NoT p t s (i + 1)) := HNo.out.next hx hxs (fun _ => hxe)
                  clear hx hit hxe hxs hi1 hi9
                  go_wp2_with fail
                  go_roundw
                  case rel => exact ⟨by first | rfl | trivial, i + 1, by omega, hil, by first | rfl | (rw [s9.wrap hil]; rfl), HN2.out⟩
                  case measure => first | exact meas_next hil | (rw [s9.wrap hil]; exact meas_next hil)
                · have q4 := toList_ne hxe
                  have e1 : Hid (trE p (t : Int) s = 5) := trE_hit HSh.out HT.out.1 HT.out.2 HNm.out hx (Or.inr ⟨hit, hxe⟩)
                  have e2 : Hid (trP p (t : Int) s = p) := if_neg (by rw [e1.out]; decide)
                  clear hx hit hxe hxs
                  go_wp2
                  go_ret
                  exact ⟨ret_int e1.out.symm, by rw [e2.out]; exact HR.out, grown_refl _ _⟩
              · have q2 : ((i : Int) == (t : Int)) = false := by simpa using (show ¬ (i : Int) = (t : Int) by omega)
                have HN2 : Hid (NoT p t s (i + 1)) := HNo.out.next hx hxs (fun e => absurd e hit)
                clear hx hit hxs hi1 hi9
                go_wp2_with fail
                go_roundw
                case rel => exact ⟨by first | rfl | trivial, i + 1, by omega, hil, by first | rfl | (rw [s9.wrap hil]; rfl), HN2.out⟩
                case measure => first | exact meas_next hil | (rw [s9.wrap hil]; exact meas_next hil)
          · have i8 : ¬ (i : Int) ≤ 8 := by omega
            have e1 : Hid (trE p (t : Int) s = 0) := trE_free HSh.out HT.out.1 HT.out.2 HNm.out HR.out.nine HZ.out (by rw [← hie]; exact HNo.out)
            have e2 : Hid (trP p (t : Int) s = { p with nms := p.nms.set t s }) := by
              show trP p (t : Int) s = _
              unfold trP
              rw [if_pos e1.out, Int.toNat_natCast]
            have HS9 : Hid (RJ (wr.setCell ⟨b, 3 + t, none⟩ (.string s)) b v { p with nms := p.nms.set t s }) := HR.out.setN (by have := HT.out; omega) s
            obtain ⟨x, hx⟩ : ∃ x, p.nms[t]? = some x := ⟨_, List.getElem?_eq_getElem (by rw [HR.out.nine]; have := HT.out; omega)⟩
            have cx := HR.out.name hx
            have cf := fun i => HR.out.free i
            have t0 : (0 : Int) ≤ (t : Int) := by omega
            have t9 : (t : Int) < 9 := by omega
            clear hie hi1 hi9 hx
            go_wp2
            go_ret
            exact ⟨ret_int e1.out.symm, by rw [e2.out]; exact HS9.out, grown_set _ _ _ _⟩
set_option maxHeartbeats 2000000 in
theorem rtraitName_any (b : Nat) (v : Value) (p : Pl) (t : Nat) (w : World) (R : RJ w b v p) (ht : t ≤ 255) (hz : p.nms[0]? = some ⟨#[]⟩) : Calls Tryz.prog 52 #[.pointer (some ⟨b, 0, none⟩), .int .u8 (t : Int)] w fun e w' => e = .returned (.tuple #[.string (tnS p (t : Int)), .bool (tnB p (t : Int))]) ∧ w' = w := by
  have HR : Hid (RJ w b v p) := R
  clear R
  by_cases hr : t < 1 ∨ 8 < t
  · have e1 : tnS p (t : Int) = ⟨#[]⟩ := by
      unfold tnS
      by_cases h9 : (t : Int) < 9
      · rw [if_pos h9, show (t : Int).toNat = 0 by omega, List.getD_eq_getElem?_getD, hz]
        rfl
      · rw [if_neg h9]
    have e2 : tnB p (t : Int) = false := by unfold tnB; rw [e1]; rfl
    rw [e1, e2]
    clear e1 e2 hz
    rcases (show (t : Int) < 1 ∨ (¬ (t : Int) < 1 ∧ (8 : Int) < (t : Int)) by omega) with h | ⟨h, h'⟩
    all_goals
      clear hr
      go_enter Tryz.func52, Tryz.ntmps52
      go_wp2_with fail
      refine (rnone_any b _ p w HR.out).mono ?_
      rintro e w1 ⟨rfl, h1⟩
      obtain rfl : w = w1 := h1.symm
      go_wp2
      refine bodyPost_ret (v := .tuple #[.string ⟨#[]⟩, .bool false]) (by simp [results, Tryz.results52, go_sem]) rfl ⟨rfl, rfl⟩
  · have t1 : ¬ (t : Int) < 1 := by omega
    have t8 : ¬ (8 : Int) < (t : Int) := by omega
    have t0 : (0 : Int) ≤ (t : Int) := by omega
    have t9 : (t : Int) < 9 := by omega
    obtain ⟨x, hx⟩ : ∃ x, p.nms[t]? = some x := ⟨_, List.getElem?_eq_getElem (by rw [HR.out.nine]; omega)⟩
    have cx := HR.out.name hx
    have e1 : tnS p (t : Int) = x := by unfold tnS; rw [if_pos t9, Int.toNat_natCast, List.getD_eq_getElem?_getD, hx]; rfl
    have e2 : tnB p (t : Int) = !decide (x = ⟨#[]⟩) := by unfold tnB; rw [e1]
    rw [e1, e2]
    clear e1 e2 hx hr hz ht
    by_cases hxe : x = ⟨#[]⟩
    · have q4 : (x.toList == []) = true := by rw [hxe, empty_list]; rfl
      rw [decide_eq_true hxe]
      subst hxe
      go_enter Tryz.func52, Tryz.ntmps52
      go_wp2_with fail
      refine (rnone_any b _ p w HR.out).mono ?_
      rintro e w1 ⟨rfl, h1⟩
      obtain rfl : w = w1 := h1.symm
      go_wp2
      refine bodyPost_ret (v := .tuple #[.string ⟨#[]⟩, .bool false]) (by simp [results, Tryz.results52, go_sem]) rfl ⟨rfl, rfl⟩
    · have q4 := toList_ne hxe
      rw [decide_eq_false hxe]
      clear hxe
      go_enter Tryz.func52, Tryz.ntmps52
      go_wp2_with fail
      refine (rnone_any b _ p w HR.out).mono ?_
      rintro e w1 ⟨rfl, h1⟩
      obtain rfl : w = w1 := h1.symm
      go_wp2
      refine bodyPost_ret (v := .tuple #[.string x, .bool true]) (by simp [results, Tryz.results52, go_sem]) rfl ⟨rfl, rfl⟩
end Go.Proofs.YtknlcjhcamhfmaaGreatDoor
namespace Go.Proofs.YtknlcjhcamhfmaaGreatDoor
open Go.RowKit

/-- What is marked is marked whole. -/
def MkD (p : Pl) : Prop := p.mks[0]? = some Mk.none ∧ ∀ m ∈ p.mks, m = Mk.none ∨ (¬ m.mi = 0 ∧ ¬ m.nm = ⟨#[]⟩)
set_option maxRecDepth 100000 in
set_option maxHeartbeats 2000000 in
theorem rmarkOf_any (b : Nat) (v : Value) (p : Pl) (t : Nat) (w : World) (R : RJ w b v p) (ht : t ≤ 255) (hD : MkD p) : Calls Tryz.prog 54 #[.pointer (some ⟨b, 0, none⟩), .int .u8 (t : Int)] w fun e w' => e = .returned (.tuple #[mv (moM p (t : Int)), .bool (moB p (t : Int))]) ∧ w.grownBy w' none := by
  obtain ⟨W1, hW1⟩ : ∃ W1, W1 = w.alloc (.cells #[.int .u8 0, .string ⟨#[]⟩, .int .i64 0, .int .i64 0] 60) := ⟨_, rfl⟩
  have HG1 : Hid (w.grownBy W1 none) := by rw [hW1]; exact World.grownBy_alloc _ _ none
  have A : W1.heap[w.heap.size]? = some (.cells #[.int .u8 0, .string ⟨#[]⟩, .int .i64 0, .int .i64 0] 60 (0, 0)) := by rw [hW1]; exact alloc_at w #[.int .u8 0, .string ⟨#[]⟩, .int .i64 0, .int .i64 0] 60
  have HR : Hid (RJ W1 b v p) := R.keep HG1.out
  have c0 := block_cell A 0
  have c1 := block_cell A 1
  have c2 := block_cell A 2
  have c3 := block_cell A 3
  have cf := fun i => block_free A i
  clear A R
  by_cases hr : t < 1 ∨ 4 < t
  · have e1 : moM p (t : Int) = Mk.none := by
      unfold moM
      by_cases h9 : (t : Int) < 5
      · rw [if_pos h9, show (t : Int).toNat = 0 by omega, List.getD_eq_getElem?_getD, hD.1]
        rfl
      · rw [if_neg h9]
    have e2 : moB p (t : Int) = false := by unfold moB; rw [e1]; rfl
    rw [e1, e2]
    clear e1 e2 hD
    rcases (show (t : Int) < 1 ∨ (¬ (t : Int) < 1 ∧ (4 : Int) < (t : Int)) by omega) with h | ⟨h, h'⟩
    all_goals
      clear hr
      go_enter Tryz.func54, Tryz.ntmps54
      go_upto_region 1 with fail
      rw [← hW1]
      clear hW1
      go_wp2_with (first | (go_at_call 108; refine (rnone_any b _ p _ HR.out).mono ?_; rintro e w1 ⟨rfl, h1⟩; obtain rfl : W1 = w1 := h1.symm) | fail)
      refine bodyPost_ret (v := .tuple #[mv Mk.none, .bool false]) (by simp [results, Tryz.results54, go_sem, mv, Mk.none, c0, c1, c2, c3]) rfl ⟨rfl, ?_⟩
      exact grown_own HG1.out ((((grown_set _ _ _ _).trans (grown_set _ _ _ _)).trans (grown_set _ _ _ _)).trans (grown_set _ _ _ _)) (fun x e => by cases e; exact Nat.le_refl _)
  · have t1 : ¬ (t : Int) < 1 := by omega
    have t4 : ¬ (4 : Int) < (t : Int) := by omega
    have t0 : (0 : Int) ≤ (t : Int) := by omega
    have t5 : (t : Int) < 5 := by omega
    obtain ⟨m, hm⟩ : ∃ m, p.mks[t]? = some m := ⟨_, List.getElem?_eq_getElem (by rw [HR.out.five]; omega)⟩
    have e1 : moM p (t : Int) = m := by unfold moM; rw [if_pos t5, Int.toNat_natCast, List.getD_eq_getElem?_getD, hm]; rfl
    have e2 : moB p (t : Int) = !decide (m.nm = ⟨#[]⟩) := by unfold moB; rw [e1]
    have hd := hD.2 m (List.mem_of_getElem? hm)
    obtain ⟨d0, d1, d2, d3⟩ := HR.out.mark hm
    rw [e1, e2]
    clear e1 e2 hm hD hr ht
    obtain ⟨mi, nm, po, he⟩ := m
    simp only at d0 d1 d2 d3 hd ⊢
    by_cases hq : nm = ⟨#[]⟩
    · have hN : (⟨mi, nm, po, he⟩ : Mk) = Mk.none := by
        rcases hd with h | h
        · exact h
        · exact absurd hq h.2
      rw [decide_eq_true hq, hN]
      unfold Mk.none at hN
      injection hN with h1 h2 h3 h4
      subst h1 h2 h3 h4
      clear hd hq
      go_enter Tryz.func54, Tryz.ntmps54
      go_upto_region 1 with fail
      rw [← hW1]
      clear hW1
      go_wp2_with (first | (go_at_call 108; refine (rnone_any b _ p _ HR.out).mono ?_; rintro e w1 ⟨rfl, h1⟩; obtain rfl : W1 = w1 := h1.symm) | fail)
      refine bodyPost_ret (v := .tuple #[mv Mk.none, .bool false]) (by simp [results, Tryz.results54, go_sem, mv, Mk.none, c0, c1, c2, c3]) rfl ⟨rfl, ?_⟩
      exact grown_own HG1.out ((((grown_set _ _ _ _).trans (grown_set _ _ _ _)).trans (grown_set _ _ _ _)).trans (grown_set _ _ _ _)) (fun x e => by cases e; exact Nat.le_refl _)
    · have hN : ¬ mi = 0 := by
        rcases hd with h | h
        · unfold Mk.none at h
          injection h with h1 h2 h3 h4
          exact absurd h2 hq
        · exact h.1
      have q0 : (mi == 0) = false := by simpa using hN
      rw [decide_eq_false hq]
      clear hd hq hN
      go_enter Tryz.func54, Tryz.ntmps54
      go_upto_region 1 with fail
      rw [← hW1]
      clear hW1
      go_wp2_with (first | (go_at_call 108; refine (rnone_any b _ p _ HR.out).mono ?_; rintro e w1 ⟨rfl, h1⟩; obtain rfl : W1 = w1 := h1.symm) | fail)
      refine bodyPost_ret (v := .tuple #[mv ⟨mi, nm, po, he⟩, .bool true]) (by simp [results, Tryz.results54, go_sem, mv, c0, c1, c2, c3]) rfl ⟨rfl, ?_⟩
      exact grown_own HG1.out ((((grown_set _ _ _ _).trans (grown_set _ _ _ _)).trans (grown_set _ _ _ _)).trans (grown_set _ _ _ _)) (fun x e => by cases e; exact Nat.le_refl _)
end Go.Proofs.YtknlcjhcamhfmaaGreatDoor
