/-
  The document's Same of two cards.
-/
import Derived.Test.YtiikbhejnblhlaaGreatRCa
namespace Go.Proofs.YtiikbhejnblhlaaGreat
open Go.RowKit

theorem listn_no {s t : ByteArray} (h : ¬ s = t) : (s.toList != t.toList) = true := by simp [bne, list_no h]
theorem bnei_no {a b : Int} (h : ¬ a = b) : (a != b) = true := by simpa using h
theorem bneb_no {a b : Bool} (h : ¬ a = b) : (a != b) = true := by simpa using h
set_option maxRecDepth 100000 in
set_option maxHeartbeats 8000000 in
theorem r6same_any (a b : Hd) (va vb : Value) (ps qs : List Pt) (w : World) (ha : PsAt w va ps) (hb : PsAt w vb qs) (hm : Small ps.length) : Calls Tryz.prog 40 #[cv a va, cv b vb] w fun e w' => e = .returned (.bool (sameHd a b && samePs ps qs)) ∧ w.grownBy w' none := by
  obtain ⟨x, c, rfl⟩ := ha.form
  obtain ⟨y, d, rfl⟩ := hb.form
  obtain ⟨a0, a1, a2, a3, a4, a5, a6, a7⟩ := a
  obtain ⟨b0, b1, b2, b3, b4, b5, b6, b7⟩ := b
  unfold cv
  simp only
  by_cases h0 : a0 = b0
  case neg =>
    have k0 := listn_no h0
    have m0 := list_no h0
    have R : (sameHd ⟨a0, a1, a2, a3, a4, a5, a6, a7⟩ ⟨b0, b1, b2, b3, b4, b5, b6, b7⟩ && samePs ps qs) = false := by simp [sameHd, h0]
    rw [R]
    clear R h0 ha hb hm
    go_enter Tryz.func40, Tryz.ntmps40
    go_wp2
    go_ret
    exact ⟨rfl, grown_push (World.grownBy_alloc _ _ none) _⟩
  subst h0
  by_cases h1 : a1 = b1
  case neg =>
    have k1 := bnei_no h1
    have m1 := beqi_no h1
    have R : (sameHd ⟨a0, a1, a2, a3, a4, a5, a6, a7⟩ ⟨a0, b1, b2, b3, b4, b5, b6, b7⟩ && samePs ps qs) = false := by simp [sameHd, h1]
    rw [R]
    clear R h1 ha hb hm
    go_enter Tryz.func40, Tryz.ntmps40
    go_wp2
    go_ret
    exact ⟨rfl, grown_push (World.grownBy_alloc _ _ none) _⟩
  subst h1
  by_cases h2 : a2 = b2
  case neg =>
    have k2 := bnei_no h2
    have m2 := beqi_no h2
    have R : (sameHd ⟨a0, a1, a2, a3, a4, a5, a6, a7⟩ ⟨a0, a1, b2, b3, b4, b5, b6, b7⟩ && samePs ps qs) = false := by simp [sameHd, h2]
    rw [R]
    clear R h2 ha hb hm
    go_enter Tryz.func40, Tryz.ntmps40
    go_wp2
    go_ret
    exact ⟨rfl, grown_push (World.grownBy_alloc _ _ none) _⟩
  subst h2
  by_cases h3 : a3 = b3
  case neg =>
    have k3 := bnei_no h3
    have m3 := beqi_no h3
    have R : (sameHd ⟨a0, a1, a2, a3, a4, a5, a6, a7⟩ ⟨a0, a1, a2, b3, b4, b5, b6, b7⟩ && samePs ps qs) = false := by simp [sameHd, h3]
    rw [R]
    clear R h3 ha hb hm
    go_enter Tryz.func40, Tryz.ntmps40
    go_wp2
    go_ret
    exact ⟨rfl, grown_push (World.grownBy_alloc _ _ none) _⟩
  subst h3
  by_cases h4 : a4 = b4
  case neg =>
    have k4 := bnei_no h4
    have m4 := beqi_no h4
    have R : (sameHd ⟨a0, a1, a2, a3, a4, a5, a6, a7⟩ ⟨a0, a1, a2, a3, b4, b5, b6, b7⟩ && samePs ps qs) = false := by simp [sameHd, h4]
    rw [R]
    clear R h4 ha hb hm
    go_enter Tryz.func40, Tryz.ntmps40
    go_wp2
    go_ret
    exact ⟨rfl, grown_push (World.grownBy_alloc _ _ none) _⟩
  subst h4
  by_cases h5 : a5 = b5
  case neg =>
    have k5 := bnei_no h5
    have m5 := beqi_no h5
    have R : (sameHd ⟨a0, a1, a2, a3, a4, a5, a6, a7⟩ ⟨a0, a1, a2, a3, a4, b5, b6, b7⟩ && samePs ps qs) = false := by simp [sameHd, h5]
    rw [R]
    clear R h5 ha hb hm
    go_enter Tryz.func40, Tryz.ntmps40
    go_wp2
    go_ret
    exact ⟨rfl, grown_push (World.grownBy_alloc _ _ none) _⟩
  subst h5
  by_cases h6 : a6 = b6
  case neg =>
    have k6 := bnei_no h6
    have m6 := beqi_no h6
    have R : (sameHd ⟨a0, a1, a2, a3, a4, a5, a6, a7⟩ ⟨a0, a1, a2, a3, a4, a5, b6, b7⟩ && samePs ps qs) = false := by simp [sameHd, h6]
    rw [R]
    clear R h6 ha hb hm
    go_enter Tryz.func40, Tryz.ntmps40
    go_wp2
    go_ret
    exact ⟨rfl, grown_push (World.grownBy_alloc _ _ none) _⟩
  subst h6
  by_cases h7 : a7 = b7
  case neg =>
    have k7 := bneb_no h7
    have m7 := beqb_no h7
    have R : (sameHd ⟨a0, a1, a2, a3, a4, a5, a6, a7⟩ ⟨a0, a1, a2, a3, a4, a5, a6, b7⟩ && samePs ps qs) = false := by simp [sameHd, h7]
    rw [R]
    clear R h7 ha hb hm
    go_enter Tryz.func40, Tryz.ntmps40
    go_wp2
    go_ret
    exact ⟨rfl, grown_push (World.grownBy_alloc _ _ none) _⟩
  subst h7
  rw [sameHd_refl, Bool.true_and]
  by_cases hl : ps.length = qs.length
  case neg =>
    have hl' : ((ps.length : Int) != (qs.length : Int)) = true := by simp; omega
    have hl2 : ((ps.length : Int) == (qs.length : Int)) = false := by simp; omega
    rw [samePs_len hl]
    clear ha hb hm hl
    go_enter Tryz.func40, Tryz.ntmps40
    go_wp2
    go_ret
    exact ⟨rfl, grown_push (World.grownBy_alloc _ _ none) _⟩
  have HL : Hid (ps.length = qs.length) := hl
  obtain ⟨W2, hW2⟩ : ∃ W2, W2 = (w.alloc (.cells (ccs ⟨a0, a1, a2, a3, a4, a5, a6, a7⟩ (.slice x ps.length c)) 36)).alloc (.cells (ccs ⟨a0, a1, a2, a3, a4, a5, a6, a7⟩ (.slice y qs.length d)) 36) := ⟨_, rfl⟩
  have HG2 : Hid (w.grownBy W2 none) := by rw [hW2]; exact grown_push (World.grownBy_alloc _ _ none) _
  have HA2 : Hid (CAt W2 w.heap.size ⟨a0, a1, a2, a3, a4, a5, a6, a7⟩ (.slice x ps.length c)) := by rw [hW2]; exact CAt.keep (alloc_at w _ _) (World.grownBy_alloc _ _ none)
  have HZ2 : Hid (CAt W2 (w.heap.size + 1) ⟨a0, a1, a2, a3, a4, a5, a6, a7⟩ (.slice y qs.length d)) := by
    have := alloc_at (w.alloc (.cells (ccs ⟨a0, a1, a2, a3, a4, a5, a6, a7⟩ (.slice x ps.length c)) 36)) (ccs ⟨a0, a1, a2, a3, a4, a5, a6, a7⟩ (.slice y qs.length d)) 36
    rw [World.size_alloc] at this
    rw [hW2]
    exact this
  have HPa : Hid (PsAt W2 (.slice x ps.length c) ps) := ha.keep HG2.out
  have HPb : Hid (PsAt W2 (.slice y qs.length d) qs) := hb.keep HG2.out
  obtain ⟨f0, f1, f2, f3, f4, f5, f6, f7, f8⟩ := HA2.out.cells
  obtain ⟨e0, e1, e2, e3, e4, e5, e6, e7, e8⟩ := HZ2.out.cells
  unfold ccs at hW2
  simp only at hW2 f0 f1 f2 f3 f4 f5 f6 f7 f8 e0 e1 e2 e3 e4 e5 e6 e7 e8
  have he := eqg_part
  have hl' : ((ps.length : Int) != (qs.length : Int)) = false := by simp [hl]
  have hl2 : ((ps.length : Int) == (qs.length : Int)) = true := by simp [hl]
  clear ha hb hl
  go_enter Tryz.func40, Tryz.ntmps40
  go_upto_region 1 with fail
  rw [← hW2]
  clear hW2
  go_wp2_with fail
  clear f0 f1 f2 f3 f4 f5 f6 f7 e0 e1 e2 e3 e4 e5 e6 e7 f8 e8 hl' hl2
  go_loopw [5] (fun i wr => ∃ k : Nat, k ≤ ps.length ∧ i = .int .i64 k ∧ (∀ (j : Nat) p q, j < k → ps[j]? = some p → qs[j]? = some q → samep p q = true) ∧ W2.grownBy wr none) (fun i _ => ps.length - (intOf i).toNat)
  case atStart => exact ⟨0, by omega, rfl, fun j p q h => absurd h (by omega), grown_refl _ _⟩
  case round =>
    obtain ⟨k, hk, rfl, S, G⟩ := hrel
    have HG : Hid (W2.grownBy wr none) := G
    have HS : Hid (∀ (j : Nat) p q, j < k → ps[j]? = some p → qs[j]? = some q → samep p q = true) := S
    have f8 := (HA2.out.keep G).cells.2.2.2.2.2.2.2.2
    have e8 := (HZ2.out.keep G).cells.2.2.2.2.2.2.2.2
    clear G S
    rcases (show k = ps.length ∨ k < ps.length from by omega) with hke | hlt
    · have k1 : ¬ (k : Int) < (ps.length : Int) := by omega
      have HR : Hid (samePs ps qs = true) := samePs_all HL.out (fun j p q hp hq => HS.out j p q (by rw [hke]; exact (List.getElem?_eq_some_iff.1 hp).1) hp hq)
      clear hke hk HS
      go_wp2
      go_ret
      exact ⟨ret_bool HR.out.symm, grown_trans HG2.out HG.out⟩
    · have hlt' : (k : Int) < (ps.length : Int) := by omega
      have hlq : (k : Int) < (qs.length : Int) := by have := HL.out; omega
      have hk0 : (0 : Int) ≤ (k : Int) := by omega
      obtain ⟨g, oo, cc, ev, PA⟩ := HPa.out.part (by omega)
      injection ev with e1 _ e3
      subst e1
      subst e3
      obtain ⟨g', o', cc', ev, PB⟩ := HPb.out.part (by have := HL.out; omega)
      injection ev with e1 _ e3
      subst e1
      subst e3
      obtain ⟨p, hp⟩ : ∃ p, ps[k]? = some p := ⟨_, List.getElem?_eq_getElem hlt⟩
      obtain ⟨q, hq⟩ : ∃ q, qs[k]? = some q := ⟨_, List.getElem?_eq_getElem (HL.out ▸ hlt)⟩
      obtain ⟨c0, c1, c2, c3, c4, c5, c6, c7⟩ := (PA k p hp).keep HG.out
      obtain ⟨d0, d1, d2, d3, d4, d5, d6, d7⟩ := (PB k q hq).keep HG.out
      have HP : Hid (ps[k]? = some p) := hp
      have HQ : Hid (qs[k]? = some q) := hq
      obtain ⟨p0, p1, p2, p3, p4, p5, p6, p7⟩ := p
      obtain ⟨q0, q1, q2, q3, q4, q5, q6, q7⟩ := q
      simp only at c0 c1 c2 c3 c4 c5 c6 c7 d0 d1 d2 d3 d4 d5 d6 d7
      clear hp hq PA PB hk
      have hn := neq_part p0 p1 p2 p3 p4 p5 p6 p7 q0 q1 q2 q3 q4 q5 q6 q7
      cases hs : samep ⟨p0, p1, p2, p3, p4, p5, p6, p7⟩ ⟨q0, q1, q2, q3, q4, q5, q6, q7⟩ with
      | true =>
        go_wp2_with fail
        go_quiet (fail)
        go_wp2
        go_roundw
        case rel => exact ⟨k + 1, hlt, by first | rfl | (rw [hm.wrap hlt]; rfl), fun j p q hj hp hq => by
          rcases Nat.lt_succ_iff_lt_or_eq.1 hj with h | rfl
          · exact HS.out j p q h hp hq
          · rw [HP.out] at hp
            rw [HQ.out] at hq
            obtain rfl := Option.some.inj hp
            obtain rfl := Option.some.inj hq
            exact hs, grown_trans HG.out (grown_drewN _ _ _)⟩
        case measure => first | exact meas_next hlt | (rw [hm.wrap hlt]; exact meas_next hlt)
      | false =>
        go_wp2_with fail
        go_quiet (fail)
        go_wp2
        go_ret
        exact ⟨ret_bool (samePs_at HP.out HQ.out hs).symm, grown_trans HG2.out (grown_trans HG.out (grown_drewN _ _ _))⟩
end Go.Proofs.YtiikbhejnblhlaaGreat
