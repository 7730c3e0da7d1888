/-
  Card: a card is added, or refused.
-/
import Derived.Test.YtpoicbefemjckaaB9
import Derived.Test.YtpoicbefemjckaaOrd
namespace Go.Proofs.Ytpoicbefemjckaa
open Go.RowKit

/-- What Card tells. -/
def caE (p : Pl) (es : List Ent) (c : Cd) : Int := if p.shut = true then 7 else if ¬ cchk c = 0 then cchk c else if 0 ≤ pos (names es) c.nm then 5 else if es.length = 64 then 14 else 0
theorem pown_ok {w : World} {base : Nat} {v : Value} {ps : List Pt} (h : POwn w base v ps) : PsOk (fun k => base ≤ k) w v ps := by
  refine ⟨h.at, fun g o n c e hn => ?_⟩
  refine h.block g ?_
  rw [e]
  rfl
set_option maxRecDepth 100000 in
theorem card_no (v0 : Value) (h : Hd) (v : Value) (w : World) (hv : ∃ a n c, v = .slice a n c) (hb : NoBk w v0) : Calls Try.prog 23 #[v0, cv h v] w fun e w' => e = .returned (.int .i64 1) ∧ w.grownBy w' none := by
  obtain ⟨a, n, c, rfl⟩ := hv
  obtain ⟨W1, hW1⟩ : ∃ W1, W1 = w.alloc (.cells (ccs h (.slice a n c)) 47) := ⟨_, rfl⟩
  have HG1 : Hid (w.grownBy W1 none) := by rw [hW1]; exact World.grownBy_alloc _ _ none
  have H : Hid (NoBk W1 v0) := hb.keep HG1.out
  unfold ccs at hW1
  unfold cv
  clear hb
  go_enter Try.func23, Try.ntmps23
  go_upto_region 1 with fail
  rw [← hW1]
  clear hW1
  go_wp2_with (first | (go_at_call 51; refine (refusal_no _ _ H.out).mono ?_; rintro e w1 ⟨rfl, h1⟩; obtain rfl : W1 = w1 := h1.symm) | fail)
  go_ret
  exact ⟨rfl, HG1.out⟩
set_option maxRecDepth 100000 in
set_option maxHeartbeats 2000000 in
theorem card_yes (ok : Nat → Prop) (b : Nat) (es : List Ent) (p : Pl) (h : Hd) (v : Value) (ps : List Pt) (w : World) (hB : BkIn w b es p) (hG : Good ok w es) (hS : Srt es) (hok : ¬ ok b) (hp : PsAt w v ps) (hm : Small ps.length) : Calls Try.prog 23 #[.pointer (some ⟨b, 0, none⟩), cv h v] w fun e w' => ∃ u, e = .returned (.int .i64 (caE p es (h.with ps))) ∧ BkIn w' b (if caE p es (h.with ps) = 0 then ins es ⟨h, u, ps⟩ else es) p ∧ Good (fun k => ok k ∨ w.heap.size ≤ k) w' (if caE p es (h.with ps) = 0 then ins es ⟨h, u, ps⟩ else es) ∧ w.grownBy w' (some b) := by
  obtain ⟨a, c, rfl⟩ := hp.form
  obtain ⟨W1, hW1⟩ : ∃ W1, W1 = w.alloc (.cells (ccs h (.slice a ps.length c)) 47) := ⟨_, rfl⟩
  have HG1 : Hid (w.grownBy W1 none) := by rw [hW1]; exact World.grownBy_alloc _ _ none
  have HC1 : Hid (CAt W1 w.heap.size h (.slice a ps.length c)) := by rw [hW1]; exact alloc_at w _ _
  have HB1 : Hid (BkIn W1 b es p) := hB.keep HG1.out
  have HGd : Hid (Good ok W1 es) := hG.keep HG1.out
  have HP1 : Hid (PsAt W1 (.slice a ps.length c) ps) := hp.keep HG1.out
  have hbs : b < w.heap.size := by obtain ⟨j, J⟩ := hB; exact block_lt J.lies
  have HR := refusal_yes b es.length p W1 HB1.out.flags
  have HK := ccheck_any h (.slice a ps.length c) ps W1 HP1.out hm
  obtain ⟨c0, c1, c2, c3, c4, c5, c6, c7, c8⟩ := HC1.out.cells
  have KEEP : Hid (∀ W2, W1.grownBy W2 none → BkIn W2 b es p ∧ Good (fun k => ok k ∨ w.heap.size ≤ k) W2 es ∧ w.grownBy W2 (some b)) := fun W2 g => ⟨HB1.out.keep g, (HGd.out.keep g).mono (fun _ h => Or.inl h), grown_own' (grown_trans HG1.out g) (grown_refl _ _)⟩
  unfold ccs at hW1
  unfold cv at HK ⊢
  clear hB hG hp
  cases hs : p.shut with
  | true =>
    have e1 : caE p es (h.with ps) = 7 := if_pos hs
    rw [e1]
    simp only [show ¬ ((7 : Int) = 0) by decide, if_false]
    rw [hs] at HR
    clear e1
    go_enter Try.func23, Try.ntmps23
    go_upto_region 1 with fail
    rw [← hW1]
    clear hW1
    go_wp2_with (first | (go_at_call 51; refine HR.mono ?_; rintro e w1 ⟨rfl, h1⟩; obtain rfl : W1 = w1 := h1.symm) | fail)
    go_ret
    obtain ⟨k1, k2, k3⟩ := KEEP.out _ (grown_refl _ _)
    exact ⟨.nilFunc, rfl, k1, k2, k3⟩
  | false =>
    rw [hs] at HR
    by_cases hc : cchk (h.with ps) = 0
    case neg =>
      have e1 : caE p es (h.with ps) = cchk (h.with ps) := by unfold caE; rw [if_neg (by simp [hs]), if_pos hc]
      rw [e1]
      obtain ⟨q, hq⟩ : ∃ q, q = cchk (h.with ps) := ⟨_, rfl⟩
      rw [← hq] at HK hc ⊢
      simp only [hc, if_false]
      have hc' : (q != 0) = true := by simpa using hc
      clear e1 hq hc
      go_enter Try.func23, Try.ntmps23
      go_upto_region 1 with fail
      rw [← hW1]
      clear hW1
      go_wp2_with (first | (go_at_call 51; refine HR.mono ?_; rintro e w1 ⟨rfl, h1⟩; obtain rfl : W1 = w1 := h1.symm) | (go_at_call 22; refine HK.mono ?_; rintro e w2 ⟨rfl, g2⟩) | fail)
      go_ret
      obtain ⟨k1, k2, k3⟩ := KEEP.out _ g2
      exact ⟨.nilFunc, rfl, k1, k2, k3⟩
    case pos =>
      obtain ⟨f1, f2, f3, f4, f5, f6⟩ := cchk_facts hc
      have f1' : h.nm.size ≤ 281474976710656 := Nat.le_trans f1 (by omega)
      have f3' : ps.length ≤ 4 := f3
      have HN : Hid (Nmd ps) := fun x hx => Nat.le_trans (f4 x hx) (by omega)
      have HSl := HGd.out.slc
      rw [hc] at HK
      by_cases hq : 0 ≤ pos (names es) h.nm
      · have e1 : caE p es (h.with ps) = 5 := by unfold caE; rw [if_neg (by simp [hs]), if_neg (by simp [hc])]; exact if_pos hq
        rw [e1]
        simp only [show ¬ ((5 : Int) = 0) by decide, if_false]
        have hd : decide (0 ≤ pos (names es) h.nm) = true := decide_eq_true hq
        clear e1 hq f1 f2 f3 f4 f5 f6 hc
        go_enter Try.func23, Try.ntmps23
        go_upto_region 1 with fail
        rw [← hW1]
        clear hW1
        go_wp2_with (first | (go_at_call 51; refine HR.mono ?_; rintro e w1 ⟨rfl, h1⟩; obtain rfl : W1 = w1 := h1.symm) | (go_at_call 22; refine HK.mono ?_; rintro e w2 ⟨rfl, g2⟩; have d0 := (HC1.out.keep g2).cells.1) | (go_at_call 52; refine (has_yes b es p h.nm _ (HB1.out.keep g2) HSl).mono ?_; rintro e w3 ⟨rfl, g3⟩; rw [hd]) | fail)
        go_ret
        obtain ⟨k1, k2, k3⟩ := KEEP.out _ (grown_trans g2 g3)
        exact ⟨.nilFunc, rfl, k1, k2, k3⟩
      · have hd : decide (0 ≤ pos (names es) h.nm) = false := decide_eq_false hq
        have HQ : Hid (¬ 0 ≤ pos (names es) h.nm) := hq
        by_cases hl : es.length = 64
        · have e1 : caE p es (h.with ps) = 14 := by unfold caE; rw [if_neg (by simp [hs]), if_neg (by simp [hc]), if_neg (show ¬ 0 ≤ pos (names es) (h.with ps).nm from hq), if_pos hl]
          rw [e1]
          simp only [show ¬ ((14 : Int) = 0) by decide, if_false]
          clear e1 hq f1 f2 f3 f4 f5 f6 hc
          have hl' : ((es.length : Int) == 64) = true := by simp; omega
          have HL : Hid (es.length = 64) := hl
          clear hl
          go_enter Try.func23, Try.ntmps23
          go_upto_region 1 with fail
          rw [← hW1]
          clear hW1
          go_wp2_with (first | (go_at_call 51; refine HR.mono ?_; rintro e w1 ⟨rfl, h1⟩; obtain rfl : W1 = w1 := h1.symm) | (go_at_call 22; refine HK.mono ?_; rintro e w2 ⟨rfl, g2⟩; have d0 := (HC1.out.keep g2).cells.1) | (go_at_call 52; refine (has_yes b es p h.nm _ (HB1.out.keep g2) HSl).mono ?_; rintro e w3 ⟨rfl, g3⟩; rw [hd]; have n3 := (HB1.out.keep (grown_trans g2 g3)).flags.count) | fail)
          go_ret
          obtain ⟨k1, k2, k3⟩ := KEEP.out _ (grown_trans g2 g3)
          exact ⟨.nilFunc, rfl, k1, k2, k3⟩
        · have hl64 : es.length < 64 := by have := HB1.out.len; omega
          have e1 : caE p es (h.with ps) = 0 := by unfold caE; rw [if_neg (by simp [hs]), if_neg (by simp [hc]), if_neg (show ¬ 0 ≤ pos (names es) (h.with ps).nm from hq), if_neg hl]
          rw [e1]
          simp only [if_true]
          clear e1 hq f1 f2 f3 f4 f5 f6 hc
          have hl' : ((es.length : Int) == 64) = false := by simp; omega
          have HL : Hid (es.length < 64) := hl64
          have HRk : Hid (AheadTo es h (rk es h)) := rk_ahead es h hS
          have HRl : Hid (rk es h ≤ es.length) := rk_le es h
          clear hl hl64
          go_enter Try.func23, Try.ntmps23
          go_upto_region 1 with fail
          rw [← hW1]
          clear hW1
          go_wp2_with (first | (go_at_call 51; refine HR.mono ?_; rintro e w1 ⟨rfl, h1⟩; obtain rfl : W1 = w1 := h1.symm) | (go_at_call 22; refine HK.mono ?_; rintro e w2 ⟨rfl, g2⟩; have d0 := (HC1.out.keep g2).cells.1) | (go_at_call 52; refine (has_yes b es p h.nm _ (HB1.out.keep g2) HSl).mono ?_; rintro e w3 ⟨rfl, g3⟩; rw [hd]; have HG3 : Hid (W1.grownBy w3 none) := grown_trans g2 g3; have n3 := (HB1.out.keep HG3.out).flags.count; clear d0; obtain ⟨x0, x1, x2, x3, x4, x5, x6, x7, x8⟩ := (HC1.out.keep HG3.out).cells) | (go_at_call 54; refine (own_any h (.slice a ps.length c) ps _ (HP1.out.keep HG3.out) f3' f1' HN.out).mono ?_; rintro e w4 ⟨u, rfl, o4, g4⟩; have HO4 : Hid (POwn w4 w3.heap.size u ps) := o4; have HG4 : Hid (W1.grownBy w4 none) := grown_trans HG3.out g4; clear o4 x0 x1 x2 x3 x4 x5 x6 x7 x8 n3) | (go_at_call 53; refine (insert_any b es p h u ps (rk es h) _ (HB1.out.keep HG4.out) HSl (by obtain ⟨y, z, e5⟩ := HO4.out.at.form; exact ⟨_, _, _, e5⟩) HL.out HRk.out HRl.out).mono ?_; rintro e w5 ⟨⟨r, rfl⟩, J5, g5⟩) | fail)
          go_ret
          have hw3 : w.heap.size ≤ w3.heap.size := Nat.le_trans HG1.out.size HG3.out.size
          have O5 : PsOk (fun k => ok k ∨ w.heap.size ≤ k) w5 u ps := ((pown_ok HO4.out).mono (ok' := fun k => w.heap.size ≤ k) (fun k hk => Nat.le_trans hw3 hk)).keepR g5 (fun k hk e => by cases e; omega) |>.mono (fun _ h => Or.inr h)
          have G5 : Good (fun k => ok k ∨ w.heap.size ≤ k) w5 es := ((HGd.out.keep HG4.out).keepR g5 (fun k hk e => by cases e; exact hok hk)).mono (fun _ h => Or.inl h)
          refine ⟨u, rfl, J5, fun e he => ?_, grown_own' (grown_trans HG1.out HG4.out) g5⟩
          rcases (ins_mem es ⟨h, u, ps⟩ e).1 he with rfl | he
          · exact O5
          · exact G5 e he
end Go.Proofs.Ytpoicbefemjckaa
