/-
  Zones: Make.
-/
import Derived.Test.YtogpgldbbegniaaZmQ
namespace Go.Proofs.Ytogpgldbbegniaa
open Go.RowKit

theorem ZG.app_ts {T : TypeId} {ex : List Value} {w w7 : World} {b : Nat} {S : List Nat} {z : Zs} {vt d0 d1 h0 h1 : Value} (h : ZG T ex w b S z vt d0 d1 h0 h1) (hT : tgs T) {v : Value} {ts : List Th} (g : w.grownBy w7 vt.ownBlock) (O : OwnT w7 0 v ts) : ZG T ex (w7.setCell ⟨b, 0, none⟩ v) b (v.ownBlock.toList ++ S) { z with ts := ts } v d0 d1 h0 h1 := by
  have B := keep_blk h.blk h.ts hT.2 g
  refine ⟨zc_set B rfl, own_setc O B hT.2, own_setc (keep_tag h.od0 h.ts (by decide) g) B hT.1, own_setc (keep_tag h.od1 h.ts (by decide) g) B hT.1, own_setc (keep_tag h.oh0 h.ts (by decide) g) B hT.1, own_setc (keep_tag h.oh1 h.ts (by decide) g) B hT.1, List.mem_append_right _ h.inb, ?_, h.dif⟩
  intro u hu x hx
  simp only [List.mem_cons, List.not_mem_nil, or_false] at hu
  rcases hu with hu | hu | hu | hu | hu <;> subst hu <;> first | exact List.mem_append_left _ (by rw [hx]; simp) | exact List.mem_append_right _ (h.inS _ (by simp) x hx)
theorem ZG.kept0 {T : TypeId} {ex : List Value} {w w7 : World} {b : Nat} {S : List Nat} {z : Zs} {vt d0 d1 h0 h1 : Value} (h : ZG T ex w b S z vt d0 d1 h0 h1) (hT : tgs T) (g : w.grownBy w7 vt.ownBlock) : w7.cell? ⟨b, 0, none⟩ = some vt ∧ w7.frozen? ⟨b, 0, none⟩ = false := by
  have B := keep_blk h.blk h.ts hT.2 g
  exact ⟨(block_cell B 0).trans rfl, block_free B 0⟩
/-- A thing that is nowhere at all. -/
def bareTh (card p : Int) : Th := ⟨card, p, 0, 0, 0, 0, 0, 0, 0, 0, false⟩
def Zs.bare (z : Zs) (card p : Int) : Zs := { z with ts := z.ts ++ [bareTh card p] }
theorem bare_at (z : Zs) (card p : Int) : thAt (z.bare card p).ts ((z.ts.length : Int) + 1) = bareTh card p := by
  unfold thAt Zs.bare
  rw [List.getD_eq_getElem?_getD, show ((z.ts.length : Int) + 1 - 1).toNat = z.ts.length from by omega, List.getElem?_append_right (Nat.le_refl _), Nat.sub_self]
  rfl
theorem bare_fine {z : Zs} (S : z.Sound) {card p : Int} (hp : p = 0 ∨ p = 1) : (z.bare card p).Fine ((z.ts.length : Int) + 1) := by
  have ea := bare_at z card p
  have hno : ∀ q pl, ¬ inn z.ts q pl ((z.ts.length : Int) + 1) := fun q pl h => by have := h.1.2; omega
  refine ⟨?_, ?_, ?_, ?_, ?_, ?_⟩
  · unfold there Zs.bare
    rw [List.length_append, List.length_singleton]
    omega
  · rw [ea]; exact hp
  · rw [ea]; exact (S.dks p hp).1
  · rw [ea]; exact (S.hds p hp).1
  · intro _ h
    rw [ea] at h
    exact hno _ _ (((S.dks p hp).2 _).1 h)
  · intro _ h
    rw [ea] at h
    exact hno _ _ (((S.hds p hp).2 _).1 h)
theorem set_last {α : Type} (l : List α) (a x : α) : (l ++ [a]).set l.length x = l ++ [x] := by
  rw [List.set_append_right _ _ (Nat.le_refl _), Nat.sub_self]
  rfl
theorem bare_come {z : Zs} {card p : Int} (h : z.makeE card p = 0) : (z.bare card p).come ((z.ts.length : Int) + 1) 4 = z.make card p := by
  unfold Zs.make
  rw [if_pos h]
  have ea := bare_at z card p
  have em := more_new (z := z) (card := card) (p := p)
  unfold Zs.come
  rw [ea, em]
  have e1 : (z.bare card p).ts.set ((z.ts.length : Int) + 1 - 1).toNat (if (4 : Int) = 4 then (bareTh card p).tabled (z.bare card p).nx else (bareTh card p).home 4) = (z.more card p).ts.set ((z.ts.length : Int) + 1 - 1).toNat (if (4 : Int) = 4 then (newTh card p).tabled (z.more card p).nx else (newTh card p).home 4) := by
    rw [show ((z.ts.length : Int) + 1 - 1).toNat = z.ts.length from by omega, if_pos rfl, if_pos rfl]
    show (z.ts ++ [bareTh card p]).set z.ts.length _ = (z.ts ++ [newTh card p]).set z.ts.length _
    rw [set_last, set_last]
    rfl
  rw [e1]
  rfl
/-- What Make answers. -/
def Zs.makeN (z : Zs) (card p : Int) : Int := if z.makeE card p = 0 then (z.ts.length : Int) + 1 else 0
theorem own_things {w : World} {base n : Nat} {v : Value} {ts : List Th} {t : Th} (h : w.ownsRow base 38 11 v (n + 1) (thcs ts ++ thc t)) (hn : n = ts.length) : OwnT w base v (ts ++ [t]) := by
  unfold OwnT
  rw [List.length_append, List.length_singleton, thcs_app, thcs_one, ← hn]
  exact h
set_option maxRecDepth 100000 in
set_option maxHeartbeats 4000000 in
theorem make_any (b : Nat) (Sb : List Nat) (z : Zs) (card p : Int) (w : World) (Z : ZAt w b Sb z) (S : z.Sound) (hS : Old w Sb) : Calls Try.prog 32 #[.pointer (some ⟨b, 0, none⟩), .int .i64 card, .int .i64 p] w (TnPost w b Sb (z.make card p) (.tuple #[.int .i64 (z.makeN card p), .int .i64 (z.makeE card p)])) := by
  obtain ⟨i11, hi11, hza11, hzb11, hzc11⟩ := info_parts Try.infoT
  have Z0 := Z
  obtain ⟨vt, d0, d1, h0, h1, Z⟩ := Z
  obtain ⟨c0, c1, c2, c3, c4, c5⟩ := Z.cell
  have hsl := Z.ts.at
  obtain ⟨pt, ct, ev, _⟩ := own_slice Z.ts
  have M := made_yes b z.nx w c5 (nx_ne S)
  have OW := isOwner_any p w
  have TR := tableRoom_any b vt z.ts p w c0 Z.ts.at S.few
  have hfew := S.few
  have hnx2 := S.nx2
  by_cases q1 : card < 1
  · have eE : z.makeE card p = 2 := by unfold Zs.makeE; rw [if_pos (Or.inl q1)]
    have em : z.make card p = z := by unfold Zs.make; rw [eE]; rfl
    have eN : z.makeN card p = 0 := by unfold Zs.makeN; rw [eE]; rfl
    rw [eE, em, eN]
    have HF : Hid (∀ w1, w.grownBy w1 none → TnPost w b Sb z (.tuple #[.int .i64 0, .int .i64 2]) (.returned (.tuple #[.int .i64 0, .int .i64 2])) w1) := fun w1 g => ⟨rfl, Sb, Z0.grow g, Turn.of_grow g hS⟩
    clear Z Z0 S hS c0 c1 c2 c3 c4 c5 eE em eN OW TR hsl ev
    go_enter Try.func32, Try.ntmps32
    go_wp2_with (first | (go_at_call 61; refine M.mono ?_; rintro e w9 ⟨rfl, h⟩; obtain rfl : w = w9 := h.symm) | (go_at_call 68; refine OW.mono ?_; rintro e w9 ⟨rfl, h⟩; obtain rfl : w = w9 := h.symm))
    go_ret2
    exact HF.out _ (grown_refl _ _)
  · have d1' : decide (card < 1) = false := decide_eq_false q1
    by_cases q2 : p = 0 ∨ p = 1
    · rw [decide_eq_true q2] at OW
      by_cases q3 : z.ts.length = 2048
      · have eE : z.makeE card p = 14 := by unfold Zs.makeE; rw [if_neg (fun q => q.elim q1 (fun r => r q2)), if_pos (Or.inl (by omega))]
        have em : z.make card p = z := by unfold Zs.make; rw [eE]; rfl
        have eN : z.makeN card p = 0 := by unfold Zs.makeN; rw [eE]; rfl
        rw [eE, em, eN]
        have HF : Hid (∀ w1, w.grownBy w1 none → TnPost w b Sb z (.tuple #[.int .i64 0, .int .i64 14]) (.returned (.tuple #[.int .i64 0, .int .i64 14])) w1) := fun w1 g => ⟨rfl, Sb, Z0.grow g, Turn.of_grow g hS⟩
        have hb : ((z.ts.length : Int) == 2048) = true := by rw [q3]; rfl
        rw [ev] at c0
        clear Z Z0 S hS c1 c2 c3 c4 c5 eE em eN TR hsl ev q1 q2 q3
        go_enter Try.func32, Try.ntmps32
        go_wp2_with (first | (go_at_call 61; refine M.mono ?_; rintro e w9 ⟨rfl, h⟩; obtain rfl : w = w9 := h.symm) | (go_at_call 68; refine OW.mono ?_; rintro e w9 ⟨rfl, h⟩; obtain rfl : w = w9 := h.symm))
        go_ret2
        exact HF.out _ (grown_refl _ _)
      · have hb : ((z.ts.length : Int) == 2048) = false := by
          have : ¬ ((z.ts.length : Int) = 2048) := by omega
          simpa using this
        by_cases q4 : owned z.ts p < 8
        · rw [decide_eq_true q4] at TR
          by_cases q5 : z.nx = 1099511627776
          · have eE : z.makeE card p = 14 := by unfold Zs.makeE; rw [if_neg (fun q => q.elim q1 (fun r => r q2)), if_pos (Or.inr (Or.inr (by omega)))]
            have em : z.make card p = z := by unfold Zs.make; rw [eE]; rfl
            have eN : z.makeN card p = 0 := by unfold Zs.makeN; rw [eE]; rfl
            rw [eE, em, eN]
            have HF : Hid (∀ w1, w.grownBy w1 none → TnPost w b Sb z (.tuple #[.int .i64 0, .int .i64 14]) (.returned (.tuple #[.int .i64 0, .int .i64 14])) w1) := fun w1 g => ⟨rfl, Sb, Z0.grow g, Turn.of_grow g hS⟩
            have HK : Hid (∀ w1, w.grownBy w1 none → w1.cell? ⟨b, 5, none⟩ = some (.int .i64 1099511627776)) := fun w1 g => by rw [← q5]; exact g.cell c5 (by simp)
            rw [ev] at c0
            clear Z Z0 S hS c1 c2 c3 c4 c5 eE em eN hsl ev q1 q2 q3 q4 q5
            go_enter Try.func32, Try.ntmps32
            go_wp2_with (first | (go_at_call 61; refine M.mono ?_; rintro e w9 ⟨rfl, h⟩; obtain rfl : w = w9 := h.symm) | (go_at_call 68; refine OW.mono ?_; rintro e w9 ⟨rfl, h⟩; obtain rfl : w = w9 := h.symm))
            refine TR.mono ?_
            rintro e w1 ⟨rfl, g1⟩
            have k5 := HK.out w1 g1
            have HF1 : Hid (TnPost w b Sb z (.tuple #[.int .i64 0, .int .i64 14]) (.returned (.tuple #[.int .i64 0, .int .i64 14])) w1) := HF.out w1 g1
            clear g1 TR HF HK
            go_wp2_with fail
            go_ret2
            exact HF1.out
          · have hb5 : (z.nx == 1099511627776) = false := by simpa using q5
            have eE : z.makeE card p = 0 := by unfold Zs.makeE; rw [if_neg (fun q => q.elim q1 (fun r => r q2)), if_neg (by omega)]
            have eN : z.makeN card p = (z.ts.length : Int) + 1 := by unfold Zs.makeN; rw [eE]; rfl
            rw [eE, eN, ← bare_come eE]
            have HFine : Hid ((z.bare card p).Fine ((z.ts.length : Int) + 1)) := bare_fine S q2
            have HSo : Hid (Old w Sb) := hS
            have HZ : Hid (ZG 93 [] w b Sb z vt d0 d1 h0 h1) := Z
            have HEV : Hid (vt = .slice pt z.ts.length ct) := ev
            have HSd : Hid z.Sound := S
            have HLs : Hid (z.ts.length + 1 ≤ maxLen ∧ (z.ts.length + 1) * 88 ≤ 140737488355328 ∧ z.ts.length + 1 ≤ 2048 ∧ z.nx < 1099511627776) := by show _ ∧ _; unfold maxLen; omega
            have HK : Hid (∀ w1, w.grownBy w1 none → w1.cell? ⟨b, 5, none⟩ = some (.int .i64 z.nx) ∧ w1.cell? ⟨b, 0, none⟩ = some (.slice pt z.ts.length ct)) := fun w1 g => ⟨g.cell c5 (by simp), by rw [← ev]; exact g.cell c0 (by simp)⟩
            rw [ev] at c0
            clear Z Z0 S hS c1 c2 c3 c4 c5 eE eN hsl ev q1 q2 q3 q4 q5 hfew hnx2
            go_enter Try.func32, Try.ntmps32
            go_wp2_with (first | (go_at_call 61; refine M.mono ?_; rintro e w9 ⟨rfl, h⟩; obtain rfl : w = w9 := h.symm) | (go_at_call 68; refine OW.mono ?_; rintro e w9 ⟨rfl, h⟩; obtain rfl : w = w9 := h.symm))
            refine TR.mono ?_
            rintro e w1 ⟨rfl, g1⟩
            obtain ⟨k5, k0⟩ := HK.out w1 g1
            have HG1 : Hid (w.grownBy w1 none) := g1
            clear g1 TR HK c0
            obtain ⟨U, hU⟩ : ∃ U, U = w1.alloc (.cells #[.int .i64 card, .int .i64 p, .int .u8 0, .int .i64 0, .int .i64 0, .int .i64 0, .int .i64 0, .int .i64 0, .int .i64 0, .int .i64 0, .bool false] 38) := ⟨_, rfl⟩
            have HU : Hid (U = w1.alloc (.cells #[.int .i64 card, .int .i64 p, .int .u8 0, .int .i64 0, .int .i64 0, .int .i64 0, .int .i64 0, .int .i64 0, .int .i64 0, .int .i64 0, .bool false] 38)) := hU
            have HGU : Hid (w.grownBy U none) := by show w.grownBy U none; rw [hU]; exact grown_push HG1.out _
            have HSrc : Hid (Src U (.slice (some ⟨w1.heap.size, 0, none⟩) 1 1) 1 11 (thc (bareTh card p))) := by
              show Src U _ 1 11 _
              rw [hU]
              exact lit_Src (cs := (thc (bareTh card p)).toArray) (alloc_at w1 _ _) rfl 1
            have HO1 : Hid (U.ownsRow 0 38 11 (.slice pt z.ts.length ct) z.ts.length (thcs z.ts)) := by
              have := own_grow HZ.out.ts HGU.out
              rw [HEV.out] at this
              exact this
            have HZU : Hid (ZG 93 [] U b Sb z (.slice pt z.ts.length ct) d0 d1 h0 h1) := by
              have := HZ.out.grow HGU.out
              rw [HEV.out] at this
              exact this
            have HSU : Hid (w.heap.size ≤ U.heap.size) := HGU.out.size
            clear hU
            rw [HU.out] at HSrc HO1 HZU
            go_wp2_with (at_builtin; (refine wpl_app (by rfl) (.tmp 45) (.tmp 49) 29 rfl 0 38 i11 _ 11 88 Try.underlying29 hi11 hza11 hzb11 hzc11 rfl (by decide) (.slice pt z.ts.length ct) z.ts.length (thcs z.ts) rfl HO1.out (.slice (some ⟨w1.heap.size, 0, none⟩) 1 1) 1 (thc (bareTh card p)) rfl HSrc.out (fun u hu => thcs_ones [bareTh card p] u (by rw [thcs_one]; exact hu)) HLs.out.1 HLs.out.2.1 (Nat.zero_le _) ?_; intro v7 w7 o7 g7 l7; obtain ⟨b0, f0⟩ := HZU.out.kept0 tgs_z g7; obtain ⟨pv, cv, rfl, _⟩ := own_slice o7; have HO7 : Hid (OwnT w7 0 (.slice pv (z.ts.length + 1) cv) (z.ts ++ [bareTh card p])) := own_things o7 rfl; have HG7 : Hid ((w1.alloc (.cells #[.int .i64 card, .int .i64 p, .int .u8 0, .int .i64 0, .int .i64 0, .int .i64 0, .int .i64 0, .int .i64 0, .int .i64 0, .int .i64 0, .bool false] 38)).grownBy w7 (Value.slice pt z.ts.length ct).ownBlock) := g7; have HL7 : Hid ((Value.slice pv (z.ts.length + 1) cv).ownBlock = (Value.slice pt z.ts.length ct).ownBlock ∨ (Value.slice pv (z.ts.length + 1) cv).ownBlock = some (w1.alloc (.cells #[.int .i64 card, .int .i64 p, .int .u8 0, .int .i64 0, .int .i64 0, .int .i64 0, .int .i64 0, .int .i64 0, .int .i64 0, .int .i64 0, .bool false] 38)).heap.size) := l7; clear o7 g7 l7))
            have HZ5 : Hid (ZG 93 [] (w7.setCell ⟨b, 0, none⟩ (.slice pv (z.ts.length + 1) cv)) b ((Value.slice pv (z.ts.length + 1) cv).ownBlock.toList ++ Sb) (z.bare card p) (.slice pv (z.ts.length + 1) cv) d0 d1 h0 h1) := HZU.out.app_ts tgs_z HG7.out HO7.out
            have HT5 : Hid (Turn w (w7.setCell ⟨b, 0, none⟩ (.slice pv (z.ts.length + 1) cv)) Sb ((Value.slice pv (z.ts.length + 1) cv).ownBlock.toList ++ Sb)) := by
              have g7 := HG7.out
              have l7 := HL7.out
              rw [← HU.out] at g7 l7
              have k1 : Kpt Sb w U := kpt_sub HGU.out (by simp)
              have k2 : Kpt Sb U w7 := kpt_sub g7 (by rw [← HEV.out]; intro x hx; exact HZ.out.inS vt (by simp) x hx)
              have k3 : Kpt Sb w7 (w7.setCell ⟨b, 0, none⟩ (.slice pv (z.ts.length + 1) cv)) := kpt_sub (grown_set w7 b 0 _) (by intro x hx; cases hx; exact HZ.out.inb)
              refine turn_of (kpt_then (kpt_then k1 k2) k3) HSo.out (fun x hx => ?_) (fun x hx => Nat.lt_of_lt_of_le (own_lt HO7.out x hx) k3.size)
              rcases l7 with q | q
              · rw [q, ← HEV.out] at hx
                exact Or.inl (HZ.out.inS vt (by simp) x hx)
              · rw [q] at hx
                cases hx
                exact Or.inr HSU.out
            have C5 := come_any b ((Value.slice pv (z.ts.length + 1) cv).ownBlock.toList ++ Sb) (z.bare card p) ((z.ts.length : Int) + 1) 4 _ ⟨_, _, _, _, _, HZ5.out⟩ HFine.out HT5.out.old (by show (z.ts ++ [bareTh card p]).length ≤ 2048; rw [List.length_append, List.length_singleton]; exact HLs.out.2.2.1) (fun q hq => Nat.le_trans (HSd.out.deckFew hq) HSd.out.few) (fun q hq => Nat.le_trans (HSd.out.handFew hq) HSd.out.few) HSd.out.nx1 (fun _ => HLs.out.2.2.2)
            have m0 : (w7.setCell ⟨b, 0, none⟩ (.slice pv (z.ts.length + 1) cv)).cell? ⟨b, 0, none⟩ = some (.slice pv (z.ts.length + 1) cv) := HZ5.out.cell.1
            go_wp2_with fail
            refine C5.mono ?_
            rintro e w8 ⟨rfl, S8, Z8, T8⟩
            have HF8 : Hid (TnPost w b Sb ((z.bare card p).come ((z.ts.length : Int) + 1) 4) (.tuple #[.int .i64 ((z.ts.length : Int) + 1), .int .i64 0]) (.returned (.tuple #[.int .i64 ((z.ts.length : Int) + 1), .int .i64 0])) w8) := ⟨rfl, S8, Z8, HT5.out.trans T8⟩
            clear Z8 T8 C5
            go_wp2_with fail
            go_ret2
            exact HF8.out
        · rw [decide_eq_false q4] at TR
          have eE : z.makeE card p = 14 := by unfold Zs.makeE; rw [if_neg (fun q => q.elim q1 (fun r => r q2)), if_pos (Or.inr (Or.inl (by omega)))]
          have em : z.make card p = z := by unfold Zs.make; rw [eE]; rfl
          have eN : z.makeN card p = 0 := by unfold Zs.makeN; rw [eE]; rfl
          rw [eE, em, eN]
          have HF : Hid (∀ w1, w.grownBy w1 none → TnPost w b Sb z (.tuple #[.int .i64 0, .int .i64 14]) (.returned (.tuple #[.int .i64 0, .int .i64 14])) w1) := fun w1 g => ⟨rfl, Sb, Z0.grow g, Turn.of_grow g hS⟩
          rw [ev] at c0
          clear Z Z0 S hS c1 c2 c3 c4 c5 eE em eN hsl ev q1 q2 q3 q4
          go_enter Try.func32, Try.ntmps32
          go_wp2_with (first | (go_at_call 61; refine M.mono ?_; rintro e w9 ⟨rfl, h⟩; obtain rfl : w = w9 := h.symm) | (go_at_call 68; refine OW.mono ?_; rintro e w9 ⟨rfl, h⟩; obtain rfl : w = w9 := h.symm))
          refine TR.mono ?_
          rintro e w1 ⟨rfl, g1⟩
          have HF1 : Hid (TnPost w b Sb z (.tuple #[.int .i64 0, .int .i64 14]) (.returned (.tuple #[.int .i64 0, .int .i64 14])) w1) := HF.out w1 g1
          clear g1 TR HF
          go_wp2_with fail
          go_ret2
          exact HF1.out
    · rw [decide_eq_false q2] at OW
      have eE : z.makeE card p = 2 := by unfold Zs.makeE; rw [if_pos (Or.inr q2)]
      have em : z.make card p = z := by unfold Zs.make; rw [eE]; rfl
      have eN : z.makeN card p = 0 := by unfold Zs.makeN; rw [eE]; rfl
      rw [eE, em, eN]
      have HF : Hid (∀ w1, w.grownBy w1 none → TnPost w b Sb z (.tuple #[.int .i64 0, .int .i64 2]) (.returned (.tuple #[.int .i64 0, .int .i64 2])) w1) := fun w1 g => ⟨rfl, Sb, Z0.grow g, Turn.of_grow g hS⟩
      clear Z Z0 S hS c0 c1 c2 c3 c4 c5 eE em eN TR hsl ev q2 q1
      go_enter Try.func32, Try.ntmps32
      go_wp2_with (first | (go_at_call 61; refine M.mono ?_; rintro e w9 ⟨rfl, h⟩; obtain rfl : w = w9 := h.symm) | (go_at_call 68; refine OW.mono ?_; rintro e w9 ⟨rfl, h⟩; obtain rfl : w = w9 := h.symm))
      go_ret2
      exact HF.out _ (grown_refl _ _)
end Go.Proofs.Ytogpgldbbegniaa
