/-
  Zones: Move; whether a list holds just an owner's things in a place; what a thing keeps, how it may lie.
-/
import Derived.Test.YtogpgldbbegniaaZmO
namespace Go.Proofs.Ytogpgldbbegniaa
open Go.RowKit

theorem moveE_room {z : Zs} {n tp : Int} (h1 : 1 ≤ n ∧ n ≤ (z.ts.length : Int)) (h2 : 1 ≤ tp ∧ tp ≤ 5) : z.moveE n tp = if z.roomB n tp = true then 0 else 14 := by
  unfold Zs.moveE Zs.roomB
  rw [if_neg (fun q => q h1), if_neg (by omega)]
  by_cases e2 : tp = 2
  · subst e2
    by_cases a : (thAt z.ts n).place = 2
    · simp [a]
    · by_cases b : (z.hd (thAt z.ts n).owner).length < 10
      · have b2 : ¬ 10 ≤ (z.hd (thAt z.ts n).owner).length := by omega
        simp [a, b, b2]
      · have b2 : 10 ≤ (z.hd (thAt z.ts n).owner).length := by omega
        simp [a, b, b2]
  · by_cases e4 : tp = 4
    · subst e4
      by_cases a : (thAt z.ts n).place = 4
      · by_cases b : z.nx < 1099511627776
        · have b2 : ¬ 1099511627776 ≤ z.nx := by omega
          simp [a, b, b2]
        · have b2 : 1099511627776 ≤ z.nx := by omega
          simp [a, b, b2]
      · by_cases c : owned z.ts (thAt z.ts n).owner < 8
        · have c2 : ¬ 8 ≤ owned z.ts (thAt z.ts n).owner := by omega
          by_cases b : z.nx < 1099511627776
          · have b2 : ¬ 1099511627776 ≤ z.nx := by omega
            simp [a, b, b2, c, c2]
          · have b2 : 1099511627776 ≤ z.nx := by omega
            simp [a, b, b2, c, c2]
        · have c2 : 8 ≤ owned z.ts (thAt z.ts n).owner := by omega
          simp [a, c, c2]
    · simp [e2, e4]
set_option maxRecDepth 100000 in
set_option maxHeartbeats 4000000 in
theorem move_any (b : Nat) (Sb : List Nat) (z : Zs) (n tp : Int) (w : World) (Z : ZAt w b Sb z) (S : z.Sound) (hS : Old w Sb) : Calls Try.prog 26 #[.pointer (some ⟨b, 0, none⟩), .int .i64 n, .int .u8 tp] w (TnPost w b Sb (z.move n tp) (.int .i64 (z.moveE n tp))) := by
  have Z0 := Z
  obtain ⟨vt, d0, d1, h0, h1, Z⟩ := Z
  obtain ⟨c0, c1, c2, c3, c4, c5⟩ := Z.cell
  obtain ⟨pt, ct, rfl, _⟩ := Z.ts.at
  have M := made_yes b z.nx w c5 (nx_ne S)
  have HA := has_any b z.ts.length ct pt n w c0
  have IP := isPlace_any tp w
  by_cases q1 : 1 ≤ n ∧ n ≤ (z.ts.length : Int)
  · rw [decide_eq_true q1] at HA
    by_cases q2 : 1 ≤ tp ∧ tp ≤ 5
    · rw [decide_eq_true q2] at IP
      have HR := hasRoom_any b Sb z n tp w Z0 S q1
      have eE := moveE_room (z := z) (n := n) (tp := tp) q1 q2
      cases q3 : z.roomB n tp with
      | false =>
        rw [q3] at HR eE
        rw [if_neg (by decide)] at eE
        have em : z.move n tp = z := by unfold Zs.move; rw [eE]; rfl
        rw [eE, em]
        have HF : Hid (∀ w1, w.grownBy w1 none → TnPost w b Sb z (.int .i64 14) (.returned (.int .i64 14)) w1) := fun w1 g => ⟨rfl, Sb, Z0.grow g, Turn.of_grow g hS⟩
        clear Z Z0 S hS c0 c1 c2 c3 c4 c5 q1 q2 q3 eE em
        go_enter Try.func26, Try.ntmps26
        go_wp2_with (first | (go_at_call 61; refine M.mono ?_; rintro e w9 ⟨rfl, h⟩; obtain rfl : w = w9 := h.symm) | (go_at_call 62; refine HA.mono ?_; rintro e w9 ⟨rfl, h⟩; obtain rfl : w = w9 := h.symm) | (go_at_call 63; refine IP.mono ?_; rintro e w9 ⟨rfl, h⟩; obtain rfl : w = w9 := h.symm))
        refine HR.mono ?_
        rintro e w1 ⟨rfl, g1⟩
        have HF1 : Hid (TnPost w b Sb z (.int .i64 14) (.returned (.int .i64 14)) w1) := HF.out w1 g1
        clear g1 HF HR
        go_wp2
        go_ret
        exact HF1.out
      | true =>
        rw [q3] at HR eE
        rw [if_pos rfl] at eE
        have em : z.move n tp = z.come n tp := by unfold Zs.move; rw [eE]; rfl
        have my := moveE_may eE
        rw [eE, em]
        have HF : Hid (∀ w1, w.grownBy w1 none → Calls Try.prog 65 #[.pointer (some ⟨b, 0, none⟩), .int .i64 n, .int .u8 tp] w1 (TnPost w1 b Sb (z.come n tp) (.tuple #[]))) := fun w1 g => come_any b Sb z n tp w1 (Z0.grow g) (S.fine q1) (fun x hx => Nat.lt_of_lt_of_le (hS x hx) g.size) S.few (fun p hp => Nat.le_trans (S.deckFew hp) S.few) (fun p hp => Nat.le_trans (S.handFew hp) S.few) S.nx1 my.nx
        clear Z Z0 S hS c0 c1 c2 c3 c4 c5 q1 q2 q3 eE em my
        go_enter Try.func26, Try.ntmps26
        go_wp2_with (first | (go_at_call 61; refine M.mono ?_; rintro e w9 ⟨rfl, h⟩; obtain rfl : w = w9 := h.symm) | (go_at_call 62; refine HA.mono ?_; rintro e w9 ⟨rfl, h⟩; obtain rfl : w = w9 := h.symm) | (go_at_call 63; refine IP.mono ?_; rintro e w9 ⟨rfl, h⟩; obtain rfl : w = w9 := h.symm))
        refine HR.mono ?_
        rintro e w1 ⟨rfl, g1⟩
        have C := HF.out w1 g1
        have HG : Hid (w.grownBy w1 none) := g1
        clear g1 HF HR
        go_wp2_with fail
        refine C.mono ?_
        rintro e w2 ⟨rfl, S2, Z2, T2⟩
        have HF2 : Hid (TnPost w b Sb (z.come n tp) (.int .i64 0) (.returned (.int .i64 0)) w2) := ⟨rfl, S2, Z2, T2.pre HG.out⟩
        clear Z2 T2 C
        go_wp2
        go_ret
        exact HF2.out
    · rw [decide_eq_false q2] at IP
      have eE : z.moveE n tp = 2 := by unfold Zs.moveE; rw [if_neg (fun q => q q1), if_pos (by omega)]
      have em : z.move n tp = z := by unfold Zs.move; rw [eE]; rfl
      rw [eE, em]
      have HF : Hid (TnPost w b Sb z (.int .i64 2) (.returned (.int .i64 2)) w) := ⟨rfl, Sb, Z0, turn_refl hS⟩
      clear Z Z0 S hS c0 c1 c2 c3 c4 c5 q1 q2 eE em
      go_enter Try.func26, Try.ntmps26
      go_wp2_with (first | (go_at_call 61; refine M.mono ?_; rintro e w9 ⟨rfl, h⟩; obtain rfl : w = w9 := h.symm) | (go_at_call 62; refine HA.mono ?_; rintro e w9 ⟨rfl, h⟩; obtain rfl : w = w9 := h.symm) | (go_at_call 63; refine IP.mono ?_; rintro e w9 ⟨rfl, h⟩; obtain rfl : w = w9 := h.symm))
      go_ret
      exact HF.out
  · rw [decide_eq_false q1] at HA
    have eE : z.moveE n tp = 6 := by unfold Zs.moveE; rw [if_pos q1]
    have em : z.move n tp = z := by unfold Zs.move; rw [eE]; rfl
    rw [eE, em]
    have HF : Hid (TnPost w b Sb z (.int .i64 6) (.returned (.int .i64 6)) w) := ⟨rfl, Sb, Z0, turn_refl hS⟩
    clear Z Z0 S hS c0 c1 c2 c3 c4 c5 q1 eE em
    go_enter Try.func26, Try.ntmps26
    go_wp2_with (first | (go_at_call 61; refine M.mono ?_; rintro e w9 ⟨rfl, h⟩; obtain rfl : w = w9 := h.symm) | (go_at_call 62; refine HA.mono ?_; rintro e w9 ⟨rfl, h⟩; obtain rfl : w = w9 := h.symm) | (go_at_call 63; refine IP.mono ?_; rintro e w9 ⟨rfl, h⟩; obtain rfl : w = w9 := h.symm))
    go_ret
    exact HF.out
/-- What holdsJust answers. -/
def HjPost (w : World) (ts : List Th) (l : List Int) (p pl : Int) (e : Ending) (w' : World) : Prop := ∃ r : Bool, e = .returned (.bool r) ∧ (r = true ↔ Holds ts l p pl) ∧ w.grownBy w' none
set_option maxRecDepth 100000 in
set_option maxHeartbeats 4000000 in
theorem holdsJust_any (b : Nat) (vt v : Value) (ts : List Th) (l : List Int) (p pl : Int) (w : World) (c0 : w.cell? ⟨b, 0, none⟩ = some vt) (T : ThsAt w vt ts) (hf : ts.length ≤ 2048) (hl : IntsA w v l) : Calls Try.prog 72 #[.pointer (some ⟨b, 0, none⟩), v, .int .i64 p, .int .u8 pl] w (HjPost w ts l p pl) := by
  have C := numbers_any b vt ts p pl w c0 T hf
  have hlen := numsOf_len ts p pl
  have HH : Hid (Holds ts l p pl ↔ srt l = numsOf ts p pl) := holds_srt
  have HHl : Hid (Holds ts l p pl → l.length = (numsOf ts p pl).length) := holds_len
  obtain ⟨A, hA⟩ : ∃ A, A = numsOf ts p pl := ⟨_, rfl⟩
  rw [← hA] at C hlen HH HHl
  obtain ⟨pv, cv, ev, _⟩ := hl.src
  have HI : Hid (IntsA w v l) := hl
  rw [ev] at HI ⊢
  clear c0 T hA ev hl
  by_cases hn : l.length = A.length
  · have HN : Hid (l.length = A.length) := hn
    have hb : ((l.length : Int) == (A.length : Int)) = true := by rw [hn]; simp
    have hb2 : ((l.length : Int) != (A.length : Int)) = false := by simp [bne, hb]
    have HB : Hid (l.length ≤ 2048) := by show l.length ≤ 2048; omega
    clear hn hlen hf
    go_enter Try.func72, Try.ntmps72
    go_wp2_with fail
    refine C.mono ?_
    rintro e w1 ⟨v1, rfl, o1, g1⟩
    obtain ⟨p1, q1, rfl⟩ := o1.form
    have HO1 : Hid (w1.ownsRow w.heap.size 3 1 (.slice p1 A.length q1) A.length (ints A)) := o1
    have HG1 : Hid (w.grownBy w1 none) := g1
    have C2 := ownI_any _ l w1 (HI.out.keep g1) (by have := HB.out; omega)
    clear o1 g1 C
    go_wp2_with fail
    refine C2.mono ?_
    rintro e w2 ⟨rfl, o2, g2⟩
    have C3 := sortI_any w1.heap.size w1.heap.size l.length l.length l w2 o2 rfl (by have := HB.out; omega)
    have HO2 : Hid (w2.ownsRow w.heap.size 3 1 (.slice p1 A.length q1) A.length (ints A)) := own_grow HO1.out g2
    have HG2 : Hid (w.grownBy w2 none) := grown_trans HG1.out g2
    have HS1 : Hid (w.heap.size ≤ w1.heap.size ∧ ∀ x, (Value.slice p1 A.length q1).ownBlock = some x → x < w1.heap.size) := ⟨HG1.out.size, own_lt HO1.out⟩
    clear o2 g2 C2
    go_wp2_with fail
    refine C3.mono ?_
    rintro e w3 ⟨rfl, o3, g3⟩
    have HO3 : Hid (w3.ownsRow w.heap.size 3 1 (.slice p1 A.length q1) A.length (ints A)) := World.ownsRow.kept HO2.out g3 (by
      cases hq : (Value.slice p1 A.length q1).ownBlock with
      | none => exact Or.inl rfl
      | some x => exact Or.inr fun e => by cases e; have := HS1.out.2 _ hq; omega)
    have HG3 : Hid (w.grownBy w3 none) := grown_own HG2.out g3 (fun x e => by cases e; exact HS1.out.1)
    have C4 := equalI_any w1.heap.size l.length A.length l.length (.slice p1 A.length q1) w1.heap.size w.heap.size (srt l) A w3 o3 (srt_len l) HO3.out rfl
    clear o3 g3 C3
    obtain ⟨r, hr⟩ : ∃ r, r = decide (srt l = A) := ⟨_, rfl⟩
    have HR : Hid (r = true ↔ srt l = A) := by show r = true ↔ _; rw [hr]; exact decide_eq_true_iff
    rw [← hr] at C4
    clear hr
    go_wp2_with fail
    refine C4.mono ?_
    rintro e w4 ⟨rfl, g4⟩
    have HF : Hid (HjPost w ts l p pl (.returned (.bool r)) w4) := ⟨r, rfl, HR.out.trans HH.out.symm, grown_trans HG3.out g4⟩
    clear g4 C4
    go_wp2_with fail
    go_ret
    exact HF.out
  · have hb : ((l.length : Int) == (A.length : Int)) = false := by
      have : ¬ ((l.length : Int) = (A.length : Int)) := by omega
      simpa using this
    have hb2 : ((l.length : Int) != (A.length : Int)) = true := by simp [bne, hb]
    have HF : Hid (∀ w1, w.grownBy w1 none → HjPost w ts l p pl (.returned (.bool false)) w1) := fun w1 g => ⟨false, rfl, ⟨fun q => (by cases q), fun q => absurd (HHl.out q) hn⟩, g⟩
    clear hn hlen hf
    go_enter Try.func72, Try.ntmps72
    go_wp2_with fail
    refine C.mono ?_
    rintro e w1 ⟨v1, rfl, o1, g1⟩
    obtain ⟨p1, q1, rfl⟩ := o1.form
    have HF1 : Hid (HjPost w ts l p pl (.returned (.bool false)) w1) := HF.out w1 g1
    clear o1 g1 C HF
    go_wp2_with fail
    go_ret
    exact HF1.out
set_option maxRecDepth 100000 in
set_option maxHeartbeats 4000000 in
theorem keeps_any (t u : Th) (w : World) : Calls Try.prog 70 #[thv t, thv u] w fun e w' => e = .returned (.bool (decide (t.card = u.card ∧ t.owner = u.owner ∧ t.place = u.place ∧ t.stamp = u.stamp))) ∧ w.grownBy w' none := by
  have HG : Hid (∀ o o', w.grownBy ((w.alloc o).alloc o') none) := fun o o' => grown_push (World.grownBy_alloc _ _ none) _
  unfold thv
  by_cases q0 : t.card = u.card
  · have b0 : (t.card == u.card) = true := by simpa using q0
    by_cases q1 : t.owner = u.owner
    · have b1 : (t.owner == u.owner) = true := by simpa using q1
      by_cases q2 : t.place = u.place
      · have b2 : (t.place == u.place) = true := by simpa using q2
        by_cases q3 : t.stamp = u.stamp
        · have b3 : (t.stamp == u.stamp) = true := by simpa using q3
          rw [decide_eq_true ⟨q0, q1, q2, q3⟩]
          clear q0 q1 q2 q3
          go_enter Try.func70, Try.ntmps70
          go_wp2
          go_ret
          exact ⟨rfl, HG.out _ _⟩
        · have b3 : (t.stamp == u.stamp) = false := by simpa using q3
          rw [decide_eq_false (fun h => q3 h.2.2.2)]
          clear q0 q1 q2 q3
          go_enter Try.func70, Try.ntmps70
          go_wp2
          go_ret
          exact ⟨rfl, HG.out _ _⟩
      · have b2 : (t.place == u.place) = false := by simpa using q2
        rw [decide_eq_false (fun h => q2 h.2.2.1)]
        clear q0 q1 q2
        go_enter Try.func70, Try.ntmps70
        go_wp2
        go_ret
        exact ⟨rfl, HG.out _ _⟩
    · have b1 : (t.owner == u.owner) = false := by simpa using q1
      rw [decide_eq_false (fun h => q1 h.2.1)]
      clear q0 q1
      go_enter Try.func70, Try.ntmps70
      go_wp2
      go_ret
      exact ⟨rfl, HG.out _ _⟩
  · have b0 : (t.card == u.card) = false := by simpa using q0
    rw [decide_eq_false (fun h => q0 h.1)]
    clear q0
    go_enter Try.func70, Try.ntmps70
    go_wp2
    go_ret
    exact ⟨rfl, HG.out _ _⟩
end Go.Proofs.Ytogpgldbbegniaa
