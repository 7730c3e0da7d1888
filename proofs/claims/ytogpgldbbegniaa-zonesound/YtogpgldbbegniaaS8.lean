/-
  Zones: Move; whether a list holds just an owner's things in a place; what a thing keeps, how it may lie.
  Zones: how a thing may lie; Arrange, Make.
  Zones: Make.
-/
import Derived.Test.YtogpgldbbegniaaS7
namespace Go.Proofs.Ytogpgldbbegniaa
open Go.RowKit

theorem moveE_room {z : Zs} {n tp : Int} (h1 : 1 ≤ n ∧ n ≤ (z.ts.length : Int)) (h2 : 1 ≤ tp ∧ tp ≤ 5) : z.moveE n tp = if z.roomB n tp = true then 0 else 14 := by
  unfold Zs.moveE Zs.roomB
  rw [if_neg (fun q => q h1), if_neg (by omega)]
  by_cases e2 : tp = 2
  · subst e2
    by_cases a : (thAt z.ts n).place = 2
    · simp [a]
    · by_cases b : (z.hd (thAt z.ts n).owner).length < 10
      · have b2 : ¬ 10 ≤ (z.hd (thAt z.ts n).owner).length := by omega
        simp [a, b, b2]
      · have b2 : 10 ≤ (z.hd (thAt z.ts n).owner).length := by omega
        simp [a, b, b2]
  · by_cases e4 : tp = 4
    · subst e4
      by_cases a : (thAt z.ts n).place = 4
      · by_cases b : z.nx < 1099511627776
        · have b2 : ¬ 1099511627776 ≤ z.nx := by omega
          simp [a, b, b2]
        · have b2 : 1099511627776 ≤ z.nx := by omega
          simp [a, b, b2]
      · by_cases c : owned z.ts (thAt z.ts n).owner < 8
        · have c2 : ¬ 8 ≤ owned z.ts (thAt z.ts n).owner := by omega
          by_cases b : z.nx < 1099511627776
          · have b2 : ¬ 1099511627776 ≤ z.nx := by omega
            simp [a, b, b2, c, c2]
          · have b2 : 1099511627776 ≤ z.nx := by omega
            simp [a, b, b2, c, c2]
        · have c2 : 8 ≤ owned z.ts (thAt z.ts n).owner := by omega
          simp [a, c, c2]
    · simp [e2, e4]
set_option maxRecDepth 100000 in
set_option maxHeartbeats 4000000 in
theorem move_any (b : Nat) (Sb : List Nat) (z : Zs) (n tp : Int) (w : World) (Z : ZAt w b Sb z) (S : z.Sound) (hS : Old w Sb) : Calls Try.prog 26 #[.pointer (some ⟨b, 0, none⟩), .int .i64 n, .int .u8 tp] w (TnPost w b Sb (z.move n tp) (.int .i64 (z.moveE n tp))) := by
  have Z0 := Z
  obtain ⟨vt, d0, d1, h0, h1, Z⟩ := Z
  obtain ⟨c0, c1, c2, c3, c4, c5⟩ := Z.cell
  obtain ⟨pt, ct, rfl, _⟩ := Z.ts.at
  have M := made_yes b z.nx w c5 (nx_ne S)
  have HA := has_any b z.ts.length ct pt n w c0
  have IP := isPlace_any tp w
  by_cases q1 : 1 ≤ n ∧ n ≤ (z.ts.length : Int)
  · rw [decide_eq_true q1] at HA
    by_cases q2 : 1 ≤ tp ∧ tp ≤ 5
    · rw [decide_eq_true q2] at IP
      have HR := hasRoom_any b Sb z n tp w Z0 S q1
      have eE := moveE_room (z := z) (n := n) (tp := tp) q1 q2
      cases q3 : z.roomB n tp with
      | false =>
        rw [q3] at HR eE
        rw [if_neg (by decide)] at eE
        have em : z.move n tp = z := by unfold Zs.move; rw [eE]; rfl
        rw [eE, em]
        have HF : Hid (∀ w1, w.grownBy w1 none → TnPost w b Sb z (.int .i64 14) (.returned (.int .i64 14)) w1) := fun w1 g => ⟨rfl, Sb, Z0.grow g, Turn.of_grow g hS⟩
        clear Z Z0 S hS c0 c1 c2 c3 c4 c5 q1 q2 q3 eE em
        go_enter Try.func26, Try.ntmps26
        go_wp2_with (first | (go_at_call 61; refine M.mono ?_; rintro e w9 ⟨rfl, h⟩; obtain rfl : w = w9 := h.symm) | (go_at_call 62; refine HA.mono ?_; rintro e w9 ⟨rfl, h⟩; obtain rfl : w = w9 := h.symm) | (go_at_call 63; refine IP.mono ?_; rintro e w9 ⟨rfl, h⟩; obtain rfl : w = w9 := h.symm))
        refine HR.mono ?_
        rintro e w1 ⟨rfl, g1⟩
        have HF1 : Hid (TnPost w b Sb z (.int .i64 14) (.returned (.int .i64 14)) w1) := HF.out w1 g1
        clear g1 HF HR
        go_wp2
        go_ret
        exact HF1.out
      | true =>
        rw [q3] at HR eE
        rw [if_pos rfl] at eE
        have em : z.move n tp = z.come n tp := by unfold Zs.move; rw [eE]; rfl
        have my := moveE_may eE
        rw [eE, em]
        have HF : Hid (∀ w1, w.grownBy w1 none → Calls Try.prog 65 #[.pointer (some ⟨b, 0, none⟩), .int .i64 n, .int .u8 tp] w1 (TnPost w1 b Sb (z.come n tp) (.tuple #[]))) := fun w1 g => come_any b Sb z n tp w1 (Z0.grow g) (S.fine q1) (fun x hx => Nat.lt_of_lt_of_le (hS x hx) g.size) S.few (fun p hp => Nat.le_trans (S.deckFew hp) S.few) (fun p hp => Nat.le_trans (S.handFew hp) S.few) S.nx1 my.nx
        clear Z Z0 S hS c0 c1 c2 c3 c4 c5 q1 q2 q3 eE em my
        go_enter Try.func26, Try.ntmps26
        go_wp2_with (first | (go_at_call 61; refine M.mono ?_; rintro e w9 ⟨rfl, h⟩; obtain rfl : w = w9 := h.symm) | (go_at_call 62; refine HA.mono ?_; rintro e w9 ⟨rfl, h⟩; obtain rfl : w = w9 := h.symm) | (go_at_call 63; refine IP.mono ?_; rintro e w9 ⟨rfl, h⟩; obtain rfl : w = w9 := h.symm))
        refine HR.mono ?_
        rintro e w1 ⟨rfl, g1⟩
        have C := HF.out w1 g1
        have HG : Hid (w.grownBy w1 none) := g1
        clear g1 HF HR
        go_wp2_with fail
        refine C.mono ?_
        rintro e w2 ⟨rfl, S2, Z2, T2⟩
        have HF2 : Hid (TnPost w b Sb (z.come n tp) (.int .i64 0) (.returned (.int .i64 0)) w2) := ⟨rfl, S2, Z2, T2.pre HG.out⟩
        clear Z2 T2 C
        go_wp2
        go_ret
        exact HF2.out
    · rw [decide_eq_false q2] at IP
      have eE : z.moveE n tp = 2 := by unfold Zs.moveE; rw [if_neg (fun q => q q1), if_pos (by omega)]
      have em : z.move n tp = z := by unfold Zs.move; rw [eE]; rfl
      rw [eE, em]
      have HF : Hid (TnPost w b Sb z (.int .i64 2) (.returned (.int .i64 2)) w) := ⟨rfl, Sb, Z0, turn_refl hS⟩
      clear Z Z0 S hS c0 c1 c2 c3 c4 c5 q1 q2 eE em
      go_enter Try.func26, Try.ntmps26
      go_wp2_with (first | (go_at_call 61; refine M.mono ?_; rintro e w9 ⟨rfl, h⟩; obtain rfl : w = w9 := h.symm) | (go_at_call 62; refine HA.mono ?_; rintro e w9 ⟨rfl, h⟩; obtain rfl : w = w9 := h.symm) | (go_at_call 63; refine IP.mono ?_; rintro e w9 ⟨rfl, h⟩; obtain rfl : w = w9 := h.symm))
      go_ret
      exact HF.out
  · rw [decide_eq_false q1] at HA
    have eE : z.moveE n tp = 6 := by unfold Zs.moveE; rw [if_pos q1]
    have em : z.move n tp = z := by unfold Zs.move; rw [eE]; rfl
    rw [eE, em]
    have HF : Hid (TnPost w b Sb z (.int .i64 6) (.returned (.int .i64 6)) w) := ⟨rfl, Sb, Z0, turn_refl hS⟩
    clear Z Z0 S hS c0 c1 c2 c3 c4 c5 q1 eE em
    go_enter Try.func26, Try.ntmps26
    go_wp2_with (first | (go_at_call 61; refine M.mono ?_; rintro e w9 ⟨rfl, h⟩; obtain rfl : w = w9 := h.symm) | (go_at_call 62; refine HA.mono ?_; rintro e w9 ⟨rfl, h⟩; obtain rfl : w = w9 := h.symm) | (go_at_call 63; refine IP.mono ?_; rintro e w9 ⟨rfl, h⟩; obtain rfl : w = w9 := h.symm))
    go_ret
    exact HF.out
/-- What holdsJust answers. -/
def HjPost (w : World) (ts : List Th) (l : List Int) (p pl : Int) (e : Ending) (w' : World) : Prop := ∃ r : Bool, e = .returned (.bool r) ∧ (r = true ↔ Holds ts l p pl) ∧ w.grownBy w' none
set_option maxRecDepth 100000 in
set_option maxHeartbeats 4000000 in
theorem holdsJust_any (b : Nat) (vt v : Value) (ts : List Th) (l : List Int) (p pl : Int) (w : World) (c0 : w.cell? ⟨b, 0, none⟩ = some vt) (T : ThsAt w vt ts) (hf : ts.length ≤ 2048) (hl : IntsA w v l) : Calls Try.prog 72 #[.pointer (some ⟨b, 0, none⟩), v, .int .i64 p, .int .u8 pl] w (HjPost w ts l p pl) := by
  have C := numbers_any b vt ts p pl w c0 T hf
  have hlen := numsOf_len ts p pl
  have HH : Hid (Holds ts l p pl ↔ srt l = numsOf ts p pl) := holds_srt
  have HHl : Hid (Holds ts l p pl → l.length = (numsOf ts p pl).length) := holds_len
  obtain ⟨A, hA⟩ : ∃ A, A = numsOf ts p pl := ⟨_, rfl⟩
  rw [← hA] at C hlen HH HHl
  obtain ⟨pv, cv, ev, _⟩ := hl.src
  have HI : Hid (IntsA w v l) := hl
  rw [ev] at HI ⊢
  clear c0 T hA ev hl
  by_cases hn : l.length = A.length
  · have HN : Hid (l.length = A.length) := hn
    have hb : ((l.length : Int) == (A.length : Int)) = true := by rw [hn]; simp
    have hb2 : ((l.length : Int) != (A.length : Int)) = false := by simp [bne, hb]
    have HB : Hid (l.length ≤ 2048) := by show l.length ≤ 2048; omega
    clear hn hlen hf
    go_enter Try.func72, Try.ntmps72
    go_wp2_with fail
    refine C.mono ?_
    rintro e w1 ⟨v1, rfl, o1, g1⟩
    obtain ⟨p1, q1, rfl⟩ := o1.form
    have HO1 : Hid (w1.ownsRow w.heap.size 3 1 (.slice p1 A.length q1) A.length (ints A)) := o1
    have HG1 : Hid (w.grownBy w1 none) := g1
    have C2 := ownI_any _ l w1 (HI.out.keep g1) (by have := HB.out; omega)
    clear o1 g1 C
    go_wp2_with fail
    refine C2.mono ?_
    rintro e w2 ⟨rfl, o2, g2⟩
    have C3 := sortI_any w1.heap.size w1.heap.size l.length l.length l w2 o2 rfl (by have := HB.out; omega)
    have HO2 : Hid (w2.ownsRow w.heap.size 3 1 (.slice p1 A.length q1) A.length (ints A)) := own_grow HO1.out g2
    have HG2 : Hid (w.grownBy w2 none) := grown_trans HG1.out g2
    have HS1 : Hid (w.heap.size ≤ w1.heap.size ∧ ∀ x, (Value.slice p1 A.length q1).ownBlock = some x → x < w1.heap.size) := ⟨HG1.out.size, own_lt HO1.out⟩
    clear o2 g2 C2
    go_wp2_with fail
    refine C3.mono ?_
    rintro e w3 ⟨rfl, o3, g3⟩
    have HO3 : Hid (w3.ownsRow w.heap.size 3 1 (.slice p1 A.length q1) A.length (ints A)) := World.ownsRow.kept HO2.out g3 (by
      cases hq : (Value.slice p1 A.length q1).ownBlock with
      | none => exact Or.inl rfl
      | some x => exact Or.inr fun e => by cases e; have := HS1.out.2 _ hq; omega)
    have HG3 : Hid (w.grownBy w3 none) := grown_own HG2.out g3 (fun x e => by cases e; exact HS1.out.1)
    have C4 := equalI_any w1.heap.size l.length A.length l.length (.slice p1 A.length q1) w1.heap.size w.heap.size (srt l) A w3 o3 (srt_len l) HO3.out rfl
    clear o3 g3 C3
    obtain ⟨r, hr⟩ : ∃ r, r = decide (srt l = A) := ⟨_, rfl⟩
    have HR : Hid (r = true ↔ srt l = A) := by show r = true ↔ _; rw [hr]; exact decide_eq_true_iff
    rw [← hr] at C4
    clear hr
    go_wp2_with fail
    refine C4.mono ?_
    rintro e w4 ⟨rfl, g4⟩
    have HF : Hid (HjPost w ts l p pl (.returned (.bool r)) w4) := ⟨r, rfl, HR.out.trans HH.out.symm, grown_trans HG3.out g4⟩
    clear g4 C4
    go_wp2_with fail
    go_ret
    exact HF.out
  · have hb : ((l.length : Int) == (A.length : Int)) = false := by
      have : ¬ ((l.length : Int) = (A.length : Int)) := by omega
      simpa using this
    have hb2 : ((l.length : Int) != (A.length : Int)) = true := by simp [bne, hb]
    have HF : Hid (∀ w1, w.grownBy w1 none → HjPost w ts l p pl (.returned (.bool false)) w1) := fun w1 g => ⟨false, rfl, ⟨fun q => (by cases q), fun q => absurd (HHl.out q) hn⟩, g⟩
    clear hn hlen hf
    go_enter Try.func72, Try.ntmps72
    go_wp2_with fail
    refine C.mono ?_
    rintro e w1 ⟨v1, rfl, o1, g1⟩
    obtain ⟨p1, q1, rfl⟩ := o1.form
    have HF1 : Hid (HjPost w ts l p pl (.returned (.bool false)) w1) := HF.out w1 g1
    clear o1 g1 C HF
    go_wp2_with fail
    go_ret
    exact HF1.out
set_option maxRecDepth 100000 in
set_option maxHeartbeats 4000000 in
theorem keeps_any (t u : Th) (w : World) : Calls Try.prog 70 #[thv t, thv u] w fun e w' => e = .returned (.bool (decide (t.card = u.card ∧ t.owner = u.owner ∧ t.place = u.place ∧ t.stamp = u.stamp))) ∧ w.grownBy w' none := by
  have HG : Hid (∀ o o', w.grownBy ((w.alloc o).alloc o') none) := fun o o' => grown_push (World.grownBy_alloc _ _ none) _
  unfold thv
  by_cases q0 : t.card = u.card
  · have b0 : (t.card == u.card) = true := by simpa using q0
    by_cases q1 : t.owner = u.owner
    · have b1 : (t.owner == u.owner) = true := by simpa using q1
      by_cases q2 : t.place = u.place
      · have b2 : (t.place == u.place) = true := by simpa using q2
        by_cases q3 : t.stamp = u.stamp
        · have b3 : (t.stamp == u.stamp) = true := by simpa using q3
          rw [decide_eq_true ⟨q0, q1, q2, q3⟩]
          clear q0 q1 q2 q3
          go_enter Try.func70, Try.ntmps70
          go_wp2
          go_ret
          exact ⟨rfl, HG.out _ _⟩
        · have b3 : (t.stamp == u.stamp) = false := by simpa using q3
          rw [decide_eq_false (fun h => q3 h.2.2.2)]
          clear q0 q1 q2 q3
          go_enter Try.func70, Try.ntmps70
          go_wp2
          go_ret
          exact ⟨rfl, HG.out _ _⟩
      · have b2 : (t.place == u.place) = false := by simpa using q2
        rw [decide_eq_false (fun h => q2 h.2.2.1)]
        clear q0 q1 q2
        go_enter Try.func70, Try.ntmps70
        go_wp2
        go_ret
        exact ⟨rfl, HG.out _ _⟩
    · have b1 : (t.owner == u.owner) = false := by simpa using q1
      rw [decide_eq_false (fun h => q1 h.2.1)]
      clear q0 q1
      go_enter Try.func70, Try.ntmps70
      go_wp2
      go_ret
      exact ⟨rfl, HG.out _ _⟩
  · have b0 : (t.card == u.card) = false := by simpa using q0
    rw [decide_eq_false (fun h => q0 h.1)]
    clear q0
    go_enter Try.func70, Try.ntmps70
    go_wp2
    go_ret
    exact ⟨rfl, HG.out _ _⟩
end Go.Proofs.Ytogpgldbbegniaa
namespace Go.Proofs.Ytogpgldbbegniaa
open Go.RowKit

/-- May a thing lie so? -/
def Th.lies (t : Th) : Prop := t.marked ∧ 0 ≤ t.hurt ∧ 0 ≤ t.done
theorem mk4 (a b c d : Value) (k : Nat) (hk : k < 4) (w : World) : (Instr.index 36 (.agg #[a, b, c, d]) (.int .i64 (k : Int))).run Try.prog w = .ok ([a, b, c, d].getD k undef) w := by
  rcases (show k = 0 ∨ k = 1 ∨ k = 2 ∨ k = 3 from by omega) with rfl | rfl | rfl | rfl <;> kernel_rfl
def mkAt (t : Th) (k : Nat) : Int := [t.m0, t.m1, t.m2, t.m3].getD k 0
theorem marked_iff (t : Th) : t.marked ↔ ∀ k, k < 4 → 0 ≤ mkAt t k ∧ mkAt t k ≤ 99 := by
  unfold Th.marked
  constructor
  · intro h k hk
    rcases (show k = 0 ∨ k = 1 ∨ k = 2 ∨ k = 3 from by omega) with rfl | rfl | rfl | rfl
    · exact h.1
    · exact h.2.1
    · exact h.2.2.1
    · exact h.2.2.2
  · intro h
    exact ⟨h 0 (by omega), h 1 (by omega), h 2 (by omega), h 3 (by omega)⟩
def LiPost (w : World) (t : Th) (e : Ending) (w' : World) : Prop := ∃ r : Bool, e = .returned (.bool r) ∧ (r = true ↔ t.lies) ∧ w.grownBy w' none
set_option maxRecDepth 100000 in
set_option maxHeartbeats 4000000 in
theorem mayLie_any (t : Th) (w : World) : Calls Try.prog 71 #[thv t] w (LiPost w t) := by
  unfold thv
  obtain ⟨V, hV⟩ : ∃ V, V = w.alloc (.cells #[.int .i64 t.card, .int .i64 t.owner, .int .u8 t.place, .int .i64 t.stamp, .int .i64 t.hurt, .int .i64 t.m0, .int .i64 t.m1, .int .i64 t.m2, .int .i64 t.m3, .int .i64 t.done, .bool t.fresh] 38) := ⟨_, rfl⟩
  have HV : Hid (V = w.alloc (.cells #[.int .i64 t.card, .int .i64 t.owner, .int .u8 t.place, .int .i64 t.stamp, .int .i64 t.hurt, .int .i64 t.m0, .int .i64 t.m1, .int .i64 t.m2, .int .i64 t.m3, .int .i64 t.done, .bool t.fresh] 38)) := hV
  have HG : Hid (w.grownBy V none) := by show w.grownBy V none; rw [hV]; exact World.grownBy_alloc _ _ _
  have x4 : V.cell? ⟨w.heap.size, 4, none⟩ = some (.int .i64 t.hurt) := by rw [hV, block_cell (alloc_at _ _ _)]; rfl
  have x9 : V.cell? ⟨w.heap.size, 9, none⟩ = some (.int .i64 t.done) := by rw [hV, block_cell (alloc_at _ _ _)]; rfl
  clear hV
  go_enter Try.func71, Try.ntmps71
  go_wp2
  rw [← HV.out]
  go_loopw [4, 7] (fun _ i wr => ∃ k : Nat, k ≤ 4 ∧ i = .int .i64 (k : Int) ∧ wr = V ∧ ∀ j, j < k → 0 ≤ mkAt t j ∧ mkAt t j ≤ 99) (fun _ i _ => 4 - (intOf i).toNat)
  case atStart => exact ⟨0, Nat.zero_le _, rfl, rfl, fun j hj => absurd hj (Nat.not_lt_zero _)⟩
  case round =>
    obtain ⟨k, hk, rfl, rfl, hall⟩ := hrel
    have HA : Hid (∀ j, j < k → 0 ≤ mkAt t j ∧ mkAt t j ≤ 99) := hall
    clear hall
    by_cases h4 : k < 4
    · have hix := mk4 (.int .i64 t.m0) (.int .i64 t.m1) (.int .i64 t.m2) (.int .i64 t.m3) k h4
      have hv : [Value.int .i64 t.m0, .int .i64 t.m1, .int .i64 t.m2, .int .i64 t.m3].getD k undef = .int .i64 (mkAt t k) := by
        rcases (show k = 0 ∨ k = 1 ∨ k = 2 ∨ k = 3 from by omega) with rfl | rfl | rfl | rfl <;> rfl
      rw [hv] at hix
      obtain ⟨m, hm⟩ : ∃ m, m = mkAt t k := ⟨_, rfl⟩
      have HM : Hid (m = mkAt t k) := hm
      rw [← hm] at hix
      have h4' : (k : Int) < 4 := by omega
      have hwk : wrap64 ((k : Int) + 1) = (k : Int) + 1 := by unfold wrap64; omega
      have HP : Hid (k + 1 ≤ 4) := h4
      have HMe : Hid (4 - (intOf (.int .i64 ((k : Int) + 1))).toNat < 4 - (intOf (.int .i64 (k : Int))).toNat) := meas_next h4
      have HNo : Hid (¬ (0 ≤ m ∧ m ≤ 99) → LiPost w t (.returned (.bool false)) wr) := fun q => ⟨false, rfl, ⟨fun h => (by cases h), fun h => absurd ((marked_iff t).1 h.1 k h4) (by rw [← hm]; exact q)⟩, HG.out⟩
      clear hm hv HV hk
      by_cases q1 : m < 0
      · have HF : Hid (LiPost w t (.returned (.bool false)) wr) := HNo.out (by omega)
        clear HNo
        go_wp2
        go_ret
        exact HF.out
      · have d1 : decide (m < 0) = false := decide_eq_false q1
        by_cases q2 : m > 99
        · have HF : Hid (LiPost w t (.returned (.bool false)) wr) := HNo.out (by omega)
          clear HNo
          go_wp2
          go_ret
          exact HF.out
        · have d2 : decide (m > 99) = false := decide_eq_false q2
          have d3 : decide (99 < m) = false := decide_eq_false q2
          have HR : Hid (∀ j, j < k + 1 → 0 ≤ mkAt t j ∧ mkAt t j ≤ 99) := by
            intro j hj
            rcases (show j < k ∨ j = k from by omega) with h | h
            · exact HA.out j h
            · rw [h, ← HM.out]; omega
          clear HNo HA
          go_wp2
          go_roundw
          case rel => exact ⟨k + 1, HP.out, by first | rfl | (rw [hwk]; rfl) | go_num, by first | exact trivial | rfl, HR.out⟩
          case measure => first | exact HMe.out | (rw [hwk]; exact HMe.out)
    · obtain rfl : k = 4 := by omega
      have HMk : Hid t.marked := (marked_iff t).2 HA.out
      clear HA HV hk
      by_cases q1 : 0 ≤ t.hurt
      · by_cases q2 : 0 ≤ t.done
        · have HF : Hid (LiPost w t (.returned (.bool true)) wr) := ⟨true, rfl, ⟨fun _ => ⟨HMk.out, q1, q2⟩, fun _ => rfl⟩, HG.out⟩
          go_wp2
          go_ret
          exact HF.out
        · have d2 : decide (t.done ≥ 0) = false := decide_eq_false q2
          have d3 : decide (0 ≤ t.done) = false := decide_eq_false q2
          have HF : Hid (LiPost w t (.returned (.bool false)) wr) := ⟨false, rfl, ⟨fun h => (by cases h), fun h => absurd h.2.2 q2⟩, HG.out⟩
          go_wp2
          go_ret
          exact HF.out
      · have d2 : decide (t.hurt ≥ 0) = false := decide_eq_false q1
        have d3 : decide (0 ≤ t.hurt) = false := decide_eq_false q1
        have HF : Hid (LiPost w t (.returned (.bool false)) wr) := ⟨false, rfl, ⟨fun h => (by cases h), fun h => absurd h.2.1 q1⟩, HG.out⟩
        go_wp2
        go_ret
        exact HF.out
/-- What Arrange answers. -/
def ArPost (w : World) (b : Nat) (S : List Nat) (z : Zs) (p : Int) (l : List Int) (e : Ending) (w' : World) : Prop := ∃ ok : Bool, e = .returned (.int .i64 (if ok = true then 0 else 2)) ∧ (ok = true ↔ (p = 0 ∨ p = 1) ∧ Holds z.ts l p 1) ∧ ∃ S', ZAt w' b S' (if ok = true then z.arrange p l else z) ∧ Turn w w' S S'
set_option maxRecDepth 100000 in
set_option maxHeartbeats 4000000 in
theorem arrange_nobody (b : Nat) (Sb : List Nat) (z : Zs) (p : Int) (v : Value) (l : List Int) (w : World) (Z : ZAt w b Sb z) (S : z.Sound) (hS : Old w Sb) (hl : IntsA w v l) (hp : ¬ (p = 0 ∨ p = 1)) : Calls Try.prog 34 #[.pointer (some ⟨b, 0, none⟩), .int .i64 p, v] w (ArPost w b Sb z p l) := by
  have Z0 := Z
  obtain ⟨vt, d0, d1, h0, h1, Z⟩ := Z
  obtain ⟨c0, c1, c2, c3, c4, c5⟩ := Z.cell
  have M := made_yes b z.nx w c5 (nx_ne S)
  have OW := isOwner_any p w
  rw [decide_eq_false hp] at OW
  obtain ⟨pv, cv, rfl, _⟩ := hl.src
  have HF : Hid (ArPost w b Sb z p l (.returned (.int .i64 2)) w) := ⟨false, rfl, ⟨fun q => (by cases q), fun q => absurd q.1 hp⟩, Sb, Z0, turn_refl hS⟩
  clear Z Z0 S hS c0 c1 c2 c3 c4 c5 hl hp
  go_enter Try.func34, Try.ntmps34
  go_wp2_with (first | (go_at_call 61; refine M.mono ?_; rintro e w9 ⟨rfl, h⟩; obtain rfl : w = w9 := h.symm) | (go_at_call 68; refine OW.mono ?_; rintro e w9 ⟨rfl, h⟩; obtain rfl : w = w9 := h.symm))
  go_ret
  exact HF.out
set_option maxRecDepth 100000 in
set_option maxHeartbeats 4000000 in
theorem arrange_0 (b : Nat) (Sb : List Nat) (z : Zs) (v : Value) (l : List Int) (w : World) (Z : ZAt w b Sb z) (S : z.Sound) (hS : Old w Sb) (hl : IntsA w v l) : Calls Try.prog 34 #[.pointer (some ⟨b, 0, none⟩), .int .i64 0, v] w (ArPost w b Sb z 0 l) := by
  obtain ⟨p, hp⟩ : ∃ p : Int, p = 0 := ⟨_, rfl⟩
  have Z0 := Z
  obtain ⟨vt, d0, d1, h0, h1, Z⟩ := Z
  obtain ⟨c0, c1, c2, c3, c4, c5⟩ := Z.cell
  have M := made_yes b z.nx w c5 (nx_ne S)
  have OW := isOwner_any p w
  rw [decide_eq_true (by omega)] at OW
  have HJ := holdsJust_any b vt v z.ts l p 1 w c0 Z.ts.at S.few hl
  subst hp
  obtain ⟨pv, cv, ev, _⟩ := hl.src
  have HI : Hid (IntsA w v l) := hl
  rw [ev] at HJ HI ⊢
  have HSo : Hid (Old w Sb) := hS
  have HZ0 : Hid (ZAt w b Sb z) := Z0
  have HZ : Hid (ZG 93 [] w b Sb z vt d0 d1 h0 h1) := Z
  have HLl : Hid (Holds z.ts l 0 1 → l.length ≤ 2048) := fun q => by rw [holds_len q]; exact Nat.le_trans (numsOf_len _ _ _) S.few
  clear Z Z0 S hS c0 c1 c2 c3 c4 c5 hl ev
  go_enter Try.func34, Try.ntmps34
  go_wp2_with (first | (go_at_call 61; refine M.mono ?_; rintro e w9 ⟨rfl, h⟩; obtain rfl : w = w9 := h.symm) | (go_at_call 68; refine OW.mono ?_; rintro e w9 ⟨rfl, h⟩; obtain rfl : w = w9 := h.symm))
  refine HJ.mono ?_
  rintro e w1 ⟨r, rfl, hr, g1⟩
  have HG1 : Hid (w.grownBy w1 none) := g1
  have HR : Hid (r = true ↔ Holds z.ts l 0 1) := hr
  clear hr g1 HJ
  cases r with
  | false =>
    have HF : Hid (ArPost w b Sb z 0 l (.returned (.int .i64 2)) w1) := ⟨false, rfl, ⟨fun q => (by cases q), fun q => absurd (HR.out.2 q.2) (by decide)⟩, Sb, HZ0.out.grow HG1.out, Turn.of_grow HG1.out HSo.out⟩
    go_wp2_with fail
    go_ret
    exact HF.out
  | true =>
    have HHj : Hid (Holds z.ts l 0 1) := HR.out.1 rfl
    clear HR
    have CO := ownI_any _ l w1.drew (HI.out.keep (grown_trans HG1.out (grown_drew _))) (by have := HLl.out HHj.out; omega)
    have HS1 : Hid (w.heap.size ≤ w1.drew.heap.size) := HG1.out.size
    go_upto_region 5 with fail
    refine wp_region_held_drew (S := fun _ => True) (by kernel_rfl) (trivial) (fun hHeld => ?_)
    refine wpAnyH_take (i := 0) (v := ?_) rfl (by kernel_rfl) (by kernel_rfl) (by kernel_rfl) (fun _ _ _ h => h) (Or.inl ⟨by rfl, ?_⟩) (by assumption) ?_
    rotate_left 1
    · (intro w0 hSw; go_simp; try with_reducible rfl)
    simp only [List.getElem_toArray, List.getElem_cons_zero]
    go_frame
    refine wpAnyH_take (i := 1) (v := ?_) rfl (by kernel_rfl) (by kernel_rfl) (by kernel_rfl) (fun _ _ _ h => h) (Or.inl ⟨by rfl, ?_⟩) (by assumption) ?_
    rotate_left 1
    · (intro w0 hSw; go_simp; try with_reducible rfl)
    simp only [List.getElem_toArray, List.getElem_cons_zero, List.getElem_cons_succ]
    go_frame
    refine wpAnyH_take (i := 2) (v := ?_) rfl (by kernel_rfl) (by kernel_rfl) (by kernel_rfl) (fun _ _ _ h => h) (Or.inl ⟨by rfl, ?_⟩) (by assumption) ?_
    rotate_left 1
    · (intro w0 hSw; go_simp; try with_reducible rfl)
    simp only [List.getElem_toArray, List.getElem_cons_zero, List.getElem_cons_succ]
    go_frame
    refine wpAnyH_take (i := 4) (v := ?_) rfl (by kernel_rfl) (by kernel_rfl) (by kernel_rfl) (fun _ _ _ h => h) (Or.inl ⟨by rfl, ?_⟩) (by assumption) ?_
    rotate_left 1
    · (intro w0 hSw; go_simp; try with_reducible rfl)
    simp only [List.getElem_toArray, List.getElem_cons_zero, List.getElem_cons_succ]
    go_frame
    refine wpAnyH_take (i := 5) (v := ?_) rfl (by kernel_rfl) (by kernel_rfl) (by kernel_rfl) (fun _ _ _ h => h) (Or.inl ⟨by rfl, ?_⟩) (by assumption) ?_
    rotate_left 1
    · (intro w0 hSw; go_simp; try with_reducible rfl)
    simp only [List.getElem_toArray, List.getElem_cons_zero, List.getElem_cons_succ]
    go_frame
    refine wpAnyH_ready (rs := [3]) (by kernel_rfl) (by simp) ?_
    refine AllReadyH.cons rfl (fun K hK => ?_) AllReadyH.nil
    simp only [List.getElem_toArray, List.getElem_cons_zero, List.getElem_cons_succ]
    go_simp
    go_at_call 73
    refine (CO).mono ?_
    rintro e w2 ⟨rfl, o2, g2⟩
    have HO2 : Hid (OwnI w2 w1.drew.heap.size (.slice (some ⟨w1.drew.heap.size, 0, none⟩) l.length l.length) l) := o2
    have HG2 : Hid (w.grownBy w2 none) := grown_trans HG1.out (grown_trans (grown_drew w1) g2)
    have t2 : w2.cell? ⟨b, 1, none⟩ = some d0 := (HZ.out.grow HG2.out).cell.2.1
    have f2 : w2.frozen? ⟨b, 1, none⟩ = false := (HZ.out.grow HG2.out).free 1
    clear o2 g2 CO
    refine hK.out _ _ (trivial) (fun hHeld2 => ?_)
    clear hK K
    (try go_frame)
    refine wpAnyH_take (i := 6) (v := ?_) rfl (by kernel_rfl) (by kernel_rfl) (by kernel_rfl) (fun _ _ _ h => h) (Or.inl ⟨by rfl, ?_⟩) (by assumption) ?_
    rotate_left 1
    · (intro w0 hSw; go_simp; try with_reducible rfl)
    simp only [List.getElem_toArray, List.getElem_cons_zero, List.getElem_cons_succ]
    go_frame
    refine wpAnyH_ready (rs := [7]) (by kernel_rfl) (by simp) ?_
    refine AllReadyH.cons rfl (fun K9 hK => ?_) AllReadyH.nil
    simp only [List.getElem_toArray, List.getElem_cons_zero, List.getElem_cons_succ]
    go_simp
    refine hK.out _ _ (trivial) (fun hHeld3 => ?_)
    clear hK K9
    (try go_frame)
    refine wpAnyH_done (by kernel_rfl) ?_ _
    have L2 : (Value.slice (some ⟨w1.drew.heap.size, 0, none⟩) l.length l.length).ownBlock = d0.ownBlock ∨ ∀ x, (Value.slice (some ⟨w1.drew.heap.size, 0, none⟩) l.length l.length).ownBlock = some x → w.heap.size ≤ x := Or.inr fun x hx => Nat.le_trans HS1.out (World.ownsRow.lt HO2.out x hx).1
    have P := HZ.out.pairs
    have Z3 := (HZ.out.grow HG2.out).set_d0 tgs_z (own_zero HO2.out) (apart_new L2 P.1.1 HZ.out.od1) (apart_new L2 P.1.2.1 HZ.out.oh0) (apart_new L2 P.1.2.2 HZ.out.oh1)
    have HF : Hid (ArPost w b Sb z 0 l (.returned (.int .i64 0)) (w2.setCell ⟨b, 1, none⟩ (.slice (some ⟨w1.drew.heap.size, 0, none⟩) l.length l.length))) := by
      refine ⟨true, rfl, ⟨fun _ => ⟨by decide, HHj.out⟩, fun _ => rfl⟩, _, ⟨_, _, _, _, _, Z3⟩, ?_⟩
      exact turn_more HG2.out (kpt_set _ _ _ _) HZ.out.inb HSo.out L2 (fun x hx => HZ.out.inS d0 (by simp) x hx) (own_lt HO2.out)
    clear Z3 P L2
    go_wp2
    go_ret
    exact HF.out
set_option maxRecDepth 100000 in
set_option maxHeartbeats 4000000 in
theorem arrange_1 (b : Nat) (Sb : List Nat) (z : Zs) (v : Value) (l : List Int) (w : World) (Z : ZAt w b Sb z) (S : z.Sound) (hS : Old w Sb) (hl : IntsA w v l) : Calls Try.prog 34 #[.pointer (some ⟨b, 0, none⟩), .int .i64 1, v] w (ArPost w b Sb z 1 l) := by
  obtain ⟨p, hp⟩ : ∃ p : Int, p = 1 := ⟨_, rfl⟩
  have Z0 := Z
  obtain ⟨vt, d0, d1, h0, h1, Z⟩ := Z
  obtain ⟨c0, c1, c2, c3, c4, c5⟩ := Z.cell
  have M := made_yes b z.nx w c5 (nx_ne S)
  have OW := isOwner_any p w
  rw [decide_eq_true (by omega)] at OW
  have HJ := holdsJust_any b vt v z.ts l p 1 w c0 Z.ts.at S.few hl
  subst hp
  obtain ⟨pv, cv, ev, _⟩ := hl.src
  have HI : Hid (IntsA w v l) := hl
  rw [ev] at HJ HI ⊢
  have HSo : Hid (Old w Sb) := hS
  have HZ0 : Hid (ZAt w b Sb z) := Z0
  have HZ : Hid (ZG 93 [] w b Sb z vt d0 d1 h0 h1) := Z
  have HLl : Hid (Holds z.ts l 1 1 → l.length ≤ 2048) := fun q => by rw [holds_len q]; exact Nat.le_trans (numsOf_len _ _ _) S.few
  clear Z Z0 S hS c0 c1 c2 c3 c4 c5 hl ev
  go_enter Try.func34, Try.ntmps34
  go_wp2_with (first | (go_at_call 61; refine M.mono ?_; rintro e w9 ⟨rfl, h⟩; obtain rfl : w = w9 := h.symm) | (go_at_call 68; refine OW.mono ?_; rintro e w9 ⟨rfl, h⟩; obtain rfl : w = w9 := h.symm))
  refine HJ.mono ?_
  rintro e w1 ⟨r, rfl, hr, g1⟩
  have HG1 : Hid (w.grownBy w1 none) := g1
  have HR : Hid (r = true ↔ Holds z.ts l 1 1) := hr
  clear hr g1 HJ
  cases r with
  | false =>
    have HF : Hid (ArPost w b Sb z 1 l (.returned (.int .i64 2)) w1) := ⟨false, rfl, ⟨fun q => (by cases q), fun q => absurd (HR.out.2 q.2) (by decide)⟩, Sb, HZ0.out.grow HG1.out, Turn.of_grow HG1.out HSo.out⟩
    go_wp2_with fail
    go_ret
    exact HF.out
  | true =>
    have HHj : Hid (Holds z.ts l 1 1) := HR.out.1 rfl
    clear HR
    have CO := ownI_any _ l w1.drew (HI.out.keep (grown_trans HG1.out (grown_drew _))) (by have := HLl.out HHj.out; omega)
    have HS1 : Hid (w.heap.size ≤ w1.drew.heap.size) := HG1.out.size
    go_upto_region 5 with fail
    refine wp_region_held_drew (S := fun _ => True) (by kernel_rfl) (trivial) (fun hHeld => ?_)
    refine wpAnyH_take (i := 0) (v := ?_) rfl (by kernel_rfl) (by kernel_rfl) (by kernel_rfl) (fun _ _ _ h => h) (Or.inl ⟨by rfl, ?_⟩) (by assumption) ?_
    rotate_left 1
    · (intro w0 hSw; go_simp; try with_reducible rfl)
    simp only [List.getElem_toArray, List.getElem_cons_zero]
    go_frame
    refine wpAnyH_take (i := 1) (v := ?_) rfl (by kernel_rfl) (by kernel_rfl) (by kernel_rfl) (fun _ _ _ h => h) (Or.inl ⟨by rfl, ?_⟩) (by assumption) ?_
    rotate_left 1
    · (intro w0 hSw; go_simp; try with_reducible rfl)
    simp only [List.getElem_toArray, List.getElem_cons_zero, List.getElem_cons_succ]
    go_frame
    refine wpAnyH_take (i := 2) (v := ?_) rfl (by kernel_rfl) (by kernel_rfl) (by kernel_rfl) (fun _ _ _ h => h) (Or.inl ⟨by rfl, ?_⟩) (by assumption) ?_
    rotate_left 1
    · (intro w0 hSw; go_simp; try with_reducible rfl)
    simp only [List.getElem_toArray, List.getElem_cons_zero, List.getElem_cons_succ]
    go_frame
    refine wpAnyH_take (i := 4) (v := ?_) rfl (by kernel_rfl) (by kernel_rfl) (by kernel_rfl) (fun _ _ _ h => h) (Or.inl ⟨by rfl, ?_⟩) (by assumption) ?_
    rotate_left 1
    · (intro w0 hSw; go_simp; try with_reducible rfl)
    simp only [List.getElem_toArray, List.getElem_cons_zero, List.getElem_cons_succ]
    go_frame
    refine wpAnyH_take (i := 5) (v := ?_) rfl (by kernel_rfl) (by kernel_rfl) (by kernel_rfl) (fun _ _ _ h => h) (Or.inl ⟨by rfl, ?_⟩) (by assumption) ?_
    rotate_left 1
    · (intro w0 hSw; go_simp; try with_reducible rfl)
    simp only [List.getElem_toArray, List.getElem_cons_zero, List.getElem_cons_succ]
    go_frame
    refine wpAnyH_ready (rs := [3]) (by kernel_rfl) (by simp) ?_
    refine AllReadyH.cons rfl (fun K hK => ?_) AllReadyH.nil
    simp only [List.getElem_toArray, List.getElem_cons_zero, List.getElem_cons_succ]
    go_simp
    go_at_call 73
    refine (CO).mono ?_
    rintro e w2 ⟨rfl, o2, g2⟩
    have HO2 : Hid (OwnI w2 w1.drew.heap.size (.slice (some ⟨w1.drew.heap.size, 0, none⟩) l.length l.length) l) := o2
    have HG2 : Hid (w.grownBy w2 none) := grown_trans HG1.out (grown_trans (grown_drew w1) g2)
    have t2 : w2.cell? ⟨b, 2, none⟩ = some d1 := (HZ.out.grow HG2.out).cell.2.2.1
    have f2 : w2.frozen? ⟨b, 2, none⟩ = false := (HZ.out.grow HG2.out).free 2
    clear o2 g2 CO
    refine hK.out _ _ (trivial) (fun hHeld2 => ?_)
    clear hK K
    (try go_frame)
    refine wpAnyH_take (i := 6) (v := ?_) rfl (by kernel_rfl) (by kernel_rfl) (by kernel_rfl) (fun _ _ _ h => h) (Or.inl ⟨by rfl, ?_⟩) (by assumption) ?_
    rotate_left 1
    · (intro w0 hSw; go_simp; try with_reducible rfl)
    simp only [List.getElem_toArray, List.getElem_cons_zero, List.getElem_cons_succ]
    go_frame
    refine wpAnyH_ready (rs := [7]) (by kernel_rfl) (by simp) ?_
    refine AllReadyH.cons rfl (fun K9 hK => ?_) AllReadyH.nil
    simp only [List.getElem_toArray, List.getElem_cons_zero, List.getElem_cons_succ]
    go_simp
    refine hK.out _ _ (trivial) (fun hHeld3 => ?_)
    clear hK K9
    (try go_frame)
    refine wpAnyH_done (by kernel_rfl) ?_ _
    have L2 : (Value.slice (some ⟨w1.drew.heap.size, 0, none⟩) l.length l.length).ownBlock = d1.ownBlock ∨ ∀ x, (Value.slice (some ⟨w1.drew.heap.size, 0, none⟩) l.length l.length).ownBlock = some x → w.heap.size ≤ x := Or.inr fun x hx => Nat.le_trans HS1.out (World.ownsRow.lt HO2.out x hx).1
    have P := HZ.out.pairs
    have Z3 := (HZ.out.grow HG2.out).set_d1 tgs_z (own_zero HO2.out) (apart_new L2 P.1.1.symm HZ.out.od0) (apart_new L2 P.2.1.1 HZ.out.oh0) (apart_new L2 P.2.1.2 HZ.out.oh1)
    have HF : Hid (ArPost w b Sb z 1 l (.returned (.int .i64 0)) (w2.setCell ⟨b, 2, none⟩ (.slice (some ⟨w1.drew.heap.size, 0, none⟩) l.length l.length))) := by
      refine ⟨true, rfl, ⟨fun _ => ⟨by decide, HHj.out⟩, fun _ => rfl⟩, _, ⟨_, _, _, _, _, Z3⟩, ?_⟩
      exact turn_more HG2.out (kpt_set _ _ _ _) HZ.out.inb HSo.out L2 (fun x hx => HZ.out.inS d1 (by simp) x hx) (own_lt HO2.out)
    clear Z3 P L2
    go_wp2
    go_ret
    exact HF.out
theorem arrange_any (b : Nat) (Sb : List Nat) (z : Zs) (p : Int) (v : Value) (l : List Int) (w : World) (Z : ZAt w b Sb z) (S : z.Sound) (hS : Old w Sb) (hl : IntsA w v l) : Calls Try.prog 34 #[.pointer (some ⟨b, 0, none⟩), .int .i64 p, v] w (ArPost w b Sb z p l) := by
  by_cases h0 : p = 0
  · subst h0
    exact arrange_0 b Sb z v l w Z S hS hl
  · by_cases h1 : p = 1
    · subst h1
      exact arrange_1 b Sb z v l w Z S hS hl
    · exact arrange_nobody b Sb z p v l w Z S hS hl (fun q => q.elim h0 h1)
end Go.Proofs.Ytogpgldbbegniaa
namespace Go.Proofs.Ytogpgldbbegniaa
open Go.RowKit

theorem ZG.app_ts {T : TypeId} {ex : List Value} {w w7 : World} {b : Nat} {S : List Nat} {z : Zs} {vt d0 d1 h0 h1 : Value} (h : ZG T ex w b S z vt d0 d1 h0 h1) (hT : tgs T) {v : Value} {ts : List Th} (g : w.grownBy w7 vt.ownBlock) (O : OwnT w7 0 v ts) : ZG T ex (w7.setCell ⟨b, 0, none⟩ v) b (v.ownBlock.toList ++ S) { z with ts := ts } v d0 d1 h0 h1 := by
  have B := keep_blk h.blk h.ts hT.2 g
  refine ⟨zc_set B rfl, own_setc O B hT.2, own_setc (keep_tag h.od0 h.ts (by decide) g) B hT.1, own_setc (keep_tag h.od1 h.ts (by decide) g) B hT.1, own_setc (keep_tag h.oh0 h.ts (by decide) g) B hT.1, own_setc (keep_tag h.oh1 h.ts (by decide) g) B hT.1, List.mem_append_right _ h.inb, ?_, h.dif⟩
  intro u hu x hx
  simp only [List.mem_cons, List.not_mem_nil, or_false] at hu
  rcases hu with hu | hu | hu | hu | hu <;> subst hu <;> first | exact List.mem_append_left _ (by rw [hx]; simp) | exact List.mem_append_right _ (h.inS _ (by simp) x hx)
theorem ZG.kept0 {T : TypeId} {ex : List Value} {w w7 : World} {b : Nat} {S : List Nat} {z : Zs} {vt d0 d1 h0 h1 : Value} (h : ZG T ex w b S z vt d0 d1 h0 h1) (hT : tgs T) (g : w.grownBy w7 vt.ownBlock) : w7.cell? ⟨b, 0, none⟩ = some vt ∧ w7.frozen? ⟨b, 0, none⟩ = false := by
  have B := keep_blk h.blk h.ts hT.2 g
  exact ⟨(block_cell B 0).trans rfl, block_free B 0⟩
/-- A thing that is nowhere at all. -/
def bareTh (card p : Int) : Th := ⟨card, p, 0, 0, 0, 0, 0, 0, 0, 0, false⟩
def Zs.bare (z : Zs) (card p : Int) : Zs := { z with ts := z.ts ++ [bareTh card p] }
theorem bare_at (z : Zs) (card p : Int) : thAt (z.bare card p).ts ((z.ts.length : Int) + 1) = bareTh card p := by
  unfold thAt Zs.bare
  rw [List.getD_eq_getElem?_getD, show ((z.ts.length : Int) + 1 - 1).toNat = z.ts.length from by omega, List.getElem?_append_right (Nat.le_refl _), Nat.sub_self]
  rfl
theorem bare_fine {z : Zs} (S : z.Sound) {card p : Int} (hp : p = 0 ∨ p = 1) : (z.bare card p).Fine ((z.ts.length : Int) + 1) := by
  have ea := bare_at z card p
  have hno : ∀ q pl, ¬ inn z.ts q pl ((z.ts.length : Int) + 1) := fun q pl h => by have := h.1.2; omega
  refine ⟨?_, ?_, ?_, ?_, ?_, ?_⟩
  · unfold there Zs.bare
    rw [List.length_append, List.length_singleton]
    omega
  · rw [ea]; exact hp
  · rw [ea]; exact (S.dks p hp).1
  · rw [ea]; exact (S.hds p hp).1
  · intro _ h
    rw [ea] at h
    exact hno _ _ (((S.dks p hp).2 _).1 h)
  · intro _ h
    rw [ea] at h
    exact hno _ _ (((S.hds p hp).2 _).1 h)
theorem set_last {α : Type} (l : List α) (a x : α) : (l ++ [a]).set l.length x = l ++ [x] := by
  rw [List.set_append_right _ _ (Nat.le_refl _), Nat.sub_self]
  rfl
theorem bare_come {z : Zs} {card p : Int} (h : z.makeE card p = 0) : (z.bare card p).come ((z.ts.length : Int) + 1) 4 = z.make card p := by
  unfold Zs.make
  rw [if_pos h]
  have ea := bare_at z card p
  have em := more_new (z := z) (card := card) (p := p)
  unfold Zs.come
  rw [ea, em]
  have e1 : (z.bare card p).ts.set ((z.ts.length : Int) + 1 - 1).toNat (if (4 : Int) = 4 then (bareTh card p).tabled (z.bare card p).nx else (bareTh card p).home 4) = (z.more card p).ts.set ((z.ts.length : Int) + 1 - 1).toNat (if (4 : Int) = 4 then (newTh card p).tabled (z.more card p).nx else (newTh card p).home 4) := by
    rw [show ((z.ts.length : Int) + 1 - 1).toNat = z.ts.length from by omega, if_pos rfl, if_pos rfl]
    show (z.ts ++ [bareTh card p]).set z.ts.length _ = (z.ts ++ [newTh card p]).set z.ts.length _
    rw [set_last, set_last]
    rfl
  rw [e1]
  rfl
/-- What Make answers. -/
def Zs.makeN (z : Zs) (card p : Int) : Int := if z.makeE card p = 0 then (z.ts.length : Int) + 1 else 0
theorem own_things {w : World} {base n : Nat} {v : Value} {ts : List Th} {t : Th} (h : w.ownsRow base 38 11 v (n + 1) (thcs ts ++ thc t)) (hn : n = ts.length) : OwnT w base v (ts ++ [t]) := by
  unfold OwnT
  rw [List.length_append, List.length_singleton, thcs_app, thcs_one, ← hn]
  exact h
set_option maxRecDepth 100000 in
set_option maxHeartbeats 4000000 in
theorem make_any (b : Nat) (Sb : List Nat) (z : Zs) (card p : Int) (w : World) (Z : ZAt w b Sb z) (S : z.Sound) (hS : Old w Sb) : Calls Try.prog 32 #[.pointer (some ⟨b, 0, none⟩), .int .i64 card, .int .i64 p] w (TnPost w b Sb (z.make card p) (.tuple #[.int .i64 (z.makeN card p), .int .i64 (z.makeE card p)])) := by
  obtain ⟨i11, hi11, hza11, hzb11, hzc11⟩ := info_parts Try.infoT
  have Z0 := Z
  obtain ⟨vt, d0, d1, h0, h1, Z⟩ := Z
  obtain ⟨c0, c1, c2, c3, c4, c5⟩ := Z.cell
  have hsl := Z.ts.at
  obtain ⟨pt, ct, ev, _⟩ := own_slice Z.ts
  have M := made_yes b z.nx w c5 (nx_ne S)
  have OW := isOwner_any p w
  have TR := tableRoom_any b vt z.ts p w c0 Z.ts.at S.few
  have hfew := S.few
  have hnx2 := S.nx2
  by_cases q1 : card < 1
  · have eE : z.makeE card p = 2 := by unfold Zs.makeE; rw [if_pos (Or.inl q1)]
    have em : z.make card p = z := by unfold Zs.make; rw [eE]; rfl
    have eN : z.makeN card p = 0 := by unfold Zs.makeN; rw [eE]; rfl
    rw [eE, em, eN]
    have HF : Hid (∀ w1, w.grownBy w1 none → TnPost w b Sb z (.tuple #[.int .i64 0, .int .i64 2]) (.returned (.tuple #[.int .i64 0, .int .i64 2])) w1) := fun w1 g => ⟨rfl, Sb, Z0.grow g, Turn.of_grow g hS⟩
    clear Z Z0 S hS c0 c1 c2 c3 c4 c5 eE em eN OW TR hsl ev
    go_enter Try.func32, Try.ntmps32
    go_wp2_with (first | (go_at_call 61; refine M.mono ?_; rintro e w9 ⟨rfl, h⟩; obtain rfl : w = w9 := h.symm) | (go_at_call 68; refine OW.mono ?_; rintro e w9 ⟨rfl, h⟩; obtain rfl : w = w9 := h.symm))
    go_ret2
    exact HF.out _ (grown_refl _ _)
  · have d1' : decide (card < 1) = false := decide_eq_false q1
    by_cases q2 : p = 0 ∨ p = 1
    · rw [decide_eq_true q2] at OW
      by_cases q3 : z.ts.length = 2048
      · have eE : z.makeE card p = 14 := by unfold Zs.makeE; rw [if_neg (fun q => q.elim q1 (fun r => r q2)), if_pos (Or.inl (by omega))]
        have em : z.make card p = z := by unfold Zs.make; rw [eE]; rfl
        have eN : z.makeN card p = 0 := by unfold Zs.makeN; rw [eE]; rfl
        rw [eE, em, eN]
        have HF : Hid (∀ w1, w.grownBy w1 none → TnPost w b Sb z (.tuple #[.int .i64 0, .int .i64 14]) (.returned (.tuple #[.int .i64 0, .int .i64 14])) w1) := fun w1 g => ⟨rfl, Sb, Z0.grow g, Turn.of_grow g hS⟩
        have hb : ((z.ts.length : Int) == 2048) = true := by rw [q3]; rfl
        rw [ev] at c0
        clear Z Z0 S hS c1 c2 c3 c4 c5 eE em eN TR hsl ev q1 q2 q3
        go_enter Try.func32, Try.ntmps32
        go_wp2_with (first | (go_at_call 61; refine M.mono ?_; rintro e w9 ⟨rfl, h⟩; obtain rfl : w = w9 := h.symm) | (go_at_call 68; refine OW.mono ?_; rintro e w9 ⟨rfl, h⟩; obtain rfl : w = w9 := h.symm))
        go_ret2
        exact HF.out _ (grown_refl _ _)
      · have hb : ((z.ts.length : Int) == 2048) = false := by
          have : ¬ ((z.ts.length : Int) = 2048) := by omega
          simpa using this
        by_cases q4 : owned z.ts p < 8
        · rw [decide_eq_true q4] at TR
          by_cases q5 : z.nx = 1099511627776
          · have eE : z.makeE card p = 14 := by unfold Zs.makeE; rw [if_neg (fun q => q.elim q1 (fun r => r q2)), if_pos (Or.inr (Or.inr (by omega)))]
            have em : z.make card p = z := by unfold Zs.make; rw [eE]; rfl
            have eN : z.makeN card p = 0 := by unfold Zs.makeN; rw [eE]; rfl
            rw [eE, em, eN]
            have HF : Hid (∀ w1, w.grownBy w1 none → TnPost w b Sb z (.tuple #[.int .i64 0, .int .i64 14]) (.returned (.tuple #[.int .i64 0, .int .i64 14])) w1) := fun w1 g => ⟨rfl, Sb, Z0.grow g, Turn.of_grow g hS⟩
            have HK : Hid (∀ w1, w.grownBy w1 none → w1.cell? ⟨b, 5, none⟩ = some (.int .i64 1099511627776)) := fun w1 g => by rw [← q5]; exact g.cell c5 (by simp)
            rw [ev] at c0
            clear Z Z0 S hS c1 c2 c3 c4 c5 eE em eN hsl ev q1 q2 q3 q4 q5
            go_enter Try.func32, Try.ntmps32
            go_wp2_with (first | (go_at_call 61; refine M.mono ?_; rintro e w9 ⟨rfl, h⟩; obtain rfl : w = w9 := h.symm) | (go_at_call 68; refine OW.mono ?_; rintro e w9 ⟨rfl, h⟩; obtain rfl : w = w9 := h.symm))
            refine TR.mono ?_
            rintro e w1 ⟨rfl, g1⟩
            have k5 := HK.out w1 g1
            have HF1 : Hid (TnPost w b Sb z (.tuple #[.int .i64 0, .int .i64 14]) (.returned (.tuple #[.int .i64 0, .int .i64 14])) w1) := HF.out w1 g1
            clear g1 TR HF HK
            go_wp2_with fail
            go_ret2
            exact HF1.out
          · have hb5 : (z.nx == 1099511627776) = false := by simpa using q5
            have eE : z.makeE card p = 0 := by unfold Zs.makeE; rw [if_neg (fun q => q.elim q1 (fun r => r q2)), if_neg (by omega)]
            have eN : z.makeN card p = (z.ts.length : Int) + 1 := by unfold Zs.makeN; rw [eE]; rfl
            rw [eE, eN, ← bare_come eE]
            have HFine : Hid ((z.bare card p).Fine ((z.ts.length : Int) + 1)) := bare_fine S q2
            have HSo : Hid (Old w Sb) := hS
            have HZ : Hid (ZG 93 [] w b Sb z vt d0 d1 h0 h1) := Z
            have HEV : Hid (vt = .slice pt z.ts.length ct) := ev
            have HSd : Hid z.Sound := S
            have HLs : Hid (z.ts.length + 1 ≤ maxLen ∧ (z.ts.length + 1) * 88 ≤ 140737488355328 ∧ z.ts.length + 1 ≤ 2048 ∧ z.nx < 1099511627776) := by show _ ∧ _; unfold maxLen; omega
            have HK : Hid (∀ w1, w.grownBy w1 none → w1.cell? ⟨b, 5, none⟩ = some (.int .i64 z.nx) ∧ w1.cell? ⟨b, 0, none⟩ = some (.slice pt z.ts.length ct)) := fun w1 g => ⟨g.cell c5 (by simp), by rw [← ev]; exact g.cell c0 (by simp)⟩
            rw [ev] at c0
            clear Z Z0 S hS c1 c2 c3 c4 c5 eE eN hsl ev q1 q2 q3 q4 q5 hfew hnx2
            go_enter Try.func32, Try.ntmps32
            go_wp2_with (first | (go_at_call 61; refine M.mono ?_; rintro e w9 ⟨rfl, h⟩; obtain rfl : w = w9 := h.symm) | (go_at_call 68; refine OW.mono ?_; rintro e w9 ⟨rfl, h⟩; obtain rfl : w = w9 := h.symm))
            refine TR.mono ?_
            rintro e w1 ⟨rfl, g1⟩
            obtain ⟨k5, k0⟩ := HK.out w1 g1
            have HG1 : Hid (w.grownBy w1 none) := g1
            clear g1 TR HK c0
            obtain ⟨U, hU⟩ : ∃ U, U = w1.alloc (.cells #[.int .i64 card, .int .i64 p, .int .u8 0, .int .i64 0, .int .i64 0, .int .i64 0, .int .i64 0, .int .i64 0, .int .i64 0, .int .i64 0, .bool false] 38) := ⟨_, rfl⟩
            have HU : Hid (U = w1.alloc (.cells #[.int .i64 card, .int .i64 p, .int .u8 0, .int .i64 0, .int .i64 0, .int .i64 0, .int .i64 0, .int .i64 0, .int .i64 0, .int .i64 0, .bool false] 38)) := hU
            have HGU : Hid (w.grownBy U none) := by show w.grownBy U none; rw [hU]; exact grown_push HG1.out _
            have HSrc : Hid (Src U (.slice (some ⟨w1.heap.size, 0, none⟩) 1 1) 1 11 (thc (bareTh card p))) := by
              show Src U _ 1 11 _
              rw [hU]
              exact lit_Src (cs := (thc (bareTh card p)).toArray) (alloc_at w1 _ _) rfl 1
            have HO1 : Hid (U.ownsRow 0 38 11 (.slice pt z.ts.length ct) z.ts.length (thcs z.ts)) := by
              have := own_grow HZ.out.ts HGU.out
              rw [HEV.out] at this
              exact this
            have HZU : Hid (ZG 93 [] U b Sb z (.slice pt z.ts.length ct) d0 d1 h0 h1) := by
              have := HZ.out.grow HGU.out
              rw [HEV.out] at this
              exact this
            have HSU : Hid (w.heap.size ≤ U.heap.size) := HGU.out.size
            clear hU
            rw [HU.out] at HSrc HO1 HZU
            go_wp2_with (at_builtin; (refine wpl_app (by rfl) (.tmp 45) (.tmp 49) 29 rfl 0 38 i11 _ 11 88 Try.underlying29 hi11 hza11 hzb11 hzc11 rfl (by decide) (.slice pt z.ts.length ct) z.ts.length (thcs z.ts) rfl HO1.out (.slice (some ⟨w1.heap.size, 0, none⟩) 1 1) 1 (thc (bareTh card p)) rfl HSrc.out (fun u hu => thcs_ones [bareTh card p] u (by rw [thcs_one]; exact hu)) HLs.out.1 HLs.out.2.1 (Nat.zero_le _) ?_; intro v7 w7 o7 g7 l7; obtain ⟨b0, f0⟩ := HZU.out.kept0 tgs_z g7; obtain ⟨pv, cv, rfl, _⟩ := own_slice o7; have HO7 : Hid (OwnT w7 0 (.slice pv (z.ts.length + 1) cv) (z.ts ++ [bareTh card p])) := own_things o7 rfl; have HG7 : Hid ((w1.alloc (.cells #[.int .i64 card, .int .i64 p, .int .u8 0, .int .i64 0, .int .i64 0, .int .i64 0, .int .i64 0, .int .i64 0, .int .i64 0, .int .i64 0, .bool false] 38)).grownBy w7 (Value.slice pt z.ts.length ct).ownBlock) := g7; have HL7 : Hid ((Value.slice pv (z.ts.length + 1) cv).ownBlock = (Value.slice pt z.ts.length ct).ownBlock ∨ (Value.slice pv (z.ts.length + 1) cv).ownBlock = some (w1.alloc (.cells #[.int .i64 card, .int .i64 p, .int .u8 0, .int .i64 0, .int .i64 0, .int .i64 0, .int .i64 0, .int .i64 0, .int .i64 0, .int .i64 0, .bool false] 38)).heap.size) := l7; clear o7 g7 l7))
            have HZ5 : Hid (ZG 93 [] (w7.setCell ⟨b, 0, none⟩ (.slice pv (z.ts.length + 1) cv)) b ((Value.slice pv (z.ts.length + 1) cv).ownBlock.toList ++ Sb) (z.bare card p) (.slice pv (z.ts.length + 1) cv) d0 d1 h0 h1) := HZU.out.app_ts tgs_z HG7.out HO7.out
            have HT5 : Hid (Turn w (w7.setCell ⟨b, 0, none⟩ (.slice pv (z.ts.length + 1) cv)) Sb ((Value.slice pv (z.ts.length + 1) cv).ownBlock.toList ++ Sb)) := by
              have g7 := HG7.out
              have l7 := HL7.out
              rw [← HU.out] at g7 l7
              have k1 : Kpt Sb w U := kpt_sub HGU.out (by simp)
              have k2 : Kpt Sb U w7 := kpt_sub g7 (by rw [← HEV.out]; intro x hx; exact HZ.out.inS vt (by simp) x hx)
              have k3 : Kpt Sb w7 (w7.setCell ⟨b, 0, none⟩ (.slice pv (z.ts.length + 1) cv)) := kpt_sub (grown_set w7 b 0 _) (by intro x hx; cases hx; exact HZ.out.inb)
              refine turn_of (kpt_then (kpt_then k1 k2) k3) HSo.out (fun x hx => ?_) (fun x hx => Nat.lt_of_lt_of_le (own_lt HO7.out x hx) k3.size)
              rcases l7 with q | q
              · rw [q, ← HEV.out] at hx
                exact Or.inl (HZ.out.inS vt (by simp) x hx)
              · rw [q] at hx
                cases hx
                exact Or.inr HSU.out
            have C5 := come_any b ((Value.slice pv (z.ts.length + 1) cv).ownBlock.toList ++ Sb) (z.bare card p) ((z.ts.length : Int) + 1) 4 _ ⟨_, _, _, _, _, HZ5.out⟩ HFine.out HT5.out.old (by show (z.ts ++ [bareTh card p]).length ≤ 2048; rw [List.length_append, List.length_singleton]; exact HLs.out.2.2.1) (fun q hq => Nat.le_trans (HSd.out.deckFew hq) HSd.out.few) (fun q hq => Nat.le_trans (HSd.out.handFew hq) HSd.out.few) HSd.out.nx1 (fun _ => HLs.out.2.2.2)
            have m0 : (w7.setCell ⟨b, 0, none⟩ (.slice pv (z.ts.length + 1) cv)).cell? ⟨b, 0, none⟩ = some (.slice pv (z.ts.length + 1) cv) := HZ5.out.cell.1
            go_wp2_with fail
            refine C5.mono ?_
            rintro e w8 ⟨rfl, S8, Z8, T8⟩
            have HF8 : Hid (TnPost w b Sb ((z.bare card p).come ((z.ts.length : Int) + 1) 4) (.tuple #[.int .i64 ((z.ts.length : Int) + 1), .int .i64 0]) (.returned (.tuple #[.int .i64 ((z.ts.length : Int) + 1), .int .i64 0])) w8) := ⟨rfl, S8, Z8, HT5.out.trans T8⟩
            clear Z8 T8 C5
            go_wp2_with fail
            go_ret2
            exact HF8.out
        · rw [decide_eq_false q4] at TR
          have eE : z.makeE card p = 14 := by unfold Zs.makeE; rw [if_neg (fun q => q.elim q1 (fun r => r q2)), if_pos (Or.inr (Or.inl (by omega)))]
          have em : z.make card p = z := by unfold Zs.make; rw [eE]; rfl
          have eN : z.makeN card p = 0 := by unfold Zs.makeN; rw [eE]; rfl
          rw [eE, em, eN]
          have HF : Hid (∀ w1, w.grownBy w1 none → TnPost w b Sb z (.tuple #[.int .i64 0, .int .i64 14]) (.returned (.tuple #[.int .i64 0, .int .i64 14])) w1) := fun w1 g => ⟨rfl, Sb, Z0.grow g, Turn.of_grow g hS⟩
          rw [ev] at c0
          clear Z Z0 S hS c1 c2 c3 c4 c5 eE em eN hsl ev q1 q2 q3 q4
          go_enter Try.func32, Try.ntmps32
          go_wp2_with (first | (go_at_call 61; refine M.mono ?_; rintro e w9 ⟨rfl, h⟩; obtain rfl : w = w9 := h.symm) | (go_at_call 68; refine OW.mono ?_; rintro e w9 ⟨rfl, h⟩; obtain rfl : w = w9 := h.symm))
          refine TR.mono ?_
          rintro e w1 ⟨rfl, g1⟩
          have HF1 : Hid (TnPost w b Sb z (.tuple #[.int .i64 0, .int .i64 14]) (.returned (.tuple #[.int .i64 0, .int .i64 14])) w1) := HF.out w1 g1
          clear g1 TR HF
          go_wp2_with fail
          go_ret2
          exact HF1.out
    · rw [decide_eq_false q2] at OW
      have eE : z.makeE card p = 2 := by unfold Zs.makeE; rw [if_pos (Or.inr q2)]
      have em : z.make card p = z := by unfold Zs.make; rw [eE]; rfl
      have eN : z.makeN card p = 0 := by unfold Zs.makeN; rw [eE]; rfl
      rw [eE, em, eN]
      have HF : Hid (∀ w1, w.grownBy w1 none → TnPost w b Sb z (.tuple #[.int .i64 0, .int .i64 2]) (.returned (.tuple #[.int .i64 0, .int .i64 2])) w1) := fun w1 g => ⟨rfl, Sb, Z0.grow g, Turn.of_grow g hS⟩
      clear Z Z0 S hS c0 c1 c2 c3 c4 c5 eE em eN TR hsl ev q2 q1
      go_enter Try.func32, Try.ntmps32
      go_wp2_with (first | (go_at_call 61; refine M.mono ?_; rintro e w9 ⟨rfl, h⟩; obtain rfl : w = w9 := h.symm) | (go_at_call 68; refine OW.mono ?_; rintro e w9 ⟨rfl, h⟩; obtain rfl : w = w9 := h.symm))
      go_ret2
      exact HF.out _ (grown_refl _ _)
end Go.Proofs.Ytogpgldbbegniaa
