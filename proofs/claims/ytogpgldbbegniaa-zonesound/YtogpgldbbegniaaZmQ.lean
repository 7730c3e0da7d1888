/-
  Zones: how a thing may lie; Arrange, Make.
-/
import Derived.Test.YtogpgldbbegniaaZmP
namespace Go.Proofs.Ytogpgldbbegniaa
open Go.RowKit

/-- May a thing lie so? -/
def Th.lies (t : Th) : Prop := t.marked ∧ 0 ≤ t.hurt ∧ 0 ≤ t.done
theorem mk4 (a b c d : Value) (k : Nat) (hk : k < 4) (w : World) : (Instr.index 36 (.agg #[a, b, c, d]) (.int .i64 (k : Int))).run Try.prog w = .ok ([a, b, c, d].getD k undef) w := by
  rcases (show k = 0 ∨ k = 1 ∨ k = 2 ∨ k = 3 from by omega) with rfl | rfl | rfl | rfl <;> kernel_rfl
def mkAt (t : Th) (k : Nat) : Int := [t.m0, t.m1, t.m2, t.m3].getD k 0
theorem marked_iff (t : Th) : t.marked ↔ ∀ k, k < 4 → 0 ≤ mkAt t k ∧ mkAt t k ≤ 99 := by
  unfold Th.marked
  constructor
  · intro h k hk
    rcases (show k = 0 ∨ k = 1 ∨ k = 2 ∨ k = 3 from by omega) with rfl | rfl | rfl | rfl
    · exact h.1
    · exact h.2.1
    · exact h.2.2.1
    · exact h.2.2.2
  · intro h
    exact ⟨h 0 (by omega), h 1 (by omega), h 2 (by omega), h 3 (by omega)⟩
def LiPost (w : World) (t : Th) (e : Ending) (w' : World) : Prop := ∃ r : Bool, e = .returned (.bool r) ∧ (r = true ↔ t.lies) ∧ w.grownBy w' none
set_option maxRecDepth 100000 in
set_option maxHeartbeats 4000000 in
theorem mayLie_any (t : Th) (w : World) : Calls Try.prog 71 #[thv t] w (LiPost w t) := by
  unfold thv
  obtain ⟨V, hV⟩ : ∃ V, V = w.alloc (.cells #[.int .i64 t.card, .int .i64 t.owner, .int .u8 t.place, .int .i64 t.stamp, .int .i64 t.hurt, .int .i64 t.m0, .int .i64 t.m1, .int .i64 t.m2, .int .i64 t.m3, .int .i64 t.done, .bool t.fresh] 38) := ⟨_, rfl⟩
  have HV : Hid (V = w.alloc (.cells #[.int .i64 t.card, .int .i64 t.owner, .int .u8 t.place, .int .i64 t.stamp, .int .i64 t.hurt, .int .i64 t.m0, .int .i64 t.m1, .int .i64 t.m2, .int .i64 t.m3, .int .i64 t.done, .bool t.fresh] 38)) := hV
  have HG : Hid (w.grownBy V none) := by show w.grownBy V none; rw [hV]; exact World.grownBy_alloc _ _ _
  have x4 : V.cell? ⟨w.heap.size, 4, none⟩ = some (.int .i64 t.hurt) := by rw [hV, block_cell (alloc_at _ _ _)]; rfl
  have x9 : V.cell? ⟨w.heap.size, 9, none⟩ = some (.int .i64 t.done) := by rw [hV, block_cell (alloc_at _ _ _)]; rfl
  clear hV
  go_enter Try.func71, Try.ntmps71
  go_wp2
  rw [← HV.out]
  go_loopw [4, 7] (fun _ i wr => ∃ k : Nat, k ≤ 4 ∧ i = .int .i64 (k : Int) ∧ wr = V ∧ ∀ j, j < k → 0 ≤ mkAt t j ∧ mkAt t j ≤ 99) (fun _ i _ => 4 - (intOf i).toNat)
  case atStart => exact ⟨0, Nat.zero_le _, rfl, rfl, fun j hj => absurd hj (Nat.not_lt_zero _)⟩
  case round =>
    obtain ⟨k, hk, rfl, rfl, hall⟩ := hrel
    have HA : Hid (∀ j, j < k → 0 ≤ mkAt t j ∧ mkAt t j ≤ 99) := hall
    clear hall
    by_cases h4 : k < 4
    · have hix := mk4 (.int .i64 t.m0) (.int .i64 t.m1) (.int .i64 t.m2) (.int .i64 t.m3) k h4
      have hv : [Value.int .i64 t.m0, .int .i64 t.m1, .int .i64 t.m2, .int .i64 t.m3].getD k undef = .int .i64 (mkAt t k) := by
        rcases (show k = 0 ∨ k = 1 ∨ k = 2 ∨ k = 3 from by omega) with rfl | rfl | rfl | rfl <;> rfl
      rw [hv] at hix
      obtain ⟨m, hm⟩ : ∃ m, m = mkAt t k := ⟨_, rfl⟩
      have HM : Hid (m = mkAt t k) := hm
      rw [← hm] at hix
      have h4' : (k : Int) < 4 := by omega
      have hwk : wrap64 ((k : Int) + 1) = (k : Int) + 1 := by unfold wrap64; omega
      have HP : Hid (k + 1 ≤ 4) := h4
      have HMe : Hid (4 - (intOf (.int .i64 ((k : Int) + 1))).toNat < 4 - (intOf (.int .i64 (k : Int))).toNat) := meas_next h4
      have HNo : Hid (¬ (0 ≤ m ∧ m ≤ 99) → LiPost w t (.returned (.bool false)) wr) := fun q => ⟨false, rfl, ⟨fun h => (by cases h), fun h => absurd ((marked_iff t).1 h.1 k h4) (by rw [← hm]; exact q)⟩, HG.out⟩
      clear hm hv HV hk
      by_cases q1 : m < 0
      · have HF : Hid (LiPost w t (.returned (.bool false)) wr) := HNo.out (by omega)
        clear HNo
        go_wp2
        go_ret
        exact HF.out
      · have d1 : decide (m < 0) = false := decide_eq_false q1
        by_cases q2 : m > 99
        · have HF : Hid (LiPost w t (.returned (.bool false)) wr) := HNo.out (by omega)
          clear HNo
          go_wp2
          go_ret
          exact HF.out
        · have d2 : decide (m > 99) = false := decide_eq_false q2
          have d3 : decide (99 < m) = false := decide_eq_false q2
          have HR : Hid (∀ j, j < k + 1 → 0 ≤ mkAt t j ∧ mkAt t j ≤ 99) := by
            intro j hj
            rcases (show j < k ∨ j = k from by omega) with h | h
            · exact HA.out j h
            · rw [h, ← HM.out]; omega
          clear HNo HA
          go_wp2
          go_roundw
          case rel => exact ⟨k + 1, HP.out, by first | rfl | (rw [hwk]; rfl) | go_num, by first | exact trivial | rfl, HR.out⟩
          case measure => first | exact HMe.out | (rw [hwk]; exact HMe.out)
    · obtain rfl : k = 4 := by omega
      have HMk : Hid t.marked := (marked_iff t).2 HA.out
      clear HA HV hk
      by_cases q1 : 0 ≤ t.hurt
      · by_cases q2 : 0 ≤ t.done
        · have HF : Hid (LiPost w t (.returned (.bool true)) wr) := ⟨true, rfl, ⟨fun _ => ⟨HMk.out, q1, q2⟩, fun _ => rfl⟩, HG.out⟩
          go_wp2
          go_ret
          exact HF.out
        · have d2 : decide (t.done ≥ 0) = false := decide_eq_false q2
          have d3 : decide (0 ≤ t.done) = false := decide_eq_false q2
          have HF : Hid (LiPost w t (.returned (.bool false)) wr) := ⟨false, rfl, ⟨fun h => (by cases h), fun h => absurd h.2.2 q2⟩, HG.out⟩
          go_wp2
          go_ret
          exact HF.out
      · have d2 : decide (t.hurt ≥ 0) = false := decide_eq_false q1
        have d3 : decide (0 ≤ t.hurt) = false := decide_eq_false q1
        have HF : Hid (LiPost w t (.returned (.bool false)) wr) := ⟨false, rfl, ⟨fun h => (by cases h), fun h => absurd h.2.1 q1⟩, HG.out⟩
        go_wp2
        go_ret
        exact HF.out
/-- What Arrange answers. -/
def ArPost (w : World) (b : Nat) (S : List Nat) (z : Zs) (p : Int) (l : List Int) (e : Ending) (w' : World) : Prop := ∃ ok : Bool, e = .returned (.int .i64 (if ok = true then 0 else 2)) ∧ (ok = true ↔ (p = 0 ∨ p = 1) ∧ Holds z.ts l p 1) ∧ ∃ S', ZAt w' b S' (if ok = true then z.arrange p l else z) ∧ Turn w w' S S'
set_option maxRecDepth 100000 in
set_option maxHeartbeats 4000000 in
theorem arrange_nobody (b : Nat) (Sb : List Nat) (z : Zs) (p : Int) (v : Value) (l : List Int) (w : World) (Z : ZAt w b Sb z) (S : z.Sound) (hS : Old w Sb) (hl : IntsA w v l) (hp : ¬ (p = 0 ∨ p = 1)) : Calls Try.prog 34 #[.pointer (some ⟨b, 0, none⟩), .int .i64 p, v] w (ArPost w b Sb z p l) := by
  have Z0 := Z
  obtain ⟨vt, d0, d1, h0, h1, Z⟩ := Z
  obtain ⟨c0, c1, c2, c3, c4, c5⟩ := Z.cell
  have M := made_yes b z.nx w c5 (nx_ne S)
  have OW := isOwner_any p w
  rw [decide_eq_false hp] at OW
  obtain ⟨pv, cv, rfl, _⟩ := hl.src
  have HF : Hid (ArPost w b Sb z p l (.returned (.int .i64 2)) w) := ⟨false, rfl, ⟨fun q => (by cases q), fun q => absurd q.1 hp⟩, Sb, Z0, turn_refl hS⟩
  clear Z Z0 S hS c0 c1 c2 c3 c4 c5 hl hp
  go_enter Try.func34, Try.ntmps34
  go_wp2_with (first | (go_at_call 61; refine M.mono ?_; rintro e w9 ⟨rfl, h⟩; obtain rfl : w = w9 := h.symm) | (go_at_call 68; refine OW.mono ?_; rintro e w9 ⟨rfl, h⟩; obtain rfl : w = w9 := h.symm))
  go_ret
  exact HF.out
set_option maxRecDepth 100000 in
set_option maxHeartbeats 4000000 in
theorem arrange_0 (b : Nat) (Sb : List Nat) (z : Zs) (v : Value) (l : List Int) (w : World) (Z : ZAt w b Sb z) (S : z.Sound) (hS : Old w Sb) (hl : IntsA w v l) : Calls Try.prog 34 #[.pointer (some ⟨b, 0, none⟩), .int .i64 0, v] w (ArPost w b Sb z 0 l) := by
  obtain ⟨p, hp⟩ : ∃ p : Int, p = 0 := ⟨_, rfl⟩
  have Z0 := Z
  obtain ⟨vt, d0, d1, h0, h1, Z⟩ := Z
  obtain ⟨c0, c1, c2, c3, c4, c5⟩ := Z.cell
  have M := made_yes b z.nx w c5 (nx_ne S)
  have OW := isOwner_any p w
  rw [decide_eq_true (by omega)] at OW
  have HJ := holdsJust_any b vt v z.ts l p 1 w c0 Z.ts.at S.few hl
  subst hp
  obtain ⟨pv, cv, ev, _⟩ := hl.src
  have HI : Hid (IntsA w v l) := hl
  rw [ev] at HJ HI ⊢
  have HSo : Hid (Old w Sb) := hS
  have HZ0 : Hid (ZAt w b Sb z) := Z0
  have HZ : Hid (ZG 93 [] w b Sb z vt d0 d1 h0 h1) := Z
  have HLl : Hid (Holds z.ts l 0 1 → l.length ≤ 2048) := fun q => by rw [holds_len q]; exact Nat.le_trans (numsOf_len _ _ _) S.few
  clear Z Z0 S hS c0 c1 c2 c3 c4 c5 hl ev
  go_enter Try.func34, Try.ntmps34
  go_wp2_with (first | (go_at_call 61; refine M.mono ?_; rintro e w9 ⟨rfl, h⟩; obtain rfl : w = w9 := h.symm) | (go_at_call 68; refine OW.mono ?_; rintro e w9 ⟨rfl, h⟩; obtain rfl : w = w9 := h.symm))
  refine HJ.mono ?_
  rintro e w1 ⟨r, rfl, hr, g1⟩
  have HG1 : Hid (w.grownBy w1 none) := g1
  have HR : Hid (r = true ↔ Holds z.ts l 0 1) := hr
  clear hr g1 HJ
  cases r with
  | false =>
    have HF : Hid (ArPost w b Sb z 0 l (.returned (.int .i64 2)) w1) := ⟨false, rfl, ⟨fun q => (by cases q), fun q => absurd (HR.out.2 q.2) (by decide)⟩, Sb, HZ0.out.grow HG1.out, Turn.of_grow HG1.out HSo.out⟩
    go_wp2_with fail
    go_ret
    exact HF.out
  | true =>
    have HHj : Hid (Holds z.ts l 0 1) := HR.out.1 rfl
    clear HR
    have CO := ownI_any _ l w1.drew (HI.out.keep (grown_trans HG1.out (grown_drew _))) (by have := HLl.out HHj.out; omega)
    have HS1 : Hid (w.heap.size ≤ w1.drew.heap.size) := HG1.out.size
    go_upto_region 5 with fail
    refine wp_region_held_drew (S := fun _ => True) (by kernel_rfl) (trivial) (fun hHeld => ?_)
    refine wpAnyH_take (i := 0) (v := ?_) rfl (by kernel_rfl) (by kernel_rfl) (by kernel_rfl) (fun _ _ _ h => h) (Or.inl ⟨by rfl, ?_⟩) (by assumption) ?_
    rotate_left 1
    · (intro w0 hSw; go_simp; try with_reducible rfl)
    simp only [List.getElem_toArray, List.getElem_cons_zero]
    go_frame
    refine wpAnyH_take (i := 1) (v := ?_) rfl (by kernel_rfl) (by kernel_rfl) (by kernel_rfl) (fun _ _ _ h => h) (Or.inl ⟨by rfl, ?_⟩) (by assumption) ?_
    rotate_left 1
    · (intro w0 hSw; go_simp; try with_reducible rfl)
    simp only [List.getElem_toArray, List.getElem_cons_zero, List.getElem_cons_succ]
    go_frame
    refine wpAnyH_take (i := 2) (v := ?_) rfl (by kernel_rfl) (by kernel_rfl) (by kernel_rfl) (fun _ _ _ h => h) (Or.inl ⟨by rfl, ?_⟩) (by assumption) ?_
    rotate_left 1
    · (intro w0 hSw; go_simp; try with_reducible rfl)
    simp only [List.getElem_toArray, List.getElem_cons_zero, List.getElem_cons_succ]
    go_frame
    refine wpAnyH_take (i := 4) (v := ?_) rfl (by kernel_rfl) (by kernel_rfl) (by kernel_rfl) (fun _ _ _ h => h) (Or.inl ⟨by rfl, ?_⟩) (by assumption) ?_
    rotate_left 1
    · (intro w0 hSw; go_simp; try with_reducible rfl)
    simp only [List.getElem_toArray, List.getElem_cons_zero, List.getElem_cons_succ]
    go_frame
    refine wpAnyH_take (i := 5) (v := ?_) rfl (by kernel_rfl) (by kernel_rfl) (by kernel_rfl) (fun _ _ _ h => h) (Or.inl ⟨by rfl, ?_⟩) (by assumption) ?_
    rotate_left 1
    · (intro w0 hSw; go_simp; try with_reducible rfl)
    simp only [List.getElem_toArray, List.getElem_cons_zero, List.getElem_cons_succ]
    go_frame
    refine wpAnyH_ready (rs := [3]) (by kernel_rfl) (by simp) ?_
    refine AllReadyH.cons rfl (fun K hK => ?_) AllReadyH.nil
    simp only [List.getElem_toArray, List.getElem_cons_zero, List.getElem_cons_succ]
    go_simp
    go_at_call 73
    refine (CO).mono ?_
    rintro e w2 ⟨rfl, o2, g2⟩
    have HO2 : Hid (OwnI w2 w1.drew.heap.size (.slice (some ⟨w1.drew.heap.size, 0, none⟩) l.length l.length) l) := o2
    have HG2 : Hid (w.grownBy w2 none) := grown_trans HG1.out (grown_trans (grown_drew w1) g2)
    have t2 : w2.cell? ⟨b, 1, none⟩ = some d0 := (HZ.out.grow HG2.out).cell.2.1
    have f2 : w2.frozen? ⟨b, 1, none⟩ = false := (HZ.out.grow HG2.out).free 1
    clear o2 g2 CO
    refine hK.out _ _ (trivial) (fun hHeld2 => ?_)
    clear hK K
    (try go_frame)
    refine wpAnyH_take (i := 6) (v := ?_) rfl (by kernel_rfl) (by kernel_rfl) (by kernel_rfl) (fun _ _ _ h => h) (Or.inl ⟨by rfl, ?_⟩) (by assumption) ?_
    rotate_left 1
    · (intro w0 hSw; go_simp; try with_reducible rfl)
    simp only [List.getElem_toArray, List.getElem_cons_zero, List.getElem_cons_succ]
    go_frame
    refine wpAnyH_ready (rs := [7]) (by kernel_rfl) (by simp) ?_
    refine AllReadyH.cons rfl (fun K9 hK => ?_) AllReadyH.nil
    simp only [List.getElem_toArray, List.getElem_cons_zero, List.getElem_cons_succ]
    go_simp
    refine hK.out _ _ (trivial) (fun hHeld3 => ?_)
    clear hK K9
    (try go_frame)
    refine wpAnyH_done (by kernel_rfl) ?_ _
    have L2 : (Value.slice (some ⟨w1.drew.heap.size, 0, none⟩) l.length l.length).ownBlock = d0.ownBlock ∨ ∀ x, (Value.slice (some ⟨w1.drew.heap.size, 0, none⟩) l.length l.length).ownBlock = some x → w.heap.size ≤ x := Or.inr fun x hx => Nat.le_trans HS1.out (World.ownsRow.lt HO2.out x hx).1
    have P := HZ.out.pairs
    have Z3 := (HZ.out.grow HG2.out).set_d0 tgs_z (own_zero HO2.out) (apart_new L2 P.1.1 HZ.out.od1) (apart_new L2 P.1.2.1 HZ.out.oh0) (apart_new L2 P.1.2.2 HZ.out.oh1)
    have HF : Hid (ArPost w b Sb z 0 l (.returned (.int .i64 0)) (w2.setCell ⟨b, 1, none⟩ (.slice (some ⟨w1.drew.heap.size, 0, none⟩) l.length l.length))) := by
      refine ⟨true, rfl, ⟨fun _ => ⟨by decide, HHj.out⟩, fun _ => rfl⟩, _, ⟨_, _, _, _, _, Z3⟩, ?_⟩
      exact turn_more HG2.out (kpt_set _ _ _ _) HZ.out.inb HSo.out L2 (fun x hx => HZ.out.inS d0 (by simp) x hx) (own_lt HO2.out)
    clear Z3 P L2
    go_wp2
    go_ret
    exact HF.out
set_option maxRecDepth 100000 in
set_option maxHeartbeats 4000000 in
theorem arrange_1 (b : Nat) (Sb : List Nat) (z : Zs) (v : Value) (l : List Int) (w : World) (Z : ZAt w b Sb z) (S : z.Sound) (hS : Old w Sb) (hl : IntsA w v l) : Calls Try.prog 34 #[.pointer (some ⟨b, 0, none⟩), .int .i64 1, v] w (ArPost w b Sb z 1 l) := by
  obtain ⟨p, hp⟩ : ∃ p : Int, p = 1 := ⟨_, rfl⟩
  have Z0 := Z
  obtain ⟨vt, d0, d1, h0, h1, Z⟩ := Z
  obtain ⟨c0, c1, c2, c3, c4, c5⟩ := Z.cell
  have M := made_yes b z.nx w c5 (nx_ne S)
  have OW := isOwner_any p w
  rw [decide_eq_true (by omega)] at OW
  have HJ := holdsJust_any b vt v z.ts l p 1 w c0 Z.ts.at S.few hl
  subst hp
  obtain ⟨pv, cv, ev, _⟩ := hl.src
  have HI : Hid (IntsA w v l) := hl
  rw [ev] at HJ HI ⊢
  have HSo : Hid (Old w Sb) := hS
  have HZ0 : Hid (ZAt w b Sb z) := Z0
  have HZ : Hid (ZG 93 [] w b Sb z vt d0 d1 h0 h1) := Z
  have HLl : Hid (Holds z.ts l 1 1 → l.length ≤ 2048) := fun q => by rw [holds_len q]; exact Nat.le_trans (numsOf_len _ _ _) S.few
  clear Z Z0 S hS c0 c1 c2 c3 c4 c5 hl ev
  go_enter Try.func34, Try.ntmps34
  go_wp2_with (first | (go_at_call 61; refine M.mono ?_; rintro e w9 ⟨rfl, h⟩; obtain rfl : w = w9 := h.symm) | (go_at_call 68; refine OW.mono ?_; rintro e w9 ⟨rfl, h⟩; obtain rfl : w = w9 := h.symm))
  refine HJ.mono ?_
  rintro e w1 ⟨r, rfl, hr, g1⟩
  have HG1 : Hid (w.grownBy w1 none) := g1
  have HR : Hid (r = true ↔ Holds z.ts l 1 1) := hr
  clear hr g1 HJ
  cases r with
  | false =>
    have HF : Hid (ArPost w b Sb z 1 l (.returned (.int .i64 2)) w1) := ⟨false, rfl, ⟨fun q => (by cases q), fun q => absurd (HR.out.2 q.2) (by decide)⟩, Sb, HZ0.out.grow HG1.out, Turn.of_grow HG1.out HSo.out⟩
    go_wp2_with fail
    go_ret
    exact HF.out
  | true =>
    have HHj : Hid (Holds z.ts l 1 1) := HR.out.1 rfl
    clear HR
    have CO := ownI_any _ l w1.drew (HI.out.keep (grown_trans HG1.out (grown_drew _))) (by have := HLl.out HHj.out; omega)
    have HS1 : Hid (w.heap.size ≤ w1.drew.heap.size) := HG1.out.size
    go_upto_region 5 with fail
    refine wp_region_held_drew (S := fun _ => True) (by kernel_rfl) (trivial) (fun hHeld => ?_)
    refine wpAnyH_take (i := 0) (v := ?_) rfl (by kernel_rfl) (by kernel_rfl) (by kernel_rfl) (fun _ _ _ h => h) (Or.inl ⟨by rfl, ?_⟩) (by assumption) ?_
    rotate_left 1
    · (intro w0 hSw; go_simp; try with_reducible rfl)
    simp only [List.getElem_toArray, List.getElem_cons_zero]
    go_frame
    refine wpAnyH_take (i := 1) (v := ?_) rfl (by kernel_rfl) (by kernel_rfl) (by kernel_rfl) (fun _ _ _ h => h) (Or.inl ⟨by rfl, ?_⟩) (by assumption) ?_
    rotate_left 1
    · (intro w0 hSw; go_simp; try with_reducible rfl)
    simp only [List.getElem_toArray, List.getElem_cons_zero, List.getElem_cons_succ]
    go_frame
    refine wpAnyH_take (i := 2) (v := ?_) rfl (by kernel_rfl) (by kernel_rfl) (by kernel_rfl) (fun _ _ _ h => h) (Or.inl ⟨by rfl, ?_⟩) (by assumption) ?_
    rotate_left 1
    · (intro w0 hSw; go_simp; try with_reducible rfl)
    simp only [List.getElem_toArray, List.getElem_cons_zero, List.getElem_cons_succ]
    go_frame
    refine wpAnyH_take (i := 4) (v := ?_) rfl (by kernel_rfl) (by kernel_rfl) (by kernel_rfl) (fun _ _ _ h => h) (Or.inl ⟨by rfl, ?_⟩) (by assumption) ?_
    rotate_left 1
    · (intro w0 hSw; go_simp; try with_reducible rfl)
    simp only [List.getElem_toArray, List.getElem_cons_zero, List.getElem_cons_succ]
    go_frame
    refine wpAnyH_take (i := 5) (v := ?_) rfl (by kernel_rfl) (by kernel_rfl) (by kernel_rfl) (fun _ _ _ h => h) (Or.inl ⟨by rfl, ?_⟩) (by assumption) ?_
    rotate_left 1
    · (intro w0 hSw; go_simp; try with_reducible rfl)
    simp only [List.getElem_toArray, List.getElem_cons_zero, List.getElem_cons_succ]
    go_frame
    refine wpAnyH_ready (rs := [3]) (by kernel_rfl) (by simp) ?_
    refine AllReadyH.cons rfl (fun K hK => ?_) AllReadyH.nil
    simp only [List.getElem_toArray, List.getElem_cons_zero, List.getElem_cons_succ]
    go_simp
    go_at_call 73
    refine (CO).mono ?_
    rintro e w2 ⟨rfl, o2, g2⟩
    have HO2 : Hid (OwnI w2 w1.drew.heap.size (.slice (some ⟨w1.drew.heap.size, 0, none⟩) l.length l.length) l) := o2
    have HG2 : Hid (w.grownBy w2 none) := grown_trans HG1.out (grown_trans (grown_drew w1) g2)
    have t2 : w2.cell? ⟨b, 2, none⟩ = some d1 := (HZ.out.grow HG2.out).cell.2.2.1
    have f2 : w2.frozen? ⟨b, 2, none⟩ = false := (HZ.out.grow HG2.out).free 2
    clear o2 g2 CO
    refine hK.out _ _ (trivial) (fun hHeld2 => ?_)
    clear hK K
    (try go_frame)
    refine wpAnyH_take (i := 6) (v := ?_) rfl (by kernel_rfl) (by kernel_rfl) (by kernel_rfl) (fun _ _ _ h => h) (Or.inl ⟨by rfl, ?_⟩) (by assumption) ?_
    rotate_left 1
    · (intro w0 hSw; go_simp; try with_reducible rfl)
    simp only [List.getElem_toArray, List.getElem_cons_zero, List.getElem_cons_succ]
    go_frame
    refine wpAnyH_ready (rs := [7]) (by kernel_rfl) (by simp) ?_
    refine AllReadyH.cons rfl (fun K9 hK => ?_) AllReadyH.nil
    simp only [List.getElem_toArray, List.getElem_cons_zero, List.getElem_cons_succ]
    go_simp
    refine hK.out _ _ (trivial) (fun hHeld3 => ?_)
    clear hK K9
    (try go_frame)
    refine wpAnyH_done (by kernel_rfl) ?_ _
    have L2 : (Value.slice (some ⟨w1.drew.heap.size, 0, none⟩) l.length l.length).ownBlock = d1.ownBlock ∨ ∀ x, (Value.slice (some ⟨w1.drew.heap.size, 0, none⟩) l.length l.length).ownBlock = some x → w.heap.size ≤ x := Or.inr fun x hx => Nat.le_trans HS1.out (World.ownsRow.lt HO2.out x hx).1
    have P := HZ.out.pairs
    have Z3 := (HZ.out.grow HG2.out).set_d1 tgs_z (own_zero HO2.out) (apart_new L2 P.1.1.symm HZ.out.od0) (apart_new L2 P.2.1.1 HZ.out.oh0) (apart_new L2 P.2.1.2 HZ.out.oh1)
    have HF : Hid (ArPost w b Sb z 1 l (.returned (.int .i64 0)) (w2.setCell ⟨b, 2, none⟩ (.slice (some ⟨w1.drew.heap.size, 0, none⟩) l.length l.length))) := by
      refine ⟨true, rfl, ⟨fun _ => ⟨by decide, HHj.out⟩, fun _ => rfl⟩, _, ⟨_, _, _, _, _, Z3⟩, ?_⟩
      exact turn_more HG2.out (kpt_set _ _ _ _) HZ.out.inb HSo.out L2 (fun x hx => HZ.out.inS d1 (by simp) x hx) (own_lt HO2.out)
    clear Z3 P L2
    go_wp2
    go_ret
    exact HF.out
theorem arrange_any (b : Nat) (Sb : List Nat) (z : Zs) (p : Int) (v : Value) (l : List Int) (w : World) (Z : ZAt w b Sb z) (S : z.Sound) (hS : Old w Sb) (hl : IntsA w v l) : Calls Try.prog 34 #[.pointer (some ⟨b, 0, none⟩), .int .i64 p, v] w (ArPost w b Sb z p l) := by
  by_cases h0 : p = 0
  · subst h0
    exact arrange_0 b Sb z v l w Z S hS hl
  · by_cases h1 : p = 1
    · subst h1
      exact arrange_1 b Sb z v l w Z S hS hl
    · exact arrange_nobody b Sb z p v l w Z S hS hl (fun q => q.elim h0 h1)
end Go.Proofs.Ytogpgldbbegniaa
