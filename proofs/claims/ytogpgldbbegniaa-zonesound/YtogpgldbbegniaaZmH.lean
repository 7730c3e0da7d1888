/-
  Zones: In, Deck, Hand, Things, Thing; whether a list holds just an owner's things in a place; room on the table.
-/
import Derived.Test.YtogpgldbbegniaaZmG
namespace Go.Proofs.Ytogpgldbbegniaa
open Go.RowKit

theorem nx_ne {z : Zs} (S : z.Sound) : z.nx ≠ 0 := by have := S.nx1; omega
def InPost (w : World) (l : List Int) (e : Ending) (w' : World) : Prop := ∃ v, e = .returned v ∧ OwnI w' w.heap.size v l ∧ w.grownBy w' none
theorem own_small {w : World} {base : Nat} {v : Value} {l : List Int} (h : OwnI w base v l) : IntsA w v l := (own_B h rfl).a
set_option maxRecDepth 100000 in
set_option maxHeartbeats 2000000 in
theorem in_nobody (b : Nat) (p pl nx : Int) (w : World) (c5 : w.cell? ⟨b, 5, none⟩ = some (.int .i64 nx)) (hn : nx ≠ 0) (hp : ¬ (p = 0 ∨ p = 1)) : Calls Try.prog 60 #[.pointer (some ⟨b, 0, none⟩), .int .i64 p, .int .u8 pl] w (InPost w []) := by
  have M := made_yes b nx w c5 hn
  have OW := isOwner_any p w
  rw [decide_eq_false hp] at OW
  clear hp c5
  go_enter Try.func60, Try.ntmps60
  go_wp2_with (first | (go_at_call 61; refine M.mono ?_; rintro e w1 ⟨rfl, h⟩; obtain rfl : w = w1 := h.symm) | (go_at_call 68; refine OW.mono ?_; rintro e w1 ⟨rfl, h⟩; obtain rfl : w = w1 := h.symm))
  go_ret
  exact ⟨_, rfl, OwnI.nil _ _, grown_refl _ _⟩
set_option maxRecDepth 100000 in
set_option maxHeartbeats 2000000 in
theorem in_deck0 (b : Nat) (nx : Int) (v : Value) (l : List Int) (w : World) (c5 : w.cell? ⟨b, 5, none⟩ = some (.int .i64 nx)) (hn : nx ≠ 0) (cd : w.cell? ⟨b, 1, none⟩ = some v) (D : IntsA w v l) (hb : l.length ≤ 2048) : Calls Try.prog 60 #[.pointer (some ⟨b, 0, none⟩), .int .i64 0, .int .u8 1] w (InPost w l) := by
  have M := made_yes b nx w c5 hn
  have OW := isOwner_any 0 w
  rw [decide_eq_true (by decide)] at OW
  have C := ownI_any v l w D (by omega)
  obtain ⟨pp, cc, rfl, _⟩ := D.src
  clear D c5
  go_enter Try.func60, Try.ntmps60
  go_wp2_with (first | (go_at_call 61; refine M.mono ?_; rintro e w1 ⟨rfl, h⟩; obtain rfl : w = w1 := h.symm) | (go_at_call 68; refine OW.mono ?_; rintro e w1 ⟨rfl, h⟩; obtain rfl : w = w1 := h.symm) | (go_at_call 73; refine C.mono ?_; rintro e w2 ⟨rfl, o2, g2⟩; have HF : Hid (OwnI w2 w.heap.size (.slice (some ⟨w.heap.size, 0, none⟩) l.length l.length) l ∧ w.grownBy w2 none) := ⟨o2, g2⟩; clear o2 g2))
  go_ret
  exact ⟨_, rfl, HF.out⟩
set_option maxRecDepth 100000 in
set_option maxHeartbeats 2000000 in
theorem in_deck1 (b : Nat) (nx : Int) (v : Value) (l : List Int) (w : World) (c5 : w.cell? ⟨b, 5, none⟩ = some (.int .i64 nx)) (hn : nx ≠ 0) (cd : w.cell? ⟨b, 2, none⟩ = some v) (D : IntsA w v l) (hb : l.length ≤ 2048) : Calls Try.prog 60 #[.pointer (some ⟨b, 0, none⟩), .int .i64 1, .int .u8 1] w (InPost w l) := by
  have M := made_yes b nx w c5 hn
  have OW := isOwner_any 1 w
  rw [decide_eq_true (by decide)] at OW
  have C := ownI_any v l w D (by omega)
  obtain ⟨pp, cc, rfl, _⟩ := D.src
  clear D c5
  go_enter Try.func60, Try.ntmps60
  go_wp2_with (first | (go_at_call 61; refine M.mono ?_; rintro e w1 ⟨rfl, h⟩; obtain rfl : w = w1 := h.symm) | (go_at_call 68; refine OW.mono ?_; rintro e w1 ⟨rfl, h⟩; obtain rfl : w = w1 := h.symm) | (go_at_call 73; refine C.mono ?_; rintro e w2 ⟨rfl, o2, g2⟩; have HF : Hid (OwnI w2 w.heap.size (.slice (some ⟨w.heap.size, 0, none⟩) l.length l.length) l ∧ w.grownBy w2 none) := ⟨o2, g2⟩; clear o2 g2))
  go_ret
  exact ⟨_, rfl, HF.out⟩
set_option maxRecDepth 100000 in
set_option maxHeartbeats 2000000 in
theorem in_hand0 (b : Nat) (nx : Int) (v : Value) (l : List Int) (w : World) (c5 : w.cell? ⟨b, 5, none⟩ = some (.int .i64 nx)) (hn : nx ≠ 0) (cd : w.cell? ⟨b, 3, none⟩ = some v) (D : IntsA w v l) (hb : l.length ≤ 2048) : Calls Try.prog 60 #[.pointer (some ⟨b, 0, none⟩), .int .i64 0, .int .u8 2] w (InPost w l) := by
  have M := made_yes b nx w c5 hn
  have OW := isOwner_any 0 w
  rw [decide_eq_true (by decide)] at OW
  have C := ownI_any v l w D (by omega)
  obtain ⟨pp, cc, rfl, _⟩ := D.src
  clear D c5
  go_enter Try.func60, Try.ntmps60
  go_wp2_with (first | (go_at_call 61; refine M.mono ?_; rintro e w1 ⟨rfl, h⟩; obtain rfl : w = w1 := h.symm) | (go_at_call 68; refine OW.mono ?_; rintro e w1 ⟨rfl, h⟩; obtain rfl : w = w1 := h.symm) | (go_at_call 73; refine C.mono ?_; rintro e w2 ⟨rfl, o2, g2⟩; have HF : Hid (OwnI w2 w.heap.size (.slice (some ⟨w.heap.size, 0, none⟩) l.length l.length) l ∧ w.grownBy w2 none) := ⟨o2, g2⟩; clear o2 g2))
  go_ret
  exact ⟨_, rfl, HF.out⟩
set_option maxRecDepth 100000 in
set_option maxHeartbeats 2000000 in
theorem in_hand1 (b : Nat) (nx : Int) (v : Value) (l : List Int) (w : World) (c5 : w.cell? ⟨b, 5, none⟩ = some (.int .i64 nx)) (hn : nx ≠ 0) (cd : w.cell? ⟨b, 4, none⟩ = some v) (D : IntsA w v l) (hb : l.length ≤ 2048) : Calls Try.prog 60 #[.pointer (some ⟨b, 0, none⟩), .int .i64 1, .int .u8 2] w (InPost w l) := by
  have M := made_yes b nx w c5 hn
  have OW := isOwner_any 1 w
  rw [decide_eq_true (by decide)] at OW
  have C := ownI_any v l w D (by omega)
  obtain ⟨pp, cc, rfl, _⟩ := D.src
  clear D c5
  go_enter Try.func60, Try.ntmps60
  go_wp2_with (first | (go_at_call 61; refine M.mono ?_; rintro e w1 ⟨rfl, h⟩; obtain rfl : w = w1 := h.symm) | (go_at_call 68; refine OW.mono ?_; rintro e w1 ⟨rfl, h⟩; obtain rfl : w = w1 := h.symm) | (go_at_call 73; refine C.mono ?_; rintro e w2 ⟨rfl, o2, g2⟩; have HF : Hid (OwnI w2 w.heap.size (.slice (some ⟨w.heap.size, 0, none⟩) l.length l.length) l ∧ w.grownBy w2 none) := ⟨o2, g2⟩; clear o2 g2))
  go_ret
  exact ⟨_, rfl, HF.out⟩
set_option maxRecDepth 100000 in
set_option maxHeartbeats 2000000 in
theorem in_table (b : Nat) (Sb : List Nat) (z : Zs) (p : Int) (w : World) (Z : ZAt w b Sb z) (S : z.Sound) (hp : p = 0 ∨ p = 1) : Calls Try.prog 60 #[.pointer (some ⟨b, 0, none⟩), .int .i64 p, .int .u8 4] w (InPost w ((tabF z.ts).filter (innB z.ts p 4))) := by
  obtain ⟨vt, d0, d1, h0, h1, Z⟩ := Z
  obtain ⟨c0, _, _, _, _, c5⟩ := Z.cell
  have T := Z.ts.at
  have M := made_yes b z.nx w c5 (nx_ne S)
  have OW := isOwner_any p w
  rw [decide_eq_true hp] at OW
  have C1 := numbers_any b vt z.ts p 4 w c0 T S.few
  have HB : Hid (∀ w1 v, w.grownBy w1 none → OwnI w1 w.heap.size v (numsOf z.ts p 4) → Calls Try.prog 66 #[.pointer (some ⟨b, 0, none⟩), v] w1 (BsPost w v z.ts (numsOf z.ts p 4))) := fun w1 v g o => byStamp_any w w1 b vt v z.ts _ c0 T S.few g o (fun n hn => (numsOf_mem.1 hn).1) (by have := numsOf_len z.ts p 4; have := S.few; omega)
  have HP : Hid (∀ l : List Int, l.Perm (numsOf z.ts p 4) → (l.Pairwise fun a b => stOf z.ts a ≤ stOf z.ts b) → l = (tabF z.ts).filter (innB z.ts p 4)) := fun l h1 h2 => part_of S S.tab_is h1 h2
  clear c0 c5 T Z S hp
  go_enter Try.func60, Try.ntmps60
  go_wp2_with (first | (go_at_call 61; refine M.mono ?_; rintro e w1 ⟨rfl, h⟩; obtain rfl : w = w1 := h.symm) | (go_at_call 68; refine OW.mono ?_; rintro e w1 ⟨rfl, h⟩; obtain rfl : w = w1 := h.symm))
  refine C1.mono ?_
  rintro e w1 ⟨v1, rfl, o1, g1⟩
  have C2 := HB.out w1 v1 g1 o1
  obtain ⟨p1, q1, rfl⟩ := o1.form
  clear o1 g1 C1 HB M OW
  go_wp2_with fail
  refine C2.mono ?_
  rintro e w2 ⟨l, rfl, hp, hs, o2, g2⟩
  have HF : Hid (OwnI w2 w.heap.size (.slice p1 (numsOf z.ts p 4).length q1) ((tabF z.ts).filter (innB z.ts p 4)) ∧ w.grownBy w2 none) := ⟨by rw [← HP.out l hp hs]; exact o2, g2⟩
  clear hp hs o2 g2 C2 HP
  go_wp2_with fail
  go_ret
  exact ⟨_, rfl, HF.out⟩
set_option maxRecDepth 100000 in
set_option maxHeartbeats 2000000 in
theorem in_else (b : Nat) (vt : Value) (ts : List Th) (p pl nx : Int) (w : World) (c0 : w.cell? ⟨b, 0, none⟩ = some vt) (c5 : w.cell? ⟨b, 5, none⟩ = some (.int .i64 nx)) (hn : nx ≠ 0) (T : ThsAt w vt ts) (hf : ts.length ≤ 2048) (hp : p = 0 ∨ p = 1) (h1 : pl ≠ 1) (h2 : pl ≠ 2) (h4 : pl ≠ 4) : Calls Try.prog 60 #[.pointer (some ⟨b, 0, none⟩), .int .i64 p, .int .u8 pl] w (InPost w (numsOf ts p pl)) := by
  have M := made_yes b nx w c5 hn
  have OW := isOwner_any p w
  rw [decide_eq_true hp] at OW
  have C1 := numbers_any b vt ts p pl w c0 T hf
  have e1 : (pl == 1) = false := by simpa using h1
  have e2 : (pl == 2) = false := by simpa using h2
  have e4 : (pl == 4) = false := by simpa using h4
  clear c0 c5 T hp h1 h2 h4 hf
  go_enter Try.func60, Try.ntmps60
  go_wp2_with (first | (go_at_call 61; refine M.mono ?_; rintro e w1 ⟨rfl, h⟩; obtain rfl : w = w1 := h.symm) | (go_at_call 68; refine OW.mono ?_; rintro e w1 ⟨rfl, h⟩; obtain rfl : w = w1 := h.symm) | (go_at_call 96; refine C1.mono ?_; rintro e w2 ⟨v2, rfl, o2, g2⟩; have HF : Hid (OwnI w2 w.heap.size v2 (numsOf ts p pl) ∧ w.grownBy w2 none) := ⟨o2, g2⟩; clear o2 g2))
  go_ret
  exact ⟨_, rfl, HF.out⟩
theorem in_any (b : Nat) (Sb : List Nat) (z : Zs) (p pl : Int) (w : World) (Z : ZAt w b Sb z) (S : z.Sound) : Calls Try.prog 60 #[.pointer (some ⟨b, 0, none⟩), .int .i64 p, .int .u8 pl] w (InPost w (z.inOf p pl)) := by
  have Z0 := Z
  obtain ⟨vt, d0, d1, h0, h1, Z⟩ := Z
  obtain ⟨c0, c1, c2, c3, c4, c5⟩ := Z.cell
  have hd : ∀ q, q = 0 ∨ q = 1 → (z.dk q).length ≤ 2048 := fun q hq => Nat.le_trans (S.deckFew hq) S.few
  have hh : ∀ q, q = 0 ∨ q = 1 → (z.hd q).length ≤ 2048 := fun q hq => Nat.le_trans (S.handFew hq) S.few
  unfold Zs.inOf
  by_cases hp : p = 0 ∨ p = 1
  · rw [if_pos hp]
    by_cases e1 : pl = 1
    · rw [if_pos e1]
      subst e1
      rcases hp with rfl | rfl
      · exact in_deck0 b z.nx d0 _ w c5 (nx_ne S) c1 (own_small Z.od0) (hd 0 (Or.inl rfl))
      · exact in_deck1 b z.nx d1 _ w c5 (nx_ne S) c2 (own_small Z.od1) (hd 1 (Or.inr rfl))
    · rw [if_neg e1]
      by_cases e2 : pl = 2
      · rw [if_pos e2]
        subst e2
        rcases hp with rfl | rfl
        · exact in_hand0 b z.nx h0 _ w c5 (nx_ne S) c3 (own_small Z.oh0) (hh 0 (Or.inl rfl))
        · exact in_hand1 b z.nx h1 _ w c5 (nx_ne S) c4 (own_small Z.oh1) (hh 1 (Or.inr rfl))
      · rw [if_neg e2]
        by_cases e4 : pl = 4
        · rw [if_pos e4]
          subst e4
          exact in_table b Sb z p w Z0 S hp
        · rw [if_neg e4]
          exact in_else b vt z.ts p pl z.nx w c0 c5 (nx_ne S) Z.ts.at S.few hp e1 e2 e4
  · rw [if_neg hp]
    exact in_nobody b p pl z.nx w c5 (nx_ne S) hp
set_option maxRecDepth 100000 in
set_option maxHeartbeats 2000000 in
theorem pDeck_any (b : Nat) (Sb : List Nat) (z : Zs) (p : Int) (w : World) (Z : ZAt w b Sb z) (S : z.Sound) : Calls Try.prog 25 #[.pointer (some ⟨b, 0, none⟩), .int .i64 p] w (InPost w (z.inOf p 1)) := by
  have C := in_any b Sb z p 1 w Z S
  obtain ⟨l, hl⟩ : ∃ l, l = z.inOf p 1 := ⟨_, rfl⟩
  rw [← hl] at C ⊢
  clear Z S hl
  go_enter Try.func25, Try.ntmps25
  go_wp2_with (go_at_call 60; refine C.mono ?_; rintro e w2 ⟨v2, rfl, o2, g2⟩; have HF : Hid (OwnI w2 w.heap.size v2 l ∧ w.grownBy w2 none) := ⟨o2, g2⟩; clear o2 g2)
  go_ret
  exact ⟨_, rfl, HF.out⟩
set_option maxRecDepth 100000 in
set_option maxHeartbeats 2000000 in
theorem pHand_any (b : Nat) (Sb : List Nat) (z : Zs) (p : Int) (w : World) (Z : ZAt w b Sb z) (S : z.Sound) : Calls Try.prog 31 #[.pointer (some ⟨b, 0, none⟩), .int .i64 p] w (InPost w (z.inOf p 2)) := by
  have C := in_any b Sb z p 2 w Z S
  obtain ⟨l, hl⟩ : ∃ l, l = z.inOf p 2 := ⟨_, rfl⟩
  rw [← hl] at C ⊢
  clear Z S hl
  go_enter Try.func31, Try.ntmps31
  go_wp2_with (go_at_call 60; refine C.mono ?_; rintro e w2 ⟨v2, rfl, o2, g2⟩; have HF : Hid (OwnI w2 w.heap.size v2 l ∧ w.grownBy w2 none) := ⟨o2, g2⟩; clear o2 g2)
  go_ret
  exact ⟨_, rfl, HF.out⟩
set_option maxRecDepth 100000 in
set_option maxHeartbeats 2000000 in
theorem things_any (b : Nat) (Sb : List Nat) (z : Zs) (w : World) (Z : ZAt w b Sb z) (S : z.Sound) : Calls Try.prog 30 #[.pointer (some ⟨b, 0, none⟩)] w fun e w' => e = .returned (.slice (some ⟨w.heap.size, 0, none⟩) z.ts.length z.ts.length) ∧ OwnT w' w.heap.size (.slice (some ⟨w.heap.size, 0, none⟩) z.ts.length z.ts.length) z.ts ∧ w.grownBy w' none := by
  obtain ⟨vt, d0, d1, h0, h1, Z⟩ := Z
  obtain ⟨c0, _, _, _, _, c5⟩ := Z.cell
  have T := Z.ts.at
  have M := made_yes b z.nx w c5 (nx_ne S)
  have C := ownT_any vt z.ts w T S.few
  obtain ⟨p1, q1, rfl, _⟩ := T.src
  clear T Z S c5
  go_enter Try.func30, Try.ntmps30
  go_wp2_with (first | (go_at_call 61; refine M.mono ?_; rintro e w1 ⟨rfl, h⟩; obtain rfl : w = w1 := h.symm) | (go_at_call 40; refine C.mono ?_; rintro e w2 ⟨rfl, o2, g2⟩; have HF : Hid (OwnT w2 w.heap.size (.slice (some ⟨w.heap.size, 0, none⟩) z.ts.length z.ts.length) z.ts ∧ w.grownBy w2 none) := ⟨o2, g2⟩; clear o2 g2))
  go_ret
  exact ⟨rfl, HF.out⟩
def thv (t : Th) : Value := .agg #[.int .i64 t.card, .int .i64 t.owner, .int .u8 t.place, .int .i64 t.stamp, .int .i64 t.hurt, .int .i64 t.m0, .int .i64 t.m1, .int .i64 t.m2, .int .i64 t.m3, .int .i64 t.done, .bool t.fresh]
/-- What Thing answers: the thing, or an error beside none. -/
def Zs.thingE (z : Zs) (n : Int) : Int := if 1 ≤ n ∧ n ≤ (z.ts.length : Int) then 0 else 6
def Zs.thingT (z : Zs) (n : Int) : Th := if 1 ≤ n ∧ n ≤ (z.ts.length : Int) then thAt z.ts n else Th.none
end Go.Proofs.Ytogpgldbbegniaa
