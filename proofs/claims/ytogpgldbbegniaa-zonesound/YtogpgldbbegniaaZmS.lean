/-
  Zones: New.
-/
import Derived.Test.YtogpgldbbegniaaZmR
namespace Go.Proofs.Ytogpgldbbegniaa
open Go.RowKit

theorem ret_bool {a b : Bool} (h : a = b) : Ending.returned (.bool a) = .returned (.bool b) := by rw [h]
set_option maxRecDepth 100000 in
set_option maxHeartbeats 8000000 in
theorem areCards_any (v : Value) (l : List Int) (w : World) (h : IntsA w v l) (hb : (l.length + 2) * 8 ≤ 140737488355328) : Calls Try.prog 29 #[v] w fun e w' => e = .returned (.bool (!l.any fun c => decide (c < 1))) ∧ w' = w := by
  obtain ⟨p, cp, rfl, hp⟩ := h.in
  have HP : Hid (0 < l.length → ∃ g o, p = some ⟨g, o, none⟩ ∧ ∀ (j : Nat) x, l[j]? = some x → w.cell? ⟨g, o + j, none⟩ = some (.int .i64 x)) := hp
  have HB : Hid (l.length ≤ 17592186044416) := by show l.length ≤ _; omega
  clear hp h hb
  go_enter Try.func29, Try.ntmps29
  go_wp2
  go_loopw [4, 7] (fun _ i wr => ∃ k : Nat, k ≤ l.length ∧ i = .int .i64 (k : Int) ∧ wr = w ∧ ∀ j, j < k → ¬ l.getD j 0 < 1) (fun _ i _ => l.length - (intOf i).toNat)
  case atStart => exact ⟨0, Nat.zero_le _, rfl, rfl, fun j hj => absurd hj (Nat.not_lt_zero _)⟩
  case round =>
    obtain ⟨k, hk, rfl, rfl, hall⟩ := hrel
    have HA : Hid (∀ j, j < k → ¬ l.getD j 0 < 1) := hall
    clear hall
    by_cases hlt : k < l.length
    · obtain ⟨g, o, rfl, hc⟩ := HP.out (by omega)
      have c1 := hc k (l.getD k 0) (by rw [List.getElem?_eq_getElem hlt, getD_lt l k hlt])
      obtain ⟨m, hm⟩ : ∃ m, m = l.getD k 0 := ⟨_, rfl⟩
      rw [← hm] at c1
      have HM : Hid (m = l.getD k 0 ∧ m ∈ l) := ⟨hm, by rw [hm]; exact getD_mem hlt⟩
      have hlt' : (k : Int) < (l.length : Int) := by omega
      have hwk : wrap64 ((k : Int) + 1) = (k : Int) + 1 := by have := HB.out; unfold wrap64; omega
      have HQ : Hid (k + 1 ≤ l.length) := hlt
      have HMe : Hid (l.length - (intOf (.int .i64 ((k : Int) + 1))).toNat < l.length - (intOf (.int .i64 (k : Int))).toNat) := meas_next hlt
      clear hm hc hk
      by_cases q : m < 1
      · have e0 : (!l.any fun c => decide (c < 1)) = false := by
          have : (l.any fun c => decide (c < 1)) = true := List.any_eq_true.2 ⟨m, HM.out.2, decide_eq_true q⟩
          rw [this]; rfl
        have HE0 : Hid ((!l.any fun c => decide (c < 1)) = false) := e0
        clear e0
        go_wp2
        go_ret
        exact ⟨ret_bool HE0.out.symm, by first | exact trivial | rfl⟩
      · have d1 : decide (m < 1) = false := decide_eq_false q
        have HR : Hid (∀ j, j < k + 1 → ¬ l.getD j 0 < 1) := by
          intro j hj
          rcases (show j < k ∨ j = k from by omega) with h | h
          · exact HA.out j h
          · rw [h, ← HM.out.1]; exact q
        clear HA
        go_wp2
        go_roundw
        case rel => exact ⟨k + 1, HQ.out, by first | rfl | (rw [hwk]; rfl) | go_num, by first | exact trivial | rfl, HR.out⟩
        case measure => first | exact HMe.out | (rw [hwk]; exact HMe.out)
    · have hlt' : ¬ (k : Int) < (l.length : Int) := by omega
      have e0 : (!l.any fun c => decide (c < 1)) = true := by
        have : (l.any fun c => decide (c < 1)) = false := by
          rw [List.any_eq_false]
          intro x hx
          obtain ⟨j, hj, rfl⟩ := mem_getD hx
          simp only [decide_eq_true_eq]
          exact HA.out j (by omega)
        rw [this]; rfl
      have HE0 : Hid ((!l.any fun c => decide (c < 1)) = true) := e0
      clear HA e0
      go_wp2
      go_ret
      exact ⟨ret_bool HE0.out.symm, by first | exact trivial | rfl⟩
/-- Zones, with an owner's cards laid into its deck. -/
def Zs.up (z : Zs) (p : Int) (l : List Int) : Zs := { z with ts := z.ts ++ l.map (newT p), dk := fun q => if q = p then z.dk p ++ nums z.ts.length l.length else z.dk q }
def zEmpty : Zs := ⟨[], fun _ => [], fun _ => [], 1⟩
theorem nums_zero (a : Nat) : nums a 0 = [] := rfl
/-- What New answers. -/
def NwPost (w : World) (one two : List Int) (e : Ending) (w' : World) : Prop := (newE one two = 0 ∧ ∃ b S, e = .returned (.tuple #[.pointer (some ⟨b, 0, none⟩), .int .i64 0]) ∧ ZAt w' b S (newZ one two) ∧ (∀ x, x ∈ S → w.heap.size ≤ x) ∧ Old w' S ∧ w.grownBy w' none) ∨ (newE one two ≠ 0 ∧ e = .returned (.tuple #[.pointer none, .int .i64 (newE one two)]) ∧ w.grownBy w' none)
theorem newE_any (one two : List Int) : newE one two = if 2048 < one.length + two.length then 3 else if (!one.any fun c => decide (c < 1)) = true ∧ (!two.any fun c => decide (c < 1)) = true then 0 else 2 := by
  unfold newE
  rw [List.any_append]
  split
  · rfl
  · cases one.any (fun c => decide (c < 1)) <;> cases two.any (fun c => decide (c < 1)) <;> rfl
theorem new_up (one two : List Int) : (newZ one two).ts = ((zEmpty.up 0 one).up 1 two).ts ∧ (newZ one two).dk 0 = ((zEmpty.up 0 one).up 1 two).dk 0 ∧ (newZ one two).dk 1 = ((zEmpty.up 0 one).up 1 two).dk 1 := by
  refine ⟨rfl, ?_, ?_⟩
  · show nums 0 one.length = (if (0 : Int) = 1 then (if (1 : Int) = 0 then [] ++ nums 0 one.length else []) ++ nums ([] ++ one.map (newT 0)).length two.length else (if (0 : Int) = 0 then [] ++ nums 0 one.length else []))
    rw [if_neg (by decide), if_pos rfl, List.nil_append]
  · show (if (1 : Int) = 0 then nums 0 one.length else if (1 : Int) = 1 then nums one.length two.length else []) = (if (1 : Int) = 1 then (if (1 : Int) = 0 then [] ++ nums 0 one.length else []) ++ nums ([] ++ one.map (newT 0)).length two.length else (if (1 : Int) = 0 then [] ++ nums 0 one.length else []))
    rw [if_neg (by decide), if_pos rfl, if_pos rfl, if_neg (by decide), List.nil_append, List.nil_append, List.length_map]
/-- What New has made so far. -/
def Mk (w wr : World) (b : Nat) (z : Zs) : Prop := ∃ S, ZAt wr b S z ∧ (∀ x, x ∈ S → w.heap.size ≤ x) ∧ Old wr S ∧ w.grownBy wr none
theorem mk_zero {w wr : World} {b : Nat} {z : Zs} (p : Int) (h : Mk w wr b z) : Mk w wr b (z.up p []) := by
  obtain ⟨S, ⟨vt, d0, d1, h0, h1, Z⟩, r⟩ := h
  refine ⟨S, ⟨vt, d0, d1, h0, h1, Z.congr (List.append_nil _) rfl ?_ ?_ rfl rfl⟩, r⟩
  · show (if (0 : Int) = p then z.dk p ++ [] else z.dk 0) = z.dk 0
    split
    · next q => rw [← q, List.append_nil]
    · rfl
  · show (if (1 : Int) = p then z.dk p ++ [] else z.dk 1) = z.dk 1
    split
    · next q => rw [← q, List.append_nil]
    · rfl
theorem Mk.congr {w W : World} {b : Nat} {z y : Zs} (h : Mk w W b z) (e1 : y.ts = z.ts) (e2 : y.nx = z.nx) (e3 : y.dk 0 = z.dk 0) (e4 : y.dk 1 = z.dk 1) (e5 : y.hd 0 = z.hd 0) (e6 : y.hd 1 = z.hd 1) : Mk w W b y := by
  obtain ⟨S, ⟨vt, d0, d1, h0, h1, Z⟩, r⟩ := h
  exact ⟨S, ⟨vt, d0, d1, h0, h1, Z.congr e1 e2 e3 e4 e5 e6⟩, r⟩
theorem up_ts {z : Zs} {p c : Int} {L : List Int} {j : Nat} (hc : L[j]? = some c) : (z.up p (L.take (j + 1))).ts = (z.up p (L.take j)).ts ++ [newT p c] := by
  show z.ts ++ (L.take (j + 1)).map (newT p) = (z.ts ++ (L.take j).map (newT p)) ++ [newT p c]
  rw [List.take_add_one, hc, List.map_append, List.append_assoc]
  rfl
theorem up_dk {z : Zs} {p c : Int} {L : List Int} {j : Nat} (hc : L[j]? = some c) : (z.up p (L.take (j + 1))).dk p = (z.up p (L.take j)).dk p ++ [((z.up p (L.take j)).ts.length : Int) + 1] := by
  have hj := (List.getElem?_eq_some_iff.1 hc).1
  have e1 : (L.take (j + 1)).length = j + 1 := by rw [List.length_take]; omega
  have e2 : (L.take j).length = j := by rw [List.length_take]; omega
  have e3 : (z.up p (L.take j)).ts.length = z.ts.length + j := by
    show (z.ts ++ (L.take j).map (newT p)).length = _
    rw [List.length_append, List.length_map, e2]
  rw [e3]
  show (if p = p then z.dk p ++ nums z.ts.length (L.take (j + 1)).length else z.dk p) = (if p = p then z.dk p ++ nums z.ts.length (L.take j).length else z.dk p) ++ _
  rw [if_pos rfl, if_pos rfl, e1, e2, nums_next, List.append_assoc, Int.natCast_add]
theorem up_len {z : Zs} {p : Int} {L : List Int} {j : Nat} (hj : j ≤ L.length) : (z.up p (L.take j)).ts.length = z.ts.length + j ∧ ((z.up p (L.take j)).dk p).length = (z.dk p).length + j := by
  have e2 : (L.take j).length = j := by rw [List.length_take]; omega
  constructor
  · show (z.ts ++ (L.take j).map (newT p)).length = _
    rw [List.length_append, List.length_map, e2]
  · show (if p = p then z.dk p ++ nums z.ts.length (L.take j).length else z.dk p).length = _
    rw [if_pos rfl, List.length_append, e2]
    simp [nums]
theorem up_other {z : Zs} {p q : Int} {l m : List Int} (h : q ≠ p) : (z.up p l).dk q = (z.up p m).dk q := by
  show (if q = p then _ else z.dk q) = (if q = p then _ else z.dk q)
  rw [if_neg h, if_neg h]
theorem mk_next0 {w W5 U2 w8 : World} {B : Nat} {S5 : List Nat} {z : Zs} {vt d0 d1 h0 h1 v8 : Value} {l : List Int} (hz : ZG 93 [] U2 B S5 z vt d0 d1 h0 h1) (hn : ∀ x, x ∈ S5 → w.heap.size ≤ x) (ho : Old W5 S5) (hg : w.grownBy W5 none) (g2 : W5.grownBy U2 none) (g8 : U2.grownBy w8 d0.ownBlock) (O8 : OwnI w8 0 v8 l) (hl : v8.ownBlock = d0.ownBlock ∨ ∀ x, v8.ownBlock = some x → U2.heap.size ≤ x) : Mk w (w8.setCell ⟨B, 1, none⟩ v8) B { z with dk := fun q => if q = 0 then l else z.dk q } := by
  have Z8 := hz.app_d0 tgs_z g8 O8 hl
  have hdS : ∀ x, d0.ownBlock = some x → x ∈ S5 := fun x hx => hz.inS d0 (by simp) x hx
  have g9 : w.grownBy w8 none := grown_own (grown_trans hg g2) g8 (fun x hx => hn x (hdS x hx))
  refine ⟨_, ⟨_, _, _, _, _, Z8⟩, ?_, ?_, grown_own g9 (grown_set w8 B 1 _) (fun x hx => by cases hx; exact hn B hz.inb)⟩
  · intro x hx
    rcases List.mem_append.1 hx with q | q
    · have q1 : v8.ownBlock = some x := by simpa using q
      rcases hl with r | r
      · rw [r] at q1
        exact hn x (hdS x q1)
      · exact Nat.le_trans (Nat.le_trans hg.size g2.size) (r x q1)
    · exact hn x q
  · intro x hx
    rcases List.mem_append.1 hx with q | q
    · exact Nat.lt_of_lt_of_le (own_lt O8 x (by simpa using q)) (grown_set w8 B 1 _).size
    · exact Nat.lt_of_lt_of_le (ho x q) (Nat.le_trans (Nat.le_trans g2.size g8.size) (grown_set w8 B 1 _).size)
theorem mk_next1 {w W5 U2 w8 : World} {B : Nat} {S5 : List Nat} {z : Zs} {vt d0 d1 h0 h1 v8 : Value} {l : List Int} (hz : ZG 93 [] U2 B S5 z vt d0 d1 h0 h1) (hn : ∀ x, x ∈ S5 → w.heap.size ≤ x) (ho : Old W5 S5) (hg : w.grownBy W5 none) (g2 : W5.grownBy U2 none) (g8 : U2.grownBy w8 d1.ownBlock) (O8 : OwnI w8 0 v8 l) (hl : v8.ownBlock = d1.ownBlock ∨ ∀ x, v8.ownBlock = some x → U2.heap.size ≤ x) : Mk w (w8.setCell ⟨B, 2, none⟩ v8) B { z with dk := fun q => if q = 1 then l else z.dk q } := by
  have Z8 := hz.app_d1 tgs_z g8 O8 hl
  have hdS : ∀ x, d1.ownBlock = some x → x ∈ S5 := fun x hx => hz.inS d1 (by simp) x hx
  have g9 : w.grownBy w8 none := grown_own (grown_trans hg g2) g8 (fun x hx => hn x (hdS x hx))
  refine ⟨_, ⟨_, _, _, _, _, Z8⟩, ?_, ?_, grown_own g9 (grown_set w8 B 2 _) (fun x hx => by cases hx; exact hn B hz.inb)⟩
  · intro x hx
    rcases List.mem_append.1 hx with q | q
    · have q1 : v8.ownBlock = some x := by simpa using q
      rcases hl with r | r
      · rw [r] at q1
        exact hn x (hdS x q1)
      · exact Nat.le_trans (Nat.le_trans hg.size g2.size) (r x q1)
    · exact hn x q
  · intro x hx
    rcases List.mem_append.1 hx with q | q
    · exact Nat.lt_of_lt_of_le (own_lt O8 x (by simpa using q)) (grown_set w8 B 2 _).size
    · exact Nat.lt_of_lt_of_le (ho x q) (Nat.le_trans (Nat.le_trans g2.size g8.size) (grown_set w8 B 2 _).size)
theorem mk_start (w : World) : Mk w (w.alloc (.cells (zc (.slice none 0 0) (.slice none 0 0) (.slice none 0 0) (.slice none 0 0) (.slice none 0 0) 1 []) 93)) w.heap.size zEmpty := by
  refine ⟨[w.heap.size], ⟨_, _, _, _, _, ⟨alloc_at _ _ _, World.ownsRow_nil _ _ _ _, OwnI.nil _ _, OwnI.nil _ _, OwnI.nil _ _, OwnI.nil _ _, by simp, ?_, ?_⟩⟩, ?_, ?_, World.grownBy_alloc _ _ _⟩
  · intro v hv x hx
    simp at hv
    subst hv
    simp [Value.ownBlock] at hx
  · simp [Apart2, Value.ownBlock]
  · intro x hx
    rw [List.mem_singleton.1 hx]
    exact Nat.le_refl _
  · intro x hx
    rw [List.mem_singleton.1 hx, World.size_alloc]
    omega
set_option maxRecDepth 100000 in
set_option maxHeartbeats 8000000 in
theorem new_long (v1 v2 : Value) (one two : List Int) (w : World) (h1 : IntsA w v1 one) (h2 : IntsA w v2 two) (b1 : (one.length + 2) * 8 ≤ 140737488355328) (b2 : (two.length + 2) * 8 ≤ 140737488355328) (hl : 2048 < one.length + two.length) : Calls Try.prog 7 #[v1, v2] w (NwPost w one two) := by
  obtain ⟨p1, c1, rfl, _⟩ := h1.src
  obtain ⟨p2, c2, rfl, _⟩ := h2.src
  have e0 : newE one two = 3 := by rw [newE_any, if_pos hl]
  have HF : Hid (NwPost w one two (.returned (.tuple #[.pointer none, .int .i64 3])) w) := Or.inr ⟨by rw [e0]; decide, by rw [e0], grown_refl _ _⟩
  have hw : wrap64 ((one.length : Int) + (two.length : Int)) = (one.length : Int) + (two.length : Int) := by unfold wrap64; omega
  have hl' : (2048 : Int) < (one.length : Int) + (two.length : Int) := by omega
  clear h1 h2 b1 b2 e0 hl
  go_enter Try.func7, Try.ntmps7
  go_wp2
  go_ret2
  exact HF.out
set_option maxRecDepth 100000 in
set_option maxHeartbeats 8000000 in
theorem new_bad1 (v1 v2 : Value) (one two : List Int) (w : World) (h1 : IntsA w v1 one) (h2 : IntsA w v2 two) (b1 : (one.length + 2) * 8 ≤ 140737488355328) (b2 : (two.length + 2) * 8 ≤ 140737488355328) (hl : ¬ 2048 < one.length + two.length) (q1 : (!one.any fun c => decide (c < 1)) = false) : Calls Try.prog 7 #[v1, v2] w (NwPost w one two) := by
  have A1 := areCards_any v1 one w h1 b1
  have A2 := areCards_any v2 two w h2 b2
  rw [q1] at A1
  obtain ⟨p1, c1, rfl, _⟩ := h1.src
  obtain ⟨p2, c2, rfl, _⟩ := h2.src
  have e0 : newE one two = 2 := by rw [newE_any, if_neg hl, if_neg (by rw [q1]; simp)]
  have HF : Hid (NwPost w one two (.returned (.tuple #[.pointer none, .int .i64 2])) w) := Or.inr ⟨by rw [e0]; decide, by rw [e0], grown_refl _ _⟩
  have hw : wrap64 ((one.length : Int) + (two.length : Int)) = (one.length : Int) + (two.length : Int) := by unfold wrap64; omega
  have hl' : ¬ (2048 : Int) < (one.length : Int) + (two.length : Int) := by omega
  clear h1 h2 b1 b2 e0 hl q1
  go_enter Try.func7, Try.ntmps7
  go_wp2_with fail
  refine A1.mono ?_
  rintro e w9 ⟨rfl, h⟩
  obtain rfl : w = w9 := h.symm
  clear A1 h
  go_wp2_with fail
  go_ret2
  exact HF.out
set_option maxRecDepth 100000 in
set_option maxHeartbeats 8000000 in
theorem new_bad2 (v1 v2 : Value) (one two : List Int) (w : World) (h1 : IntsA w v1 one) (h2 : IntsA w v2 two) (b1 : (one.length + 2) * 8 ≤ 140737488355328) (b2 : (two.length + 2) * 8 ≤ 140737488355328) (hl : ¬ 2048 < one.length + two.length) (q1 : (!one.any fun c => decide (c < 1)) = true) (q2 : (!two.any fun c => decide (c < 1)) = false) : Calls Try.prog 7 #[v1, v2] w (NwPost w one two) := by
  have A1 := areCards_any v1 one w h1 b1
  have A2 := areCards_any v2 two w h2 b2
  rw [q1] at A1
  rw [q2] at A2
  obtain ⟨p1, c1, rfl, _⟩ := h1.src
  obtain ⟨p2, c2, rfl, _⟩ := h2.src
  have e0 : newE one two = 2 := by rw [newE_any, if_neg hl, if_neg (by rw [q1, q2]; simp)]
  have HF : Hid (NwPost w one two (.returned (.tuple #[.pointer none, .int .i64 2])) w) := Or.inr ⟨by rw [e0]; decide, by rw [e0], grown_refl _ _⟩
  have hw : wrap64 ((one.length : Int) + (two.length : Int)) = (one.length : Int) + (two.length : Int) := by unfold wrap64; omega
  have hl' : ¬ (2048 : Int) < (one.length : Int) + (two.length : Int) := by omega
  clear h1 h2 b1 b2 e0 hl q1 q2
  go_enter Try.func7, Try.ntmps7
  go_wp2_with fail
  refine A1.mono ?_
  rintro e w9 ⟨rfl, h⟩
  obtain rfl : w = w9 := h.symm
  clear A1 h
  go_wp2_with (go_at_call 29; refine A2.mono ?_; rintro e w9 ⟨rfl, h⟩; obtain rfl : w = w9 := h.symm)
  go_ret2
  exact HF.out
set_option maxRecDepth 100000 in
set_option maxHeartbeats 8000000 in
theorem new_good (v1 v2 : Value) (one two : List Int) (w : World) (h1 : IntsA w v1 one) (h2 : IntsA w v2 two) (b1 : (one.length + 2) * 8 ≤ 140737488355328) (b2 : (two.length + 2) * 8 ≤ 140737488355328) (hl : ¬ 2048 < one.length + two.length) (q1 : (!one.any fun c => decide (c < 1)) = true) (q2 : (!two.any fun c => decide (c < 1)) = true) : Calls Try.prog 7 #[v1, v2] w (NwPost w one two) := by
  obtain ⟨i1, hi1, hza1, hzb1, hzc1⟩ := info_parts Try.info3i'
  obtain ⟨i11, hi11, hza11, hzb11, hzc11⟩ := info_parts Try.infoT
  have A1 := areCards_any v1 one w h1 b1
  have A2 := areCards_any v2 two w h2 b2
  rw [q1] at A1
  rw [q2] at A2
  have HI1 : Hid (IntsA w v1 one) := h1
  have HI2 : Hid (IntsA w v2 two) := h2
  obtain ⟨p1, c1, ev1, _⟩ := h1.src
  obtain ⟨p2, c2, ev2, _⟩ := h2.src
  rw [ev1] at A1 HI1 ⊢
  rw [ev2] at A2 HI2 ⊢
  have HE : Hid (newE one two = 0) := by show newE one two = 0; rw [newE_any, if_neg hl, if_pos ⟨q1, q2⟩]
  have HL : Hid (one.length + two.length ≤ 2048) := by show one.length + two.length ≤ 2048; omega
  have hw : wrap64 ((one.length : Int) + (two.length : Int)) = (one.length : Int) + (two.length : Int) := by unfold wrap64; omega
  have hl' : ¬ (2048 : Int) < (one.length : Int) + (two.length : Int) := by omega
  have hd' : decide ((2048 : Int) < (one.length : Int) + (two.length : Int)) = false := decide_eq_false hl'
  clear h1 h2 b1 b2 hl q1 q2 ev1 ev2
  go_enter Try.func7, Try.ntmps7
  go_wp2_with fail
  refine A1.mono ?_
  rintro e w9 ⟨rfl, h⟩
  obtain rfl : w = w9 := h.symm
  clear A1 h
  go_wp2_with fail
  refine A2.mono ?_
  rintro e w9 ⟨rfl, h⟩
  obtain rfl : w = w9 := h.symm
  clear A2 h
  go_wp2_with fail
  obtain ⟨B, hB⟩ : ∃ B, B = w.heap.size := ⟨_, rfl⟩
  have HS : Hid (Mk w (w.alloc (.cells (zc (.slice none 0 0) (.slice none 0 0) (.slice none 0 0) (.slice none 0 0) (.slice none 0 0) 1 []) 93)) B zEmpty) := by rw [hB]; exact mk_start w
  have HB : Hid (B = w.heap.size) := hB
  rw [← hB]
  clear hB
  go_loopw [7, 8, 10, 32] (fun _ _ _ i wr => (i = .int .i64 0 ∧ Mk w wr B zEmpty) ∨ (i = .int .i64 1 ∧ Mk w wr B (zEmpty.up 0 one)) ∨ (i = .int .i64 2 ∧ Mk w wr B ((zEmpty.up 0 one).up 1 two))) (fun _ _ _ i _ => 2 - (intOf i).toNat)
  case atStart => exact Or.inl ⟨rfl, HS.out⟩
  case round =>
    clear HS
    rcases hrel with ⟨rfl, hM⟩ | ⟨rfl, hM⟩ | ⟨rfl, hM⟩
    · obtain ⟨Y, hY⟩ : ∃ Y, Y = wr := ⟨_, rfl⟩
      subst hY
      have ha0 : ∀ w, (Instr.index 30 (.agg #[.slice p1 one.length c1, .slice p2 two.length c2]) (.int .i64 0)).run Try.prog w = .ok (.slice p1 one.length c1) w := fun _ => by kernel_rfl
      have HM : Hid (Mk w Y B zEmpty) := hM
      have HLn : Hid (one.length ≤ 2048 ∧ zEmpty.ts.length + one.length ≤ 2048) := by
        show _ ∧ _
        have := HL.out
        refine ⟨by omega, ?_⟩
        show 0 + _ ≤ 2048; omega
      clear hM
      go_wp2_with fail
      go_loopw [10, 38] (fun _ i wr => ∃ j : Nat, j ≤ one.length ∧ i = .int .i64 (j : Int) ∧ Mk w wr B (zEmpty.up 0 (one.take j))) (fun _ i _ => one.length - (intOf i).toNat)
      case atStart => exact ⟨0, Nat.zero_le _, rfl, by rw [List.take_zero]; exact mk_zero 0 HM.out⟩
      case round =>
        clear HM
        obtain ⟨j, hj, rfl, hM⟩ := hrel
        obtain ⟨W, hW⟩ : ∃ W, W = wr := ⟨_, rfl⟩
        subst hW
        by_cases hlt : j < one.length
        · skip
          have hlt' : (j : Int) < (one.length : Int) := by omega
          have hlt2 : j < one.length := hlt
          obtain ⟨S, ⟨vt, d0, d1, h0, h1, Z⟩, hnew, hold, hg⟩ := hM
          obtain ⟨pq, cq, eq, hcs⟩ := IntsA.in (HI1.out.keep hg)
          cases eq
          obtain ⟨gq, oq, rfl, hcell⟩ := hcs (by omega)
          obtain ⟨c, hc⟩ : ∃ c, one[j]? = some c := ⟨_, List.getElem?_eq_getElem hlt⟩
          have cj := hcell j c hc
          obtain ⟨pt, ct, ev, -⟩ := own_slice Z.ts
          obtain ⟨pd, cd, ed, -⟩ := own_slice Z.od0
          obtain ⟨ts, hts⟩ : ∃ ts, ts = (zEmpty.up 0 (one.take j)).ts := ⟨_, rfl⟩
          obtain ⟨l, hll⟩ : ∃ l, l = (zEmpty.up 0 (one.take j)).dk 0 := ⟨_, rfl⟩
          rw [← hts] at ev
          rw [← hll] at ed
          have hul := up_len (z := zEmpty) (p := 0) (L := one) (j := j) (by omega)
          rw [← hts, ← hll] at hul
          have hlen := hul.1
          have hlen2 : l.length ≤ 2048 := by
            have h9 := HLn.out
            have h8 : (zEmpty.dk 0).length = 0 := by rfl
            have := hul.2
            omega
          have HZ : Hid (ZG 93 [] W B S (zEmpty.up 0 (one.take j)) vt d0 d1 h0 h1) := Z
          have HTs : Hid (ts = (zEmpty.up 0 (one.take j)).ts) := hts
          have HDl : Hid (l = (zEmpty.up 0 (one.take j)).dk 0) := hll
          have HEV : Hid (vt = .slice pt ts.length ct) := ev
          have HED : Hid (d0 = .slice pd l.length cd) := ed
          have HN : Hid ((∀ x, x ∈ S → w.heap.size ≤ x) ∧ Old W S ∧ w.grownBy W none) := ⟨hnew, hold, hg⟩
          have HC : Hid (one[j]? = some c) := hc
          have HLs : Hid (ts.length + 1 ≤ maxLen ∧ (ts.length + 1) * 88 ≤ 140737488355328 ∧ l.length + 1 ≤ maxLen ∧ (l.length + 1) * 8 ≤ 140737488355328 ∧ ts.length + 1 ≤ 2048 ∧ ts.length = zEmpty.ts.length + j) := by
            show _ ∧ _
            have := HLn.out
            unfold maxLen
            omega
          have k0 : W.cell? ⟨B, 0, none⟩ = some (.slice pt ts.length ct) := by rw [← ev]; exact Z.cell.1
          have hwj : wrap64 ((j : Int) + 1) = (j : Int) + 1 := by have := HLn.out; unfold wrap64; omega
          have HP : Hid (j + 1 ≤ one.length) := hlt
          have HMe : Hid (one.length - (intOf (.int .i64 ((j : Int) + 1))).toNat < one.length - (intOf (.int .i64 (j : Int))).toNat) := meas_next hlt
          obtain ⟨U, hU⟩ : ∃ U, U = W.alloc (.cells #[.int .i64 c, .int .i64 0, .int .u8 1, .int .i64 0, .int .i64 0, .int .i64 0, .int .i64 0, .int .i64 0, .int .i64 0, .int .i64 0, .bool false] 38) := ⟨_, rfl⟩
          have HU : Hid (U = W.alloc (.cells #[.int .i64 c, .int .i64 0, .int .u8 1, .int .i64 0, .int .i64 0, .int .i64 0, .int .i64 0, .int .i64 0, .int .i64 0, .int .i64 0, .bool false] 38)) := hU
          have HGU : Hid (W.grownBy U none) := by show W.grownBy U none; rw [hU]; exact World.grownBy_alloc _ _ _
          have HSrc : Hid (Src U (.slice (some ⟨W.heap.size, 0, none⟩) 1 1) 1 11 (thc (newT 0 c))) := by
            show Src U _ 1 11 _
            rw [hU]
            exact lit_Src (cs := (thc (newT 0 c)).toArray) (alloc_at W _ _) rfl 1
          have HO1 : Hid (U.ownsRow 0 38 11 (.slice pt ts.length ct) ts.length (thcs ts)) := by
            have := own_grow Z.ts HGU.out
            rw [ev, ← hts] at this
            exact this
          have HZU : Hid (ZG 93 [] U B S (zEmpty.up 0 (one.take j)) (.slice pt ts.length ct) d0 d1 h0 h1) := by
            have := Z.grow HGU.out
            rw [ev] at this
            exact this
          clear hU Z hnew hold hg hcs hcell hc ev ed hts hll hlen hlen2 hul hlt
          rw [HU.out] at HSrc HO1 HZU
          go_wp2_with (at_builtin; (refine wpl_app (by rfl) (.tmp 46) (.tmp 50) 29 rfl 0 38 i11 _ 11 88 Try.underlying29 hi11 hza11 hzb11 hzc11 rfl (by decide) (.slice pt ts.length ct) ts.length (thcs ts) rfl HO1.out (.slice (some ⟨W.heap.size, 0, none⟩) 1 1) 1 (thc (newT 0 c)) rfl HSrc.out (fun u hu => thcs_ones [newT 0 c] u (by rw [thcs_one]; exact hu)) HLs.out.1 HLs.out.2.1 (Nat.zero_le _) ?_; intro v7 w7 o7 g7 l7; obtain ⟨b0, f0⟩ := HZU.out.kept0 tgs_z g7; obtain ⟨pv, cv, rfl, -⟩ := own_slice o7; have HO7 : Hid (OwnT w7 0 (.slice pv (ts.length + 1) cv) (ts ++ [newT 0 c])) := own_things o7 rfl; have HG7 : Hid ((W.alloc (.cells #[.int .i64 c, .int .i64 0, .int .u8 1, .int .i64 0, .int .i64 0, .int .i64 0, .int .i64 0, .int .i64 0, .int .i64 0, .int .i64 0, .bool false] 38)).grownBy w7 (Value.slice pt ts.length ct).ownBlock) := g7; have HL7 : Hid ((Value.slice pv (ts.length + 1) cv).ownBlock = (Value.slice pt ts.length ct).ownBlock ∨ (Value.slice pv (ts.length + 1) cv).ownBlock = some (W.alloc (.cells #[.int .i64 c, .int .i64 0, .int .u8 1, .int .i64 0, .int .i64 0, .int .i64 0, .int .i64 0, .int .i64 0, .int .i64 0, .int .i64 0, .bool false] 38)).heap.size) := l7; clear o7 g7 l7))
          obtain ⟨W5, hW5⟩ : ∃ W5, W5 = w7.setCell ⟨B, 0, none⟩ (.slice pv (ts.length + 1) cv) := ⟨_, rfl⟩
          obtain ⟨S5, hS5⟩ : ∃ S5, S5 = (Value.slice pv (ts.length + 1) cv).ownBlock.toList ++ S := ⟨_, rfl⟩
          have HZ5 : Hid (ZG 93 [] W5 B S5 { (zEmpty.up 0 (one.take j)) with ts := ts ++ [newT 0 c] } (.slice pv (ts.length + 1) cv) d0 d1 h0 h1) := by
            show ZG _ _ _ _ _ _ _ _ _ _ _
            rw [hW5, hS5]
            exact HZU.out.app_ts tgs_z HG7.out HO7.out
          have HN5 : Hid ((∀ x, x ∈ S5 → w.heap.size ≤ x) ∧ Old W5 S5 ∧ w.grownBy W5 none) := by
            have g7 := HG7.out
            have l7 := HL7.out
            rw [← HU.out] at g7 l7
            have hUs : w.heap.size ≤ U.heap.size := Nat.le_trans HN.out.2.2.size HGU.out.size
            have hvt : ∀ x, (Value.slice pt ts.length ct).ownBlock = some x → x ∈ S := fun x hx => HZ.out.inS vt (by simp) x (by rw [HEV.out]; exact hx)
            have g5 : w.grownBy w7 none := grown_own (grown_trans HN.out.2.2 HGU.out) g7 (fun x hx => HN.out.1 x (hvt x hx))
            refine ⟨?_, ?_, ?_⟩
            · rw [hS5]
              intro x hx
              rcases List.mem_append.1 hx with q | q
              · have q1 : (Value.slice pv (ts.length + 1) cv).ownBlock = some x := by simpa using q
                rcases l7 with r | r
                · rw [r] at q1
                  exact HN.out.1 x (hvt x q1)
                · rw [r] at q1
                  cases q1
                  exact hUs
              · exact HN.out.1 x q
            · rw [hS5, hW5]
              intro x hx
              rcases List.mem_append.1 hx with q | q
              · exact Nat.lt_of_lt_of_le (own_lt HO7.out x (by simpa using q)) (grown_set w7 B 0 _).size
              · exact Nat.lt_of_lt_of_le (HN.out.2.1 x q) (Nat.le_trans (Nat.le_trans HGU.out.size g7.size) (grown_set w7 B 0 _).size)
            · rw [hW5]
              exact grown_own g5 (grown_set w7 B 0 _) (fun x hx => by cases hx; exact HN.out.1 B HZ.out.inb)
          have HW5 : Hid (W5 = w7.setCell ⟨B, 0, none⟩ (.slice pv (ts.length + 1) cv)) := hW5
          have s0 : W5.cell? ⟨B, 0, none⟩ = some (.slice pv (ts.length + 1) cv) := HZ5.out.cell.1
          have sd : W5.cell? ⟨B, 1, none⟩ = some (.slice pd l.length cd) := by rw [← HED.out]; exact HZ5.out.cell.2.1
          obtain ⟨U2, hU2⟩ : ∃ U2, U2 = W5.drew.alloc (.cells #[.int .i64 ((ts.length : Int) + 1)] 3) := ⟨_, rfl⟩
          have HU2 : Hid (U2 = W5.drew.alloc (.cells #[.int .i64 ((ts.length : Int) + 1)] 3)) := hU2
          have HGU2 : Hid (W5.grownBy U2 none) := by show W5.grownBy U2 none; rw [hU2]; exact grown_push (grown_drew W5) _
          have HSrc2 : Hid (Src U2 (.slice (some ⟨W5.heap.size, 0, none⟩) 1 1) 1 1 (ints [(ts.length : Int) + 1])) := by show Src U2 _ 1 1 _; rw [hU2]; exact Src_one W5 _
          have HOd : Hid (OwnI U2 0 (.slice pd l.length cd) l) := by
            have this : U2.ownsRow 0 3 1 d0 ((zEmpty.up 0 (one.take j)).dk 0).length (ints ((zEmpty.up 0 (one.take j)).dk 0)) := own_grow HZ5.out.od0 HGU2.out
            rw [HED.out, ← HDl.out] at this
            exact this
          have u0 : U2.cell? ⟨B, 0, none⟩ = some (.slice pv (ts.length + 1) cv) := HGU2.out.cell s0 (by simp)
          have ud : U2.cell? ⟨B, 1, none⟩ = some (.slice pd l.length cd) := HGU2.out.cell sd (by simp)
          clear b0 f0 k0 cj hW5 hS5 hU2 HO7 HG7 HL7 HSrc HO1 HZU HU
          go_upto_region 13 with fail
          rw [← HW5.out]
          refine wp_region_held_drew (S := fun w' => w'.cell? ⟨B, 0, none⟩ = some (.slice pv (ts.length + 1) cv)) (by kernel_rfl) (s0) (fun hHeld => ?_)
          refine wpAnyH_take (i := 0) (v := ?_) rfl (by kernel_rfl) (by kernel_rfl) (by kernel_rfl) (fun _ _ _ h => h) (Or.inl ⟨by rfl, ?_⟩) (by assumption) ?_
          rotate_left 1
          · (intro w0 hSw; go_simp; try with_reducible rfl)
          simp only [List.getElem_toArray, List.getElem_cons_zero]
          go_frame
          refine wpAnyH_take (i := 1) (v := ?_) rfl (by kernel_rfl) (by kernel_rfl) (by kernel_rfl) (fun _ _ _ h => h) (Or.inl ⟨by rfl, ?_⟩) (by assumption) ?_
          rotate_left 1
          · (intro w0 hSw; go_simp; try with_reducible rfl)
          simp only [List.getElem_toArray, List.getElem_cons_zero, List.getElem_cons_succ]
          go_frame
          refine wpAnyH_take (i := 2) (v := ?_) rfl (by kernel_rfl) (by kernel_rfl) (by kernel_rfl) (fun _ _ _ h => h) (Or.inl ⟨by rfl, ?_⟩) (by assumption) ?_
          rotate_left 1
          · (intro w0 hSw; go_simp; try with_reducible rfl)
          simp only [List.getElem_toArray, List.getElem_cons_zero, List.getElem_cons_succ]
          go_frame
          refine wpAnyH_take (i := 3) (v := ?_) rfl (by kernel_rfl) (by kernel_rfl) (by kernel_rfl) (fun _ _ _ h => h) (Or.inl ⟨by rfl, ?_⟩) (by assumption) ?_
          rotate_left 1
          · (intro w0 hSw; go_simp; try with_reducible rfl)
          simp only [List.getElem_toArray, List.getElem_cons_zero, List.getElem_cons_succ]
          go_frame
          refine wpAnyH_take (i := 4) (v := ?_) rfl (by kernel_rfl) (by kernel_rfl) (by kernel_rfl) (fun _ _ _ h => h) (Or.inl ⟨by rfl, ?_⟩) (by assumption) ?_
          rotate_left 1
          · (intro w0 hSw; go_simp; try with_reducible rfl)
          simp only [List.getElem_toArray, List.getElem_cons_zero, List.getElem_cons_succ]
          go_frame
          refine wpAnyH_take (i := 5) (v := ?_) rfl (by kernel_rfl) (by kernel_rfl) (by kernel_rfl) (fun _ _ _ h => h) (Or.inl ⟨by rfl, ?_⟩) (by assumption) ?_
          rotate_left 1
          · (intro w0 hSw; go_simp; try with_reducible rfl)
          simp only [List.getElem_toArray, List.getElem_cons_zero, List.getElem_cons_succ]
          go_frame
          refine wpAnyH_take (i := 6) (v := ?_) rfl (by kernel_rfl) (by kernel_rfl) (by kernel_rfl) (fun _ _ _ h => h) (Or.inl ⟨by rfl, ?_⟩) (by assumption) ?_
          rotate_left 1
          · (intro w0 hSw; go_simp; try with_reducible rfl)
          simp only [List.getElem_toArray, List.getElem_cons_zero, List.getElem_cons_succ]
          go_frame
          refine wpAnyH_take (i := 8) (v := ?_) rfl (by kernel_rfl) (by kernel_rfl) (by kernel_rfl) (fun _ _ _ h => h) (Or.inl ⟨by rfl, ?_⟩) (by assumption) ?_
          rotate_left 1
          · (intro w0 hSw; go_simp; try with_reducible rfl)
          simp only [List.getElem_toArray, List.getElem_cons_zero, List.getElem_cons_succ]
          go_frame
          refine wpAnyH_take (i := 9) (v := ?_) rfl (by kernel_rfl) (by kernel_rfl) (by kernel_rfl) (fun _ _ _ h => h) (Or.inl ⟨by rfl, ?_⟩) (by assumption) ?_
          rotate_left 1
          · (intro w0 hSw; go_simp; try with_reducible rfl)
          simp only [List.getElem_toArray, List.getElem_cons_zero, List.getElem_cons_succ]
          go_frame
          refine wpAnyH_take (i := 10) (v := ?_) rfl (by kernel_rfl) (by kernel_rfl) (by kernel_rfl) (fun _ _ _ h => h) (Or.inl ⟨by rfl, ?_⟩) (by assumption) ?_
          rotate_left 1
          · (intro w0 hSw; go_simp; try with_reducible rfl)
          simp only [List.getElem_toArray, List.getElem_cons_zero, List.getElem_cons_succ]
          go_frame
          refine wpAnyH_take (i := 11) (v := ?_) rfl (by kernel_rfl) (by kernel_rfl) (by kernel_rfl) (fun _ _ _ h => h) (Or.inl ⟨by rfl, ?_⟩) (by assumption) ?_
          rotate_left 1
          · (intro w0 hSw; go_simp; try with_reducible rfl)
          simp only [List.getElem_toArray, List.getElem_cons_zero, List.getElem_cons_succ]
          go_frame
          refine wpAnyH_take (i := 12) (v := ?_) rfl (by kernel_rfl) (by kernel_rfl) (by kernel_rfl) (fun _ _ _ h => h) (Or.inl ⟨by rfl, ?_⟩) (by assumption) ?_
          rotate_left 1
          · (intro w0 hSw; go_simp; try with_reducible rfl)
          simp only [List.getElem_toArray, List.getElem_cons_zero, List.getElem_cons_succ]
          go_frame
          refine wpAnyH_take (i := 15) (v := ?_) rfl (by kernel_rfl) (by kernel_rfl) (by kernel_rfl) (fun _ _ _ h => h) (Or.inl ⟨by rfl, ?_⟩) (by assumption) ?_
          rotate_left 1
          · (intro w0 hSw; go_simp; try with_reducible rfl)
          simp only [List.getElem_toArray, List.getElem_cons_zero, List.getElem_cons_succ]
          go_frame
          refine wpAnyH_take (i := 16) (v := ?_) rfl (by kernel_rfl) (by kernel_rfl) (by kernel_rfl) (fun _ _ _ h => h) (Or.inl ⟨by rfl, ?_⟩) (by assumption) ?_
          rotate_left 1
          · (intro w0 hSw; go_simp; try with_reducible rfl)
          simp only [List.getElem_toArray, List.getElem_cons_zero, List.getElem_cons_succ]
          go_frame
          refine wpAnyH_ready (rs := [7, 13]) (by kernel_rfl) (by simp) ?_
          refine AllReadyH.cons rfl (fun K9 hK => ?_) (AllReadyH.cons rfl (fun K9 hK => ?_) AllReadyH.nil)
          · skip
            simp only [List.getElem_toArray, List.getElem_cons_zero, List.getElem_cons_succ]
            go_simp
            refine hK.out _ _ (s0) (fun hHeld3 => ?_)
            clear hK K9
            (try go_frame)
            refine wpAnyH_ready (rs := [13]) (by kernel_rfl) (by simp) ?_
            refine AllReadyH.cons rfl (fun K9 hK => ?_) AllReadyH.nil
            simp only [List.getElem_toArray, List.getElem_cons_zero, List.getElem_cons_succ]
            go_simp
            try rw [show (W5.alloc (Obj.cells #[Value.int IntKind.i64 ((ts.length : Int) + 1)] 3)).drew = U2 from HU2.out.symm]
            refine hK.out _ _ (u0) (fun hHeld3 => ?_)
            clear hK K9
            (try go_frame)
            refine wpAnyH_ready (rs := [14]) (by kernel_rfl) (by simp) ?_
            refine AllReadyH.cons rfl (fun K9 hK => ?_) AllReadyH.nil
            simp only [List.getElem_toArray, List.getElem_cons_zero, List.getElem_cons_succ]
            rw [if_pos (by rfl)]
            refine wp_app (.tmp 61) (.tmp 67) 22 rfl 0 3 i1 _ 1 8 Try.underlying22 hi1 hza1 hzb1 hzc1 rfl (by decide) (.slice pd l.length cd) (l.length) (ints l) rfl (HOd.out) (.slice (some ⟨W5.heap.size, 0, none⟩) 1 1) (1) (ints [(ts.length : Int) + 1]) rfl (HSrc2.out) (ints_one _) (HLs.out.2.2.1) (HLs.out.2.2.2.1) (Nat.zero_le _) ?_
            intro v' w8 o7 g7 l7
            have HO8 : Hid (OwnI w8 0 v' (l ++ [(ts.length : Int) + 1])) := own_more o7 rfl
            have HG8 : Hid (U2.grownBy w8 (Value.slice pd l.length cd).ownBlock) := g7
            have HL8 : Hid (v'.ownBlock = (Value.slice pd l.length cd).ownBlock ∨ ∀ x, v'.ownBlock = some x → U2.heap.size ≤ x) := by
              rcases l7 with q | q
              · exact Or.inl q
              · exact Or.inr fun x hx => by rw [q] at hx; cases hx; exact Nat.le_refl _
            have HB8 : Hid (w8.heap[B]? = some (.cells (zc (.slice pv (ts.length + 1) cv) (.slice pd l.length cd) d1 h0 h1 1 []) 93 (0, 0))) := by
              have := keep_blk (HZ5.out.grow HGU2.out).blk HOd.out (by decide) g7
              rw [HED.out] at this
              exact this
            have y0 : w8.cell? ⟨B, 0, none⟩ = some (.slice pv (ts.length + 1) cv) := (block_cell HB8.out 0).trans rfl
            have yd : w8.cell? ⟨B, 1, none⟩ = some (.slice pd l.length cd) := (block_cell HB8.out 1).trans rfl
            have fd : w8.frozen? ⟨B, 1, none⟩ = false := block_free HB8.out 1
            obtain ⟨pw, cw, ev8, -⟩ := own_slice HO8.out
            obtain ⟨m8, hm8⟩ : ∃ m8, m8 = (l ++ [(ts.length : Int) + 1]).length := ⟨_, rfl⟩
            rw [← hm8] at ev8
            subst ev8
            clear hm8
            clear o7 g7 l7
            refine hK.out _ _ (y0) (fun hHeld3 => ?_)
            clear hK K9
            (try go_frame)
            refine wpAnyH_take (i := 17) (v := ?_) rfl (by kernel_rfl) (by kernel_rfl) (by kernel_rfl) (fun _ _ _ h => h) (Or.inl ⟨by rfl, ?_⟩) (by assumption) ?_
            rotate_left 1
            · (intro w0 hSw; go_simp; try with_reducible rfl)
            simp only [List.getElem_toArray, List.getElem_cons_zero, List.getElem_cons_succ]
            go_frame
            refine wpAnyH_ready (rs := [18]) (by kernel_rfl) (by simp) ?_
            refine AllReadyH.cons rfl (fun K9 hK => ?_) AllReadyH.nil
            simp only [List.getElem_toArray, List.getElem_cons_zero, List.getElem_cons_succ]
            go_simp
            have y2 : (w8.setCell ⟨B, 1, none⟩ (.slice pw m8 cw)).cell? ⟨B, 0, none⟩ = some (.slice pv (ts.length + 1) cv) := (block_cell (zc_set HB8.out rfl) 0).trans rfl
            refine hK.out _ _ (y2) (fun hHeld3 => ?_)
            clear hK K9
            (try go_frame)
            refine wpAnyH_done (by kernel_rfl) ?_ _
            have HFin : Hid (Mk w (w8.setCell ⟨B, 1, none⟩ (.slice pw m8 cw)) B (zEmpty.up 0 (one.take (j + 1)))) := by
              have hloc := HL8.out
              have hg8 := HG8.out
              rw [← HED.out] at hloc hg8
              have hM8 := mk_next0 (HZ5.out.grow HGU2.out) HN5.out.1 HN5.out.2.1 HN5.out.2.2 HGU2.out hg8 HO8.out hloc
              have et := up_ts (z := zEmpty) (p := 0) HC.out
              have ed := up_dk (z := zEmpty) (p := 0) HC.out
              rw [← HTs.out] at et ed
              rw [← HDl.out] at ed
              exact hM8.congr et rfl ed (up_other (l := one.take (j + 1)) (m := one.take j) (by decide)) rfl rfl
            clear hHeld3 HZ5 HN5 HO8 HG8 HL8 HB8 HOd HSrc2 y0 yd fd y2 s0 sd u0 ud HLs HTs HDl HEV HED HN HC HZ
            simp only [Exit.inBlock, Exit.then]
            go_wp2_with fail
            exact ⟨⟨j + 1, HP.out, by first | rfl | go_num, HFin.out⟩, HMe.out⟩
          · skip
            simp only [List.getElem_toArray, List.getElem_cons_zero, List.getElem_cons_succ]
            go_simp
            try rw [show (W5.alloc (Obj.cells #[Value.int IntKind.i64 ((ts.length : Int) + 1)] 3)).drew = U2 from HU2.out.symm]
            refine hK.out _ _ (u0) (fun hHeld3 => ?_)
            clear hK K9
            (try go_frame)
            refine wpAnyH_ready (rs := [7]) (by kernel_rfl) (by simp) ?_
            refine AllReadyH.cons rfl (fun K9 hK => ?_) AllReadyH.nil
            simp only [List.getElem_toArray, List.getElem_cons_zero, List.getElem_cons_succ]
            go_simp
            refine hK.out _ _ (u0) (fun hHeld3 => ?_)
            clear hK K9
            (try go_frame)
            refine wpAnyH_ready (rs := [14]) (by kernel_rfl) (by simp) ?_
            refine AllReadyH.cons rfl (fun K9 hK => ?_) AllReadyH.nil
            simp only [List.getElem_toArray, List.getElem_cons_zero, List.getElem_cons_succ]
            rw [if_pos (by rfl)]
            refine wp_app (.tmp 61) (.tmp 67) 22 rfl 0 3 i1 _ 1 8 Try.underlying22 hi1 hza1 hzb1 hzc1 rfl (by decide) (.slice pd l.length cd) (l.length) (ints l) rfl (HOd.out) (.slice (some ⟨W5.heap.size, 0, none⟩) 1 1) (1) (ints [(ts.length : Int) + 1]) rfl (HSrc2.out) (ints_one _) (HLs.out.2.2.1) (HLs.out.2.2.2.1) (Nat.zero_le _) ?_
            intro v' w8 o7 g7 l7
            have HO8 : Hid (OwnI w8 0 v' (l ++ [(ts.length : Int) + 1])) := own_more o7 rfl
            have HG8 : Hid (U2.grownBy w8 (Value.slice pd l.length cd).ownBlock) := g7
            have HL8 : Hid (v'.ownBlock = (Value.slice pd l.length cd).ownBlock ∨ ∀ x, v'.ownBlock = some x → U2.heap.size ≤ x) := by
              rcases l7 with q | q
              · exact Or.inl q
              · exact Or.inr fun x hx => by rw [q] at hx; cases hx; exact Nat.le_refl _
            have HB8 : Hid (w8.heap[B]? = some (.cells (zc (.slice pv (ts.length + 1) cv) (.slice pd l.length cd) d1 h0 h1 1 []) 93 (0, 0))) := by
              have := keep_blk (HZ5.out.grow HGU2.out).blk HOd.out (by decide) g7
              rw [HED.out] at this
              exact this
            have y0 : w8.cell? ⟨B, 0, none⟩ = some (.slice pv (ts.length + 1) cv) := (block_cell HB8.out 0).trans rfl
            have yd : w8.cell? ⟨B, 1, none⟩ = some (.slice pd l.length cd) := (block_cell HB8.out 1).trans rfl
            have fd : w8.frozen? ⟨B, 1, none⟩ = false := block_free HB8.out 1
            obtain ⟨pw, cw, ev8, -⟩ := own_slice HO8.out
            obtain ⟨m8, hm8⟩ : ∃ m8, m8 = (l ++ [(ts.length : Int) + 1]).length := ⟨_, rfl⟩
            rw [← hm8] at ev8
            subst ev8
            clear hm8
            clear o7 g7 l7
            refine hK.out _ _ (y0) (fun hHeld3 => ?_)
            clear hK K9
            (try go_frame)
            refine wpAnyH_take (i := 17) (v := ?_) rfl (by kernel_rfl) (by kernel_rfl) (by kernel_rfl) (fun _ _ _ h => h) (Or.inl ⟨by rfl, ?_⟩) (by assumption) ?_
            rotate_left 1
            · (intro w0 hSw; go_simp; try with_reducible rfl)
            simp only [List.getElem_toArray, List.getElem_cons_zero, List.getElem_cons_succ]
            go_frame
            refine wpAnyH_ready (rs := [18]) (by kernel_rfl) (by simp) ?_
            refine AllReadyH.cons rfl (fun K9 hK => ?_) AllReadyH.nil
            simp only [List.getElem_toArray, List.getElem_cons_zero, List.getElem_cons_succ]
            go_simp
            have y2 : (w8.setCell ⟨B, 1, none⟩ (.slice pw m8 cw)).cell? ⟨B, 0, none⟩ = some (.slice pv (ts.length + 1) cv) := (block_cell (zc_set HB8.out rfl) 0).trans rfl
            refine hK.out _ _ (y2) (fun hHeld3 => ?_)
            clear hK K9
            (try go_frame)
            refine wpAnyH_done (by kernel_rfl) ?_ _
            have HFin : Hid (Mk w (w8.setCell ⟨B, 1, none⟩ (.slice pw m8 cw)) B (zEmpty.up 0 (one.take (j + 1)))) := by
              have hloc := HL8.out
              have hg8 := HG8.out
              rw [← HED.out] at hloc hg8
              have hM8 := mk_next0 (HZ5.out.grow HGU2.out) HN5.out.1 HN5.out.2.1 HN5.out.2.2 HGU2.out hg8 HO8.out hloc
              have et := up_ts (z := zEmpty) (p := 0) HC.out
              have ed := up_dk (z := zEmpty) (p := 0) HC.out
              rw [← HTs.out] at et ed
              rw [← HDl.out] at ed
              exact hM8.congr et rfl ed (up_other (l := one.take (j + 1)) (m := one.take j) (by decide)) rfl rfl
            clear hHeld3 HZ5 HN5 HO8 HG8 HL8 HB8 HOd HSrc2 y0 yd fd y2 s0 sd u0 ud HLs HTs HDl HEV HED HN HC HZ
            simp only [Exit.inBlock, Exit.then]
            go_wp2_with fail
            exact ⟨⟨j + 1, HP.out, by first | rfl | go_num, HFin.out⟩, HMe.out⟩
        · have hlt' : ¬ (j : Int) < (one.length : Int) := by omega
          have ej : one.take j = one := List.take_of_length_le (by omega)
          have HM9 : Hid (Mk w W B (zEmpty.up 0 one)) := by rw [← ej]; exact hM
          clear hM ej
          go_wp2_with fail
          go_roundw
          case rel => exact Or.inr (Or.inl ⟨by first | rfl | go_num, HM9.out⟩)
          case measure => first | decide | simp [intOf]
    · obtain ⟨Y, hY⟩ : ∃ Y, Y = wr := ⟨_, rfl⟩
      subst hY
      have ha1 : ∀ w, (Instr.index 30 (.agg #[.slice p1 one.length c1, .slice p2 two.length c2]) (.int .i64 1)).run Try.prog w = .ok (.slice p2 two.length c2) w := fun _ => by kernel_rfl
      have HM : Hid (Mk w Y B (zEmpty.up 0 one)) := hM
      have HLn : Hid (two.length ≤ 2048 ∧ (zEmpty.up 0 one).ts.length + two.length ≤ 2048) := by
        show _ ∧ _
        have := HL.out
        refine ⟨by omega, ?_⟩
        show (([] : List Th) ++ one.map (newT 0)).length + _ ≤ 2048; simp; omega
      clear hM
      go_wp2_with fail
      go_loopw [10, 38] (fun _ i wr => ∃ j : Nat, j ≤ two.length ∧ i = .int .i64 (j : Int) ∧ Mk w wr B ((zEmpty.up 0 one).up 1 (two.take j))) (fun _ i _ => two.length - (intOf i).toNat)
      case atStart => exact ⟨0, Nat.zero_le _, rfl, by rw [List.take_zero]; exact mk_zero 1 HM.out⟩
      case round =>
        clear HM
        obtain ⟨j, hj, rfl, hM⟩ := hrel
        obtain ⟨W, hW⟩ : ∃ W, W = wr := ⟨_, rfl⟩
        subst hW
        by_cases hlt : j < two.length
        · skip
          have hlt' : (j : Int) < (two.length : Int) := by omega
          have hlt2 : j < two.length := hlt
          obtain ⟨S, ⟨vt, d0, d1, h0, h1, Z⟩, hnew, hold, hg⟩ := hM
          obtain ⟨pq, cq, eq, hcs⟩ := IntsA.in (HI2.out.keep hg)
          cases eq
          obtain ⟨gq, oq, rfl, hcell⟩ := hcs (by omega)
          obtain ⟨c, hc⟩ : ∃ c, two[j]? = some c := ⟨_, List.getElem?_eq_getElem hlt⟩
          have cj := hcell j c hc
          obtain ⟨pt, ct, ev, -⟩ := own_slice Z.ts
          obtain ⟨pd, cd, ed, -⟩ := own_slice Z.od1
          obtain ⟨ts, hts⟩ : ∃ ts, ts = ((zEmpty.up 0 one).up 1 (two.take j)).ts := ⟨_, rfl⟩
          obtain ⟨l, hll⟩ : ∃ l, l = ((zEmpty.up 0 one).up 1 (two.take j)).dk 1 := ⟨_, rfl⟩
          rw [← hts] at ev
          rw [← hll] at ed
          have hul := up_len (z := (zEmpty.up 0 one)) (p := 1) (L := two) (j := j) (by omega)
          rw [← hts, ← hll] at hul
          have hlen := hul.1
          have hlen2 : l.length ≤ 2048 := by
            have h9 := HLn.out
            have h8 : ((zEmpty.up 0 one).dk 1).length = 0 := by (show (if (1 : Int) = 0 then ([] : List Int) ++ nums 0 one.length else []).length = 0; rw [if_neg (by decide)]; rfl)
            have := hul.2
            omega
          have HZ : Hid (ZG 93 [] W B S ((zEmpty.up 0 one).up 1 (two.take j)) vt d0 d1 h0 h1) := Z
          have HTs : Hid (ts = ((zEmpty.up 0 one).up 1 (two.take j)).ts) := hts
          have HDl : Hid (l = ((zEmpty.up 0 one).up 1 (two.take j)).dk 1) := hll
          have HEV : Hid (vt = .slice pt ts.length ct) := ev
          have HED : Hid (d1 = .slice pd l.length cd) := ed
          have HN : Hid ((∀ x, x ∈ S → w.heap.size ≤ x) ∧ Old W S ∧ w.grownBy W none) := ⟨hnew, hold, hg⟩
          have HC : Hid (two[j]? = some c) := hc
          have HLs : Hid (ts.length + 1 ≤ maxLen ∧ (ts.length + 1) * 88 ≤ 140737488355328 ∧ l.length + 1 ≤ maxLen ∧ (l.length + 1) * 8 ≤ 140737488355328 ∧ ts.length + 1 ≤ 2048 ∧ ts.length = (zEmpty.up 0 one).ts.length + j) := by
            show _ ∧ _
            have := HLn.out
            unfold maxLen
            omega
          have k0 : W.cell? ⟨B, 0, none⟩ = some (.slice pt ts.length ct) := by rw [← ev]; exact Z.cell.1
          have hwj : wrap64 ((j : Int) + 1) = (j : Int) + 1 := by have := HLn.out; unfold wrap64; omega
          have HP : Hid (j + 1 ≤ two.length) := hlt
          have HMe : Hid (two.length - (intOf (.int .i64 ((j : Int) + 1))).toNat < two.length - (intOf (.int .i64 (j : Int))).toNat) := meas_next hlt
          obtain ⟨U, hU⟩ : ∃ U, U = W.alloc (.cells #[.int .i64 c, .int .i64 1, .int .u8 1, .int .i64 0, .int .i64 0, .int .i64 0, .int .i64 0, .int .i64 0, .int .i64 0, .int .i64 0, .bool false] 38) := ⟨_, rfl⟩
          have HU : Hid (U = W.alloc (.cells #[.int .i64 c, .int .i64 1, .int .u8 1, .int .i64 0, .int .i64 0, .int .i64 0, .int .i64 0, .int .i64 0, .int .i64 0, .int .i64 0, .bool false] 38)) := hU
          have HGU : Hid (W.grownBy U none) := by show W.grownBy U none; rw [hU]; exact World.grownBy_alloc _ _ _
          have HSrc : Hid (Src U (.slice (some ⟨W.heap.size, 0, none⟩) 1 1) 1 11 (thc (newT 1 c))) := by
            show Src U _ 1 11 _
            rw [hU]
            exact lit_Src (cs := (thc (newT 1 c)).toArray) (alloc_at W _ _) rfl 1
          have HO1 : Hid (U.ownsRow 0 38 11 (.slice pt ts.length ct) ts.length (thcs ts)) := by
            have := own_grow Z.ts HGU.out
            rw [ev, ← hts] at this
            exact this
          have HZU : Hid (ZG 93 [] U B S ((zEmpty.up 0 one).up 1 (two.take j)) (.slice pt ts.length ct) d0 d1 h0 h1) := by
            have := Z.grow HGU.out
            rw [ev] at this
            exact this
          clear hU Z hnew hold hg hcs hcell hc ev ed hts hll hlen hlen2 hul hlt
          rw [HU.out] at HSrc HO1 HZU
          go_wp2_with (at_builtin; (refine wpl_app (by rfl) (.tmp 46) (.tmp 50) 29 rfl 0 38 i11 _ 11 88 Try.underlying29 hi11 hza11 hzb11 hzc11 rfl (by decide) (.slice pt ts.length ct) ts.length (thcs ts) rfl HO1.out (.slice (some ⟨W.heap.size, 0, none⟩) 1 1) 1 (thc (newT 1 c)) rfl HSrc.out (fun u hu => thcs_ones [newT 1 c] u (by rw [thcs_one]; exact hu)) HLs.out.1 HLs.out.2.1 (Nat.zero_le _) ?_; intro v7 w7 o7 g7 l7; obtain ⟨b0, f0⟩ := HZU.out.kept0 tgs_z g7; obtain ⟨pv, cv, rfl, -⟩ := own_slice o7; have HO7 : Hid (OwnT w7 0 (.slice pv (ts.length + 1) cv) (ts ++ [newT 1 c])) := own_things o7 rfl; have HG7 : Hid ((W.alloc (.cells #[.int .i64 c, .int .i64 1, .int .u8 1, .int .i64 0, .int .i64 0, .int .i64 0, .int .i64 0, .int .i64 0, .int .i64 0, .int .i64 0, .bool false] 38)).grownBy w7 (Value.slice pt ts.length ct).ownBlock) := g7; have HL7 : Hid ((Value.slice pv (ts.length + 1) cv).ownBlock = (Value.slice pt ts.length ct).ownBlock ∨ (Value.slice pv (ts.length + 1) cv).ownBlock = some (W.alloc (.cells #[.int .i64 c, .int .i64 1, .int .u8 1, .int .i64 0, .int .i64 0, .int .i64 0, .int .i64 0, .int .i64 0, .int .i64 0, .int .i64 0, .bool false] 38)).heap.size) := l7; clear o7 g7 l7))
          obtain ⟨W5, hW5⟩ : ∃ W5, W5 = w7.setCell ⟨B, 0, none⟩ (.slice pv (ts.length + 1) cv) := ⟨_, rfl⟩
          obtain ⟨S5, hS5⟩ : ∃ S5, S5 = (Value.slice pv (ts.length + 1) cv).ownBlock.toList ++ S := ⟨_, rfl⟩
          have HZ5 : Hid (ZG 93 [] W5 B S5 { ((zEmpty.up 0 one).up 1 (two.take j)) with ts := ts ++ [newT 1 c] } (.slice pv (ts.length + 1) cv) d0 d1 h0 h1) := by
            show ZG _ _ _ _ _ _ _ _ _ _ _
            rw [hW5, hS5]
            exact HZU.out.app_ts tgs_z HG7.out HO7.out
          have HN5 : Hid ((∀ x, x ∈ S5 → w.heap.size ≤ x) ∧ Old W5 S5 ∧ w.grownBy W5 none) := by
            have g7 := HG7.out
            have l7 := HL7.out
            rw [← HU.out] at g7 l7
            have hUs : w.heap.size ≤ U.heap.size := Nat.le_trans HN.out.2.2.size HGU.out.size
            have hvt : ∀ x, (Value.slice pt ts.length ct).ownBlock = some x → x ∈ S := fun x hx => HZ.out.inS vt (by simp) x (by rw [HEV.out]; exact hx)
            have g5 : w.grownBy w7 none := grown_own (grown_trans HN.out.2.2 HGU.out) g7 (fun x hx => HN.out.1 x (hvt x hx))
            refine ⟨?_, ?_, ?_⟩
            · rw [hS5]
              intro x hx
              rcases List.mem_append.1 hx with q | q
              · have q1 : (Value.slice pv (ts.length + 1) cv).ownBlock = some x := by simpa using q
                rcases l7 with r | r
                · rw [r] at q1
                  exact HN.out.1 x (hvt x q1)
                · rw [r] at q1
                  cases q1
                  exact hUs
              · exact HN.out.1 x q
            · rw [hS5, hW5]
              intro x hx
              rcases List.mem_append.1 hx with q | q
              · exact Nat.lt_of_lt_of_le (own_lt HO7.out x (by simpa using q)) (grown_set w7 B 0 _).size
              · exact Nat.lt_of_lt_of_le (HN.out.2.1 x q) (Nat.le_trans (Nat.le_trans HGU.out.size g7.size) (grown_set w7 B 0 _).size)
            · rw [hW5]
              exact grown_own g5 (grown_set w7 B 0 _) (fun x hx => by cases hx; exact HN.out.1 B HZ.out.inb)
          have HW5 : Hid (W5 = w7.setCell ⟨B, 0, none⟩ (.slice pv (ts.length + 1) cv)) := hW5
          have s0 : W5.cell? ⟨B, 0, none⟩ = some (.slice pv (ts.length + 1) cv) := HZ5.out.cell.1
          have sd : W5.cell? ⟨B, 2, none⟩ = some (.slice pd l.length cd) := by rw [← HED.out]; exact HZ5.out.cell.2.2.1
          obtain ⟨U2, hU2⟩ : ∃ U2, U2 = W5.drew.alloc (.cells #[.int .i64 ((ts.length : Int) + 1)] 3) := ⟨_, rfl⟩
          have HU2 : Hid (U2 = W5.drew.alloc (.cells #[.int .i64 ((ts.length : Int) + 1)] 3)) := hU2
          have HGU2 : Hid (W5.grownBy U2 none) := by show W5.grownBy U2 none; rw [hU2]; exact grown_push (grown_drew W5) _
          have HSrc2 : Hid (Src U2 (.slice (some ⟨W5.heap.size, 0, none⟩) 1 1) 1 1 (ints [(ts.length : Int) + 1])) := by show Src U2 _ 1 1 _; rw [hU2]; exact Src_one W5 _
          have HOd : Hid (OwnI U2 0 (.slice pd l.length cd) l) := by
            have this : U2.ownsRow 0 3 1 d1 (((zEmpty.up 0 one).up 1 (two.take j)).dk 1).length (ints (((zEmpty.up 0 one).up 1 (two.take j)).dk 1)) := own_grow HZ5.out.od1 HGU2.out
            rw [HED.out, ← HDl.out] at this
            exact this
          have u0 : U2.cell? ⟨B, 0, none⟩ = some (.slice pv (ts.length + 1) cv) := HGU2.out.cell s0 (by simp)
          have ud : U2.cell? ⟨B, 2, none⟩ = some (.slice pd l.length cd) := HGU2.out.cell sd (by simp)
          clear b0 f0 k0 cj hW5 hS5 hU2 HO7 HG7 HL7 HSrc HO1 HZU HU
          go_upto_region 13 with fail
          rw [← HW5.out]
          refine wp_region_held_drew (S := fun w' => w'.cell? ⟨B, 0, none⟩ = some (.slice pv (ts.length + 1) cv)) (by kernel_rfl) (s0) (fun hHeld => ?_)
          refine wpAnyH_take (i := 0) (v := ?_) rfl (by kernel_rfl) (by kernel_rfl) (by kernel_rfl) (fun _ _ _ h => h) (Or.inl ⟨by rfl, ?_⟩) (by assumption) ?_
          rotate_left 1
          · (intro w0 hSw; go_simp; try with_reducible rfl)
          simp only [List.getElem_toArray, List.getElem_cons_zero]
          go_frame
          refine wpAnyH_take (i := 1) (v := ?_) rfl (by kernel_rfl) (by kernel_rfl) (by kernel_rfl) (fun _ _ _ h => h) (Or.inl ⟨by rfl, ?_⟩) (by assumption) ?_
          rotate_left 1
          · (intro w0 hSw; go_simp; try with_reducible rfl)
          simp only [List.getElem_toArray, List.getElem_cons_zero, List.getElem_cons_succ]
          go_frame
          refine wpAnyH_take (i := 2) (v := ?_) rfl (by kernel_rfl) (by kernel_rfl) (by kernel_rfl) (fun _ _ _ h => h) (Or.inl ⟨by rfl, ?_⟩) (by assumption) ?_
          rotate_left 1
          · (intro w0 hSw; go_simp; try with_reducible rfl)
          simp only [List.getElem_toArray, List.getElem_cons_zero, List.getElem_cons_succ]
          go_frame
          refine wpAnyH_take (i := 3) (v := ?_) rfl (by kernel_rfl) (by kernel_rfl) (by kernel_rfl) (fun _ _ _ h => h) (Or.inl ⟨by rfl, ?_⟩) (by assumption) ?_
          rotate_left 1
          · (intro w0 hSw; go_simp; try with_reducible rfl)
          simp only [List.getElem_toArray, List.getElem_cons_zero, List.getElem_cons_succ]
          go_frame
          refine wpAnyH_take (i := 4) (v := ?_) rfl (by kernel_rfl) (by kernel_rfl) (by kernel_rfl) (fun _ _ _ h => h) (Or.inl ⟨by rfl, ?_⟩) (by assumption) ?_
          rotate_left 1
          · (intro w0 hSw; go_simp; try with_reducible rfl)
          simp only [List.getElem_toArray, List.getElem_cons_zero, List.getElem_cons_succ]
          go_frame
          refine wpAnyH_take (i := 5) (v := ?_) rfl (by kernel_rfl) (by kernel_rfl) (by kernel_rfl) (fun _ _ _ h => h) (Or.inl ⟨by rfl, ?_⟩) (by assumption) ?_
          rotate_left 1
          · (intro w0 hSw; go_simp; try with_reducible rfl)
          simp only [List.getElem_toArray, List.getElem_cons_zero, List.getElem_cons_succ]
          go_frame
          refine wpAnyH_take (i := 6) (v := ?_) rfl (by kernel_rfl) (by kernel_rfl) (by kernel_rfl) (fun _ _ _ h => h) (Or.inl ⟨by rfl, ?_⟩) (by assumption) ?_
          rotate_left 1
          · (intro w0 hSw; go_simp; try with_reducible rfl)
          simp only [List.getElem_toArray, List.getElem_cons_zero, List.getElem_cons_succ]
          go_frame
          refine wpAnyH_take (i := 8) (v := ?_) rfl (by kernel_rfl) (by kernel_rfl) (by kernel_rfl) (fun _ _ _ h => h) (Or.inl ⟨by rfl, ?_⟩) (by assumption) ?_
          rotate_left 1
          · (intro w0 hSw; go_simp; try with_reducible rfl)
          simp only [List.getElem_toArray, List.getElem_cons_zero, List.getElem_cons_succ]
          go_frame
          refine wpAnyH_take (i := 9) (v := ?_) rfl (by kernel_rfl) (by kernel_rfl) (by kernel_rfl) (fun _ _ _ h => h) (Or.inl ⟨by rfl, ?_⟩) (by assumption) ?_
          rotate_left 1
          · (intro w0 hSw; go_simp; try with_reducible rfl)
          simp only [List.getElem_toArray, List.getElem_cons_zero, List.getElem_cons_succ]
          go_frame
          refine wpAnyH_take (i := 10) (v := ?_) rfl (by kernel_rfl) (by kernel_rfl) (by kernel_rfl) (fun _ _ _ h => h) (Or.inl ⟨by rfl, ?_⟩) (by assumption) ?_
          rotate_left 1
          · (intro w0 hSw; go_simp; try with_reducible rfl)
          simp only [List.getElem_toArray, List.getElem_cons_zero, List.getElem_cons_succ]
          go_frame
          refine wpAnyH_take (i := 11) (v := ?_) rfl (by kernel_rfl) (by kernel_rfl) (by kernel_rfl) (fun _ _ _ h => h) (Or.inl ⟨by rfl, ?_⟩) (by assumption) ?_
          rotate_left 1
          · (intro w0 hSw; go_simp; try with_reducible rfl)
          simp only [List.getElem_toArray, List.getElem_cons_zero, List.getElem_cons_succ]
          go_frame
          refine wpAnyH_take (i := 12) (v := ?_) rfl (by kernel_rfl) (by kernel_rfl) (by kernel_rfl) (fun _ _ _ h => h) (Or.inl ⟨by rfl, ?_⟩) (by assumption) ?_
          rotate_left 1
          · (intro w0 hSw; go_simp; try with_reducible rfl)
          simp only [List.getElem_toArray, List.getElem_cons_zero, List.getElem_cons_succ]
          go_frame
          refine wpAnyH_take (i := 15) (v := ?_) rfl (by kernel_rfl) (by kernel_rfl) (by kernel_rfl) (fun _ _ _ h => h) (Or.inl ⟨by rfl, ?_⟩) (by assumption) ?_
          rotate_left 1
          · (intro w0 hSw; go_simp; try with_reducible rfl)
          simp only [List.getElem_toArray, List.getElem_cons_zero, List.getElem_cons_succ]
          go_frame
          refine wpAnyH_take (i := 16) (v := ?_) rfl (by kernel_rfl) (by kernel_rfl) (by kernel_rfl) (fun _ _ _ h => h) (Or.inl ⟨by rfl, ?_⟩) (by assumption) ?_
          rotate_left 1
          · (intro w0 hSw; go_simp; try with_reducible rfl)
          simp only [List.getElem_toArray, List.getElem_cons_zero, List.getElem_cons_succ]
          go_frame
          refine wpAnyH_ready (rs := [7, 13]) (by kernel_rfl) (by simp) ?_
          refine AllReadyH.cons rfl (fun K9 hK => ?_) (AllReadyH.cons rfl (fun K9 hK => ?_) AllReadyH.nil)
          · skip
            simp only [List.getElem_toArray, List.getElem_cons_zero, List.getElem_cons_succ]
            go_simp
            refine hK.out _ _ (s0) (fun hHeld3 => ?_)
            clear hK K9
            (try go_frame)
            refine wpAnyH_ready (rs := [13]) (by kernel_rfl) (by simp) ?_
            refine AllReadyH.cons rfl (fun K9 hK => ?_) AllReadyH.nil
            simp only [List.getElem_toArray, List.getElem_cons_zero, List.getElem_cons_succ]
            go_simp
            try rw [show (W5.alloc (Obj.cells #[Value.int IntKind.i64 ((ts.length : Int) + 1)] 3)).drew = U2 from HU2.out.symm]
            refine hK.out _ _ (u0) (fun hHeld3 => ?_)
            clear hK K9
            (try go_frame)
            refine wpAnyH_ready (rs := [14]) (by kernel_rfl) (by simp) ?_
            refine AllReadyH.cons rfl (fun K9 hK => ?_) AllReadyH.nil
            simp only [List.getElem_toArray, List.getElem_cons_zero, List.getElem_cons_succ]
            rw [if_pos (by rfl)]
            refine wp_app (.tmp 61) (.tmp 67) 22 rfl 0 3 i1 _ 1 8 Try.underlying22 hi1 hza1 hzb1 hzc1 rfl (by decide) (.slice pd l.length cd) (l.length) (ints l) rfl (HOd.out) (.slice (some ⟨W5.heap.size, 0, none⟩) 1 1) (1) (ints [(ts.length : Int) + 1]) rfl (HSrc2.out) (ints_one _) (HLs.out.2.2.1) (HLs.out.2.2.2.1) (Nat.zero_le _) ?_
            intro v' w8 o7 g7 l7
            have HO8 : Hid (OwnI w8 0 v' (l ++ [(ts.length : Int) + 1])) := own_more o7 rfl
            have HG8 : Hid (U2.grownBy w8 (Value.slice pd l.length cd).ownBlock) := g7
            have HL8 : Hid (v'.ownBlock = (Value.slice pd l.length cd).ownBlock ∨ ∀ x, v'.ownBlock = some x → U2.heap.size ≤ x) := by
              rcases l7 with q | q
              · exact Or.inl q
              · exact Or.inr fun x hx => by rw [q] at hx; cases hx; exact Nat.le_refl _
            have HB8 : Hid (w8.heap[B]? = some (.cells (zc (.slice pv (ts.length + 1) cv) d0 (.slice pd l.length cd) h0 h1 1 []) 93 (0, 0))) := by
              have := keep_blk (HZ5.out.grow HGU2.out).blk HOd.out (by decide) g7
              rw [HED.out] at this
              exact this
            have y0 : w8.cell? ⟨B, 0, none⟩ = some (.slice pv (ts.length + 1) cv) := (block_cell HB8.out 0).trans rfl
            have yd : w8.cell? ⟨B, 2, none⟩ = some (.slice pd l.length cd) := (block_cell HB8.out 2).trans rfl
            have fd : w8.frozen? ⟨B, 2, none⟩ = false := block_free HB8.out 2
            obtain ⟨pw, cw, ev8, -⟩ := own_slice HO8.out
            obtain ⟨m8, hm8⟩ : ∃ m8, m8 = (l ++ [(ts.length : Int) + 1]).length := ⟨_, rfl⟩
            rw [← hm8] at ev8
            subst ev8
            clear hm8
            clear o7 g7 l7
            refine hK.out _ _ (y0) (fun hHeld3 => ?_)
            clear hK K9
            (try go_frame)
            refine wpAnyH_take (i := 17) (v := ?_) rfl (by kernel_rfl) (by kernel_rfl) (by kernel_rfl) (fun _ _ _ h => h) (Or.inl ⟨by rfl, ?_⟩) (by assumption) ?_
            rotate_left 1
            · (intro w0 hSw; go_simp; try with_reducible rfl)
            simp only [List.getElem_toArray, List.getElem_cons_zero, List.getElem_cons_succ]
            go_frame
            refine wpAnyH_ready (rs := [18]) (by kernel_rfl) (by simp) ?_
            refine AllReadyH.cons rfl (fun K9 hK => ?_) AllReadyH.nil
            simp only [List.getElem_toArray, List.getElem_cons_zero, List.getElem_cons_succ]
            go_simp
            have y2 : (w8.setCell ⟨B, 2, none⟩ (.slice pw m8 cw)).cell? ⟨B, 0, none⟩ = some (.slice pv (ts.length + 1) cv) := (block_cell (zc_set HB8.out rfl) 0).trans rfl
            refine hK.out _ _ (y2) (fun hHeld3 => ?_)
            clear hK K9
            (try go_frame)
            refine wpAnyH_done (by kernel_rfl) ?_ _
            have HFin : Hid (Mk w (w8.setCell ⟨B, 2, none⟩ (.slice pw m8 cw)) B ((zEmpty.up 0 one).up 1 (two.take (j + 1)))) := by
              have hloc := HL8.out
              have hg8 := HG8.out
              rw [← HED.out] at hloc hg8
              have hM8 := mk_next1 (HZ5.out.grow HGU2.out) HN5.out.1 HN5.out.2.1 HN5.out.2.2 HGU2.out hg8 HO8.out hloc
              have et := up_ts (z := (zEmpty.up 0 one)) (p := 1) HC.out
              have ed := up_dk (z := (zEmpty.up 0 one)) (p := 1) HC.out
              rw [← HTs.out] at et ed
              rw [← HDl.out] at ed
              exact hM8.congr et rfl (up_other (l := two.take (j + 1)) (m := two.take j) (by decide)) ed rfl rfl
            clear hHeld3 HZ5 HN5 HO8 HG8 HL8 HB8 HOd HSrc2 y0 yd fd y2 s0 sd u0 ud HLs HTs HDl HEV HED HN HC HZ
            simp only [Exit.inBlock, Exit.then]
            go_wp2_with fail
            exact ⟨⟨j + 1, HP.out, by first | rfl | go_num, HFin.out⟩, HMe.out⟩
          · skip
            simp only [List.getElem_toArray, List.getElem_cons_zero, List.getElem_cons_succ]
            go_simp
            try rw [show (W5.alloc (Obj.cells #[Value.int IntKind.i64 ((ts.length : Int) + 1)] 3)).drew = U2 from HU2.out.symm]
            refine hK.out _ _ (u0) (fun hHeld3 => ?_)
            clear hK K9
            (try go_frame)
            refine wpAnyH_ready (rs := [7]) (by kernel_rfl) (by simp) ?_
            refine AllReadyH.cons rfl (fun K9 hK => ?_) AllReadyH.nil
            simp only [List.getElem_toArray, List.getElem_cons_zero, List.getElem_cons_succ]
            go_simp
            refine hK.out _ _ (u0) (fun hHeld3 => ?_)
            clear hK K9
            (try go_frame)
            refine wpAnyH_ready (rs := [14]) (by kernel_rfl) (by simp) ?_
            refine AllReadyH.cons rfl (fun K9 hK => ?_) AllReadyH.nil
            simp only [List.getElem_toArray, List.getElem_cons_zero, List.getElem_cons_succ]
            rw [if_pos (by rfl)]
            refine wp_app (.tmp 61) (.tmp 67) 22 rfl 0 3 i1 _ 1 8 Try.underlying22 hi1 hza1 hzb1 hzc1 rfl (by decide) (.slice pd l.length cd) (l.length) (ints l) rfl (HOd.out) (.slice (some ⟨W5.heap.size, 0, none⟩) 1 1) (1) (ints [(ts.length : Int) + 1]) rfl (HSrc2.out) (ints_one _) (HLs.out.2.2.1) (HLs.out.2.2.2.1) (Nat.zero_le _) ?_
            intro v' w8 o7 g7 l7
            have HO8 : Hid (OwnI w8 0 v' (l ++ [(ts.length : Int) + 1])) := own_more o7 rfl
            have HG8 : Hid (U2.grownBy w8 (Value.slice pd l.length cd).ownBlock) := g7
            have HL8 : Hid (v'.ownBlock = (Value.slice pd l.length cd).ownBlock ∨ ∀ x, v'.ownBlock = some x → U2.heap.size ≤ x) := by
              rcases l7 with q | q
              · exact Or.inl q
              · exact Or.inr fun x hx => by rw [q] at hx; cases hx; exact Nat.le_refl _
            have HB8 : Hid (w8.heap[B]? = some (.cells (zc (.slice pv (ts.length + 1) cv) d0 (.slice pd l.length cd) h0 h1 1 []) 93 (0, 0))) := by
              have := keep_blk (HZ5.out.grow HGU2.out).blk HOd.out (by decide) g7
              rw [HED.out] at this
              exact this
            have y0 : w8.cell? ⟨B, 0, none⟩ = some (.slice pv (ts.length + 1) cv) := (block_cell HB8.out 0).trans rfl
            have yd : w8.cell? ⟨B, 2, none⟩ = some (.slice pd l.length cd) := (block_cell HB8.out 2).trans rfl
            have fd : w8.frozen? ⟨B, 2, none⟩ = false := block_free HB8.out 2
            obtain ⟨pw, cw, ev8, -⟩ := own_slice HO8.out
            obtain ⟨m8, hm8⟩ : ∃ m8, m8 = (l ++ [(ts.length : Int) + 1]).length := ⟨_, rfl⟩
            rw [← hm8] at ev8
            subst ev8
            clear hm8
            clear o7 g7 l7
            refine hK.out _ _ (y0) (fun hHeld3 => ?_)
            clear hK K9
            (try go_frame)
            refine wpAnyH_take (i := 17) (v := ?_) rfl (by kernel_rfl) (by kernel_rfl) (by kernel_rfl) (fun _ _ _ h => h) (Or.inl ⟨by rfl, ?_⟩) (by assumption) ?_
            rotate_left 1
            · (intro w0 hSw; go_simp; try with_reducible rfl)
            simp only [List.getElem_toArray, List.getElem_cons_zero, List.getElem_cons_succ]
            go_frame
            refine wpAnyH_ready (rs := [18]) (by kernel_rfl) (by simp) ?_
            refine AllReadyH.cons rfl (fun K9 hK => ?_) AllReadyH.nil
            simp only [List.getElem_toArray, List.getElem_cons_zero, List.getElem_cons_succ]
            go_simp
            have y2 : (w8.setCell ⟨B, 2, none⟩ (.slice pw m8 cw)).cell? ⟨B, 0, none⟩ = some (.slice pv (ts.length + 1) cv) := (block_cell (zc_set HB8.out rfl) 0).trans rfl
            refine hK.out _ _ (y2) (fun hHeld3 => ?_)
            clear hK K9
            (try go_frame)
            refine wpAnyH_done (by kernel_rfl) ?_ _
            have HFin : Hid (Mk w (w8.setCell ⟨B, 2, none⟩ (.slice pw m8 cw)) B ((zEmpty.up 0 one).up 1 (two.take (j + 1)))) := by
              have hloc := HL8.out
              have hg8 := HG8.out
              rw [← HED.out] at hloc hg8
              have hM8 := mk_next1 (HZ5.out.grow HGU2.out) HN5.out.1 HN5.out.2.1 HN5.out.2.2 HGU2.out hg8 HO8.out hloc
              have et := up_ts (z := (zEmpty.up 0 one)) (p := 1) HC.out
              have ed := up_dk (z := (zEmpty.up 0 one)) (p := 1) HC.out
              rw [← HTs.out] at et ed
              rw [← HDl.out] at ed
              exact hM8.congr et rfl (up_other (l := two.take (j + 1)) (m := two.take j) (by decide)) ed rfl rfl
            clear hHeld3 HZ5 HN5 HO8 HG8 HL8 HB8 HOd HSrc2 y0 yd fd y2 s0 sd u0 ud HLs HTs HDl HEV HED HN HC HZ
            simp only [Exit.inBlock, Exit.then]
            go_wp2_with fail
            exact ⟨⟨j + 1, HP.out, by first | rfl | go_num, HFin.out⟩, HMe.out⟩
        · have hlt' : ¬ (j : Int) < (two.length : Int) := by omega
          have ej : two.take j = two := List.take_of_length_le (by omega)
          have HM9 : Hid (Mk w W B ((zEmpty.up 0 one).up 1 two)) := by rw [← ej]; exact hM
          clear hM ej
          go_wp2_with fail
          go_roundw
          case rel => exact Or.inr (Or.inr ⟨by first | rfl | go_num, HM9.out⟩)
          case measure => first | decide | simp [intOf]
    · have HF : Hid (NwPost w one two (.returned (.tuple #[.pointer (some ⟨B, 0, none⟩), .int .i64 0])) wr) := by
        obtain ⟨S, Z, h1, h2, h3⟩ := hM
        refine Or.inl ⟨HE.out, B, S, rfl, ?_, h1, h2, h3⟩
        obtain ⟨vt, e0, e1, g0, g1, Z⟩ := Z
        exact ⟨vt, e0, e1, g0, g1, Z.congr (new_up one two).1 rfl (new_up one two).2.1 (new_up one two).2.2 rfl rfl⟩
      clear hM
      go_wp2_with fail
      go_ret2
      exact HF.out
end Go.Proofs.Ytogpgldbbegniaa
