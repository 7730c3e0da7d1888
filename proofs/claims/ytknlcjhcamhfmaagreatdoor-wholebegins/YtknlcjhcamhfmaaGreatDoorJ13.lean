/-
  A book as the laws see it, and what each call makes of it; the document's examples (awake).
  What the five functions of package rank answer, and the one that makes them out of each other; each touches nothing that was there.
-/
import Derived.Test.YtknlcjhcamhfmaaGreatDoorB13
namespace Go.Proofs.YtknlcjhcamhfmaaGreatDoor
open Go.RowKit

structure Book (ok : Nat → Prop) (w : World) (b : Nat) (es : List Ent) (p : Pl) : Prop where
  lies : BkIn w b es p
  good : Good ok w es
  srt : Srt es
  fine : p.fine
  may : ∀ e ∈ es, cchk e.cd = 0
theorem Book.keep {ok : Nat → Prop} {w w' : World} {b : Nat} {es : List Ent} {p : Pl} (h : Book ok w b es p) (g : w.grownBy w' none) : Book ok w' b es p := ⟨h.lies.keep g, h.good.keep g, h.srt, h.fine, h.may⟩
theorem Book.keepR {ok : Nat → Prop} {w w' : World} {b : Nat} {es : List Ent} {p : Pl} {r : Option Nat} (h : Book ok w b es p) (g : w.grownBy w' r) (hb : some b ≠ r) (hr : ∀ k, ok k → some k ≠ r) : Book ok w' b es p := ⟨h.lies.keepR g hb, h.good.keepR g hr, h.srt, h.fine, h.may⟩
theorem Book.parts {ok : Nat → Prop} {w : World} {b : Nat} {es : List Ent} {p : Pl} (h : Book ok w b es p) : ∀ e ∈ es, e.ps.length ≤ 4 := fun e he => (cchk_facts (h.may e he)).2.2.1
theorem Book.lt {ok : Nat → Prop} {w : World} {b : Nat} {es : List Ent} {p : Pl} (h : Book ok w b es p) : b < w.heap.size := by obtain ⟨j, J⟩ := h.lies; exact block_lt J.lies
theorem plNew_fine : plNew.fine := ⟨rfl, rfl, fun s hs => by simp [plNew] at hs; rw [hs]; decide, fun m hm => by simp [plNew] at hm; rw [hm]; decide⟩
theorem bnew (ok : Nat → Prop) (w : World) : Calls Tryz.prog 103 #[] w fun e w' => e = .returned (.pointer (some ⟨w.heap.size, 0, none⟩)) ∧ Book ok w' w.heap.size [] plNew ∧ w.grownBy w' none ∧ w'.heap.size = w.heap.size + 1 :=
  (new_any w).mono fun e w' ⟨h1, h2, h3, h4⟩ => ⟨h1, ⟨h2, fun e he => by simp at he, by unfold Srt; exact List.Pairwise.nil, plNew_fine, fun e he => by simp at he⟩, h3, h4⟩
theorem names_mem {es : List Ent} {e : Ent} (h : e ∈ es) : e.h.nm ∈ names es := List.mem_map.2 ⟨e, h, rfl⟩
theorem bcard (ok : Nat → Prop) (b : Nat) (es : List Ent) (p : Pl) (h : Hd) (v : Value) (ps : List Pt) (w : World) (B : Book ok w b es p) (hok : ¬ ok b) (hnew : ∀ k, w.heap.size ≤ k → ok k) (hp : PsAt w v ps) (hm : Small ps.length) : Calls Tryz.prog 25 #[.pointer (some ⟨b, 0, none⟩), cv h v] w fun e w' => ∃ u, e = .returned (.int .i64 (caE p es (h.with ps))) ∧ Book ok w' b (if caE p es (h.with ps) = 0 then ins es ⟨h, u, ps⟩ else es) p ∧ w.grownBy w' (some b) := by
  refine (card_yes ok b es p h v ps w B.lies B.good B.srt hok hp hm).mono ?_
  rintro e w' ⟨u, he, h1, h2, h3⟩
  have G2 := h2.mono (ok' := ok) (fun k hk => hk.elim id (hnew k))
  refine ⟨u, he, ?_, h3⟩
  by_cases h0 : caE p es (h.with ps) = 0
  · rw [if_pos h0] at h1 G2 ⊢
    have hc : cchk (h.with ps) = 0 ∧ pos (names es) h.nm < 0 := by
      unfold caE at h0
      split at h0
      · omega
      · split at h0
        · exact absurd h0 (by assumption)
        · rename_i hq
          split at h0
          · omega
          · rename_i hz
            exact ⟨by simpa using hq, Int.not_le.1 hz⟩
    refine ⟨h1, G2, ins_srt es _ B.srt (fun x hx e => pos_no hc.2 (e ▸ names_mem hx)), B.fine, fun x hx => ?_⟩
    rcases (ins_mem es _ x).1 hx with rfl | hx
    · exact hc.1
    · exact B.may x hx
  · rw [if_neg h0] at h1 G2 ⊢
    exact ⟨h1, G2, B.srt, B.fine, B.may⟩
theorem trP_fine {p : Pl} (h : p.fine) (t : Int) (s : ByteArray) : (trP p t s).fine := by
  unfold trP
  by_cases h0 : trE p t s = 0
  · rw [if_pos h0]
    have hn : s.size ≤ 20 := by
      unfold trE at h0
      split at h0
      · omega
      · split at h0
        · omega
        · split at h0
          · omega
          · rename_i hz
            have hn : nameOk s.data.toList = true := by cases hq : nameOk s.data.toList with
              | true => rfl
              | false => exact absurd hq hz
            rw [Lib.size_eq]; exact (name_facts hn).2
    refine ⟨by simpa using h.nine, h.five, fun x hx => ?_, h.mks⟩
    rcases List.mem_or_eq_of_mem_set hx with hx | rfl
    · exact h.nms x hx
    · exact hn
  · rw [if_neg h0]; exact h
theorem maP_fine {p : Pl} (h : p.fine) (m : Mk) : (maP p m).fine := by
  unfold maP
  by_cases h0 : maE p m = 0
  · rw [if_pos h0]
    have hn : (0 ≤ m.mi ∧ m.mi ≤ 4 ∧ -9 ≤ m.po ∧ m.po ≤ 9 ∧ -9 ≤ m.he ∧ m.he ≤ 9) ∧ m.nm.size ≤ 20 := by
      unfold maE at h0
      split at h0
      · omega
      · split at h0
        · omega
        · rename_i hr
          split at h0
          · omega
          · rename_i hz
            have hn : nameOk m.nm.data.toList = true := by cases hq : nameOk m.nm.data.toList with
              | true => rfl
              | false => exact absurd hq hz
            have k1 : fF m.po = true := by cases hq : fF m.po with
              | true => rfl
              | false => exact absurd (Or.inr (Or.inr (Or.inl hq))) hr
            have k2 : fF m.he = true := by cases hq : fF m.he with
              | true => rfl
              | false => exact absurd (Or.inr (Or.inr (Or.inr hq))) hr
            simp only [fF, Bool.and_eq_true, decide_eq_true_eq] at k1 k2
            refine ⟨⟨by omega, by omega, k1.1, k1.2, k2.1, k2.2⟩, ?_⟩
            rw [Lib.size_eq]; exact (name_facts hn).2
    refine ⟨h.nine, by simpa using h.five, h.nms, fun x hx => ?_⟩
    rcases List.mem_or_eq_of_mem_set hx with hx | rfl
    · exact h.mks x hx
    · exact ⟨hn.1.1, hn.1.2.1, hn.1.2.2.1, hn.1.2.2.2.1, hn.1.2.2.2.2.1, hn.1.2.2.2.2.2, hn.2⟩
  · rw [if_neg h0]; exact h
theorem btrait (ok : Nat → Prop) (b : Nat) (es : List Ent) (p : Pl) (t : Int) (s : ByteArray) (w : World) (B : Book ok w b es p) (hok : ¬ ok b) : Calls Tryz.prog 26 #[.pointer (some ⟨b, 0, none⟩), .int .u8 t, .string s] w fun e w' => e = .returned (.int .i64 (trE p t s)) ∧ Book ok w' b es (trP p t s) ∧ w.grownBy w' (some b) :=
  (trait_yes b es p t s w B.lies).mono fun e w' ⟨h1, h2, h3⟩ => ⟨h1, ⟨h2, B.good.keepR h3 (fun k hk e => by cases e; exact hok hk), B.srt, trP_fine B.fine t s, B.may⟩, h3⟩
theorem bmark (ok : Nat → Prop) (b : Nat) (es : List Ent) (p : Pl) (m : Mk) (w : World) (B : Book ok w b es p) (hok : ¬ ok b) : Calls Tryz.prog 27 #[.pointer (some ⟨b, 0, none⟩), mv m] w fun e w' => e = .returned (.int .i64 (maE p m)) ∧ Book ok w' b es (maP p m) ∧ w.grownBy w' (some b) :=
  (mark_yes b es p m w B.lies).mono fun e w' ⟨h1, h2, h3⟩ => ⟨h1, ⟨h2, B.good.keepR h3 (fun k hk e => by cases e; exact hok hk), B.srt, maP_fine B.fine m, B.may⟩, h3⟩
theorem sealP_fine {p : Pl} (h : p.fine) (es : List Ent) : (sealP p es).fine := by
  unfold sealP
  split
  · exact ⟨h.nine, h.five, h.nms, h.mks⟩
  · exact h
theorem bseal (ok : Nat → Prop) (b : Nat) (es : List Ent) (p : Pl) (w : World) (B : Book ok w b es p) (hok : ¬ ok b) : Calls Tryz.prog 18 #[.pointer (some ⟨b, 0, none⟩)] w fun e w' => e = .returned (.int .i64 (sealE p es)) ∧ Book ok w' b es (sealP p es) ∧ w.grownBy w' (some b) :=
  (seal_yes ok b es p w B.lies B.good B.parts).mono fun e w' ⟨h1, h2, h3⟩ => ⟨h1, ⟨h2, B.good.keepR h3 (fun k hk e => by cases e; exact hok hk), B.srt, sealP_fine B.fine es, B.may⟩, h3⟩
/-- The cards of the examples. -/
def rockH : Hd := ⟨⟨#[114, 111, 99, 107]⟩, 2, 1, 1, 0, 3, 0, false⟩
def axeH : Hd := ⟨⟨#[97, 120, 101]⟩, 1, 3, 2, 0, 0, 0, false⟩
def axeP : Pt := ⟨3, 7, 1, 1, 0, 0, 0, ⟨#[114, 111, 99, 107]⟩⟩
/-- What holds of the examples' books. -/
theorem exA (u : Value) : ins [] ⟨axeH, u, [axeP]⟩ = [⟨axeH, u, [axeP]⟩] := rfl
theorem exAR (u v : Value) : ins [⟨axeH, u, [axeP]⟩] ⟨rockH, v, []⟩ = [⟨axeH, u, [axeP]⟩, ⟨rockH, v, []⟩] := by
  rw [ins_cons, if_pos (by show ord axeH rockH < 0; decide +kernel)]
  rfl
theorem ex1 : caE plNew [] (axeH.with [axeP]) = 0 := by decide +kernel
theorem ex2 (u : Value) : caE plNew [⟨axeH, u, [axeP]⟩] (rockH.with []) = 0 := by
  show (if plNew.shut = true then (7 : Int) else if ¬ cchk (rockH.with []) = 0 then cchk (rockH.with []) else if 0 ≤ pos [axeH.nm] rockH.nm then 5 else if (1 : Nat) = 64 then 14 else 0) = 0
  decide +kernel
theorem ex3 (u v : Value) : caE plNew [⟨axeH, u, [axeP]⟩, ⟨rockH, v, []⟩] (rockH.with []) = 5 := by
  show (if plNew.shut = true then (7 : Int) else if ¬ cchk (rockH.with []) = 0 then cchk (rockH.with []) else if 0 ≤ pos [axeH.nm, rockH.nm] rockH.nm then 5 else if (2 : Nat) = 64 then 14 else 0) = 5
  decide +kernel
theorem ex4 (u v : Value) : pos (names [⟨axeH, u, [axeP]⟩, ⟨rockH, v, []⟩]) ⟨#[97, 120, 101]⟩ = 0 := by
  show pos [axeH.nm, rockH.nm] ⟨#[97, 120, 101]⟩ = 0
  decide +kernel
theorem ex4r (u v : Value) : pos (names [⟨axeH, u, [axeP]⟩, ⟨rockH, v, []⟩]) ⟨#[114, 111, 99, 107]⟩ = 1 := by
  show pos [axeH.nm, rockH.nm] ⟨#[114, 111, 99, 107]⟩ = 1
  decide +kernel
theorem ex5 (u v : Value) : sealE plNew [⟨axeH, u, [axeP]⟩, ⟨rockH, v, []⟩] = 0 := by
  have c : callE [⟨axeH, u, [axeP]⟩, ⟨rockH, v, []⟩] axeP = 0 := by
    unfold callE
    rw [if_neg (by decide)]
    show (if pos (names [⟨axeH, u, [axeP]⟩, ⟨rockH, v, []⟩]) ⟨#[114, 111, 99, 107]⟩ < 0 then (6 : Int) else if kdAt [⟨axeH, u, [axeP]⟩, ⟨rockH, v, []⟩] (pos (names [⟨axeH, u, [axeP]⟩, ⟨rockH, v, []⟩]) ⟨#[114, 111, 99, 107]⟩).toNat = 2 then 8 else 0) = 0
    rw [ex4r]
    rfl
  unfold sealE
  rw [if_neg (by decide)]
  simp [sealL, callsE, c]
def plShut : Pl := { plNew with shut := true }
theorem ex6 (u v : Value) : sealP plNew [⟨axeH, u, [axeP]⟩, ⟨rockH, v, []⟩] = plShut := if_pos (ex5 u v)
theorem ex7 (es : List Ent) (c : Cd) : caE plShut es c = 7 := if_pos rfl
end Go.Proofs.YtknlcjhcamhfmaaGreatDoor
namespace Go.Proofs.YtknlcjhcamhfmaaGreatDoor
open Go.RowKit

/-- The cells of members, one behind the other. -/
def mem (L : List (Int × Int)) : List Value := L.flatMap fun m => [Value.int .i64 m.1, Value.int .i64 m.2]
theorem mem_at (L : List (Int × Int)) : ∀ (j : Nat) (hj : j < L.length), (mem L)[j * 2]? = some (.int .i64 L[j].1) ∧ (mem L)[j * 2 + 1]? = some (.int .i64 L[j].2) := by
  induction L with
  | nil => intro j hj; simp at hj
  | cons m L ih =>
    intro j hj
    cases j with
    | zero => exact ⟨rfl, rfl⟩
    | succ j =>
      have h := ih j (by simpa using hj)
      have e : mem (m :: L) = Value.int .i64 m.1 :: Value.int .i64 m.2 :: mem L := rfl
      have e1 : (j + 1) * 2 = j * 2 + 1 + 1 := by omega
      rw [e, e1]
      exact ⟨by simpa using h.1, by simpa using h.2⟩
/-- The turn behind those of all that are named. -/
def turnOf (L : List (Int × Int)) : Int := L.foldl (fun t m => max t (m.2 + 1)) 1
theorem turnOf_take (L : List (Int × Int)) (k : Nat) (h : k < L.length) : turnOf (L.take (k + 1)) = max (turnOf (L.take k)) (L[k].2 + 1) := by
  unfold turnOf
  rw [List.take_succ_eq_append_getElem h, List.foldl_append]; rfl
theorem turnOf_le (L : List (Int × Int)) (hb : ∀ m ∈ L, 0 ≤ m.2 ∧ m.2 ≤ 1000) : 0 ≤ turnOf L ∧ turnOf L ≤ 1001 := by
  have : ∀ (L : List (Int × Int)) (t : Int), (∀ m ∈ L, 0 ≤ m.2 ∧ m.2 ≤ 1000) → 0 ≤ t ∧ t ≤ 1001 → 0 ≤ L.foldl (fun t m => max t (m.2 + 1)) t ∧ L.foldl (fun t m => max t (m.2 + 1)) t ≤ 1001 := by
    intro L
    induction L with
    | nil => intro t _ h; exact h
    | cons m L ih =>
      intro t hm ht
      refine ih _ (fun x hx => hm x (List.mem_cons_of_mem _ hx)) ?_
      have := hm m (List.mem_cons_self ..)
      show 0 ≤ max t (m.2 + 1) ∧ max t (m.2 + 1) ≤ 1001
      omega
  exact this L 1 hb (by omega)
theorem max_if (a b : Int) : (if a < b then b else a) = max a b := by omega
theorem int_eq {a b : Int} (h : a = b) : Value.int .i64 a = .int .i64 b := by rw [h]
theorem grown_st2 {a b : World} {s : Nat} (h : a.grownBy b none) (hs : a.heap.size ≤ s) (i j : Nat) (x y : Value) : a.grownBy ((b.setCell ⟨s, i, none⟩ x).setCell ⟨s, j, none⟩ y) none :=
  grown_own (r := some s) h (grown_trans (grown_set _ _ _ _) (grown_set _ _ _ _)) (fun _ hx => by cases hx; exact hs)
/-- A member's cell that is not written yet. -/
def Raw (w : World) (s : Nat) : Prop := w.heap[s]? = some (.cells #[.int .i64 0, .int .i64 0] 179 (0, 0))
theorem Raw.keep {w w' : World} {s : Nat} (h : Raw w s) (g : w.grownBy w' none) : Raw w' s := grown_keep g h (by simp)
theorem Raw.facts {w : World} {s : Nat} (h : Raw w s) : (∀ i, w.frozen? ⟨s, i, none⟩ = false) ∧ w.cell? ⟨s, 0, none⟩ = some (.int .i64 0) ∧ w.cell? ⟨s, 1, none⟩ = some (.int .i64 0) := ⟨block_free h, block_cell h 0, block_cell h 1⟩
theorem Raw.new (w : World) : Raw (w.alloc (.cells #[.int .i64 0, .int .i64 0] 179)) w.heap.size := alloc_at _ _ _
theorem alloc_at' (w : World) (cs : Array Value) (t : TypeId) (n : Nat) (h : n = w.heap.size) : (w.alloc (.cells cs t)).heap[n]? = some (.cells cs t (0, 0)) := by subst h; exact alloc_at _ _ _
theorem set2_keep {w : World} {s b : Nat} {o : Obj} (hne : s ≠ b) (h : w.heap[b]? = some o) (i j : Nat) (x y : Value) : ((w.setCell ⟨s, i, none⟩ x).setCell ⟨s, j, none⟩ y).heap[b]? = some o :=
  grown_keep (grown_trans (grown_set w s i x) (grown_set _ s j y)) h (by simpa using fun e => hne e.symm)
theorem grown_setd {a b : World} {s : Nat} (h : a.grownBy b (some s)) (i : Nat) (x : Value) : a.grownBy (b.setCell ⟨s, i, none⟩ x) (some s) := grown_trans h (grown_set _ _ _ _)
theorem grown_undrew {a b : World} {r : Option Nat} (h : a.drew.grownBy b r) : a.grownBy b r := ⟨h.os, h.tape, h.output, h.size, h.block⟩

set_option maxRecDepth 100000 in
set_option maxHeartbeats 1000000 in
theorem behind_nil (v : Int) (w : World) : Calls Tryz.prog 285 #[.int .i64 v, .slice none 0 0] w fun e w' => e = .returned (.agg #[.int .i64 v, .int .i64 1]) ∧ w.grownBy w' none := by
  go_enter Tryz.func285, Tryz.ntmps285
  go_wp2
  go_loopw [5, 10] (fun t i wr => t = .int .i64 1 ∧ i = .int .i64 0 ∧ Raw wr w.heap.size ∧ w.grownBy wr none) (fun _ _ _ => 0)
  case atStart => exact ⟨rfl, rfl, Raw.new _, World.grownBy_alloc _ _ _⟩
  case round =>
    obtain ⟨rfl, rfl, hb, G⟩ := hrel
    obtain ⟨f, c0, c1⟩ := hb.facts
    clear hb
    go_wp2
    refine bodyPost_ret (v := .agg #[.int .i64 v, .int .i64 1]) (by simp [results, Tryz.results285, go_sem, c0, c1]) rfl ⟨rfl, ?_⟩
    exact grown_st2 G (Nat.le_refl _) _ _ _ _
set_option maxRecDepth 100000 in
set_option maxHeartbeats 1000000 in
theorem behind_list (v : Int) (L : List (Int × Int)) (t : Int) (g cap : Nat) (w : World) (h : w.heap[g]? = some (.cells (mem L).toArray 179 (0, 0))) (hl : L.length ≤ 1000) (hb : ∀ m ∈ L, 0 ≤ m.2 ∧ m.2 ≤ 1000) (ht : turnOf L = t) : Calls Tryz.prog 285 #[.int .i64 v, .slice (some ⟨g, 0, none⟩) L.length cap] w fun e w' => e = .returned (.agg #[.int .i64 v, .int .i64 t]) ∧ w.grownBy w' none := by
  have HM : Hid (w.heap[g]? = some (.cells (mem L).toArray 179 (0, 0))) := h
  have HB : Hid (∀ m ∈ L, 0 ≤ m.2 ∧ m.2 ≤ 1000) := hb
  have HT : Hid (turnOf L = t) := ht
  clear h hb ht
  go_enter Tryz.func285, Tryz.ntmps285
  go_wp2
  go_loopw [5, 10] (fun t i wr => ∃ k : Nat, k ≤ L.length ∧ t = .int .i64 (turnOf (L.take k)) ∧ i = .int .i64 k ∧ Raw wr w.heap.size ∧ w.grownBy wr none) (fun _ i _ => L.length - (intOf i).toNat)
  case atStart => exact ⟨0, Nat.zero_le _, rfl, rfl, Raw.new _, World.grownBy_alloc _ _ _⟩
  case round =>
    obtain ⟨k, hk, rfl, rfl, hbk, G⟩ := hrel
    by_cases hlt : k < L.length
    · have hh := grown_keep G HM.out (by simp)
      have a0 := (block_cell hh (k * 2)).trans (by simpa using (mem_at L k hlt).1)
      have a1 := (block_cell hh (k * 2 + 1)).trans (by simpa using (mem_at L k hlt).2)
      have hm := HB.out L[k] (List.getElem_mem hlt)
      have ht := turnOf_le (L.take k) (fun m hm => HB.out m (List.mem_of_mem_take hm))
      have HK : Hid (turnOf (L.take (k + 1)) = max (turnOf (L.take k)) (L[k].2 + 1)) := turnOf_take L k hlt
      have HBK : Hid (Raw wr w.heap.size) := hbk
      clear hbk hh
      generalize turnOf (L.take k) = t0 at *
      generalize L[k] = x at *
      obtain ⟨x1, x2⟩ := x
      simp only at a0 a1 hm HK
      go_wp2
      go_roundw
      case rel => exact ⟨k + 1, by omega, int_eq (by first | (rw [HK.out]; exact max_if _ _) | rw [HK.out]), by go_num, HBK.out.keep (World.grownBy_alloc _ _ _), grown_push G _⟩
      case measure => simp [intOf]; omega
    · have ek : k = L.length := by omega
      subst ek
      obtain ⟨f, c0, c1⟩ := hbk.facts
      clear hbk
      rw [List.take_length, HT.out]
      go_wp2
      refine bodyPost_ret (v := .agg #[.int .i64 v, .int .i64 t]) (by simp [results, Tryz.results285, go_sem, c0, c1]) rfl ⟨rfl, ?_⟩
      exact grown_st2 G (Nat.le_refl _) _ _ _ _
set_option maxRecDepth 100000 in
set_option maxHeartbeats 1000000 in
theorem low_any (w : World) : Calls Tryz.prog 261 #[] w fun e w' => e = .returned (.agg #[.int .i64 3, .int .i64 1]) ∧ w.grownBy w' none := by
  go_enter Tryz.func261, Tryz.ntmps261
  go_wp2_with fail
  refine (behind_nil 3 _).mono ?_
  rintro e w1 ⟨rfl, g1⟩
  obtain ⟨f, c0, c1⟩ := ((Raw.new w).keep g1).facts
  have G1 := grown_trans (World.grownBy_alloc w _ none) g1
  clear g1
  go_wp2
  refine bodyPost_ret (v := .agg #[.int .i64 3, .int .i64 1]) (by simp [results, Tryz.results261, go_sem, c0, c1]) rfl ⟨rfl, ?_⟩
  exact grown_st2 G1 (Nat.le_refl _) _ _ _ _
set_option maxRecDepth 100000 in
set_option maxHeartbeats 1000000 in
theorem mid_any (w : World) : Calls Tryz.prog 263 #[] w fun e w' => e = .returned (.agg #[.int .i64 7, .int .i64 2]) ∧ w.grownBy w' none := by
  go_enter Tryz.func263, Tryz.ntmps263
  go_wp2_with fail
  refine (low_any _).mono ?_
  rintro e w1 ⟨rfl, g1⟩
  have R1 := (Raw.new w).keep g1
  have G1 := grown_trans (World.grownBy_alloc w _ none) g1
  clear g1
  go_wp2_with fail
  have e1 := World.size_alloc w1 (.cells #[.int .i64 3, .int .i64 1] 179)
  refine (behind_list 7 [(3, 1)] 2 _ _ _ (by rw [← e1]; exact alloc_at _ _ _) (by simp) (by simp) (by decide)).mono ?_
  rintro e w2 ⟨rfl, g2⟩
  have gg := grown_trans (grown_trans (World.grownBy_alloc w1 _ none) (World.grownBy_alloc _ _ none)) g2
  obtain ⟨f, c0, c1⟩ := (R1.keep gg).facts
  have G2 := grown_trans G1 gg
  clear g2 gg R1 G1
  go_wp2
  refine bodyPost_ret (v := .agg #[.int .i64 7, .int .i64 2]) (by simp [results, Tryz.results263, go_sem, c0, c1]) rfl ⟨rfl, ?_⟩
  exact grown_st2 G2 (Nat.le_refl _) _ _ _ _
set_option maxRecDepth 100000 in
set_option maxHeartbeats 1000000 in
theorem step_any (w : World) : Calls Tryz.prog 262 #[] w fun e w' => e = .returned (.agg #[.int .i64 2, .int .i64 3]) ∧ w.grownBy w' none := by
  go_enter Tryz.func262, Tryz.ntmps262
  go_wp2_with fail
  refine (low_any _).mono ?_
  rintro e w1 ⟨rfl, g1⟩
  have R1 := ((Raw.new w).keep g1).keep (World.grownBy_alloc w1 (.cells #[.int .i64 3, .int .i64 1] 179) none)
  have hlt : w.heap.size < w1.heap.size := block_lt ((Raw.new w).keep g1)
  have HG : Hid (w.grownBy (w1.alloc (.cells #[.int .i64 3, .int .i64 1] 179)) none) := grown_push (grown_trans (World.grownBy_alloc w _ none) g1) (.cells #[.int .i64 3, .int .i64 1] 179)
  have A1 := alloc_at w1 #[.int .i64 3, .int .i64 1] 179
  have HR : Hid (Raw (w1.alloc (.cells #[.int .i64 3, .int .i64 1] 179)) w.heap.size) := R1
  have HA : Hid ((w1.alloc (.cells #[.int .i64 3, .int .i64 1] 179)).heap[w1.heap.size]? = some (.cells #[.int .i64 3, .int .i64 1] 179 (0, 0))) := A1
  clear g1 R1 A1
  go_wp2_with fail
  have hne : w.heap.size ≠ w1.heap.size := by omega
  go_region_held3 (fun w' => w'.cell? ⟨w1.heap.size, 0, none⟩ = some (.int .i64 3) ∧ w'.cell? ⟨w1.heap.size, 1, none⟩ = some (.int .i64 1)) (first | exact S2 | exact S3 | exact ⟨block_cell (set2_keep hne hA3 _ _ _ _) 0, block_cell (set2_keep hne hA3 _ _ _ _) 1⟩ | exact ⟨(World.grownBy_alloc _ _ none).cell S2.1 (by simp), (World.grownBy_alloc _ _ none).cell S2.2 (by simp)⟩ | (simp [*]; done) | go_keep) (first | (go_at_call 263; refine (mid_any _).mono ?_; rintro e w2 ⟨rfl, g2⟩; have hA2 : w2.heap[w1.heap.size]? = some (.cells #[.int .i64 3, .int .i64 1] 179 (0, 0)) := grown_keep g2 (by exact HA.out) (by simp); have S2 : w2.cell? ⟨w1.heap.size, 0, none⟩ = some (.int .i64 3) ∧ w2.cell? ⟨w1.heap.size, 1, none⟩ = some (.int .i64 1) := ⟨block_cell hA2 0, block_cell hA2 1⟩; have R2 : Raw w2 w.heap.size := grown_keep g2 (by exact HR.out) (by simp); have G2 : w.grownBy w2 none := grown_trans HG.out ⟨g2.os, g2.tape, g2.output, g2.size, g2.block⟩; clear g2) | (go_at_call 285; refine (behind_list 2 [(3, 1), (7, 2)] 3 _ _ _ (by exact alloc_at _ _ _) (by simp) (by simp) (by decide)).mono ?_; rintro e w3 ⟨rfl, g3⟩; have hA3 : w3.heap[w1.heap.size]? = some (.cells #[.int .i64 3, .int .i64 1] 179 (0, 0)) := grown_keep g3 (by exact grown_keep (World.grownBy_alloc w2 _ none) hA2 (by simp)) (by simp); have S3 : w3.cell? ⟨w1.heap.size, 0, none⟩ = some (.int .i64 3) ∧ w3.cell? ⟨w1.heap.size, 1, none⟩ = some (.int .i64 1) := ⟨block_cell hA3 0, block_cell hA3 1⟩; have R3 : Raw w3 w.heap.size := grown_keep g3 (by exact R2.keep (World.grownBy_alloc w2 _ none)) (by simp); obtain ⟨f, c0, c1⟩ := R3.facts; have G3 : w.grownBy w3 none := grown_trans (grown_push G2 _) ⟨g3.os, g3.tape, g3.output, g3.size, g3.block⟩; clear g3))
  go_wp2
  refine bodyPost_ret (v := .agg #[.int .i64 2, .int .i64 3]) (by simp [results, Tryz.results262, go_sem, c0, c1]) rfl ⟨rfl, ?_⟩
  first | exact grown_st2 G3 (Nat.le_refl _) _ _ _ _ | exact grown_trans (grown_st2 G3 (Nat.le_refl _) _ _ _ _) (grown_drewN _ _ _)
set_option maxRecDepth 100000 in
set_option maxHeartbeats 1000000 in
theorem high_any (w : World) : Calls Tryz.prog 264 #[] w fun e w' => e = .returned (.agg #[.int .i64 11, .int .i64 4]) ∧ w.grownBy w' none := by
  go_enter Tryz.func264, Tryz.ntmps264
  go_wp2_with fail
  refine (mid_any _).mono ?_
  rintro e w1 ⟨rfl, g1⟩
  have R1 := (Raw.new w).keep g1
  have G1 := grown_trans (World.grownBy_alloc w _ none) g1
  clear g1
  go_wp2_with fail
  refine (step_any _).mono ?_
  rintro e w2 ⟨rfl, g2⟩
  have R2 := R1.keep g2
  have G2 := grown_trans G1 g2
  clear g2 R1 G1
  go_wp2_with fail
  refine (behind_list 11 [(7, 2), (2, 3)] 4 _ _ _ (alloc_at' _ _ _ _ (by simp)) (by simp) (by simp) (by decide)).mono ?_
  rintro e w3 ⟨rfl, g3⟩
  have gg := grown_trans (grown_trans (grown_trans (World.grownBy_alloc w2 _ none) (World.grownBy_alloc _ _ none)) (World.grownBy_alloc _ _ none)) g3
  obtain ⟨f, c0, c1⟩ := (R2.keep gg).facts
  have G3 := grown_trans G2 gg
  clear g3 gg R2 G2
  go_wp2
  refine bodyPost_ret (v := .agg #[.int .i64 11, .int .i64 4]) (by simp [results, Tryz.results264, go_sem, c0, c1]) rfl ⟨rfl, ?_⟩
  exact grown_st2 G3 (Nat.le_refl _) _ _ _ _
set_option maxRecDepth 100000 in
set_option maxHeartbeats 1000000 in
theorem top_any (w : World) : Calls Tryz.prog 265 #[] w fun e w' => e = .returned (.agg #[.int .i64 18, .int .i64 5]) ∧ w.grownBy w' none := by
  go_enter Tryz.func265, Tryz.ntmps265
  go_wp2_with fail
  refine (high_any _).mono ?_
  rintro e w1 ⟨rfl, g1⟩
  have R1 := (Raw.new w).keep g1
  have G1 := grown_trans (World.grownBy_alloc w _ none) g1
  clear g1
  go_wp2_with fail
  refine (mid_any _).mono ?_
  rintro e w2 ⟨rfl, g2⟩
  have R2 := R1.keep g2
  have G2 := grown_trans G1 g2
  clear g2 R1 G1
  go_wp2_with fail
  refine (behind_list 18 [(11, 4), (7, 2)] 5 _ _ _ (alloc_at' _ _ _ _ (by simp)) (by simp) (by simp) (by decide)).mono ?_
  rintro e w3 ⟨rfl, g3⟩
  have gg := grown_trans (grown_trans (grown_trans (World.grownBy_alloc w2 _ none) (World.grownBy_alloc _ _ none)) (World.grownBy_alloc _ _ none)) g3
  obtain ⟨f, c0, c1⟩ := (R2.keep gg).facts
  have G3 := grown_trans G2 gg
  clear g3 gg R2 G2
  go_wp2
  refine bodyPost_ret (v := .agg #[.int .i64 18, .int .i64 5]) (by simp [results, Tryz.results265, go_sem, c0, c1]) rfl ⟨rfl, ?_⟩
  exact grown_st2 G3 (Nat.le_refl _) _ _ _ _
/-- The five, one behind the other. -/
def fiveCells : Array Value := #[.int .i64 3, .int .i64 1, .int .i64 2, .int .i64 3, .int .i64 7, .int .i64 2, .int .i64 11, .int .i64 4, .int .i64 18, .int .i64 5]
set_option maxRecDepth 100000 in
set_option maxHeartbeats 1000000 in
theorem five_any (w : World) : Calls Tryz.prog 210 #[] w fun e w' => e = .returned (.agg #[.int .i64 3, .int .i64 1, .int .i64 2, .int .i64 3, .int .i64 7, .int .i64 2, .int .i64 11, .int .i64 4, .int .i64 18, .int .i64 5]) ∧ w.grownBy w' none := by
  go_enter Tryz.func210, Tryz.ntmps210
  go_wp2_with fail
  refine (low_any _).mono ?_
  rintro e w1 ⟨rfl, g1⟩
  go_wp2_with fail
  refine (step_any _).mono ?_
  rintro e w2 ⟨rfl, g2⟩
  go_wp2_with fail
  refine (mid_any _).mono ?_
  rintro e w3 ⟨rfl, g3⟩
  go_wp2_with fail
  refine (high_any _).mono ?_
  rintro e w4 ⟨rfl, g4⟩
  go_wp2_with fail
  refine (top_any _).mono ?_
  rintro e w5 ⟨rfl, g5⟩
  have gg := grown_trans (grown_trans (grown_trans (grown_trans g1 g2) g3) g4) g5
  have B := grown_keep gg (alloc_at w _ 180) (by simp)
  have f := block_free B
  have c : ∀ i, w5.cell? ⟨w.heap.size, i, none⟩ = _ := block_cell B
  have G5 := grown_trans (World.grownBy_alloc w _ none) gg
  clear g1 g2 g3 g4 g5 gg B
  go_wp2
  refine bodyPost_ret (v := .agg #[.int .i64 3, .int .i64 1, .int .i64 2, .int .i64 3, .int .i64 7, .int .i64 2, .int .i64 11, .int .i64 4, .int .i64 18, .int .i64 5]) (by simp [results, Tryz.results210, go_sem, c]) rfl ⟨rfl, ?_⟩
  refine grown_own (r := some w.heap.size) G5 ?_ (fun _ hx => by cases hx; exact Nat.le_refl _)
  iterate 10 refine grown_setd ?_ _ _
  exact grown_refl _ _

theorem index0 (w : World) : (Instr.index 180 (.agg #[.int .i64 3, .int .i64 1, .int .i64 2, .int .i64 3, .int .i64 7, .int .i64 2, .int .i64 11, .int .i64 4, .int .i64 18, .int .i64 5]) (.int .i64 0)).run Tryz.prog w = .ok (.agg #[.int .i64 3, .int .i64 1]) w := by kernel_rfl
theorem index1 (w : World) : (Instr.index 180 (.agg #[.int .i64 3, .int .i64 1, .int .i64 2, .int .i64 3, .int .i64 7, .int .i64 2, .int .i64 11, .int .i64 4, .int .i64 18, .int .i64 5]) (.int .i64 1)).run Tryz.prog w = .ok (.agg #[.int .i64 2, .int .i64 3]) w := by kernel_rfl
theorem index2 (w : World) : (Instr.index 180 (.agg #[.int .i64 3, .int .i64 1, .int .i64 2, .int .i64 3, .int .i64 7, .int .i64 2, .int .i64 11, .int .i64 4, .int .i64 18, .int .i64 5]) (.int .i64 2)).run Tryz.prog w = .ok (.agg #[.int .i64 7, .int .i64 2]) w := by kernel_rfl
theorem index3 (w : World) : (Instr.index 180 (.agg #[.int .i64 3, .int .i64 1, .int .i64 2, .int .i64 3, .int .i64 7, .int .i64 2, .int .i64 11, .int .i64 4, .int .i64 18, .int .i64 5]) (.int .i64 3)).run Tryz.prog w = .ok (.agg #[.int .i64 11, .int .i64 4]) w := by kernel_rfl
theorem index4 (w : World) : (Instr.index 180 (.agg #[.int .i64 3, .int .i64 1, .int .i64 2, .int .i64 3, .int .i64 7, .int .i64 2, .int .i64 11, .int .i64 4, .int .i64 18, .int .i64 5]) (.int .i64 4)).run Tryz.prog w = .ok (.agg #[.int .i64 18, .int .i64 5]) w := by kernel_rfl
def ansV (k : Int) : Int := if k = 0 then 3 else if k = 1 then 2 else if k = 2 then 7 else if k = 3 then 11 else if k = 4 then 18 else 0
def ansT (k : Int) : Int := if k = 0 then 1 else if k = 1 then 3 else if k = 2 then 2 else if k = 3 then 4 else if k = 4 then 5 else 0
def ansE (k : Int) : Int := if k = 0 then 0 else if k = 1 then 0 else if k = 2 then 0 else if k = 3 then 0 else if k = 4 then 0 else 2
def Five (k : Int) : Prop := k = 0 ∨ k = 1 ∨ k = 2 ∨ k = 3 ∨ k = 4
theorem five_or (k : Int) : Five k ∨ k < 0 ∨ 4 < k := by unfold Five; omega
theorem ans_none (k : Int) (h : k < 0 ∨ 4 < k) : ansV k = 0 ∧ ansT k = 0 ∧ ansE k = 2 := by
  have h0 : k ≠ 0 := by omega
  have h1 : k ≠ 1 := by omega
  have h2 : k ≠ 2 := by omega
  have h3 : k ≠ 3 := by omega
  have h4 : k ≠ 4 := by omega
  simp [ansV, ansT, ansE, h0, h1, h2, h3, h4]
set_option maxRecDepth 100000 in
set_option maxHeartbeats 1000000 in
theorem of_five (k : Int) (hk : Five k) (w : World) : Calls Tryz.prog 166 #[.int .i64 k] w fun e w' => e = .returned (.tuple #[.int .i64 (ansV k), .int .i64 (ansT k), .int .i64 (ansE k)]) ∧ w.grownBy w' none := by
  have i0 := index0
  have i1 := index1
  have i2 := index2
  have i3 := index3
  have i4 := index4
  rcases hk with rfl | rfl | rfl | rfl | rfl
  all_goals
    go_enter Tryz.func166, Tryz.ntmps166
    go_wp2_with fail
    refine (five_any _).mono ?_
    rintro e w1 ⟨rfl, g1⟩
    go_wp2
    go_quiet (fail)
    go_wp2
    go_ret3
    exact ⟨rfl, grown_trans (grown_push g1 _) (grown_drewN _ _ _)⟩
set_option maxRecDepth 100000 in
set_option maxHeartbeats 1000000 in
theorem of_none (k : Int) (hk : k < 0 ∨ 4 < k) (w : World) : Calls Tryz.prog 166 #[.int .i64 k] w fun e w' => e = .returned (.tuple #[.int .i64 0, .int .i64 0, .int .i64 2]) ∧ w.grownBy w' none := by
  rcases hk with hk | hk
  · go_enter Tryz.func166, Tryz.ntmps166
    go_wp2
    go_ret3
    exact ⟨rfl, grown_refl _ _⟩
  · have h0 : ¬ k < 0 := by omega
    have h5 : 5 ≤ k := by omega
    clear hk
    go_enter Tryz.func166, Tryz.ntmps166
    go_wp2
    go_ret3
    exact ⟨rfl, grown_refl _ _⟩
theorem of_any (k : Int) (w : World) : Calls Tryz.prog 166 #[.int .i64 k] w fun e w' => e = .returned (.tuple #[.int .i64 (ansV k), .int .i64 (ansT k), .int .i64 (ansE k)]) ∧ w.grownBy w' none := by
  rcases five_or k with h | h
  · exact of_five k h w
  · obtain ⟨h1, h2, h3⟩ := ans_none k h
    rw [h1, h2, h3]
    exact of_none k h w
end Go.Proofs.YtknlcjhcamhfmaaGreatDoor
