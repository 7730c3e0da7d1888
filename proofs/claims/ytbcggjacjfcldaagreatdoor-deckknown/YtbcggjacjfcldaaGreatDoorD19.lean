/-
  slices.EqualFunc over two rows of cards; Same.
  A book as the laws see it, and what each call makes of it; the document's examples (awake).
  deck's refusal and Check, of every book and list.
-/
import Derived.Test.YtbcggjacjfcldaaGreatDoorD18
import Derived.Deep.MidRow
import Derived.Test.YtbcggjacjfcldaaGreatDoorD11
namespace Go.Proofs.YtbcggjacjfcldaaGreatDoor
open Go.RowKit

def sameE (a b : Ent) : Bool := sameHd a.h b.h && samePs a.ps b.ps
def sameEs : List Ent → List Ent → Bool
  | [], [] => true
  | a :: r, b :: s => sameE a b && sameEs r s
  | _, _ => false
theorem sameEs_len : ∀ {a b : List Ent}, ¬ a.length = b.length → sameEs a b = false
  | [], [], h => by simp at h
  | [], _ :: _, _ => rfl
  | _ :: _, [], _ => rfl
  | a :: r, b :: s, h => by
    simp only [sameEs, sameEs_len (a := r) (b := s) (by simpa using h), Bool.and_false]
theorem sameEs_drop {a b : List Ent} {k : Nat} {x y : Ent} (ha : a[k]? = some x) (hb : b[k]? = some y) : sameEs (a.drop k) (b.drop k) = (sameE x y && sameEs (a.drop (k + 1)) (b.drop (k + 1))) := by
  rw [List.drop_eq_getElem_cons (List.getElem?_eq_some_iff.1 ha).1, (List.getElem?_eq_some_iff.1 ha).2, List.drop_eq_getElem_cons (List.getElem?_eq_some_iff.1 hb).1, (List.getElem?_eq_some_iff.1 hb).2]
  rfl
def EqTo (es fs : List Ent) (k : Nat) (r : Bool) : Prop := sameEs (es.drop k) (fs.drop k) = r
theorem BkJ.range {w : World} {b : Nat} {es : List Ent} {junk : List Value} {p : Pl} (h : BkJ w b es junk p) : w.rangeAt b 576 (plc es.length p) := fun j v hv => by
  rw [h.tail, hv]
def TwoS (w0 : World) (b c : Nat) (es fs : List Ent) (p q : Pl) (j1 j2 : List Value) (w : World) : Prop := BkJ w b es j1 p ∧ BkJ w c fs j2 q ∧ w0.grownBy w none
theorem TwoS.keep {w0 w w' : World} {b c : Nat} {es fs : List Ent} {p q : Pl} {j1 j2 : List Value} (h : TwoS w0 b c es fs p q j1 j2 w) (g : w.grownBy w' none) : TwoS w0 b c es fs p q j1 j2 w' := ⟨h.1.keep g, h.2.1.keep g, grown_trans h.2.2 g⟩
theorem Flags.keep {w w' : World} {b n : Nat} {p : Pl} (h : Flags w b n p) (g : w.grownBy w' none) : Flags w' b n p := ⟨g.cell h.made (by simp), g.cell h.shut (by simp), g.cell h.count (by simp)⟩
theorem NoBk.form {w : World} {v : Value} (h : NoBk w v) : ∃ a, v = .pointer a := by
  rcases h with rfl | ⟨b, rfl, _⟩
  · exact ⟨_, rfl⟩
  · exact ⟨_, rfl⟩
end Go.Proofs.YtbcggjacjfcldaaGreatDoor
namespace Go.Proofs.YtbcggjacjfcldaaGreatDoor
open Go.RowKit

structure Book (ok : Nat → Prop) (w : World) (b : Nat) (es : List Ent) (p : Pl) : Prop where
  lies : BkIn w b es p
  good : Good ok w es
  srt : Srt es
  fine : p.fine
  may : ∀ e ∈ es, cchk e.cd = 0
theorem Book.keep {ok : Nat → Prop} {w w' : World} {b : Nat} {es : List Ent} {p : Pl} (h : Book ok w b es p) (g : w.grownBy w' none) : Book ok w' b es p := ⟨h.lies.keep g, h.good.keep g, h.srt, h.fine, h.may⟩
theorem Book.keepR {ok : Nat → Prop} {w w' : World} {b : Nat} {es : List Ent} {p : Pl} {r : Option Nat} (h : Book ok w b es p) (g : w.grownBy w' r) (hb : some b ≠ r) (hr : ∀ k, ok k → some k ≠ r) : Book ok w' b es p := ⟨h.lies.keepR g hb, h.good.keepR g hr, h.srt, h.fine, h.may⟩
theorem Book.parts {ok : Nat → Prop} {w : World} {b : Nat} {es : List Ent} {p : Pl} (h : Book ok w b es p) : ∀ e ∈ es, e.ps.length ≤ 4 := fun e he => (cchk_facts (h.may e he)).2.2.1
theorem Book.lt {ok : Nat → Prop} {w : World} {b : Nat} {es : List Ent} {p : Pl} (h : Book ok w b es p) : b < w.heap.size := by obtain ⟨j, J⟩ := h.lies; exact block_lt J.lies
theorem plNew_fine : plNew.fine := ⟨rfl, rfl, fun s hs => by simp [plNew] at hs; rw [hs]; decide, fun m hm => by simp [plNew] at hm; rw [hm]; decide⟩
theorem bnew (ok : Nat → Prop) (w : World) : Calls Tryz.prog 26 #[] w fun e w' => e = .returned (.pointer (some ⟨w.heap.size, 0, none⟩)) ∧ Book ok w' w.heap.size [] plNew ∧ w.grownBy w' none ∧ w'.heap.size = w.heap.size + 1 :=
  (new_any w).mono fun e w' ⟨h1, h2, h3, h4⟩ => ⟨h1, ⟨h2, fun e he => by simp at he, by unfold Srt; exact List.Pairwise.nil, plNew_fine, fun e he => by simp at he⟩, h3, h4⟩
theorem names_mem {es : List Ent} {e : Ent} (h : e ∈ es) : e.h.nm ∈ names es := List.mem_map.2 ⟨e, h, rfl⟩
theorem bcard (ok : Nat → Prop) (b : Nat) (es : List Ent) (p : Pl) (h : Hd) (v : Value) (ps : List Pt) (w : World) (B : Book ok w b es p) (hok : ¬ ok b) (hnew : ∀ k, w.heap.size ≤ k → ok k) (hp : PsAt w v ps) (hm : Small ps.length) : Calls Tryz.prog 28 #[.pointer (some ⟨b, 0, none⟩), cv h v] w fun e w' => ∃ u, e = .returned (.int .i64 (caE p es (h.with ps))) ∧ Book ok w' b (if caE p es (h.with ps) = 0 then ins es ⟨h, u, ps⟩ else es) p ∧ w.grownBy w' (some b) := by
  refine (card_yes ok b es p h v ps w B.lies B.good B.srt hok hp hm).mono ?_
  rintro e w' ⟨u, he, h1, h2, h3⟩
  have G2 := h2.mono (ok' := ok) (fun k hk => hk.elim id (hnew k))
  refine ⟨u, he, ?_, h3⟩
  by_cases h0 : caE p es (h.with ps) = 0
  · rw [if_pos h0] at h1 G2 ⊢
    have hc : cchk (h.with ps) = 0 ∧ pos (names es) h.nm < 0 := by
      unfold caE at h0
      split at h0
      · omega
      · split at h0
        · exact absurd h0 (by assumption)
        · rename_i hq
          split at h0
          · omega
          · rename_i hz
            exact ⟨by simpa using hq, Int.not_le.1 hz⟩
    refine ⟨h1, G2, ins_srt es _ B.srt (fun x hx e => pos_no hc.2 (e ▸ names_mem hx)), B.fine, fun x hx => ?_⟩
    rcases (ins_mem es _ x).1 hx with rfl | hx
    · exact hc.1
    · exact B.may x hx
  · rw [if_neg h0] at h1 G2 ⊢
    exact ⟨h1, G2, B.srt, B.fine, B.may⟩
theorem trP_fine {p : Pl} (h : p.fine) (t : Int) (s : ByteArray) : (trP p t s).fine := by
  unfold trP
  by_cases h0 : trE p t s = 0
  · rw [if_pos h0]
    have hn : s.size ≤ 20 := by
      unfold trE at h0
      split at h0
      · omega
      · split at h0
        · omega
        · split at h0
          · omega
          · rename_i hz
            have hn : nameOk s.data.toList = true := by cases hq : nameOk s.data.toList with
              | true => rfl
              | false => exact absurd hq hz
            rw [Lib.size_eq]; exact (name_facts hn).2
    refine ⟨by simpa using h.nine, h.five, fun x hx => ?_, h.mks⟩
    rcases List.mem_or_eq_of_mem_set hx with hx | rfl
    · exact h.nms x hx
    · exact hn
  · rw [if_neg h0]; exact h
theorem maP_fine {p : Pl} (h : p.fine) (m : Mk) : (maP p m).fine := by
  unfold maP
  by_cases h0 : maE p m = 0
  · rw [if_pos h0]
    have hn : (0 ≤ m.mi ∧ m.mi ≤ 4 ∧ -9 ≤ m.po ∧ m.po ≤ 9 ∧ -9 ≤ m.he ∧ m.he ≤ 9) ∧ m.nm.size ≤ 20 := by
      unfold maE at h0
      split at h0
      · omega
      · split at h0
        · omega
        · rename_i hr
          split at h0
          · omega
          · rename_i hz
            have hn : nameOk m.nm.data.toList = true := by cases hq : nameOk m.nm.data.toList with
              | true => rfl
              | false => exact absurd hq hz
            have k1 : fF m.po = true := by cases hq : fF m.po with
              | true => rfl
              | false => exact absurd (Or.inr (Or.inr (Or.inl hq))) hr
            have k2 : fF m.he = true := by cases hq : fF m.he with
              | true => rfl
              | false => exact absurd (Or.inr (Or.inr (Or.inr hq))) hr
            simp only [fF, Bool.and_eq_true, decide_eq_true_eq] at k1 k2
            refine ⟨⟨by omega, by omega, k1.1, k1.2, k2.1, k2.2⟩, ?_⟩
            rw [Lib.size_eq]; exact (name_facts hn).2
    refine ⟨h.nine, by simpa using h.five, h.nms, fun x hx => ?_⟩
    rcases List.mem_or_eq_of_mem_set hx with hx | rfl
    · exact h.mks x hx
    · exact ⟨hn.1.1, hn.1.2.1, hn.1.2.2.1, hn.1.2.2.2.1, hn.1.2.2.2.2.1, hn.1.2.2.2.2.2, hn.2⟩
  · rw [if_neg h0]; exact h
theorem bmark (ok : Nat → Prop) (b : Nat) (es : List Ent) (p : Pl) (m : Mk) (w : World) (B : Book ok w b es p) (hok : ¬ ok b) : Calls Tryz.prog 31 #[.pointer (some ⟨b, 0, none⟩), mv m] w fun e w' => e = .returned (.int .i64 (maE p m)) ∧ Book ok w' b es (maP p m) ∧ w.grownBy w' (some b) :=
  (mark_yes b es p m w B.lies).mono fun e w' ⟨h1, h2, h3⟩ => ⟨h1, ⟨h2, B.good.keepR h3 (fun k hk e => by cases e; exact hok hk), B.srt, maP_fine B.fine m, B.may⟩, h3⟩
theorem sealP_fine {p : Pl} (h : p.fine) (es : List Ent) : (sealP p es).fine := by
  unfold sealP
  split
  · exact ⟨h.nine, h.five, h.nms, h.mks⟩
  · exact h
theorem bseal (ok : Nat → Prop) (b : Nat) (es : List Ent) (p : Pl) (w : World) (B : Book ok w b es p) (hok : ¬ ok b) : Calls Tryz.prog 33 #[.pointer (some ⟨b, 0, none⟩)] w fun e w' => e = .returned (.int .i64 (sealE p es)) ∧ Book ok w' b es (sealP p es) ∧ w.grownBy w' (some b) :=
  (seal_yes ok b es p w B.lies B.good B.parts).mono fun e w' ⟨h1, h2, h3⟩ => ⟨h1, ⟨h2, B.good.keepR h3 (fun k hk e => by cases e; exact hok hk), B.srt, sealP_fine B.fine es, B.may⟩, h3⟩
/-- The cards of the examples. -/
def rockH : Hd := ⟨⟨#[114, 111, 99, 107]⟩, 2, 1, 1, 0, 3, 0, false⟩
def axeH : Hd := ⟨⟨#[97, 120, 101]⟩, 1, 3, 2, 0, 0, 0, false⟩
def axeP : Pt := ⟨3, 7, 1, 1, 0, 0, 0, ⟨#[114, 111, 99, 107]⟩⟩
/-- What holds of the examples' books. -/
theorem exA (u : Value) : ins [] ⟨axeH, u, [axeP]⟩ = [⟨axeH, u, [axeP]⟩] := rfl
theorem exAR (u v : Value) : ins [⟨axeH, u, [axeP]⟩] ⟨rockH, v, []⟩ = [⟨axeH, u, [axeP]⟩, ⟨rockH, v, []⟩] := by
  rw [ins_cons, if_pos (by show ord axeH rockH < 0; decide +kernel)]
  rfl
theorem ex1 : caE plNew [] (axeH.with [axeP]) = 0 := by decide +kernel
theorem ex2 (u : Value) : caE plNew [⟨axeH, u, [axeP]⟩] (rockH.with []) = 0 := by
  show (if plNew.shut = true then (7 : Int) else if ¬ cchk (rockH.with []) = 0 then cchk (rockH.with []) else if 0 ≤ pos [axeH.nm] rockH.nm then 5 else if (1 : Nat) = 64 then 14 else 0) = 0
  decide +kernel
theorem ex3 (u v : Value) : caE plNew [⟨axeH, u, [axeP]⟩, ⟨rockH, v, []⟩] (rockH.with []) = 5 := by
  show (if plNew.shut = true then (7 : Int) else if ¬ cchk (rockH.with []) = 0 then cchk (rockH.with []) else if 0 ≤ pos [axeH.nm, rockH.nm] rockH.nm then 5 else if (2 : Nat) = 64 then 14 else 0) = 5
  decide +kernel
theorem ex4 (u v : Value) : pos (names [⟨axeH, u, [axeP]⟩, ⟨rockH, v, []⟩]) ⟨#[97, 120, 101]⟩ = 0 := by
  show pos [axeH.nm, rockH.nm] ⟨#[97, 120, 101]⟩ = 0
  decide +kernel
theorem ex4r (u v : Value) : pos (names [⟨axeH, u, [axeP]⟩, ⟨rockH, v, []⟩]) ⟨#[114, 111, 99, 107]⟩ = 1 := by
  show pos [axeH.nm, rockH.nm] ⟨#[114, 111, 99, 107]⟩ = 1
  decide +kernel
theorem ex5 (u v : Value) : sealE plNew [⟨axeH, u, [axeP]⟩, ⟨rockH, v, []⟩] = 0 := by
  have c : callE [⟨axeH, u, [axeP]⟩, ⟨rockH, v, []⟩] axeP = 0 := by
    unfold callE
    rw [if_neg (by decide)]
    show (if pos (names [⟨axeH, u, [axeP]⟩, ⟨rockH, v, []⟩]) ⟨#[114, 111, 99, 107]⟩ < 0 then (6 : Int) else if kdAt [⟨axeH, u, [axeP]⟩, ⟨rockH, v, []⟩] (pos (names [⟨axeH, u, [axeP]⟩, ⟨rockH, v, []⟩]) ⟨#[114, 111, 99, 107]⟩).toNat = 2 then 8 else 0) = 0
    rw [ex4r]
    rfl
  unfold sealE
  rw [if_neg (by decide)]
  simp [sealL, callsE, c]
def plShut : Pl := { plNew with shut := true }
theorem ex6 (u v : Value) : sealP plNew [⟨axeH, u, [axeP]⟩, ⟨rockH, v, []⟩] = plShut := if_pos (ex5 u v)
theorem ex7 (es : List Ent) (c : Cd) : caE plShut es c = 7 := if_pos rfl
end Go.Proofs.YtbcggjacjfcldaaGreatDoor
namespace Go.Proofs.YtbcggjacjfcldaaGreatDoor
open Go.RowKit

/-- At of a book, of every number: the fault, or the card. -/
def AtPost (p : Pl) (es : List Ent) (n : Int) (w : World) (e : Ending) (w' : World) : Prop := ∃ (h : Hd) (u : Value) (x : Int), e = .returned (.tuple #[cv h u, .int .i64 x]) ∧ (∃ a m c, u = .slice a m c) ∧ ((¬ atIn p es n ∧ x = 6) ∨ (atIn p es n ∧ x = 0 ∧ ∃ e0, es[(n - 1).toNat]? = some e0 ∧ h = e0.h)) ∧ w.grownBy w' none
theorem pat_any (ok : Nat → Prop) (b : Nat) (es : List Ent) (p : Pl) (n : Int) (w : World) (B : Book ok w b es p) : Calls Tryz.prog 24 #[.pointer (some ⟨b, 0, none⟩), .int .i64 n] w (AtPost p es n w) := by
  by_cases h : atIn p es n
  · obtain ⟨m, rfl⟩ : ∃ m : Nat, n = (m : Int) + 1 := ⟨(n - 1).toNat, by have := h.2.1; omega⟩
    have hm : m < es.length := by have := h.2.2; omega
    refine (at_in ok b es p m es[m] w B.lies B.good h.1 (List.getElem?_eq_getElem hm) (B.parts _ (List.getElem_mem _))).mono ?_
    rintro e w' ⟨u, rfl, o, g⟩
    obtain ⟨a, c, hu⟩ := o.at.form
    exact ⟨_, u, 0, rfl, ⟨_, _, _, hu⟩, Or.inr ⟨h, rfl, es[m], by rw [show ((m : Int) + 1 - 1).toNat = m by omega]; exact List.getElem?_eq_getElem hm, rfl⟩, g⟩
  · refine (at_out b es p n w B.lies h).mono ?_
    rintro e w' ⟨rfl, g⟩
    exact ⟨_, _, 6, rfl, ⟨_, _, _, rfl⟩, Or.inl ⟨h, rfl⟩, g⟩
set_option maxHeartbeats 2000000 in
set_option maxRecDepth 100000 in
theorem refusal_book (ok : Nat → Prop) (b : Nat) (es : List Ent) (p : Pl) (sh : Bool) (hp : p.shut = sh) (w : World) (B : Book ok w b es p) : Calls Tryz.prog 36 #[.pointer (some ⟨b, 0, none⟩)] w fun e w' => e = .returned (.int .i64 (if sh then 0 else 2)) ∧ w.grownBy w' none := by
  have HA := at_out b es p 0 w B.lies (fun h => by have := h.2.1; omega)
  have HB : Hid (Book ok w b es p) := B
  clear B
  unfold cv Hd.none at HA
  go_enter Tryz.func36, Tryz.ntmps36
  go_wp2_with fail
  refine HA.mono ?_
  rintro e w1 ⟨rfl, g1⟩
  obtain ⟨W2, hW2⟩ : ∃ W2, W2 = w1.alloc (.cells (ccs Hd.none (.slice none 0 0)) 55) := ⟨_, rfl⟩
  have HG2 : Hid (w.grownBy W2 none) := by rw [hW2]; exact grown_push g1 _
  have HS := sealed_yes b es.length p W2 (HB.out.keep HG2.out).lies.flags
  rw [hp] at HS
  unfold ccs Hd.none at hW2
  clear g1 HA
  go_upto_region 2 with fail
  rw [← hW2]
  clear hW2
  go_wp2_with fail
  refine HS.mono ?_
  rintro e w3 ⟨rfl, hw⟩
  obtain rfl : W2 = w3 := hw.symm
  clear HS hp
  cases sh with
  | true =>
    go_wp2_with fail
    go_ret
    exact ⟨rfl, HG2.out⟩
  | false =>
    go_wp2_with fail
    go_ret
    exact ⟨rfl, HG2.out⟩
set_option maxHeartbeats 2000000 in
set_option maxRecDepth 100000 in
theorem refusal_none (v : Value) (w : World) (h : NoBk w v) : Calls Tryz.prog 36 #[v] w fun e w' => e = .returned (.int .i64 1) ∧ w.grownBy w' none := by
  have HA := at_no v 0 w h
  clear h
  unfold cv Hd.none at HA
  go_enter Tryz.func36, Tryz.ntmps36
  go_wp2_with fail
  refine HA.mono ?_
  rintro e w1 ⟨rfl, g1⟩
  obtain ⟨W2, hW2⟩ : ∃ W2, W2 = w1.alloc (.cells (ccs Hd.none (.slice none 0 0)) 55) := ⟨_, rfl⟩
  have HG2 : Hid (w.grownBy W2 none) := by rw [hW2]; exact grown_push g1 _
  unfold ccs Hd.none at hW2
  clear g1 HA
  go_upto_region 2 with fail
  rw [← hW2]
  clear hW2
  go_wp2_with fail
  go_ret
  exact ⟨rfl, HG2.out⟩
/-- The counts of a deck's numbers up to place k, as Check keeps them. -/
def CtA (l : List Int) (k : Nat) : List Value := (List.range 65).map fun i : Nat => .int .i64 (((l.take k).count (i : Int) : Nat) : Int)
def CtAt (w : World) (g : Nat) (l : List Int) (k : Nat) : Prop := w.heap[g]? = some (.cells (CtA l k).toArray 92 (0, 0))
theorem CtAt.keepR {w w' : World} {g k : Nat} {l : List Int} {r : Option Nat} (h : CtAt w g l k) (x : w.grownBy w' r) (hr : some g ≠ r) : CtAt w' g l k := grown_keep x h hr
theorem CtAt.cell {w : World} {g k : Nat} {l : List Int} (h : CtAt w g l k) {i : Nat} (hi : i < 65) : w.cell? ⟨g, i, none⟩ = some (.int .i64 (((l.take k).count (i : Int) : Nat) : Int)) := by
  rw [block_cell h i]
  simp [CtA, hi]
theorem CtAt.free {w : World} {g k : Nat} {l : List Int} (h : CtAt w g l k) (i : Nat) : w.frozen? ⟨g, i, none⟩ = false := block_free h i
theorem CtA_zero (l : List Int) : CtA l 0 = List.replicate 65 (.int .i64 0) := by
  unfold CtA
  rw [List.eq_replicate_iff]
  refine ⟨by simp, fun x hx => ?_⟩
  obtain ⟨i, _, rfl⟩ := List.mem_map.1 hx
  simp
theorem CtA_next {l : List Int} {k i : Nat} (hk : k < l.length) (h : l.getD k 0 = (i : Int)) : (CtA l k).set i (.int .i64 (((l.take k).count (i : Int) : Nat) + 1 : Int)) = CtA l (k + 1) := by
  apply List.ext_getElem
  · simp [CtA]
  · intro j h1 h2
    have hj : j < 65 := by simpa [CtA] using h2
    rw [List.getElem_set]
    simp only [CtA, List.getElem_map, List.getElem_range]
    rw [cnt_next (j : Int) hk, h]
    by_cases e : i = j
    · subst e
      simp
    · rw [if_neg e, if_neg (by omega)]
      simp
theorem CtAt.next {w : World} {g k i : Nat} {l : List Int} (h : CtAt w g l k) (hk : k < l.length) (hx : l.getD k 0 = (i : Int)) : CtAt (w.setCell ⟨g, i, none⟩ (.int .i64 (((l.take k).count (i : Int) : Nat) + 1 : Int))) g l (k + 1) := by
  unfold CtAt
  rw [block_set h, ← CtA_next hk hx]
  simp
end Go.Proofs.YtbcggjacjfcldaaGreatDoor
