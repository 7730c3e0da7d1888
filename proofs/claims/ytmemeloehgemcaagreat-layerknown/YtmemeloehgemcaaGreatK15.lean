/-
  At: the card of a number.
  == of what two books hold beside their cards.
  slices.EqualFunc over two rows of cards; Same.
  A book as the laws see it, and what each call makes of it; the document's examples (awake).
-/
import Derived.Test.YtmemeloehgemcaaGreatB11
import Derived.Test.YtmemeloehgemcaaGreatK9
import Derived.DeepKeys
import Derived.ChangeKeysEq
import Derived.Deep.MidRow
namespace Go.Proofs.YtmemeloehgemcaaGreat
open Go.RowKit

def atIn (p : Pl) (es : List Ent) (n : Int) : Prop := p.shut = true ∧ 1 ≤ n ∧ n ≤ es.length
set_option maxRecDepth 100000 in
set_option maxHeartbeats 1000000 in
theorem at_no (v : Value) (n : Int) (w : World) (h : NoBk w v) : Calls Tryz.prog 58 #[v, .int .i64 n] w fun e w' => e = .returned (.tuple #[cv Hd.none (.slice none 0 0), .int .i64 1]) ∧ w.grownBy w' none := by
  obtain ⟨W1, hW1⟩ : ∃ W1, W1 = w.alloc (.cells (ccs Hd.none (.slice none 0 0)) 88) := ⟨_, rfl⟩
  have HG1 : Hid (w.grownBy W1 none) := by rw [hW1]; exact World.grownBy_alloc _ _ none
  have HC1 : Hid (CAt W1 w.heap.size Hd.none (.slice none 0 0)) := by rw [hW1]; exact alloc_at w _ _
  have H : Hid (NoBk W1 v) := h.keep HG1.out
  obtain ⟨z0, z1, z2, z3, z4, z5, z6, z7, z8⟩ := HC1.out.cells
  have zf := fun i => HC1.out.free i
  unfold ccs Hd.none at hW1
  simp only [Hd.none] at z0 z1 z2 z3 z4 z5 z6 z7 z8
  clear h
  go_enter Tryz.func58, Tryz.ntmps58
  go_upto_region 1 with fail
  rw [← hW1]
  clear hW1
  go_wp2_with (first | (go_at_call 60; refine (isBook_no _ _ H.out).mono ?_; rintro e w1 ⟨rfl, h1⟩; obtain rfl : W1 = w1 := h1.symm) | fail)
  refine bodyPost_ret (v := .tuple #[cv Hd.none (.slice none 0 0), .int .i64 1]) (by simp [results, Tryz.results58, go_sem, z0, z1, z2, z3, z4, z5, z6, z7, z8, cv, Hd.none]) rfl ⟨rfl, ?_⟩
  have := grown_own HG1.out (grown_s9 W1 w.heap.size 0 Hd.none (.slice none 0 0)) (fun x e => by cases e; exact Nat.le_refl _)
  unfold set9 Hd.none at this
  simp only [Nat.zero_add] at this
  exact this
set_option maxRecDepth 100000 in
set_option maxHeartbeats 1000000 in
theorem at_out (b : Nat) (es : List Ent) (p : Pl) (n : Int) (w : World) (hB : BkIn w b es p) (hn : ¬ atIn p es n) : Calls Tryz.prog 58 #[.pointer (some ⟨b, 0, none⟩), .int .i64 n] w fun e w' => e = .returned (.tuple #[cv Hd.none (.slice none 0 0), .int .i64 6]) ∧ w.grownBy w' none := by
  obtain ⟨W1, hW1⟩ : ∃ W1, W1 = w.alloc (.cells (ccs Hd.none (.slice none 0 0)) 88) := ⟨_, rfl⟩
  have HG1 : Hid (w.grownBy W1 none) := by rw [hW1]; exact World.grownBy_alloc _ _ none
  have HC1 : Hid (CAt W1 w.heap.size Hd.none (.slice none 0 0)) := by rw [hW1]; exact alloc_at w _ _
  have HB1 : Hid (BkIn W1 b es p) := hB.keep HG1.out
  have HF := isBook_yes b es.length p W1 HB1.out.flags
  have s1 := HB1.out.flags.shut
  have s2 := HB1.out.flags.count
  obtain ⟨z0, z1, z2, z3, z4, z5, z6, z7, z8⟩ := HC1.out.cells
  have zf := fun i => HC1.out.free i
  unfold ccs Hd.none at hW1
  simp only [Hd.none] at z0 z1 z2 z3 z4 z5 z6 z7 z8
  have LAST : Hid (w.grownBy (set9 W1 w.heap.size 0 Hd.none (.slice none 0 0)) none) := grown_own HG1.out (grown_s9 W1 w.heap.size 0 Hd.none (.slice none 0 0)) (fun x e => by cases e; exact Nat.le_refl _)
  unfold set9 Hd.none at LAST
  simp only [Nat.zero_add] at LAST
  unfold atIn at hn
  clear hB
  cases hs : p.shut with
  | false =>
    rw [hs] at s1
    clear hn
    go_enter Tryz.func58, Tryz.ntmps58
    go_upto_region 1 with fail
    rw [← hW1]
    clear hW1
    go_wp2_with (first | (go_at_call 60; refine HF.mono ?_; rintro e w1 ⟨rfl, h1⟩; obtain rfl : W1 = w1 := h1.symm) | fail)
    refine bodyPost_ret (v := .tuple #[cv Hd.none (.slice none 0 0), .int .i64 6]) (by simp [results, Tryz.results58, go_sem, z0, z1, z2, z3, z4, z5, z6, z7, z8, cv, Hd.none]) rfl ⟨rfl, LAST.out⟩
  | true =>
    rw [hs] at s1
    by_cases h1 : n < 1
    · clear hn
      go_enter Tryz.func58, Tryz.ntmps58
      go_upto_region 1 with fail
      rw [← hW1]
      clear hW1
      go_wp2_with (first | (go_at_call 60; refine HF.mono ?_; rintro e w1 ⟨rfl, h1⟩; obtain rfl : W1 = w1 := h1.symm) | fail)
      refine bodyPost_ret (v := .tuple #[cv Hd.none (.slice none 0 0), .int .i64 6]) (by simp [results, Tryz.results58, go_sem, z0, z1, z2, z3, z4, z5, z6, z7, z8, cv, Hd.none]) rfl ⟨rfl, LAST.out⟩
    · have h2 : (es.length : Int) < n := by
        have : ¬ (1 ≤ n ∧ n ≤ es.length) := fun h => hn ⟨hs, h⟩
        omega
      have h1' : 1 ≤ n := by omega
      clear hn h1
      go_enter Tryz.func58, Tryz.ntmps58
      go_upto_region 1 with fail
      rw [← hW1]
      clear hW1
      go_wp2_with (first | (go_at_call 60; refine HF.mono ?_; rintro e w1 ⟨rfl, h1⟩; obtain rfl : W1 = w1 := h1.symm) | fail)
      refine bodyPost_ret (v := .tuple #[cv Hd.none (.slice none 0 0), .int .i64 6]) (by simp [results, Tryz.results58, go_sem, z0, z1, z2, z3, z4, z5, z6, z7, z8, cv, Hd.none]) rfl ⟨rfl, LAST.out⟩
set_option maxRecDepth 100000 in
set_option maxHeartbeats 2000000 in
theorem at_in (ok : Nat → Prop) (b : Nat) (es : List Ent) (p : Pl) (m : Nat) (e0 : Ent) (w : World) (hB : BkIn w b es p) (hG : Good ok w es) (hs : p.shut = true) (he : es[m]? = some e0) (hl : e0.ps.length ≤ 4) : Calls Tryz.prog 58 #[.pointer (some ⟨b, 0, none⟩), .int .i64 ((m : Int) + 1)] w fun e w' => ∃ u, e = .returned (.tuple #[cv e0.h u, .int .i64 0]) ∧ POwn w' w.heap.size u e0.ps ∧ w.grownBy w' none := by
  obtain ⟨W1, hW1⟩ : ∃ W1, W1 = w.alloc (.cells (ccs Hd.none (.slice none 0 0)) 88) := ⟨_, rfl⟩
  have HG1 : Hid (w.grownBy W1 none) := by rw [hW1]; exact World.grownBy_alloc _ _ none
  have HC1 : Hid (CAt W1 w.heap.size Hd.none (.slice none 0 0)) := by rw [hW1]; exact alloc_at w _ _
  have hS1 : W1.heap.size = w.heap.size + 1 := by rw [hW1]; simp
  have HB1 : Hid (BkIn W1 b es p) := hB.keep HG1.out
  have HF := isBook_yes b es.length p W1 HB1.out.flags
  have s1 := HB1.out.flags.shut
  have s2 := HB1.out.flags.count
  rw [hs] at s1
  have hm : m < es.length := (List.getElem?_eq_some_iff.1 he).1
  have h64 := HB1.out.len
  have PS := (hG e0 (List.mem_of_getElem? he)).1.keep HG1.out
  have D := HB1.out.row m e0 he
  rw [Nat.zero_add] at D
  obtain ⟨hd, v, ps⟩ := e0
  simp only at PS hl D ⊢
  obtain ⟨a, c, rfl⟩ := PS.form
  obtain ⟨d0, d1, d2, d3, d4, d5, d6, d7, d8⟩ := D
  have HCP := ccopy_any hd (.slice a ps.length c) ps W1 PS (by omega)
  unfold cv at HCP ⊢
  unfold ccs Hd.none at hW1
  have q1 : 1 ≤ (m : Int) + 1 := by omega
  have q2 : (m : Int) + 1 ≤ (es.length : Int) := by omega
  have q3 : wrap64 ((m : Int) + 1 - 1) = (m : Int) := by unfold wrap64; omega
  have q4 : (0 : Int) ≤ (m : Int) := by omega
  have q5 : (m : Int) < 64 := by omega
  clear hB hG he hm h64 PS hl
  go_enter Tryz.func58, Tryz.ntmps58
  go_upto_region 1 with fail
  rw [← hW1]
  clear hW1
  go_wp2_with (first | (go_at_call 60; refine HF.mono ?_; rintro e w1 ⟨rfl, h1⟩; obtain rfl : W1 = w1 := h1.symm) | (go_at_call 105; refine HCP.mono ?_; rintro e w2 ⟨u, rfl, o2, g2⟩; obtain ⟨a2, k2, rfl⟩ := o2.at.form; have HO2 : Hid (POwn w2 W1.heap.size (.slice a2 ps.length k2) ps) := o2; have HG2 : Hid (w.grownBy w2 none) := grown_trans HG1.out g2; have C2 := HC1.out.keep g2; obtain ⟨z0, z1, z2, z3, z4, z5, z6, z7, z8⟩ := C2.cells; have zf := fun i => C2.free i; simp only [Hd.none] at z0 z1 z2 z3 z4 z5 z6 z7 z8; clear o2 C2 d0 d1 d2 d3 d4 d5 d6 d7 d8) | fail)
  refine bodyPost_ret (v := .tuple #[cv hd (.slice a2 ps.length k2), .int .i64 0]) (by simp [results, Tryz.results58, go_sem, z0, z1, z2, z3, z4, z5, z6, z7, z8, cv]) rfl ⟨.slice a2 ps.length k2, rfl, ?_, ?_⟩
  · have := (HO2.out.keep (grown_s9 w2 w.heap.size 0 hd (.slice a2 ps.length k2)) (fun x e => by cases e; omega)).big (show w.heap.size ≤ W1.heap.size by omega)
    unfold set9 at this
    simp only [Nat.zero_add] at this
    exact this
  · have := grown_own HG2.out (grown_s9 w2 w.heap.size 0 hd (.slice a2 ps.length k2)) (fun x e => by cases e; exact Nat.le_refl _)
    unfold set9 at this
    simp only [Nat.zero_add] at this
    exact this
end Go.Proofs.YtmemeloehgemcaaGreat
namespace Go.Proofs.YtmemeloehgemcaaGreat
open Go.RowKit

structure Pl.fine (p : Pl) : Prop where
  nine : p.nms.length = 9
  five : p.mks.length = 5
  nms : ∀ s ∈ p.nms, s.size ≤ 20
  mks : ∀ m ∈ p.mks, 0 ≤ m.mi ∧ m.mi ≤ 4 ∧ -9 ≤ m.po ∧ m.po ≤ 9 ∧ -9 ≤ m.he ∧ m.he ≤ 9 ∧ m.nm.size ≤ 20
end Go.Proofs.YtmemeloehgemcaaGreat
namespace Go.Proofs.YtmemeloehgemcaaGreat
open Go.RowKit

theorem BkJ.range {w : World} {b : Nat} {es : List Ent} {junk : List Value} {p : Pl} (h : BkJ w b es junk p) : w.rangeAt b 576 (plc es.length p) := fun j v hv => by
  rw [h.tail, hv]
theorem Flags.keep {w w' : World} {b n : Nat} {p : Pl} (h : Flags w b n p) (g : w.grownBy w' none) : Flags w' b n p := ⟨g.cell h.made (by simp), g.cell h.shut (by simp), g.cell h.count (by simp)⟩
theorem NoBk.form {w : World} {v : Value} (h : NoBk w v) : ∃ a, v = .pointer a := by
  rcases h with rfl | ⟨b, rfl, _⟩
  · exact ⟨_, rfl⟩
  · exact ⟨_, rfl⟩
end Go.Proofs.YtmemeloehgemcaaGreat
namespace Go.Proofs.YtmemeloehgemcaaGreat
open Go.RowKit

structure Book (ok : Nat → Prop) (w : World) (b : Nat) (es : List Ent) (p : Pl) : Prop where
  lies : BkIn w b es p
  good : Good ok w es
  srt : Srt es
  fine : p.fine
  may : ∀ e ∈ es, cchk e.cd = 0
theorem Book.keep {ok : Nat → Prop} {w w' : World} {b : Nat} {es : List Ent} {p : Pl} (h : Book ok w b es p) (g : w.grownBy w' none) : Book ok w' b es p := ⟨h.lies.keep g, h.good.keep g, h.srt, h.fine, h.may⟩
theorem Book.keepR {ok : Nat → Prop} {w w' : World} {b : Nat} {es : List Ent} {p : Pl} {r : Option Nat} (h : Book ok w b es p) (g : w.grownBy w' r) (hb : some b ≠ r) (hr : ∀ k, ok k → some k ≠ r) : Book ok w' b es p := ⟨h.lies.keepR g hb, h.good.keepR g hr, h.srt, h.fine, h.may⟩
theorem Book.parts {ok : Nat → Prop} {w : World} {b : Nat} {es : List Ent} {p : Pl} (h : Book ok w b es p) : ∀ e ∈ es, e.ps.length ≤ 4 := fun e he => (cchk_facts (h.may e he)).2.2.1
theorem Book.lt {ok : Nat → Prop} {w : World} {b : Nat} {es : List Ent} {p : Pl} (h : Book ok w b es p) : b < w.heap.size := by obtain ⟨j, J⟩ := h.lies; exact block_lt J.lies
theorem plNew_fine : plNew.fine := ⟨rfl, rfl, fun s hs => by simp [plNew] at hs; rw [hs]; decide, fun m hm => by simp [plNew] at hm; rw [hm]; decide⟩
theorem bnew (ok : Nat → Prop) (w : World) : Calls Tryz.prog 22 #[] w fun e w' => e = .returned (.pointer (some ⟨w.heap.size, 0, none⟩)) ∧ Book ok w' w.heap.size [] plNew ∧ w.grownBy w' none ∧ w'.heap.size = w.heap.size + 1 :=
  (new_any w).mono fun e w' ⟨h1, h2, h3, h4⟩ => ⟨h1, ⟨h2, fun e he => by simp at he, by unfold Srt; exact List.Pairwise.nil, plNew_fine, fun e he => by simp at he⟩, h3, h4⟩
theorem names_mem {es : List Ent} {e : Ent} (h : e ∈ es) : e.h.nm ∈ names es := List.mem_map.2 ⟨e, h, rfl⟩
theorem bcard (ok : Nat → Prop) (b : Nat) (es : List Ent) (p : Pl) (h : Hd) (v : Value) (ps : List Pt) (w : World) (B : Book ok w b es p) (hok : ¬ ok b) (hnew : ∀ k, w.heap.size ≤ k → ok k) (hp : PsAt w v ps) (hm : Small ps.length) : Calls Tryz.prog 41 #[.pointer (some ⟨b, 0, none⟩), cv h v] w fun e w' => ∃ u, e = .returned (.int .i64 (caE p es (h.with ps))) ∧ Book ok w' b (if caE p es (h.with ps) = 0 then ins es ⟨h, u, ps⟩ else es) p ∧ w.grownBy w' (some b) := by
  refine (card_yes ok b es p h v ps w B.lies B.good B.srt hok hp hm).mono ?_
  rintro e w' ⟨u, he, h1, h2, h3⟩
  have G2 := h2.mono (ok' := ok) (fun k hk => hk.elim id (hnew k))
  refine ⟨u, he, ?_, h3⟩
  by_cases h0 : caE p es (h.with ps) = 0
  · rw [if_pos h0] at h1 G2 ⊢
    have hc : cchk (h.with ps) = 0 ∧ pos (names es) h.nm < 0 := by
      unfold caE at h0
      split at h0
      · omega
      · split at h0
        · exact absurd h0 (by assumption)
        · rename_i hq
          split at h0
          · omega
          · rename_i hz
            exact ⟨by simpa using hq, Int.not_le.1 hz⟩
    refine ⟨h1, G2, ins_srt es _ B.srt (fun x hx e => pos_no hc.2 (e ▸ names_mem hx)), B.fine, fun x hx => ?_⟩
    rcases (ins_mem es _ x).1 hx with rfl | hx
    · exact hc.1
    · exact B.may x hx
  · rw [if_neg h0] at h1 G2 ⊢
    exact ⟨h1, G2, B.srt, B.fine, B.may⟩
theorem sealP_fine {p : Pl} (h : p.fine) (es : List Ent) : (sealP p es).fine := by
  unfold sealP
  split
  · exact ⟨h.nine, h.five, h.nms, h.mks⟩
  · exact h
theorem bseal (ok : Nat → Prop) (b : Nat) (es : List Ent) (p : Pl) (w : World) (B : Book ok w b es p) (hok : ¬ ok b) : Calls Tryz.prog 46 #[.pointer (some ⟨b, 0, none⟩)] w fun e w' => e = .returned (.int .i64 (sealE p es)) ∧ Book ok w' b es (sealP p es) ∧ w.grownBy w' (some b) :=
  (seal_yes ok b es p w B.lies B.good B.parts).mono fun e w' ⟨h1, h2, h3⟩ => ⟨h1, ⟨h2, B.good.keepR h3 (fun k hk e => by cases e; exact hok hk), B.srt, sealP_fine B.fine es, B.may⟩, h3⟩
def rockH : Hd := ⟨⟨#[114, 111, 99, 107]⟩, 2, 1, 1, 0, 3, 0, false⟩
def axeH : Hd := ⟨⟨#[97, 120, 101]⟩, 1, 3, 2, 0, 0, 0, false⟩
def axeP : Pt := ⟨3, 7, 1, 1, 0, 0, 0, ⟨#[114, 111, 99, 107]⟩⟩
theorem ex1 : caE plNew [] (axeH.with [axeP]) = 0 := by decide +kernel
theorem ex2 (u : Value) : caE plNew [⟨axeH, u, [axeP]⟩] (rockH.with []) = 0 := by
  show (if plNew.shut = true then (7 : Int) else if ¬ cchk (rockH.with []) = 0 then cchk (rockH.with []) else if 0 ≤ pos [axeH.nm] rockH.nm then 5 else if (1 : Nat) = 64 then 14 else 0) = 0
  decide +kernel
theorem ex3 (u v : Value) : caE plNew [⟨axeH, u, [axeP]⟩, ⟨rockH, v, []⟩] (rockH.with []) = 5 := by
  show (if plNew.shut = true then (7 : Int) else if ¬ cchk (rockH.with []) = 0 then cchk (rockH.with []) else if 0 ≤ pos [axeH.nm, rockH.nm] rockH.nm then 5 else if (2 : Nat) = 64 then 14 else 0) = 5
  decide +kernel
end Go.Proofs.YtmemeloehgemcaaGreat
