/-
  A book as the laws see it, and what each call makes of it; the document's examples (awake).
-/
import Derived.Test.YtmepidalecdmkaaB13
namespace Go.Proofs.Ytmepidalecdmkaa
open Go.RowKit

structure Book (ok : Nat → Prop) (w : World) (b : Nat) (es : List Ent) (p : Pl) : Prop where
  lies : BkIn w b es p
  good : Good ok w es
  srt : Srt es
  fine : p.fine
  may : ∀ e ∈ es, cchk e.cd = 0
theorem Book.keep {ok : Nat → Prop} {w w' : World} {b : Nat} {es : List Ent} {p : Pl} (h : Book ok w b es p) (g : w.grownBy w' none) : Book ok w' b es p := ⟨h.lies.keep g, h.good.keep g, h.srt, h.fine, h.may⟩
theorem Book.keepR {ok : Nat → Prop} {w w' : World} {b : Nat} {es : List Ent} {p : Pl} {r : Option Nat} (h : Book ok w b es p) (g : w.grownBy w' r) (hb : some b ≠ r) (hr : ∀ k, ok k → some k ≠ r) : Book ok w' b es p := ⟨h.lies.keepR g hb, h.good.keepR g hr, h.srt, h.fine, h.may⟩
theorem Book.parts {ok : Nat → Prop} {w : World} {b : Nat} {es : List Ent} {p : Pl} (h : Book ok w b es p) : ∀ e ∈ es, e.ps.length ≤ 4 := fun e he => (cchk_facts (h.may e he)).2.2.1
theorem Book.lt {ok : Nat → Prop} {w : World} {b : Nat} {es : List Ent} {p : Pl} (h : Book ok w b es p) : b < w.heap.size := by obtain ⟨j, J⟩ := h.lies; exact block_lt J.lies
theorem plNew_fine : plNew.fine := ⟨rfl, rfl, fun s hs => by simp [plNew] at hs; rw [hs]; decide, fun m hm => by simp [plNew] at hm; rw [hm]; decide⟩
theorem bnew (ok : Nat → Prop) (w : World) : Calls Try.prog 41 #[] w fun e w' => e = .returned (.pointer (some ⟨w.heap.size, 0, none⟩)) ∧ Book ok w' w.heap.size [] plNew ∧ w.grownBy w' none ∧ w'.heap.size = w.heap.size + 1 :=
  (new_any w).mono fun e w' ⟨h1, h2, h3, h4⟩ => ⟨h1, ⟨h2, fun e he => by simp at he, by unfold Srt; exact List.Pairwise.nil, plNew_fine, fun e he => by simp at he⟩, h3, h4⟩
theorem names_mem {es : List Ent} {e : Ent} (h : e ∈ es) : e.h.nm ∈ names es := List.mem_map.2 ⟨e, h, rfl⟩
theorem bcard (ok : Nat → Prop) (b : Nat) (es : List Ent) (p : Pl) (h : Hd) (v : Value) (ps : List Pt) (w : World) (B : Book ok w b es p) (hok : ¬ ok b) (hnew : ∀ k, w.heap.size ≤ k → ok k) (hp : PsAt w v ps) (hm : Small ps.length) : Calls Try.prog 14 #[.pointer (some ⟨b, 0, none⟩), cv h v] w fun e w' => ∃ u, e = .returned (.int .i64 (caE p es (h.with ps))) ∧ Book ok w' b (if caE p es (h.with ps) = 0 then ins es ⟨h, u, ps⟩ else es) p ∧ w.grownBy w' (some b) := by
  refine (card_yes ok b es p h v ps w B.lies B.good B.srt hok hp hm).mono ?_
  rintro e w' ⟨u, he, h1, h2, h3⟩
  have G2 := h2.mono (ok' := ok) (fun k hk => hk.elim id (hnew k))
  refine ⟨u, he, ?_, h3⟩
  by_cases h0 : caE p es (h.with ps) = 0
  · rw [if_pos h0] at h1 G2 ⊢
    have hc : cchk (h.with ps) = 0 ∧ pos (names es) h.nm < 0 := by
      unfold caE at h0
      split at h0
      · omega
      · split at h0
        · exact absurd h0 (by assumption)
        · rename_i hq
          split at h0
          · omega
          · rename_i hz
            exact ⟨by simpa using hq, Int.not_le.1 hz⟩
    refine ⟨h1, G2, ins_srt es _ B.srt (fun x hx e => pos_no hc.2 (e ▸ names_mem hx)), B.fine, fun x hx => ?_⟩
    rcases (ins_mem es _ x).1 hx with rfl | hx
    · exact hc.1
    · exact B.may x hx
  · rw [if_neg h0] at h1 G2 ⊢
    exact ⟨h1, G2, B.srt, B.fine, B.may⟩
theorem trP_fine {p : Pl} (h : p.fine) (t : Int) (s : ByteArray) : (trP p t s).fine := by
  unfold trP
  by_cases h0 : trE p t s = 0
  · rw [if_pos h0]
    have hn : s.size ≤ 20 := by
      unfold trE at h0
      split at h0
      · omega
      · split at h0
        · omega
        · split at h0
          · omega
          · rename_i hz
            have hn : nameOk s.data.toList = true := by cases hq : nameOk s.data.toList with
              | true => rfl
              | false => exact absurd hq hz
            rw [Lib.size_eq]; exact (name_facts hn).2
    refine ⟨by simpa using h.nine, h.five, fun x hx => ?_, h.mks⟩
    rcases List.mem_or_eq_of_mem_set hx with hx | rfl
    · exact h.nms x hx
    · exact hn
  · rw [if_neg h0]; exact h
theorem maP_fine {p : Pl} (h : p.fine) (m : Mk) : (maP p m).fine := by
  unfold maP
  by_cases h0 : maE p m = 0
  · rw [if_pos h0]
    have hn : (0 ≤ m.mi ∧ m.mi ≤ 4 ∧ -9 ≤ m.po ∧ m.po ≤ 9 ∧ -9 ≤ m.he ∧ m.he ≤ 9) ∧ m.nm.size ≤ 20 := by
      unfold maE at h0
      split at h0
      · omega
      · split at h0
        · omega
        · rename_i hr
          split at h0
          · omega
          · rename_i hz
            have hn : nameOk m.nm.data.toList = true := by cases hq : nameOk m.nm.data.toList with
              | true => rfl
              | false => exact absurd hq hz
            have k1 : fF m.po = true := by cases hq : fF m.po with
              | true => rfl
              | false => exact absurd (Or.inr (Or.inr (Or.inl hq))) hr
            have k2 : fF m.he = true := by cases hq : fF m.he with
              | true => rfl
              | false => exact absurd (Or.inr (Or.inr (Or.inr hq))) hr
            simp only [fF, Bool.and_eq_true, decide_eq_true_eq] at k1 k2
            refine ⟨⟨by omega, by omega, k1.1, k1.2, k2.1, k2.2⟩, ?_⟩
            rw [Lib.size_eq]; exact (name_facts hn).2
    refine ⟨h.nine, by simpa using h.five, h.nms, fun x hx => ?_⟩
    rcases List.mem_or_eq_of_mem_set hx with hx | rfl
    · exact h.mks x hx
    · exact ⟨hn.1.1, hn.1.2.1, hn.1.2.2.1, hn.1.2.2.2.1, hn.1.2.2.2.2.1, hn.1.2.2.2.2.2, hn.2⟩
  · rw [if_neg h0]; exact h
theorem btrait (ok : Nat → Prop) (b : Nat) (es : List Ent) (p : Pl) (t : Int) (s : ByteArray) (w : World) (B : Book ok w b es p) (hok : ¬ ok b) : Calls Try.prog 15 #[.pointer (some ⟨b, 0, none⟩), .int .u8 t, .string s] w fun e w' => e = .returned (.int .i64 (trE p t s)) ∧ Book ok w' b es (trP p t s) ∧ w.grownBy w' (some b) :=
  (trait_yes b es p t s w B.lies).mono fun e w' ⟨h1, h2, h3⟩ => ⟨h1, ⟨h2, B.good.keepR h3 (fun k hk e => by cases e; exact hok hk), B.srt, trP_fine B.fine t s, B.may⟩, h3⟩
theorem bmark (ok : Nat → Prop) (b : Nat) (es : List Ent) (p : Pl) (m : Mk) (w : World) (B : Book ok w b es p) (hok : ¬ ok b) : Calls Try.prog 16 #[.pointer (some ⟨b, 0, none⟩), mv m] w fun e w' => e = .returned (.int .i64 (maE p m)) ∧ Book ok w' b es (maP p m) ∧ w.grownBy w' (some b) :=
  (mark_yes b es p m w B.lies).mono fun e w' ⟨h1, h2, h3⟩ => ⟨h1, ⟨h2, B.good.keepR h3 (fun k hk e => by cases e; exact hok hk), B.srt, maP_fine B.fine m, B.may⟩, h3⟩
theorem sealP_fine {p : Pl} (h : p.fine) (es : List Ent) : (sealP p es).fine := by
  unfold sealP
  split
  · exact ⟨h.nine, h.five, h.nms, h.mks⟩
  · exact h
theorem bseal (ok : Nat → Prop) (b : Nat) (es : List Ent) (p : Pl) (w : World) (B : Book ok w b es p) (hok : ¬ ok b) : Calls Try.prog 11 #[.pointer (some ⟨b, 0, none⟩)] w fun e w' => e = .returned (.int .i64 (sealE p es)) ∧ Book ok w' b es (sealP p es) ∧ w.grownBy w' (some b) :=
  (seal_yes ok b es p w B.lies B.good B.parts).mono fun e w' ⟨h1, h2, h3⟩ => ⟨h1, ⟨h2, B.good.keepR h3 (fun k hk e => by cases e; exact hok hk), B.srt, sealP_fine B.fine es, B.may⟩, h3⟩
/-- The cards of the examples. -/
def rockH : Hd := ⟨⟨#[114, 111, 99, 107]⟩, 2, 1, 1, 0, 3, 0, false⟩
def axeH : Hd := ⟨⟨#[97, 120, 101]⟩, 1, 3, 2, 0, 0, 0, false⟩
def axeP : Pt := ⟨3, 7, 1, 1, 0, 0, 0, ⟨#[114, 111, 99, 107]⟩⟩
set_option maxRecDepth 100000 in
theorem rock_any (w : World) : Calls Try.prog 43 #[] w fun e w' => e = .returned (cv rockH (.slice none 0 0)) ∧ w.grownBy w' none := by
  go_enter Try.func43, Try.ntmps43
  go_wp2
  refine bodyPost_ret (v := cv rockH (.slice none 0 0)) (by simp [results, Try.results43, go_sem, cv, rockH]) rfl ⟨rfl, ?_⟩
  exact World.grownBy_alloc _ _ none
set_option maxRecDepth 100000 in
theorem axe_any (w : World) : Calls Try.prog 42 #[] w fun e w' => ∃ g, e = .returned (cv axeH (.slice (some ⟨g, 0, none⟩) 1 1)) ∧ PsAt w' (.slice (some ⟨g, 0, none⟩) 1 1) [axeP] ∧ w.heap.size ≤ g ∧ w.grownBy w' none := by
  go_enter Try.func42, Try.ntmps42
  go_wp2
  have A : (World.alloc (World.alloc w (Obj.cells #[.string ⟨#[97, 120, 101]⟩, .int .u8 1, .int .u8 3, .int .i64 2, .int .i64 0, .int .i64 0, .int .u16 0, .bool false, .slice (some ⟨w.heap.size + 1, 0, none⟩) 1 1] 44)) (Obj.cells #[.int .u8 3, .int .u8 7, .int .u8 1, .int .i64 1, .int .u8 0, .int .u8 0, .int .u8 0, .string ⟨#[114, 111, 99, 107]⟩] 59)).heap[w.heap.size + 1]? = some (.cells #[.int .u8 3, .int .u8 7, .int .u8 1, .int .i64 1, .int .u8 0, .int .u8 0, .int .u8 0, .string ⟨#[114, 111, 99, 107]⟩] 59 (0, 0)) := by
    have := alloc_at (World.alloc w (Obj.cells #[.string ⟨#[97, 120, 101]⟩, .int .u8 1, .int .u8 3, .int .i64 2, .int .i64 0, .int .i64 0, .int .u16 0, .bool false, .slice (some ⟨w.heap.size + 1, 0, none⟩) 1 1] 44)) #[.int .u8 3, .int .u8 7, .int .u8 1, .int .i64 1, .int .u8 0, .int .u8 0, .int .u8 0, .string ⟨#[114, 111, 99, 107]⟩] 59
    rw [World.size_alloc] at this
    exact this
  refine bodyPost_ret (v := cv axeH (.slice (some ⟨w.heap.size + 1, 0, none⟩) 1 1)) (by simp [results, Try.results42, go_sem, cv, axeH]) rfl ⟨w.heap.size + 1, rfl, ?_, by omega, grown_push (World.grownBy_alloc _ _ none) _⟩
  refine Or.inr ⟨⟨w.heap.size + 1, 0, none⟩, 1, rfl, Nat.le_refl _, fun j u hu => ?_⟩
  rw [add_plain, block_cell A, Nat.zero_add]
  simpa [pcells, pvs, axeP] using hu
/-- What holds of the examples' books. -/
theorem exA (u : Value) : ins [] ⟨axeH, u, [axeP]⟩ = [⟨axeH, u, [axeP]⟩] := rfl
theorem exAR (u v : Value) : ins [⟨axeH, u, [axeP]⟩] ⟨rockH, v, []⟩ = [⟨axeH, u, [axeP]⟩, ⟨rockH, v, []⟩] := by
  rw [ins_cons, if_pos (by show ord axeH rockH < 0; decide +kernel)]
  rfl
theorem ex1 : caE plNew [] (axeH.with [axeP]) = 0 := by decide +kernel
theorem ex2 (u : Value) : caE plNew [⟨axeH, u, [axeP]⟩] (rockH.with []) = 0 := by
  show (if plNew.shut = true then (7 : Int) else if ¬ cchk (rockH.with []) = 0 then cchk (rockH.with []) else if 0 ≤ pos [axeH.nm] rockH.nm then 5 else if (1 : Nat) = 64 then 14 else 0) = 0
  decide +kernel
theorem ex3 (u v : Value) : caE plNew [⟨axeH, u, [axeP]⟩, ⟨rockH, v, []⟩] (rockH.with []) = 5 := by
  show (if plNew.shut = true then (7 : Int) else if ¬ cchk (rockH.with []) = 0 then cchk (rockH.with []) else if 0 ≤ pos [axeH.nm, rockH.nm] rockH.nm then 5 else if (2 : Nat) = 64 then 14 else 0) = 5
  decide +kernel
theorem ex4 (u v : Value) : pos (names [⟨axeH, u, [axeP]⟩, ⟨rockH, v, []⟩]) ⟨#[97, 120, 101]⟩ = 0 := by
  show pos [axeH.nm, rockH.nm] ⟨#[97, 120, 101]⟩ = 0
  decide +kernel
theorem ex4r (u v : Value) : pos (names [⟨axeH, u, [axeP]⟩, ⟨rockH, v, []⟩]) ⟨#[114, 111, 99, 107]⟩ = 1 := by
  show pos [axeH.nm, rockH.nm] ⟨#[114, 111, 99, 107]⟩ = 1
  decide +kernel
theorem ex5 (u v : Value) : sealE plNew [⟨axeH, u, [axeP]⟩, ⟨rockH, v, []⟩] = 0 := by
  have c : callE [⟨axeH, u, [axeP]⟩, ⟨rockH, v, []⟩] axeP = 0 := by
    unfold callE
    rw [if_neg (by decide)]
    show (if pos (names [⟨axeH, u, [axeP]⟩, ⟨rockH, v, []⟩]) ⟨#[114, 111, 99, 107]⟩ < 0 then (6 : Int) else if kdAt [⟨axeH, u, [axeP]⟩, ⟨rockH, v, []⟩] (pos (names [⟨axeH, u, [axeP]⟩, ⟨rockH, v, []⟩]) ⟨#[114, 111, 99, 107]⟩).toNat = 2 then 8 else 0) = 0
    rw [ex4r]
    rfl
  unfold sealE
  rw [if_neg (by decide)]
  simp [sealL, callsE, c]
def plShut : Pl := { plNew with shut := true }
theorem ex6 (u v : Value) : sealP plNew [⟨axeH, u, [axeP]⟩, ⟨rockH, v, []⟩] = plShut := if_pos (ex5 u v)
theorem ex7 (es : List Ent) (c : Cd) : caE plShut es c = 7 := if_pos rfl
set_option maxRecDepth 100000 in
set_option maxHeartbeats 2000000 in
theorem awake_any (w : World) : Calls Try.prog 7 #[] w fun e w' => e = .returned (.bool true) ∧ w.grownBy w' none := by
  obtain ⟨ok, hok⟩ : ∃ ok : Nat → Prop, ok = fun k => ¬ k = w.heap.size := ⟨_, rfl⟩
  have nb : ¬ ok w.heap.size := by rw [hok]; simp
  have nw : ∀ W : World, w.heap.size < W.heap.size → ∀ k, W.heap.size ≤ k → ok k := fun W h k hk => by rw [hok]; simp; omega
  have sm : Small 1 := by unfold Small; decide
  have sm0 : Small 0 := by unfold Small; decide
  clear hok
  go_enter Try.func7, Try.ntmps7
  go_wp2_with fail
  refine (bnew ok w).mono ?_
  rintro e w1 ⟨rfl, B1, g1, s1⟩
  have HB1 : Hid (Book ok w1 w.heap.size [] plNew) := B1
  have HG1 : Hid (w.grownBy w1 none) := g1
  clear B1 g1
  go_wp2_with fail
  refine (axe_any _).mono ?_
  rintro e w2 ⟨g, rfl, P2, _, g2⟩
  have B2 := HB1.out.keep g2
  go_wp2_with fail
  refine (bcard ok _ [] plNew axeH _ [axeP] _ B2 nb (nw _ (by have := g2.size; omega)) P2 sm).mono ?_
  rintro e w3 ⟨u, rfl, B3, g3⟩
  rw [ex1] at B3 ⊢
  rw [if_pos rfl, exA] at B3
  have HB3 : Hid (Book ok w3 w.heap.size [⟨axeH, u, [axeP]⟩] plNew) := B3
  have HG3 : Hid (w.grownBy w3 none) := grown_own (grown_trans HG1.out g2) g3 (fun x e => by cases e; exact Nat.le_refl _)
  have hs3 : w.heap.size < w3.heap.size := HB3.out.lt
  clear B3 g3 B2 g2 P2
  go_wp2_with fail
  refine (rock_any _).mono ?_
  rintro e w4 ⟨rfl, g4⟩
  have B4 := HB3.out.keep g4
  go_wp2_with fail
  refine (bcard ok _ _ plNew rockH _ [] _ B4 nb (nw _ B4.lt) (Or.inl ⟨rfl, rfl⟩) sm0).mono ?_
  rintro e w5 ⟨v, rfl, B5, g5⟩
  rw [ex2] at B5 ⊢
  rw [if_pos rfl, exAR] at B5
  have HB5 : Hid (Book ok w5 w.heap.size [⟨axeH, u, [axeP]⟩, ⟨rockH, v, []⟩] plNew) := B5
  have HG5 : Hid (w.grownBy w5 none) := grown_own (grown_trans HG3.out g4) g5 (fun x e => by cases e; exact Nat.le_refl _)
  clear B5 g5 B4 g4 HB3 HG3
  go_wp2_with fail
  refine (rock_any _).mono ?_
  rintro e w6 ⟨rfl, g6⟩
  have B6 := HB5.out.keep g6
  go_wp2_with fail
  refine (bcard ok _ _ plNew rockH _ [] _ B6 nb (nw _ B6.lt) (Or.inl ⟨rfl, rfl⟩) sm0).mono ?_
  rintro e w7 ⟨v', rfl, B7, g7⟩
  rw [ex3] at B7 ⊢
  rw [if_neg (by decide)] at B7
  have HB7 : Hid (Book ok w7 w.heap.size [⟨axeH, u, [axeP]⟩, ⟨rockH, v, []⟩] plNew) := B7
  have HG7 : Hid (w.grownBy w7 none) := grown_own (grown_trans HG5.out g6) g7 (fun x e => by cases e; exact Nat.le_refl _)
  clear B7 g7 B6 g6 HB5 HG5
  go_wp2_with fail
  refine (find_yes _ _ plNew ⟨#[97, 120, 101]⟩ _ HB7.out.lies HB7.out.good.slc).mono ?_
  rw [ex4]
  rintro e w8 ⟨rfl, g8⟩
  rw [show fndN plNew.shut 0 = 0 from rfl, show fndE plNew.shut 0 = 6 from rfl]
  have B8 := HB7.out.keep g8
  go_wp2_with fail
  refine (has_yes _ _ plNew ⟨#[97, 120, 101]⟩ _ B8.lies B8.good.slc).mono ?_
  rw [ex4]
  rintro e w9 ⟨rfl, g9⟩
  rw [show decide ((0 : Int) ≤ 0) = true from rfl]
  have B9 := B8.keep g9
  go_wp2_with fail
  refine (len_yes _ 2 (by decide) plNew _ B9.lies.flags).mono ?_
  rintro e w10 ⟨rfl, g10, _⟩
  have B10 := B9.keep g10
  have HG10 : Hid (w.grownBy w10 none) := grown_trans HG7.out (grown_trans g8 (grown_trans g9 g10))
  clear B8 B9 g8 g9 g10 HB7 HG7
  go_wp2_with fail
  refine (bseal ok _ _ plNew _ B10 nb).mono ?_
  rw [ex5, ex6]
  rintro e w11 ⟨rfl, B11, g11⟩
  have HB11 : Hid (Book ok w11 w.heap.size [⟨axeH, u, [axeP]⟩, ⟨rockH, v, []⟩] plShut) := B11
  have HG11 : Hid (w.grownBy w11 none) := grown_own HG10.out g11 (fun x e => by cases e; exact Nat.le_refl _)
  clear B10 B11 g11 HG10
  go_wp2_with fail
  refine (find_yes _ _ plShut ⟨#[97, 120, 101]⟩ _ HB11.out.lies HB11.out.good.slc).mono ?_
  rw [ex4]
  rintro e w12 ⟨rfl, g12⟩
  rw [show fndN plShut.shut 0 = 1 from rfl, show fndE plShut.shut 0 = 0 from rfl]
  have B12 := HB11.out.keep g12
  go_wp2_with fail
  refine (at_in ok _ _ plShut 1 ⟨rockH, v, []⟩ _ B12.lies B12.good rfl rfl (Nat.zero_le _)).mono ?_
  rintro e w13 ⟨u13, rfl, o13, g13⟩
  have B13 := B12.keep g13
  obtain ⟨a13, c13, rfl⟩ := o13.at.form
  have HG13 : Hid (w.grownBy w13 none) := grown_trans HG11.out (grown_trans g12 g13)
  clear B12 o13 g12 g13 HB11 HG11
  unfold cv rockH
  go_wp2_with fail
  refine (rock_any _).mono ?_
  rintro e w14 ⟨rfl, g14⟩
  have HG14 : Hid (w.grownBy w14 none) := grown_trans (grown_push HG13.out _) g14
  have B14 := (B13.keep (World.grownBy_alloc _ _ none)).keep g14
  go_wp2_with fail
  refine (bcard ok _ _ plShut rockH _ [] _ B14 nb (nw _ B14.lt) (Or.inl ⟨rfl, rfl⟩) sm0).mono ?_
  rw [ex7]
  rintro e w15 ⟨_, rfl, _, g15⟩
  go_wp2
  go_ret
  exact ⟨rfl, grown_own HG14.out g15 (fun x e => by cases e; exact Nat.le_refl _)⟩
end Go.Proofs.Ytmepidalecdmkaa
