/-
  At: the card of a number.
-/
import Derived.Test.YtcldncojpgipcaaDoorB11
namespace Go.Proofs.YtcldncojpgipcaaDoor
open Go.RowKit

def atIn (p : Pl) (es : List Ent) (n : Int) : Prop := p.shut = true ∧ 1 ≤ n ∧ n ≤ es.length
set_option maxRecDepth 100000 in
set_option maxHeartbeats 1000000 in
theorem at_no (v : Value) (n : Int) (w : World) (h : NoBk w v) : Calls Tryd.prog 13 #[v, .int .i64 n] w fun e w' => e = .returned (.tuple #[cv Hd.none (.slice none 0 0), .int .i64 1]) ∧ w.grownBy w' none := by
  obtain ⟨W1, hW1⟩ : ∃ W1, W1 = w.alloc (.cells (ccs Hd.none (.slice none 0 0)) 32) := ⟨_, rfl⟩
  have HG1 : Hid (w.grownBy W1 none) := by rw [hW1]; exact World.grownBy_alloc _ _ none
  have HC1 : Hid (CAt W1 w.heap.size Hd.none (.slice none 0 0)) := by rw [hW1]; exact alloc_at w _ _
  have H : Hid (NoBk W1 v) := h.keep HG1.out
  obtain ⟨z0, z1, z2, z3, z4, z5, z6, z7, z8⟩ := HC1.out.cells
  have zf := fun i => HC1.out.free i
  unfold ccs Hd.none at hW1
  simp only [Hd.none] at z0 z1 z2 z3 z4 z5 z6 z7 z8
  clear h
  go_enter Tryd.func13, Tryd.ntmps13
  go_upto_region 1 with fail
  rw [← hW1]
  clear hW1
  go_wp2_with (first | (go_at_call 32; refine (isBook_no _ _ H.out).mono ?_; rintro e w1 ⟨rfl, h1⟩; obtain rfl : W1 = w1 := h1.symm) | fail)
  refine bodyPost_ret (v := .tuple #[cv Hd.none (.slice none 0 0), .int .i64 1]) (by simp [results, Tryd.results13, go_sem, z0, z1, z2, z3, z4, z5, z6, z7, z8, cv, Hd.none]) rfl ⟨rfl, ?_⟩
  have := grown_own HG1.out (grown_s9 W1 w.heap.size 0 Hd.none (.slice none 0 0)) (fun x e => by cases e; exact Nat.le_refl _)
  unfold set9 Hd.none at this
  simp only [Nat.zero_add] at this
  exact this
set_option maxRecDepth 100000 in
set_option maxHeartbeats 1000000 in
theorem at_out (b : Nat) (es : List Ent) (p : Pl) (n : Int) (w : World) (hB : BkIn w b es p) (hn : ¬ atIn p es n) : Calls Tryd.prog 13 #[.pointer (some ⟨b, 0, none⟩), .int .i64 n] w fun e w' => e = .returned (.tuple #[cv Hd.none (.slice none 0 0), .int .i64 6]) ∧ w.grownBy w' none := by
  obtain ⟨W1, hW1⟩ : ∃ W1, W1 = w.alloc (.cells (ccs Hd.none (.slice none 0 0)) 32) := ⟨_, rfl⟩
  have HG1 : Hid (w.grownBy W1 none) := by rw [hW1]; exact World.grownBy_alloc _ _ none
  have HC1 : Hid (CAt W1 w.heap.size Hd.none (.slice none 0 0)) := by rw [hW1]; exact alloc_at w _ _
  have HB1 : Hid (BkIn W1 b es p) := hB.keep HG1.out
  have HF := isBook_yes b es.length p W1 HB1.out.flags
  have s1 := HB1.out.flags.shut
  have s2 := HB1.out.flags.count
  obtain ⟨z0, z1, z2, z3, z4, z5, z6, z7, z8⟩ := HC1.out.cells
  have zf := fun i => HC1.out.free i
  unfold ccs Hd.none at hW1
  simp only [Hd.none] at z0 z1 z2 z3 z4 z5 z6 z7 z8
  have LAST : Hid (w.grownBy (set9 W1 w.heap.size 0 Hd.none (.slice none 0 0)) none) := grown_own HG1.out (grown_s9 W1 w.heap.size 0 Hd.none (.slice none 0 0)) (fun x e => by cases e; exact Nat.le_refl _)
  unfold set9 Hd.none at LAST
  simp only [Nat.zero_add] at LAST
  unfold atIn at hn
  clear hB
  cases hs : p.shut with
  | false =>
    rw [hs] at s1
    clear hn
    go_enter Tryd.func13, Tryd.ntmps13
    go_upto_region 1 with fail
    rw [← hW1]
    clear hW1
    go_wp2_with (first | (go_at_call 32; refine HF.mono ?_; rintro e w1 ⟨rfl, h1⟩; obtain rfl : W1 = w1 := h1.symm) | fail)
    refine bodyPost_ret (v := .tuple #[cv Hd.none (.slice none 0 0), .int .i64 6]) (by simp [results, Tryd.results13, go_sem, z0, z1, z2, z3, z4, z5, z6, z7, z8, cv, Hd.none]) rfl ⟨rfl, LAST.out⟩
  | true =>
    rw [hs] at s1
    by_cases h1 : n < 1
    · clear hn
      go_enter Tryd.func13, Tryd.ntmps13
      go_upto_region 1 with fail
      rw [← hW1]
      clear hW1
      go_wp2_with (first | (go_at_call 32; refine HF.mono ?_; rintro e w1 ⟨rfl, h1⟩; obtain rfl : W1 = w1 := h1.symm) | fail)
      refine bodyPost_ret (v := .tuple #[cv Hd.none (.slice none 0 0), .int .i64 6]) (by simp [results, Tryd.results13, go_sem, z0, z1, z2, z3, z4, z5, z6, z7, z8, cv, Hd.none]) rfl ⟨rfl, LAST.out⟩
    · have h2 : (es.length : Int) < n := by
        have : ¬ (1 ≤ n ∧ n ≤ es.length) := fun h => hn ⟨hs, h⟩
        omega
      have h1' : 1 ≤ n := by omega
      clear hn h1
      go_enter Tryd.func13, Tryd.ntmps13
      go_upto_region 1 with fail
      rw [← hW1]
      clear hW1
      go_wp2_with (first | (go_at_call 32; refine HF.mono ?_; rintro e w1 ⟨rfl, h1⟩; obtain rfl : W1 = w1 := h1.symm) | fail)
      refine bodyPost_ret (v := .tuple #[cv Hd.none (.slice none 0 0), .int .i64 6]) (by simp [results, Tryd.results13, go_sem, z0, z1, z2, z3, z4, z5, z6, z7, z8, cv, Hd.none]) rfl ⟨rfl, LAST.out⟩
set_option maxRecDepth 100000 in
set_option maxHeartbeats 2000000 in
theorem at_in (ok : Nat → Prop) (b : Nat) (es : List Ent) (p : Pl) (m : Nat) (e0 : Ent) (w : World) (hB : BkIn w b es p) (hG : Good ok w es) (hs : p.shut = true) (he : es[m]? = some e0) (hl : e0.ps.length ≤ 4) : Calls Tryd.prog 13 #[.pointer (some ⟨b, 0, none⟩), .int .i64 ((m : Int) + 1)] w fun e w' => ∃ u, e = .returned (.tuple #[cv e0.h u, .int .i64 0]) ∧ POwn w' w.heap.size u e0.ps ∧ w.grownBy w' none := by
  obtain ⟨W1, hW1⟩ : ∃ W1, W1 = w.alloc (.cells (ccs Hd.none (.slice none 0 0)) 32) := ⟨_, rfl⟩
  have HG1 : Hid (w.grownBy W1 none) := by rw [hW1]; exact World.grownBy_alloc _ _ none
  have HC1 : Hid (CAt W1 w.heap.size Hd.none (.slice none 0 0)) := by rw [hW1]; exact alloc_at w _ _
  have hS1 : W1.heap.size = w.heap.size + 1 := by rw [hW1]; simp
  have HB1 : Hid (BkIn W1 b es p) := hB.keep HG1.out
  have HF := isBook_yes b es.length p W1 HB1.out.flags
  have s1 := HB1.out.flags.shut
  have s2 := HB1.out.flags.count
  rw [hs] at s1
  have hm : m < es.length := (List.getElem?_eq_some_iff.1 he).1
  have h64 := HB1.out.len
  have PS := (hG e0 (List.mem_of_getElem? he)).1.keep HG1.out
  have D := HB1.out.row m e0 he
  rw [Nat.zero_add] at D
  obtain ⟨hd, v, ps⟩ := e0
  simp only at PS hl D ⊢
  obtain ⟨a, c, rfl⟩ := PS.form
  obtain ⟨d0, d1, d2, d3, d4, d5, d6, d7, d8⟩ := D
  have HCP := ccopy_any hd (.slice a ps.length c) ps W1 PS (by omega)
  unfold cv at HCP ⊢
  unfold ccs Hd.none at hW1
  have q1 : 1 ≤ (m : Int) + 1 := by omega
  have q2 : (m : Int) + 1 ≤ (es.length : Int) := by omega
  have q3 : wrap64 ((m : Int) + 1 - 1) = (m : Int) := by unfold wrap64; omega
  have q4 : (0 : Int) ≤ (m : Int) := by omega
  have q5 : (m : Int) < 64 := by omega
  clear hB hG he hm h64 PS hl
  go_enter Tryd.func13, Tryd.ntmps13
  go_upto_region 1 with fail
  rw [← hW1]
  clear hW1
  go_wp2_with (first | (go_at_call 32; refine HF.mono ?_; rintro e w1 ⟨rfl, h1⟩; obtain rfl : W1 = w1 := h1.symm) | (go_at_call 33; refine HCP.mono ?_; rintro e w2 ⟨u, rfl, o2, g2⟩; obtain ⟨a2, k2, rfl⟩ := o2.at.form; have HO2 : Hid (POwn w2 W1.heap.size (.slice a2 ps.length k2) ps) := o2; have HG2 : Hid (w.grownBy w2 none) := grown_trans HG1.out g2; have C2 := HC1.out.keep g2; obtain ⟨z0, z1, z2, z3, z4, z5, z6, z7, z8⟩ := C2.cells; have zf := fun i => C2.free i; simp only [Hd.none] at z0 z1 z2 z3 z4 z5 z6 z7 z8; clear o2 C2 d0 d1 d2 d3 d4 d5 d6 d7 d8) | fail)
  refine bodyPost_ret (v := .tuple #[cv hd (.slice a2 ps.length k2), .int .i64 0]) (by simp [results, Tryd.results13, go_sem, z0, z1, z2, z3, z4, z5, z6, z7, z8, cv]) rfl ⟨.slice a2 ps.length k2, rfl, ?_, ?_⟩
  · have := (HO2.out.keep (grown_s9 w2 w.heap.size 0 hd (.slice a2 ps.length k2)) (fun x e => by cases e; omega)).big (show w.heap.size ≤ W1.heap.size by omega)
    unfold set9 at this
    simp only [Nat.zero_add] at this
    exact this
  · have := grown_own HG2.out (grown_s9 w2 w.heap.size 0 hd (.slice a2 ps.length k2)) (fun x e => by cases e; exact Nat.le_refl _)
    unfold set9 at this
    simp only [Nat.zero_add] at this
    exact this
end Go.Proofs.YtcldncojpgipcaaDoor
