/-
  CardNames, walked: the chapter's limits, errors and examples.
-/
import Derived.Test.YtpceelbphpfciaaGreatDoorNPure
import Derived.Deep.Cut
import Derived.Laws.IdiomStrings
namespace Go.Proofs.YtpceelbphpfciaaGreatDoor
open Go.RowKit

theorem ps_block {W : World} {g : Nat} {l : List Pt} (h : W.heap[g]? = some (.cells (pcells l).toArray 29 (0, 0))) {m cap : Nat} (hm : m ≤ l.length) (hc : m ≤ cap) : PsAt W (.slice (some ⟨g, 0, none⟩) m cap) (l.take m) := by
  have hl : (l.take m).length = m := by rw [List.length_take]; omega
  refine Or.inr ⟨⟨g, 0, none⟩, cap, by rw [hl], by omega, fun j u hu => ?_⟩
  rw [add_plain, Nat.zero_add, block_cell h]
  have e : pcells l = pcells (l.take m) ++ pcells (l.drop m) := by rw [← pcells_app, List.take_append_drop]
  have hj := (List.getElem?_eq_some_iff.1 hu).1
  rw [List.getElem?_toArray, e, List.getElem?_append_left hj]
  exact hu
set_option maxHeartbeats 1000000 in
set_option maxRecDepth 100000 in
theorem refused_yes (h : Hd) (v : Value) (ps : List Pt) (k : Int) (hk : cchk (h.with ps) = k) (hk0 : ¬ k = 0) (w : World) (L : LaidAt w) (hp : PsAt w v ps) (hm : Small ps.length) : Calls Tryz.prog 26 #[cv h v, .int .i64 k] w fun e w' => e = .returned (.bool true) ∧ w.grownBy w' none := by
  have HP : Hid (PsAt w v ps) := hp
  have HL : Hid (LaidAt w) := L
  obtain ⟨a, c, rfl⟩ := hp.form
  have HA : Hid (CAt (w.alloc (.cells (ccs h (.slice a ps.length c)) 40)) w.heap.size h (.slice a ps.length c)) := alloc_at w _ _
  have eB : cprB (h.with ps) = ⟨#[]⟩ := by unfold cprB; rw [if_neg (by rw [hk]; exact hk0)]
  clear hp L
  unfold ccs at HA
  unfold cv
  go_enter Tryz.func26, Tryz.ntmps26
  go_wp2_with fail
  refine (cprint_any (h.with ps) (.slice a ps.length c) _ (HL.out.keep (World.grownBy_alloc _ _ none)) (HP.out.keep (World.grownBy_alloc _ _ none)) hm).mono ?_
  rintro e w1 ⟨rfl, g1⟩
  rw [eB, hk]
  obtain ⟨c0, c1, c2, c3, c4, c5, c6, c7, c8⟩ := (HA.out.keep g1).cells
  have HG1 : Hid (w.grownBy w1 none) := grown_trans (World.grownBy_alloc _ _ none) g1
  clear g1 HA
  go_wp2_with fail
  refine (ccheck_any h (.slice a ps.length c) ps _ (HP.out.keep HG1.out) hm).mono ?_
  rintro e w2 ⟨rfl, g2⟩
  rw [hk]
  clear c0 c1 c2 c3 c4 c5 c6 c7 c8
  go_wp2
  go_ret
  exact ⟨rfl, grown_trans HG1.out g2⟩
/-- What stands while the first cards are asked. -/
structure NS (a c d : Nat) (W : World) : Prop where
  hA : CAt W a nA (.slice none 0 0)
  hB : CAt W (a + 1) nB (.slice none 0 0)
  hC : CAt W (a + 1 + 1) nC (.slice none 0 0)
  hD : CAt W (a + 1 + 1 + 1) nD (.slice none 0 0)
  hE : CAt W c nE (.slice none 0 0)
  hF : CAt W (c + 1) nF (.slice none 0 0)
  hG : CAt W (c + 1 + 1) nR (.slice (some ⟨c + 1 + 1 + 1 + 1, 0, none⟩) 5 5)
  hp : PAt W (c + 1 + 1 + 1) pB
  h5 : W.heap[c + 1 + 1 + 1 + 1]? = some (.cells (pcells [pB, pB, pB, pB, pB]).toArray 29 (0, 0))
  hL : CAt W (c + 1 + 1 + 1 + 1 + 1) nL (.slice (some ⟨c + 1 + 1 + 1 + 1 + 1 + 1, 0, none⟩) 1 1)
  h1 : W.heap[c + 1 + 1 + 1 + 1 + 1 + 1]? = some (.cells (pcells [pB]).toArray 29 (0, 0))
  hT : CAt W (c + 1 + 1 + 1 + 1 + 1 + 1 + 1) nT (.slice (some ⟨c + 1 + 1 + 1 + 1 + 1 + 1, 0, none⟩) 1 1)
  h4 : CAt W d nR (.slice (some ⟨c + 1 + 1 + 1 + 1, 0, none⟩) 4 5)
theorem NS.keep {a c d : Nat} {W W' : World} (t : NS a c d W) (k : W.grownBy W' none) : NS a c d W' :=
  ⟨t.hA.keep k, t.hB.keep k, t.hC.keep k, t.hD.keep k, t.hE.keep k, t.hF.keep k, t.hG.keep k, t.hp.keep k, grown_keep k t.h5 (by simp), t.hL.keep k, grown_keep k t.h1 (by simp), t.hT.keep k, t.h4.keep k⟩
def zs (n : Nat) : ByteArray := ⟨(List.replicate n 0).toArray⟩
theorem zs_list (n : Nat) : (zs n).data.toList = List.replicate n 0 := rfl
theorem conv_zs {n base b : Nat} {w : World} (h : w.ownsRow base 5 1 (.slice (some ⟨b, 0, none⟩) n n) n (madeCells (Value.int .u8 0).cells (n * 1)).toList) : (convert 58 9 (.slice (some ⟨b, 0, none⟩) n n)).run Tryz.prog w = .ok (.string (zs n)) w := by
  have hl : (List.replicate n (0 : UInt8)).length = n := List.length_replicate
  have k := run_convert_bytes_back (P := Tryz.prog) w 58 9 5 ⟨b, 0, none⟩ n (List.replicate n 0) Tryz.underlying58 Tryz.underlying5 Tryz.underlying9 (fun j hj => by
    rw [hl] at hj
    rw [add_plain, Nat.zero_add]
    obtain ⟨_, ⟨e, _⟩ | ⟨g, cap, cur, e, _, hh, _, _, _, ht⟩⟩ := h
    · cases e
    · injection e with e1 _ _
      injection e1 with e1
      injection e1 with e1
      subst e1
      have em : (madeCells (Value.int .u8 0).cells (n * 1)).toList = List.replicate (n * 1) (.int .u8 0) := toList_madeCells_one _ _
      rw [em, Nat.mul_one] at ht
      have : (cur.toList.take n)[j]? = some (.int .u8 0) := by rw [ht]; simp [hj]
      rw [List.getElem?_take, if_pos hj] at this
      rw [block_cell hh]
      simpa using this)
  rw [hl] at k
  exact k
theorem Tryz.info5 : (Tryz.prog.info? 5).map (fun i => (i.zero, i.size, i.bytes)) = some (some (.int .u8 0), 1, 1) := by kernel_rfl
theorem no_parse (s : ByteArray) (k : Int) (h : cparse s.data.toList = (Cd.none, k)) (w : World) (L : LaidAt w) : Calls Tryz.prog 23 #[.string s] w fun e w' => (∃ a n, e = .returned (.tuple #[.agg #[.string ⟨#[]⟩, .int .u8 0, .int .u8 0, .int .i64 0, .int .i64 0, .int .i64 0, .int .u16 0, .bool false, .slice a 0 n], .int .i64 k]) ∧ PsAt w' (.slice a 0 n) []) ∧ w.grownBy w' none := by
  refine (cparse_any s w L).mono ?_
  rintro e w' ⟨⟨u, he, O⟩, g⟩
  rw [h] at he O
  obtain ⟨a, n, rfl⟩ := O.at.form
  exact ⟨⟨a, n, he, O.at⟩, g⟩
theorem golem_parse (w : World) (L : LaidAt w) : Calls Tryz.prog 23 #[.string ⟨#[103, 111, 108, 101, 109, 32, 101, 97, 114, 116, 104, 32, 117, 110, 105, 116, 32, 53, 32, 52, 47, 53, 32, 43, 103, 117, 97, 114, 100, 32, 124, 32, 115, 116, 114, 117, 99, 107, 32, 109, 101, 110, 100, 32, 121, 111, 117, 32, 49]⟩] w fun e w' => (∃ g n, e = .returned (.tuple #[.agg #[.string ⟨#[103, 111, 108, 101, 109]⟩, .int .u8 2, .int .u8 1, .int .i64 5, .int .i64 4, .int .i64 5, .int .u16 2, .bool false, .slice (some ⟨g, 0, none⟩) 1 n], .int .i64 0]) ∧ P8 w' g 0 pG) ∧ w.grownBy w' none := by
  refine (cparse_any ⟨#[103, 111, 108, 101, 109, 32, 101, 97, 114, 116, 104, 32, 117, 110, 105, 116, 32, 53, 32, 52, 47, 53, 32, 43, 103, 117, 97, 114, 100, 32, 124, 32, 115, 116, 114, 117, 99, 107, 32, 109, 101, 110, 100, 32, 121, 111, 117, 32, 49]⟩ w L).mono ?_
  rintro e w' ⟨⟨u, he, O⟩, gr⟩
  rw [show cparse (⟨#[103, 111, 108, 101, 109, 32, 101, 97, 114, 116, 104, 32, 117, 110, 105, 116, 32, 53, 32, 52, 47, 53, 32, 43, 103, 117, 97, 114, 100, 32, 124, 32, 115, 116, 114, 117, 99, 107, 32, 109, 101, 110, 100, 32, 121, 111, 117, 32, 49]⟩ : ByteArray).data.toList = (golem, 0) from golem_back] at he O
  obtain ⟨h1, ⟨rfl, h2⟩ | ⟨g, cap, cur, rfl, hb, hh, hr⟩⟩ := O
  · cases h2
  · have O' : POwn w' w.heap.size (.slice (some ⟨g, 0, none⟩) 1 cap) [pG] := ⟨h1, Or.inr ⟨g, cap, cur, rfl, hb, hh, hr⟩⟩
    obtain ⟨g2, o2, c2, ev, PA⟩ := O'.at.part (by simp)
    injection ev with e1 _ _
    injection e1 with e1
    injection e1 with e1 e2
    subst e1
    subst e2
    exact ⟨⟨g, cap, he, PA 0 pG rfl⟩, gr⟩
set_option maxHeartbeats 2000000 in
set_option maxRecDepth 100000 in
theorem names_any (w : World) (L : LaidAt w) : Calls Tryz.prog 6 #[] w fun e w' => e = .returned (.bool true) ∧ w.grownBy w' none := by
  have HL : Hid (LaidAt w) := L
  clear L
  go_enter Tryz.func6, Tryz.ntmps6
  go_wp2_with fail
  refine (rock_any _).mono ?_
  rintro e w1 ⟨rfl, g1⟩
  go_wp2_with fail
  refine (rock_any _).mono ?_
  rintro e w2 ⟨rfl, g2⟩
  go_wp2_with fail
  refine (rock_any _).mono ?_
  rintro e w3 ⟨rfl, g3⟩
  go_wp2_with fail
  refine (rock_any _).mono ?_
  rintro e w4 ⟨rfl, g4⟩
  go_upto_region 7 with fail
  obtain ⟨Wa, hWa⟩ : ∃ X, X = ((((w4.alloc (.cells (ccs nA (.slice none 0 0)) 40)).alloc (.cells (ccs nB (.slice none 0 0)) 40)).alloc (.cells (ccs nC (.slice none 0 0)) 40)).alloc (.cells (ccs nD (.slice none 0 0)) 40)) := ⟨_, rfl⟩
  obtain ⟨a, ha⟩ : ∃ X, X = w4.heap.size := ⟨_, rfl⟩
  have s1 : (w4.alloc (.cells (ccs nA (.slice none 0 0)) 40)).heap.size = a + 1 := by rw [World.size_alloc, ha]
  have s2 : ((w4.alloc (.cells (ccs nA (.slice none 0 0)) 40)).alloc (.cells (ccs nB (.slice none 0 0)) 40)).heap.size = a + 1 + 1 := by rw [World.size_alloc, s1]
  have s3 : (((w4.alloc (.cells (ccs nA (.slice none 0 0)) 40)).alloc (.cells (ccs nB (.slice none 0 0)) 40)).alloc (.cells (ccs nC (.slice none 0 0)) 40)).heap.size = a + 1 + 1 + 1 := by rw [World.size_alloc, s2]
  have kA : Hid (CAt Wa a nA (.slice none 0 0)) := by unfold Hid; rw [hWa, ha]; exact CAt.keep (CAt.keep (CAt.keep (alloc_at w4 _ _) (World.grownBy_alloc _ _ none)) (World.grownBy_alloc _ _ none)) (World.grownBy_alloc _ _ none)
  have kB : Hid (CAt Wa (a + 1) nB (.slice none 0 0)) := by unfold Hid; rw [hWa, ← s1]; exact CAt.keep (CAt.keep (alloc_at _ _ _) (World.grownBy_alloc _ _ none)) (World.grownBy_alloc _ _ none)
  have kC : Hid (CAt Wa (a + 1 + 1) nC (.slice none 0 0)) := by unfold Hid; rw [hWa, ← s2]; exact CAt.keep (alloc_at _ _ _) (World.grownBy_alloc _ _ none)
  have kD : Hid (CAt Wa (a + 1 + 1 + 1) nD (.slice none 0 0)) := by unfold Hid; rw [hWa, ← s3]; exact alloc_at _ _ _
  have GA : Hid (w.grownBy Wa none) := by unfold Hid; rw [hWa]; exact grown_push (grown_push (grown_push (grown_push (grown_trans (grown_trans (grown_trans g1 g2) g3) g4) _) _) _) _
  simp only [ccs, nA, nB, nC, nD] at hWa
  clear g1 g2 g3 g4 s1 s2 s3
  rw [← hWa, ← ha]
  clear hWa ha
  go_wp2_with fail
  refine (rock_any _).mono ?_
  rintro e w5 ⟨rfl, g5⟩
  go_wp2_with fail
  refine (rock_any _).mono ?_
  rintro e w6 ⟨rfl, g6⟩
  go_wp2_with fail
  refine (rock_any _).mono ?_
  rintro e w7 ⟨rfl, g7⟩
  have g57 := grown_trans (grown_trans g5 g6) g7
  have kA7 : Hid (CAt w7 a nA (.slice none 0 0)) := kA.out.keep g57
  have kB7 : Hid (CAt w7 (a + 1) nB (.slice none 0 0)) := kB.out.keep g57
  have kC7 : Hid (CAt w7 (a + 1 + 1) nC (.slice none 0 0)) := kC.out.keep g57
  have kD7 : Hid (CAt w7 (a + 1 + 1 + 1) nD (.slice none 0 0)) := kD.out.keep g57
  have G7 : Hid (w.grownBy w7 none) := grown_trans GA.out g57
  clear g5 g6 g7 g57 kA kB kC kD GA
  go_upto_region 17 with fail
  obtain ⟨c, hc⟩ : ∃ X, X = w7.heap.size := ⟨_, rfl⟩
  obtain ⟨Wb, hWb⟩ : ∃ X, X = ((((((((w7.alloc (.cells (ccs nE (.slice none 0 0)) 40)).alloc (.cells (ccs nF (.slice none 0 0)) 40)).alloc (.cells (ccs nR (.slice (some ⟨c + 1 + 1 + 1 + 1, 0, none⟩) 5 5)) 40)).alloc (.cells #[.int .u8 3, .int .u8 3, .int .u8 1, .int .i64 1, .int .u8 0, .int .u8 0, .int .u8 0, .string ⟨#[]⟩] 29)).alloc (.cells (pcells [pB, pB, pB, pB, pB]).toArray 29)).alloc (.cells (ccs nL (.slice (some ⟨c + 1 + 1 + 1 + 1 + 1 + 1, 0, none⟩) 1 1)) 40)).alloc (.cells (pcells [pB]).toArray 29)).alloc (.cells (ccs nT (.slice (some ⟨c + 1 + 1 + 1 + 1 + 1 + 1, 0, none⟩) 1 1)) 40)) := ⟨_, rfl⟩
  have t1 : (w7.alloc (.cells (ccs nE (.slice none 0 0)) 40)).heap.size = c + 1 := by rw [World.size_alloc, ← hc]
  have t2 : ((w7.alloc (.cells (ccs nE (.slice none 0 0)) 40)).alloc (.cells (ccs nF (.slice none 0 0)) 40)).heap.size = c + 1 + 1 := by rw [World.size_alloc, t1]
  have t3 : (((w7.alloc (.cells (ccs nE (.slice none 0 0)) 40)).alloc (.cells (ccs nF (.slice none 0 0)) 40)).alloc (.cells (ccs nR (.slice (some ⟨c + 1 + 1 + 1 + 1, 0, none⟩) 5 5)) 40)).heap.size = c + 1 + 1 + 1 := by rw [World.size_alloc, t2]
  have t4 : ((((w7.alloc (.cells (ccs nE (.slice none 0 0)) 40)).alloc (.cells (ccs nF (.slice none 0 0)) 40)).alloc (.cells (ccs nR (.slice (some ⟨c + 1 + 1 + 1 + 1, 0, none⟩) 5 5)) 40)).alloc (.cells #[.int .u8 3, .int .u8 3, .int .u8 1, .int .i64 1, .int .u8 0, .int .u8 0, .int .u8 0, .string ⟨#[]⟩] 29)).heap.size = c + 1 + 1 + 1 + 1 := by rw [World.size_alloc, t3]
  have t5 : (((((w7.alloc (.cells (ccs nE (.slice none 0 0)) 40)).alloc (.cells (ccs nF (.slice none 0 0)) 40)).alloc (.cells (ccs nR (.slice (some ⟨c + 1 + 1 + 1 + 1, 0, none⟩) 5 5)) 40)).alloc (.cells #[.int .u8 3, .int .u8 3, .int .u8 1, .int .i64 1, .int .u8 0, .int .u8 0, .int .u8 0, .string ⟨#[]⟩] 29)).alloc (.cells (pcells [pB, pB, pB, pB, pB]).toArray 29)).heap.size = c + 1 + 1 + 1 + 1 + 1 := by rw [World.size_alloc, t4]
  have t6 : ((((((w7.alloc (.cells (ccs nE (.slice none 0 0)) 40)).alloc (.cells (ccs nF (.slice none 0 0)) 40)).alloc (.cells (ccs nR (.slice (some ⟨c + 1 + 1 + 1 + 1, 0, none⟩) 5 5)) 40)).alloc (.cells #[.int .u8 3, .int .u8 3, .int .u8 1, .int .i64 1, .int .u8 0, .int .u8 0, .int .u8 0, .string ⟨#[]⟩] 29)).alloc (.cells (pcells [pB, pB, pB, pB, pB]).toArray 29)).alloc (.cells (ccs nL (.slice (some ⟨c + 1 + 1 + 1 + 1 + 1 + 1, 0, none⟩) 1 1)) 40)).heap.size = c + 1 + 1 + 1 + 1 + 1 + 1 := by rw [World.size_alloc, t5]
  have t7 : (((((((w7.alloc (.cells (ccs nE (.slice none 0 0)) 40)).alloc (.cells (ccs nF (.slice none 0 0)) 40)).alloc (.cells (ccs nR (.slice (some ⟨c + 1 + 1 + 1 + 1, 0, none⟩) 5 5)) 40)).alloc (.cells #[.int .u8 3, .int .u8 3, .int .u8 1, .int .i64 1, .int .u8 0, .int .u8 0, .int .u8 0, .string ⟨#[]⟩] 29)).alloc (.cells (pcells [pB, pB, pB, pB, pB]).toArray 29)).alloc (.cells (ccs nL (.slice (some ⟨c + 1 + 1 + 1 + 1 + 1 + 1, 0, none⟩) 1 1)) 40)).alloc (.cells (pcells [pB]).toArray 29)).heap.size = c + 1 + 1 + 1 + 1 + 1 + 1 + 1 := by rw [World.size_alloc, t6]
  have kE : Hid (CAt Wb c nE (.slice none 0 0)) := by
    have this := alloc_at w7 (ccs nE (.slice none 0 0)) 40
    rw [← hc] at this
    unfold Hid
    rw [hWb]
    exact (grown_keep (World.grownBy_alloc _ _ none) (grown_keep (World.grownBy_alloc _ _ none) (grown_keep (World.grownBy_alloc _ _ none) (grown_keep (World.grownBy_alloc _ _ none) (grown_keep (World.grownBy_alloc _ _ none) (grown_keep (World.grownBy_alloc _ _ none) (grown_keep (World.grownBy_alloc _ _ none) this (by simp)) (by simp)) (by simp)) (by simp)) (by simp)) (by simp)) (by simp))
  have kF : Hid (CAt Wb (c + 1) nF (.slice none 0 0)) := by
    have this := alloc_at (w7.alloc (.cells (ccs nE (.slice none 0 0)) 40)) (ccs nF (.slice none 0 0)) 40
    rw [t1] at this
    unfold Hid
    rw [hWb]
    exact (grown_keep (World.grownBy_alloc _ _ none) (grown_keep (World.grownBy_alloc _ _ none) (grown_keep (World.grownBy_alloc _ _ none) (grown_keep (World.grownBy_alloc _ _ none) (grown_keep (World.grownBy_alloc _ _ none) (grown_keep (World.grownBy_alloc _ _ none) this (by simp)) (by simp)) (by simp)) (by simp)) (by simp)) (by simp))
  have kG : Hid (CAt Wb (c + 1 + 1) nR (.slice (some ⟨c + 1 + 1 + 1 + 1, 0, none⟩) 5 5)) := by
    have this := alloc_at ((w7.alloc (.cells (ccs nE (.slice none 0 0)) 40)).alloc (.cells (ccs nF (.slice none 0 0)) 40)) (ccs nR (.slice (some ⟨c + 1 + 1 + 1 + 1, 0, none⟩) 5 5)) 40
    rw [t2] at this
    unfold Hid
    rw [hWb]
    exact (grown_keep (World.grownBy_alloc _ _ none) (grown_keep (World.grownBy_alloc _ _ none) (grown_keep (World.grownBy_alloc _ _ none) (grown_keep (World.grownBy_alloc _ _ none) (grown_keep (World.grownBy_alloc _ _ none) this (by simp)) (by simp)) (by simp)) (by simp)) (by simp))
  have kp : Hid (PAt Wb (c + 1 + 1 + 1) pB) := by
    have this := alloc_at (((w7.alloc (.cells (ccs nE (.slice none 0 0)) 40)).alloc (.cells (ccs nF (.slice none 0 0)) 40)).alloc (.cells (ccs nR (.slice (some ⟨c + 1 + 1 + 1 + 1, 0, none⟩) 5 5)) 40)) #[.int .u8 3, .int .u8 3, .int .u8 1, .int .i64 1, .int .u8 0, .int .u8 0, .int .u8 0, .string ⟨#[]⟩] 29
    rw [t3] at this
    unfold Hid
    rw [hWb]
    exact (grown_keep (World.grownBy_alloc _ _ none) (grown_keep (World.grownBy_alloc _ _ none) (grown_keep (World.grownBy_alloc _ _ none) (grown_keep (World.grownBy_alloc _ _ none) this (by simp)) (by simp)) (by simp)) (by simp))
  have k5 : Hid (Wb.heap[c + 1 + 1 + 1 + 1]? = some (.cells (pcells [pB, pB, pB, pB, pB]).toArray 29 (0, 0))) := by
    have this := alloc_at ((((w7.alloc (.cells (ccs nE (.slice none 0 0)) 40)).alloc (.cells (ccs nF (.slice none 0 0)) 40)).alloc (.cells (ccs nR (.slice (some ⟨c + 1 + 1 + 1 + 1, 0, none⟩) 5 5)) 40)).alloc (.cells #[.int .u8 3, .int .u8 3, .int .u8 1, .int .i64 1, .int .u8 0, .int .u8 0, .int .u8 0, .string ⟨#[]⟩] 29)) (pcells [pB, pB, pB, pB, pB]).toArray 29
    rw [t4] at this
    unfold Hid
    rw [hWb]
    exact (grown_keep (World.grownBy_alloc _ _ none) (grown_keep (World.grownBy_alloc _ _ none) (grown_keep (World.grownBy_alloc _ _ none) this (by simp)) (by simp)) (by simp))
  have kL : Hid (CAt Wb (c + 1 + 1 + 1 + 1 + 1) nL (.slice (some ⟨c + 1 + 1 + 1 + 1 + 1 + 1, 0, none⟩) 1 1)) := by
    have this := alloc_at (((((w7.alloc (.cells (ccs nE (.slice none 0 0)) 40)).alloc (.cells (ccs nF (.slice none 0 0)) 40)).alloc (.cells (ccs nR (.slice (some ⟨c + 1 + 1 + 1 + 1, 0, none⟩) 5 5)) 40)).alloc (.cells #[.int .u8 3, .int .u8 3, .int .u8 1, .int .i64 1, .int .u8 0, .int .u8 0, .int .u8 0, .string ⟨#[]⟩] 29)).alloc (.cells (pcells [pB, pB, pB, pB, pB]).toArray 29)) (ccs nL (.slice (some ⟨c + 1 + 1 + 1 + 1 + 1 + 1, 0, none⟩) 1 1)) 40
    rw [t5] at this
    unfold Hid
    rw [hWb]
    exact (grown_keep (World.grownBy_alloc _ _ none) (grown_keep (World.grownBy_alloc _ _ none) this (by simp)) (by simp))
  have k1 : Hid (Wb.heap[c + 1 + 1 + 1 + 1 + 1 + 1]? = some (.cells (pcells [pB]).toArray 29 (0, 0))) := by
    have this := alloc_at ((((((w7.alloc (.cells (ccs nE (.slice none 0 0)) 40)).alloc (.cells (ccs nF (.slice none 0 0)) 40)).alloc (.cells (ccs nR (.slice (some ⟨c + 1 + 1 + 1 + 1, 0, none⟩) 5 5)) 40)).alloc (.cells #[.int .u8 3, .int .u8 3, .int .u8 1, .int .i64 1, .int .u8 0, .int .u8 0, .int .u8 0, .string ⟨#[]⟩] 29)).alloc (.cells (pcells [pB, pB, pB, pB, pB]).toArray 29)).alloc (.cells (ccs nL (.slice (some ⟨c + 1 + 1 + 1 + 1 + 1 + 1, 0, none⟩) 1 1)) 40)) (pcells [pB]).toArray 29
    rw [t6] at this
    unfold Hid
    rw [hWb]
    exact (grown_keep (World.grownBy_alloc _ _ none) this (by simp))
  have kT : Hid (CAt Wb (c + 1 + 1 + 1 + 1 + 1 + 1 + 1) nT (.slice (some ⟨c + 1 + 1 + 1 + 1 + 1 + 1, 0, none⟩) 1 1)) := by
    have this := alloc_at (((((((w7.alloc (.cells (ccs nE (.slice none 0 0)) 40)).alloc (.cells (ccs nF (.slice none 0 0)) 40)).alloc (.cells (ccs nR (.slice (some ⟨c + 1 + 1 + 1 + 1, 0, none⟩) 5 5)) 40)).alloc (.cells #[.int .u8 3, .int .u8 3, .int .u8 1, .int .i64 1, .int .u8 0, .int .u8 0, .int .u8 0, .string ⟨#[]⟩] 29)).alloc (.cells (pcells [pB, pB, pB, pB, pB]).toArray 29)).alloc (.cells (ccs nL (.slice (some ⟨c + 1 + 1 + 1 + 1 + 1 + 1, 0, none⟩) 1 1)) 40)).alloc (.cells (pcells [pB]).toArray 29)) (ccs nT (.slice (some ⟨c + 1 + 1 + 1 + 1 + 1 + 1, 0, none⟩) 1 1)) 40
    rw [t7] at this
    unfold Hid
    rw [hWb]
    exact this
  have gb : w7.grownBy Wb none := by rw [hWb]; exact grown_push (grown_push (grown_push (grown_push (grown_push (grown_push (grown_push (World.grownBy_alloc _ _ none) _) _) _) _) _) _) _
  have HCW : Hid (w.heap.size ≤ c) := by unfold Hid; rw [hc]; exact G7.out.size
  clear t1 t2 t3 t4 t5 t6 t7
  simp only [ccs, nE, nF, nR, nL, nT, pcells, pvs, pB, List.cons_append, List.nil_append] at hWb
  rw [← hc]
  rw [← hWb]
  clear hc hWb
  go_wp2_with fail
  refine (rock_any _).mono ?_
  rintro e w8 ⟨rfl, g8⟩
  have gb8 := grown_trans gb g8
  obtain ⟨d, hd⟩ : ∃ X, X = w8.heap.size := ⟨_, rfl⟩
  obtain ⟨Wd, hWd⟩ : ∃ X, X = (w8.alloc (.cells (ccs nR (.slice none 0 0)) 40)) := ⟨_, rfl⟩
  have gd : w8.grownBy Wd none := by rw [hWd]; exact World.grownBy_alloc _ _ none
  have mA : Hid (CAt w8 a nA (.slice none 0 0)) := kA7.out.keep gb8
  have mB : Hid (CAt w8 (a + 1) nB (.slice none 0 0)) := kB7.out.keep gb8
  have mC : Hid (CAt w8 (a + 1 + 1) nC (.slice none 0 0)) := kC7.out.keep gb8
  have mD : Hid (CAt w8 (a + 1 + 1 + 1) nD (.slice none 0 0)) := kD7.out.keep gb8
  have mE : Hid (CAt w8 c nE (.slice none 0 0)) := kE.out.keep g8
  have mF : Hid (CAt w8 (c + 1) nF (.slice none 0 0)) := kF.out.keep g8
  have mG : Hid (CAt w8 (c + 1 + 1) nR (.slice (some ⟨c + 1 + 1 + 1 + 1, 0, none⟩) 5 5)) := kG.out.keep g8
  have mL : Hid (CAt w8 (c + 1 + 1 + 1 + 1 + 1) nL (.slice (some ⟨c + 1 + 1 + 1 + 1 + 1 + 1, 0, none⟩) 1 1)) := kL.out.keep g8
  have mT : Hid (CAt w8 (c + 1 + 1 + 1 + 1 + 1 + 1 + 1) nT (.slice (some ⟨c + 1 + 1 + 1 + 1 + 1 + 1, 0, none⟩) 1 1)) := kT.out.keep g8
  have mp : Hid (PAt w8 (c + 1 + 1 + 1) pB) := kp.out.keep g8
  have m5 : Hid (w8.heap[c + 1 + 1 + 1 + 1]? = some (.cells (pcells [pB, pB, pB, pB, pB]).toArray 29 (0, 0))) := grown_keep g8 k5.out (by simp)
  have m1 : Hid (w8.heap[c + 1 + 1 + 1 + 1 + 1 + 1]? = some (.cells (pcells [pB]).toArray 29 (0, 0))) := grown_keep g8 k1.out (by simp)
  have m4 : Hid (CAt Wd d nR (.slice none 0 0)) := by unfold Hid; rw [hWd, hd]; exact alloc_at w8 _ _
  have GD : Hid (w.grownBy Wd none) := grown_trans (grown_trans G7.out gb8) gd
  have HGd : Hid (w8.grownBy Wd none) := gd
  have HD8 : Hid (d = w8.heap.size) := hd
  have GW8 : Hid (w.heap.size ≤ w8.heap.size) := (grown_trans G7.out gb8).size
  clear kA7 kB7 kC7 kD7 kE kF kG kp k5 kL k1 kT gb gb8 g8 gd G7
  simp only [ccs, nR] at hWd
  go_upto_region 18 with fail
  rw [← hWd, ← hd]
  clear hWd hd
  have x8 := (mG.out.keep HGd.out).cells.2.2.2.2.2.2.2.2
  have y8 := m4.out.cells.2.2.2.2.2.2.2.2
  have yf := fun i => m4.out.free i
  go_upto_region 19 with fail
  have gs : w8.grownBy (Wd.setCell ⟨d, 8, none⟩ (.slice (some ⟨c + 1 + 1 + 1 + 1, 0, none⟩) 4 5)) (some d) := grown_trans (grown_some HGd.out d) (grown_set _ _ _ _)
  have ne : ∀ b, b < w8.heap.size → some b ≠ some d := fun b hb => by have := HD8.out; simp; omega
  have NS0 : Hid (NS a c d (Wd.setCell ⟨d, 8, none⟩ (.slice (some ⟨c + 1 + 1 + 1 + 1, 0, none⟩) 4 5))) := ⟨mA.out.keepR gs (ne _ (block_lt mA.out)), mB.out.keepR gs (ne _ (block_lt mB.out)), mC.out.keepR gs (ne _ (block_lt mC.out)), mD.out.keepR gs (ne _ (block_lt mD.out)), mE.out.keepR gs (ne _ (block_lt mE.out)), mF.out.keepR gs (ne _ (block_lt mF.out)), mG.out.keepR gs (ne _ (block_lt mG.out)), grown_keep gs mp.out (ne _ (block_lt mp.out)), grown_keep gs m5.out (ne _ (block_lt m5.out)), mL.out.keepR gs (ne _ (block_lt mL.out)), grown_keep gs m1.out (ne _ (block_lt m1.out)), mT.out.keepR gs (ne _ (block_lt mT.out)), m4.out.parts _⟩
  have G0 : Hid (w.grownBy (Wd.setCell ⟨d, 8, none⟩ (.slice (some ⟨c + 1 + 1 + 1 + 1, 0, none⟩) 4 5)) none) := grown_own GD.out (grown_set _ _ _ _) (fun x e => by cases e; have h1 := GW8.out; have h2 := HD8.out; omega)
  clear gs ne mA mB mC mD mE mF mG mp m5 mL m1 mT m4 GD HGd HD8 GW8 x8 y8 yf
  obtain ⟨W0, hW0⟩ : ∃ X, X = Wd.setCell ⟨d, 8, none⟩ (.slice (some ⟨c + 1 + 1 + 1 + 1, 0, none⟩) 4 5) := ⟨_, rfl⟩
  rw [← hW0] at NS0 G0 ⊢
  clear hW0
  obtain ⟨c0, c1, c2, c3, c4, c5, c6, c7, c8⟩ := NS0.out.hA.cells
  simp only [nA] at c0 c1 c2 c3 c4 c5 c6 c7 c8
  go_wp2_with fail
  refine (refused_yes nA (.slice none 0 0) [] 4 chkA (by decide) _ (HL.out.keep G0.out) (nil_at _) (by unfold Small; simp)).mono ?_
  rintro e W1 ⟨rfl, gg⟩
  have NS1 : Hid (NS a c d W1) := NS0.out.keep gg
  have G1 : Hid (w.grownBy W1 none) := grown_trans G0.out gg
  clear gg NS0 G0 c0 c1 c2 c3 c4 c5 c6 c7 c8
  obtain ⟨c0, c1, c2, c3, c4, c5, c6, c7, c8⟩ := NS1.out.hB.cells
  simp only [nB] at c0 c1 c2 c3 c4 c5 c6 c7 c8
  go_wp2_with fail
  refine (refused_yes nB (.slice none 0 0) [] 8 chkB (by decide) _ (HL.out.keep G1.out) (nil_at _) (by unfold Small; simp)).mono ?_
  rintro e W2 ⟨rfl, gg⟩
  have NS2 : Hid (NS a c d W2) := NS1.out.keep gg
  have G2 : Hid (w.grownBy W2 none) := grown_trans G1.out gg
  clear gg NS1 G1 c0 c1 c2 c3 c4 c5 c6 c7 c8
  obtain ⟨c0, c1, c2, c3, c4, c5, c6, c7, c8⟩ := NS2.out.hC.cells
  simp only [nC] at c0 c1 c2 c3 c4 c5 c6 c7 c8
  go_wp2_with fail
  refine (refused_yes nC (.slice none 0 0) [] 2 chkC (by decide) _ (HL.out.keep G2.out) (nil_at _) (by unfold Small; simp)).mono ?_
  rintro e W3 ⟨rfl, gg⟩
  have NS3 : Hid (NS a c d W3) := NS2.out.keep gg
  have G3 : Hid (w.grownBy W3 none) := grown_trans G2.out gg
  clear gg NS2 G2 c0 c1 c2 c3 c4 c5 c6 c7 c8
  obtain ⟨c0, c1, c2, c3, c4, c5, c6, c7, c8⟩ := NS3.out.hD.cells
  simp only [nD] at c0 c1 c2 c3 c4 c5 c6 c7 c8
  go_wp2_with fail
  refine (refused_yes nD (.slice none 0 0) [] 8 chkD (by decide) _ (HL.out.keep G3.out) (nil_at _) (by unfold Small; simp)).mono ?_
  rintro e W4 ⟨rfl, gg⟩
  have NS4 : Hid (NS a c d W4) := NS3.out.keep gg
  have G4 : Hid (w.grownBy W4 none) := grown_trans G3.out gg
  clear gg NS3 G3 c0 c1 c2 c3 c4 c5 c6 c7 c8
  obtain ⟨c0, c1, c2, c3, c4, c5, c6, c7, c8⟩ := NS4.out.hE.cells
  simp only [nE] at c0 c1 c2 c3 c4 c5 c6 c7 c8
  go_wp2_with fail
  refine (refused_yes nE (.slice none 0 0) [] 8 chkE (by decide) _ (HL.out.keep G4.out) (nil_at _) (by unfold Small; simp)).mono ?_
  rintro e W5 ⟨rfl, gg⟩
  have NS5 : Hid (NS a c d W5) := NS4.out.keep gg
  have G5 : Hid (w.grownBy W5 none) := grown_trans G4.out gg
  clear gg NS4 G4 c0 c1 c2 c3 c4 c5 c6 c7 c8
  obtain ⟨c0, c1, c2, c3, c4, c5, c6, c7, c8⟩ := NS5.out.hF.cells
  simp only [nF] at c0 c1 c2 c3 c4 c5 c6 c7 c8
  go_wp2_with fail
  refine (refused_yes nF (.slice none 0 0) [] 8 chkF (by decide) _ (HL.out.keep G5.out) (nil_at _) (by unfold Small; simp)).mono ?_
  rintro e W6 ⟨rfl, gg⟩
  have NS6 : Hid (NS a c d W6) := NS5.out.keep gg
  have G6 : Hid (w.grownBy W6 none) := grown_trans G5.out gg
  clear gg NS5 G5 c0 c1 c2 c3 c4 c5 c6 c7 c8
  obtain ⟨c0, c1, c2, c3, c4, c5, c6, c7, c8⟩ := NS6.out.hG.cells
  simp only [nR] at c0 c1 c2 c3 c4 c5 c6 c7 c8
  go_wp2_with fail
  refine (refused_yes nR (.slice (some ⟨c + 1 + 1 + 1 + 1, 0, none⟩) 5 5) [pB, pB, pB, pB, pB] 3 chkG (by decide) _ (HL.out.keep G6.out) (ps_block (l := [pB, pB, pB, pB, pB]) (m := 5) NS6.out.h5 (by simp) (by simp)) (by unfold Small; simp)).mono ?_
  rintro e W7 ⟨rfl, gg⟩
  have NS7 : Hid (NS a c d W7) := NS6.out.keep gg
  have G7 : Hid (w.grownBy W7 none) := grown_trans G6.out gg
  clear gg NS6 G6 c0 c1 c2 c3 c4 c5 c6 c7 c8
  obtain ⟨c0, c1, c2, c3, c4, c5, c6, c7, c8⟩ := NS7.out.hL.cells
  simp only [nL] at c0 c1 c2 c3 c4 c5 c6 c7 c8
  go_wp2_with fail
  refine (refused_yes nL (.slice (some ⟨c + 1 + 1 + 1 + 1 + 1 + 1, 0, none⟩) 1 1) [pB] 8 chkL (by decide) _ (HL.out.keep G7.out) (ps_block (l := [pB]) (m := 1) NS7.out.h1 (by simp) (by simp)) (by unfold Small; simp)).mono ?_
  rintro e W8 ⟨rfl, gg⟩
  have NS8 : Hid (NS a c d W8) := NS7.out.keep gg
  have G8 : Hid (w.grownBy W8 none) := grown_trans G7.out gg
  clear gg NS7 G7 c0 c1 c2 c3 c4 c5 c6 c7 c8
  obtain ⟨c0, c1, c2, c3, c4, c5, c6, c7, c8⟩ := NS8.out.hT.cells
  simp only [nT] at c0 c1 c2 c3 c4 c5 c6 c7 c8
  go_wp2_with fail
  refine (ccheck_any nT (.slice (some ⟨c + 1 + 1 + 1 + 1 + 1 + 1, 0, none⟩) 1 1) [pB] _ (ps_block (l := [pB]) (m := 1) NS8.out.h1 (by simp) (by simp)) (by unfold Small; simp)).mono ?_
  rintro e W9 ⟨rfl, gg⟩
  rw [chkT]
  have NS9 : Hid (NS a c d W9) := NS8.out.keep gg
  have G9 : Hid (w.grownBy W9 none) := grown_trans G8.out gg
  clear gg NS8 G8 c0 c1 c2 c3 c4 c5 c6 c7 c8
  obtain ⟨c0, c1, c2, c3, c4, c5, c6, c7, c8⟩ := NS9.out.h4.cells
  simp only [nR] at c0 c1 c2 c3 c4 c5 c6 c7 c8
  go_wp2_with fail
  refine (ccheck_any nR (.slice (some ⟨c + 1 + 1 + 1 + 1, 0, none⟩) 4 5) [pB, pB, pB, pB] _ (ps_block (l := [pB, pB, pB, pB, pB]) (m := 4) NS9.out.h5 (by simp) (by simp)) (by unfold Small; simp)).mono ?_
  rintro e W10 ⟨rfl, gg⟩
  rw [chk4]
  have NS10 : Hid (NS a c d W10) := NS9.out.keep gg
  have G10 : Hid (w.grownBy W10 none) := grown_trans G9.out gg
  clear gg NS9 G9 c0 c1 c2 c3 c4 c5 c6 c7 c8
  have Np : Hid (PAt W10 (c + 1 + 1 + 1) pB) := NS10.out.hp
  have Nr : Hid (CAt W10 (c + 1 + 1 + 1 + 1 + 1 + 1 + 1) nT (.slice (some ⟨c + 1 + 1 + 1 + 1 + 1 + 1, 0, none⟩) 1 1)) := NS10.out.hT
  clear NS10
  obtain ⟨x0, -⟩ := Np.out.cells
  have xf := fun i => block_free Np.out i
  simp only [pB] at x0
  go_upto_region 21 with fail
  have Np1 : Hid (PAt (W10.setCell ⟨c + 1 + 1 + 1, 0, none⟩ (.int .u8 4)) (c + 1 + 1 + 1) pS) := block_set Np.out 0 _
  have Nr1 : Hid (CAt (W10.setCell ⟨c + 1 + 1 + 1, 0, none⟩ (.int .u8 4)) (c + 1 + 1 + 1 + 1 + 1 + 1 + 1) nT (.slice (some ⟨c + 1 + 1 + 1 + 1 + 1 + 1, 0, none⟩) 1 1)) := Nr.out.keepR (grown_set _ _ _ _) (by simp; omega)
  have G11 : Hid (w.grownBy (W10.setCell ⟨c + 1 + 1 + 1, 0, none⟩ (.int .u8 4)) none) := grown_own G10.out (grown_set _ _ _ _) (fun x e => by cases e; have := HCW.out; omega)
  clear Np Nr G10 x0 xf
  obtain ⟨W11, hW11⟩ : ∃ X, X = W10.setCell ⟨c + 1 + 1 + 1, 0, none⟩ (.int .u8 4) := ⟨_, rfl⟩
  rw [← hW11] at Np1 Nr1 G11 ⊢
  clear hW11
  obtain ⟨x0, x1, x2, x3, x4, x5, x6, x7⟩ := Np1.out.cells
  simp only [pS] at x0 x1 x2 x3 x4 x5 x6 x7
  have Nr2 : CAt (W11.alloc (.cells #[.int .u8 4, .int .u8 3, .int .u8 1, .int .i64 1, .int .u8 0, .int .u8 0, .int .u8 0, .string ⟨#[]⟩] 29)) (c + 1 + 1 + 1 + 1 + 1 + 1 + 1) nT (.slice (some ⟨c + 1 + 1 + 1 + 1 + 1 + 1, 0, none⟩) 1 1) := Nr1.out.keep (World.grownBy_alloc _ _ none)
  have yf := fun i => Nr2.free i
  have y8 := Nr2.cells.2.2.2.2.2.2.2.2
  have Ns2 : (W11.alloc (.cells #[.int .u8 4, .int .u8 3, .int .u8 1, .int .i64 1, .int .u8 0, .int .u8 0, .int .u8 0, .string ⟨#[]⟩] 29)).heap[W11.heap.size]? = some (.cells (pcells [pS]).toArray 29 (0, 0)) := alloc_at W11 _ _
  have HRS : Hid (c + 1 + 1 + 1 + 1 + 1 + 1 + 1 < W11.heap.size) := block_lt Nr1.out
  go_upto_region 22 with fail
  have Nr3 : Hid (CAt ((W11.alloc (.cells #[.int .u8 4, .int .u8 3, .int .u8 1, .int .i64 1, .int .u8 0, .int .u8 0, .int .u8 0, .string ⟨#[]⟩] 29)).setCell ⟨c + 1 + 1 + 1 + 1 + 1 + 1 + 1, 8, none⟩ (.slice (some ⟨W11.heap.size, 0, none⟩) 1 1)) (c + 1 + 1 + 1 + 1 + 1 + 1 + 1) nT (.slice (some ⟨W11.heap.size, 0, none⟩) 1 1)) := Nr2.parts _
  have Ns3 : Hid (((W11.alloc (.cells #[.int .u8 4, .int .u8 3, .int .u8 1, .int .i64 1, .int .u8 0, .int .u8 0, .int .u8 0, .string ⟨#[]⟩] 29)).setCell ⟨c + 1 + 1 + 1 + 1 + 1 + 1 + 1, 8, none⟩ (.slice (some ⟨W11.heap.size, 0, none⟩) 1 1)).heap[W11.heap.size]? = some (.cells (pcells [pS]).toArray 29 (0, 0))) := grown_keep (grown_set _ _ _ _) Ns2 (by have := HRS.out; simp; omega)
  have G12 : Hid (w.grownBy ((W11.alloc (.cells #[.int .u8 4, .int .u8 3, .int .u8 1, .int .i64 1, .int .u8 0, .int .u8 0, .int .u8 0, .string ⟨#[]⟩] 29)).setCell ⟨c + 1 + 1 + 1 + 1 + 1 + 1 + 1, 8, none⟩ (.slice (some ⟨W11.heap.size, 0, none⟩) 1 1)) none) := grown_own (grown_push G11.out _) (grown_set _ _ _ _) (fun x e => by cases e; have := HCW.out; omega)
  clear Np1 Nr1 G11 x0 x1 x2 x3 x4 x5 x6 x7 Nr2 yf y8 Ns2 HRS
  obtain ⟨W12, hW12⟩ : ∃ X, X = (W11.alloc (.cells #[.int .u8 4, .int .u8 3, .int .u8 1, .int .i64 1, .int .u8 0, .int .u8 0, .int .u8 0, .string ⟨#[]⟩] 29)).setCell ⟨c + 1 + 1 + 1 + 1 + 1 + 1 + 1, 8, none⟩ (.slice (some ⟨W11.heap.size, 0, none⟩) 1 1) := ⟨_, rfl⟩
  rw [← hW12] at Nr3 Ns3 G12 ⊢
  clear hW12
  obtain ⟨sp, hsp⟩ : ∃ X, X = W11.heap.size := ⟨_, rfl⟩
  rw [← hsp] at Nr3 Ns3 ⊢
  clear hsp
  go_wp2_with fail
  refine (golem_parse _ (HL.out.keep G12.out)).mono ?_
  rintro e w13 ⟨⟨gg, gn, rfl, PG⟩, g13⟩
  have GC : Hid (CAt (w13.alloc (.cells #[.string ⟨#[103, 111, 108, 101, 109]⟩, .int .u8 2, .int .u8 1, .int .i64 5, .int .i64 4, .int .i64 5, .int .u16 2, .bool false, .slice (some ⟨gg, 0, none⟩) 1 gn] 40)) w13.heap.size golem.hd (.slice (some ⟨gg, 0, none⟩) 1 gn)) := alloc_at w13 _ _
  have gp := grown_push g13 (.cells #[.string ⟨#[103, 111, 108, 101, 109]⟩, .int .u8 2, .int .u8 1, .int .i64 5, .int .i64 4, .int .i64 5, .int .u16 2, .bool false, .slice (some ⟨gg, 0, none⟩) 1 gn] 40)
  have Nr4 := Nr3.out.keep gp
  have Ns4 := grown_keep gp Ns3.out (by simp)
  have G14 := grown_trans G12.out gp
  have PG4 := PG.keep (World.grownBy_alloc w13 (.cells #[.string ⟨#[103, 111, 108, 101, 109]⟩, .int .u8 2, .int .u8 1, .int .i64 5, .int .i64 4, .int .i64 5, .int .u16 2, .bool false, .slice (some ⟨gg, 0, none⟩) 1 gn] 40) none)
  have GC4 := GC.out
  clear GC gp PG g13 Nr3 Ns3 G12
  obtain ⟨W14, hW14⟩ : ∃ X, X = w13.alloc (.cells #[.string ⟨#[103, 111, 108, 101, 109]⟩, .int .u8 2, .int .u8 1, .int .i64 5, .int .i64 4, .int .i64 5, .int .u16 2, .bool false, .slice (some ⟨gg, 0, none⟩) 1 gn] 40) := ⟨_, rfl⟩
  obtain ⟨qg, hqg⟩ : ∃ X, X = w13.heap.size := ⟨_, rfl⟩
  rw [← hW14] at Nr4 Ns4 G14 PG4 GC4
  rw [← hqg] at GC4
  have HNr : Hid (CAt W14 (c + 1 + 1 + 1 + 1 + 1 + 1 + 1) nT (.slice (some ⟨sp, 0, none⟩) 1 1)) := Nr4
  have HNs : Hid (W14.heap[sp]? = some (.cells (pcells [pS]).toArray 29 (0, 0))) := Ns4
  have HG14 : Hid (w.grownBy W14 none) := G14
  have HPG : Hid (P8 W14 gg 0 pG) := PG4
  have HGC : Hid (CAt W14 qg golem.hd (.slice (some ⟨gg, 0, none⟩) 1 gn)) := GC4
  clear Nr4 Ns4 G14 PG4 GC4
  go_upto_region 23 with fail
  rw [← hW14, ← hqg]
  clear hW14 hqg
  go_wp2_with fail
  obtain ⟨W15, hW15⟩ : ∃ X, X = W14.alloc (.cells #[.string ⟨#[114, 111, 99, 107, 32, 101, 97, 114, 116, 104, 32, 117, 110, 105, 116, 32, 48, 49, 32, 49, 47, 49]⟩, .string ⟨#[114, 111, 99, 107, 32, 101, 97, 114, 116, 104, 32, 117, 110, 105, 116, 32, 32, 49, 32, 49, 47, 49]⟩, .string ⟨#[114, 111, 99, 107, 32, 101, 97, 114, 116, 104, 32, 115, 112, 101, 108, 108, 32, 49, 32, 49, 47, 49]⟩, .string ⟨#[]⟩, .string ⟨#[114, 111, 99, 107, 32, 101, 97, 114, 116, 104, 32, 117, 110, 105, 116, 32, 49, 32, 49, 47, 49, 32, 43, 103, 117, 97, 114, 100, 32, 116, 111, 107, 101, 110]⟩, .string ⟨#[114, 111, 99, 107, 32, 101, 97, 114, 116, 104, 32, 117, 110, 105, 116, 32, 49, 32, 49, 47, 49, 32]⟩, .string ⟨#[114, 111, 99, 107, 32, 101, 97, 114, 116, 104, 32, 117, 110, 105, 116, 32, 49, 32, 49, 47, 49, 32, 124]⟩, .string ⟨#[114, 111, 99, 107, 32, 101, 97, 114, 116, 104, 32, 117, 110, 105, 116, 32, 49, 32, 49, 47, 49, 32, 43, 103, 117, 97, 114, 100, 32, 43, 103, 117, 97, 114, 100]⟩] 9) := ⟨_, rfl⟩
  have HS15 : Hid (W15.heap[W14.heap.size]? = some (.cells #[.string ⟨#[114, 111, 99, 107, 32, 101, 97, 114, 116, 104, 32, 117, 110, 105, 116, 32, 48, 49, 32, 49, 47, 49]⟩, .string ⟨#[114, 111, 99, 107, 32, 101, 97, 114, 116, 104, 32, 117, 110, 105, 116, 32, 32, 49, 32, 49, 47, 49]⟩, .string ⟨#[114, 111, 99, 107, 32, 101, 97, 114, 116, 104, 32, 115, 112, 101, 108, 108, 32, 49, 32, 49, 47, 49]⟩, .string ⟨#[]⟩, .string ⟨#[114, 111, 99, 107, 32, 101, 97, 114, 116, 104, 32, 117, 110, 105, 116, 32, 49, 32, 49, 47, 49, 32, 43, 103, 117, 97, 114, 100, 32, 116, 111, 107, 101, 110]⟩, .string ⟨#[114, 111, 99, 107, 32, 101, 97, 114, 116, 104, 32, 117, 110, 105, 116, 32, 49, 32, 49, 47, 49, 32]⟩, .string ⟨#[114, 111, 99, 107, 32, 101, 97, 114, 116, 104, 32, 117, 110, 105, 116, 32, 49, 32, 49, 47, 49, 32, 124]⟩, .string ⟨#[114, 111, 99, 107, 32, 101, 97, 114, 116, 104, 32, 117, 110, 105, 116, 32, 49, 32, 49, 47, 49, 32, 43, 103, 117, 97, 114, 100, 32, 43, 103, 117, 97, 114, 100]⟩] 9 (0, 0))) := by unfold Hid; rw [hW15]; exact alloc_at _ _ _
  have g15 : W14.grownBy W15 none := by rw [hW15]; exact World.grownBy_alloc _ _ none
  have HG15 : Hid (w.grownBy W15 none) := grown_trans HG14.out g15
  have HNr5 : Hid (CAt W15 (c + 1 + 1 + 1 + 1 + 1 + 1 + 1) nT (.slice (some ⟨sp, 0, none⟩) 1 1)) := HNr.out.keep g15
  have HNs5 : Hid (W15.heap[sp]? = some (.cells (pcells [pS]).toArray 29 (0, 0))) := grown_keep g15 HNs.out (by simp)
  have HPG5 : Hid (P8 W15 gg 0 pG) := HPG.out.keep g15
  have HGC5 : Hid (CAt W15 qg golem.hd (.slice (some ⟨gg, 0, none⟩) 1 gn)) := HGC.out.keep g15
  rw [← hW15]
  obtain ⟨sb, hsb⟩ : ∃ X, X = W14.heap.size := ⟨_, rfl⟩
  rw [← hsb] at HS15 ⊢
  clear hW15 hsb g15 HG14 HNr HNs HPG HGC
  go_loopw [115] (fun i wr => ∃ k : Nat, k ≤ 8 ∧ i = .int .i64 k ∧ W15.grownBy wr none) (fun i _ => 8 - (intOf i).toNat)
  case atStart => exact ⟨0, Nat.zero_le _, rfl, grown_refl _ _⟩
  case round =>
    obtain ⟨k, hk, rfl, G⟩ := hrel
    have HG : Hid (W15.grownBy wr none) := G
    clear G
    rcases (show k = 0 ∨ k = 1 ∨ k = 2 ∨ k = 3 ∨ k = 4 ∨ k = 5 ∨ k = 6 ∨ k = 7 ∨ k = 8 from by omega) with rfl | rfl | rfl | rfl | rfl | rfl | rfl | rfl | rfl
    · have ck : wr.cell? ⟨sb, 0, none⟩ = some (.string ⟨#[114, 111, 99, 107, 32, 101, 97, 114, 116, 104, 32, 117, 110, 105, 116, 32, 48, 49, 32, 49, 47, 49]⟩) := HG.out.cell (block_cell HS15.out 0) (by simp)
      go_wp2_with fail
      refine (no_parse ⟨#[114, 111, 99, 107, 32, 101, 97, 114, 116, 104, 32, 117, 110, 105, 116, 32, 48, 49, 32, 49, 47, 49]⟩ 160 no0 _ (HL.out.keep (grown_trans HG15.out HG.out))).mono ?_
      rintro e v1 ⟨⟨na, nn, rfl, NP⟩, gv⟩
      have HV : Hid (W15.grownBy (v1.alloc (.cells #[.string ⟨#[]⟩, .int .u8 0, .int .u8 0, .int .i64 0, .int .i64 0, .int .i64 0, .int .u16 0, .bool false, .slice na 0 nn] 40)) none) := grown_push (grown_trans HG.out gv) _
      have HNP : Hid (PsAt (v1.alloc (.cells #[.string ⟨#[]⟩, .int .u8 0, .int .u8 0, .int .i64 0, .int .i64 0, .int .i64 0, .int .u16 0, .bool false, .slice na 0 nn] 40)) (.slice na 0 nn) []) := NP.keep (World.grownBy_alloc _ _ none)
      clear gv NP ck
      go_wp2_with fail
      refine (sameCard_any Hd.none Hd.none (.slice na 0 nn) (.slice none 0 0) [] [] _ HNP.out (nil_at _) small_nil).mono ?_
      rintro e v2 ⟨rfl, gv⟩
      rw [sameHd_refl, samePs_refl]
      have HV2 : Hid (W15.grownBy v2 none) := grown_trans HV.out gv
      clear gv HV HNP
      go_wp2_with fail
      go_roundw
      case rel => exact ⟨1, by omega, by go_num, HV2.out⟩
      case measure => simp [intOf]
    · have ck : wr.cell? ⟨sb, 1, none⟩ = some (.string ⟨#[114, 111, 99, 107, 32, 101, 97, 114, 116, 104, 32, 117, 110, 105, 116, 32, 32, 49, 32, 49, 47, 49]⟩) := HG.out.cell (block_cell HS15.out 1) (by simp)
      go_wp2_with fail
      refine (no_parse ⟨#[114, 111, 99, 107, 32, 101, 97, 114, 116, 104, 32, 117, 110, 105, 116, 32, 32, 49, 32, 49, 47, 49]⟩ 160 no1 _ (HL.out.keep (grown_trans HG15.out HG.out))).mono ?_
      rintro e v1 ⟨⟨na, nn, rfl, NP⟩, gv⟩
      have HV : Hid (W15.grownBy (v1.alloc (.cells #[.string ⟨#[]⟩, .int .u8 0, .int .u8 0, .int .i64 0, .int .i64 0, .int .i64 0, .int .u16 0, .bool false, .slice na 0 nn] 40)) none) := grown_push (grown_trans HG.out gv) _
      have HNP : Hid (PsAt (v1.alloc (.cells #[.string ⟨#[]⟩, .int .u8 0, .int .u8 0, .int .i64 0, .int .i64 0, .int .i64 0, .int .u16 0, .bool false, .slice na 0 nn] 40)) (.slice na 0 nn) []) := NP.keep (World.grownBy_alloc _ _ none)
      clear gv NP ck
      go_wp2_with fail
      refine (sameCard_any Hd.none Hd.none (.slice na 0 nn) (.slice none 0 0) [] [] _ HNP.out (nil_at _) small_nil).mono ?_
      rintro e v2 ⟨rfl, gv⟩
      rw [sameHd_refl, samePs_refl]
      have HV2 : Hid (W15.grownBy v2 none) := grown_trans HV.out gv
      clear gv HV HNP
      go_wp2_with fail
      go_roundw
      case rel => exact ⟨2, by omega, by go_num, HV2.out⟩
      case measure => simp [intOf]
    · have ck : wr.cell? ⟨sb, 2, none⟩ = some (.string ⟨#[114, 111, 99, 107, 32, 101, 97, 114, 116, 104, 32, 115, 112, 101, 108, 108, 32, 49, 32, 49, 47, 49]⟩) := HG.out.cell (block_cell HS15.out 2) (by simp)
      go_wp2_with fail
      refine (no_parse ⟨#[114, 111, 99, 107, 32, 101, 97, 114, 116, 104, 32, 115, 112, 101, 108, 108, 32, 49, 32, 49, 47, 49]⟩ 160 no2 _ (HL.out.keep (grown_trans HG15.out HG.out))).mono ?_
      rintro e v1 ⟨⟨na, nn, rfl, NP⟩, gv⟩
      have HV : Hid (W15.grownBy (v1.alloc (.cells #[.string ⟨#[]⟩, .int .u8 0, .int .u8 0, .int .i64 0, .int .i64 0, .int .i64 0, .int .u16 0, .bool false, .slice na 0 nn] 40)) none) := grown_push (grown_trans HG.out gv) _
      have HNP : Hid (PsAt (v1.alloc (.cells #[.string ⟨#[]⟩, .int .u8 0, .int .u8 0, .int .i64 0, .int .i64 0, .int .i64 0, .int .u16 0, .bool false, .slice na 0 nn] 40)) (.slice na 0 nn) []) := NP.keep (World.grownBy_alloc _ _ none)
      clear gv NP ck
      go_wp2_with fail
      refine (sameCard_any Hd.none Hd.none (.slice na 0 nn) (.slice none 0 0) [] [] _ HNP.out (nil_at _) small_nil).mono ?_
      rintro e v2 ⟨rfl, gv⟩
      rw [sameHd_refl, samePs_refl]
      have HV2 : Hid (W15.grownBy v2 none) := grown_trans HV.out gv
      clear gv HV HNP
      go_wp2_with fail
      go_roundw
      case rel => exact ⟨3, by omega, by go_num, HV2.out⟩
      case measure => simp [intOf]
    · have ck : wr.cell? ⟨sb, 3, none⟩ = some (.string ⟨#[]⟩) := HG.out.cell (block_cell HS15.out 3) (by simp)
      go_wp2_with fail
      refine (no_parse ⟨#[]⟩ 160 no3 _ (HL.out.keep (grown_trans HG15.out HG.out))).mono ?_
      rintro e v1 ⟨⟨na, nn, rfl, NP⟩, gv⟩
      have HV : Hid (W15.grownBy (v1.alloc (.cells #[.string ⟨#[]⟩, .int .u8 0, .int .u8 0, .int .i64 0, .int .i64 0, .int .i64 0, .int .u16 0, .bool false, .slice na 0 nn] 40)) none) := grown_push (grown_trans HG.out gv) _
      have HNP : Hid (PsAt (v1.alloc (.cells #[.string ⟨#[]⟩, .int .u8 0, .int .u8 0, .int .i64 0, .int .i64 0, .int .i64 0, .int .u16 0, .bool false, .slice na 0 nn] 40)) (.slice na 0 nn) []) := NP.keep (World.grownBy_alloc _ _ none)
      clear gv NP ck
      go_wp2_with fail
      refine (sameCard_any Hd.none Hd.none (.slice na 0 nn) (.slice none 0 0) [] [] _ HNP.out (nil_at _) small_nil).mono ?_
      rintro e v2 ⟨rfl, gv⟩
      rw [sameHd_refl, samePs_refl]
      have HV2 : Hid (W15.grownBy v2 none) := grown_trans HV.out gv
      clear gv HV HNP
      go_wp2_with fail
      go_roundw
      case rel => exact ⟨4, by omega, by go_num, HV2.out⟩
      case measure => simp [intOf]
    · have ck : wr.cell? ⟨sb, 4, none⟩ = some (.string ⟨#[114, 111, 99, 107, 32, 101, 97, 114, 116, 104, 32, 117, 110, 105, 116, 32, 49, 32, 49, 47, 49, 32, 43, 103, 117, 97, 114, 100, 32, 116, 111, 107, 101, 110]⟩) := HG.out.cell (block_cell HS15.out 4) (by simp)
      go_wp2_with fail
      refine (no_parse ⟨#[114, 111, 99, 107, 32, 101, 97, 114, 116, 104, 32, 117, 110, 105, 116, 32, 49, 32, 49, 47, 49, 32, 43, 103, 117, 97, 114, 100, 32, 116, 111, 107, 101, 110]⟩ 160 no4 _ (HL.out.keep (grown_trans HG15.out HG.out))).mono ?_
      rintro e v1 ⟨⟨na, nn, rfl, NP⟩, gv⟩
      have HV : Hid (W15.grownBy (v1.alloc (.cells #[.string ⟨#[]⟩, .int .u8 0, .int .u8 0, .int .i64 0, .int .i64 0, .int .i64 0, .int .u16 0, .bool false, .slice na 0 nn] 40)) none) := grown_push (grown_trans HG.out gv) _
      have HNP : Hid (PsAt (v1.alloc (.cells #[.string ⟨#[]⟩, .int .u8 0, .int .u8 0, .int .i64 0, .int .i64 0, .int .i64 0, .int .u16 0, .bool false, .slice na 0 nn] 40)) (.slice na 0 nn) []) := NP.keep (World.grownBy_alloc _ _ none)
      clear gv NP ck
      go_wp2_with fail
      refine (sameCard_any Hd.none Hd.none (.slice na 0 nn) (.slice none 0 0) [] [] _ HNP.out (nil_at _) small_nil).mono ?_
      rintro e v2 ⟨rfl, gv⟩
      rw [sameHd_refl, samePs_refl]
      have HV2 : Hid (W15.grownBy v2 none) := grown_trans HV.out gv
      clear gv HV HNP
      go_wp2_with fail
      go_roundw
      case rel => exact ⟨5, by omega, by go_num, HV2.out⟩
      case measure => simp [intOf]
    · have ck : wr.cell? ⟨sb, 5, none⟩ = some (.string ⟨#[114, 111, 99, 107, 32, 101, 97, 114, 116, 104, 32, 117, 110, 105, 116, 32, 49, 32, 49, 47, 49, 32]⟩) := HG.out.cell (block_cell HS15.out 5) (by simp)
      go_wp2_with fail
      refine (no_parse ⟨#[114, 111, 99, 107, 32, 101, 97, 114, 116, 104, 32, 117, 110, 105, 116, 32, 49, 32, 49, 47, 49, 32]⟩ 160 no5 _ (HL.out.keep (grown_trans HG15.out HG.out))).mono ?_
      rintro e v1 ⟨⟨na, nn, rfl, NP⟩, gv⟩
      have HV : Hid (W15.grownBy (v1.alloc (.cells #[.string ⟨#[]⟩, .int .u8 0, .int .u8 0, .int .i64 0, .int .i64 0, .int .i64 0, .int .u16 0, .bool false, .slice na 0 nn] 40)) none) := grown_push (grown_trans HG.out gv) _
      have HNP : Hid (PsAt (v1.alloc (.cells #[.string ⟨#[]⟩, .int .u8 0, .int .u8 0, .int .i64 0, .int .i64 0, .int .i64 0, .int .u16 0, .bool false, .slice na 0 nn] 40)) (.slice na 0 nn) []) := NP.keep (World.grownBy_alloc _ _ none)
      clear gv NP ck
      go_wp2_with fail
      refine (sameCard_any Hd.none Hd.none (.slice na 0 nn) (.slice none 0 0) [] [] _ HNP.out (nil_at _) small_nil).mono ?_
      rintro e v2 ⟨rfl, gv⟩
      rw [sameHd_refl, samePs_refl]
      have HV2 : Hid (W15.grownBy v2 none) := grown_trans HV.out gv
      clear gv HV HNP
      go_wp2_with fail
      go_roundw
      case rel => exact ⟨6, by omega, by go_num, HV2.out⟩
      case measure => simp [intOf]
    · have ck : wr.cell? ⟨sb, 6, none⟩ = some (.string ⟨#[114, 111, 99, 107, 32, 101, 97, 114, 116, 104, 32, 117, 110, 105, 116, 32, 49, 32, 49, 47, 49, 32, 124]⟩) := HG.out.cell (block_cell HS15.out 6) (by simp)
      go_wp2_with fail
      refine (no_parse ⟨#[114, 111, 99, 107, 32, 101, 97, 114, 116, 104, 32, 117, 110, 105, 116, 32, 49, 32, 49, 47, 49, 32, 124]⟩ 160 no6 _ (HL.out.keep (grown_trans HG15.out HG.out))).mono ?_
      rintro e v1 ⟨⟨na, nn, rfl, NP⟩, gv⟩
      have HV : Hid (W15.grownBy (v1.alloc (.cells #[.string ⟨#[]⟩, .int .u8 0, .int .u8 0, .int .i64 0, .int .i64 0, .int .i64 0, .int .u16 0, .bool false, .slice na 0 nn] 40)) none) := grown_push (grown_trans HG.out gv) _
      have HNP : Hid (PsAt (v1.alloc (.cells #[.string ⟨#[]⟩, .int .u8 0, .int .u8 0, .int .i64 0, .int .i64 0, .int .i64 0, .int .u16 0, .bool false, .slice na 0 nn] 40)) (.slice na 0 nn) []) := NP.keep (World.grownBy_alloc _ _ none)
      clear gv NP ck
      go_wp2_with fail
      refine (sameCard_any Hd.none Hd.none (.slice na 0 nn) (.slice none 0 0) [] [] _ HNP.out (nil_at _) small_nil).mono ?_
      rintro e v2 ⟨rfl, gv⟩
      rw [sameHd_refl, samePs_refl]
      have HV2 : Hid (W15.grownBy v2 none) := grown_trans HV.out gv
      clear gv HV HNP
      go_wp2_with fail
      go_roundw
      case rel => exact ⟨7, by omega, by go_num, HV2.out⟩
      case measure => simp [intOf]
    · have ck : wr.cell? ⟨sb, 7, none⟩ = some (.string ⟨#[114, 111, 99, 107, 32, 101, 97, 114, 116, 104, 32, 117, 110, 105, 116, 32, 49, 32, 49, 47, 49, 32, 43, 103, 117, 97, 114, 100, 32, 43, 103, 117, 97, 114, 100]⟩) := HG.out.cell (block_cell HS15.out 7) (by simp)
      go_wp2_with fail
      refine (no_parse ⟨#[114, 111, 99, 107, 32, 101, 97, 114, 116, 104, 32, 117, 110, 105, 116, 32, 49, 32, 49, 47, 49, 32, 43, 103, 117, 97, 114, 100, 32, 43, 103, 117, 97, 114, 100]⟩ 160 no7 _ (HL.out.keep (grown_trans HG15.out HG.out))).mono ?_
      rintro e v1 ⟨⟨na, nn, rfl, NP⟩, gv⟩
      have HV : Hid (W15.grownBy (v1.alloc (.cells #[.string ⟨#[]⟩, .int .u8 0, .int .u8 0, .int .i64 0, .int .i64 0, .int .i64 0, .int .u16 0, .bool false, .slice na 0 nn] 40)) none) := grown_push (grown_trans HG.out gv) _
      have HNP : Hid (PsAt (v1.alloc (.cells #[.string ⟨#[]⟩, .int .u8 0, .int .u8 0, .int .i64 0, .int .i64 0, .int .i64 0, .int .u16 0, .bool false, .slice na 0 nn] 40)) (.slice na 0 nn) []) := NP.keep (World.grownBy_alloc _ _ none)
      clear gv NP ck
      go_wp2_with fail
      refine (sameCard_any Hd.none Hd.none (.slice na 0 nn) (.slice none 0 0) [] [] _ HNP.out (nil_at _) small_nil).mono ?_
      rintro e v2 ⟨rfl, gv⟩
      rw [sameHd_refl, samePs_refl]
      have HV2 : Hid (W15.grownBy v2 none) := grown_trans HV.out gv
      clear gv HV HNP
      go_wp2_with fail
      go_roundw
      case rel => exact ⟨8, by omega, by go_num, HV2.out⟩
      case measure => simp [intOf]
    · obtain ⟨i0, hi, hz0, hz1, hz2⟩ := info_parts Tryz.info5
      have HNr6 : Hid (CAt wr (c + 1 + 1 + 1 + 1 + 1 + 1 + 1) nT (.slice (some ⟨sp, 0, none⟩) 1 1)) := HNr5.out.keep HG.out
      have HNs6 : Hid (wr.heap[sp]? = some (.cells (pcells [pS]).toArray 29 (0, 0))) := grown_keep HG.out HNs5.out (by simp)
      have HPG6 : Hid (P8 wr gg 0 pG) := HPG5.out.keep HG.out
      have HGC6 : Hid (CAt wr qg golem.hd (.slice (some ⟨gg, 0, none⟩) 1 gn)) := HGC5.out.keep HG.out
      have HG6 : Hid (w.grownBy wr none) := grown_trans HG15.out HG.out
      clear HNr5 HNs5 HPG5 HGC5 HG HG15 HS15 hk
      go_wp2_with (at_make; refine wpList_make_full _ rfl _ _ 58 rfl wr.heap.size 5 i0 (.int .u8 0) 1 Tryz.underlying58 hi hz0 hz1 .i64 .i64 _ _ 512 rfl rfl rfl rfl (by rw [hz2]; decide) (by decide) (Nat.le_refl _) ?_; intro v1 o1 gv; have cz := conv_zs o1; have HV1 : Hid (wr.grownBy v1 none) := gv; clear o1 gv)
      refine (no_parse (zs 512) 160 (by rw [zs_list]; exact no_zeros (Nat.le_refl _)) _ (HL.out.keep (grown_trans HG6.out HV1.out))).mono ?_
      rintro e v2 ⟨⟨na, nn, rfl, -⟩, gv⟩
      have HV2 : Hid (wr.grownBy (v2.alloc (.cells #[.string ⟨#[]⟩, .int .u8 0, .int .u8 0, .int .i64 0, .int .i64 0, .int .i64 0, .int .u16 0, .bool false, .slice na 0 nn] 40)) none) := grown_push (grown_trans HV1.out gv) _
      obtain ⟨V2, hV2⟩ : ∃ X, X = v2.alloc (.cells #[.string ⟨#[]⟩, .int .u8 0, .int .u8 0, .int .i64 0, .int .i64 0, .int .i64 0, .int .u16 0, .bool false, .slice na 0 nn] 40) := ⟨_, rfl⟩
      rw [← hV2] at HV2
      clear gv HV1 cz
      go_upto_region 31 with fail
      rw [← hV2]
      clear hV2
      go_wp2_with (at_make; refine wpList_make_full _ rfl _ _ 58 rfl V2.heap.size 5 i0 (.int .u8 0) 1 Tryz.underlying58 hi hz0 hz1 .i64 .i64 _ _ 513 rfl rfl rfl rfl (by rw [hz2]; decide) (by decide) (Nat.le_refl _) ?_; intro v3 o3 gv; have cz := conv_zs o3; have HV3 : Hid (wr.grownBy v3 none) := grown_trans HV2.out gv; clear o3 gv)
      refine (no_parse (zs 513) 3 (by rw [zs_list]; exact long_zeros (by decide)) _ (HL.out.keep (grown_trans HG6.out HV3.out))).mono ?_
      rintro e v4 ⟨⟨nb, nm, rfl, -⟩, gv⟩
      have HV4 : Hid (wr.grownBy (v4.alloc (.cells #[.string ⟨#[]⟩, .int .u8 0, .int .u8 0, .int .i64 0, .int .i64 0, .int .i64 0, .int .u16 0, .bool false, .slice nb 0 nm] 40)) none) := grown_push (grown_trans HV3.out gv) _
      obtain ⟨V4, hV4⟩ : ∃ X, X = v4.alloc (.cells #[.string ⟨#[]⟩, .int .u8 0, .int .u8 0, .int .i64 0, .int .i64 0, .int .i64 0, .int .u16 0, .bool false, .slice nb 0 nm] 40) := ⟨_, rfl⟩
      rw [← hV4] at HV4
      clear gv HV3 cz HV2
      go_upto_region 32 with fail
      rw [← hV4]
      clear hV4
      go_wp2_with fail
      refine (awake_any _ (HL.out.keep (grown_trans HG6.out HV4.out))).mono ?_
      rintro e v5 ⟨rfl, gv⟩
      have HV5 : Hid (wr.grownBy v5 none) := grown_trans HV4.out gv
      clear gv HV4
      obtain ⟨c0, c1, c2, c3, c4, c5, c6, c7, c8⟩ := (HNr6.out.keep HV5.out).cells
      simp only [nT] at c0 c1 c2 c3 c4 c5 c6 c7 c8
      go_wp2_with fail
      refine (refused_yes nT (.slice (some ⟨sp, 0, none⟩) 1 1) [pS] 8 chkS (by decide) _ (HL.out.keep (grown_trans HG6.out HV5.out)) (ps_block (l := [pS]) (m := 1) (grown_keep HV5.out HNs6.out (by simp)) (by simp) (by simp)) (by unfold Small; simp)).mono ?_
      rintro e v6 ⟨rfl, gv⟩
      have HV6 : Hid (wr.grownBy v6 none) := grown_trans HV5.out gv
      clear gv HV5 c0 c1 c2 c3 c4 c5 c6 c7 c8
      have d8 := (HGC6.out.keep HV6.out).cells.2.2.2.2.2.2.2.2
      obtain ⟨p0, p1, p2, p3, p4, p5, p6, p7⟩ := HPG6.out.keep HV6.out
      simp only [pG, Nat.zero_add] at p0 p1 p2 p3 p4 p5 p6 p7
      have he := eql_part 4 2 1 1 0 0 0 ⟨#[]⟩ 4 2 1 1 0 0 0 ⟨#[]⟩
      rw [samep_yes rfl] at he
      have hg := eqg_part
      go_wp2
      go_ret
      exact ⟨rfl, grown_trans HG6.out HV6.out⟩
end Go.Proofs.YtpceelbphpfciaaGreatDoor
