/-
  What tells and what reads each field of a part: the five functions that tell a field's word, the five that read one.
-/
import Derived.Test.YtpceelbphpfciaaGreatDoorSu
import Derived.Test.YtpceelbphpfciaaGreatDoorTr
import Derived.Test.YtpceelbphpfciaaGreatDoorEq
import Derived.Laws.EntriesVeiled
namespace Go.Proofs.YtpceelbphpfciaaGreatDoor
open Go.RowKit

/-- What the program's text lays, and these calls lean on. -/
structure LaidAt (w : World) : Prop where
  su : SuitsAt w
  tr : TraitsAt w
  pw : PowAt w
  er : ErrsAt w
  ml : ∃ m, w.cell? ⟨2, 0, none⟩ = some (.int .i64 m)
theorem LaidAt.keep {w w' : World} (h : LaidAt w) (g : w.grownBy w' none) : LaidAt w' := ⟨h.su.keep g, h.tr.keep g, h.pw.keep g, h.er.keep g, h.ml.elim fun m e => ⟨m, g.cell e (by simp)⟩⟩
theorem LaidAt.big {w : World} (h : LaidAt w) : 7 < w.heap.size := by
  obtain ⟨_, _, _, _, h⟩ := h.er.2
  exact block_lt h
/-- A store into another block. -/
theorem LaidAt.set {w : World} (h : LaidAt w) {q : Nat} (hq : 7 < q) (i : Nat) (v : Value) : LaidAt (w.setCell ⟨q, i, none⟩ v) := by
  have g := grown_set w q i v
  obtain ⟨⟨a1, a2, a3, a4, a5, a6⟩, ⟨b1, b2, b3, b4, b5, b6, b7, b8⟩, ⟨t, z, c⟩, ⟨⟨te, pe, td, zd, d⟩, ⟨te', pe', tf, zf, e⟩⟩, ⟨m, f⟩⟩ := h
  have n0 : some 0 ≠ some q := by simp; omega
  have n1 : some 1 ≠ some q := by simp; omega
  have n2 : some 2 ≠ some q := by simp; omega
  have n3 : some 5 ≠ some q := by simp; omega
  have n4 : some 6 ≠ some q := by simp; omega
  have n5 : some 7 ≠ some q := by simp; omega
  exact ⟨⟨g.cell a1 n0, g.cell a2 n0, g.cell a3 n0, g.cell a4 n0, g.cell a5 n0, g.cell a6 n0⟩, ⟨g.cell b1 n1, g.cell b2 n1, g.cell b3 n1, g.cell b4 n1, g.cell b5 n1, g.cell b6 n1, g.cell b7 n1, g.cell b8 n1⟩, ⟨t, z, grown_keep g c n3⟩, ⟨⟨te, pe, td, zd, grown_keep g d n4⟩, ⟨te', pe', tf, zf, grown_keep g e n5⟩⟩, ⟨m, g.cell f n2⟩⟩

/-- What telling a text leans on: less than reading does. -/
structure LaidP (w : World) : Prop where
  su : SuitsAt w
  tr : TraitsAt w
  pw : PowAt w
  big : 7 < w.heap.size
theorem LaidP.keep {w w' : World} (h : LaidP w) (g : w.grownBy w' none) : LaidP w' := ⟨h.su.keep g, h.tr.keep g, h.pw.keep g, Nat.lt_of_lt_of_le h.big g.size⟩
theorem LaidAt.p {w : World} (h : LaidAt w) : LaidP w := ⟨h.su, h.tr, h.pw, h.big⟩
theorem LaidP.row {w w' : World} {r : Option Nat} (h : LaidP w) (g : w.grownBy w' r) (hr : ∀ x, r = some x → 7 < x) : LaidP w' := by
  have n : ∀ i, i ≤ 7 → some i ≠ r := fun i hi e => by have := hr i e.symm; omega
  obtain ⟨⟨a1, a2, a3, a4, a5, a6⟩, ⟨b1, b2, b3, b4, b5, b6, b7, b8⟩, ⟨t, z, c⟩, big⟩ := h
  have n0 := n 0 (by omega); have n1 := n 1 (by omega); have n5 := n 5 (by omega)
  exact ⟨⟨g.cell a1 n0, g.cell a2 n0, g.cell a3 n0, g.cell a4 n0, g.cell a5 n0, g.cell a6 n0⟩, ⟨g.cell b1 n1, g.cell b2 n1, g.cell b3 n1, g.cell b4 n1, g.cell b5 n1, g.cell b6 n1, g.cell b7 n1, g.cell b8 n1⟩, ⟨t, z, grown_keep g c n5⟩, Nat.lt_of_lt_of_le big g.size⟩

theorem sName_at {k : Int} (h : 1 ≤ k ∧ k ≤ 6) : sName k = ⟨(at1 suitW k).toArray⟩ := by
  rcases six_cases h with rfl | rfl | rfl | rfl | rfl | rfl <;> rfl
theorem tName_at {k : Int} (h : 1 ≤ k ∧ k ≤ 8) : tName k = ⟨(at1 traitW k).toArray⟩ := by
  rcases eight_cases h with rfl | rfl | rfl | rfl | rfl | rfl | rfl | rfl <;> rfl
theorem idx_none {l : List (List UInt8)} {x : List UInt8} (h : x ∉ l) : idx l x = 0 := by
  unfold idx
  rw [List.idxOf_eq_length h, if_neg (Nat.lt_irrefl _)]
theorem suI_idx (x : List UInt8) : suI x = (idx suitW x : Nat) ∧ suB x = !decide (idx suitW x = 0) := by
  by_cases h0 : suL 0 = x
  · subst h0; decide
  by_cases h1 : suL 1 = x
  · subst h1; decide
  by_cases h2 : suL 2 = x
  · subst h2; decide
  by_cases h3 : suL 3 = x
  · subst h3; decide
  by_cases h4 : suL 4 = x
  · subst h4; decide
  by_cases h5 : suL 5 = x
  · subst h5; decide
  have hn : x ∉ suitW := by
    intro hm
    simp only [suitW, List.mem_cons, List.not_mem_nil, or_false] at hm
    rcases hm with rfl | rfl | rfl | rfl | rfl | rfl
    · exact h0 rfl
    · exact h1 rfl
    · exact h2 rfl
    · exact h3 rfl
    · exact h4 rfl
    · exact h5 rfl
  rw [idx_none hn]
  simp [suI, suB, h0, h1, h2, h3, h4, h5]
theorem trI_idx (x : List UInt8) : trI x = (idx traitW x : Nat) ∧ trB x = !decide (idx traitW x = 0) := by
  by_cases h0 : trL 0 = x
  · subst h0; decide
  by_cases h1 : trL 1 = x
  · subst h1; decide
  by_cases h2 : trL 2 = x
  · subst h2; decide
  by_cases h3 : trL 3 = x
  · subst h3; decide
  by_cases h4 : trL 4 = x
  · subst h4; decide
  by_cases h5 : trL 5 = x
  · subst h5; decide
  by_cases h6 : trL 6 = x
  · subst h6; decide
  by_cases h7 : trL 7 = x
  · subst h7; decide
  have hn : x ∉ traitW := by
    intro hm
    simp only [traitW, List.mem_cons, List.not_mem_nil, or_false] at hm
    rcases hm with rfl | rfl | rfl | rfl | rfl | rfl | rfl | rfl
    · exact h0 rfl
    · exact h1 rfl
    · exact h2 rfl
    · exact h3 rfl
    · exact h4 rfl
    · exact h5 rfl
    · exact h6 rfl
    · exact h7 rfl
  rw [idx_none hn]
  simp [trI, trB, h0, h1, h2, h3, h4, h5, h6, h7]

set_option maxHeartbeats 1000000 in
theorem tell0_any (p : Pt) (h : -9223372036854775808 ≤ p.ct ∧ p.ct ≤ 9223372036854775807) (w : World) (L : LaidP w) : Calls Tryz.prog 116 #[pv p] w fun e w' => e = .returned (.string ⟨(tell p 0).toArray⟩) ∧ w.grownBy w' none := by
  have HL : Hid (LaidP w) := L
  unfold pv
  clear L
  go_enter Tryz.func116, Tryz.ntmps116
  go_wp2_with (go_at_call 81; refine (itoa_any _ h.1 h.2 _ (HL.out.keep (World.grownBy_alloc _ _ _)).pw).mono ?_; rintro e w1 ⟨rfl, g⟩)
  go_ret
  exact ⟨rfl, grown_trans (World.grownBy_alloc _ _ _) g⟩
set_option maxHeartbeats 1000000 in
theorem tell1_any (p : Pt) (h : 1 ≤ p.su ∧ p.su ≤ 6) (w : World) (L : LaidP w) : Calls Tryz.prog 118 #[pv p] w fun e w' => e = .returned (.string ⟨(tell p 1).toArray⟩) ∧ w.grownBy w' none := by
  have HL : Hid (LaidP w) := L
  have HS : Hid (sName p.su = ⟨(tell p 1).toArray⟩) := sName_at h
  unfold pv
  clear L h
  go_enter Tryz.func118, Tryz.ntmps118
  go_wp2_with (go_at_call 80; refine (sname_any _ _ (HL.out.keep (World.grownBy_alloc _ _ _)).su).mono ?_; rintro e w1 ⟨rfl, rfl⟩)
  go_ret
  exact ⟨by rw [← HS.out]; rfl, World.grownBy_alloc _ _ _⟩
set_option maxHeartbeats 1000000 in
theorem tell2_any (p : Pt) (h : 1 ≤ p.tr ∧ p.tr ≤ 8) (w : World) (L : LaidP w) : Calls Tryz.prog 120 #[pv p] w fun e w' => e = .returned (.string ⟨(tell p 2).toArray⟩) ∧ w.grownBy w' none := by
  have HL : Hid (LaidP w) := L
  have HS : Hid (tName p.tr = ⟨(tell p 2).toArray⟩) := tName_at h
  unfold pv
  clear L h
  go_enter Tryz.func120, Tryz.ntmps120
  go_wp2_with (go_at_call 83; refine (tname_any _ _ (HL.out.keep (World.grownBy_alloc _ _ _)).tr).mono ?_; rintro e w1 ⟨rfl, rfl⟩)
  go_ret
  exact ⟨by rw [← HS.out]; rfl, World.grownBy_alloc _ _ _⟩
set_option maxHeartbeats 1000000 in
theorem tell3_any (p : Pt) (h : 0 ≤ p.mr ∧ p.mr ≤ 255) (w : World) (L : LaidP w) : Calls Tryz.prog 122 #[pv p] w fun e w' => e = .returned (.string ⟨(tell p 3).toArray⟩) ∧ w.grownBy w' none := by
  have HL : Hid (LaidP w) := L
  have hw : IntKind.i64.wrap p.mr = p.mr := by unfold IntKind.wrap; simp [IntKind.bits, IntKind.signed]; omega
  have h1 : -9223372036854775808 ≤ p.mr := by omega
  have h2 : p.mr ≤ 9223372036854775807 := by omega
  unfold pv
  clear L h
  go_enter Tryz.func122, Tryz.ntmps122
  go_wp2_with (go_at_call 81; refine (itoa_any _ h1 h2 _ (HL.out.keep (World.grownBy_alloc _ _ _)).pw).mono ?_; rintro e w1 ⟨rfl, g⟩)
  go_ret
  exact ⟨rfl, grown_trans (World.grownBy_alloc _ _ _) g⟩
set_option maxHeartbeats 1000000 in
theorem tell4_any (p : Pt) (w : World) : Calls Tryz.prog 124 #[pv p] w fun e w' => e = .returned (.string ⟨(tell p 4).toArray⟩) ∧ w.grownBy w' none := by
  unfold pv
  go_enter Tryz.func124, Tryz.ntmps124
  go_wp2
  go_ret
  exact ⟨rfl, World.grownBy_alloc _ _ _⟩
/-- How reading a field ends. -/
def rdEnd (o : Option Pt) (q : Nat) (e : Ending) (w : World) : Prop := match o with
  | some p => e = .returned (.bool true) ∧ PAt w q p
  | none => e = .returned (.bool false) ∧ ∃ p, PAt w q p
theorem PAt.ct {w : World} {q : Nat} {p : Pt} (h : PAt w q p) (x : Int) : PAt (w.setCell ⟨q, 3, none⟩ (.int .i64 x)) q { p with ct := x } := block_set h 3 _
theorem PAt.su {w : World} {q : Nat} {p : Pt} (h : PAt w q p) (x : Int) : PAt (w.setCell ⟨q, 4, none⟩ (.int .u8 x)) q { p with su := x } := block_set h 4 _
theorem PAt.tr {w : World} {q : Nat} {p : Pt} (h : PAt w q p) (x : Int) : PAt (w.setCell ⟨q, 5, none⟩ (.int .u8 x)) q { p with tr := x } := block_set h 5 _
theorem PAt.mr {w : World} {q : Nat} {p : Pt} (h : PAt w q p) (x : Int) : PAt (w.setCell ⟨q, 6, none⟩ (.int .u8 x)) q { p with mr := x } := block_set h 6 _
theorem PAt.nm {w : World} {q : Nat} {p : Pt} (h : PAt w q p) (x : ByteArray) : PAt (w.setCell ⟨q, 7, none⟩ (.string x)) q { p with nm := x } := block_set h 7 _
theorem grown_some {a b : World} (h : a.grownBy b none) (q : Nat) : a.grownBy b (some q) := ⟨h.os, h.tape, h.output, h.size, fun k hk _ => h.block k hk (by simp)⟩
theorem iface_no (te : TypeId) (pe : Value) (w : World) : (binOp .eql 118 (.iface te pe) .nilIface).run Tryz.prog w = .ok (.bool false) w := by kernel_rfl
theorem iface_yes (w : World) : (binOp .eql 118 .nilIface .nilIface).run Tryz.prog w = .ok (.bool true) w := by kernel_rfl
set_option maxHeartbeats 2000000 in
theorem read0_any (s : ByteArray) (hs : s.size ≤ 100) (q : Nat) (p : Pt) (w : World) (L : LaidAt w) (A : PAt w q p) : Calls Tryz.prog 117 #[.pointer (some ⟨q, 0, none⟩), .string s] w fun e w' => rdEnd (rd1 0 s.data.toList p) q e w' ∧ w.grownBy w' (some q) := by
  have c := atoi_any s (by omega) w L.er
  have hn := iface_no
  have hy := iface_yes
  rcases h : Lib.atoiAll s.data.toList with v | _ | _
  · rw [h] at c
    rw [show rd1 0 s.data.toList p = some { p with ct := v } by simp [rd1, h]]
    have HA : Hid (PAt w q p) := A
    clear A L h
    go_enter Tryz.func117, Tryz.ntmps117
    go_wp2_with (go_at_call 154; refine c.mono ?_; rintro e W1 ⟨he, g⟩; simp only [numEnd] at he; subst he; have A1 := HA.out.keep g; have c3 := block_cell A1 3; have f3 := block_free A1 3; simp only [List.getElem?_toArray, List.getElem?_cons_zero, List.getElem?_cons_succ] at c3)
    go_ret
    exact ⟨⟨rfl, A1.ct v⟩, grown_trans (grown_some g q) (grown_set _ _ _ _)⟩
  · rw [h] at c
    rw [show rd1 0 s.data.toList p = none by simp [rd1, h]]
    have HA : Hid (PAt w q p) := A
    clear A L h
    go_enter Tryz.func117, Tryz.ntmps117
    go_wp2_with (go_at_call 154; refine c.mono ?_; rintro e W1 ⟨he, g⟩; simp only [numEnd] at he; obtain ⟨v, te, pe, rfl⟩ := he; have A1 := HA.out.keep g; have c3 := block_cell A1 3; have f3 := block_free A1 3; simp only [List.getElem?_toArray, List.getElem?_cons_zero, List.getElem?_cons_succ] at c3)
    go_ret
    exact ⟨⟨rfl, _, A1.ct v⟩, grown_trans (grown_some g q) (grown_set _ _ _ _)⟩
  · rw [h] at c
    rw [show rd1 0 s.data.toList p = none by simp [rd1, h]]
    have HA : Hid (PAt w q p) := A
    clear A L h
    go_enter Tryz.func117, Tryz.ntmps117
    go_wp2_with (go_at_call 154; refine c.mono ?_; rintro e W1 ⟨he, g⟩; simp only [numEnd] at he; obtain ⟨v, te, pe, rfl⟩ := he; have A1 := HA.out.keep g; have c3 := block_cell A1 3; have f3 := block_free A1 3; simp only [List.getElem?_toArray, List.getElem?_cons_zero, List.getElem?_cons_succ] at c3)
    go_ret
    exact ⟨⟨rfl, _, A1.ct v⟩, grown_trans (grown_some g q) (grown_set _ _ _ _)⟩
set_option maxHeartbeats 2000000 in
theorem read1_any (s : ByteArray) (q : Nat) (p : Pt) (w : World) (L : LaidAt w) (A : PAt w q p) : Calls Tryz.prog 119 #[.pointer (some ⟨q, 0, none⟩), .string s] w fun e w' => rdEnd (rd1 1 s.data.toList p) q e w' ∧ w.grownBy w' (some q) := by
  have HA : Hid (PAt w q p) := A
  have HL : Hid (LaidAt w) := L
  by_cases h : idx suitW s.data.toList = 0
  · rw [show rd1 1 s.data.toList p = none by simp [rd1, h]]
    have HB : Hid (suI s.toList = ((idx suitW s.data.toList : Nat) : Int) ∧ suB s.toList = false) := by
      rw [Lib.toList_data]
      have := suI_idx s.data.toList
      exact ⟨this.1, by rw [this.2]; simp [h]⟩
    clear A L h
    go_enter Tryz.func119, Tryz.ntmps119
    go_wp2_with (go_at_call 138; refine (sof_any s _ HL.out.su).mono ?_; rintro e W1 ⟨rfl, g⟩; rw [HB.out.1, HB.out.2]; have A1 := HA.out.keep g; have c3 := block_cell A1 4; have f3 := block_free A1 4; simp only [List.getElem?_toArray, List.getElem?_cons_zero, List.getElem?_cons_succ] at c3)
    go_ret
    exact ⟨⟨rfl, _, A1.su _⟩, grown_trans (grown_some g q) (grown_set _ _ _ _)⟩
  · rw [show rd1 1 s.data.toList p = some { p with su := ((idx suitW s.data.toList : Nat) : Int) } by simp [rd1, h]]
    have HB : Hid (suI s.toList = ((idx suitW s.data.toList : Nat) : Int) ∧ suB s.toList = true) := by
      rw [Lib.toList_data]
      have := suI_idx s.data.toList
      exact ⟨this.1, by rw [this.2]; simp [h]⟩
    clear A L h
    go_enter Tryz.func119, Tryz.ntmps119
    go_wp2_with (go_at_call 138; refine (sof_any s _ HL.out.su).mono ?_; rintro e W1 ⟨rfl, g⟩; rw [HB.out.1, HB.out.2]; have A1 := HA.out.keep g; have c3 := block_cell A1 4; have f3 := block_free A1 4; simp only [List.getElem?_toArray, List.getElem?_cons_zero, List.getElem?_cons_succ] at c3)
    go_ret
    exact ⟨⟨rfl, A1.su _⟩, grown_trans (grown_some g q) (grown_set _ _ _ _)⟩
set_option maxHeartbeats 2000000 in
theorem read2_any (s : ByteArray) (q : Nat) (p : Pt) (w : World) (L : LaidAt w) (A : PAt w q p) : Calls Tryz.prog 121 #[.pointer (some ⟨q, 0, none⟩), .string s] w fun e w' => rdEnd (rd1 2 s.data.toList p) q e w' ∧ w.grownBy w' (some q) := by
  have HA : Hid (PAt w q p) := A
  have HL : Hid (LaidAt w) := L
  by_cases h : idx traitW s.data.toList = 0
  · rw [show rd1 2 s.data.toList p = none by simp [rd1, h]]
    have HB : Hid (trI s.toList = ((idx traitW s.data.toList : Nat) : Int) ∧ trB s.toList = false) := by
      rw [Lib.toList_data]
      have := trI_idx s.data.toList
      exact ⟨this.1, by rw [this.2]; simp [h]⟩
    clear A L h
    go_enter Tryz.func121, Tryz.ntmps121
    go_wp2_with (go_at_call 155; refine (tof_any s _ HL.out.tr).mono ?_; rintro e W1 ⟨rfl, hw⟩; obtain rfl : w = W1 := hw.symm; have g := grown_refl w none; rw [HB.out.1, HB.out.2]; have A1 := HA.out.keep g; have c3 := block_cell A1 5; have f3 := block_free A1 5; simp only [List.getElem?_toArray, List.getElem?_cons_zero, List.getElem?_cons_succ] at c3)
    go_ret
    exact ⟨⟨rfl, _, A1.tr _⟩, grown_set _ _ _ _⟩
  · rw [show rd1 2 s.data.toList p = some { p with tr := ((idx traitW s.data.toList : Nat) : Int) } by simp [rd1, h]]
    have HB : Hid (trI s.toList = ((idx traitW s.data.toList : Nat) : Int) ∧ trB s.toList = true) := by
      rw [Lib.toList_data]
      have := trI_idx s.data.toList
      exact ⟨this.1, by rw [this.2]; simp [h]⟩
    clear A L h
    go_enter Tryz.func121, Tryz.ntmps121
    go_wp2_with (go_at_call 155; refine (tof_any s _ HL.out.tr).mono ?_; rintro e W1 ⟨rfl, hw⟩; obtain rfl : w = W1 := hw.symm; have g := grown_refl w none; rw [HB.out.1, HB.out.2]; have A1 := HA.out.keep g; have c3 := block_cell A1 5; have f3 := block_free A1 5; simp only [List.getElem?_toArray, List.getElem?_cons_zero, List.getElem?_cons_succ] at c3)
    go_ret
    exact ⟨⟨rfl, A1.tr _⟩, grown_set _ _ _ _⟩
set_option maxHeartbeats 2000000 in
theorem read3_any (s : ByteArray) (hs : s.size ≤ 100) (q : Nat) (p : Pt) (w : World) (L : LaidAt w) (A : PAt w q p) : Calls Tryz.prog 123 #[.pointer (some ⟨q, 0, none⟩), .string s] w fun e w' => rdEnd (rd1 3 s.data.toList p) q e w' ∧ w.grownBy w' (some q) := by
  have c := puint_any s (by omega) w L.er
  have hn := iface_no
  have hy := iface_yes
  have HA : Hid (PAt w q p) := A
  rcases h : Lib.parseUintB 8 s.data.toList with v | _ | _
  · rw [h] at c
    rw [show rd1 3 s.data.toList p = some { p with mr := (v : Nat) } by simp [rd1, h]]
    have hv : v ≤ 255 := Lib.parseUintB_le h
    have hw : IntKind.u8.wrap (v : Int) = (v : Int) := by unfold IntKind.wrap; simp [IntKind.bits, IntKind.signed]; omega
    clear A L h
    go_enter Tryz.func123, Tryz.ntmps123
    go_wp2_with (go_at_call 156; refine c.mono ?_; rintro e W1 ⟨he, g⟩; simp only [unumEnd] at he; subst he; have A1 := HA.out.keep g; have c3 := block_cell A1 6; have f3 := block_free A1 6; simp only [List.getElem?_toArray, List.getElem?_cons_zero, List.getElem?_cons_succ] at c3)
    go_ret
    exact ⟨⟨rfl, A1.mr _⟩, grown_trans (grown_some g q) (grown_set _ _ _ _)⟩
  · rw [h] at c
    rw [show rd1 3 s.data.toList p = none by simp [rd1, h]]
    clear A L h
    go_enter Tryz.func123, Tryz.ntmps123
    go_wp2_with (go_at_call 156; refine c.mono ?_; rintro e W1 ⟨he, g⟩; simp only [unumEnd] at he; obtain ⟨v, te, pe, rfl⟩ := he; have A1 := HA.out.keep g; have c3 := block_cell A1 6; have f3 := block_free A1 6; simp only [List.getElem?_toArray, List.getElem?_cons_zero, List.getElem?_cons_succ] at c3)
    go_ret
    exact ⟨⟨rfl, _, A1.mr _⟩, grown_trans (grown_some g q) (grown_set _ _ _ _)⟩
  · rw [h] at c
    rw [show rd1 3 s.data.toList p = none by simp [rd1, h]]
    clear A L h
    go_enter Tryz.func123, Tryz.ntmps123
    go_wp2_with (go_at_call 156; refine c.mono ?_; rintro e W1 ⟨he, g⟩; simp only [unumEnd] at he; obtain ⟨v, te, pe, rfl⟩ := he; have A1 := HA.out.keep g; have c3 := block_cell A1 6; have f3 := block_free A1 6; simp only [List.getElem?_toArray, List.getElem?_cons_zero, List.getElem?_cons_succ] at c3)
    go_ret
    exact ⟨⟨rfl, _, A1.mr _⟩, grown_trans (grown_some g q) (grown_set _ _ _ _)⟩
set_option maxHeartbeats 2000000 in
theorem read4_any (s : ByteArray) (hs : s.size ≤ 100) (q : Nat) (p : Pt) (w : World) (A : PAt w q p) : Calls Tryz.prog 125 #[.pointer (some ⟨q, 0, none⟩), .string s] w fun e w' => rdEnd (rd1 4 s.data.toList p) q e w' ∧ w.grownBy w' (some q) := by
  have HA : Hid (PAt w q p) := A
  rw [show rd1 4 s.data.toList p = some { p with nm := s } from by simp [rd1]]
  clear A
  go_enter Tryz.func125, Tryz.ntmps125
  go_wp2_with (go_at_call 140; refine (clone_any s (by omega) _).mono ?_; rintro e W1 ⟨rfl, g⟩; have A1 := HA.out.keep g; have c3 := block_cell A1 7; have f3 := block_free A1 7; simp only [List.getElem?_toArray, List.getElem?_cons_zero, List.getElem?_cons_succ] at c3)
  go_ret
  exact ⟨⟨rfl, A1.nm _⟩, grown_trans (grown_some g q) (grown_set _ _ _ _)⟩
end Go.Proofs.YtpceelbphpfciaaGreatDoor
