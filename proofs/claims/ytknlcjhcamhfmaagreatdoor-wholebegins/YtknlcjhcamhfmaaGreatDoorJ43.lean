/-
  A book of all six tells what the document's tells.
  Pointers to books, compared.
  WholeStands, walked.
  What trait's table of names holds when the call begins, as the row says it; a start that meets it.
-/
import Derived.Test.YtknlcjhcamhfmaaGreatDoorJ42
import Derived.Test.YtknlcjhcamhfmaaGreatDoorJ11
import Derived.Test.YtknlcjhcamhfmaaGreatDoorJ6
import Derived.Test.YtknlcjhcamhfmaaGreatDoorB4
import Derived.Test.YtknlcjhcamhfmaaGreatDoorJ27
import Derived.Test.YtknlcjhcamhfmaaGreatDoorJ25
import Derived.Test.YtknlcjhcamhfmaaGreatDoorJ13
import Derived.LaidEql
import Derived.Test.YtknlcjhcamhfmaaGreatDoorB13
import Derived.Test.YtknlcjhcamhfmaaGreatDoorJ22
import Derived.Test.YtknlcjhcamhfmaaGreatDoorRows
import Derived.ProofKit
import Derived.OpenShut
import Derived.ChangeSame
import Derived.ChangeVars
import Derived.JoinedOf
import Derived.LaidLaws
namespace Go.Proofs.YtknlcjhcamhfmaaGreatDoor
open Go.RowKit

theorem eqn_mk (a0 a2 a3 : Int) (s : ByteArray) (w : World) : (binOp .neq 60 (.agg #[.int .u8 a0, .string s, .int .i64 a2, .int .i64 a3]) (.agg #[.int .u8 a0, .string s, .int .i64 a2, .int .i64 a3])).run Tryz.prog w = .ok (.bool false) w := by
  have hS : Tryz.prog.underlying 60 = some (.struct (Tryz.prog.fieldsOf 60)) := by kernel_rfl
  have hp : Tryz.prog.stoodInHeld 60 = false := by kernel_rfl
  have u3 := Tryz.underlying3
  have i3 := Tryz.isAgg3
  have z3 := Tryz.sizeOf3
  have u9 := Tryz.underlying9
  have i9 := Tryz.isAgg9
  have z9 := Tryz.sizeOf9
  have u28 := Tryz.underlying58
  have i28 := Tryz.isAgg58
  have z28 := Tryz.sizeOf58
  rw [run_neq_struct, show (10000 : Nat) = 9999 + 1 from rfl, run_equalIn_agg w 9999 60 _ _ hS hp]
  simp only [Program.fieldsOf, Tryz.underlying60]
  go_simp
/-- What both books tell of a number. -/
structure Told (w : World) (b r : Nat) (n : Nat) (h : Hd) (ps : List Pt) (er kN kE : Int) (hB : Bool) : Prop where
  a : ∀ W, w.grownBy W none → Calls Tryz.prog 46 #[.pointer (some ⟨b, 0, none⟩), .int .i64 (n : Int)] W fun e w' => ∃ u, e = .returned (.tuple #[cv h u, .int .i64 er]) ∧ POwn w' W.heap.size u ps ∧ W.grownBy w' none
  d : ∀ W, w.grownBy W none → Calls Tryz.prog 47 #[.pointer (some ⟨r, 0, none⟩), .int .i64 (n : Int)] W fun e w' => ∃ u, e = .returned (.tuple #[cv h u, .int .i64 er]) ∧ POwn w' W.heap.size u ps ∧ W.grownBy w' none
  f : ∀ W, w.grownBy W none → Calls Tryz.prog 49 #[.pointer (some ⟨b, 0, none⟩), .string h.nm] W fun e w' => e = .returned (.tuple #[.int .i64 kN, .int .i64 kE]) ∧ W.grownBy w' none
  hs : ∀ W, w.grownBy W none → Calls Tryz.prog 50 #[.pointer (some ⟨b, 0, none⟩), .string h.nm] W fun e w' => e = .returned (.bool hB) ∧ W.grownBy w' none
  four : ps.length ≤ 4
  is : er = 6 ∨ (er = 0 ∧ kN = (n : Int) ∧ kE = 0 ∧ hB = true)
theorem told_any {w : World} {b r : Nat} {v : Value} {es fs : List Ent} (F : FB w b es) (R : RF w r v fs) (n : Nat) : ∃ h ps er kN kE hB, Told w b r n h ps er kN kE hB := by
  have hsame : es.map hp = fs.map hp := F.row.trans R.row.symm
  by_cases hn : atIn pShut es (n : Int)
  · obtain ⟨hs, h1, h2⟩ := hn
    obtain ⟨m, rfl⟩ : ∃ m : Nat, n = m + 1 := ⟨n - 1, by omega⟩
    obtain ⟨e0, he⟩ : ∃ e, es[m]? = some e := ⟨_, List.getElem?_eq_getElem (by omega)⟩
    obtain ⟨f0, hf, h3, h4⟩ := hp_at hsame he
    have hl : e0.ps.length ≤ 4 := F.book.parts e0 (List.mem_of_getElem? he)
    have hpos := pos_at (full_nod F.row) he
    refine ⟨e0.h, e0.ps, 0, (m : Int) + 1, 0, true, ⟨fun W g => ?_, fun W g => ?_, fun W g => ?_, fun W g => ?_, hl, Or.inr ⟨rfl, by omega, rfl, rfl⟩⟩⟩
    · have h9 := at_in (fun k => b < k) b es pShut m e0 W (F.keep g).book.lies (F.keep g).book.good rfl he hl
      rw [show ((m + 1 : Nat) : Int) = (m : Int) + 1 by omega]
      exact h9
    · have h9 := rat_in (fun k => r < k) r v pShut fs m f0 W (R.keep g).book.rj (R.keep g).book.rl (R.keep g).book.len (R.keep g).book.good rfl hf (by rw [h4]; exact hl)
      rw [h3, h4] at h9
      rw [show ((m + 1 : Nat) : Int) = (m : Int) + 1 by omega]
      exact h9
    · have h9 := find_yes b es pShut e0.h.nm W (F.keep g).book.lies (F.keep g).book.good.slc
      rw [hpos, show fndN pShut.shut (m : Int) = (m : Int) + 1 from (fnd_yes (by omega)).1, show fndE pShut.shut (m : Int) = 0 from (fnd_yes (by omega)).2] at h9
      exact h9
    · have h9 := has_yes b es pShut e0.h.nm W (F.keep g).book.lies (F.keep g).book.good.slc
      rw [hpos, show decide ((0 : Int) ≤ (m : Int)) = true from decide_eq_true (by omega)] at h9
      exact h9
  · refine ⟨Hd.none, [], 6, _, _, _, ⟨fun W g => ?_, fun W g => ?_, fun W g => find_yes b es pShut Hd.none.nm W (F.keep g).book.lies (F.keep g).book.good.slc, fun W g => has_yes b es pShut Hd.none.nm W (F.keep g).book.lies (F.keep g).book.good.slc, by decide, Or.inl rfl⟩⟩
    · exact (at_out b es pShut n W (F.keep g).book.lies hn).mono fun e w' h => ⟨_, h.1, ⟨rfl, Or.inl ⟨rfl, rfl⟩⟩, h.2⟩
    · exact (rat_out r v pShut fs n W (R.keep g).book.rj (R.keep g).book.rl (fun h => hn ((hp_in hsame pShut n).2 h))).mono fun e w' h => ⟨_, h.1, ⟨rfl, Or.inl ⟨rfl, rfl⟩⟩, h.2⟩
set_option maxRecDepth 100000 in
set_option maxHeartbeats 16000000 in
theorem same14 (b r : Nat) (v : Value) (es fs : List Ent) (w : World) (F : FB w b es) (R : RF w r v fs) : Calls Tryz.prog 15 #[.pointer (some ⟨b, 0, none⟩), .pointer (some ⟨r, 0, none⟩)] w fun e w' => e = .returned (.bool true) ∧ w.grownBy w' none := by
  have HF : Hid (FB w b es) := F
  have HR : Hid (RF w r v fs) := R
  have C1 := sealed_yes b es.length pShut w F.book.lies.flags
  have C2 := len_yes b 36 (by decide) pShut w (by have h9 := F.book.lies.flags; rw [F.len] at h9; exact h9)
  have C3 : ∀ W, w.grownBy W none → Calls Tryz.prog 45 #[.pointer (some ⟨r, 0, none⟩)] W fun e w' => e = .returned (.int .i64 36) ∧ w' = W := fun W g => by
    have h9 := rlen_any r v pShut fs W (R.keep g).book.rj (R.keep g).book.rl
    rw [full_len R.row] at h9
    exact h9
  have HC3 : Hid (∀ W, w.grownBy W none → Calls Tryz.prog 45 #[.pointer (some ⟨r, 0, none⟩)] W fun e w' => e = .returned (.int .i64 36) ∧ w' = W) := C3
  rw [show pShut.shut = true from rfl] at C1
  rw [show ((36 : Nat) : Int) = (36 : Int) from rfl] at C2
  have sm38 : Small 38 := by unfold Small; decide
  have sm10 : Small 10 := by unfold Small; decide
  clear F R C3
  go_enter Tryz.func15, Tryz.ntmps15
  go_wp2_with fail
  refine C1.mono ?_
  rintro e W1 ⟨rfl, h1⟩
  obtain rfl : w = W1 := h1.symm
  clear C1
  go_wp2_with fail
  refine C2.mono ?_
  rintro e W2 ⟨rfl, g2, _⟩
  have HG2 : Hid (w.grownBy W2 none) := g2
  clear C2 g2
  go_wp2_with fail
  refine (HC3.out W2 HG2.out).mono ?_
  rintro e W3 ⟨rfl, h3⟩
  obtain rfl : W2 = W3 := h3.symm
  go_wp2_with fail
  go_loopw [5] (fun x wr => ∃ n : Nat, n ≤ 38 ∧ x = .int .i64 (n : Int) ∧ w.grownBy wr none) (fun x _ => 38 - (intOf x).toNat)
  case atStart => exact ⟨0, Nat.zero_le _, rfl, HG2.out⟩
  case round =>
    clear HG2
    obtain ⟨n, hn, rfl, Gr⟩ := hrel
    obtain ⟨U, hU⟩ : ∃ U, U = wr := ⟨_, rfl⟩
    subst hU
    have HG : Hid (w.grownBy U none) := Gr
    clear Gr
    go_wp2_with fail
    refine (HC3.out U HG.out).mono ?_
    rintro e U1 ⟨rfl, h3⟩
    obtain rfl : U = U1 := h3.symm
    rcases (show n < 38 ∨ n = 38 from by omega) with h1 | h1
    · have h1' : (n : Int) ≤ 37 := by omega
      obtain ⟨h, ps, er, kN, kE, hB, TO⟩ := told_any HF.out HR.out n
      have HT : Hid (Told w b r n h ps er kN kE hB) := TO
      clear TO
      obtain ⟨nm, su, kd, co, po, he, tr, tk⟩ := h
      have hsm : Small ps.length := by have := HT.out.four; unfold Small; omega
      go_wp2_with fail
      refine (HT.out.a U HG.out).mono ?_
      rintro e U2 ⟨u, rfl, O2, g2⟩
      obtain ⟨xa, ya, rfl⟩ : ∃ xa ya, u = .slice xa ps.length ya := O2.at.form
      obtain ⟨U3, hU3⟩ : ∃ U3, U3 = U2.alloc (.cells (ccs ⟨nm, su, kd, co, po, he, tr, tk⟩ (.slice xa ps.length ya)) 56) := ⟨_, rfl⟩
      have G3 : U.grownBy U3 none := by rw [hU3]; exact grown_push g2 _
      have HG3 : Hid (w.grownBy U3 none) := grown_trans HG.out G3
      have HP3 : Hid (PsAt U3 (.slice xa ps.length ya) ps) := by rw [hU3]; exact O2.at.keep (World.grownBy_alloc _ _ none)
      have HK3 : Hid (CAt U3 U2.heap.size ⟨nm, su, kd, co, po, he, tr, tk⟩ (.slice xa ps.length ya)) := by rw [hU3]; exact alloc_at _ _ _
      clear O2 g2 G3 HG
      unfold cv
      unfold ccs at hU3
      simp only at hU3
      go_upto_region 7 with fail
      rw [← hU3]
      clear hU3
      go_wp2_with fail
      refine (HT.out.d U3 HG3.out).mono ?_
      rintro e U4 ⟨u, rfl, O4, g4⟩
      obtain ⟨xb, yb, rfl⟩ : ∃ xb yb, u = .slice xb ps.length yb := O4.at.form
      obtain ⟨U5, hU5⟩ : ∃ U5, U5 = U4.alloc (.cells (ccs ⟨nm, su, kd, co, po, he, tr, tk⟩ (.slice xb ps.length yb)) 56) := ⟨_, rfl⟩
      have G5 : U3.grownBy U5 none := by rw [hU5]; exact grown_push g4 _
      have HG5 : Hid (w.grownBy U5 none) := grown_trans HG3.out G5
      have P5 : PsAt U5 (.slice xb ps.length yb) ps := by rw [hU5]; exact O4.at.keep (World.grownBy_alloc _ _ none)
      have K5 : CAt U5 U4.heap.size ⟨nm, su, kd, co, po, he, tr, tk⟩ (.slice xb ps.length yb) := by rw [hU5]; exact alloc_at _ _ _
      have HK5 : Hid (CAt U5 U4.heap.size ⟨nm, su, kd, co, po, he, tr, tk⟩ (.slice xb ps.length yb)) := K5
      have KA := HK3.out.keep G5
      have HSC := sameCard_any ⟨nm, su, kd, co, po, he, tr, tk⟩ ⟨nm, su, kd, co, po, he, tr, tk⟩ _ _ ps ps U5 (HP3.out.keep G5) P5 hsm
      rw [sameHd_refl, samePs_refl] at HSC
      obtain ⟨a0, a1, a2, a3, a4, a5, a6, a7, a8⟩ := KA.cells
      obtain ⟨b0, b1, b2, b3, b4, b5, b6, b7, b8⟩ := K5.cells
      simp only at a0 a1 a2 a3 a4 a5 a6 a7 a8 b0 b1 b2 b3 b4 b5 b6 b7 b8
      unfold cv at HSC
      simp only at HSC
      clear O4 g4 G5 P5 K5 KA HP3 HK3 HG3
      unfold cv
      unfold ccs at hU5
      simp only at hU5
      go_upto_region 8 with fail
      rw [← hU5]
      clear hU5
      go_wp2_with fail
      refine HSC.mono ?_
      rintro e U6 ⟨rfl, g6⟩
      have HG6 : Hid (w.grownBy U6 none) := grown_trans HG5.out g6
      have HK6 : Hid (CAt U6 U4.heap.size ⟨nm, su, kd, co, po, he, tr, tk⟩ (.slice xb ps.length yb)) := HK5.out.keep g6
      have n6 := HK6.out.cells.1
      simp only at n6
      clear g6 HSC a0 a1 a2 a3 a4 a5 a6 a7 a8 b0 b1 b2 b3 b4 b5 b6 b7 b8 HG5 HK5
      go_wp2_with fail
      refine (HT.out.f U6 HG6.out).mono ?_
      rintro e U7 ⟨rfl, g7⟩
      have HG7 : Hid (w.grownBy U7 none) := grown_trans HG6.out g7
      have n7 := (HK6.out.keep g7).cells.1
      simp only at n7
      clear g7 n6 HG6 HK6
      have hI := HT.out.is
      rcases hI with hI | ⟨hI, hI2, hI3, hI4⟩
      · subst hI
        go_wp2_with fail
        go_roundw
        case rel => exact ⟨n + 1, h1, by first | rfl | (rw [sm38.wrap h1]; rfl), HG7.out⟩
        case measure => first | exact meas_next h1 | (rw [sm38.wrap h1]; exact meas_next h1)
      · have CH := HT.out.hs U7 HG7.out
        rw [hI4] at CH
        subst hI hI2 hI3
        clear hI4
        go_wp2_with fail
        refine CH.mono ?_
        rintro e U8 ⟨rfl, g8⟩
        have HG8 : Hid (w.grownBy U8 none) := grown_trans HG7.out g8
        clear g8 CH n7 HG7
        go_wp2_with fail
        go_roundw
        case rel => exact ⟨n + 1, h1, by first | rfl | (rw [sm38.wrap h1]; rfl), HG8.out⟩
        case measure => first | exact meas_next h1 | (rw [sm38.wrap h1]; exact meas_next h1)
    have h1' : ¬ (n : Int) ≤ 37 := by omega
    clear h1
    go_wp2_with fail
    go_loopw [12] (fun x wr => ∃ n : Nat, n ≤ 10 ∧ x = .int .i64 (n : Int) ∧ w.grownBy wr none) (fun x _ => 10 - (intOf x).toNat)
    case atStart => exact ⟨0, Nat.zero_le _, rfl, HG.out⟩
    case round =>
      clear HG h1'
      obtain ⟨t, hn, rfl, Gr⟩ := hrel
      obtain ⟨U, hU⟩ : ∃ U, U = wr := ⟨_, rfl⟩
      subst hU
      have HG : Hid (w.grownBy U none) := Gr
      clear Gr
      rcases (show t < 10 ∨ t = 10 from by omega) with h1 | h1
      · have h1' : (t : Int) < 10 := by omega
        have hw8 : IntKind.u8.wrap (t : Int) = (t : Int) := by rw [IntKind.wrap_u8]; omega
        have C1 := traitName_yes b es pShut (t : Int) (by omega) U (HF.out.keep HG.out).book.lies
        have C2 := rtraitName_any r v pShut t U (HR.out.keep HG.out).book.rj (by omega) HR.out.book.zero
        have C3 := markOf_yes b es pShut (t : Int) (by omega) U (HF.out.keep HG.out).book.lies
        have C4 := fun W (g : w.grownBy W none) => rmarkOf_any r v pShut t W (HR.out.keep g).book.rj (by omega) HR.out.book.mkd
        obtain ⟨N, hN⟩ : ∃ N, N = tnS pShut (t : Int) := ⟨_, rfl⟩
        obtain ⟨E, hE⟩ : ∃ E, E = tnB pShut (t : Int) := ⟨_, rfl⟩
        obtain ⟨⟨k0, k1, k2, k3⟩, hM⟩ : ∃ M, M = moM pShut (t : Int) := ⟨_, rfl⟩
        obtain ⟨D, hD⟩ : ∃ D, D = moB pShut (t : Int) := ⟨_, rfl⟩
        rw [← hN, ← hE] at C1 C2
        rw [← hM, ← hD] at C3 C4
        have HC4 : Hid (∀ W, w.grownBy W none → Calls Tryz.prog 54 #[.pointer (some ⟨r, 0, none⟩), .int .u8 (t : Int)] W fun e w' => e = .returned (.tuple #[mv ⟨k0, k1, k2, k3⟩, .bool D]) ∧ W.grownBy w' none) := C4
        clear hN hE hM hD C4
        unfold mv at C3 HC4
        have E1 := eqg_mk
        have E2 := eqn_mk k0 k2 k3 k1
        simp only at C3 HC4
        go_wp2_with fail
        refine C1.mono ?_
        rintro e U1 ⟨rfl, h9⟩
        obtain rfl : U = U1 := h9.symm
        clear C1
        go_wp2_with fail
        refine C2.mono ?_
        rintro e U2 ⟨rfl, h9⟩
        obtain rfl : U = U2 := h9.symm
        clear C2
        go_wp2_with fail
        refine C3.mono ?_
        rintro e U3 ⟨rfl, g3⟩
        obtain ⟨U4, hU4⟩ : ∃ U4, U4 = U3.alloc (.cells #[.int .u8 k0, .string k1, .int .i64 k2, .int .i64 k3] 60) := ⟨_, rfl⟩
        have HG4 : Hid (w.grownBy U4 none) := by show w.grownBy U4 none; rw [hU4]; exact grown_push (grown_trans HG.out g3) _
        have HM4 : Hid (U4.heap[U3.heap.size]? = some (.cells #[.int .u8 k0, .string k1, .int .i64 k2, .int .i64 k3] 60 (0, 0))) := by rw [hU4]; exact alloc_at _ _ _
        clear C3 g3 HG
        go_upto_region 19 with fail
        rw [← hU4]
        clear hU4
        go_wp2_with fail
        refine (HC4.out U4 HG4.out).mono ?_
        rintro e U5 ⟨rfl, g5⟩
        obtain ⟨U6, hU6⟩ : ∃ U6, U6 = U5.alloc (.cells #[.int .u8 k0, .string k1, .int .i64 k2, .int .i64 k3] 60) := ⟨_, rfl⟩
        have G6 : U4.grownBy U6 none := by rw [hU6]; exact grown_push g5 _
        have HG6 : Hid (w.grownBy U6 none) := grown_trans HG4.out G6
        have A6 := grown_keep G6 HM4.out (by simp)
        have B6 : U6.heap[U5.heap.size]? = some (.cells #[.int .u8 k0, .string k1, .int .i64 k2, .int .i64 k3] 60 (0, 0)) := by rw [hU6]; exact alloc_at _ _ _
        have a0 : U6.cell? ⟨U3.heap.size, 0, none⟩ = some (.int .u8 k0) := block_cell A6 0
        have a1 : U6.cell? ⟨U3.heap.size, 1, none⟩ = some (.string k1) := block_cell A6 1
        have a2 : U6.cell? ⟨U3.heap.size, 2, none⟩ = some (.int .i64 k2) := block_cell A6 2
        have a3 : U6.cell? ⟨U3.heap.size, 3, none⟩ = some (.int .i64 k3) := block_cell A6 3
        have b0 : U6.cell? ⟨U5.heap.size, 0, none⟩ = some (.int .u8 k0) := block_cell B6 0
        have b1 : U6.cell? ⟨U5.heap.size, 1, none⟩ = some (.string k1) := block_cell B6 1
        have b2 : U6.cell? ⟨U5.heap.size, 2, none⟩ = some (.int .i64 k2) := block_cell B6 2
        have b3 : U6.cell? ⟨U5.heap.size, 3, none⟩ = some (.int .i64 k3) := block_cell B6 3
        clear g5 G6 A6 B6 HM4 HG4 HC4
        go_upto_region 20 with fail
        rw [← hU6]
        clear hU6
        go_wp2_with fail
        go_roundw
        case rel => exact ⟨t + 1, h1, by first | rfl | (rw [sm10.wrap h1]; rfl), HG6.out⟩
        case measure => first | exact meas_next h1 | (rw [sm10.wrap h1]; exact meas_next h1)
      · have h1' : ¬ (t : Int) < 10 := by omega
        clear h1
        go_wp2
        go_ret
        exact ⟨rfl, HG.out⟩
end Go.Proofs.YtknlcjhcamhfmaaGreatDoor
namespace Go.Proofs.YtknlcjhcamhfmaaGreatDoor
open Go.RowKit

theorem ptr_in {P : Program} (w : World) (d : Nat) {t te : TypeId} {j : TypeInfo} {a b : Addr} {ca cb : Array Value} {ta tb : TypeId} (hp : P.underlying t = some (.pointer te)) (hte : P.info? te = some j) (hsz : j.size ≠ 0) (hne : a ≠ b) (ha : w.heap[a.block]? = some (.cells ca ta (0, 0))) (hb : w.heap[b.block]? = some (.cells cb tb (0, 0))) : (Op.equalIn (d + 1) t (.pointer (some a)) (.pointer (some b))).run P w = .ok false w := by
  simp [Op.equalIn, run_underlying hp, typeInfo, sizeOf, hte, hsz, run_sameAddr_other w hne ha hb]
theorem book_info : ∃ j, Tryz.prog.info? 109 = some j ∧ j.size ≠ 0 := by
  have h : (Tryz.prog.info? 109).map (·.size) = some 608 := by kernel_rfl
  cases hj : Tryz.prog.info? 109 with
  | none => rw [hj] at h; cases h
  | some j =>
    rw [hj] at h
    refine ⟨j, rfl, ?_⟩
    have h2 : j.size = 608 := by simpa using h
    omega
theorem ptr_other {w : World} {a b : Nat} {ea eb : List Ent} {p q : Pl} (h : ¬ a = b) (A : BkIn w a ea p) (B : BkIn w b eb q) (d : Nat) : (Op.equalIn (d + 1) 24 (.pointer (some ⟨a, 0, none⟩)) (.pointer (some ⟨b, 0, none⟩))).run Tryz.prog w = .ok false w := by
  obtain ⟨j, hj, hs⟩ := book_info
  obtain ⟨j1, J1⟩ := A
  obtain ⟨j2, J2⟩ := B
  exact ptr_in w d Tryz.underlying24 hj hs (fun e => h (by injection e)) J1.lies J2.lies
theorem ptr_eql {w : World} {a b : Nat} {ea eb : List Ent} {p q : Pl} (h : ¬ a = b) (A : BkIn w a ea p) (B : BkIn w b eb q) : (binOp .eql 24 (.pointer (some ⟨a, 0, none⟩)) (.pointer (some ⟨b, 0, none⟩))).run Tryz.prog w = .ok (.bool false) w := by
  simp only [binOp]
  simp [Op.equal, Op.maxDepth, ptr_other h A B 9999]
theorem ptr_neq {w : World} {a b : Nat} {ea eb : List Ent} {p q : Pl} (h : ¬ a = b) (A : BkIn w a ea p) (B : BkIn w b eb q) : (binOp .neq 24 (.pointer (some ⟨a, 0, none⟩)) (.pointer (some ⟨b, 0, none⟩))).run Tryz.prog w = .ok (.bool true) w := by
  simp only [binOp]
  simp [Op.equal, Op.maxDepth, ptr_other h A B 9999]
end Go.Proofs.YtknlcjhcamhfmaaGreatDoor
namespace Go.Proofs.YtknlcjhcamhfmaaGreatDoor
open Go.RowKit

theorem same_full {w : World} {a b : Nat} {ea eb : List Ent} (A : FB w a ea) (B : FB w b eb) : Calls Tryz.prog 17 #[.pointer (some ⟨a, 0, none⟩), .pointer (some ⟨b, 0, none⟩)] w fun e w' => e = .returned (.bool true) ∧ w.grownBy w' none := by
  have h := same_yes _ _ a b ea eb pShut pShut w A.book.lies B.book.lies A.book.good B.book.good A.book.fine B.book.fine A.book.parts
  rw [hp_eqE (A.row.trans B.row.symm), A.len, B.len, samePl_refl] at h
  exact h
theorem seal_full7 {w : World} {a : Nat} {ea : List Ent} (A : FB w a ea) : Calls Tryz.prog 18 #[.pointer (some ⟨a, 0, none⟩)] w fun e w' => e = .returned (.int .i64 7) ∧ FB w' a ea ∧ w.grownBy w' (some a) := by
  have h := bseal (fun k => a < k) a ea pShut w A.book (Nat.lt_irrefl a)
  rw [show sealE pShut ea = 7 from if_pos rfl, show sealP pShut ea = pShut from by unfold sealP; rw [show sealE pShut ea = 7 from if_pos rfl]; rfl] at h
  exact h.mono fun e w' ⟨h1, h2, h3⟩ => ⟨h1, ⟨h2, A.row⟩, h3⟩
set_option maxRecDepth 100000 in
set_option maxHeartbeats 8000000 in
theorem stands_any (w : World) (N : NamesAt w) : Calls Tryz.prog 4 #[] w fun e w' => e = .returned (.bool true) ∧ w.grownBy w' none := by
  have HN : Hid (NamesAt w) := N
  clear N
  go_enter Tryz.func4, Tryz.ntmps4
  go_wp2_with fail
  refine (book_any w HN.out).mono ?_
  rintro e W1 ⟨a, ea, rfl, A1, la, g1⟩
  have HA1 : Hid (FB W1 a ea) := A1
  have Hla : Hid (w.heap.size ≤ a) := la
  have HG1 : Hid (w.grownBy W1 none) := g1
  clear A1 la g1
  go_wp2_with fail
  refine (book_any W1 (HN.out.keep HG1.out)).mono ?_
  rintro e W2 ⟨b, eb, rfl, B2, lb, g2⟩
  have HA2 : Hid (FB W2 a ea) := HA1.out.keep g2
  have HB2 : Hid (FB W2 b eb) := B2
  have HG2 : Hid (w.grownBy W2 none) := grown_trans HG1.out g2
  have hab : a < b := Nat.lt_of_lt_of_le HA1.out.book.lt lb
  have hne : ¬ a = b := by omega
  have hq := ptr_eql hne HA2.out.book.lies HB2.out.book.lies
  clear B2 lb g2 HA1 HG1
  go_wp2_with fail
  clear hq
  refine (rbook_any W2).mono ?_
  rintro e W3 ⟨r, v, fs, rfl, R3, _, g3⟩
  have HG3 : Hid (w.grownBy W3 none) := grown_trans HG2.out g3
  have HA3 : Hid (FB W3 a ea) := HA2.out.keep g3
  have HB3 : Hid (FB W3 b eb) := HB2.out.keep g3
  have HR3 : Hid (RF W3 r v fs) := R3
  clear R3 g3 HA2 HB2 HG2
  go_wp2_with fail
  refine (same14 a r v ea fs W3 HA3.out HR3.out).mono ?_
  rintro e W4 ⟨rfl, g4⟩
  have HG4 : Hid (w.grownBy W4 none) := grown_trans HG3.out g4
  have HA4 : Hid (FB W4 a ea) := HA3.out.keep g4
  have HB4 : Hid (FB W4 b eb) := HB3.out.keep g4
  clear g4 HA3 HB3 HG3 HR3
  go_wp2_with fail
  refine (rbook_any W4).mono ?_
  rintro e W5 ⟨r5, v5, fs5, rfl, R5, _, g5⟩
  have HG5 : Hid (w.grownBy W5 none) := grown_trans HG4.out g5
  have HA5 : Hid (FB W5 a ea) := HA4.out.keep g5
  have HB5 : Hid (FB W5 b eb) := HB4.out.keep g5
  have HR5 : Hid (RF W5 r5 v5 fs5) := R5
  clear R5 g5 HA4 HB4 HG4
  go_wp2_with fail
  refine (same14 b r5 v5 eb fs5 W5 HB5.out HR5.out).mono ?_
  rintro e W6 ⟨rfl, g6⟩
  have HG6 : Hid (w.grownBy W6 none) := grown_trans HG5.out g6
  have HA6 : Hid (FB W6 a ea) := HA5.out.keep g6
  have HB6 : Hid (FB W6 b eb) := HB5.out.keep g6
  clear g6 HA5 HB5 HG5 HR5
  go_wp2_with fail
  refine (same_full HA6.out HB6.out).mono ?_
  rintro e W7 ⟨rfl, g7⟩
  have HG7 : Hid (w.grownBy W7 none) := grown_trans HG6.out g7
  have HA7 : Hid (FB W7 a ea) := HA6.out.keep g7
  clear g7 HA6 HB6 HG6
  go_wp2_with fail
  refine (seal_full7 HA7.out).mono ?_
  rintro e W8 ⟨rfl, A8, g8⟩
  have HG8 : Hid (w.grownBy W8 none) := grown_own HG7.out g8 (fun x e => by cases e; exact Hla.out)
  have HA8 : Hid (FB W8 a ea) := A8
  clear g8 A8 HA7 HG7
  have C9 := again_yes (.slice (some ⟨W8.heap.size, 0, none⟩) 6 6) [0, 1, 2, 3, 4, 5] (W8.alloc (.cells #[.int .i64 0, .int .i64 1, .int .i64 2, .int .i64 3, .int .i64 4, .int .i64 5] 3)) (lit_ints [0, 1, 2, 3, 4, 5]) (List.Perm.refl _) ((HN.out.keep HG8.out).keep (World.grownBy_alloc _ _ none))
  go_wp2_with fail
  refine C9.mono ?_
  rintro e W9 ⟨c, ec, rfl, F9, lc, g9⟩
  have HG9 : Hid (w.grownBy W9 none) := grown_trans (grown_push HG8.out _) g9
  have HA9 : Hid (FB W9 a ea) := (HA8.out.keep (World.grownBy_alloc _ _ none)).keep g9
  have HC9 : Hid (FB W9 c ec) := F9
  have hac : ¬ c = a := by have h7 := HA8.out.book.lt; rw [World.size_alloc] at lc; omega
  have hq := ptr_neq hac HC9.out.book.lies HA9.out.book.lies
  clear g9 F9 lc C9 HA8 HG8
  go_wp2_with fail
  clear hq
  refine (same_full HA9.out HC9.out).mono ?_
  rintro e Wa ⟨rfl, ga⟩
  have HGa : Hid (w.grownBy Wa none) := grown_trans HG9.out ga
  clear ga HA9 HC9 HG9
  go_wp2_with fail
  refine (book_any Wa (HN.out.keep HGa.out)).mono ?_
  rintro e Wb ⟨bb, eb2, rfl, Fb, _, gb⟩
  have HGb : Hid (w.grownBy Wb none) := grown_trans HGa.out gb
  have HFb : Hid (FB Wb bb eb2) := Fb
  clear gb Fb HGa
  go_wp2_with fail
  refine (rbook_any Wb).mono ?_
  rintro e Wc ⟨rc, vc, fc, rfl, Rc, _, gc⟩
  have HGc : Hid (w.grownBy Wc none) := grown_trans HGb.out gc
  have HFc : Hid (FB Wc bb eb2) := HFb.out.keep gc
  have HRc : Hid (RF Wc rc vc fc) := Rc
  clear Rc gc HFb HGb
  go_wp2_with fail
  refine (same14 bb rc vc eb2 fc Wc HFc.out HRc.out).mono ?_
  rintro e Wd ⟨rfl, gd⟩
  have HGd : Hid (w.grownBy Wd none) := grown_trans HGc.out gd
  clear gd HFc HRc HGc
  go_wp2_with fail
  refine (lives_any Wd (HN.out.keep HGd.out)).mono ?_
  rintro e We ⟨rfl, ge⟩
  have HGe : Hid (w.grownBy We none) := grown_trans HGd.out ge
  clear ge HGd
  go_wp2
  go_ret
  exact ⟨rfl, HGe.out⟩
end Go.Proofs.YtknlcjhcamhfmaaGreatDoor
namespace Go.Proofs.YtknlcjhcamhfmaaGreatDoor
open Go.ChangeShapes Go.WideShapes Go.ChangeAt Go.RowKit

theorem Tryz.own : ownKnob Tryz.prog.godebug = none := by kernel_rfl
theorem Tryz.laidOut : laidOutB Tryz.prog = true := by kernel_rfl
theorem Tryz.gN : Tryz.prog.globalNamed "gambit/trait.names" = some 0 := by kernel_rfl
theorem Tryz.gNType : (Tryz.prog.globals[0]?).map (·.type) = some 104 := by kernel_rfl
theorem Tryz.cellsN' : Tryz.prog.cellsOf 104 = 9 := by kernel_rfl
theorem Tryz.cells9n : Tryz.prog.cellsOf 9 = 1 := by kernel_rfl
def cellsN : Array Value := #[.string ⟨#[]⟩, .string ⟨#[102, 97, 115, 116]⟩, .string ⟨#[103, 117, 97, 114, 100]⟩, .string ⟨#[118, 101, 110, 111, 109]⟩, .string ⟨#[108, 111, 110, 101]⟩, .string ⟨#[100, 114, 97, 105, 110]⟩, .string ⟨#[109, 117, 116, 101]⟩, .string ⟨#[102, 105, 120, 101, 100]⟩, .string ⟨#[115, 119, 105, 102, 116]⟩]
theorem str_of_trod {H : Type} {enc : TypeId × Value → H} {w : World} {base : Nat} {sp : Nat → Bool} {held : Bool} {fuel : Nat} {c : Value} {y : DataW H × List MemPlace}
    (h : DataW.trod enc Tryz.prog w base sp held fuel 9 [c] = some y) : ∃ s : ByteArray, c = .string s ∧ y = (.lit (.string s.data.toList), []) := by
  obtain ⟨s, hc, hy, _⟩ := DataW.trod_string Tryz.underlying9 h
  simp only [List.cons.injEq, and_true] at hc
  exact ⟨s, hc, hy⟩
theorem ba_of_list {s : ByteArray} {l : List UInt8} (h : s.data.toList = l) : s = ⟨l.toArray⟩ := by
  obtain ⟨⟨d⟩⟩ := s
  simp only at h
  rw [h]
set_option maxRecDepth 100000 in
theorem cellsN_of {W : World} {cs : Array Value} {fuel : Nat} {p : List MemPlace} {enc : TypeId × Value → Unit} {base : Nat} {sp : Nat → Bool} {held : Bool} (hd : DataW.trod enc Tryz.prog W base sp held fuel 104 cs.toList = some (Rows.laid_gambit_trait_names, p)) : cs = cellsN := by
  obtain ⟨l⟩ := cs
  cases fuel with
  | zero => simp [DataW.trod] at hd
  | succ fuel =>
    simp only [DataW.trod, Tryz.underlying104, Tryz.cellsN', Tryz.cells9n] at hd
    split at hd
    · rename_i hl
      obtain ⟨c0, c1, c2, c3, c4, c5, c6, c7, c8, rfl⟩ : ∃ c0 c1 c2 c3 c4 c5 c6 c7 c8, l = [c0, c1, c2, c3, c4, c5, c6, c7, c8] := by
        match l, hl with
        | [c0, c1, c2, c3, c4, c5, c6, c7, c8], _ => exact ⟨c0, c1, c2, c3, c4, c5, c6, c7, c8, rfl⟩
      have e : List.range 9 = [0, 1, 2, 3, 4, 5, 6, 7, 8] := rfl
      rw [e] at hd
      simp only [Option.map_eq_some_iff, List.mapM_cons, List.mapM_nil, Option.bind_eq_bind, Option.bind_eq_some_iff, Option.pure_def, Option.some.injEq] at hd
      obtain ⟨xs, ⟨y0, h0, _, ⟨y1, h1, _, ⟨y2, h2, _, ⟨y3, h3, _, ⟨y4, h4, _, ⟨y5, h5, _, ⟨y6, h6, _, ⟨y7, h7, _, ⟨y8, h8, _, rfl, rfl⟩, rfl⟩, rfl⟩, rfl⟩, rfl⟩, rfl⟩, rfl⟩, rfl⟩, rfl⟩, hx⟩ := hd
      obtain ⟨n0, rfl, rfl⟩ := str_of_trod h0
      obtain ⟨n1, rfl, rfl⟩ := str_of_trod h1
      obtain ⟨n2, rfl, rfl⟩ := str_of_trod h2
      obtain ⟨n3, rfl, rfl⟩ := str_of_trod h3
      obtain ⟨n4, rfl, rfl⟩ := str_of_trod h4
      obtain ⟨n5, rfl, rfl⟩ := str_of_trod h5
      obtain ⟨n6, rfl, rfl⟩ := str_of_trod h6
      obtain ⟨n7, rfl, rfl⟩ := str_of_trod h7
      obtain ⟨n8, rfl, rfl⟩ := str_of_trod h8
      simp [Rows.laid_gambit_trait_names] at hx
      obtain ⟨⟨e0, e1, e2, e3, e4, e5, e6, e7, e8⟩, _⟩ := hx
      have e0' : n0 = ⟨#[]⟩ := by
        obtain ⟨d⟩ := n0
        simp at e0
        rw [e0]
      rw [e0', ba_of_list e1, ba_of_list e2, ba_of_list e3, ba_of_list e4, ba_of_list e5, ba_of_list e6, ba_of_list e7, ba_of_list e8]
      rfl
    · cases hd
theorem laid_of {W : World} (h : laidMet Tryz.prog [("gambit/trait.names", Rows.laid_gambit_trait_names)] W) : NamesAt W := by
  obtain ⟨ps, ⟨g1, t1, cs1, fuel1, p1, q1, hg1, ht1, hvar1, hd1, _, _⟩, _⟩ := h
  obtain rfl := Option.some.inj (Tryz.gN.symm.trans hg1)
  obtain rfl := Option.some.inj (Tryz.gNType.symm.trans ht1)
  rw [cellsN_of hd1] at hvar1
  exact ⟨World.var?_cell Tryz.gN hvar1 1, World.var?_cell Tryz.gN hvar1 2, World.var?_cell Tryz.gN hvar1 3, World.var?_cell Tryz.gN hvar1 4, World.var?_cell Tryz.gN hvar1 5, World.var?_cell Tryz.gN hvar1 6, World.var?_cell Tryz.gN hvar1 7, World.var?_cell Tryz.gN hvar1 8⟩
def putC (cs : Array Value) : Obj → Obj
  | .cells _ t frozen => .cells cs t frozen
  | o => o
set_option maxRecDepth 100000 in
theorem laid_met (os : Os) (args : Array Value) : laidMet Tryz.prog [("gambit/trait.names", Rows.laid_gambit_trait_names)] (({ World.holding Tryz.prog os ⟨#[], #[], []⟩ with heap := (World.holding Tryz.prog os ⟨#[], #[], []⟩).heap.modify 0 (putC cellsN) } : World).forCall (fun _ _ => 0) ⟨#[], args, []⟩).memory :=
  laidMet_of_run (ps := [.cell 0 0, .cell 0 1, .cell 0 2, .cell 0 3, .cell 0 4, .cell 0 5, .cell 0 6, .cell 0 7, .cell 0 8]) 8 (by kernel_rfl) (by kernel_rfl) (by kernel_rfl)
end Go.Proofs.YtknlcjhcamhfmaaGreatDoor
