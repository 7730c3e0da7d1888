/-
  The document's Number of a suit's package, by its name; its Tokens.
-/
import Derived.Test.YtknlcjhcamhfmaaGreatDoorJ42
import Derived.Test.YtknlcjhcamhfmaaGreatDoorK1
import Derived.Maps.AppendAt
namespace Go.Proofs.YtknlcjhcamhfmaaGreatDoor
open Go.RowKit

theorem nm_ne {i k : Nat} (hi : i < 6) (hk : k < 6) (h : ¬ i = k) : ((sNm i).toList == (sNm k).toList) = false := by
  rcases (show i = 0 ∨ i = 1 ∨ i = 2 ∨ i = 3 ∨ i = 4 ∨ i = 5 by omega) with rfl | rfl | rfl | rfl | rfl | rfl <;> rcases (show k = 0 ∨ k = 1 ∨ k = 2 ∨ k = 3 ∨ k = 4 ∨ k = 5 by omega) with rfl | rfl | rfl | rfl | rfl | rfl <;> first | exact absurd rfl h | kernel_rfl
set_option maxRecDepth 100000 in
set_option maxHeartbeats 4000000 in
theorem rnumber_any (k : Nat) (hk : k < 6) (w : World) : Calls Tryz.prog 19 #[.string (sNm k)] w fun e w' => e = .returned (.tuple #[.int .i64 (sNo k), .bool true]) ∧ w.grownBy w' none := by
  have sm6 : Small 6 := by unfold Small; decide
  go_enter Tryz.func19, Tryz.ntmps19
  go_wp2_with fail
  refine (fills_any w).mono ?_
  rintro e W1 ⟨g, rfl, F1, _, g1⟩
  have HF : Hid (FlAt w.heap.size W1 g) := F1
  have HG : Hid (w.grownBy W1 none) := g1
  clear F1 g1
  go_wp2_with fail
  go_loopw [5] (fun x wr => wr = W1 ∧ ∃ j : Nat, j ≤ k ∧ x = .int .i64 (j : Int)) (fun x _ => 6 - (intOf x).toNat)
  case atStart => exact ⟨rfl, 0, Nat.zero_le _, rfl⟩
  case round =>
    obtain ⟨rfl, j, hj, rfl⟩ := hrel
    have h1' : (j : Int) < 6 := by omega
    have h1 : j < 6 := by omega
    have j0 : (0 : Int) ≤ (j : Int) := by omega
    obtain ⟨c, t, m, _, R⟩ := HF.out j h1
    have r0 := R.c0
    have r4 := R.c4
    clear R
    by_cases h : j = k
    · subst h
      have he : ((sNm j).toList == (sNm j).toList) = true := by simp
      go_wp2
      go_ret2
      exact ⟨rfl, HG.out⟩
    · have hne := nm_ne h1 hk h
      go_wp2_with fail
      go_roundw
      case rel => exact ⟨trivial, j + 1, by omega, by first | rfl | (rw [sm6.wrap h1]; rfl)⟩
      case measure => first | exact meas_next h1 | (rw [sm6.wrap h1]; exact meas_next h1)
theorem tkN_take {l : List Ent} {m : Nat} {e : Ent} (h : l[m]? = some e) : tkN (l.take (m + 1)) = if e.h.tk = true then tkN (l.take m) ++ [e.h.nm] else tkN (l.take m) := by
  rw [List.take_add_one, h]
  exact tkN_snoc _ _
set_option maxRecDepth 100000 in
set_option maxHeartbeats 8000000 in
theorem rtokens_any (w : World) : Calls Tryz.prog 20 #[] w fun e w' => ∃ v, e = .returned v ∧ w'.ownsRow w.heap.size 9 1 v 6 (tokens.map Value.string) ∧ w.grownBy w' none := by
  obtain ⟨i0, hi, hz0, hz1, hz2⟩ := info_parts Tryz.info9t
  have sm38 : Small 38 := by unfold Small; decide
  go_enter Tryz.func20, Tryz.ntmps20
  go_wp2_with fail
  refine (rbook_any w).mono ?_
  rintro e W1 ⟨r, v, fs, rfl, R1, _, g1⟩
  have HR : Hid (RF W1 r v fs) := R1
  have HG1 : Hid (w.grownBy W1 none) := g1
  have HL : Hid (fs.length = 36) := full_len R1.row
  have H4 : Hid (∀ e ∈ fs, e.ps.length ≤ 4) := fun e he => by
    have h9 : hp e ∈ rowAll.map hp := by rw [← R1.row]; exact List.mem_map.2 ⟨e, he, rfl⟩
    exact cAll_four _ (rowAll_perm.mem_iff.1 h9)
  have C3 : ∀ W, W1.grownBy W none → Calls Tryz.prog 45 #[.pointer (some ⟨r, 0, none⟩)] W fun e w' => e = .returned (.int .i64 36) ∧ w' = W := fun W g => by
    have h9 := rlen_any r v pShut fs W (R1.keep g).book.rj (R1.keep g).book.rl
    rw [full_len R1.row] at h9
    exact h9
  have HC3 : Hid (∀ W, W1.grownBy W none → Calls Tryz.prog 45 #[.pointer (some ⟨r, 0, none⟩)] W fun e w' => e = .returned (.int .i64 36) ∧ w' = W) := C3
  clear R1 g1 C3
  go_wp2_with fail
  go_loopw [2, 3] (fun u x wr => ∃ (m : Nat) (q : Option Addr) (cp : Nat), m ≤ 36 ∧ x = .int .i64 ((m : Int) + 1) ∧ u = .slice q (tkN (fs.take m)).length cp ∧ wr.ownsRow W1.heap.size 9 1 u (tkN (fs.take m)).length ((tkN (fs.take m)).map Value.string) ∧ W1.grownBy wr none) (fun _ x _ => 38 - (intOf x).toNat)
  case atStart =>
    refine ⟨0, none, 0, Nat.zero_le _, rfl, rfl, ?_, grown_refl _ _⟩
    rw [List.take_zero]
    exact World.ownsRow_nil _ _ _ _
  case round =>
    obtain ⟨m, q, cp, hm, rfl, rfl, O, Gr⟩ := hrel
    obtain ⟨U, hU⟩ : ∃ U, U = wr := ⟨_, rfl⟩
    subst hU
    have HO : Hid (U.ownsRow W1.heap.size 9 1 (.slice q (tkN (fs.take m)).length cp) (tkN (fs.take m)).length ((tkN (fs.take m)).map Value.string)) := O
    have HG : Hid (W1.grownBy U none) := Gr
    have htl : (tkN (fs.take m)).length ≤ 36 := by have h9 := tkN_len (fs.take m); rw [List.length_take] at h9; omega
    clear O Gr
    go_wp2_with fail
    refine (HC3.out U HG.out).mono ?_
    rintro e U1 ⟨rfl, h3⟩
    obtain rfl : U = U1 := h3.symm
    rcases (show m < 36 ∨ m = 36 from by omega) with h1 | h1
    · have h1' : (m : Int) + 1 ≤ 36 := by omega
      obtain ⟨e0, he0⟩ : ∃ e, fs[m]? = some e := ⟨_, List.getElem?_eq_getElem (by rw [HL.out]; exact h1)⟩
      have C4 := rat_in (fun k => r < k) r v pShut fs m e0 U (HR.out.keep HG.out).book.rj (HR.out.keep HG.out).book.rl (HR.out.keep HG.out).book.len (HR.out.keep HG.out).book.good rfl he0 (H4.out e0 (List.mem_of_getElem? he0))
      have HN : Hid (tkN (fs.take (m + 1)) = if e0.h.tk = true then tkN (fs.take m) ++ [e0.h.nm] else tkN (fs.take m)) := tkN_take he0
      clear he0
      obtain ⟨⟨m0, m1, m2, m3, m4, m5, m6, m7⟩, ev, eps⟩ := e0
      simp only at C4 HN
      go_wp2_with fail
      refine C4.mono ?_
      rintro e U2 ⟨u, rfl, O2, g2⟩
      obtain ⟨xa, ya, rfl⟩ : ∃ xa ya, u = .slice xa eps.length ya := O2.at.form
      obtain ⟨U3, hU3⟩ : ∃ U3, U3 = U2.alloc (.cells (ccs ⟨m0, m1, m2, m3, m4, m5, m6, m7⟩ (.slice xa eps.length ya)) 56) := ⟨_, rfl⟩
      have G3 : U.grownBy U3 none := by rw [hU3]; exact grown_push g2 _
      have HG3 : Hid (W1.grownBy U3 none) := grown_trans HG.out G3
      have K3 : CAt U3 U2.heap.size ⟨m0, m1, m2, m3, m4, m5, m6, m7⟩ (.slice xa eps.length ya) := by rw [hU3]; exact alloc_at _ _ _
      have HO3 : Hid (U3.ownsRow W1.heap.size 9 1 (.slice q (tkN (fs.take m)).length cp) (tkN (fs.take m)).length ((tkN (fs.take m)).map Value.string)) := World.ownsRow.kept HO.out G3 (by cases q <;> simp [Value.ownBlock])
      have d0 := K3.cells.1
      have d7 := K3.cells.2.2.2.2.2.2.2.1
      simp only at d0 d7
      clear O2 g2 G3 HG C4 K3 HO
      unfold cv
      unfold ccs at hU3
      simp only at hU3
      go_upto_region 7 with fail
      rw [← hU3]
      clear hU3
      have hwm : wrap64 ((m : Int) + 1 + 1) = (m : Int) + 1 + 1 := by unfold wrap64; omega
      cases m7 with
      | false =>
        rw [if_neg (by decide)] at HN
        go_wp2_with fail
        go_roundw
        case rel => exact ⟨m + 1, q, cp, h1, by first | rfl | (rw [hwm]; rfl), by rw [HN.out], by rw [HN.out]; exact HO3.out, HG3.out⟩
        case measure => simp [intOf]; omega
      | true =>
        rw [if_pos rfl] at HN
        have hO := HO3.out
        obtain ⟨tl, htl'⟩ : ∃ n, n = (tkN (fs.take m)).length := ⟨_, rfl⟩
        have HTl : Hid (tl = (tkN (fs.take m)).length) := htl'
        rw [← htl'] at hO htl ⊢
        have hsz : W1.heap.size ≤ U3.heap.size := HG3.out.size
        clear htl'
        go_wp2_with (at_builtin; refine wpList_append_own _ rfl (.tmp 21) (.tmp 24) 33 rfl W1.heap.size 9 i0 _ 1 16 Tryz.underlying33 hi hz0 hz1 hz2 rfl (by decide) (.slice q tl cp) tl _ rfl (hO.alloc _) ⟨U3.heap.size, 0, none⟩ 1 1 [.string m0] rfl rfl (cell_one_new _ _ _) (by simp [Value.oneCell']) (by unfold maxLen; omega) (by omega) (by rw [World.size_alloc]; omega) ?_; intro v' w7 hown hgrow hnil; obtain ⟨g', cp', rfl⟩ := ownsRow_succ hown)
        have HN2 : Hid ((tkN (fs.take (m + 1))).length = tl + 1 ∧ (tkN (fs.take (m + 1))).map Value.string = (tkN (fs.take m)).map Value.string ++ [.string m0]) := ⟨by rw [HN.out, List.length_append, HTl.out]; rfl, by rw [HN.out, List.map_append]; rfl⟩
        have HG7 : W1.grownBy w7 none := grown_own (grown_push HG3.out _) hgrow (row_low hO)
        go_roundw
        case rel =>
          refine ⟨m + 1, some ⟨g', 0, none⟩, cp', h1, by first | rfl | (rw [hwm]; rfl), ?_, ?_, HG7⟩
          · rw [HN2.out.1]
          · rw [HN2.out.1, HN2.out.2]; exact hown
        case measure => simp [intOf]; omega
    · have h1' : ¬ (m : Int) + 1 ≤ 36 := by omega
      have ht : tkN (fs.take m) = tokens := by rw [h1, List.take_of_length_le (by rw [HL.out]; exact Nat.le_refl _)]; exact (tkN_hp HR.out.row).trans tkN_all
      have HF : Hid (U.ownsRow W1.heap.size 9 1 (.slice q (tkN (fs.take m)).length cp) 6 (tokens.map Value.string)) := by have h9 := HO.out; rw [ht] at h9 ⊢; exact h9
      clear h1 ht
      go_wp2
      go_ret
      exact ⟨_, rfl, row_base HF.out HG1.out.size, grown_trans HG1.out HG.out⟩
end Go.Proofs.YtknlcjhcamhfmaaGreatDoor
