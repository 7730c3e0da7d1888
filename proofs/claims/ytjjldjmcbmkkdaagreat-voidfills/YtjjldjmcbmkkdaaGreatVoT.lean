/-
  VoidNames, walked.
-/
import Derived.Test.YtjjldjmcbmkkdaaGreatVoN
import Derived.Test.YtjjldjmcbmkkdaaGreatSaL
import Derived.Test.YtjjldjmcbmkkdaaGreatSameC
import Derived.Maps.AppendAt
import Derived.RangeFuncBox
namespace Go.Proofs.YtjjldjmcbmkkdaaGreat
open Go.RowKit

theorem own_keepR {w w' : World} {base : Nat} {e : TypeId} {size n : Nat} {v : Value} {xs : List Value} {r : Option Nat} (h : w.ownsRow base e size v n xs) (g : w.grownBy w' r) (hr : ∀ k, base ≤ k → some k ≠ r) : w'.ownsRow base e size v n xs := by
  obtain ⟨h1, h2⟩ := h
  refine ⟨h1, ?_⟩
  rcases h2 with h2 | ⟨b, cap, cur, hv, hb, hh, rest⟩
  · exact Or.inl h2
  · exact Or.inr ⟨b, cap, cur, hv, hb, grown_keep g hh (hr b hb), rest⟩
theorem own_form {w : World} {base : Nat} {e : TypeId} {size n : Nat} {v : Value} {xs : List Value} (h : w.ownsRow base e size v n xs) : ∃ p cap, v = .slice p n cap := by
  rcases h.2 with ⟨rfl, rfl⟩ | ⟨g, cap, _, rfl, _⟩
  · exact ⟨none, 0, rfl⟩
  · exact ⟨_, cap, rfl⟩
def nmV (es : List Ent) (k : Nat) : List Value := (es.take k).map fun e => Value.string e.h.nm
theorem nmV_next {es : List Ent} {k : Nat} {e : Ent} (h : es[k]? = some e) : nmV es (k + 1) = nmV es k ++ [.string e.h.nm] := by
  unfold nmV
  rw [List.take_add_one, h, List.map_append]
  rfl
theorem Tryz.info9' : (Tryz.prog.info? 9).map (fun i => (i.zero, i.size, i.bytes)) = some (some (.string ⟨#[]⟩), 1, 16) := by kernel_rfl
theorem lis_two {es : List Ent} (h : LIs es 6) : ∃ v, es[2]? = some ⟨shadeH, v, shadeP⟩ := by
  unfold LIs at h
  have h2 : (es.map fun e => (e.h, e.ps))[2]? = some (shadeH, shadeP) := by rw [h]; rfl
  rw [List.getElem?_map] at h2
  cases he : es[2]? with
  | none => rw [he] at h2; cases h2
  | some e =>
    rw [he] at h2
    obtain ⟨eh, ev, ep⟩ := e
    have h3 : (eh, ep) = (shadeH, shadeP) := Option.some.inj h2
    injection h3 with h4 h5
    exact ⟨ev, by rw [h4, h5]⟩
def downM : Mk := ⟨2, ⟨#[100, 111, 119, 110]⟩, -1, -1⟩
/-- The names of the list. -/
def nmL : List ByteArray := specL.map fun x => x.1.nm
theorem nmV_all {es : List Ent} (h : LIs es 6) : nmV es 6 = nmL.map Value.string := by
  unfold LIs at h
  unfold nmV nmL
  rw [List.take_of_length_le (by have h1 := congrArg List.length h; simp [specL] at h1; omega)]
  have h2 := congrArg (List.map fun x : Hd × List Pt => Value.string x.1.nm) h
  rw [List.map_map] at h2
  rw [List.map_map]
  exact h2
set_option maxRecDepth 100000 in
set_option maxHeartbeats 4000000 in
theorem names_vo (w : World) : Calls Tryz.prog 15 #[] w fun e w' => e = .returned (.bool true) ∧ w.grownBy w' none := by
  obtain ⟨i0, hi, hz0, hz1, hz2⟩ := info_parts (P := Tryz.prog) Tryz.info9'
  go_enter Tryz.func15, Tryz.ntmps15
  go_wp2_with fail
  refine (list_vo w).mono ?_
  rintro e w1 ⟨g, es, rfl, A⟩
  have HA : Hid (LAt w w1 g es) := A
  obtain ⟨base, hbase⟩ : ∃ base, base = w1.heap.size := ⟨_, rfl⟩
  have gb : g < base := by rw [hbase, A.last]; omega
  have wb : w.heap.size ≤ base := by rw [hbase]; exact A.gr.size
  have H1 : Hid (w1.heap.size = base) := hbase.symm
  clear A hbase
  go_wp2_with fail
  go_loopw [2, 3] (fun x2 x3 wr => ∃ k : Nat, k ≤ 6 ∧ x3 = .int .i64 (k : Int) ∧ wr.ownsRow base 9 1 x2 k (nmV es k) ∧ w1.grownBy wr none) (fun _ x3 _ => 6 - (intOf x3).toNat)
  case atStart => exact ⟨0, Nat.zero_le _, rfl, World.ownsRow_nil _ _ _ _, grown_refl _ _⟩
  case round =>
    obtain ⟨k, hk, rfl, O, G⟩ := hrel
    obtain ⟨U, hU⟩ : ∃ U, U = wr := ⟨_, rfl⟩
    subst hU
    obtain ⟨p, cap, rfl⟩ := own_form O
    have HG : Hid (w1.grownBy U none) := G
    have HO : Hid (U.ownsRow base 9 1 (.slice p k cap) k (nmV es k)) := O
    have hbs : base ≤ U.heap.size := Nat.le_trans (Nat.le_of_eq H1.out.symm) G.size
    clear G O
    rcases (show k < 6 ∨ k = 6 from by omega) with hk6 | hk6
    · have k0 : (0 : Int) ≤ (k : Int) := by omega
      have k6 : (k : Int) < 6 := by omega
      obtain ⟨e0, he0⟩ : ∃ e, es[k]? = some e := ⟨_, List.getElem?_eq_getElem (by rw [HA.out.is.len (Nat.le_refl _)]; exact hk6)⟩
      have c0 := (erow_of (grown_keep HG.out HA.out.lies (by simp)) he0).c0
      have Hn : Hid (nmV es (k + 1) = nmV es k ++ [.string e0.h.nm]) := nmV_next he0
      have sm6 : Small 6 := by unfold Small; decide
      clear he0
      generalize e0.h.nm = nm at *
      go_wp2_with (at_builtin; refine wpList_append_own _ rfl (.tmp 12) (.tmp 18) 74 rfl base 9 i0 (.string ⟨#[]⟩) 1 16 Tryz.underlying74 hi hz0 hz1 hz2 rfl (by decide) (.slice p k cap) k (nmV es k) rfl (own_keepR HO.out (World.grownBy_alloc _ _ none) (by simp)) ⟨U.heap.size, 0, none⟩ 1 1 [.string nm] rfl rfl (cell_one_new _ _ _) (fun x hx => by simp at hx; subst hx; rfl) (by unfold maxLen; omega) (by omega) (by simp; omega) ?_; intro v' w7 hown' hgrow7 hnil7; clear hnil7; rw [← Hn.out] at hown'; have G7 := grown_own (grown_push HG.out _) hgrow7 (fun x hx => Nat.le_trans (Nat.le_of_eq H1.out) (HO.out.lt x hx).1); have HO7 : Hid (w7.ownsRow base 9 1 v' (k + 1) (nmV es (k + 1))) := hown'; have HG7 : Hid (w1.grownBy w7 none) := G7; clear hown' hgrow7 G7)
      go_roundw
      case rel => exact ⟨k + 1, hk6, by first | rfl | (rw [sm6.wrap hk6]; rfl), HO7.out, HG7.out⟩
      case measure => first | exact meas_next hk6 | (rw [sm6.wrap hk6]; exact meas_next hk6)
    · have k6 : ¬ (k : Int) < 6 := by omega
      subst hk6
      have hL := nmV_all HA.out.is
      rw [hL] at HO
      obtain ⟨n2, cap2, hv⟩ := ownsRow_succ (k := 5) HO.out
      injection hv with hp _ hc
      subst hp
      have hN : ∀ (j : Nat) x, nmL[j]? = some x → U.cell? ⟨n2, j, none⟩ = some (.string x) := fun j x hx => by
        have hj : j < 6 := (List.getElem?_eq_some_iff.1 hx).1
        rw [World.ownsRow.cellAt HO.out j (by omega), List.getElem?_map, hx]
        rfl
      have HN : Hid (∀ (j : Nat) x, nmL[j]? = some x → U.cell? ⟨n2, j, none⟩ = some (.string x)) := hN
      obtain ⟨v0, he0⟩ := lis_two HA.out.is
      have Hc : Hid (C9 U g (2 * 9) shadeH v0) := erow_of (grown_keep HG.out HA.out.lies (by simp)) he0
      have HWU : Hid (w.grownBy U none) := grown_trans HA.out.gr HG.out
      clear hN hL hc HO HG HA he0 hk
      obtain ⟨W2, hW2⟩ : ∃ W2, W2 = U.alloc (.cells (nmL.map Value.string).toArray 9) := ⟨_, rfl⟩
      have g2 : U.grownBy W2 none := by rw [hW2]; exact World.grownBy_alloc _ _ none
      have hB2 : W2.heap[U.heap.size]? = some (.cells (nmL.map Value.string).toArray 9 (0, 0)) := by rw [hW2]; exact alloc_at _ _ _
      have HST := sameTexts_eq n2 U.heap.size cap 6 nmL W2 (fun j x hx => g2.cell (HN.out j x hx) (by simp)) (fun j x hx => by rw [block_cell hB2, List.getElem?_toArray, List.getElem?_map, hx]; rfl) (by decide)
      rw [show nmL.length = 6 from rfl] at HST
      have HG2 : Hid (U.grownBy W2 none) := g2
      have HW2 : Hid (W2 = U.alloc (.cells (nmL.map Value.string).toArray 9)) := hW2
      clear g2 hB2 hW2 HN
      rw [show ((6 : Nat) : Int) = (6 : Int) from rfl] at k6 ⊢
      rw [HW2.out] at HST HG2
      go_wp2_with fail
      refine HST.mono ?_
      rintro e w3 ⟨rfl, g3⟩
      have HG3 : Hid (U.grownBy w3 none) := grown_trans HG2.out g3
      clear g3 HG2 HW2 HST
      go_wp2_with fail
      refine (marks_vo w3).mono ?_
      rintro e w4 ⟨rfl, hw4⟩
      obtain ⟨W5, hW5⟩ : ∃ W5, W5 = w4.alloc (.cells mCells 45) := ⟨_, rfl⟩
      have g4 : w3.grownBy w4 none := by rw [hw4]; exact World.grownBy_alloc _ _ none
      have g5 : w4.grownBy W5 none := by rw [hW5]; exact World.grownBy_alloc _ _ none
      have b4 : w4.heap[w3.heap.size]? = some (.cells mCells 45 (0, 0)) := by rw [hw4]; exact alloc_at _ _ _
      have b5 : W5.heap[w4.heap.size]? = some (.cells mCells 45 (0, 0)) := by rw [hW5]; exact alloc_at _ _ _
      have b4' := grown_keep g5 b4 (by simp)
      have HSM := sameMarks_eq w3.heap.size w4.heap.size 1 1 [downM] W5 (fun j x hx => by
        obtain rfl : j = 0 := by have := (List.getElem?_eq_some_iff.1 hx).1; simp at this; omega
        obtain rfl : downM = x := by simpa using hx
        exact ⟨block_cell b4' 0, block_cell b4' 1, block_cell b4' 2, block_cell b4' 3⟩) (fun j x hx => by
        obtain rfl : j = 0 := by have := (List.getElem?_eq_some_iff.1 hx).1; simp at this; omega
        obtain rfl : downM = x := by simpa using hx
        exact ⟨block_cell b5 0, block_cell b5 1, block_cell b5 2, block_cell b5 3⟩) (by decide)
      rw [show [downM].length = 1 from rfl] at HSM
      have HG5 : Hid (U.grownBy W5 none) := grown_trans HG3.out (grown_trans g4 g5)
      have HW5 : Hid (W5 = w4.alloc (.cells mCells 45)) := hW5
      clear g4 g5 b4 b5 b4' hw4 hW5 HG3
      rw [HW5.out] at HSM HG5
      go_wp2_with fail
      refine HSM.mono ?_
      rintro e w6 ⟨rfl, g6⟩
      have HG6 : Hid (U.grownBy w6 none) := grown_trans HG5.out g6
      clear g6 HG5 HW5 HSM
      have z7 : w6.cell? ⟨g, 25, none⟩ = some (.bool true) := HG6.out.cell Hc.out.c7 (by simp)
      have z6 : w6.cell? ⟨g, 24, none⟩ = some (.int .u16 8) := HG6.out.cell Hc.out.c6 (by simp)
      go_wp2_with fail
      refine (number_vo w6).mono ?_
      rintro e w7 ⟨rfl, g7⟩
      clear z7 z6
      have HG7 : Hid (U.grownBy w7 none) := grown_trans HG6.out g7
      clear g7 HG6 Hc
      go_wp2_with fail
      refine (traits_vo w7).mono ?_
      rintro e w8 ⟨rfl, hw8⟩
      obtain ⟨W9, hW9⟩ : ∃ W9, W9 = w8.alloc (.cells tCells 47) := ⟨_, rfl⟩
      have g8 : w7.grownBy w8 none := by rw [hw8]; exact World.grownBy_alloc _ _ none
      have g9 : w8.grownBy W9 none := by rw [hW9]; exact World.grownBy_alloc _ _ none
      have b8 : w8.heap[w7.heap.size]? = some (.cells tCells 47 (0, 0)) := by rw [hw8]; exact alloc_at _ _ _
      have b9 : W9.heap[w8.heap.size]? = some (.cells tCells 47 (0, 0)) := by rw [hW9]; exact alloc_at _ _ _
      have b8' := grown_keep g9 b8 (by simp)
      have HSR := sameTraits_eq w7.heap.size w8.heap.size 1 1 [6] W9 (fun j x hx => by
        obtain rfl : j = 0 := by have := (List.getElem?_eq_some_iff.1 hx).1; simp at this; omega
        obtain rfl : (6 : Int) = x := by simpa using hx
        exact block_cell b8' 0) (fun j x hx => by
        obtain rfl : j = 0 := by have := (List.getElem?_eq_some_iff.1 hx).1; simp at this; omega
        obtain rfl : (6 : Int) = x := by simpa using hx
        exact block_cell b9 0) (by decide)
      rw [show [(6 : Int)].length = 1 from rfl] at HSR
      have HG9 : Hid (U.grownBy W9 none) := grown_trans HG7.out (grown_trans g8 g9)
      have HW9 : Hid (W9 = w8.alloc (.cells tCells 47)) := hW9
      clear g8 g9 b8 b9 b8' hw8 hW9 HG7
      rw [HW9.out] at HSR HG9
      go_wp2_with fail
      refine HSR.mono ?_
      rintro e w10 ⟨rfl, g10⟩
      go_wp2
      go_ret
      exact ⟨rfl, grown_trans HWU.out (grown_trans HG9.out g10)⟩
end Go.Proofs.YtjjldjmcbmkkdaaGreat
