/-
  The document's Number of a suit's package, by its name; its Tokens.
  ApartParts of lists that lie in blocks of their own answers true: each place holds what was written there.
-/
import Derived.Test.YtknlcjhcamhfmaaGreatDoorJ46
import Derived.Test.YtknlcjhcamhfmaaGreatDoorJ47
import Derived.Maps.AppendAt
import Derived.Test.YtknlcjhcamhfmaaGreatDoorJ34
import Derived.Deep.AppendLies
import Derived.Deep.RegionHeld3
import Derived.Maps.RangeWalk
namespace Go.Proofs.YtknlcjhcamhfmaaGreatDoor
open Go.RowKit

theorem nm_ne {i k : Nat} (hi : i < 6) (hk : k < 6) (h : ¬ i = k) : ((sNm i).toList == (sNm k).toList) = false := by
  rcases (show i = 0 ∨ i = 1 ∨ i = 2 ∨ i = 3 ∨ i = 4 ∨ i = 5 by omega) with rfl | rfl | rfl | rfl | rfl | rfl <;> rcases (show k = 0 ∨ k = 1 ∨ k = 2 ∨ k = 3 ∨ k = 4 ∨ k = 5 by omega) with rfl | rfl | rfl | rfl | rfl | rfl <;> first | exact absurd rfl h | kernel_rfl
set_option maxRecDepth 100000 in
set_option maxHeartbeats 4000000 in
theorem rnumber_any (k : Nat) (hk : k < 6) (w : World) : Calls Tryz.prog 19 #[.string (sNm k)] w fun e w' => e = .returned (.tuple #[.int .i64 (sNo k), .bool true]) ∧ w.grownBy w' none := by
  have sm6 : Small 6 := by unfold Small; decide
  go_enter Tryz.func19, Tryz.ntmps19
  go_wp2_with fail
  refine (fills_any w).mono ?_
  rintro e W1 ⟨g, rfl, F1, _, g1⟩
  have HF : Hid (FlAt w.heap.size W1 g) := F1
  have HG : Hid (w.grownBy W1 none) := g1
  clear F1 g1
  go_wp2_with fail
  go_loopw [5] (fun x wr => wr = W1 ∧ ∃ j : Nat, j ≤ k ∧ x = .int .i64 (j : Int)) (fun x _ => 6 - (intOf x).toNat)
  case atStart => exact ⟨rfl, 0, Nat.zero_le _, rfl⟩
  case round =>
    obtain ⟨rfl, j, hj, rfl⟩ := hrel
    have h1' : (j : Int) < 6 := by omega
    have h1 : j < 6 := by omega
    have j0 : (0 : Int) ≤ (j : Int) := by omega
    obtain ⟨c, t, m, _, R⟩ := HF.out j h1
    have r0 := R.c0
    have r4 := R.c4
    clear R
    by_cases h : j = k
    · subst h
      have he : ((sNm j).toList == (sNm j).toList) = true := by simp
      go_wp2
      go_ret2
      exact ⟨rfl, HG.out⟩
    · have hne := nm_ne h1 hk h
      go_wp2_with fail
      go_roundw
      case rel => exact ⟨trivial, j + 1, by omega, by first | rfl | (rw [sm6.wrap h1]; rfl)⟩
      case measure => first | exact meas_next h1 | (rw [sm6.wrap h1]; exact meas_next h1)
theorem tkN_take {l : List Ent} {m : Nat} {e : Ent} (h : l[m]? = some e) : tkN (l.take (m + 1)) = if e.h.tk = true then tkN (l.take m) ++ [e.h.nm] else tkN (l.take m) := by
  rw [List.take_add_one, h]
  exact tkN_snoc _ _
set_option maxRecDepth 100000 in
set_option maxHeartbeats 8000000 in
theorem rtokens_any (w : World) : Calls Tryz.prog 20 #[] w fun e w' => ∃ v, e = .returned v ∧ w'.ownsRow w.heap.size 9 1 v 6 (tokens.map Value.string) ∧ w.grownBy w' none := by
  obtain ⟨i0, hi, hz0, hz1, hz2⟩ := info_parts Tryz.info9t
  have sm38 : Small 38 := by unfold Small; decide
  go_enter Tryz.func20, Tryz.ntmps20
  go_wp2_with fail
  refine (rbook_any w).mono ?_
  rintro e W1 ⟨r, v, fs, rfl, R1, _, g1⟩
  have HR : Hid (RF W1 r v fs) := R1
  have HG1 : Hid (w.grownBy W1 none) := g1
  have HL : Hid (fs.length = 36) := full_len R1.row
  have H4 : Hid (∀ e ∈ fs, e.ps.length ≤ 4) := fun e he => by
    have h9 : hp e ∈ rowAll.map hp := by rw [← R1.row]; exact List.mem_map.2 ⟨e, he, rfl⟩
    exact cAll_four _ (rowAll_perm.mem_iff.1 h9)
  have C3 : ∀ W, W1.grownBy W none → Calls Tryz.prog 45 #[.pointer (some ⟨r, 0, none⟩)] W fun e w' => e = .returned (.int .i64 36) ∧ w' = W := fun W g => by
    have h9 := rlen_any r v pShut fs W (R1.keep g).book.rj (R1.keep g).book.rl
    rw [full_len R1.row] at h9
    exact h9
  have HC3 : Hid (∀ W, W1.grownBy W none → Calls Tryz.prog 45 #[.pointer (some ⟨r, 0, none⟩)] W fun e w' => e = .returned (.int .i64 36) ∧ w' = W) := C3
  clear R1 g1 C3
  go_wp2_with fail
  go_loopw [2, 3] (fun u x wr => ∃ (m : Nat) (q : Option Addr) (cp : Nat), m ≤ 36 ∧ x = .int .i64 ((m : Int) + 1) ∧ u = .slice q (tkN (fs.take m)).length cp ∧ wr.ownsRow W1.heap.size 9 1 u (tkN (fs.take m)).length ((tkN (fs.take m)).map Value.string) ∧ W1.grownBy wr none) (fun _ x _ => 38 - (intOf x).toNat)
  case atStart =>
    refine ⟨0, none, 0, Nat.zero_le _, rfl, rfl, ?_, grown_refl _ _⟩
    rw [List.take_zero]
    exact World.ownsRow_nil _ _ _ _
  case round =>
    obtain ⟨m, q, cp, hm, rfl, rfl, O, Gr⟩ := hrel
    obtain ⟨U, hU⟩ : ∃ U, U = wr := ⟨_, rfl⟩
    subst hU
    have HO : Hid (U.ownsRow W1.heap.size 9 1 (.slice q (tkN (fs.take m)).length cp) (tkN (fs.take m)).length ((tkN (fs.take m)).map Value.string)) := O
    have HG : Hid (W1.grownBy U none) := Gr
    have htl : (tkN (fs.take m)).length ≤ 36 := by have h9 := tkN_len (fs.take m); rw [List.length_take] at h9; omega
    clear O Gr
    go_wp2_with fail
    refine (HC3.out U HG.out).mono ?_
    rintro e U1 ⟨rfl, h3⟩
    obtain rfl : U = U1 := h3.symm
    rcases (show m < 36 ∨ m = 36 from by omega) with h1 | h1
    · have h1' : (m : Int) + 1 ≤ 36 := by omega
      obtain ⟨e0, he0⟩ : ∃ e, fs[m]? = some e := ⟨_, List.getElem?_eq_getElem (by rw [HL.out]; exact h1)⟩
      have C4 := rat_in (fun k => r < k) r v pShut fs m e0 U (HR.out.keep HG.out).book.rj (HR.out.keep HG.out).book.rl (HR.out.keep HG.out).book.len (HR.out.keep HG.out).book.good rfl he0 (H4.out e0 (List.mem_of_getElem? he0))
      have HN : Hid (tkN (fs.take (m + 1)) = if e0.h.tk = true then tkN (fs.take m) ++ [e0.h.nm] else tkN (fs.take m)) := tkN_take he0
      clear he0
      obtain ⟨⟨m0, m1, m2, m3, m4, m5, m6, m7⟩, ev, eps⟩ := e0
      simp only at C4 HN
      go_wp2_with fail
      refine C4.mono ?_
      rintro e U2 ⟨u, rfl, O2, g2⟩
      obtain ⟨xa, ya, rfl⟩ : ∃ xa ya, u = .slice xa eps.length ya := O2.at.form
      obtain ⟨U3, hU3⟩ : ∃ U3, U3 = U2.alloc (.cells (ccs ⟨m0, m1, m2, m3, m4, m5, m6, m7⟩ (.slice xa eps.length ya)) 56) := ⟨_, rfl⟩
      have G3 : U.grownBy U3 none := by rw [hU3]; exact grown_push g2 _
      have HG3 : Hid (W1.grownBy U3 none) := grown_trans HG.out G3
      have K3 : CAt U3 U2.heap.size ⟨m0, m1, m2, m3, m4, m5, m6, m7⟩ (.slice xa eps.length ya) := by rw [hU3]; exact alloc_at _ _ _
      have HO3 : Hid (U3.ownsRow W1.heap.size 9 1 (.slice q (tkN (fs.take m)).length cp) (tkN (fs.take m)).length ((tkN (fs.take m)).map Value.string)) := World.ownsRow.kept HO.out G3 (by cases q <;> simp [Value.ownBlock])
      have d0 := K3.cells.1
      have d7 := K3.cells.2.2.2.2.2.2.2.1
      simp only at d0 d7
      clear O2 g2 G3 HG C4 K3 HO
      unfold cv
      unfold ccs at hU3
      simp only at hU3
      go_upto_region 7 with fail
      rw [← hU3]
      clear hU3
      have hwm : wrap64 ((m : Int) + 1 + 1) = (m : Int) + 1 + 1 := by unfold wrap64; omega
      cases m7 with
      | false =>
        rw [if_neg (by decide)] at HN
        go_wp2_with fail
        go_roundw
        case rel => exact ⟨m + 1, q, cp, h1, by first | rfl | (rw [hwm]; rfl), by rw [HN.out], by rw [HN.out]; exact HO3.out, HG3.out⟩
        case measure => simp [intOf]; omega
      | true =>
        rw [if_pos rfl] at HN
        have hO := HO3.out
        obtain ⟨tl, htl'⟩ : ∃ n, n = (tkN (fs.take m)).length := ⟨_, rfl⟩
        have HTl : Hid (tl = (tkN (fs.take m)).length) := htl'
        rw [← htl'] at hO htl ⊢
        have hsz : W1.heap.size ≤ U3.heap.size := HG3.out.size
        clear htl'
        go_wp2_with (at_builtin; refine wpList_append_own _ rfl (.tmp 21) (.tmp 24) 33 rfl W1.heap.size 9 i0 _ 1 16 Tryz.underlying33 hi hz0 hz1 hz2 rfl (by decide) (.slice q tl cp) tl _ rfl (hO.alloc _) ⟨U3.heap.size, 0, none⟩ 1 1 [.string m0] rfl rfl (cell_one_new _ _ _) (by simp [Value.oneCell']) (by unfold maxLen; omega) (by omega) (by rw [World.size_alloc]; omega) ?_; intro v' w7 hown hgrow hnil; obtain ⟨g', cp', rfl⟩ := ownsRow_succ hown)
        have HN2 : Hid ((tkN (fs.take (m + 1))).length = tl + 1 ∧ (tkN (fs.take (m + 1))).map Value.string = (tkN (fs.take m)).map Value.string ++ [.string m0]) := ⟨by rw [HN.out, List.length_append, HTl.out]; rfl, by rw [HN.out, List.map_append]; rfl⟩
        have HG7 : W1.grownBy w7 none := grown_own (grown_push HG3.out _) hgrow (row_low hO)
        go_roundw
        case rel =>
          refine ⟨m + 1, some ⟨g', 0, none⟩, cp', h1, by first | rfl | (rw [hwm]; rfl), ?_, ?_, HG7⟩
          · rw [HN2.out.1]
          · rw [HN2.out.1, HN2.out.2]; exact hown
        case measure => simp [intOf]; omega
    · have h1' : ¬ (m : Int) + 1 ≤ 36 := by omega
      have ht : tkN (fs.take m) = tokens := by rw [h1, List.take_of_length_le (by rw [HL.out]; exact Nat.le_refl _)]; exact (tkN_hp HR.out.row).trans tkN_all
      have HF : Hid (U.ownsRow W1.heap.size 9 1 (.slice q (tkN (fs.take m)).length cp) 6 (tokens.map Value.string)) := by have h9 := HO.out; rw [ht] at h9 ⊢; exact h9
      clear h1 ht
      go_wp2
      go_ret
      exact ⟨_, rfl, row_base HF.out HG1.out.size, grown_trans HG1.out HG.out⟩
end Go.Proofs.YtknlcjhcamhfmaaGreatDoor
namespace Go.Proofs.YtknlcjhcamhfmaaGreatDoor
open Go.RowKit

/-- Nothing old has turned but the blocks of S. -/
structure Kpt (S : List Nat) (w w' : World) : Prop where
  os : w'.os = w.os
  tape : w'.tape = w.tape
  output : w'.output = w.output
  size : w.heap.size ≤ w'.heap.size
  block : ∀ k, k < w.heap.size → k ∉ S → w'.heap[k]? = w.heap[k]?
theorem Kpt.refl (S : List Nat) (w : World) : Kpt S w w := ⟨rfl, rfl, rfl, Nat.le_refl _, fun _ _ _ => rfl⟩
theorem Kpt.trans {S T : List Nat} {a b c : World} (h : Kpt S a b) (k : Kpt T b c) (hT : ∀ x, x ∈ T → x ∈ S ∨ a.heap.size ≤ x) : Kpt S a c :=
  ⟨k.os.trans h.os, k.tape.trans h.tape, k.output.trans h.output, Nat.le_trans h.size k.size, fun i hi hs => (k.block i (Nat.lt_of_lt_of_le hi h.size) (fun e => by rcases hT i e with h1 | h1; exact hs h1; omega)).trans (h.block i hi hs)⟩
theorem Kpt.of_grown {w w' : World} {r : Option Nat} (h : w.grownBy w' r) : Kpt r.toList w w' :=
  ⟨h.os, h.tape, h.output, h.size, fun k hk hs => h.block k hk (fun e => hs (by rw [← e]; simp))⟩
theorem Kpt.mono {S T : List Nat} {a b : World} (h : Kpt S a b) (hS : ∀ x, x ∈ S → x ∈ T) : Kpt T a b :=
  ⟨h.os, h.tape, h.output, h.size, fun k hk hs => h.block k hk (fun e => hs (hS k e))⟩
theorem Kpt.cell {S : List Nat} {a b : World} (h : Kpt S a b) {p : Addr} {v : Value} (hc : a.cell? p = some v) (hp : p.block ∉ S) : b.cell? p = some v := by
  rw [World.cell?_of_block (h.block p.block (World.block_lt_of_cell? _ _ hc) hp)]; exact hc
theorem Kpt.grow {S : List Nat} {a b c : World} (h : Kpt S a b) (g : b.grownBy c none) : Kpt S a c := h.trans (Kpt.of_grown g) (by simp)
theorem Kpt.new {S : List Nat} {a b c : World} (g : a.grownBy b none) (h : Kpt S b c) (hS : ∀ x, x ∈ S → a.heap.size ≤ x) : a.grownBy c none :=
  ⟨h.os.trans g.os, h.tape.trans g.tape, h.output.trans g.output, Nat.le_trans g.size h.size, fun k hk _ => (h.block k (Nat.lt_of_lt_of_le hk g.size) (fun e => by have := hS k e; omega)).trans (g.block k hk (by simp))⟩
theorem RoomAt.eight {w : World} {g cap m : Nat} (h : RoomAt w g cap) (hm : m < cap) : ∃ v0 v1 v2 v3 v4 v5 v6 v7, w.cell? ⟨g, m * 8, none⟩ = some v0 ∧ w.cell? ⟨g, m * 8 + 1, none⟩ = some v1 ∧ w.cell? ⟨g, m * 8 + 2, none⟩ = some v2 ∧ w.cell? ⟨g, m * 8 + 3, none⟩ = some v3 ∧ w.cell? ⟨g, m * 8 + 4, none⟩ = some v4 ∧ w.cell? ⟨g, m * 8 + 5, none⟩ = some v5 ∧ w.cell? ⟨g, m * 8 + 6, none⟩ = some v6 ∧ w.cell? ⟨g, m * 8 + 7, none⟩ = some v7 := by
  obtain ⟨v0, e0⟩ := h.cell (i := m * 8) (by omega)
  obtain ⟨v1, e1⟩ := h.cell (i := m * 8 + 1) (by omega)
  obtain ⟨v2, e2⟩ := h.cell (i := m * 8 + 2) (by omega)
  obtain ⟨v3, e3⟩ := h.cell (i := m * 8 + 3) (by omega)
  obtain ⟨v4, e4⟩ := h.cell (i := m * 8 + 4) (by omega)
  obtain ⟨v5, e5⟩ := h.cell (i := m * 8 + 5) (by omega)
  obtain ⟨v6, e6⟩ := h.cell (i := m * 8 + 6) (by omega)
  obtain ⟨v7, e7⟩ := h.cell (i := m * 8 + 7) (by omega)
  exact ⟨v0, v1, v2, v3, v4, v5, v6, v7, e0, e1, e2, e3, e4, e5, e6, e7⟩
/-- A list: its block, its length, its room. -/
structure Lst where
  a : Option Nat
  n : Nat
  cap : Nat
def Lst.v (x : Lst) : Value := .slice (x.a.map fun g => ⟨g, 0, none⟩) x.n x.cap
def Lst.f (x : Lst) : Value := .slice (x.a.map fun g => ⟨g, 0, none⟩) x.cap x.cap
def Lst.ok (w : World) (x : Lst) : Prop := (x.a = none ∧ x.n = 0 ∧ x.cap = 0) ∨ ∃ g, x.a = some g ∧ x.n ≤ x.cap ∧ lim x.cap ∧ RoomAt w g x.cap
def blocks (T : List Lst) : List Nat := T.filterMap Lst.a
theorem mem_blocks {T : List Lst} {j g : Nat} {x : Lst} (h : T[j]? = some x) (hg : x.a = some g) : g ∈ blocks T := List.mem_filterMap.2 ⟨x, List.mem_of_getElem? h, hg⟩
/-- No two lie in one block. -/
def Diff (T : List Lst) : Prop := ∀ (i j : Nat) (x y : Lst) (g : Nat), T[i]? = some x → T[j]? = some y → x.a = some g → y.a = some g → i = j
def fcells (T : List Lst) : List Value := T.map Lst.f
theorem fcells_snoc {T : List Lst} {k : Nat} {x : Lst} (h : T[k]? = some x) : fcells (T.take (k + 1)) = fcells (T.take k) ++ [x.f] := by
  rw [List.take_add_one, h]
  simp [fcells]
/-- The lists, marked so far: those before i, and of list i the first k places. -/
def Mkd (w : World) (T : List Lst) (i k : Nat) : Prop := ∀ (j : Nat) (x : Lst) (g : Nat), T[j]? = some x → x.a = some g → ∃ cs, w.heap[g]? = some (.cells cs 115 (0, 0)) ∧ cs.size = x.cap * 8 ∧ ∀ m, m < x.cap → (j < i ∨ (j = i ∧ m < k)) → ∀ (c : Nat) u, (pvs (mkM j m))[c]? = some u → cs[m * 8 + c]? = some u
theorem Mkd.keep {w w' : World} {T : List Lst} {i k : Nat} (M : Mkd w T i k) (g : w.grownBy w' none) : Mkd w' T i k := fun j x b hj hb => by
  obtain ⟨cs, h1, h2⟩ := M j x b hj hb
  exact ⟨cs, grown_keep g h1 (by simp), h2⟩
theorem mk_start {w w' : World} {T : List Lst} (D : ∀ x ∈ T, x.ok w) (g : w.grownBy w' none) : Mkd w' T 0 0 := fun j x b hj hb => by
  rcases D x (List.mem_of_getElem? hj) with ⟨h, _⟩ | ⟨g', h, _, _, cs, h1, h2⟩
  · rw [h] at hb; cases hb
  · rw [h] at hb
    obtain rfl := Option.some.inj hb
    exact ⟨cs, grown_keep g h1 (by simp), h2, fun m _ h => by omega⟩
theorem Mkd.room {w : World} {T : List Lst} {i k j g : Nat} {x : Lst} (M : Mkd w T i k) (hj : T[j]? = some x) (hg : x.a = some g) : RoomAt w g x.cap := by
  obtain ⟨cs, h1, h2, _⟩ := M j x g hj hg
  exact ⟨cs, h1, h2⟩
theorem Mkd.read {w : World} {T : List Lst} {g : Nat} {j : Nat} {x : Lst} (M : Mkd w T T.length 0) (hj : T[j]? = some x) (hg : x.a = some g) {m : Nat} (hm : m < x.cap) : P8 w g (m * 8) (mkM j m) := by
  obtain ⟨cs, h1, h2, h3⟩ := M j x g hj hg
  have hl := (List.getElem?_eq_some_iff.1 hj).1
  have f := h3 m hm (Or.inl hl)
  have e : ∀ c u, (pvs (mkM j m))[c]? = some u → w.cell? ⟨g, m * 8 + c, none⟩ = some u := fun c u hu => by rw [block_cell h1]; exact f c u hu
  exact ⟨e 0 _ rfl, e 1 _ rfl, e 2 _ rfl, e 3 _ rfl, e 4 _ rfl, e 5 _ rfl, e 6 _ rfl, e 7 _ rfl⟩
/-- A part is written at place m of block g. -/
def put8 (w : World) (g o : Nat) (p : Pt) : World := (((((((w.setCell ⟨g, o, none⟩ (.int .u8 p.wn)).setCell ⟨g, o + 1, none⟩ (.int .u8 p.vb)).setCell ⟨g, o + 2, none⟩ (.int .u8 p.wm)).setCell ⟨g, o + 3, none⟩ (.int .i64 p.ct)).setCell ⟨g, o + 4, none⟩ (.int .u8 p.su)).setCell ⟨g, o + 5, none⟩ (.int .u8 p.tr)).setCell ⟨g, o + 6, none⟩ (.int .u8 p.mr)).setCell ⟨g, o + 7, none⟩ (.string p.nm)
def arr8 (cs : Array Value) (o : Nat) (p : Pt) : Array Value := (((((((cs.setIfInBounds o (.int .u8 p.wn)).setIfInBounds (o + 1) (.int .u8 p.vb)).setIfInBounds (o + 2) (.int .u8 p.wm)).setIfInBounds (o + 3) (.int .i64 p.ct)).setIfInBounds (o + 4) (.int .u8 p.su)).setIfInBounds (o + 5) (.int .u8 p.tr)).setIfInBounds (o + 6) (.int .u8 p.mr)).setIfInBounds (o + 7) (.string p.nm)
theorem put8_block {w : World} {g : Nat} {cs : Array Value} (h : w.heap[g]? = some (.cells cs 115 (0, 0))) (o : Nat) (p : Pt) : (put8 w g o p).heap[g]? = some (.cells (arr8 cs o p) 115 (0, 0)) :=
  block_set (block_set (block_set (block_set (block_set (block_set (block_set (block_set h _ _) _ _) _ _) _ _) _ _) _ _) _ _) _ _
theorem put8_grown (w : World) (g o : Nat) (p : Pt) : w.grownBy (put8 w g o p) (some g) :=
  grown_trans (grown_trans (grown_trans (grown_trans (grown_trans (grown_trans (grown_trans (grown_set _ _ _ _) (grown_set _ _ _ _)) (grown_set _ _ _ _)) (grown_set _ _ _ _)) (grown_set _ _ _ _)) (grown_set _ _ _ _)) (grown_set _ _ _ _)) (grown_set _ _ _ _)
theorem arr8_size (cs : Array Value) (o : Nat) (p : Pt) : (arr8 cs o p).size = cs.size := by simp [arr8]
theorem arr8_else {cs : Array Value} {o i : Nat} {p : Pt} (h : i < o ∨ o + 8 ≤ i) : (arr8 cs o p)[i]? = cs[i]? := by
  unfold arr8
  rw [Array.getElem?_setIfInBounds_ne (by omega), Array.getElem?_setIfInBounds_ne (by omega), Array.getElem?_setIfInBounds_ne (by omega), Array.getElem?_setIfInBounds_ne (by omega), Array.getElem?_setIfInBounds_ne (by omega), Array.getElem?_setIfInBounds_ne (by omega), Array.getElem?_setIfInBounds_ne (by omega), Array.getElem?_setIfInBounds_ne (by omega)]
theorem arr8_in {cs : Array Value} {o c : Nat} {p : Pt} {u : Value} (h : o + 8 ≤ cs.size) (hu : (pvs p)[c]? = some u) : (arr8 cs o p)[o + c]? = some u := by
  have hc : c < 8 := (List.getElem?_eq_some_iff.1 hu).1
  rcases (show c = 0 ∨ c = 1 ∨ c = 2 ∨ c = 3 ∨ c = 4 ∨ c = 5 ∨ c = 6 ∨ c = 7 from by omega) with rfl | rfl | rfl | rfl | rfl | rfl | rfl | rfl
  all_goals
    simp only [pvs, List.getElem?_cons_zero, List.getElem?_cons_succ, Option.some.injEq] at hu
    subst hu
    simp [arr8, Array.getElem?_setIfInBounds]
    omega
theorem Mkd.step {w : World} {T : List Lst} {i k g : Nat} {x : Lst} (M : Mkd w T i k) (hD : Diff T) (hi : T[i]? = some x) (hg : x.a = some g) (hk : k < x.cap) : Mkd (put8 w g (k * 8) (mkM i k)) T i (k + 1) := fun j y b hj hb => by
  obtain ⟨cs, h1, h2, h3⟩ := M j y b hj hb
  by_cases e : b = g
  · subst e
    obtain rfl := hD j i y x b hj hi hb hg
    obtain rfl : y = x := Option.some.inj (hj.symm.trans hi)
    refine ⟨arr8 cs (k * 8) (mkM j k), put8_block h1 _ _, by rw [arr8_size]; exact h2, fun m hm h c u hu => ?_⟩
    have hc : c < 8 := (List.getElem?_eq_some_iff.1 hu).1
    by_cases em : m = k
    · subst em
      exact arr8_in (by omega) hu
    · rw [arr8_else (by omega)]
      exact h3 m hm (by omega) c u hu
  · refine ⟨cs, grown_keep (put8_grown w g _ _) h1 (by simpa using e), h2, fun m hm h => h3 m hm ?_⟩
    by_cases ej : j = i
    · subst ej
      obtain rfl : y = x := Option.some.inj (hj.symm.trans hi)
      rw [hg] at hb
      exact absurd (Option.some.inj hb).symm e
    · omega
theorem Mkd.next {w : World} {T : List Lst} {i k : Nat} {x : Lst} (M : Mkd w T i k) (hi : T[i]? = some x) (hk : x.cap ≤ k) : Mkd w T (i + 1) 0 := fun j y b hj hb => by
  obtain ⟨cs, h1, h2, h3⟩ := M j y b hj hb
  refine ⟨cs, h1, h2, fun m hm h => h3 m hm ?_⟩
  by_cases e : j = i
  · subst e
    obtain rfl : y = x := Option.some.inj (hj.symm.trans hi)
    omega
  · omega
theorem Tryz.info54 : (Tryz.prog.info? 54).map (fun i => (i.zero, i.size, i.bytes)) = some (some (.slice none 0 0), 1, 24) := by kernel_rfl
theorem own_above {w : World} {base : Nat} {e : TypeId} {size n : Nat} {v : Value} {xs : List Value} (h : w.ownsRow base e size v n xs) : ∀ x, v.ownBlock = some x → base ≤ x := by
  obtain ⟨h1, h2⟩ := h
  intro x hx
  rcases h2 with ⟨rfl, _⟩ | ⟨g, cap, cur, rfl, hg0, _⟩
  · simp [Value.ownBlock] at hx
  · simp [Value.ownBlock] at hx; omega
theorem row_of_own {w : World} {base : Nat} {v : Value} {T : List Lst} (h : w.ownsRow base 54 1 v T.length (fcells T)) (h0 : 0 < T.length) : ∃ g cap, v = .slice (some ⟨g, 0, none⟩) T.length cap ∧ base ≤ g ∧ (∀ (j : Nat) x, T[j]? = some x → w.cell? ⟨g, j, none⟩ = some x.f) ∧ ∃ cs, w.heap[g]? = some (.cells cs 54 (0, 0)) := by
  obtain ⟨h1, h2⟩ := h
  rcases h2 with ⟨rfl, e⟩ | ⟨g, cap, cur, rfl, hg0, hh, hn, hm, hs, ht⟩
  · omega
  · refine ⟨g, cap, rfl, hg0, fun j x hj => ?_, cur, hh⟩
    have hl := (List.getElem?_eq_some_iff.1 hj).1
    have e : (fcells T)[j]? = some x.f := by unfold fcells; rw [List.getElem?_map, hj]; rfl
    rw [block_cell hh, ← e, ← ht, List.getElem?_take, if_pos (by omega)]
    simp
theorem small_len {n : Nat} (h : n ≤ 4294967296) : n ≤ maxLen := by unfold maxLen; omega
theorem neq_same (p0 p1 p2 p3 p4 p5 p6 : Int) (p7 : ByteArray) (w : World) : (binOp .neq 115 (.agg #[.int .u8 p0, .int .u8 p1, .int .u8 p2, .int .i64 p3, .int .u8 p4, .int .u8 p5, .int .u8 p6, .string p7]) (.agg #[.int .u8 p0, .int .u8 p1, .int .u8 p2, .int .i64 p3, .int .u8 p4, .int .u8 p5, .int .u8 p6, .string p7])).run Tryz.prog w = .ok (.bool false) w := by
  have := neq_part p0 p1 p2 p3 p4 p5 p6 p7 p0 p1 p2 p3 p4 p5 p6 p7
  rw [samep_yes rfl] at this
  exact this _
def S12 (ga k g xc : Nat) (w : World) : Prop := w.cell? ⟨ga, k, none⟩ = some (.slice (some ⟨g, 0, none⟩) xc xc)
theorem S12.c {ga k g xc : Nat} {w : World} (h : S12 ga k g xc w) : w.cell? ⟨ga, k, none⟩ = some (.slice (some ⟨g, 0, none⟩) xc xc) := h
def S19 (ga k g xc m : Nat) (w : World) : Prop := w.cell? ⟨ga, k, none⟩ = some (.slice (some ⟨g, 0, none⟩) xc xc) ∧ P8 w g (m * 8) (mkM k m)
theorem S19.c {ga k g xc m : Nat} {w : World} (h : S19 ga k g xc m w) : w.cell? ⟨ga, k, none⟩ = some (.slice (some ⟨g, 0, none⟩) xc xc) := h.1
theorem S19.p {ga k g xc m : Nat} {w : World} (h : S19 ga k g xc m w) : P8 w g (m * 8) (mkM k m) := h.2
end Go.Proofs.YtknlcjhcamhfmaaGreatDoor
