/-
  The list of the cards of package gold: in a block of its own, its cards' parts in blocks of theirs.
  Package gold: Traits, Marks.
  one: the i-th of what a book is filled with is added.
  What has been added (plain), and the list of what is done; Pick.
-/
import Derived.Test.YtknlcjhcamhfmaaGreatDoorJ20
import Derived.Test.YtknlcjhcamhfmaaGreatDoorJ14
import Derived.OwnWalk
import Derived.Test.YtknlcjhcamhfmaaGreatDoorJ13
namespace Go.Proofs.YtknlcjhcamhfmaaGreatDoor.Gd
open Go.RowKit

def fCells : Array Value := #[.func (.func 235) #[] #[], .func (.func 236) #[] #[], .func (.func 237) #[] #[], .func (.func 238) #[] #[], .func (.func 239) #[] #[], .func (.func 240) #[] #[]]
set_option maxHeartbeats 1000000 in
theorem makers_any (w : World) : Calls Tryz.prog 182 #[] w fun e w' => e = .returned (.slice (some ⟨w.heap.size, 0, none⟩) 6 6) ∧ w' = w.alloc (.cells fCells 159) := by
  go_enter Tryz.func182, Tryz.ntmps182
  go_wp2
  go_ret
  exact ⟨rfl, rfl⟩
theorem LIs.next {es : List Ent} {k : Nat} (h : LIs es k) {x : Hd} {ps : List Pt} (u : Value) (hs : specL[k]? = some (x, ps)) : LIs (es ++ [⟨x, u, ps⟩]) (k + 1) := by
  unfold LIs at h ⊢
  rw [List.map_append, h, List.take_add_one, hs]
  rfl
/-- What holds in the loop of List. -/
structure LK (w wr : World) (k : Nat) (es : List Ent) : Prop where
  tbl : wr.heap[w.heap.size]? = some (.cells fCells 159 (0, 0))
  lies : wr.heap[w.heap.size + 1]? = some (.cells (ecells es ++ noCards (6 - k)).toArray 56 (0, 0))
  is : LIs es k
  own : LOwn (w.heap.size + 2) wr es
  gr : w.grownBy wr none
theorem LK.next {w wr V : World} {k : Nat} {es : List Ent} (h : LK w wr k es) (hk : k < 6) {x : Hd} {u : Value} {ps : List Pt} (hs : specL[k]? = some (x, ps)) (o : Own8 wr.heap.size V u ps) (g : wr.grownBy V none) : LK w (set9 V (w.heap.size + 1) (k * 9) x u) (k + 1) (es ++ [⟨x, u, ps⟩]) := by
  have hl := h.is.len (Nat.le_of_lt hk)
  have L := grown_keep g h.lies (by simp)
  have hb := block_lt h.lies
  have hnk : 6 - k = (6 - (k + 1)) + 1 := by omega
  rw [hnk, noCards_succ] at L
  have L2 := set9_block L (k * 9) (by rw [ecells_len, hl]) rfl x u
  refine ⟨grown_keep (grown_s9 _ _ _ _ _) (grown_keep g h.tbl (by simp)) (fun e => by injection e with e; omega), ?_, h.is.next u hs, (h.own.snoc g (by omega) o).keepR (grown_s9 _ _ _ _ _) (fun k hk e => by injection e with e; omega), grown_own (grown_trans h.gr g) (grown_s9 _ _ _ _ _) (fun x e => by cases e; omega)⟩
  rw [L2, ecells_app]
  simp [ecells]
theorem list_cells : (madeCells (Value.agg #[.string ⟨#[]⟩, .int .u8 0, .int .u8 0, .int .i64 0, .int .i64 0, .int .i64 0, .int .u16 0, .bool false, .slice none 0 0]).cells (6 * 9)).toList = noCards 6 := by kernel_rfl
theorem LK.cellf {w wr : World} {k : Nat} {es : List Ent} (h : LK w wr k es) {i : Nat} {v : Value} (hv : fCells[i]? = some v) : wr.cell? ⟨w.heap.size, i, none⟩ = some v := by rw [block_cell h.tbl, hv]
theorem LK.cells {w wr : World} {k : Nat} {es : List Ent} (h : LK w wr k es) (hk : k < 6) : C9 wr (w.heap.size + 1) (k * 9) Hd.none (.slice none 0 0) := by
  have hl := h.is.len (Nat.le_of_lt hk)
  have hnk : 6 - k = (6 - (k + 1)) + 1 := by omega
  have at_ : ∀ j v, j < 9 → (cvs Hd.none (.slice none 0 0))[j]? = some v → wr.cell? ⟨w.heap.size + 1, k * 9 + j, none⟩ = some v := fun j v hj hv => by
    rw [block_cell h.lies, hnk, noCards_succ, List.getElem?_toArray, List.getElem?_append_right (by rw [ecells_len, hl]; omega), ecells_len, hl, show k * 9 + j - k * 9 = j by omega, List.getElem?_append_left (by simpa [cvs] using hj)]
    exact hv
  exact ⟨at_ 0 _ (by omega) rfl, at_ 1 _ (by omega) rfl, at_ 2 _ (by omega) rfl, at_ 3 _ (by omega) rfl, at_ 4 _ (by omega) rfl, at_ 5 _ (by omega) rfl, at_ 6 _ (by omega) rfl, at_ 7 _ (by omega) rfl, at_ 8 _ (by omega) rfl⟩
set_option maxRecDepth 100000 in
set_option maxHeartbeats 4000000 in
theorem list_gd0 (w : World) : Calls Tryz.prog 99 #[] w fun e w' => ∃ es, e = .returned (.slice (some ⟨w.heap.size + 1, 0, none⟩) 6 6) ∧ LIs es 6 ∧ w'.heap[w.heap.size + 1]? = some (.cells (ecells es).toArray 56 (0, 0)) ∧ LOwn (w.heap.size + 2) w' es ∧ w.grownBy w' none := by
  obtain ⟨i0, hi, hz0, hz1, hz2⟩ := info_parts (P := Tryz.prog) (e := 56) (z := .agg #[.string ⟨#[]⟩, .int .u8 0, .int .u8 0, .int .i64 0, .int .i64 0, .int .i64 0, .int .u16 0, .bool false, .slice none 0 0]) (size := 9) (bytes := 80) (by kernel_rfl)
  go_enter Tryz.func99, Tryz.ntmps99
  go_wp2_with fail
  refine (makers_any w).mono ?_
  rintro e W1 ⟨rfl, hW1⟩
  have A1 : Hid (W1.heap[w.heap.size]? = some (.cells fCells 159 (0, 0))) := by rw [hW1]; exact alloc_at _ _ _
  have G1 : Hid (w.grownBy W1 none) := by rw [hW1]; exact World.grownBy_alloc _ _ none
  have S1 : W1.heap.size = w.heap.size + 1 := by rw [hW1, World.size_alloc]
  clear hW1
  go_wp2_with (at_make; refine wpList_make_full _ rfl _ _ 89 rfl W1.heap.size 56 i0 _ 9 Tryz.underlying89 hi hz0 hz1 .i64 .i64 _ _ 6 rfl rfl rfl rfl (by rw [hz2]; decide) (by decide) (Nat.le_refl _) ?_; intro V o1 gv)
  have HK : Hid (LK w V 0 []) := by
    obtain ⟨_, h0 | ⟨g, cap, cur, ev, _, hh, _, _, hsz, htk⟩⟩ := o1
    · exact absurd h0.2 (by decide)
    · injection ev with e1 _ e3
      injection e1 with e1
      injection e1 with e1 _ _
      subst e1
      subst e3
      have hc : cur = (noCards 6).toArray := by
        apply Array.ext'
        rw [← list_cells, ← htk, List.take_of_length_le (by rw [Array.length_toList, hsz]; exact Nat.le_refl _)]
      rw [S1, hc] at hh
      exact ⟨grown_keep gv A1.out (by simp), by simpa [ecells] using hh, rfl, LOwn.nil _ _, grown_trans G1.out gv⟩
  have SV : Hid (V.heap.size = V.heap.size) := rfl
  clear o1 gv A1 G1 SV S1
  go_loopw [11] (fun i wr => ∃ (k : Nat) (es : List Ent), k ≤ 6 ∧ i = .int .i64 (k : Int) ∧ LK w wr k es) (fun i _ => 6 - (intOf i).toNat)
  case atStart => exact ⟨0, [], Nat.zero_le _, rfl, HK.out⟩
  case round =>
    clear HK
    obtain ⟨k, es, hk, rfl, K⟩ := hrel
    obtain ⟨U, hU⟩ : ∃ U, U = wr := ⟨_, rfl⟩
    subst hU
    have HK : Hid (LK w U k es) := K
    clear K
    rcases (show k = 0 ∨ k = 1 ∨ k = 2 ∨ k = 3 ∨ k = 4 ∨ k = 5 ∨ k = 6 from by omega) with rfl | rfl | rfl | rfl | rfl | rfl | rfl
    · have c0 : U.cell? ⟨w.heap.size, 0, none⟩ = some (.func (.func 235) #[] #[]) := HK.out.cellf rfl
      rw [show ((0 : Nat) : Int) = (0 : Int) from rfl]
      go_wp2_with fail
      refine (treasure_any _).mono ?_
      rintro e V1 ⟨u, rfl, O1, g1⟩
      obtain ⟨x, y, rfl⟩ := O1.at.form
      obtain ⟨z0, z1, z2, z3, z4, z5, z6, z7, z8⟩ := (HK.out.cells (by decide)).keep g1
      have zf := fun i => block_free (grown_keep g1 HK.out.lies (by simp)) i
      obtain ⟨V9, hV9⟩ : ∃ V9, V9 = set9 V1 (w.heap.size + 1) (0 * 9) treasureH (.slice x treasureP.length y) := ⟨_, rfl⟩
      have HN : Hid (LK w V9 (0 + 1) (es ++ [⟨treasureH, .slice x treasureP.length y, treasureP⟩])) := by rw [hV9]; exact HK.out.next (by decide) rfl O1 g1
      unfold set9 treasureH at hV9
      simp only [Nat.reduceMul, Nat.zero_add] at hV9 z0 z1 z2 z3 z4 z5 z6 z7 z8
      have HV9 : Hid (V9 = _) := hV9
      clear O1 g1 HK c0 hV9
      unfold cv treasureH
      go_upto_region 7 with fail
      rw [← HV9.out]
      clear HV9 z0 z1 z2 z3 z4 z5 z6 z7 z8 zf
      go_wp2_with fail
      go_roundw
      case rel => exact ⟨1, _, by decide, rfl, HN.out⟩
      case measure => decide
    · have c0 : U.cell? ⟨w.heap.size, 1, none⟩ = some (.func (.func 236) #[] #[]) := HK.out.cellf rfl
      rw [show ((1 : Nat) : Int) = (1 : Int) from rfl]
      go_wp2_with fail
      refine (coin_any _).mono ?_
      rintro e V1 ⟨u, rfl, O1, g1⟩
      obtain ⟨x, y, rfl⟩ := O1.at.form
      obtain ⟨z0, z1, z2, z3, z4, z5, z6, z7, z8⟩ := (HK.out.cells (by decide)).keep g1
      have zf := fun i => block_free (grown_keep g1 HK.out.lies (by simp)) i
      obtain ⟨V9, hV9⟩ : ∃ V9, V9 = set9 V1 (w.heap.size + 1) (1 * 9) coinH (.slice x coinP.length y) := ⟨_, rfl⟩
      have HN : Hid (LK w V9 (1 + 1) (es ++ [⟨coinH, .slice x coinP.length y, coinP⟩])) := by rw [hV9]; exact HK.out.next (by decide) rfl O1 g1
      unfold set9 coinH at hV9
      simp only [Nat.reduceMul, Nat.reduceAdd] at hV9 z0 z1 z2 z3 z4 z5 z6 z7 z8
      have HV9 : Hid (V9 = _) := hV9
      clear O1 g1 HK c0 hV9
      unfold cv coinH
      go_upto_region 7 with fail
      rw [← HV9.out]
      clear HV9 z0 z1 z2 z3 z4 z5 z6 z7 z8 zf
      go_wp2_with fail
      go_roundw
      case rel => exact ⟨2, _, by decide, rfl, HN.out⟩
      case measure => decide
    · have c0 : U.cell? ⟨w.heap.size, 2, none⟩ = some (.func (.func 237) #[] #[]) := HK.out.cellf rfl
      rw [show ((2 : Nat) : Int) = (2 : Int) from rfl]
      go_wp2_with fail
      refine (statue_any _).mono ?_
      rintro e V1 ⟨u, rfl, O1, g1⟩
      obtain ⟨x, y, rfl⟩ := O1.at.form
      obtain ⟨z0, z1, z2, z3, z4, z5, z6, z7, z8⟩ := (HK.out.cells (by decide)).keep g1
      have zf := fun i => block_free (grown_keep g1 HK.out.lies (by simp)) i
      obtain ⟨V9, hV9⟩ : ∃ V9, V9 = set9 V1 (w.heap.size + 1) (2 * 9) statueH (.slice x statueP.length y) := ⟨_, rfl⟩
      have HN : Hid (LK w V9 (2 + 1) (es ++ [⟨statueH, .slice x statueP.length y, statueP⟩])) := by rw [hV9]; exact HK.out.next (by decide) rfl O1 g1
      unfold set9 statueH at hV9
      simp only [Nat.reduceMul, Nat.reduceAdd] at hV9 z0 z1 z2 z3 z4 z5 z6 z7 z8
      have HV9 : Hid (V9 = _) := hV9
      clear O1 g1 HK c0 hV9
      unfold cv statueH
      go_upto_region 7 with fail
      rw [← HV9.out]
      clear HV9 z0 z1 z2 z3 z4 z5 z6 z7 z8 zf
      go_wp2_with fail
      go_roundw
      case rel => exact ⟨3, _, by decide, rfl, HN.out⟩
      case measure => decide
    · have c0 : U.cell? ⟨w.heap.size, 3, none⟩ = some (.func (.func 238) #[] #[]) := HK.out.cellf rfl
      rw [show ((3 : Nat) : Int) = (3 : Int) from rfl]
      go_wp2_with fail
      refine (idol_any _).mono ?_
      rintro e V1 ⟨u, rfl, O1, g1⟩
      obtain ⟨x, y, rfl⟩ := O1.at.form
      obtain ⟨z0, z1, z2, z3, z4, z5, z6, z7, z8⟩ := (HK.out.cells (by decide)).keep g1
      have zf := fun i => block_free (grown_keep g1 HK.out.lies (by simp)) i
      obtain ⟨V9, hV9⟩ : ∃ V9, V9 = set9 V1 (w.heap.size + 1) (3 * 9) idolH (.slice x idolP.length y) := ⟨_, rfl⟩
      have HN : Hid (LK w V9 (3 + 1) (es ++ [⟨idolH, .slice x idolP.length y, idolP⟩])) := by rw [hV9]; exact HK.out.next (by decide) rfl O1 g1
      unfold set9 idolH at hV9
      simp only [Nat.reduceMul, Nat.reduceAdd] at hV9 z0 z1 z2 z3 z4 z5 z6 z7 z8
      have HV9 : Hid (V9 = _) := hV9
      clear O1 g1 HK c0 hV9
      unfold cv idolH
      go_upto_region 7 with fail
      rw [← HV9.out]
      clear HV9 z0 z1 z2 z3 z4 z5 z6 z7 z8 zf
      go_wp2_with fail
      go_roundw
      case rel => exact ⟨4, _, by decide, rfl, HN.out⟩
      case measure => decide
    · have c0 : U.cell? ⟨w.heap.size, 4, none⟩ = some (.func (.func 239) #[] #[]) := HK.out.cellf rfl
      rw [show ((4 : Nat) : Int) = (4 : Int) from rfl]
      go_wp2_with fail
      refine (taxMan_any _).mono ?_
      rintro e V1 ⟨u, rfl, O1, g1⟩
      obtain ⟨x, y, rfl⟩ := O1.at.form
      obtain ⟨z0, z1, z2, z3, z4, z5, z6, z7, z8⟩ := (HK.out.cells (by decide)).keep g1
      have zf := fun i => block_free (grown_keep g1 HK.out.lies (by simp)) i
      obtain ⟨V9, hV9⟩ : ∃ V9, V9 = set9 V1 (w.heap.size + 1) (4 * 9) taxManH (.slice x taxManP.length y) := ⟨_, rfl⟩
      have HN : Hid (LK w V9 (4 + 1) (es ++ [⟨taxManH, .slice x taxManP.length y, taxManP⟩])) := by rw [hV9]; exact HK.out.next (by decide) rfl O1 g1
      unfold set9 taxManH at hV9
      simp only [Nat.reduceMul, Nat.reduceAdd] at hV9 z0 z1 z2 z3 z4 z5 z6 z7 z8
      have HV9 : Hid (V9 = _) := hV9
      clear O1 g1 HK c0 hV9
      unfold cv taxManH
      go_upto_region 7 with fail
      rw [← HV9.out]
      clear HV9 z0 z1 z2 z3 z4 z5 z6 z7 z8 zf
      go_wp2_with fail
      go_roundw
      case rel => exact ⟨5, _, by decide, rfl, HN.out⟩
      case measure => decide
    · have c0 : U.cell? ⟨w.heap.size, 5, none⟩ = some (.func (.func 240) #[] #[]) := HK.out.cellf rfl
      rw [show ((5 : Nat) : Int) = (5 : Int) from rfl]
      go_wp2_with fail
      refine (midas_any _).mono ?_
      rintro e V1 ⟨u, rfl, O1, g1⟩
      obtain ⟨x, y, rfl⟩ := O1.at.form
      obtain ⟨z0, z1, z2, z3, z4, z5, z6, z7, z8⟩ := (HK.out.cells (by decide)).keep g1
      have zf := fun i => block_free (grown_keep g1 HK.out.lies (by simp)) i
      obtain ⟨V9, hV9⟩ : ∃ V9, V9 = set9 V1 (w.heap.size + 1) (5 * 9) midasH (.slice x midasP.length y) := ⟨_, rfl⟩
      have HN : Hid (LK w V9 (5 + 1) (es ++ [⟨midasH, .slice x midasP.length y, midasP⟩])) := by rw [hV9]; exact HK.out.next (by decide) rfl O1 g1
      unfold set9 midasH at hV9
      simp only [Nat.reduceMul, Nat.reduceAdd] at hV9 z0 z1 z2 z3 z4 z5 z6 z7 z8
      have HV9 : Hid (V9 = _) := hV9
      clear O1 g1 HK c0 hV9
      unfold cv midasH
      go_upto_region 7 with fail
      rw [← HV9.out]
      clear HV9 z0 z1 z2 z3 z4 z5 z6 z7 z8 zf
      go_wp2_with fail
      go_roundw
      case rel => exact ⟨6, _, by decide, rfl, HN.out⟩
      case measure => decide
    · rw [show ((6 : Nat) : Int) = (6 : Int) from rfl]
      have L0 := HK.out.lies
      rw [show noCards (6 - 6) = [] from rfl, List.append_nil] at L0
      have HL : Hid (U.heap[w.heap.size + 1]? = some (.cells (ecells es).toArray 56 (0, 0))) := L0
      clear L0
      go_wp2
      go_ret
      exact ⟨es, rfl, HK.out.is, HL.out, HK.out.own, HK.out.gr⟩
/-- A list of the suit's cards: in a block of its own; parts in blocks of theirs. -/
structure LAt (w w' : World) (g : Nat) (es : List Ent) : Prop where
  is : LIs es 6
  lies : w'.heap[g]? = some (.cells (ecells es).toArray 56 (0, 0))
  own : LOwn w.heap.size w' es
  low : w.heap.size ≤ g
  top : g < w'.heap.size
  other : ∀ e ∈ es, ∀ b, e.v.ownBlock = some b → g < b
  gr : w.grownBy w' none
theorem list_gd (w : World) : Calls Tryz.prog 99 #[] w fun e w' => ∃ g es, e = .returned (.slice (some ⟨g, 0, none⟩) 6 6) ∧ LAt w w' g es := by
  refine (list_gd0 w).mono ?_
  rintro e w' ⟨es, rfl, h1, h2, h3, h4⟩
  refine ⟨w.heap.size + 1, es, rfl, h1, h2, h3.low (by omega), by omega, block_lt h2, fun e he b hb => ?_, h4⟩
  have := ((h3.own e he).block b hb).1
  omega
theorem list_std (w : World) : Calls Tryz.prog 99 #[] w fun e w' => ∃ g es, e = .returned (.slice (some ⟨g, 0, none⟩) 6 6) ∧ SuL specL w w' g es := by
  refine (list_gd w).mono ?_
  rintro e w' ⟨g, es, rfl, A⟩
  exact ⟨g, es, rfl, A.is, A.lies, A.own.own, A.low, A.gr⟩
end Go.Proofs.YtknlcjhcamhfmaaGreatDoor.Gd
namespace Go.Proofs.YtknlcjhcamhfmaaGreatDoor.Gd
open Go.RowKit

def tCells : Array Value := #[.int .u8 7]
set_option maxHeartbeats 1000000 in
theorem traits (w : World) : Calls Tryz.prog 100 #[] w fun e w' => e = .returned (.slice (some ⟨w.heap.size, 0, none⟩) 1 1) ∧ w' = w.alloc (.cells tCells 57) := by
  go_enter Tryz.func100, Tryz.ntmps100
  go_wp2
  go_ret
  exact ⟨rfl, rfl⟩
def mk : Mk := ⟨1, ⟨#[117, 112]⟩, 1, 1⟩
def mCells : Array Value := #[.int .u8 1, .string ⟨#[117, 112]⟩, .int .i64 1, .int .i64 1]
set_option maxHeartbeats 1000000 in
theorem marks (w : World) : Calls Tryz.prog 101 #[] w fun e w' => e = .returned (.slice (some ⟨w.heap.size, 0, none⟩) 1 1) ∧ w' = w.alloc (.cells mCells 60) := by
  go_enter Tryz.func101, Tryz.ntmps101
  go_wp2
  go_ret
  exact ⟨rfl, rfl⟩
end Go.Proofs.YtknlcjhcamhfmaaGreatDoor.Gd
namespace Go.Proofs.YtknlcjhcamhfmaaGreatDoor
open Go.RowKit

/-- What a book is filled with: where its three lists lie. -/
structure FillAt (w : World) (vc vt vm : Value) (cs : List Ent) (ts : List ByteArray) (ms : List Mk) : Prop where
  c : ∃ a k, vc = .slice a cs.length k ∧ (0 < cs.length → ∃ g o, a = some ⟨g, o, none⟩ ∧ EsAt w g o cs)
  t : ∃ a k, vt = .slice a ts.length k ∧ (0 < ts.length → ∃ g o, a = some ⟨g, o, none⟩ ∧ StrAt w g o ts)
  m : ∃ a k, vm = .slice a ms.length k ∧ (0 < ms.length → ∃ g o, a = some ⟨g, o, none⟩ ∧ MAt w g o ms)
  ps : ∀ e ∈ cs, PsAt w e.v e.ps ∧ Small e.ps.length
theorem StrAt.keep {w w' : World} {g o : Nat} {l : List ByteArray} (h : StrAt w g o l) (k : w.grownBy w' none) : StrAt w' g o l := fun j s hs => k.cell (h j s hs) (by simp)
theorem FillAt.keep {w w' : World} {vc vt vm : Value} {cs : List Ent} {ts : List ByteArray} {ms : List Mk} (h : FillAt w vc vt vm cs ts ms) (g : w.grownBy w' none) : FillAt w' vc vt vm cs ts ms := by
  obtain ⟨⟨a, k, e, h1⟩, ⟨b, l, f, h2⟩, ⟨c, m, i, h3⟩, h4⟩ := h
  refine ⟨⟨a, k, e, fun h0 => ?_⟩, ⟨b, l, f, fun h0 => ?_⟩, ⟨c, m, i, fun h0 => ?_⟩, fun e he => ⟨(h4 e he).1.keep g, (h4 e he).2⟩⟩
  · obtain ⟨x, o, e1, e2⟩ := h1 h0; exact ⟨x, o, e1, e2.keep g⟩
  · obtain ⟨x, o, e1, e2⟩ := h2 h0; exact ⟨x, o, e1, e2.keep g⟩
  · obtain ⟨x, o, e1, e2⟩ := h3 h0; exact ⟨x, o, e1, e2.keep g⟩
/-- What is told of the i-th, and what becomes of the book (u: where its parts lie). -/
def oneE (p : Pl) (es : List Ent) (cs : List Ent) (ts : List ByteArray) (ms : List Mk) (i : Nat) : Int :=
  if i < cs.length then caE p es (match cs[i]? with
    | some e => e.cd
    | none => Cd.none)
  else if i < cs.length + ts.length then trE p ((i - cs.length : Nat) + 1 : Int) (ts.getD (i - cs.length) ⟨#[]⟩)
  else maE p (ms.getD (i - cs.length - ts.length) Mk.none)
def oneEs (p : Pl) (es : List Ent) (cs : List Ent) (u : Value) (i : Nat) : List Ent := match cs[i]? with
  | some e => if caE p es e.cd = 0 then ins es ⟨e.h, u, e.ps⟩ else es
  | none => es
def oneP (p : Pl) (cs : List Ent) (ts : List ByteArray) (ms : List Mk) (i : Nat) : Pl :=
  if i < cs.length then p else if i < cs.length + ts.length then trP p ((i - cs.length : Nat) + 1 : Int) (ts.getD (i - cs.length) ⟨#[]⟩)
  else maP p (ms.getD (i - cs.length - ts.length) Mk.none)
def fv (vc vt vm : Value) : Value := .agg #[vc, vt, vm]
theorem w64_of (x : Int) (h0 : 0 ≤ x) (h1 : x < 1000) : wrap64 x = x := by unfold wrap64; omega
theorem w8_of (x : Int) (h0 : 0 ≤ x) (h1 : x < 100) : wrap64 (1 + x) % 256 = x + 1 := by rw [w64_of (1 + x) (by omega) (by omega)]; omega
theorem one_w {i c d : Nat} (h : d = i - c) (h1 : ¬ i < c) (h2 : i < 200) : wrap64 ((i : Int) - (c : Int)) = (d : Int) := by
  rw [w64_of ((i : Int) - (c : Int)) (by omega) (by omega)]; omega
end Go.Proofs.YtknlcjhcamhfmaaGreatDoor
namespace Go.Proofs.YtknlcjhcamhfmaaGreatDoor
open Go.RowKit

def many (cs : List Ent) (ts : List ByteArray) (ms : List Mk) : Nat := cs.length + ts.length + ms.length
/-- l: what was added, the last first; es, p: the book; r: how many were refused. -/
def Fil (cs : List Ent) (ts : List ByteArray) (ms : List Mk) : List Nat → List Ent → Pl → Nat → Prop
  | [], es, p, r => es = [] ∧ p = plNew ∧ r = 0
  | i :: l, es, p, r => ∃ (es0 : List Ent) (p0 : Pl) (r0 : Nat) (u : Value), Fil cs ts ms l es0 p0 r0 ∧ ¬ i ∈ l ∧ i < many cs ts ms ∧ es = oneEs p0 es0 cs u i ∧ p = oneP p0 cs ts ms i ∧ r = r0 + if oneE p0 es0 cs ts ms i = 0 then 0 else 1
theorem Fil.nil {cs : List Ent} {ts : List ByteArray} {ms : List Mk} : Fil cs ts ms [] [] plNew 0 := ⟨rfl, rfl, rfl⟩
theorem Fil.step {cs : List Ent} {ts : List ByteArray} {ms : List Mk} {l : List Nat} {es : List Ent} {p : Pl} {r : Nat} (i : Nat) (u : Value) (h : Fil cs ts ms l es p r) (hi : ¬ i ∈ l) (hm : i < many cs ts ms) : Fil cs ts ms (i :: l) (oneEs p es cs u i) (oneP p cs ts ms i) (r + if oneE p es cs ts ms i = 0 then 0 else 1) := ⟨es, p, r, u, h, hi, hm, rfl, rfl, rfl⟩
/-- What holds of an empty book, and stays so at each step, holds. -/
theorem Fil.ind {cs : List Ent} {ts : List ByteArray} {ms : List Mk} {M : List Nat → List Ent → Pl → Nat → Prop} (h0 : M [] [] plNew 0) (hs : ∀ (l : List Nat) (es : List Ent) (p : Pl) (r i : Nat) (u : Value), Fil cs ts ms l es p r → ¬ i ∈ l → i < many cs ts ms → M l es p r → M (i :: l) (oneEs p es cs u i) (oneP p cs ts ms i) (r + if oneE p es cs ts ms i = 0 then 0 else 1)) : ∀ {l : List Nat} {es : List Ent} {p : Pl} {r : Nat}, Fil cs ts ms l es p r → M l es p r := by
  intro l
  induction l with
  | nil =>
    rintro es p r ⟨rfl, rfl, rfl⟩
    exact h0
  | cons i l ih =>
    rintro es p r ⟨es0, p0, r0, u, hf, hi, hm, rfl, rfl, rfl⟩
    exact hs l es0 p0 r0 i u hf hi hm (ih hf)
/-- The list of what is done. -/
def dn (n : Nat) (l : List Nat) : List Value := (List.range n).map fun i => .bool (decide (i ∈ l))
theorem dn_at {n i : Nat} (l : List Nat) (h : i < n) : (dn n l)[i]? = some (.bool (decide (i ∈ l))) := by simp [dn, h]
theorem dn_nil (n : Nat) : dn n [] = List.replicate n (.bool false) := by
  apply List.ext_getElem?
  intro i
  by_cases h : i < n
  · rw [dn_at _ h]; simp [h]
  · simp [dn, h]
theorem dn_set {n i : Nat} (l : List Nat) (h : i < n) : (dn n l).set i (.bool true) = dn n (i :: l) := by
  apply List.ext_getElem?
  intro j
  by_cases hj : j < n
  · rw [dn_at _ hj, List.getElem?_set]
    by_cases hij : i = j
    · subst hij
      rw [if_pos rfl, if_pos (by simp [dn, h])]
      simp
    · rw [if_neg hij, dn_at _ hj]
      have : (j ∈ i :: l) ↔ j ∈ l := by simp [Ne.symm hij]
      simp [this]
  · have h1 : (dn n (i :: l))[j]? = none := by simp [dn, hj]
    have h2 : ((dn n l).set i (.bool true))[j]? = none := by simp [dn, hj]
    rw [h1, h2]
/-- Where it lies: in a list of the call's own. -/
def DnAt (w : World) (base d n : Nat) (l : List Nat) : Prop := w.ownsRow base 4 1 (.slice (some ⟨d, 0, none⟩) n n) n (dn n l)
theorem DnAt.cell {w : World} {base d n i : Nat} {l : List Nat} (h : DnAt w base d n l) (hi : i < n) : w.cell? ⟨d, i, none⟩ = some (.bool (decide (i ∈ l))) := by
  rw [World.ownsRow.cellAt h i (by omega), dn_at l hi]
theorem DnAt.free {w : World} {base d n : Nat} {l : List Nat} (h : DnAt w base d n l) (i : Nat) : w.frozen? ⟨d, i, none⟩ = false := World.ownsRow.frozenAt h i
theorem DnAt.put {w : World} {base d n i : Nat} {l : List Nat} (h : DnAt w base d n l) (hi : i < n) : DnAt (w.setCell ⟨d, i, none⟩ (.bool true)) base d n (i :: l) ∧ w.grownBy (w.setCell ⟨d, i, none⟩ (.bool true)) (some d) := by
  have := World.ownsRow.stored h i (.bool true)
  rw [dn_set l hi] at this
  exact this
theorem DnAt.keepR {w w' : World} {base d n : Nat} {l : List Nat} {r : Option Nat} (h : DnAt w base d n l) (g : w.grownBy w' r) (hr : some d ≠ r) : DnAt w' base d n l := World.ownsRow.kept h g (Or.inr hr)
theorem DnAt.made {w : World} {base d n : Nat} (h : w.ownsRow base 4 1 (.slice (some ⟨d, 0, none⟩) n n) n (madeCells (Value.bool false).cells (n * 1)).toList) : DnAt w base d n [] := by
  unfold DnAt
  rw [dn_nil, ← toList_madeCells_one]
  rw [Nat.mul_one] at h
  exact h
set_option maxHeartbeats 1000000 in
theorem pick_any (k : Int) (n : Nat) (w : World) (hn : 0 < n) (hm : n ≤ 4294967296) : Calls Tryz.prog 29 #[.int .i64 k, .int .i64 n] w fun e w' => (∃ r : Nat, r < n ∧ e = .returned (.int .i64 r)) ∧ w' = w := by
  have h1 : ¬ ((n : Int) < 1) := by omega
  have h0 : ((n : Int) == 0) = false := by simpa using (show ¬ ((n : Int) = 0) by omega)
  have b1 : k.tmod n < n := Int.tmod_lt_of_pos k (by omega)
  have b2 : -(n : Int) < k.tmod n := by
    have h := Int.tmod_lt_of_pos (-k) (show (0 : Int) < n by omega)
    rw [Int.neg_tmod] at h
    omega
  go_enter Tryz.func29, Tryz.ntmps29
  go_wp2
  · go_ret
    exact ⟨⟨(k.tmod n + n).toNat, by omega, ret_int (Int.toNat_of_nonneg (by omega)).symm⟩, rfl⟩
  · go_ret
    exact ⟨⟨(k.tmod n).toNat, by omega, ret_int (Int.toNat_of_nonneg (by omega)).symm⟩, rfl⟩
end Go.Proofs.YtknlcjhcamhfmaaGreatDoor
