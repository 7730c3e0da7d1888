/-
  The list of the cards of package fire: in a block of its own, its cards' parts in blocks of theirs.
  Package fire: Traits, Marks.
-/
import Derived.Test.YtknlcjhcamhfmaaGreatDoorJ16
import Derived.Test.YtknlcjhcamhfmaaGreatDoorJ14
import Derived.OwnWalk
namespace Go.Proofs.YtknlcjhcamhfmaaGreatDoor.Fr
open Go.RowKit

def fCells : Array Value := #[.func (.func 218) #[] #[], .func (.func 219) #[] #[], .func (.func 220) #[] #[], .func (.func 221) #[] #[], .func (.func 222) #[] #[], .func (.func 223) #[] #[]]
set_option maxHeartbeats 1000000 in
theorem makers_any (w : World) : Calls Tryz.prog 174 #[] w fun e w' => e = .returned (.slice (some ⟨w.heap.size, 0, none⟩) 6 6) ∧ w' = w.alloc (.cells fCells 159) := by
  go_enter Tryz.func174, Tryz.ntmps174
  go_wp2
  go_ret
  exact ⟨rfl, rfl⟩
theorem LIs.next {es : List Ent} {k : Nat} (h : LIs es k) {x : Hd} {ps : List Pt} (u : Value) (hs : specL[k]? = some (x, ps)) : LIs (es ++ [⟨x, u, ps⟩]) (k + 1) := by
  unfold LIs at h ⊢
  rw [List.map_append, h, List.take_add_one, hs]
  rfl
/-- What holds in the loop of List. -/
structure LK (w wr : World) (k : Nat) (es : List Ent) : Prop where
  tbl : wr.heap[w.heap.size]? = some (.cells fCells 159 (0, 0))
  lies : wr.heap[w.heap.size + 1]? = some (.cells (ecells es ++ noCards (6 - k)).toArray 56 (0, 0))
  is : LIs es k
  own : LOwn (w.heap.size + 2) wr es
  gr : w.grownBy wr none
theorem LK.next {w wr V : World} {k : Nat} {es : List Ent} (h : LK w wr k es) (hk : k < 6) {x : Hd} {u : Value} {ps : List Pt} (hs : specL[k]? = some (x, ps)) (o : Own8 wr.heap.size V u ps) (g : wr.grownBy V none) : LK w (set9 V (w.heap.size + 1) (k * 9) x u) (k + 1) (es ++ [⟨x, u, ps⟩]) := by
  have hl := h.is.len (Nat.le_of_lt hk)
  have L := grown_keep g h.lies (by simp)
  have hb := block_lt h.lies
  have hnk : 6 - k = (6 - (k + 1)) + 1 := by omega
  rw [hnk, noCards_succ] at L
  have L2 := set9_block L (k * 9) (by rw [ecells_len, hl]) rfl x u
  refine ⟨grown_keep (grown_s9 _ _ _ _ _) (grown_keep g h.tbl (by simp)) (fun e => by injection e with e; omega), ?_, h.is.next u hs, (h.own.snoc g (by omega) o).keepR (grown_s9 _ _ _ _ _) (fun k hk e => by injection e with e; omega), grown_own (grown_trans h.gr g) (grown_s9 _ _ _ _ _) (fun x e => by cases e; omega)⟩
  rw [L2, ecells_app]
  simp [ecells]
theorem list_cells : (madeCells (Value.agg #[.string ⟨#[]⟩, .int .u8 0, .int .u8 0, .int .i64 0, .int .i64 0, .int .i64 0, .int .u16 0, .bool false, .slice none 0 0]).cells (6 * 9)).toList = noCards 6 := by kernel_rfl
theorem LK.cellf {w wr : World} {k : Nat} {es : List Ent} (h : LK w wr k es) {i : Nat} {v : Value} (hv : fCells[i]? = some v) : wr.cell? ⟨w.heap.size, i, none⟩ = some v := by rw [block_cell h.tbl, hv]
theorem LK.cells {w wr : World} {k : Nat} {es : List Ent} (h : LK w wr k es) (hk : k < 6) : C9 wr (w.heap.size + 1) (k * 9) Hd.none (.slice none 0 0) := by
  have hl := h.is.len (Nat.le_of_lt hk)
  have hnk : 6 - k = (6 - (k + 1)) + 1 := by omega
  have at_ : ∀ j v, j < 9 → (cvs Hd.none (.slice none 0 0))[j]? = some v → wr.cell? ⟨w.heap.size + 1, k * 9 + j, none⟩ = some v := fun j v hj hv => by
    rw [block_cell h.lies, hnk, noCards_succ, List.getElem?_toArray, List.getElem?_append_right (by rw [ecells_len, hl]; omega), ecells_len, hl, show k * 9 + j - k * 9 = j by omega, List.getElem?_append_left (by simpa [cvs] using hj)]
    exact hv
  exact ⟨at_ 0 _ (by omega) rfl, at_ 1 _ (by omega) rfl, at_ 2 _ (by omega) rfl, at_ 3 _ (by omega) rfl, at_ 4 _ (by omega) rfl, at_ 5 _ (by omega) rfl, at_ 6 _ (by omega) rfl, at_ 7 _ (by omega) rfl, at_ 8 _ (by omega) rfl⟩
set_option maxRecDepth 100000 in
set_option maxHeartbeats 4000000 in
theorem list_fr0 (w : World) : Calls Tryz.prog 87 #[] w fun e w' => ∃ es, e = .returned (.slice (some ⟨w.heap.size + 1, 0, none⟩) 6 6) ∧ LIs es 6 ∧ w'.heap[w.heap.size + 1]? = some (.cells (ecells es).toArray 56 (0, 0)) ∧ LOwn (w.heap.size + 2) w' es ∧ w.grownBy w' none := by
  obtain ⟨i0, hi, hz0, hz1, hz2⟩ := info_parts (P := Tryz.prog) (e := 56) (z := .agg #[.string ⟨#[]⟩, .int .u8 0, .int .u8 0, .int .i64 0, .int .i64 0, .int .i64 0, .int .u16 0, .bool false, .slice none 0 0]) (size := 9) (bytes := 80) (by kernel_rfl)
  go_enter Tryz.func87, Tryz.ntmps87
  go_wp2_with fail
  refine (makers_any w).mono ?_
  rintro e W1 ⟨rfl, hW1⟩
  have A1 : Hid (W1.heap[w.heap.size]? = some (.cells fCells 159 (0, 0))) := by rw [hW1]; exact alloc_at _ _ _
  have G1 : Hid (w.grownBy W1 none) := by rw [hW1]; exact World.grownBy_alloc _ _ none
  have S1 : W1.heap.size = w.heap.size + 1 := by rw [hW1, World.size_alloc]
  clear hW1
  go_wp2_with (at_make; refine wpList_make_full _ rfl _ _ 89 rfl W1.heap.size 56 i0 _ 9 Tryz.underlying89 hi hz0 hz1 .i64 .i64 _ _ 6 rfl rfl rfl rfl (by rw [hz2]; decide) (by decide) (Nat.le_refl _) ?_; intro V o1 gv)
  have HK : Hid (LK w V 0 []) := by
    obtain ⟨_, h0 | ⟨g, cap, cur, ev, _, hh, _, _, hsz, htk⟩⟩ := o1
    · exact absurd h0.2 (by decide)
    · injection ev with e1 _ e3
      injection e1 with e1
      injection e1 with e1 _ _
      subst e1
      subst e3
      have hc : cur = (noCards 6).toArray := by
        apply Array.ext'
        rw [← list_cells, ← htk, List.take_of_length_le (by rw [Array.length_toList, hsz]; exact Nat.le_refl _)]
      rw [S1, hc] at hh
      exact ⟨grown_keep gv A1.out (by simp), by simpa [ecells] using hh, rfl, LOwn.nil _ _, grown_trans G1.out gv⟩
  have SV : Hid (V.heap.size = V.heap.size) := rfl
  clear o1 gv A1 G1 SV S1
  go_loopw [11] (fun i wr => ∃ (k : Nat) (es : List Ent), k ≤ 6 ∧ i = .int .i64 (k : Int) ∧ LK w wr k es) (fun i _ => 6 - (intOf i).toNat)
  case atStart => exact ⟨0, [], Nat.zero_le _, rfl, HK.out⟩
  case round =>
    clear HK
    obtain ⟨k, es, hk, rfl, K⟩ := hrel
    obtain ⟨U, hU⟩ : ∃ U, U = wr := ⟨_, rfl⟩
    subst hU
    have HK : Hid (LK w U k es) := K
    clear K
    rcases (show k = 0 ∨ k = 1 ∨ k = 2 ∨ k = 3 ∨ k = 4 ∨ k = 5 ∨ k = 6 from by omega) with rfl | rfl | rfl | rfl | rfl | rfl | rfl
    · have c0 : U.cell? ⟨w.heap.size, 0, none⟩ = some (.func (.func 218) #[] #[]) := HK.out.cellf rfl
      rw [show ((0 : Nat) : Int) = (0 : Int) from rfl]
      go_wp2_with fail
      refine (fireBolt_any _).mono ?_
      rintro e V1 ⟨u, rfl, O1, g1⟩
      obtain ⟨x, y, rfl⟩ := O1.at.form
      obtain ⟨z0, z1, z2, z3, z4, z5, z6, z7, z8⟩ := (HK.out.cells (by decide)).keep g1
      have zf := fun i => block_free (grown_keep g1 HK.out.lies (by simp)) i
      obtain ⟨V9, hV9⟩ : ∃ V9, V9 = set9 V1 (w.heap.size + 1) (0 * 9) fireBoltH (.slice x fireBoltP.length y) := ⟨_, rfl⟩
      have HN : Hid (LK w V9 (0 + 1) (es ++ [⟨fireBoltH, .slice x fireBoltP.length y, fireBoltP⟩])) := by rw [hV9]; exact HK.out.next (by decide) rfl O1 g1
      unfold set9 fireBoltH at hV9
      simp only [Nat.reduceMul, Nat.zero_add] at hV9 z0 z1 z2 z3 z4 z5 z6 z7 z8
      have HV9 : Hid (V9 = _) := hV9
      clear O1 g1 HK c0 hV9
      unfold cv fireBoltH
      go_upto_region 7 with fail
      rw [← HV9.out]
      clear HV9 z0 z1 z2 z3 z4 z5 z6 z7 z8 zf
      go_wp2_with fail
      go_roundw
      case rel => exact ⟨1, _, by decide, rfl, HN.out⟩
      case measure => decide
    · have c0 : U.cell? ⟨w.heap.size, 1, none⟩ = some (.func (.func 219) #[] #[]) := HK.out.cellf rfl
      rw [show ((1 : Nat) : Int) = (1 : Int) from rfl]
      go_wp2_with fail
      refine (ember_any _).mono ?_
      rintro e V1 ⟨u, rfl, O1, g1⟩
      obtain ⟨x, y, rfl⟩ := O1.at.form
      obtain ⟨z0, z1, z2, z3, z4, z5, z6, z7, z8⟩ := (HK.out.cells (by decide)).keep g1
      have zf := fun i => block_free (grown_keep g1 HK.out.lies (by simp)) i
      obtain ⟨V9, hV9⟩ : ∃ V9, V9 = set9 V1 (w.heap.size + 1) (1 * 9) emberH (.slice x emberP.length y) := ⟨_, rfl⟩
      have HN : Hid (LK w V9 (1 + 1) (es ++ [⟨emberH, .slice x emberP.length y, emberP⟩])) := by rw [hV9]; exact HK.out.next (by decide) rfl O1 g1
      unfold set9 emberH at hV9
      simp only [Nat.reduceMul, Nat.reduceAdd] at hV9 z0 z1 z2 z3 z4 z5 z6 z7 z8
      have HV9 : Hid (V9 = _) := hV9
      clear O1 g1 HK c0 hV9
      unfold cv emberH
      go_upto_region 7 with fail
      rw [← HV9.out]
      clear HV9 z0 z1 z2 z3 z4 z5 z6 z7 z8 zf
      go_wp2_with fail
      go_roundw
      case rel => exact ⟨2, _, by decide, rfl, HN.out⟩
      case measure => decide
    · have c0 : U.cell? ⟨w.heap.size, 2, none⟩ = some (.func (.func 220) #[] #[]) := HK.out.cellf rfl
      rw [show ((2 : Nat) : Int) = (2 : Int) from rfl]
      go_wp2_with fail
      refine (salamander_any _).mono ?_
      rintro e V1 ⟨u, rfl, O1, g1⟩
      obtain ⟨x, y, rfl⟩ := O1.at.form
      obtain ⟨z0, z1, z2, z3, z4, z5, z6, z7, z8⟩ := (HK.out.cells (by decide)).keep g1
      have zf := fun i => block_free (grown_keep g1 HK.out.lies (by simp)) i
      obtain ⟨V9, hV9⟩ : ∃ V9, V9 = set9 V1 (w.heap.size + 1) (2 * 9) salamanderH (.slice x salamanderP.length y) := ⟨_, rfl⟩
      have HN : Hid (LK w V9 (2 + 1) (es ++ [⟨salamanderH, .slice x salamanderP.length y, salamanderP⟩])) := by rw [hV9]; exact HK.out.next (by decide) rfl O1 g1
      unfold set9 salamanderH at hV9
      simp only [Nat.reduceMul, Nat.reduceAdd] at hV9 z0 z1 z2 z3 z4 z5 z6 z7 z8
      have HV9 : Hid (V9 = _) := hV9
      clear O1 g1 HK c0 hV9
      unfold cv salamanderH
      go_upto_region 7 with fail
      rw [← HV9.out]
      clear HV9 z0 z1 z2 z3 z4 z5 z6 z7 z8 zf
      go_wp2_with fail
      go_roundw
      case rel => exact ⟨3, _, by decide, rfl, HN.out⟩
      case measure => decide
    · have c0 : U.cell? ⟨w.heap.size, 3, none⟩ = some (.func (.func 221) #[] #[]) := HK.out.cellf rfl
      rw [show ((3 : Nat) : Int) = (3 : Int) from rfl]
      go_wp2_with fail
      refine (forge_any _).mono ?_
      rintro e V1 ⟨u, rfl, O1, g1⟩
      obtain ⟨x, y, rfl⟩ := O1.at.form
      obtain ⟨z0, z1, z2, z3, z4, z5, z6, z7, z8⟩ := (HK.out.cells (by decide)).keep g1
      have zf := fun i => block_free (grown_keep g1 HK.out.lies (by simp)) i
      obtain ⟨V9, hV9⟩ : ∃ V9, V9 = set9 V1 (w.heap.size + 1) (3 * 9) forgeH (.slice x forgeP.length y) := ⟨_, rfl⟩
      have HN : Hid (LK w V9 (3 + 1) (es ++ [⟨forgeH, .slice x forgeP.length y, forgeP⟩])) := by rw [hV9]; exact HK.out.next (by decide) rfl O1 g1
      unfold set9 forgeH at hV9
      simp only [Nat.reduceMul, Nat.reduceAdd] at hV9 z0 z1 z2 z3 z4 z5 z6 z7 z8
      have HV9 : Hid (V9 = _) := hV9
      clear O1 g1 HK c0 hV9
      unfold cv forgeH
      go_upto_region 7 with fail
      rw [← HV9.out]
      clear HV9 z0 z1 z2 z3 z4 z5 z6 z7 z8 zf
      go_wp2_with fail
      go_roundw
      case rel => exact ⟨4, _, by decide, rfl, HN.out⟩
      case measure => decide
    · have c0 : U.cell? ⟨w.heap.size, 4, none⟩ = some (.func (.func 222) #[] #[]) := HK.out.cellf rfl
      rw [show ((4 : Nat) : Int) = (4 : Int) from rfl]
      go_wp2_with fail
      refine (wildFire_any _).mono ?_
      rintro e V1 ⟨u, rfl, O1, g1⟩
      obtain ⟨x, y, rfl⟩ := O1.at.form
      obtain ⟨z0, z1, z2, z3, z4, z5, z6, z7, z8⟩ := (HK.out.cells (by decide)).keep g1
      have zf := fun i => block_free (grown_keep g1 HK.out.lies (by simp)) i
      obtain ⟨V9, hV9⟩ : ∃ V9, V9 = set9 V1 (w.heap.size + 1) (4 * 9) wildFireH (.slice x wildFireP.length y) := ⟨_, rfl⟩
      have HN : Hid (LK w V9 (4 + 1) (es ++ [⟨wildFireH, .slice x wildFireP.length y, wildFireP⟩])) := by rw [hV9]; exact HK.out.next (by decide) rfl O1 g1
      unfold set9 wildFireH at hV9
      simp only [Nat.reduceMul, Nat.reduceAdd] at hV9 z0 z1 z2 z3 z4 z5 z6 z7 z8
      have HV9 : Hid (V9 = _) := hV9
      clear O1 g1 HK c0 hV9
      unfold cv wildFireH
      go_upto_region 7 with fail
      rw [← HV9.out]
      clear HV9 z0 z1 z2 z3 z4 z5 z6 z7 z8 zf
      go_wp2_with fail
      go_roundw
      case rel => exact ⟨5, _, by decide, rfl, HN.out⟩
      case measure => decide
    · have c0 : U.cell? ⟨w.heap.size, 5, none⟩ = some (.func (.func 223) #[] #[]) := HK.out.cellf rfl
      rw [show ((5 : Nat) : Int) = (5 : Int) from rfl]
      go_wp2_with fail
      refine (phoenix_any _).mono ?_
      rintro e V1 ⟨u, rfl, O1, g1⟩
      obtain ⟨x, y, rfl⟩ := O1.at.form
      obtain ⟨z0, z1, z2, z3, z4, z5, z6, z7, z8⟩ := (HK.out.cells (by decide)).keep g1
      have zf := fun i => block_free (grown_keep g1 HK.out.lies (by simp)) i
      obtain ⟨V9, hV9⟩ : ∃ V9, V9 = set9 V1 (w.heap.size + 1) (5 * 9) phoenixH (.slice x phoenixP.length y) := ⟨_, rfl⟩
      have HN : Hid (LK w V9 (5 + 1) (es ++ [⟨phoenixH, .slice x phoenixP.length y, phoenixP⟩])) := by rw [hV9]; exact HK.out.next (by decide) rfl O1 g1
      unfold set9 phoenixH at hV9
      simp only [Nat.reduceMul, Nat.reduceAdd] at hV9 z0 z1 z2 z3 z4 z5 z6 z7 z8
      have HV9 : Hid (V9 = _) := hV9
      clear O1 g1 HK c0 hV9
      unfold cv phoenixH
      go_upto_region 7 with fail
      rw [← HV9.out]
      clear HV9 z0 z1 z2 z3 z4 z5 z6 z7 z8 zf
      go_wp2_with fail
      go_roundw
      case rel => exact ⟨6, _, by decide, rfl, HN.out⟩
      case measure => decide
    · rw [show ((6 : Nat) : Int) = (6 : Int) from rfl]
      have L0 := HK.out.lies
      rw [show noCards (6 - 6) = [] from rfl, List.append_nil] at L0
      have HL : Hid (U.heap[w.heap.size + 1]? = some (.cells (ecells es).toArray 56 (0, 0))) := L0
      clear L0
      go_wp2
      go_ret
      exact ⟨es, rfl, HK.out.is, HL.out, HK.out.own, HK.out.gr⟩
/-- A list of the suit's cards: in a block of its own; parts in blocks of theirs. -/
structure LAt (w w' : World) (g : Nat) (es : List Ent) : Prop where
  is : LIs es 6
  lies : w'.heap[g]? = some (.cells (ecells es).toArray 56 (0, 0))
  own : LOwn w.heap.size w' es
  low : w.heap.size ≤ g
  top : g < w'.heap.size
  other : ∀ e ∈ es, ∀ b, e.v.ownBlock = some b → g < b
  gr : w.grownBy w' none
theorem list_fr (w : World) : Calls Tryz.prog 87 #[] w fun e w' => ∃ g es, e = .returned (.slice (some ⟨g, 0, none⟩) 6 6) ∧ LAt w w' g es := by
  refine (list_fr0 w).mono ?_
  rintro e w' ⟨es, rfl, h1, h2, h3, h4⟩
  refine ⟨w.heap.size + 1, es, rfl, h1, h2, h3.low (by omega), by omega, block_lt h2, fun e he b hb => ?_, h4⟩
  have := ((h3.own e he).block b hb).1
  omega
theorem list_std (w : World) : Calls Tryz.prog 87 #[] w fun e w' => ∃ g es, e = .returned (.slice (some ⟨g, 0, none⟩) 6 6) ∧ SuL specL w w' g es := by
  refine (list_fr w).mono ?_
  rintro e w' ⟨g, es, rfl, A⟩
  exact ⟨g, es, rfl, A.is, A.lies, A.own.own, A.low, A.gr⟩
end Go.Proofs.YtknlcjhcamhfmaaGreatDoor.Fr
namespace Go.Proofs.YtknlcjhcamhfmaaGreatDoor.Fr
open Go.RowKit

def tCells : Array Value := #[.int .u8 3]
set_option maxHeartbeats 1000000 in
theorem traits (w : World) : Calls Tryz.prog 88 #[] w fun e w' => e = .returned (.slice (some ⟨w.heap.size, 0, none⟩) 1 1) ∧ w' = w.alloc (.cells tCells 57) := by
  go_enter Tryz.func88, Tryz.ntmps88
  go_wp2
  go_ret
  exact ⟨rfl, rfl⟩
def mk : Mk := ⟨4, ⟨#[99, 104, 97, 114, 103, 101]⟩, 0, 0⟩
def mCells : Array Value := #[.int .u8 4, .string ⟨#[99, 104, 97, 114, 103, 101]⟩, .int .i64 0, .int .i64 0]
set_option maxHeartbeats 1000000 in
theorem marks (w : World) : Calls Tryz.prog 89 #[] w fun e w' => e = .returned (.slice (some ⟨w.heap.size, 0, none⟩) 1 1) ∧ w' = w.alloc (.cells mCells 60) := by
  go_enter Tryz.func89, Tryz.ntmps89
  go_wp2
  go_ret
  exact ⟨rfl, rfl⟩
end Go.Proofs.YtknlcjhcamhfmaaGreatDoor.Fr
