/-
  Lists of parts that are written over: OverParts; markParts.
-/
import Derived.Test.YtpceelbphpfciaaGreatDoorKept
import Derived.OwnWalk
namespace Go.Proofs.YtpceelbphpfciaaGreatDoor
open Go.RowKit

/-- A block that has room for so many parts. -/
def RoomAt (w : World) (g cap : Nat) : Prop := ∃ cs, w.heap[g]? = some (.cells cs 29 (0, 0)) ∧ cs.size = cap * 8
theorem RoomAt.keep {w w' : World} {g cap : Nat} {r : Option Nat} (h : RoomAt w g cap) (k : w.grownBy w' r) (hr : some g ≠ r) : RoomAt w' g cap := by
  obtain ⟨cs, h1, h2⟩ := h
  exact ⟨cs, grown_keep k h1 hr, h2⟩
theorem RoomAt.cell {w : World} {g cap : Nat} (h : RoomAt w g cap) {i : Nat} (hi : i < cap * 8) : ∃ u, w.cell? ⟨g, i, none⟩ = some u := by
  obtain ⟨cs, h1, h2⟩ := h
  exact ⟨cs[i]'(by omega), by rw [block_cell h1]; exact Array.getElem?_eq_getElem (by omega)⟩
theorem RoomAt.free {w : World} {g cap : Nat} (h : RoomAt w g cap) (i : Nat) : w.frozen? ⟨g, i, none⟩ = false := by
  obtain ⟨cs, h1, _⟩ := h
  exact block_free h1 i
theorem RoomAt.set {w : World} {g cap : Nat} (h : RoomAt w g cap) (i : Nat) (v : Value) : RoomAt (w.setCell ⟨g, i, none⟩ v) g cap := by
  obtain ⟨cs, h1, h2⟩ := h
  exact ⟨cs.setIfInBounds i v, block_set h1 i v, by simpa using h2⟩
theorem own_room {w : World} {base g n cap : Nat} {ps : List Pt} (h : POwn w base (.slice (some ⟨g, 0, none⟩) n cap) ps) : RoomAt w g cap ∧ cap ≤ maxLen ∧ base ≤ g := by
  obtain ⟨_, ⟨e, _⟩ | ⟨g', cap', cur, e, hb, hh, _, hc, hz, _⟩⟩ := h
  · cases e
  · injection e with e1 _ e3
    injection e1 with e1
    injection e1 with e1
    subst e1
    subst e3
    exact ⟨⟨cur, hh, hz⟩, hc, hb⟩
def lim (n : Nat) : Prop := n ≤ maxLen
theorem lim.wrap {n k : Nat} (h : lim n) (hk : k < n) : wrap64 ((k : Int) + 1) = (k : Int) + 1 := by unfold lim maxLen at h; unfold wrap64; omega
set_option maxRecDepth 100000 in
set_option maxHeartbeats 1000000 in
theorem over_any (g n cap : Nat) (w : World) (R : RoomAt w g cap) (hn : n ≤ cap) (hm : lim cap) : Calls Tryz.prog 20 #[.slice (some ⟨g, 0, none⟩) n cap] w fun e w' => (∃ v, e = .returned v) ∧ RoomAt w' g cap ∧ w.grownBy w' (some g) := by
  have HR : Hid (RoomAt w g cap) := R
  clear R
  go_enter Tryz.func20, Tryz.ntmps20
  go_wp2_with fail
  go_loopw [2] (fun i wr => ∃ k : Nat, k ≤ n ∧ i = .int .i64 k ∧ RoomAt wr g cap ∧ w.grownBy wr (some g)) (fun i _ => n - (intOf i).toNat)
  case atStart => exact ⟨0, Nat.zero_le _, rfl, HR.out, grown_refl _ _⟩
  case round =>
    clear HR
    obtain ⟨k, hk, rfl, R, G⟩ := hrel
    have HR : Hid (RoomAt wr g cap) := R
    have HG : Hid (w.grownBy wr (some g)) := G
    clear R G
    rcases (show k = n ∨ k < n from by omega) with rfl | hlt
    · clear hk hn hm
      go_wp2
      go_end0
      exact ⟨⟨_, rfl⟩, HR.out, HG.out⟩
    · have hlt' : (k : Int) < (n : Int) := by omega
      have hk0 : (0 : Int) ≤ (k : Int) := by omega
      have hw := hm.wrap (Nat.lt_of_lt_of_le hlt hn)
      obtain ⟨u0, c0⟩ := HR.out.cell (i := k * 8) (by omega)
      obtain ⟨u1, c1⟩ := HR.out.cell (i := k * 8 + 1) (by omega)
      obtain ⟨u2, c2⟩ := HR.out.cell (i := k * 8 + 2) (by omega)
      obtain ⟨u3, c3⟩ := HR.out.cell (i := k * 8 + 3) (by omega)
      obtain ⟨u4, c4⟩ := HR.out.cell (i := k * 8 + 4) (by omega)
      obtain ⟨u5, c5⟩ := HR.out.cell (i := k * 8 + 5) (by omega)
      obtain ⟨u6, c6⟩ := HR.out.cell (i := k * 8 + 6) (by omega)
      obtain ⟨u7, c7⟩ := HR.out.cell (i := k * 8 + 7) (by omega)
      have cf := fun i => HR.out.free i
      have HN : Hid (n ≤ cap) := hn
      clear hn hk
      go_wp2_with fail
      go_roundw
      case rel => exact ⟨k + 1, hlt, by go_num, (((((((HR.out.set _ _).set _ _).set _ _).set _ _).set _ _).set _ _).set _ _).set _ _, grown_trans HG.out (grown_trans (grown_trans (grown_trans (grown_trans (grown_trans (grown_trans (grown_trans (grown_set _ _ _ _) (grown_set _ _ _ _)) (grown_set _ _ _ _)) (grown_set _ _ _ _)) (grown_set _ _ _ _)) (grown_set _ _ _ _)) (grown_set _ _ _ _)) (grown_set _ _ _ _))⟩
      case measure => first | exact meas_next hlt | (rw [hw]; exact meas_next hlt)
/-- What is written at place k of list i. -/
def mkN (i k : Int) : Int := wrap64 (wrap64 (wrap64 (-1000003 * i) - k) - 5)
def mkM (i k : Int) : Pt := ⟨0, 0, 0, mkN i k, 0, 0, 0, ⟨#[]⟩⟩
set_option maxHeartbeats 1000000 in
theorem mark_any (i k : Int) (w : World) : Calls Tryz.prog 57 #[.int .i64 i, .int .i64 k] w fun e w' => e = .returned (.agg #[.int .u8 0, .int .u8 0, .int .u8 0, .int .i64 (mkN i k), .int .u8 0, .int .u8 0, .int .u8 0, .string ⟨#[]⟩]) ∧ w.grownBy w' none := by
  go_enter Tryz.func57, Tryz.ntmps57
  go_wp2
  refine bodyPost_ret (v := .agg #[.int .u8 0, .int .u8 0, .int .u8 0, .int .i64 (mkN i k), .int .u8 0, .int .u8 0, .int .u8 0, .string ⟨#[]⟩]) (by simp [results, Tryz.results57, go_sem, mkN]) rfl ⟨rfl, ?_⟩
  exact World.grownBy_alloc _ _ _
end Go.Proofs.YtpceelbphpfciaaGreatDoor
