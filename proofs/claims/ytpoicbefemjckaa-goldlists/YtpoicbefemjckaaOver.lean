/-
  Lists of parts that are written over: OverParts; markParts.
-/
import Derived.Test.YtpoicbefemjckaaBok
import Derived.OwnWalk
namespace Go.Proofs.Ytpoicbefemjckaa
open Go.RowKit

/-- A block that has room for so many parts. -/
def RoomAt (w : World) (g cap : Nat) : Prop := ∃ cs, w.heap[g]? = some (.cells cs 81 (0, 0)) ∧ cs.size = cap * 8
theorem RoomAt.keep {w w' : World} {g cap : Nat} {r : Option Nat} (h : RoomAt w g cap) (k : w.grownBy w' r) (hr : some g ≠ r) : RoomAt w' g cap := by
  obtain ⟨cs, h1, h2⟩ := h
  exact ⟨cs, grown_keep k h1 hr, h2⟩
theorem RoomAt.cell {w : World} {g cap : Nat} (h : RoomAt w g cap) {i : Nat} (hi : i < cap * 8) : ∃ u, w.cell? ⟨g, i, none⟩ = some u := by
  obtain ⟨cs, h1, h2⟩ := h
  exact ⟨cs[i]'(by omega), by rw [block_cell h1]; exact Array.getElem?_eq_getElem (by omega)⟩
theorem RoomAt.free {w : World} {g cap : Nat} (h : RoomAt w g cap) (i : Nat) : w.frozen? ⟨g, i, none⟩ = false := by
  obtain ⟨cs, h1, _⟩ := h
  exact block_free h1 i
theorem RoomAt.set {w : World} {g cap : Nat} (h : RoomAt w g cap) (i : Nat) (v : Value) : RoomAt (w.setCell ⟨g, i, none⟩ v) g cap := by
  obtain ⟨cs, h1, h2⟩ := h
  exact ⟨cs.setIfInBounds i v, block_set h1 i v, by simpa using h2⟩
theorem own_room {w : World} {base g n cap : Nat} {ps : List Pt} (h : POwn w base (.slice (some ⟨g, 0, none⟩) n cap) ps) : RoomAt w g cap ∧ cap ≤ maxLen ∧ base ≤ g := by
  obtain ⟨_, ⟨e, _⟩ | ⟨g', cap', cur, e, hb, hh, _, hc, hz, _⟩⟩ := h
  · cases e
  · injection e with e1 _ e3
    injection e1 with e1
    injection e1 with e1
    subst e1
    subst e3
    exact ⟨⟨cur, hh, hz⟩, hc, hb⟩
def lim (n : Nat) : Prop := n ≤ maxLen
theorem lim.wrap {n k : Nat} (h : lim n) (hk : k < n) : wrap64 ((k : Int) + 1) = (k : Int) + 1 := by unfold lim maxLen at h; unfold wrap64; omega
/-- What is written at place k of list i. -/
def mkN (i k : Int) : Int := wrap64 (wrap64 (wrap64 (-1000003 * i) - k) - 5)
def mkM (i k : Int) : Pt := ⟨0, 0, 0, mkN i k, 0, 0, 0, ⟨#[]⟩⟩
set_option maxHeartbeats 1000000 in
theorem mark_any (i k : Int) (w : World) : Calls Try.prog 79 #[.int .i64 i, .int .i64 k] w fun e w' => e = .returned (.agg #[.int .u8 0, .int .u8 0, .int .u8 0, .int .i64 (mkN i k), .int .u8 0, .int .u8 0, .int .u8 0, .string ⟨#[]⟩]) ∧ w.grownBy w' none := by
  go_enter Try.func79, Try.ntmps79
  go_wp2
  refine bodyPost_ret (v := .agg #[.int .u8 0, .int .u8 0, .int .u8 0, .int .i64 (mkN i k), .int .u8 0, .int .u8 0, .int .u8 0, .string ⟨#[]⟩]) (by simp [results, Try.results79, go_sem, mkN]) rfl ⟨rfl, ?_⟩
  exact World.grownBy_alloc _ _ _
end Go.Proofs.Ytpoicbefemjckaa
