/-
  own: a card of which nothing lies in the memory of whoever handed it in.
-/
import Derived.Test.YtjjldjmcbmkkdaaB4
import Derived.Test.YtjjldjmcbmkkdaaB6
namespace Go.Proofs.Ytjjldjmcbmkkdaa
open Go.RowKit

theorem setCell_self {w : World} {b i : Nat} {v : Value} {cs : Array Value} {t : TypeId} {z : Nat × Nat} (h : w.heap[b]? = some (.cells cs t z)) (hv : cs[i]? = some v) : w.setCell ⟨b, i, none⟩ v = w := by
  have hlt : b < w.heap.size := (Array.getElem?_eq_some_iff.1 h).1
  have hb : w.heap[b] = .cells cs t z := (Array.getElem?_eq_some_iff.1 h).2
  have hs : cs.setIfInBounds i v = cs := by
    apply Array.ext_getElem?
    intro k
    rw [Array.getElem?_setIfInBounds]
    split
    · rename_i e
      subst e
      rw [hv, if_pos (Array.getElem?_eq_some_iff.1 hv).1]
    · rfl
  unfold World.setCell
  cases w with
  | mk heap tape drawn os output =>
    congr 1
    apply Array.ext
    · simp
    · intro k h1 h2
      simp only [Array.getElem_modify]
      split
      · rename_i hk
        subst hk
        simp at hb
        simp [hb, hs]
      · rfl
def set9 (w : World) (b o : Nat) (h : Hd) (v : Value) : World := ((((((((w.setCell ⟨b, o, none⟩ (.string h.nm)).setCell ⟨b, o + 1, none⟩ (.int .u8 h.su)).setCell ⟨b, o + 2, none⟩ (.int .u8 h.kd)).setCell ⟨b, o + 3, none⟩ (.int .i64 h.co)).setCell ⟨b, o + 4, none⟩ (.int .i64 h.po)).setCell ⟨b, o + 5, none⟩ (.int .i64 h.he)).setCell ⟨b, o + 6, none⟩ (.int .u16 h.tr)).setCell ⟨b, o + 7, none⟩ (.bool h.tk)).setCell ⟨b, o + 8, none⟩ v
theorem grown_s9 (w : World) (b o : Nat) (h : Hd) (v : Value) : w.grownBy (set9 w b o h v) (some b) := ((((((((grown_set _ b _ _).trans (grown_set _ b _ _)).trans (grown_set _ b _ _)).trans (grown_set _ b _ _)).trans (grown_set _ b _ _)).trans (grown_set _ b _ _)).trans (grown_set _ b _ _)).trans (grown_set _ b _ _)).trans (grown_set _ b _ _)
theorem CAt.st9 {w : World} {s : Nat} {h0 h : Hd} {v0 v : Value} (k : CAt w s h0 v0) : CAt (((((((((w.setCell ⟨s, 0, none⟩ (.string h.nm)).setCell ⟨s, 1, none⟩ (.int .u8 h.su)).setCell ⟨s, 2, none⟩ (.int .u8 h.kd)).setCell ⟨s, 3, none⟩ (.int .i64 h.co)).setCell ⟨s, 4, none⟩ (.int .i64 h.po)).setCell ⟨s, 5, none⟩ (.int .i64 h.he)).setCell ⟨s, 6, none⟩ (.int .u16 h.tr)).setCell ⟨s, 7, none⟩ (.bool h.tk)).setCell ⟨s, 8, none⟩ v) s h v := by
  have k0 : w.heap[s]? = some (.cells #[(.string h0.nm), (.int .u8 h0.su), (.int .u8 h0.kd), (.int .i64 h0.co), (.int .i64 h0.po), (.int .i64 h0.he), (.int .u16 h0.tr), (.bool h0.tk), v0] 46 (0, 0)) := k
  clear k
  obtain ⟨w1, e1⟩ : ∃ x, x = w.setCell ⟨s, 0, none⟩ (.string h.nm) := ⟨_, rfl⟩
  have k1 : w1.heap[s]? = some (.cells #[(.string h.nm), (.int .u8 h0.su), (.int .u8 h0.kd), (.int .i64 h0.co), (.int .i64 h0.po), (.int .i64 h0.he), (.int .u16 h0.tr), (.bool h0.tk), v0] 46 (0, 0)) := by rw [e1]; exact block_set k0 0 _
  rw [← e1]
  clear k0 e1
  obtain ⟨w2, e2⟩ : ∃ x, x = w1.setCell ⟨s, 1, none⟩ (.int .u8 h.su) := ⟨_, rfl⟩
  have k2 : w2.heap[s]? = some (.cells #[(.string h.nm), (.int .u8 h.su), (.int .u8 h0.kd), (.int .i64 h0.co), (.int .i64 h0.po), (.int .i64 h0.he), (.int .u16 h0.tr), (.bool h0.tk), v0] 46 (0, 0)) := by rw [e2]; exact block_set k1 1 _
  rw [← e2]
  clear k1 e2
  obtain ⟨w3, e3⟩ : ∃ x, x = w2.setCell ⟨s, 2, none⟩ (.int .u8 h.kd) := ⟨_, rfl⟩
  have k3 : w3.heap[s]? = some (.cells #[(.string h.nm), (.int .u8 h.su), (.int .u8 h.kd), (.int .i64 h0.co), (.int .i64 h0.po), (.int .i64 h0.he), (.int .u16 h0.tr), (.bool h0.tk), v0] 46 (0, 0)) := by rw [e3]; exact block_set k2 2 _
  rw [← e3]
  clear k2 e3
  obtain ⟨w4, e4⟩ : ∃ x, x = w3.setCell ⟨s, 3, none⟩ (.int .i64 h.co) := ⟨_, rfl⟩
  have k4 : w4.heap[s]? = some (.cells #[(.string h.nm), (.int .u8 h.su), (.int .u8 h.kd), (.int .i64 h.co), (.int .i64 h0.po), (.int .i64 h0.he), (.int .u16 h0.tr), (.bool h0.tk), v0] 46 (0, 0)) := by rw [e4]; exact block_set k3 3 _
  rw [← e4]
  clear k3 e4
  obtain ⟨w5, e5⟩ : ∃ x, x = w4.setCell ⟨s, 4, none⟩ (.int .i64 h.po) := ⟨_, rfl⟩
  have k5 : w5.heap[s]? = some (.cells #[(.string h.nm), (.int .u8 h.su), (.int .u8 h.kd), (.int .i64 h.co), (.int .i64 h.po), (.int .i64 h0.he), (.int .u16 h0.tr), (.bool h0.tk), v0] 46 (0, 0)) := by rw [e5]; exact block_set k4 4 _
  rw [← e5]
  clear k4 e5
  obtain ⟨w6, e6⟩ : ∃ x, x = w5.setCell ⟨s, 5, none⟩ (.int .i64 h.he) := ⟨_, rfl⟩
  have k6 : w6.heap[s]? = some (.cells #[(.string h.nm), (.int .u8 h.su), (.int .u8 h.kd), (.int .i64 h.co), (.int .i64 h.po), (.int .i64 h.he), (.int .u16 h0.tr), (.bool h0.tk), v0] 46 (0, 0)) := by rw [e6]; exact block_set k5 5 _
  rw [← e6]
  clear k5 e6
  obtain ⟨w7, e7⟩ : ∃ x, x = w6.setCell ⟨s, 6, none⟩ (.int .u16 h.tr) := ⟨_, rfl⟩
  have k7 : w7.heap[s]? = some (.cells #[(.string h.nm), (.int .u8 h.su), (.int .u8 h.kd), (.int .i64 h.co), (.int .i64 h.po), (.int .i64 h.he), (.int .u16 h.tr), (.bool h0.tk), v0] 46 (0, 0)) := by rw [e7]; exact block_set k6 6 _
  rw [← e7]
  clear k6 e7
  obtain ⟨w8, e8⟩ : ∃ x, x = w7.setCell ⟨s, 7, none⟩ (.bool h.tk) := ⟨_, rfl⟩
  have k8 : w8.heap[s]? = some (.cells #[(.string h.nm), (.int .u8 h.su), (.int .u8 h.kd), (.int .i64 h.co), (.int .i64 h.po), (.int .i64 h.he), (.int .u16 h.tr), (.bool h.tk), v0] 46 (0, 0)) := by rw [e8]; exact block_set k7 7 _
  rw [← e8]
  clear k7 e8
  obtain ⟨w9, e9⟩ : ∃ x, x = w8.setCell ⟨s, 8, none⟩ v := ⟨_, rfl⟩
  have k9 : w9.heap[s]? = some (.cells #[(.string h.nm), (.int .u8 h.su), (.int .u8 h.kd), (.int .i64 h.co), (.int .i64 h.po), (.int .i64 h.he), (.int .u16 h.tr), (.bool h.tk), v] 46 (0, 0)) := by rw [e9]; exact block_set k8 8 _
  rw [← e9]
  clear k8 e9
  exact k9
theorem CAt.s9 {w : World} {b : Nat} {k : Hd} {u : Value} (h : CAt w b k u) (c : Hd) (v : Value) : CAt (set9 w b 0 c v) b c v := by
  unfold set9
  simp only [Nat.zero_add]
  exact h.st9
/-- Each name is a text that can be copied. -/
def Nmd (ps : List Pt) : Prop := ∀ p ∈ ps, p.nm.size ≤ 281474976710656
theorem POwn.name {w : World} {base g n cap : Nat} {ps : List Pt} (h : POwn w base (.slice (some ⟨g, 0, none⟩) n cap) ps) {k : Nat} {p : Pt} (hp : ps[k]? = some p) : w.setCell ⟨g, k * 8 + 7, none⟩ (.string p.nm) = w ∧ w.frozen? ⟨g, k * 8 + 7, none⟩ = false ∧ w.cell? ⟨g, k * 8 + 7, none⟩ = some (.string p.nm) := by
  obtain ⟨h1, ⟨h2, _⟩ | ⟨g', cap', cur, e, hb, hh, hn, hc, hz, ht⟩⟩ := h
  · cases h2
  · injection e with e1 e2 e3
    injection e1 with e1
    injection e1 with e1 _ _
    subst e1
    have hk : k < ps.length := (List.getElem?_eq_some_iff.1 hp).1
    have hv : cur[k * 8 + 7]? = some (.string p.nm) := by
      have := pcells_at ps k p hp 7 (by omega)
      rw [← ht, List.getElem?_take_of_lt (by omega)] at this
      simpa [pvs] using this
    exact ⟨setCell_self hh hv, by simp [World.frozen?, hh], by simp only [World.cell?, hh]; exact hv⟩
end Go.Proofs.Ytjjldjmcbmkkdaa
