/-
  BookNumbers: what its walk wants, plainly.
-/
import Derived.Test.YtmepidalecdmkaaAdded
import Derived.Test.YtmepidalecdmkaaOrdP
namespace Go.Proofs.Ytmepidalecdmkaa
open Go.RowKit

theorem cell_block {w : World} {g o : Nat} {v : Value} (h : w.cell? ⟨g, o, none⟩ = some v) : g < w.heap.size := by
  by_cases hg : g < w.heap.size
  · exact hg
  · have : w.heap[g]? = none := Array.getElem?_eq_none (by omega)
    simp [World.cell?, this] at h
theorem Good.old {ok : Nat → Prop} {w : World} {es : List Ent} (h : Good ok w es) : Good (fun k => ok k ∧ k < w.heap.size) w es := fun e he => by
  obtain ⟨h1, h2⟩ := h e he
  refine ⟨h1, fun g o n c ev hn => ⟨h2 g o n c ev hn, ?_⟩⟩
  obtain ⟨x, y, hf⟩ := h1.form
  rw [hf] at ev
  injection ev with e1 e2 e3
  have h0 : 0 < e.ps.length := by omega
  obtain ⟨g', off, cap, ev', hP⟩ := h1.part h0
  rw [hf] at ev'
  injection ev' with e1' _ _
  rw [e1] at e1'
  injection e1' with e1'
  injection e1' with e1' _ _
  subst e1'
  obtain ⟨p, hp⟩ : ∃ p, e.ps[0]? = some p := ⟨_, List.getElem?_eq_getElem h0⟩
  exact cell_block (hP 0 p hp).c0
theorem Book.old {ok : Nat → Prop} {w : World} {b : Nat} {es : List Ent} {p : Pl} (h : Book ok w b es p) : Book (fun k => ok k ∧ k < w.heap.size) w b es p := ⟨h.lies, h.good.old, h.srt, h.fine, h.may⟩
theorem Book.mono {ok ok' : Nat → Prop} {w : World} {b : Nat} {es : List Ent} {p : Pl} (h : Book ok w b es p) (k : ∀ i, ok i → ok' i) : Book ok' w b es p := ⟨h.lies, h.good.mono k, h.srt, h.fine, h.may⟩
theorem sealE_vals {p : Pl} (es : List Ent) (h : p.shut = false) : sealE p es = 0 ∨ sealE p es = 6 ∨ sealE p es = 8 := by
  unfold sealE
  rw [h, if_neg (by simp)]
  exact sealL_vals es es
theorem callsE_mem {es : List Ent} : ∀ {ps : List Pt}, callsE es ps = 0 → ∀ p ∈ ps, callE es p = 0
  | [], _, p, hp => by simp at hp
  | q :: r, h, p, hp => by
    simp only [callsE] at h
    by_cases hq : callE es q = 0
    · rw [if_neg (by simp [hq])] at h
      rcases List.mem_cons.1 hp with rfl | hp
      · exact hq
      · exact callsE_mem h p hp
    · rw [if_pos hq] at h; exact absurd h hq
theorem sealL_mem {es : List Ent} : ∀ {l : List Ent}, sealL es l = 0 → ∀ e ∈ l, callsE es e.ps = 0
  | [], _, p, hp => by simp at hp
  | q :: r, h, p, hp => by
    simp only [sealL] at h
    by_cases hq : callsE es q.ps = 0
    · rw [if_neg (by simp [hq])] at h
      rcases List.mem_cons.1 hp with rfl | hp
      · exact hq
      · exact sealL_mem h p hp
    · rw [if_pos hq] at h; exact absurd h hq
theorem callE_zero {es : List Ent} {p : Pt} (h : callE es p = 0) (h7 : p.vb = 7) : ∃ (m : Nat) (e : Ent), es[m]? = some e ∧ pos (names es) p.nm = m ∧ ¬ e.h.kd = 2 := by
  unfold callE at h
  rw [if_neg (by simp [h7])] at h
  by_cases h1 : pos (names es) p.nm < 0
  · rw [if_pos h1] at h; omega
  · rw [if_neg h1] at h
    by_cases h2 : kdAt es (pos (names es) p.nm).toNat = 2
    · rw [if_pos h2] at h; omega
    · have hp := pos_low (names es) p.nm
      have hl : (pos (names es) p.nm).toNat < es.length := by rw [names_len] at hp; omega
      refine ⟨(pos (names es) p.nm).toNat, es[(pos (names es) p.nm).toNat], List.getElem?_eq_getElem hl, by omega, ?_⟩
      unfold kdAt at h2
      rw [List.getElem?_eq_getElem hl] at h2
      exact h2
/-- The sealed book. -/
def shutP (p : Pl) : Pl := { p with shut := true }
theorem sealP_zero {p : Pl} {es : List Ent} (h : sealE p es = 0) : sealP p es = shutP p := if_pos h
theorem sealP_no {p : Pl} {es : List Ent} (h : ¬ sealE p es = 0) : sealP p es = p := if_neg h
theorem sealE_shut (p : Pl) (es : List Ent) : sealE (shutP p) es = 7 := if_pos rfl
theorem caE_shut (p : Pl) (es : List Ent) (c : Cd) : caE (shutP p) es c = 7 := if_pos rfl
theorem trE_shut (p : Pl) (t : Int) (s : ByteArray) : trE (shutP p) t s = 7 := if_pos rfl
theorem maE_shut (p : Pl) (m : Mk) : maE (shutP p) m = 7 := if_pos rfl
theorem trP_shut (p : Pl) (t : Int) (s : ByteArray) : trP (shutP p) t s = shutP p := if_neg (by rw [trE_shut]; decide)
theorem maP_shut (p : Pl) (m : Mk) : maP (shutP p) m = shutP p := if_neg (by rw [maE_shut]; decide)
theorem sealP_shut (p : Pl) (es : List Ent) : sealP (shutP p) es = shutP p := if_neg (by rw [sealE_shut]; decide)
theorem Srt.at {es : List Ent} (h : Srt es) {i j : Nat} {a b : Ent} (hi : es[i]? = some a) (hj : es[j]? = some b) (hij : i < j) : Ahd a.h b.h := by
  unfold Srt at h
  rw [List.pairwise_iff_getElem] at h
  obtain ⟨h1, rfl⟩ := List.getElem?_eq_some_iff.1 hi
  obtain ⟨h2, rfl⟩ := List.getElem?_eq_some_iff.1 hj
  exact h i j h1 h2 hij
end Go.Proofs.Ytmepidalecdmkaa
