/-
  What List answers of a log (its notes, in memory of its own), and what SameInts answers of two lists: whether they are the same.
-/
import Derived.Test.YtogpgldbbegniaaS0
import Derived.Laws.CopyOwn
import Derived.Deep.RegionLaw
import Derived.Deep.QuietTactic
import Derived.BigQuiet
namespace Go.Proofs.Ytogpgldbbegniaa.L
open Go.RowKit

def zeros (n : Nat) : Array Value := (ints (List.replicate n 0)).toArray
theorem zeros_eq (n : Nat) : madeCells #[Value.int .i64 0] n = zeros n := by
  apply Array.ext
  · simp [size_madeCells, zeros, length_ints]
  · intro i h1 h2
    simp [madeCells, zeros, ints, Nat.mod_one]
theorem run_make35 (n : Nat) (hn : n ≤ 256) (w : World) : (Instr.makeSlice 22 (.int .i64 n) (.int .i64 n)).run Try.prog w = .ok (.slice (some ⟨w.heap.size, 0, none⟩) n n) (w.alloc (.cells (zeros n) 3)) := by
  have h := run_make (P := Try.prog) w 22 3 Try.t3 (.int .i64 0) Try.underlying22 (by kernel_rfl) (by kernel_rfl) .i64 .i64 n n (by omega) (by omega) (by show ((8 : Nat) : Int) * n ≤ _; omega) (by omega)
  rw [h]
  show Result.ok (Value.slice (some ⟨w.heap.size, 0, none⟩) n n) (w.alloc (Obj.cells (madeCells #[Value.int .i64 0] (n * 1)) 3)) = _
  rw [Nat.mul_one, zeros_eq]
/-- A slice that reads as the numbers l. -/
def IntsAt (w : World) (v : Value) (l : List Int) : Prop := ∃ p cap, v = .slice p l.length cap ∧ l.length ≤ maxLen ∧ (0 < l.length → ∃ g off, p = some ⟨g, off, none⟩ ∧ ∀ j, j < l.length → w.cell? ⟨g, off + j, none⟩ = some (.int .i64 (l.getD j 0)))
theorem ret_false {p : Prop} [Decidable p] (h : ¬ p) : Ending.returned (.bool false) = .returned (.bool (decide p)) := by simp [h]
theorem ret_true {p : Prop} [Decidable p] (h : p) : Ending.returned (.bool true) = .returned (.bool (decide p)) := by simp [h]
theorem ext_getD (l r : List Int) (hl : l.length = r.length) (h : ∀ j, j < l.length → l.getD j 0 = r.getD j 0) : l = r := by
  apply List.ext_getElem hl
  intro j h1 h2
  have := h j h1
  rwa [getD_lt _ _ h1, getD_lt _ _ h2] at this
set_option maxHeartbeats 400000 in
theorem same_len (p q : Option Addr) (n m c d : Nat) (w : World) (h : n ≠ m) : Calls Try.prog 24 #[.slice p n c, .slice q m d] w fun e w' => e = .returned (.bool false) ∧ w' = w := by
  have hb : ((n : Int) == (m : Int)) = false := by simpa using (show ¬ ((n : Int) = m) by omega)
  go_enter Try.func24, Try.ntmps24
  go_wp2
  go_ret
  exact ⟨rfl, rfl⟩
set_option maxHeartbeats 400000 in
theorem same_nil (p q : Option Addr) (c d : Nat) (w : World) : Calls Try.prog 24 #[.slice p 0 c, .slice q 0 d] w fun e w' => e = .returned (.bool true) ∧ w' = w := by
  go_enter Try.func24, Try.ntmps24
  go_wp2
  go_loop [5] (fun i => i = .int .i64 0) (fun _ => 0)
  case atStart => rfl
  case round =>
    subst hrel
    go_wp2
    go_ret
    exact ⟨rfl, rfl⟩
set_option maxHeartbeats 400000 in
theorem same_run (l r : List Int) (g off c g' off' c' : Nat) (w : World) (hl : l.length = r.length) (hm : l.length ≤ maxLen)
    (ha : ∀ j, j < l.length → w.cell? ⟨g, off + j, none⟩ = some (.int .i64 (l.getD j 0))) (hb : ∀ j, j < l.length → w.cell? ⟨g', off' + j, none⟩ = some (.int .i64 (r.getD j 0))) :
    Calls Try.prog 24 #[.slice (some ⟨g, off, none⟩) l.length c, .slice (some ⟨g', off', none⟩) l.length c'] w fun e w' => e = .returned (.bool (decide (l = r))) ∧ ∃ n, w' = w.drewN n := by
  unfold maxLen at hm
  have HL : Hid (l.length = r.length) := hl
  clear hl
  go_enter Try.func24, Try.ntmps24
  go_wp2
  go_loopw [5] (fun i wr => ∃ k n : Nat, k ≤ l.length ∧ i = .int .i64 k ∧ wr = w.drewN n ∧ ∀ j, j < k → l.getD j 0 = r.getD j 0) (fun i _ => l.length - (intOf i).toNat)
  case atStart => exact ⟨0, 0, Nat.zero_le _, rfl, rfl, fun j hj => absurd hj (Nat.not_lt_zero _)⟩
  case round =>
    obtain ⟨k, n, hk, rfl, rfl, hall⟩ := hrel
    have HA : Hid (∀ j, j < k → l.getD j 0 = r.getD j 0) := hall
    clear hall
    by_cases hlt : k < l.length
    · have ck := ha k hlt
      have dk := hb k hlt
      clear ha hb
      generalize hv : l.getD k 0 = v at *
      generalize hu : r.getD k 0 = u at *
      have HV : Hid (l.getD k 0 = v) := hv
      have HU : Hid (r.getD k 0 = u) := hu
      clear hv hu
      by_cases he : v = u
      · have hb : (v == u) = true := by simpa using he
        have HE : Hid (v = u) := he
        clear he
        go_wp2
        go_quiet (fail)
        go_wp2
        go_roundw
        case rel =>
          refine ⟨k + 1, n + nq, by omega, by go_num, rfl, fun j hj => ?_⟩
          by_cases ej : j = k
          · subst ej; rw [HV.out, HU.out]; exact HE.out
          · exact HA.out j (by omega)
        case measure => simp [intOf]; omega
      · have hb : (v == u) = false := by simpa using he
        have HE : Hid (¬ v = u) := he
        clear he
        go_wp2
        go_quiet (fail)
        go_wp2
        go_ret
        exact ⟨ret_false (fun e => HE.out (by rw [← HV.out, ← HU.out, e])), n + nq, by simp [World.drewN, Nat.add_assoc]⟩
    · clear ha hb
      go_wp2
      go_ret
      exact ⟨ret_true (ext_getD l r HL.out (fun j hj => HA.out j (by omega))), _, rfl⟩

theorem same_ints (a b : Value) (l r : List Int) (w : World) (ha : IntsAt w a l) (hb : IntsAt w b r) : Calls Try.prog 24 #[a, b] w fun e w' => e = .returned (.bool (decide (l = r))) ∧ ∃ n, w' = w.drewN n := by
  obtain ⟨p, c, rfl, hm, hp⟩ := ha
  obtain ⟨q, d, rfl, hm', hq⟩ := hb
  by_cases hl : l.length = r.length
  · by_cases h0 : l.length = 0
    · have e1 : l = [] := List.eq_nil_of_length_eq_zero h0
      have e2 : r = [] := List.eq_nil_of_length_eq_zero (by omega)
      subst e1; subst e2
      refine (same_nil p q c d w).mono ?_
      rintro e w' ⟨rfl, rfl⟩
      exact ⟨rfl, 0, rfl⟩
    · obtain ⟨g, off, rfl, ca⟩ := hp (by omega)
      obtain ⟨g', off', rfl, cb⟩ := hq (by omega)
      rw [← hl]
      exact same_run l r g off c g' off' d w hl hm ca (fun j hj => cb j (by omega))
  · refine (same_len p q _ _ c d w hl).mono ?_
    rintro e w' ⟨rfl, rfl⟩
    exact ⟨ret_false (fun e => hl (by rw [e])), 0, rfl⟩
theorem IntsAt.block {w : World} {g cap : Nat} {cs : Array Value} {t : TypeId} {l : List Int} (h : w.heap[g]? = some (.cells cs t (0, 0))) (hl : l.length ≤ maxLen) (hc : ∀ j, j < l.length → cs[j]? = some (.int .i64 (l.getD j 0))) : IntsAt w (.slice (some ⟨g, 0, none⟩) l.length cap) l :=
  ⟨_, cap, rfl, hl, fun _ => ⟨g, 0, rfl, fun j hj => by rw [Nat.zero_add, block_cell h]; exact hc j hj⟩⟩
theorem IntsAt.whole {w : World} {g cap : Nat} {t : TypeId} {l : List Int} (h : w.heap[g]? = some (.cells (ints l).toArray t (0, 0))) (hl : l.length ≤ maxLen) : IntsAt w (.slice (some ⟨g, 0, none⟩) l.length cap) l :=
  IntsAt.block h hl (fun j hj => by simpa using ints_at l j hj)
theorem small_maxLen {n : Nat} (h : n ≤ 4294967296) : n ≤ maxLen := by unfold maxLen; omega
theorem IntsAt.keep {w w' : World} {v : Value} {l : List Int} {r : Option Nat} (h : IntsAt w v l) (hg : w.grownBy w' r) (hr : ∀ x, r = some x → v.ownBlock ≠ some x) : IntsAt w' v l := by
  obtain ⟨p, cap, rfl, hm, hp⟩ := h
  refine ⟨p, cap, rfl, hm, fun h0 => ?_⟩
  obtain ⟨g, off, rfl, hc⟩ := hp h0
  exact ⟨g, off, rfl, fun j hj => hg.cell (hc j hj) (fun e => hr g e.symm rfl)⟩
theorem IntsAt.lit (w : World) (l : List Int) (hl : l.length ≤ 4294967296) : IntsAt (w.alloc (.cells (ints l).toArray 3)) (.slice (some ⟨w.heap.size, 0, none⟩) l.length l.length) l :=
  IntsAt.whole (by show (w.heap.push _)[w.heap.size]? = _; rw [Array.getElem?_push_size]) (small_maxLen hl)

end Go.Proofs.Ytogpgldbbegniaa.L
