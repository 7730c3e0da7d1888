/-
  What List answers of a log (its notes, in memory of its own), and what SameInts answers of two lists: whether they are the same.
  A list of numbers that the call itself grows.
  What Pick answers: a number from 0 to n - 1.
-/
import Derived.Test.YtknlcjhcamhfmaaGreatDoorQ0
import Derived.Laws.CopyOwn
import Derived.Deep.RegionLaw
import Derived.Deep.QuietTactic
import Derived.BigQuiet
namespace Go.Proofs.YtknlcjhcamhfmaaGreatDoor.L
open Go.RowKit

def zeros (n : Nat) : Array Value := (ints (List.replicate n 0)).toArray
theorem zeros_eq (n : Nat) : madeCells #[Value.int .i64 0] n = zeros n := by
  apply Array.ext
  · simp [size_madeCells, zeros, length_ints]
  · intro i h1 h2
    simp [madeCells, zeros, ints, Nat.mod_one]
theorem run_make35 (n : Nat) (hn : n ≤ 256) (w : World) : (Instr.makeSlice 28 (.int .i64 n) (.int .i64 n)).run Tryz.prog w = .ok (.slice (some ⟨w.heap.size, 0, none⟩) n n) (w.alloc (.cells (zeros n) 3)) := by
  have h := run_make (P := Tryz.prog) w 28 3 Tryz.t3 (.int .i64 0) Tryz.underlying28 (by kernel_rfl) (by kernel_rfl) .i64 .i64 n n (by omega) (by omega) (by show ((8 : Nat) : Int) * n ≤ _; omega) (by omega)
  rw [h]
  show Result.ok (Value.slice (some ⟨w.heap.size, 0, none⟩) n n) (w.alloc (Obj.cells (madeCells #[Value.int .i64 0] (n * 1)) 3)) = _
  rw [Nat.mul_one, zeros_eq]
set_option maxRecDepth 100000 in
set_option maxHeartbeats 400000 in
theorem list_log (b : Nat) (l : List Int) (c : Bool) (w : World) (h : LogAt w b l c) : Calls Tryz.prog 35 #[.pointer (some ⟨b, 0, none⟩)] w fun e w' => e = .returned (.slice (some ⟨w.heap.size, 0, none⟩) l.length l.length) ∧ w'.heap[w.heap.size]? = some (.cells (ints l).toArray 3 (0, 0)) ∧ w.grownBy w' none := by
  obtain ⟨Z, h1, h2, h3, h4⟩ := h
  have c1 := (block_cell h4 256).trans (log_count Z _ _ _ h2)
  have c3 := (block_cell h4 258).trans (log_made Z _ _ _ h2)
  have hm := run_make35 l.length h1
  have h1i : (l.length : Int) ≤ 256 := by omega
  have hal : Tryz.prog.arrayLen 73 = 256 := by kernel_rfl
  have H : Hid (Z.take l.length = l) := h3
  have H4 : Hid (w.heap[b]? = some (.cells (logCells Z l.length c true) 75 (0, 0))) := h4
  have hlt := block_lt h4
  clear h3 h4
  go_enter Tryz.func35, Tryz.ntmps35
  go_wp2_with (go_at_call 75; refine (isLog_made _ _ _ c3).mono ?_; rintro e w' ⟨rfl, rfl⟩)
  have A1 : Hid ((w'.alloc (Obj.cells (zeros l.length) 3)).drew.heap[w'.heap.size]? = some (.cells (ints (List.replicate l.length 0)).toArray 3 (0, 0))) := by
    show (w'.heap.push _)[w'.heap.size]? = _
    rw [Array.getElem?_push_size]; rfl
  have A2 : Hid (∀ j v, (ints l)[j]? = some v → (w'.alloc (Obj.cells (zeros l.length) 3)).drew.cell? ((⟨b, 0, none⟩ : Addr).add j) = some v) := by
    intro j v hj
    have hjl : j < l.length := by have := (List.getElem?_eq_some_iff.1 hj).1; rwa [length_ints] at this
    have e1 : (w'.alloc (Obj.cells (zeros l.length) 3)).drew.heap[b]? = some (.cells (logCells Z l.length c true) 75 (0, 0)) := by
      show (w'.heap.push _)[b]? = _
      rw [Array.getElem?_push, if_neg (by omega)]; exact H4.out
    have e2 : (⟨b, 0, none⟩ : Addr).add j = ⟨b, j, none⟩ := by unfold Addr.add; split <;> simp_all
    rw [e2, block_cell e1, log_note Z _ _ _ h2 _ (by omega), getD_take Z l H.out j hjl, ← hj, ints_at l j hjl]
  have A3 : Hid (Below w'.heap.size w' (w'.alloc (Obj.cells (zeros l.length) 3)).drew) := ((Below.refl _ _).alloc (Nat.le_refl _) _).drew
  go_region_law (refine step_copy_splice rfl (.tmp 12) (.tmp 20) 28 28 rfl 3 Tryz.underlying28 (by kernel_rfl) (some ⟨w'.heap.size, 0, none⟩) (some ⟨b, 0, none⟩) l.length l.length l.length 256 (by simp [Act.eval, Act.put]) (by simp [Act.eval, Act.put]) w'.heap.size 0 (ints (List.replicate l.length 0)) 3 A1.out (ints l) (by simp [length_ints]) (fun _ => ⟨rfl, _, rfl, A2.out⟩) (by simp [length_ints]) (by simp [ints, Value.oneCell']) w'.heap.size w' A3.out (Nat.le_refl _) ?_; intro w2 hg2 hb2)
  go_wp2
  go_ret
  refine ⟨rfl, ?_, ⟨hb2.os, hb2.tape, hb2.output, hb2.size, fun k hk _ => hb2.block k hk⟩⟩
  have e := hg2.out
  have e0 : List.drop l.length (ints (List.replicate l.length 0)) = [] := List.drop_eq_nil_of_le (by simp [length_ints])
  simpa [splice, length_ints, e0] using e
/-- A slice that reads as the numbers l. -/
def IntsAt (w : World) (v : Value) (l : List Int) : Prop := ∃ p cap, v = .slice p l.length cap ∧ l.length ≤ maxLen ∧ (0 < l.length → ∃ g off, p = some ⟨g, off, none⟩ ∧ ∀ j, j < l.length → w.cell? ⟨g, off + j, none⟩ = some (.int .i64 (l.getD j 0)))
theorem ret_false {p : Prop} [Decidable p] (h : ¬ p) : Ending.returned (.bool false) = .returned (.bool (decide p)) := by simp [h]
theorem ret_true {p : Prop} [Decidable p] (h : p) : Ending.returned (.bool true) = .returned (.bool (decide p)) := by simp [h]
theorem ext_getD (l r : List Int) (hl : l.length = r.length) (h : ∀ j, j < l.length → l.getD j 0 = r.getD j 0) : l = r := by
  apply List.ext_getElem hl
  intro j h1 h2
  have := h j h1
  rwa [getD_lt _ _ h1, getD_lt _ _ h2] at this
set_option maxHeartbeats 400000 in
theorem same_len (p q : Option Addr) (n m c d : Nat) (w : World) (h : n ≠ m) : Calls Tryz.prog 34 #[.slice p n c, .slice q m d] w fun e w' => e = .returned (.bool false) ∧ w' = w := by
  have hb : ((n : Int) == (m : Int)) = false := by simpa using (show ¬ ((n : Int) = m) by omega)
  go_enter Tryz.func34, Tryz.ntmps34
  go_wp2
  go_ret
  exact ⟨rfl, rfl⟩
set_option maxHeartbeats 400000 in
theorem same_nil (p q : Option Addr) (c d : Nat) (w : World) : Calls Tryz.prog 34 #[.slice p 0 c, .slice q 0 d] w fun e w' => e = .returned (.bool true) ∧ w' = w := by
  go_enter Tryz.func34, Tryz.ntmps34
  go_wp2
  go_loop [5] (fun i => i = .int .i64 0) (fun _ => 0)
  case atStart => rfl
  case round =>
    subst hrel
    go_wp2
    go_ret
    exact ⟨rfl, rfl⟩
set_option maxHeartbeats 400000 in
theorem same_run (l r : List Int) (g off c g' off' c' : Nat) (w : World) (hl : l.length = r.length) (hm : l.length ≤ maxLen)
    (ha : ∀ j, j < l.length → w.cell? ⟨g, off + j, none⟩ = some (.int .i64 (l.getD j 0))) (hb : ∀ j, j < l.length → w.cell? ⟨g', off' + j, none⟩ = some (.int .i64 (r.getD j 0))) :
    Calls Tryz.prog 34 #[.slice (some ⟨g, off, none⟩) l.length c, .slice (some ⟨g', off', none⟩) l.length c'] w fun e w' => e = .returned (.bool (decide (l = r))) ∧ ∃ n, w' = w.drewN n := by
  unfold maxLen at hm
  have HL : Hid (l.length = r.length) := hl
  clear hl
  go_enter Tryz.func34, Tryz.ntmps34
  go_wp2
  go_loopw [5] (fun i wr => ∃ k n : Nat, k ≤ l.length ∧ i = .int .i64 k ∧ wr = w.drewN n ∧ ∀ j, j < k → l.getD j 0 = r.getD j 0) (fun i _ => l.length - (intOf i).toNat)
  case atStart => exact ⟨0, 0, Nat.zero_le _, rfl, rfl, fun j hj => absurd hj (Nat.not_lt_zero _)⟩
  case round =>
    obtain ⟨k, n, hk, rfl, rfl, hall⟩ := hrel
    have HA : Hid (∀ j, j < k → l.getD j 0 = r.getD j 0) := hall
    clear hall
    by_cases hlt : k < l.length
    · have ck := ha k hlt
      have dk := hb k hlt
      clear ha hb
      generalize hv : l.getD k 0 = v at *
      generalize hu : r.getD k 0 = u at *
      have HV : Hid (l.getD k 0 = v) := hv
      have HU : Hid (r.getD k 0 = u) := hu
      clear hv hu
      by_cases he : v = u
      · have hb : (v == u) = true := by simpa using he
        have HE : Hid (v = u) := he
        clear he
        go_wp2
        go_quiet (fail)
        go_wp2
        go_roundw
        case rel =>
          refine ⟨k + 1, n + nq, by omega, by go_num, rfl, fun j hj => ?_⟩
          by_cases ej : j = k
          · subst ej; rw [HV.out, HU.out]; exact HE.out
          · exact HA.out j (by omega)
        case measure => simp [intOf]; omega
      · have hb : (v == u) = false := by simpa using he
        have HE : Hid (¬ v = u) := he
        clear he
        go_wp2
        go_quiet (fail)
        go_wp2
        go_ret
        exact ⟨ret_false (fun e => HE.out (by rw [← HV.out, ← HU.out, e])), n + nq, by simp [World.drewN, Nat.add_assoc]⟩
    · clear ha hb
      go_wp2
      go_ret
      exact ⟨ret_true (ext_getD l r HL.out (fun j hj => HA.out j (by omega))), _, rfl⟩

theorem same_ints (a b : Value) (l r : List Int) (w : World) (ha : IntsAt w a l) (hb : IntsAt w b r) : Calls Tryz.prog 34 #[a, b] w fun e w' => e = .returned (.bool (decide (l = r))) ∧ ∃ n, w' = w.drewN n := by
  obtain ⟨p, c, rfl, hm, hp⟩ := ha
  obtain ⟨q, d, rfl, hm', hq⟩ := hb
  by_cases hl : l.length = r.length
  · by_cases h0 : l.length = 0
    · have e1 : l = [] := List.eq_nil_of_length_eq_zero h0
      have e2 : r = [] := List.eq_nil_of_length_eq_zero (by omega)
      subst e1; subst e2
      refine (same_nil p q c d w).mono ?_
      rintro e w' ⟨rfl, rfl⟩
      exact ⟨rfl, 0, rfl⟩
    · obtain ⟨g, off, rfl, ca⟩ := hp (by omega)
      obtain ⟨g', off', rfl, cb⟩ := hq (by omega)
      rw [← hl]
      exact same_run l r g off c g' off' d w hl hm ca (fun j hj => cb j (by omega))
  · refine (same_len p q _ _ c d w hl).mono ?_
    rintro e w' ⟨rfl, rfl⟩
    exact ⟨ret_false (fun e => hl (by rw [e])), 0, rfl⟩
theorem IntsAt.block {w : World} {g cap : Nat} {cs : Array Value} {t : TypeId} {l : List Int} (h : w.heap[g]? = some (.cells cs t (0, 0))) (hl : l.length ≤ maxLen) (hc : ∀ j, j < l.length → cs[j]? = some (.int .i64 (l.getD j 0))) : IntsAt w (.slice (some ⟨g, 0, none⟩) l.length cap) l :=
  ⟨_, cap, rfl, hl, fun _ => ⟨g, 0, rfl, fun j hj => by rw [Nat.zero_add, block_cell h]; exact hc j hj⟩⟩
theorem IntsAt.whole {w : World} {g cap : Nat} {t : TypeId} {l : List Int} (h : w.heap[g]? = some (.cells (ints l).toArray t (0, 0))) (hl : l.length ≤ maxLen) : IntsAt w (.slice (some ⟨g, 0, none⟩) l.length cap) l :=
  IntsAt.block h hl (fun j hj => by simpa using ints_at l j hj)
theorem small_maxLen {n : Nat} (h : n ≤ 4294967296) : n ≤ maxLen := by unfold maxLen; omega
theorem IntsAt.keep {w w' : World} {v : Value} {l : List Int} {r : Option Nat} (h : IntsAt w v l) (hg : w.grownBy w' r) (hr : ∀ x, r = some x → v.ownBlock ≠ some x) : IntsAt w' v l := by
  obtain ⟨p, cap, rfl, hm, hp⟩ := h
  refine ⟨p, cap, rfl, hm, fun h0 => ?_⟩
  obtain ⟨g, off, rfl, hc⟩ := hp h0
  exact ⟨g, off, rfl, fun j hj => hg.cell (hc j hj) (fun e => hr g e.symm rfl)⟩
theorem IntsAt.lit (w : World) (l : List Int) (hl : l.length ≤ 4294967296) : IntsAt (w.alloc (.cells (ints l).toArray 3)) (.slice (some ⟨w.heap.size, 0, none⟩) l.length l.length) l :=
  IntsAt.whole (by show (w.heap.push _)[w.heap.size]? = _; rw [Array.getElem?_push_size]) (small_maxLen hl)

end Go.Proofs.YtknlcjhcamhfmaaGreatDoor.L
namespace Go.Proofs.YtknlcjhcamhfmaaGreatDoor.L
open Go.RowKit

/-- A list that the call itself grows: v owns the numbers l, in a block from base on. -/
def Own (w : World) (base : Nat) (v : Value) (l : List Int) : Prop := w.ownsRow base 3 1 v l.length (ints l)
theorem Own.nil (w : World) (base : Nat) : Own w base (.slice none 0 0) [] := ⟨rfl, Or.inl ⟨rfl, rfl⟩⟩
theorem Own.keep {w w' : World} {base : Nat} {v : Value} {l : List Int} {r : Option Nat} (h : Own w base v l) (hg : w.grownBy w' r) (hr : ∀ x, r = some x → x < base) : Own w' base v l := by
  obtain ⟨h1, h2⟩ := h
  refine ⟨h1, ?_⟩
  rcases h2 with h2 | ⟨g, cap, cur, hv, hg0, hh, rest⟩
  · exact Or.inl h2
  · exact Or.inr ⟨g, cap, cur, hv, hg0, grown_keep hg hh (fun e => by have := hr g e.symm; omega), rest⟩
theorem Own.ints {w : World} {base : Nat} {v : Value} {l : List Int} (h : Own w base v l) : IntsAt w v l := by
  obtain ⟨h1, h2⟩ := h
  rcases h2 with ⟨rfl, h0⟩ | ⟨g, cap, cur, rfl, hg0, hh, hn, hm, hs, ht⟩
  · have : l = [] := List.eq_nil_of_length_eq_zero h0
    subst this
    exact ⟨none, 0, rfl, Nat.zero_le _, fun h => absurd h (by simp)⟩
  · refine ⟨_, cap, rfl, Nat.le_trans hn hm, fun h => ⟨g, 0, rfl, fun j hj => ?_⟩⟩
    rw [Nat.zero_add, block_cell hh, ← ints_at l j hj, ← ht, List.getElem?_take, if_pos (by omega)]
    simp
theorem Own.form {w : World} {base : Nat} {v : Value} {l : List Int} (h : Own w base v l) : ∃ p cap, v = .slice p l.length cap := by
  obtain ⟨p, cap, e, _⟩ := h.ints
  exact ⟨p, cap, e⟩
theorem Own.block {w : World} {base : Nat} {v : Value} {l : List Int} (h : Own w base v l) : ∀ k, v.ownBlock = some k → base ≤ k := by
  intro k hk
  obtain ⟨h1, h2⟩ := h
  rcases h2 with ⟨rfl, h0⟩ | ⟨g, cap, cur, rfl, hg0, _⟩
  · simp [Value.ownBlock] at hk
  · simp [Value.ownBlock] at hk; omega
theorem Tryz.info3' : (Tryz.prog.info? 3).map (fun i => (i.zero, i.size, i.bytes)) = some (some (.int .i64 0), 1, 8) := by kernel_rfl

end Go.Proofs.YtknlcjhcamhfmaaGreatDoor.L
namespace Go.Proofs.YtknlcjhcamhfmaaGreatDoor.L
open Go.RowKit

set_option maxHeartbeats 1000000 in
theorem pick_any (k : Int) (n : Nat) (w : World) (hn : 0 < n) (hm : n ≤ 4294967296) : Calls Tryz.prog 29 #[.int .i64 k, .int .i64 n] w fun e w' => (∃ r : Nat, r < n ∧ e = .returned (.int .i64 r)) ∧ w' = w := by
  have h1 : ¬ ((n : Int) < 1) := by omega
  have h0 : ((n : Int) == 0) = false := by simpa using (show ¬ ((n : Int) = 0) by omega)
  have b1 : k.tmod n < n := Int.tmod_lt_of_pos k (by omega)
  have b2 : -(n : Int) < k.tmod n := by
    have h := Int.tmod_lt_of_pos (-k) (show (0 : Int) < n by omega)
    rw [Int.neg_tmod] at h
    omega
  go_enter Tryz.func29, Tryz.ntmps29
  go_wp2
  · go_ret
    exact ⟨⟨(k.tmod n + n).toNat, by omega, ret_int (Int.toNat_of_nonneg (by omega)).symm⟩, rfl⟩
  · go_ret
    exact ⟨⟨(k.tmod n).toNat, by omega, ret_int (Int.toNat_of_nonneg (by omega)).symm⟩, rfl⟩
end Go.Proofs.YtknlcjhcamhfmaaGreatDoor.L
