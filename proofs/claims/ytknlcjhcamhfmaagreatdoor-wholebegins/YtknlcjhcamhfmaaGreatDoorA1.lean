/-
  What List answers of a log (its notes, in memory of its own), and what SameInts answers of two lists: whether they are the same.
  A list of numbers that the call itself grows.
  What Pick answers: a number from 0 to n - 1.
  What noting.In does: it notes 100 k + layer for each k from 1 to times, as long as the log takes them, and tells how many it took; of what takes none it tells 0.
-/
import Derived.Test.YtknlcjhcamhfmaaGreatDoorA0
import Derived.Laws.CopyOwn
import Derived.Deep.RegionLaw
import Derived.Deep.QuietTactic
import Derived.BigQuiet
import Derived.Maps.AppendAt
namespace Go.Proofs.YtknlcjhcamhfmaaGreatDoor.L
open Go.RowKit

def zeros (n : Nat) : Array Value := (ints (List.replicate n 0)).toArray
theorem zeros_eq (n : Nat) : madeCells #[Value.int .i64 0] n = zeros n := by
  apply Array.ext
  · simp [size_madeCells, zeros, length_ints]
  · intro i h1 h2
    simp [madeCells, zeros, ints, Nat.mod_one]
theorem run_make35 (n : Nat) (hn : n ≤ 256) (w : World) : (Instr.makeSlice 28 (.int .i64 n) (.int .i64 n)).run Tryz.prog w = .ok (.slice (some ⟨w.heap.size, 0, none⟩) n n) (w.alloc (.cells (zeros n) 3)) := by
  have h := run_make (P := Tryz.prog) w 28 3 Tryz.t3 (.int .i64 0) Tryz.underlying28 (by kernel_rfl) (by kernel_rfl) .i64 .i64 n n (by omega) (by omega) (by show ((8 : Nat) : Int) * n ≤ _; omega) (by omega)
  rw [h]
  show Result.ok (Value.slice (some ⟨w.heap.size, 0, none⟩) n n) (w.alloc (Obj.cells (madeCells #[Value.int .i64 0] (n * 1)) 3)) = _
  rw [Nat.mul_one, zeros_eq]
set_option maxRecDepth 100000 in
set_option maxHeartbeats 400000 in
theorem list_log (b : Nat) (l : List Int) (c : Bool) (w : World) (h : LogAt w b l c) : Calls Tryz.prog 35 #[.pointer (some ⟨b, 0, none⟩)] w fun e w' => e = .returned (.slice (some ⟨w.heap.size, 0, none⟩) l.length l.length) ∧ w'.heap[w.heap.size]? = some (.cells (ints l).toArray 3 (0, 0)) ∧ w.grownBy w' none := by
  obtain ⟨Z, h1, h2, h3, h4⟩ := h
  have c1 := (block_cell h4 256).trans (log_count Z _ _ _ h2)
  have c3 := (block_cell h4 258).trans (log_made Z _ _ _ h2)
  have hm := run_make35 l.length h1
  have h1i : (l.length : Int) ≤ 256 := by omega
  have hal : Tryz.prog.arrayLen 73 = 256 := by kernel_rfl
  have H : Hid (Z.take l.length = l) := h3
  have H4 : Hid (w.heap[b]? = some (.cells (logCells Z l.length c true) 75 (0, 0))) := h4
  have hlt := block_lt h4
  clear h3 h4
  go_enter Tryz.func35, Tryz.ntmps35
  go_wp2_with (go_at_call 75; refine (isLog_made _ _ _ c3).mono ?_; rintro e w' ⟨rfl, rfl⟩)
  have A1 : Hid ((w'.alloc (Obj.cells (zeros l.length) 3)).drew.heap[w'.heap.size]? = some (.cells (ints (List.replicate l.length 0)).toArray 3 (0, 0))) := by
    show (w'.heap.push _)[w'.heap.size]? = _
    rw [Array.getElem?_push_size]; rfl
  have A2 : Hid (∀ j v, (ints l)[j]? = some v → (w'.alloc (Obj.cells (zeros l.length) 3)).drew.cell? ((⟨b, 0, none⟩ : Addr).add j) = some v) := by
    intro j v hj
    have hjl : j < l.length := by have := (List.getElem?_eq_some_iff.1 hj).1; rwa [length_ints] at this
    have e1 : (w'.alloc (Obj.cells (zeros l.length) 3)).drew.heap[b]? = some (.cells (logCells Z l.length c true) 75 (0, 0)) := by
      show (w'.heap.push _)[b]? = _
      rw [Array.getElem?_push, if_neg (by omega)]; exact H4.out
    have e2 : (⟨b, 0, none⟩ : Addr).add j = ⟨b, j, none⟩ := by unfold Addr.add; split <;> simp_all
    rw [e2, block_cell e1, log_note Z _ _ _ h2 _ (by omega), getD_take Z l H.out j hjl, ← hj, ints_at l j hjl]
  have A3 : Hid (Below w'.heap.size w' (w'.alloc (Obj.cells (zeros l.length) 3)).drew) := ((Below.refl _ _).alloc (Nat.le_refl _) _).drew
  go_region_law (refine step_copy_splice rfl (.tmp 12) (.tmp 20) 28 28 rfl 3 Tryz.underlying28 (by kernel_rfl) (some ⟨w'.heap.size, 0, none⟩) (some ⟨b, 0, none⟩) l.length l.length l.length 256 (by simp [Act.eval, Act.put]) (by simp [Act.eval, Act.put]) w'.heap.size 0 (ints (List.replicate l.length 0)) 3 A1.out (ints l) (by simp [length_ints]) (fun _ => ⟨rfl, _, rfl, A2.out⟩) (by simp [length_ints]) (by simp [ints, Value.oneCell']) w'.heap.size w' A3.out (Nat.le_refl _) ?_; intro w2 hg2 hb2)
  go_wp2
  go_ret
  refine ⟨rfl, ?_, ⟨hb2.os, hb2.tape, hb2.output, hb2.size, fun k hk _ => hb2.block k hk⟩⟩
  have e := hg2.out
  have e0 : List.drop l.length (ints (List.replicate l.length 0)) = [] := List.drop_eq_nil_of_le (by simp [length_ints])
  simpa [splice, length_ints, e0] using e
/-- A slice that reads as the numbers l. -/
def IntsAt (w : World) (v : Value) (l : List Int) : Prop := ∃ p cap, v = .slice p l.length cap ∧ l.length ≤ maxLen ∧ (0 < l.length → ∃ g off, p = some ⟨g, off, none⟩ ∧ ∀ j, j < l.length → w.cell? ⟨g, off + j, none⟩ = some (.int .i64 (l.getD j 0)))
theorem ret_false {p : Prop} [Decidable p] (h : ¬ p) : Ending.returned (.bool false) = .returned (.bool (decide p)) := by simp [h]
theorem ret_true {p : Prop} [Decidable p] (h : p) : Ending.returned (.bool true) = .returned (.bool (decide p)) := by simp [h]
theorem ext_getD (l r : List Int) (hl : l.length = r.length) (h : ∀ j, j < l.length → l.getD j 0 = r.getD j 0) : l = r := by
  apply List.ext_getElem hl
  intro j h1 h2
  have := h j h1
  rwa [getD_lt _ _ h1, getD_lt _ _ h2] at this
set_option maxHeartbeats 400000 in
theorem same_len (p q : Option Addr) (n m c d : Nat) (w : World) (h : n ≠ m) : Calls Tryz.prog 34 #[.slice p n c, .slice q m d] w fun e w' => e = .returned (.bool false) ∧ w' = w := by
  have hb : ((n : Int) == (m : Int)) = false := by simpa using (show ¬ ((n : Int) = m) by omega)
  go_enter Tryz.func34, Tryz.ntmps34
  go_wp2
  go_ret
  exact ⟨rfl, rfl⟩
set_option maxHeartbeats 400000 in
theorem same_nil (p q : Option Addr) (c d : Nat) (w : World) : Calls Tryz.prog 34 #[.slice p 0 c, .slice q 0 d] w fun e w' => e = .returned (.bool true) ∧ w' = w := by
  go_enter Tryz.func34, Tryz.ntmps34
  go_wp2
  go_loop [5] (fun i => i = .int .i64 0) (fun _ => 0)
  case atStart => rfl
  case round =>
    subst hrel
    go_wp2
    go_ret
    exact ⟨rfl, rfl⟩
set_option maxHeartbeats 400000 in
theorem same_run (l r : List Int) (g off c g' off' c' : Nat) (w : World) (hl : l.length = r.length) (hm : l.length ≤ maxLen)
    (ha : ∀ j, j < l.length → w.cell? ⟨g, off + j, none⟩ = some (.int .i64 (l.getD j 0))) (hb : ∀ j, j < l.length → w.cell? ⟨g', off' + j, none⟩ = some (.int .i64 (r.getD j 0))) :
    Calls Tryz.prog 34 #[.slice (some ⟨g, off, none⟩) l.length c, .slice (some ⟨g', off', none⟩) l.length c'] w fun e w' => e = .returned (.bool (decide (l = r))) ∧ ∃ n, w' = w.drewN n := by
  unfold maxLen at hm
  have HL : Hid (l.length = r.length) := hl
  clear hl
  go_enter Tryz.func34, Tryz.ntmps34
  go_wp2
  go_loopw [5] (fun i wr => ∃ k n : Nat, k ≤ l.length ∧ i = .int .i64 k ∧ wr = w.drewN n ∧ ∀ j, j < k → l.getD j 0 = r.getD j 0) (fun i _ => l.length - (intOf i).toNat)
  case atStart => exact ⟨0, 0, Nat.zero_le _, rfl, rfl, fun j hj => absurd hj (Nat.not_lt_zero _)⟩
  case round =>
    obtain ⟨k, n, hk, rfl, rfl, hall⟩ := hrel
    have HA : Hid (∀ j, j < k → l.getD j 0 = r.getD j 0) := hall
    clear hall
    by_cases hlt : k < l.length
    · have ck := ha k hlt
      have dk := hb k hlt
      clear ha hb
      generalize hv : l.getD k 0 = v at *
      generalize hu : r.getD k 0 = u at *
      have HV : Hid (l.getD k 0 = v) := hv
      have HU : Hid (r.getD k 0 = u) := hu
      clear hv hu
      by_cases he : v = u
      · have hb : (v == u) = true := by simpa using he
        have HE : Hid (v = u) := he
        clear he
        go_wp2
        go_quiet (fail)
        go_wp2
        go_roundw
        case rel =>
          refine ⟨k + 1, n + nq, by omega, by go_num, rfl, fun j hj => ?_⟩
          by_cases ej : j = k
          · subst ej; rw [HV.out, HU.out]; exact HE.out
          · exact HA.out j (by omega)
        case measure => simp [intOf]; omega
      · have hb : (v == u) = false := by simpa using he
        have HE : Hid (¬ v = u) := he
        clear he
        go_wp2
        go_quiet (fail)
        go_wp2
        go_ret
        exact ⟨ret_false (fun e => HE.out (by rw [← HV.out, ← HU.out, e])), n + nq, by simp [World.drewN, Nat.add_assoc]⟩
    · clear ha hb
      go_wp2
      go_ret
      exact ⟨ret_true (ext_getD l r HL.out (fun j hj => HA.out j (by omega))), _, rfl⟩

theorem same_ints (a b : Value) (l r : List Int) (w : World) (ha : IntsAt w a l) (hb : IntsAt w b r) : Calls Tryz.prog 34 #[a, b] w fun e w' => e = .returned (.bool (decide (l = r))) ∧ ∃ n, w' = w.drewN n := by
  obtain ⟨p, c, rfl, hm, hp⟩ := ha
  obtain ⟨q, d, rfl, hm', hq⟩ := hb
  by_cases hl : l.length = r.length
  · by_cases h0 : l.length = 0
    · have e1 : l = [] := List.eq_nil_of_length_eq_zero h0
      have e2 : r = [] := List.eq_nil_of_length_eq_zero (by omega)
      subst e1; subst e2
      refine (same_nil p q c d w).mono ?_
      rintro e w' ⟨rfl, rfl⟩
      exact ⟨rfl, 0, rfl⟩
    · obtain ⟨g, off, rfl, ca⟩ := hp (by omega)
      obtain ⟨g', off', rfl, cb⟩ := hq (by omega)
      rw [← hl]
      exact same_run l r g off c g' off' d w hl hm ca (fun j hj => cb j (by omega))
  · refine (same_len p q _ _ c d w hl).mono ?_
    rintro e w' ⟨rfl, rfl⟩
    exact ⟨ret_false (fun e => hl (by rw [e])), 0, rfl⟩
theorem IntsAt.block {w : World} {g cap : Nat} {cs : Array Value} {t : TypeId} {l : List Int} (h : w.heap[g]? = some (.cells cs t (0, 0))) (hl : l.length ≤ maxLen) (hc : ∀ j, j < l.length → cs[j]? = some (.int .i64 (l.getD j 0))) : IntsAt w (.slice (some ⟨g, 0, none⟩) l.length cap) l :=
  ⟨_, cap, rfl, hl, fun _ => ⟨g, 0, rfl, fun j hj => by rw [Nat.zero_add, block_cell h]; exact hc j hj⟩⟩
theorem IntsAt.whole {w : World} {g cap : Nat} {t : TypeId} {l : List Int} (h : w.heap[g]? = some (.cells (ints l).toArray t (0, 0))) (hl : l.length ≤ maxLen) : IntsAt w (.slice (some ⟨g, 0, none⟩) l.length cap) l :=
  IntsAt.block h hl (fun j hj => by simpa using ints_at l j hj)
theorem small_maxLen {n : Nat} (h : n ≤ 4294967296) : n ≤ maxLen := by unfold maxLen; omega
theorem IntsAt.keep {w w' : World} {v : Value} {l : List Int} {r : Option Nat} (h : IntsAt w v l) (hg : w.grownBy w' r) (hr : ∀ x, r = some x → v.ownBlock ≠ some x) : IntsAt w' v l := by
  obtain ⟨p, cap, rfl, hm, hp⟩ := h
  refine ⟨p, cap, rfl, hm, fun h0 => ?_⟩
  obtain ⟨g, off, rfl, hc⟩ := hp h0
  exact ⟨g, off, rfl, fun j hj => hg.cell (hc j hj) (fun e => hr g e.symm rfl)⟩
theorem IntsAt.lit (w : World) (l : List Int) (hl : l.length ≤ 4294967296) : IntsAt (w.alloc (.cells (ints l).toArray 3)) (.slice (some ⟨w.heap.size, 0, none⟩) l.length l.length) l :=
  IntsAt.whole (by show (w.heap.push _)[w.heap.size]? = _; rw [Array.getElem?_push_size]) (small_maxLen hl)

end Go.Proofs.YtknlcjhcamhfmaaGreatDoor.L
namespace Go.Proofs.YtknlcjhcamhfmaaGreatDoor.L
open Go.RowKit

/-- A list that the call itself grows: v owns the numbers l, in a block from base on. -/
def Own (w : World) (base : Nat) (v : Value) (l : List Int) : Prop := w.ownsRow base 3 1 v l.length (ints l)
theorem Own.nil (w : World) (base : Nat) : Own w base (.slice none 0 0) [] := ⟨rfl, Or.inl ⟨rfl, rfl⟩⟩
theorem Own.keep {w w' : World} {base : Nat} {v : Value} {l : List Int} {r : Option Nat} (h : Own w base v l) (hg : w.grownBy w' r) (hr : ∀ x, r = some x → x < base) : Own w' base v l := by
  obtain ⟨h1, h2⟩ := h
  refine ⟨h1, ?_⟩
  rcases h2 with h2 | ⟨g, cap, cur, hv, hg0, hh, rest⟩
  · exact Or.inl h2
  · exact Or.inr ⟨g, cap, cur, hv, hg0, grown_keep hg hh (fun e => by have := hr g e.symm; omega), rest⟩
theorem Own.ints {w : World} {base : Nat} {v : Value} {l : List Int} (h : Own w base v l) : IntsAt w v l := by
  obtain ⟨h1, h2⟩ := h
  rcases h2 with ⟨rfl, h0⟩ | ⟨g, cap, cur, rfl, hg0, hh, hn, hm, hs, ht⟩
  · have : l = [] := List.eq_nil_of_length_eq_zero h0
    subst this
    exact ⟨none, 0, rfl, Nat.zero_le _, fun h => absurd h (by simp)⟩
  · refine ⟨_, cap, rfl, Nat.le_trans hn hm, fun h => ⟨g, 0, rfl, fun j hj => ?_⟩⟩
    rw [Nat.zero_add, block_cell hh, ← ints_at l j hj, ← ht, List.getElem?_take, if_pos (by omega)]
    simp
theorem Own.form {w : World} {base : Nat} {v : Value} {l : List Int} (h : Own w base v l) : ∃ p cap, v = .slice p l.length cap := by
  obtain ⟨p, cap, e, _⟩ := h.ints
  exact ⟨p, cap, e⟩
theorem Own.block {w : World} {base : Nat} {v : Value} {l : List Int} (h : Own w base v l) : ∀ k, v.ownBlock = some k → base ≤ k := by
  intro k hk
  obtain ⟨h1, h2⟩ := h
  rcases h2 with ⟨rfl, h0⟩ | ⟨g, cap, cur, rfl, hg0, _⟩
  · simp [Value.ownBlock] at hk
  · simp [Value.ownBlock] at hk; omega
theorem Tryz.info3' : (Tryz.prog.info? 3).map (fun i => (i.zero, i.size, i.bytes)) = some (some (.int .i64 0), 1, 8) := by kernel_rfl

end Go.Proofs.YtknlcjhcamhfmaaGreatDoor.L
namespace Go.Proofs.YtknlcjhcamhfmaaGreatDoor.L
open Go.RowKit

set_option maxHeartbeats 1000000 in
theorem pick_any (k : Int) (n : Nat) (w : World) (hn : 0 < n) (hm : n ≤ 4294967296) : Calls Tryz.prog 29 #[.int .i64 k, .int .i64 n] w fun e w' => (∃ r : Nat, r < n ∧ e = .returned (.int .i64 r)) ∧ w' = w := by
  have h1 : ¬ ((n : Int) < 1) := by omega
  have h0 : ((n : Int) == 0) = false := by simpa using (show ¬ ((n : Int) = 0) by omega)
  have b1 : k.tmod n < n := Int.tmod_lt_of_pos k (by omega)
  have b2 : -(n : Int) < k.tmod n := by
    have h := Int.tmod_lt_of_pos (-k) (show (0 : Int) < n by omega)
    rw [Int.neg_tmod] at h
    omega
  go_enter Tryz.func29, Tryz.ntmps29
  go_wp2
  · go_ret
    exact ⟨⟨(k.tmod n + n).toNat, by omega, ret_int (Int.toNat_of_nonneg (by omega)).symm⟩, rfl⟩
  · go_ret
    exact ⟨⟨(k.tmod n).toNat, by omega, ret_int (Int.toNat_of_nonneg (by omega)).symm⟩, rfl⟩
end Go.Proofs.YtknlcjhcamhfmaaGreatDoor.L
namespace Go.Proofs.YtknlcjhcamhfmaaGreatDoor.L
open Go.RowKit

/-- The first k notes of a layer. -/
def nts (layer : Int) (k : Nat) : List Int := (List.range k).map fun (i : Nat) => 100 * ((i : Int) + 1) + layer
theorem nts_succ (layer : Int) (k : Nat) : nts layer k ++ [100 * ((k : Int) + 1) + layer] = nts layer (k + 1) := by simp [nts, List.range_succ]
theorem length_nts (layer : Int) (k : Nat) : (nts layer k).length = k := by simp [nts]
theorem nts_getD (layer : Int) (q j : Nat) (h : j < q) : (nts layer q).getD j 0 = 100 * ((j : Int) + 1) + layer := by simp [nts, List.getD, h]
set_option maxHeartbeats 1000000 in
theorem in_log (b : Nat) (l : List Int) (layer : Int) (times : Nat) (w : World) (h : LogAt w b l false) (hy : 0 ≤ layer ∧ layer ≤ 100) (ht : times ≤ 100) : Calls Tryz.prog 77 #[.pointer (some ⟨b, 0, none⟩), .int .i64 layer, .int .i64 times] w fun e w' => e = .returned (.int .i64 ((min times (256 - l.length) : Nat) : Int)) ∧ LogAt w' b (l ++ nts layer (min times (256 - l.length))) false ∧ w.grownBy w' (some b) := by
  have hl := h.len
  go_enter Tryz.func77, Tryz.ntmps77
  go_wp2_with fail
  go_loopw [7, 8] (fun c k wr => ∃ j : Nat, j ≤ times ∧ c = .int .i64 j ∧ k = .int .i64 ((j : Int) + 1) ∧ l.length + j ≤ 256 ∧ LogAt wr b (l ++ nts layer j) false ∧ w.grownBy wr (some b)) (fun _ k _ => times + 1 - (intOf k).toNat)
  case atStart => exact ⟨0, Nat.zero_le _, rfl, rfl, hl, by simpa [nts] using h, grown_refl _ _⟩
  case round =>
    clear h
    obtain ⟨j, hj, rfl, rfl, hl2, L, G⟩ := hrel
    have e1 : (l ++ nts layer j).length = l.length + j := by rw [List.length_append, length_nts]
    by_cases hlt : j < times
    · have hlt' : (j : Int) + 1 ≤ times := by omega
      by_cases hr : l.length + j < 256
      · have h0 : ¬ (((l.length + j : Nat) : Int) < 0) := by omega
        have HL : Hid (LogAt wr b (l ++ nts layer j) false) := L
        clear L
        go_wp2_with fail
        refine (note_ok b (l ++ nts layer j) _ _ HL.out (by rw [e1]; exact hr)).mono ?_
        rintro e w2 ⟨rfl, L2, g2⟩
        rw [List.append_assoc, nts_succ] at L2
        rw [e1]
        clear HL e1
        go_wp2
        go_roundw
        case rel => exact ⟨j + 1, by omega, by go_num, by go_num, by omega, L2, grown_trans G g2⟩
        case measure => simp [intOf]; omega
      · have HE : Hid (min times (256 - l.length) = j) := by show min times (256 - l.length) = j; omega
        go_wp2_with fail
        refine (note_full b (l ++ nts layer j) _ _ _ L (by rw [e1]; omega)).mono ?_
        rintro e w2 ⟨rfl, rfl⟩
        go_wp2
        go_ret
        exact ⟨ret_int (by rw [HE.out]), by rw [HE.out]; exact L, G⟩
    · obtain rfl : j = times := by omega
      have hlt' : ¬ ((j : Int) + 1 ≤ j) := by omega
      have HE : Hid (min j (256 - l.length) = j) := by show min j (256 - l.length) = j; omega
      go_wp2
      go_ret
      exact ⟨ret_int (by rw [HE.out]), by rw [HE.out]; exact L, G⟩
set_option maxHeartbeats 1000000 in
theorem in_ref (p : Option Addr) (layer : Int) (times : Nat) (w : World) (hN : ∀ n : Int, Calls Tryz.prog 30 #[.pointer p, .int .i64 n] w fun e w' => e = .returned (.int .i64 (-1)) ∧ w' = w) (hy : 0 ≤ layer ∧ layer ≤ 100) (ht : 1 ≤ times ∧ times ≤ 100) : Calls Tryz.prog 77 #[.pointer p, .int .i64 layer, .int .i64 times] w fun e w' => e = .returned (.int .i64 0) ∧ w' = w := by
  have HN : Hid (∀ n : Int, Calls Tryz.prog 30 #[.pointer p, .int .i64 n] w fun e w' => e = .returned (.int .i64 (-1)) ∧ w' = w) := hN
  clear hN
  have ht' : (1 : Int) ≤ times := by omega
  go_enter Tryz.func77, Tryz.ntmps77
  go_wp2_with fail
  go_loop [7, 8] (fun c k => c = .int .i64 0 ∧ k = .int .i64 1) (fun _ _ => 0)
  case atStart => exact ⟨rfl, rfl⟩
  case round =>
    obtain ⟨rfl, rfl⟩ := hrel
    go_wp2_with fail
    refine (HN.out _).mono ?_
    rintro e w2 ⟨rfl, rfl⟩
    go_wp2
    go_ret
    exact ⟨rfl, rfl⟩
theorem wpl_build_g {P : Program} {w w1 : World} {ops : Array Oper} {rest : List Oper} {o : Oper} {a : Act} {Q : Exit → Act → World → Prop} (hgd : Region.wanted o (yielded ops a.tmps) = true) (t : TypeId) (parts : Array (Nat × Operand))
    (ho : o.op = .build t parts) (vs : Array (Nat × Value)) (hv : (parts.map fun (i, x) => (i, a.eval x)) = vs) (v : Value) (hrun : (Instr.build t vs).run P w = .ok v w1) (h : wpList P ops Q rest (a.put o.dst v) w1) : wpList P ops Q (o :: rest) a w := by
  refine wpList_step fun K hK => ?_
  rw [if_pos hgd]
  unfold Oper.wp
  simp only [execOp, ho, Sem.run_bind, hv, hrun, Result.andThen_ok]
  exact hK _ _ h
theorem wpl_box_g {P : Program} {w w1 : World} {ops : Array Oper} {rest : List Oper} {o : Oper} {a : Act} {Q : Exit → Act → World → Prop} (hgd : Region.wanted o (yielded ops a.tmps) = true) (t : TypeId) (x : Operand)
    (ho : o.op = .box t x) (y : Value) (hy : a.eval x = y) (v : Value) (hrun : (Instr.box t y).run P w = .ok v w1) (h : wpList P ops Q rest (a.put o.dst v) w1) : wpList P ops Q (o :: rest) a w := by
  refine wpList_step fun K hK => ?_
  rw [if_pos hgd]
  unfold Oper.wp
  simp only [execOp, ho, Sem.run_bind, hy, hrun, Result.andThen_ok]
  exact hK _ _ h
theorem run_build33' (w : World) : (Instr.build 75 #[]).run Tryz.prog w = .ok (.agg noCells) w := by kernel_rfl
set_option maxRecDepth 100000 in
theorem no_new (w : World) : NoLog (w.alloc (Obj.cells noCells 75)) (some ⟨w.heap.size, 0, none⟩) := Or.inr ⟨_, rfl, by
  rw [block_cell (alloc_at w noCells 75)]; exact log_made _ _ _ _ (by simp)⟩
/-- 0, 1, .., n - 1. -/
def upTo (n : Nat) : List Int := (List.range n).map Int.ofNat
theorem length_upTo (n : Nat) : (upTo n).length = n := by simp [upTo]
theorem upTo_succ (n : Nat) : upTo n ++ [(n : Int)] = upTo (n + 1) := by simp [upTo, List.range_succ]
theorem own_snoc {w : World} {base m : Nat} {v : Value} {l : List Int} {n : Int} (h : w.ownsRow base 3 1 v m (ints l ++ [Value.int .i64 n])) (hm : m = l.length + 1) : Own w base v (l ++ [n]) := by
  unfold Own; rw [ints_snoc]; simpa [hm] using h
theorem Own.form_len {w : World} {base : Nat} {v : Value} {l : List Int} {n : Nat} (h : Own w base v l) (hn : l.length = n) : ∃ p cap, v = .slice p n cap := by
  obtain ⟨p, cap, e⟩ := h.form; exact ⟨p, cap, by rw [e, hn]⟩
theorem own_row {w : World} {base n : Nat} {v : Value} {l : List Int} (h : Own w base v l) (hn : l.length = n) : w.ownsRow base 3 1 v n (ints l) := by rw [← hn]; exact h
theorem own_lt {w : World} {base : Nat} {v : Value} {l : List Int} (h : Own w base v l) : ∀ k, v.ownBlock = some k → k < w.heap.size := by
  intro k hk
  obtain ⟨h1, h2⟩ := h
  rcases h2 with ⟨rfl, h0⟩ | ⟨g, cap, cur, rfl, hg0, hb, _⟩
  · simp [Value.ownBlock] at hk
  · simp [Value.ownBlock] at hk; rw [← hk]; exact block_lt hb
/-- The log, and the list of what it took, behind k notes. -/
def BegAt (w wr : World) (b : Nat) (v : Value) (n : Nat) : Prop := LogAt wr b (upTo n) false ∧ Own wr (b + 1) v (upTo n) ∧ w.grownBy wr none
/-- Behind j of the law's own numbers: the log, the list that is wanted, the numbers. -/
def NumAt (w wr : World) (b s : Nat) (layer : Int) (q n j : Nat) (v : Value) : Prop := LogAt wr b (upTo n) false ∧ Own wr (b + 1) v (upTo n ++ nts layer (min j (256 - n))) ∧ wr.heap[s]? = some (.cells (ints (nts layer q)).toArray 3 (0, 0)) ∧ v.ownBlock ≠ some s ∧ w.grownBy wr none
theorem len_want (layer : Int) (n t : Nat) : (upTo n ++ nts layer t).length = n + t := by rw [List.length_append, length_upTo, length_nts]
theorem NumAt.cell {w wr : World} {b s : Nat} {layer : Int} {q n j : Nat} {v : Value} (h : NumAt w wr b s layer q n j v) (hj : j < q) : wr.cell? ⟨s, j, none⟩ = some (.int .i64 (100 * ((j : Int) + 1) + layer)) := by
  rw [block_cell h.2.2.1 j, ← nts_getD layer q j hj]
  simpa using ints_at (nts layer q) j (by rw [length_nts]; exact hj)
theorem NumAt.next {w wr w7 : World} {b s : Nat} {layer : Int} {q n j : Nat} {p : Option Addr} {c : Nat} {v' : Value} {tmp : Obj} (h : NumAt w wr b s layer q n j (.slice p (n + j) c))
    (hown : w7.ownsRow (b + 1) 3 1 v' (n + j + 1) (ints (upTo n ++ nts layer j) ++ [Value.int .i64 (100 * ((j : Int) + 1) + layer)])) (hg : (wr.alloc tmp).grownBy w7 (Value.slice p (n + j) c).ownBlock)
    (hlie : v'.ownBlock = (Value.slice p (n + j) c).ownBlock ∨ v'.ownBlock = some (wr.alloc tmp).heap.size) (hj : n + j < 256) (hb : w.heap.size ≤ b) : NumAt w w7 b s layer q n (j + 1) v' := by
  obtain ⟨L, O, N, hne, G⟩ := h
  have em : min (j + 1) (256 - n) = j + 1 := by omega
  have O7 := own_snoc hown (by rw [len_want])
  rw [List.append_assoc, nts_succ] at O7
  have hblk := O.block
  refine ⟨(L.keep (World.grownBy_alloc wr tmp none) (by simp)).keep hg (fun e => by have := hblk b e.symm; omega), by rw [em]; exact O7, grown_keep hg (grown_keep (World.grownBy_alloc wr tmp none) N (by simp)) (fun e => hne e.symm), ?_, grown_own (grown_push G tmp) hg (fun x hx => by have := hblk x hx; omega)⟩
  rcases hlie with e | e
  · rw [e]; exact hne
  · rw [e, World.size_alloc]
    have := block_lt N
    intro h
    simp at h
    omega
end Go.Proofs.YtknlcjhcamhfmaaGreatDoor.L
