/-
  What noting.In does: it notes 100 k + layer for each k from 1 to times, as long as the log takes them, and tells how many it took; of what takes none it tells 0.
-/
import Derived.Test.YtknlcjhcamhfmaaGreatDoorQ1
import Derived.Maps.AppendAt
namespace Go.Proofs.YtknlcjhcamhfmaaGreatDoor.L
open Go.RowKit

/-- The first k notes of a layer. -/
def nts (layer : Int) (k : Nat) : List Int := (List.range k).map fun (i : Nat) => 100 * ((i : Int) + 1) + layer
theorem nts_succ (layer : Int) (k : Nat) : nts layer k ++ [100 * ((k : Int) + 1) + layer] = nts layer (k + 1) := by simp [nts, List.range_succ]
theorem length_nts (layer : Int) (k : Nat) : (nts layer k).length = k := by simp [nts]
theorem nts_getD (layer : Int) (q j : Nat) (h : j < q) : (nts layer q).getD j 0 = 100 * ((j : Int) + 1) + layer := by simp [nts, List.getD, h]
set_option maxHeartbeats 1000000 in
theorem in_log (b : Nat) (l : List Int) (layer : Int) (times : Nat) (w : World) (h : LogAt w b l false) (hy : 0 ≤ layer ∧ layer ≤ 100) (ht : times ≤ 100) : Calls Tryz.prog 77 #[.pointer (some ⟨b, 0, none⟩), .int .i64 layer, .int .i64 times] w fun e w' => e = .returned (.int .i64 ((min times (256 - l.length) : Nat) : Int)) ∧ LogAt w' b (l ++ nts layer (min times (256 - l.length))) false ∧ w.grownBy w' (some b) := by
  have hl := h.len
  go_enter Tryz.func77, Tryz.ntmps77
  go_wp2_with fail
  go_loopw [7, 8] (fun c k wr => ∃ j : Nat, j ≤ times ∧ c = .int .i64 j ∧ k = .int .i64 ((j : Int) + 1) ∧ l.length + j ≤ 256 ∧ LogAt wr b (l ++ nts layer j) false ∧ w.grownBy wr (some b)) (fun _ k _ => times + 1 - (intOf k).toNat)
  case atStart => exact ⟨0, Nat.zero_le _, rfl, rfl, hl, by simpa [nts] using h, grown_refl _ _⟩
  case round =>
    clear h
    obtain ⟨j, hj, rfl, rfl, hl2, L, G⟩ := hrel
    have e1 : (l ++ nts layer j).length = l.length + j := by rw [List.length_append, length_nts]
    by_cases hlt : j < times
    · have hlt' : (j : Int) + 1 ≤ times := by omega
      by_cases hr : l.length + j < 256
      · have h0 : ¬ (((l.length + j : Nat) : Int) < 0) := by omega
        have HL : Hid (LogAt wr b (l ++ nts layer j) false) := L
        clear L
        go_wp2_with fail
        refine (note_ok b (l ++ nts layer j) _ _ HL.out (by rw [e1]; exact hr)).mono ?_
        rintro e w2 ⟨rfl, L2, g2⟩
        rw [List.append_assoc, nts_succ] at L2
        rw [e1]
        clear HL e1
        go_wp2
        go_roundw
        case rel => exact ⟨j + 1, by omega, by go_num, by go_num, by omega, L2, grown_trans G g2⟩
        case measure => simp [intOf]; omega
      · have HE : Hid (min times (256 - l.length) = j) := by show min times (256 - l.length) = j; omega
        go_wp2_with fail
        refine (note_full b (l ++ nts layer j) _ _ _ L (by rw [e1]; omega)).mono ?_
        rintro e w2 ⟨rfl, rfl⟩
        go_wp2
        go_ret
        exact ⟨ret_int (by rw [HE.out]), by rw [HE.out]; exact L, G⟩
    · obtain rfl : j = times := by omega
      have hlt' : ¬ ((j : Int) + 1 ≤ j) := by omega
      have HE : Hid (min j (256 - l.length) = j) := by show min j (256 - l.length) = j; omega
      go_wp2
      go_ret
      exact ⟨ret_int (by rw [HE.out]), by rw [HE.out]; exact L, G⟩
set_option maxHeartbeats 1000000 in
theorem in_ref (p : Option Addr) (layer : Int) (times : Nat) (w : World) (hN : ∀ n : Int, Calls Tryz.prog 30 #[.pointer p, .int .i64 n] w fun e w' => e = .returned (.int .i64 (-1)) ∧ w' = w) (hy : 0 ≤ layer ∧ layer ≤ 100) (ht : 1 ≤ times ∧ times ≤ 100) : Calls Tryz.prog 77 #[.pointer p, .int .i64 layer, .int .i64 times] w fun e w' => e = .returned (.int .i64 0) ∧ w' = w := by
  have HN : Hid (∀ n : Int, Calls Tryz.prog 30 #[.pointer p, .int .i64 n] w fun e w' => e = .returned (.int .i64 (-1)) ∧ w' = w) := hN
  clear hN
  have ht' : (1 : Int) ≤ times := by omega
  go_enter Tryz.func77, Tryz.ntmps77
  go_wp2_with fail
  go_loop [7, 8] (fun c k => c = .int .i64 0 ∧ k = .int .i64 1) (fun _ _ => 0)
  case atStart => exact ⟨rfl, rfl⟩
  case round =>
    obtain ⟨rfl, rfl⟩ := hrel
    go_wp2_with fail
    refine (HN.out _).mono ?_
    rintro e w2 ⟨rfl, rfl⟩
    go_wp2
    go_ret
    exact ⟨rfl, rfl⟩
theorem wpl_build_g {P : Program} {w w1 : World} {ops : Array Oper} {rest : List Oper} {o : Oper} {a : Act} {Q : Exit → Act → World → Prop} (hgd : Region.wanted o (yielded ops a.tmps) = true) (t : TypeId) (parts : Array (Nat × Operand))
    (ho : o.op = .build t parts) (vs : Array (Nat × Value)) (hv : (parts.map fun (i, x) => (i, a.eval x)) = vs) (v : Value) (hrun : (Instr.build t vs).run P w = .ok v w1) (h : wpList P ops Q rest (a.put o.dst v) w1) : wpList P ops Q (o :: rest) a w := by
  refine wpList_step fun K hK => ?_
  rw [if_pos hgd]
  unfold Oper.wp
  simp only [execOp, ho, Sem.run_bind, hv, hrun, Result.andThen_ok]
  exact hK _ _ h
theorem wpl_box_g {P : Program} {w w1 : World} {ops : Array Oper} {rest : List Oper} {o : Oper} {a : Act} {Q : Exit → Act → World → Prop} (hgd : Region.wanted o (yielded ops a.tmps) = true) (t : TypeId) (x : Operand)
    (ho : o.op = .box t x) (y : Value) (hy : a.eval x = y) (v : Value) (hrun : (Instr.box t y).run P w = .ok v w1) (h : wpList P ops Q rest (a.put o.dst v) w1) : wpList P ops Q (o :: rest) a w := by
  refine wpList_step fun K hK => ?_
  rw [if_pos hgd]
  unfold Oper.wp
  simp only [execOp, ho, Sem.run_bind, hy, hrun, Result.andThen_ok]
  exact hK _ _ h
theorem run_build33' (w : World) : (Instr.build 75 #[]).run Tryz.prog w = .ok (.agg noCells) w := by kernel_rfl
set_option maxRecDepth 100000 in
theorem no_new (w : World) : NoLog (w.alloc (Obj.cells noCells 75)) (some ⟨w.heap.size, 0, none⟩) := Or.inr ⟨_, rfl, by
  rw [block_cell (alloc_at w noCells 75)]; exact log_made _ _ _ _ (by simp)⟩
/-- 0, 1, .., n - 1. -/
def upTo (n : Nat) : List Int := (List.range n).map Int.ofNat
theorem length_upTo (n : Nat) : (upTo n).length = n := by simp [upTo]
theorem upTo_succ (n : Nat) : upTo n ++ [(n : Int)] = upTo (n + 1) := by simp [upTo, List.range_succ]
theorem own_snoc {w : World} {base m : Nat} {v : Value} {l : List Int} {n : Int} (h : w.ownsRow base 3 1 v m (ints l ++ [Value.int .i64 n])) (hm : m = l.length + 1) : Own w base v (l ++ [n]) := by
  unfold Own; rw [ints_snoc]; simpa [hm] using h
theorem Own.form_len {w : World} {base : Nat} {v : Value} {l : List Int} {n : Nat} (h : Own w base v l) (hn : l.length = n) : ∃ p cap, v = .slice p n cap := by
  obtain ⟨p, cap, e⟩ := h.form; exact ⟨p, cap, by rw [e, hn]⟩
theorem own_row {w : World} {base n : Nat} {v : Value} {l : List Int} (h : Own w base v l) (hn : l.length = n) : w.ownsRow base 3 1 v n (ints l) := by rw [← hn]; exact h
theorem own_lt {w : World} {base : Nat} {v : Value} {l : List Int} (h : Own w base v l) : ∀ k, v.ownBlock = some k → k < w.heap.size := by
  intro k hk
  obtain ⟨h1, h2⟩ := h
  rcases h2 with ⟨rfl, h0⟩ | ⟨g, cap, cur, rfl, hg0, hb, _⟩
  · simp [Value.ownBlock] at hk
  · simp [Value.ownBlock] at hk; rw [← hk]; exact block_lt hb
/-- The log, and the list of what it took, behind k notes. -/
def BegAt (w wr : World) (b : Nat) (v : Value) (n : Nat) : Prop := LogAt wr b (upTo n) false ∧ Own wr (b + 1) v (upTo n) ∧ w.grownBy wr none
/-- Behind j of the law's own numbers: the log, the list that is wanted, the numbers. -/
def NumAt (w wr : World) (b s : Nat) (layer : Int) (q n j : Nat) (v : Value) : Prop := LogAt wr b (upTo n) false ∧ Own wr (b + 1) v (upTo n ++ nts layer (min j (256 - n))) ∧ wr.heap[s]? = some (.cells (ints (nts layer q)).toArray 3 (0, 0)) ∧ v.ownBlock ≠ some s ∧ w.grownBy wr none
theorem len_want (layer : Int) (n t : Nat) : (upTo n ++ nts layer t).length = n + t := by rw [List.length_append, length_upTo, length_nts]
theorem NumAt.cell {w wr : World} {b s : Nat} {layer : Int} {q n j : Nat} {v : Value} (h : NumAt w wr b s layer q n j v) (hj : j < q) : wr.cell? ⟨s, j, none⟩ = some (.int .i64 (100 * ((j : Int) + 1) + layer)) := by
  rw [block_cell h.2.2.1 j, ← nts_getD layer q j hj]
  simpa using ints_at (nts layer q) j (by rw [length_nts]; exact hj)
theorem NumAt.next {w wr w7 : World} {b s : Nat} {layer : Int} {q n j : Nat} {p : Option Addr} {c : Nat} {v' : Value} {tmp : Obj} (h : NumAt w wr b s layer q n j (.slice p (n + j) c))
    (hown : w7.ownsRow (b + 1) 3 1 v' (n + j + 1) (ints (upTo n ++ nts layer j) ++ [Value.int .i64 (100 * ((j : Int) + 1) + layer)])) (hg : (wr.alloc tmp).grownBy w7 (Value.slice p (n + j) c).ownBlock)
    (hlie : v'.ownBlock = (Value.slice p (n + j) c).ownBlock ∨ v'.ownBlock = some (wr.alloc tmp).heap.size) (hj : n + j < 256) (hb : w.heap.size ≤ b) : NumAt w w7 b s layer q n (j + 1) v' := by
  obtain ⟨L, O, N, hne, G⟩ := h
  have em : min (j + 1) (256 - n) = j + 1 := by omega
  have O7 := own_snoc hown (by rw [len_want])
  rw [List.append_assoc, nts_succ] at O7
  have hblk := O.block
  refine ⟨(L.keep (World.grownBy_alloc wr tmp none) (by simp)).keep hg (fun e => by have := hblk b e.symm; omega), by rw [em]; exact O7, grown_keep hg (grown_keep (World.grownBy_alloc wr tmp none) N (by simp)) (fun e => hne e.symm), ?_, grown_own (grown_push G tmp) hg (fun x hx => by have := hblk x hx; omega)⟩
  rcases hlie with e | e
  · rw [e]; exact hne
  · rw [e, World.size_alloc]
    have := block_lt N
    intro h
    simp at h
    omega
end Go.Proofs.YtknlcjhcamhfmaaGreatDoor.L
