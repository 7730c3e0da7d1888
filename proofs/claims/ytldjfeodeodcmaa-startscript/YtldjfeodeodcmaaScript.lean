/-
  StartScript, walked: two logs, each beside the document's, any calls in turns: the law answers true, in any world, and touches nothing that was there.
-/
import Derived.Test.YtldjfeodeodcmaaState
namespace Go.Proofs.Ytldjfeodeodcmaa
open Go.RowKit
/-- A slice of acts that came in: n of them; what each says. -/
def ActsAt (w : World) (p : Option Addr) (n : Nat) (A : Nat → Int × Int × Int) : Prop := 0 < n → ∃ g off, p = some ⟨g, off, none⟩ ∧ ∀ wr, w.grownBy wr none → ∀ j, j < n →
  wr.cell? ⟨g, off + j * 3, none⟩ = some (.int .i64 (A j).1) ∧ wr.cell? ⟨g, off + j * 3 + 1, none⟩ = some (.int .i64 (A j).2.1) ∧ wr.cell? ⟨g, off + j * 3 + 2, none⟩ = some (.int .i64 (A j).2.2)
theorem and_one (x : Int) : bits .and .i64 x 1 = 0 ∨ bits .and .i64 x 1 = 1 := by
  have h : (BitVec.ofInt 64 x &&& BitVec.ofInt 64 1).toNat = (BitVec.ofInt 64 x).toNat % 2 := by
    rw [BitVec.toNat_and]
    have e : (BitVec.ofInt 64 1).toNat = 1 := by decide
    rw [e]; exact Nat.and_one_is_mod _
  have e : bits .and .i64 x 1 = IntKind.i64.wrap (((BitVec.ofInt 64 x &&& BitVec.ofInt 64 1).toNat : Nat) : Int) := rfl
  rw [e, h]
  rcases Nat.mod_two_eq_zero_or_one (BitVec.ofInt 64 x).toNat with h0 | h0
  · left; rw [h0]; decide
  · right; rw [h0]; decide
theorem act_post_undrew {w w' : World} {la ra : Nat} {v t t' v' : Value} {l' : List Int} {c' : Bool} {T T' : List (Nat × Nat)} (h : ActPost w.drew la ra v t T w' t' v' l' c' T') : ActPost w la ra v t T w' t' v' l' c' T' :=
  ⟨h.log, h.ref, h.told, h.kept.undrew, h.notes, h.fresh, h.apart, h.rows, h.count, h.nodup⟩
theorem script_cells {w wr : World} {s g o : Nat} {t v1 v2 : Value} {l1 l2 : List Int} {c1 c2 : Bool} {T : List (Nat × Nat)} {a b c : Value} (S : St w wr s t v1 v2 l1 l2 c1 c2 T) (h : wr.cell? ⟨g, o, none⟩ = some a ∧ wr.cell? ⟨g, o + 1, none⟩ = some b ∧ wr.cell? ⟨g, o + 2, none⟩ = some c) :
    (wr.cell? ⟨g, o, none⟩ = some a ∧ wr.cell? ⟨g, o + 1, none⟩ = some b ∧ wr.cell? ⟨g, o + 2, none⟩ = some c ∧ wr.cell? ⟨s + 4, 0, none⟩ = some (.pointer (some ⟨s, 0, none⟩)) ∧ wr.cell? ⟨s + 4, 1, none⟩ = some (.pointer (some ⟨s + 1, 0, none⟩)) ∧ wr.cell? ⟨s + 4, 2, none⟩ = some (.pointer (some ⟨s + 2, 0, none⟩)) ∧ wr.cell? ⟨s + 4, 3, none⟩ = some (.pointer (some ⟨s + 3, 0, none⟩))) ∧ True :=
  ⟨⟨h.1, h.2.1, h.2.2, block_cell S.both 0, block_cell S.both 1, block_cell S.both 2, block_cell S.both 3⟩, trivial⟩
theorem len_snoc {T : List (Nat × Nat)} {x : Nat × Nat} {k j : Nat} (h : T.length ≤ k + j) : (T ++ [x]).length ≤ k + (j + 1) := by simp; omega
theorem st_start {w w1 w2 w3 w4 : World} (L1 : LogAt w1 w.heap.size [] false) (g1 : w.grownBy w1 none) (R2 : RefAt w2 (w.heap.size + 1) (.slice none 0 0) [] false) (g2 : w1.grownBy w2 none)
    (L3 : LogAt w3 (w.heap.size + 2) [] false) (g3 : w2.grownBy w3 none) (R4 : RefAt w4 (w.heap.size + 3) (.slice none 0 0) [] false) (g4 : w3.grownBy w4 none) (_s1 : w1.heap.size = w.heap.size + 1) (_t2 : w2.heap.size = w.heap.size + 2) (_t3 : w3.heap.size = w.heap.size + 3) (t4 : w4.heap.size = w.heap.size + 4) :
    St w (w4.alloc (.cells #[.pointer (some ⟨w.heap.size, 0, none⟩), .pointer (some ⟨w.heap.size + 1, 0, none⟩), .pointer (some ⟨w.heap.size + 2, 0, none⟩), .pointer (some ⟨w.heap.size + 3, 0, none⟩)] 29)) w.heap.size (.slice none 0 0) (.slice none 0 0) (.slice none 0 0) [] [] false false [] := by
  have ga := World.grownBy_alloc w4 (.cells #[.pointer (some ⟨w.heap.size, 0, none⟩), .pointer (some ⟨w.heap.size + 1, 0, none⟩), .pointer (some ⟨w.heap.size + 2, 0, none⟩), .pointer (some ⟨w.heap.size + 3, 0, none⟩)] 29) none
  have k3 : ∀ {a b : World} {x : Nat} {v : Value} {l : List Int} {c : Bool}, RefAt a x v l c → a.grownBy b none → RefAt b x v l c := fun h g => h.kept (Kept.of_grown g) (by simp) (by simp)
  have no : ∀ x : Nat, x ∈ ob (.slice none 0 0) → False := fun x hx => by simp [ob, Value.ownBlock] at hx
  refine ⟨(((L1.keep g2 (by simp)).keep g3 (by simp)).keep g4 (by simp)).keep ga (by simp), k3 (k3 (k3 R2 g3) g4) ga, (L3.keep g4 (by simp)).keep ga (by simp), k3 R4 ga, ⟨World.ownsRow_nil _ _ _ _, fun x hx => by simp at hx⟩, ?_, grown_trans (grown_trans (grown_trans (grown_trans g1 g2) g3) g4) ga, Nat.le_refl _,
    fun x hx => (no x hx).elim, fun x hx => (no x hx).elim, fun x hx => (no x hx).elim, fun x hx => (no x hx).elim, fun x hx => by simp at hx, fun x hx => by simp at hx, fun x hx => by simp at hx, by simp⟩
  rw [← t4]
  show (w4.heap.push _)[w4.heap.size]? = _
  rw [Array.getElem?_push_size]
set_option maxRecDepth 100000 in
set_option maxHeartbeats 1000000 in
theorem script_any (p : Option Addr) (n cap : Nat) (A : Nat → Int × Int × Int) (w : World) (hA : ActsAt w p n A) (hn : n ≤ maxLen) : Calls Try.prog 3 #[.slice p n cap] w fun e w' => e = .returned (.bool true) ∧ w.grownBy w' none := by
  unfold maxLen at hn
  have HA : Hid (ActsAt w p n A) := hA
  clear hA
  by_cases hbig : (2000 : Int) < n
  · go_enter Try.func3, Try.ntmps3
    go_wp2
    go_ret
    exact ⟨rfl, grown_refl _ _⟩
  · have hsm : n ≤ 2000 := by omega
    go_enter Try.func3, Try.ntmps3
    go_wp2_with fail
    refine (new_any _).mono ?_
    rintro e w1 ⟨rfl, L1, g1, s1⟩
    go_wp2_with fail
    refine (rnew_any _).mono ?_
    rintro e w2 ⟨rfl, R2, g2, s2⟩
    have t2 : w2.heap.size = w.heap.size + 2 := by omega
    rw [s1] at R2
    rw [s1]
    go_wp2_with fail
    refine (new_any _).mono ?_
    rintro e w3 ⟨rfl, L3, g3, s3⟩
    have t3 : w3.heap.size = w.heap.size + 3 := by omega
    rw [t2] at L3
    rw [t2]
    go_wp2_with fail
    refine (rnew_any _).mono ?_
    rintro e w4 ⟨rfl, R4, g4, s4⟩
    have t4 : w4.heap.size = w.heap.size + 4 := by omega
    rw [t3] at R4
    rw [t3]
    have S0 := st_start L1 g1 R2 g2 L3 g3 R4 g4 s1 t2 t3 t4
    clear L1 R2 L3 R4 g1 g2 g3 g4 s1 s2 s3 s4 t2 t3
    go_wp2_with fail
    generalize hs : w.heap.size = s at *
    have HSz : Hid (w.heap.size = s) := hs
    clear hs t4
    go_loopw [4, 5] (fun t i wr => ∃ (k : Nat) (v1 v2 : Value) (l1 l2 : List Int) (c1 c2 : Bool) (T : List (Nat × Nat)), k ≤ n ∧ i = .int .i64 k ∧ T.length ≤ k ∧ St w wr s t v1 v2 l1 l2 c1 c2 T) (fun _ i _ => n - (intOf i).toNat)
    case atStart => exact ⟨0, _, _, _, _, _, _, [], Nat.zero_le _, rfl, Nat.le_refl _, S0⟩
    case round =>
      clear S0
      obtain ⟨k, v1, v2, l1, l2, c1, c2, T, hk, rfl, hTk, S⟩ := hrel
      by_cases hlt : k < n
      · obtain ⟨g, off, rfl, hc⟩ := HA.out (by omega)
        obtain ⟨a0, a1, a2⟩ := hc wr S.grown k hlt
        have HC : Hid (∀ wr, w.grownBy wr none → wr.cell? ⟨g, off + k * 3, none⟩ = some (.int .i64 (A k).1) ∧ wr.cell? ⟨g, off + k * 3 + 1, none⟩ = some (.int .i64 (A k).2.1) ∧ wr.cell? ⟨g, off + k * 3 + 2, none⟩ = some (.int .i64 (A k).2.2)) := fun wr hg => hc wr hg k hlt
        clear hc
        generalize A k = x at *
        obtain ⟨kd, on, nn⟩ := x
        simp only at a0 a1 a2
        have e0 : wr.cell? ⟨s + 4, 0, none⟩ = some (.pointer (some ⟨s, 0, none⟩)) := block_cell S.both 0
        have e1 : wr.cell? ⟨s + 4, 1, none⟩ = some (.pointer (some ⟨s + 1, 0, none⟩)) := block_cell S.both 1
        have e2 : wr.cell? ⟨s + 4, 2, none⟩ = some (.pointer (some ⟨s + 2, 0, none⟩)) := block_cell S.both 2
        have e3 : wr.cell? ⟨s + 4, 3, none⟩ = some (.pointer (some ⟨s + 3, 0, none⟩)) := block_cell S.both 3
        rcases and_one on with hb | hb
        · go_wp2_with fail
          go_region_held3 (fun w' => w'.cell? ⟨g, off + k * 3, none⟩ = some (.int .i64 kd) ∧ w'.cell? ⟨g, off + k * 3 + 1, none⟩ = some (.int .i64 on) ∧ w'.cell? ⟨g, off + k * 3 + 2, none⟩ = some (.int .i64 nn) ∧ w'.cell? ⟨s + 4, 0, none⟩ = some (.pointer (some ⟨s, 0, none⟩)) ∧ w'.cell? ⟨s + 4, 1, none⟩ = some (.pointer (some ⟨s + 1, 0, none⟩)) ∧ w'.cell? ⟨s + 4, 2, none⟩ = some (.pointer (some ⟨s + 2, 0, none⟩)) ∧ w'.cell? ⟨s + 4, 3, none⟩ = some (.pointer (some ⟨s + 3, 0, none⟩))) (first | exact S2.1 | (simp [*]; done)) ((go_at_call 9; refine (act_any kd s (s + 1) on nn _ v1 l1 c1 T _ (by exact S.p1) (by exact S.r1) (by exact S.told) S.d1 S.nodup (by omega)).mono ?_; rintro e w5 ⟨t', v', l', c', T', rfl, P⟩; have S5 := S.step1 (act_post_undrew P); have S2 := script_cells S5 (HC.out _ S5.grown)))
          clear S2 a0 a1 a2 e0 e1 e2 e3
          go_wp2_with fail
          go_roundw
          case rel => exact ⟨k + 1, v', v2, l', l2, c', c2, T', by omega, by go_num, by have := P.count; omega, S5⟩
          case measure => simp [intOf]; omega
        · go_wp2_with fail
          go_region_held3 (fun w' => w'.cell? ⟨g, off + k * 3, none⟩ = some (.int .i64 kd) ∧ w'.cell? ⟨g, off + k * 3 + 1, none⟩ = some (.int .i64 on) ∧ w'.cell? ⟨g, off + k * 3 + 2, none⟩ = some (.int .i64 nn) ∧ w'.cell? ⟨s + 4, 0, none⟩ = some (.pointer (some ⟨s, 0, none⟩)) ∧ w'.cell? ⟨s + 4, 1, none⟩ = some (.pointer (some ⟨s + 1, 0, none⟩)) ∧ w'.cell? ⟨s + 4, 2, none⟩ = some (.pointer (some ⟨s + 2, 0, none⟩)) ∧ w'.cell? ⟨s + 4, 3, none⟩ = some (.pointer (some ⟨s + 3, 0, none⟩))) (first | exact S2.1 | (simp [*]; done)) ((go_at_call 9; refine (act_any kd (s + 2) (s + 3) on nn _ v2 l2 c2 T _ (by exact S.p2) (by exact S.r2) (by exact S.told) S.d2 S.nodup (by omega)).mono ?_; rintro e w5 ⟨t', v', l', c', T', rfl, P⟩; have S5 := S.step2 (act_post_undrew P); have S2 := script_cells S5 (HC.out _ S5.grown)))
          clear S2 a0 a1 a2 e0 e1 e2 e3
          go_wp2_with fail
          go_roundw
          case rel => exact ⟨k + 1, v1, v', l1, l', c1, c', T', by omega, by go_num, by have := P.count; omega, S5⟩
          case measure => simp [intOf]; omega
      · have ek : k = n := by omega
        subst ek
        clear HA hlt hk
        obtain ⟨i0, hi, hz0, hz1, hz2⟩ := info_parts Try.info35'
        go_wp2_with fail
        go_loopw [4, 8] (fun t i wr => ∃ (j : Nat) (v1 v2 : Value) (l1 l2 : List Int) (c1 c2 : Bool) (T : List (Nat × Nat)), j ≤ 2 ∧ i = .int .i64 j ∧ T.length ≤ k + j ∧ j ≤ T.length ∧ St w wr s t v1 v2 l1 l2 c1 c2 T) (fun _ i _ => 2 - (intOf i).toNat)
        case atStart => exact ⟨0, _, _, _, _, _, _, T, Nat.zero_le _, rfl, hTk, Nat.zero_le _, S⟩
        case round =>
          clear S hTk
          obtain ⟨j, v1, v2, l1, l2, c1, c2, T, hj, rfl, hTk, hTj, S⟩ := hrel
          by_cases hlt : j < 2
          · have hj01 : j = 0 ∨ j = 1 := by omega
            rcases hj01 with hj0 | hj0
            · subst hj0
              have e0 : wr.cell? ⟨s + 4, 0, none⟩ = some (.pointer (some ⟨s, 0, none⟩)) := block_cell S.both 0
              go_wp2_with fail
              refine (list_log s l1 c1 wr S.p1).mono ?_
              rintro e w5 ⟨rfl, B5, g5⟩
              have k5 := Kept.of_grown g5
              have e1 : w5.cell? ⟨s + 4, 1, none⟩ = some (.pointer (some ⟨s + 1, 0, none⟩)) := k5.cell (block_cell S.both 1) (by simp)
              have hl := S.p1.len
              clear e0
              go_wp2_with fail
              refine (rlist_own (s + 1) v1 l1 c1 w5 (S.r1.kept k5 (by simp) (by simp))).mono ?_
              rintro e w6 ⟨u, rfl, U, g6⟩
              have N6 : IntsAt w6 (.slice (some ⟨wr.heap.size, 0, none⟩) l1.length l1.length) l1 := IntsAt.whole (grown_keep g6 B5 (by simp)) (small_maxLen (by omega))
              have UI := U.ints
              clear e1 U
              generalize hz : wr.heap.size = z at *
              have HZ : Hid (wr.heap.size = z) := hz
              clear hz
              go_wp2_with fail
              refine (same_ints _ _ l1 l1 w6 N6 UI).mono ?_
              rintro e w7 ⟨rfl, n7, hw7⟩
              have g7 := grown_of_drewN hw7
              have K7 : Kept [] w5 w7 := ((Kept.refl [] w5).grow g6).grow g7
              have O7 : w7.ownsRow 0 35 1 u4 T.length (toldCells T) := (S.told.kept (k5.trans K7 (by simp)) (by simp) (by simp)).1
              have hm : 24 * (T.length + 1) ≤ 140737488355328 := by omega
              clear hw7 N6 UI g6 g7
              go_wp2_with (at_builtin; refine wpList_append_lies _ (by rfl) (.tmp 73) (.tmp 75) 30 (by rfl) 0 35 i0 (.slice none 0 0) 1 24 Try.underlying30 hi hz0 hz1 hz2 (by rfl) (by decide) u4 T.length (toldCells T) (by rfl) (O7.alloc _) ⟨w7.heap.size, 0, none⟩ 1 1 [.slice (some ⟨z, 0, none⟩) l1.length l1.length] (by rfl) (by rfl) (cell_one_new _ _ _) (fun x hx => by simp at hx; subst hx; rfl) (by omega) (small_maxLen (by omega)) (by omega) (by omega) (w7.heap.size + 1) (by simp) ?_; intro g9 cap9 w9 oo9 gr9 hat9 hlt9)
              have st9 : Kept (ob u4) w5 w9 := (K7.alloc _).onto gr9
              have hsz := K7.size
              have hat : u4.ownBlock = some g9 ∨ w5.heap.size ≤ g9 := by
                rcases hat9 with h | h
                · exact Or.inl h
                · right; omega
              have hz := HZ.out
              subst hz
              have S9 := S.step1 (act3_close S.p1 S.r1 S.told S.d1 S.nodup (Kept.refl [] wr) g5 B5 st9 hat oo9)
              go_roundw
              case rel => exact ⟨0 + 1, v1, v2, l1, l2, c1, c2, _, by omega, by go_num, len_snoc hTk, by first | (simp; done) | (simp; omega), S9⟩
              case measure => simp [intOf]
            · subst hj0
              have e0 : wr.cell? ⟨s + 4, 2, none⟩ = some (.pointer (some ⟨s + 2, 0, none⟩)) := block_cell S.both 2
              go_wp2_with fail
              refine (list_log (s + 2) l2 c2 wr S.p2).mono ?_
              rintro e w5 ⟨rfl, B5, g5⟩
              have k5 := Kept.of_grown g5
              have e1 : w5.cell? ⟨s + 4, 3, none⟩ = some (.pointer (some ⟨s + 3, 0, none⟩)) := k5.cell (block_cell S.both 3) (by simp)
              have hl := S.p2.len
              clear e0
              go_wp2_with fail
              refine (rlist_own (s + 3) v2 l2 c2 w5 (S.r2.kept k5 (by simp) (by simp))).mono ?_
              rintro e w6 ⟨u, rfl, U, g6⟩
              have N6 : IntsAt w6 (.slice (some ⟨wr.heap.size, 0, none⟩) l2.length l2.length) l2 := IntsAt.whole (grown_keep g6 B5 (by simp)) (small_maxLen (by omega))
              have UI := U.ints
              clear e1 U
              generalize hz : wr.heap.size = z at *
              have HZ : Hid (wr.heap.size = z) := hz
              clear hz
              go_wp2_with fail
              refine (same_ints _ _ l2 l2 w6 N6 UI).mono ?_
              rintro e w7 ⟨rfl, n7, hw7⟩
              have g7 := grown_of_drewN hw7
              have K7 : Kept [] w5 w7 := ((Kept.refl [] w5).grow g6).grow g7
              have O7 : w7.ownsRow 0 35 1 u4 T.length (toldCells T) := (S.told.kept (k5.trans K7 (by simp)) (by simp) (by simp)).1
              have hm : 24 * (T.length + 1) ≤ 140737488355328 := by omega
              clear hw7 N6 UI g6 g7
              go_wp2_with (at_builtin; refine wpList_append_lies _ (by rfl) (.tmp 73) (.tmp 75) 30 (by rfl) 0 35 i0 (.slice none 0 0) 1 24 Try.underlying30 hi hz0 hz1 hz2 (by rfl) (by decide) u4 T.length (toldCells T) (by rfl) (O7.alloc _) ⟨w7.heap.size, 0, none⟩ 1 1 [.slice (some ⟨z, 0, none⟩) l2.length l2.length] (by rfl) (by rfl) (cell_one_new _ _ _) (fun x hx => by simp at hx; subst hx; rfl) (by omega) (small_maxLen (by omega)) (by omega) (by omega) (w7.heap.size + 1) (by simp) ?_; intro g9 cap9 w9 oo9 gr9 hat9 hlt9)
              have st9 : Kept (ob u4) w5 w9 := (K7.alloc _).onto gr9
              have hsz := K7.size
              have hat : u4.ownBlock = some g9 ∨ w5.heap.size ≤ g9 := by
                rcases hat9 with h | h
                · exact Or.inl h
                · right; omega
              have hz := HZ.out
              subst hz
              have S9 := S.step2 (act3_close S.p2 S.r2 S.told S.d2 S.nodup (Kept.refl [] wr) g5 B5 st9 hat oo9)
              go_roundw
              case rel => exact ⟨1 + 1, v1, v2, l1, l2, c1, c2, _, by omega, by go_num, len_snoc hTk, by first | (simp; done) | (simp; omega), S9⟩
              case measure => simp [intOf]
          · have ej : j = 2 := by omega
            subst ej
            obtain ⟨gt, ct, et, _, _⟩ := row_of_own S.told.1 (by omega)
            subst et
            by_cases h40 : (40 : Int) < (T.length : Int)
            · go_wp2
              go_ret
              exact ⟨rfl, S.grown⟩
            · have h40' : decide ((40 : Int) < (T.length : Int)) = false := by simpa using h40
              have h40n : decide (40 < T.length) = false := by simp; omega
              go_wp2_with fail
              refine (apart_any _ T wr S.told (by omega) (by omega) S.nodup).mono ?_
              rintro e w5 ⟨rfl, k5⟩
              go_wp2
              go_ret
              exact ⟨rfl, kept_grown S.grown k5 (fun x hx => by obtain ⟨y, hy, e⟩ := List.mem_map.1 hx; rw [← e]; exact S.bT y hy)⟩
end Go.Proofs.Ytldjfeodeodcmaa
