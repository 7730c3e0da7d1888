/-
  What begins all packages: array, Begin, Log of package whole.
-/
import Derived.Test.YtknlcjhcamhfmaaGreatDoorLNoting
import Derived.Laws.EntriesVeiled
import Derived.Laws.Tables
import Derived.Deep.MidRow
import Derived.Great.BuildSlice
namespace Go.Proofs.YtknlcjhcamhfmaaGreatDoor.L
open Go.RowKit

def all24 : List Int := [102, 103, 203, 104, 204, 108, 208, 308, 109, 209, 309, 110, 210, 310, 111, 211, 311, 112, 212, 312, 113, 213, 313, 114]
def cnt : Nat → Nat
  | 0 => 0 | 1 => 1 | 2 => 3 | 3 => 5 | 4 => 8 | 5 => 11 | 6 => 14 | 7 => 17 | 8 => 20 | _ => 23
theorem nts_take (layer : Int) (t k : Nat) (h : k ≤ t) : (nts layer t).take k = nts layer k := by
  unfold nts
  rw [← List.map_take, List.take_range, Nat.min_eq_left h]
theorem seg {l Q : List Int} {c t : Nat} {layer : Int} (hQ : Q.take (c + t) = Q.take c ++ nts layer t) (hc : c + t ≤ Q.length) (hl : l.length ≤ 256) : (l ++ Q.take (min c (256 - l.length))) ++ nts layer (min t (256 - (l ++ Q.take (min c (256 - l.length))).length)) = l ++ Q.take (min (c + t) (256 - l.length)) ∧ min c (256 - l.length) + min t (256 - (l ++ Q.take (min c (256 - l.length))).length) = min (c + t) (256 - l.length) := by
  obtain ⟨r, hr⟩ : ∃ r, r = 256 - l.length := ⟨_, rfl⟩
  have e1 : (l ++ Q.take (min c r)).length = l.length + min c r := by rw [List.length_append, List.length_take]; omega
  rw [← hr, e1]
  have e2 : 256 - (l.length + min c r) = r - min c r := by omega
  rw [e2]
  by_cases h : r ≤ c
  · rw [Nat.min_eq_right h, Nat.min_eq_right (by omega : r ≤ c + t), Nat.sub_self, Nat.min_eq_right (Nat.zero_le _)]
    exact ⟨by simp [nts], rfl⟩
  · rw [Nat.min_eq_left (by omega : c ≤ r)]
    have e3 : min (c + t) r = c + min t (r - c) := by omega
    rw [e3]
    refine ⟨?_, rfl⟩
    have e4 : Q.take (c + min t (r - c)) = Q.take c ++ nts layer (min t (r - c)) := by
      have h1 : Q.take (c + min t (r - c)) = (Q.take (c + t)).take (c + min t (r - c)) := by rw [List.take_take, Nat.min_eq_left (show c + min t (r - c) ≤ c + t by omega)]
      have h2 : (Q.take c).length = c := by rw [List.length_take]; omega
      rw [h1, hQ, List.take_append, h2, List.take_of_length_le (by rw [h2]; omega), show c + min t (r - c) - c = min t (r - c) by omega, nts_take layer t _ (by omega)]
    rw [e4, List.append_assoc]
set_option maxHeartbeats 400000 in
theorem rank_log (b : Nat) (l : List Int) (w : World) (h : LogAt w b l false) : Calls Tryz.prog 156 #[.pointer (some ⟨b, 0, none⟩)] w fun e w' => e = .returned (.int .i64 ((min 1 (256 - l.length) : Nat) : Int)) ∧ LogAt w' b (l ++ nts 2 (min 1 (256 - l.length))) false ∧ w.grownBy w' (some b) := by
  go_enter Tryz.func156, Tryz.ntmps156
  go_wp2_with fail
  refine (in_log b l 2 1 _ h (by omega) (by omega)).mono ?_
  rintro e w1 ⟨rfl, L, g⟩
  obtain ⟨t, ht⟩ : ∃ t, t = min 1 (256 - l.length) := ⟨_, rfl⟩
  have HT : Hid (t = min 1 (256 - l.length)) := ht
  rw [← ht] at L ⊢
  clear ht
  go_wp2
  go_ret
  exact ⟨ret_int (by rw [HT.out]), by rw [← HT.out]; exact L, g⟩
set_option maxHeartbeats 400000 in
theorem rank_ref (p : Option Addr) (w : World) (hN : ∀ n : Int, Calls Tryz.prog 30 #[.pointer p, .int .i64 n] w fun e w' => e = .returned (.int .i64 (-1)) ∧ w' = w) : Calls Tryz.prog 156 #[.pointer p] w fun e w' => e = .returned (.int .i64 0) ∧ w' = w := by
  have HN : Hid (∀ n : Int, Calls Tryz.prog 30 #[.pointer p, .int .i64 n] w fun e w' => e = .returned (.int .i64 (-1)) ∧ w' = w) := hN
  clear hN
  go_enter Tryz.func156, Tryz.ntmps156
  go_wp2_with fail
  refine (in_ref p 2 1 _ HN.out (by omega) (by omega)).mono ?_
  rintro e w1 ⟨rfl, rfl⟩
  go_wp2
  go_ret
  exact ⟨rfl, rfl⟩
set_option maxHeartbeats 400000 in
theorem suit_log (b : Nat) (l : List Int) (w : World) (h : LogAt w b l false) : Calls Tryz.prog 157 #[.pointer (some ⟨b, 0, none⟩)] w fun e w' => e = .returned (.int .i64 ((min 2 (256 - l.length) : Nat) : Int)) ∧ LogAt w' b (l ++ nts 3 (min 2 (256 - l.length))) false ∧ w.grownBy w' (some b) := by
  go_enter Tryz.func157, Tryz.ntmps157
  go_wp2_with fail
  refine (in_log b l 3 2 _ h (by omega) (by omega)).mono ?_
  rintro e w1 ⟨rfl, L, g⟩
  obtain ⟨t, ht⟩ : ∃ t, t = min 2 (256 - l.length) := ⟨_, rfl⟩
  have HT : Hid (t = min 2 (256 - l.length)) := ht
  rw [← ht] at L ⊢
  clear ht
  go_wp2
  go_ret
  exact ⟨ret_int (by rw [HT.out]), by rw [← HT.out]; exact L, g⟩
set_option maxHeartbeats 400000 in
theorem suit_ref (p : Option Addr) (w : World) (hN : ∀ n : Int, Calls Tryz.prog 30 #[.pointer p, .int .i64 n] w fun e w' => e = .returned (.int .i64 (-1)) ∧ w' = w) : Calls Tryz.prog 157 #[.pointer p] w fun e w' => e = .returned (.int .i64 0) ∧ w' = w := by
  have HN : Hid (∀ n : Int, Calls Tryz.prog 30 #[.pointer p, .int .i64 n] w fun e w' => e = .returned (.int .i64 (-1)) ∧ w' = w) := hN
  clear hN
  go_enter Tryz.func157, Tryz.ntmps157
  go_wp2_with fail
  refine (in_ref p 3 2 _ HN.out (by omega) (by omega)).mono ?_
  rintro e w1 ⟨rfl, rfl⟩
  go_wp2
  go_ret
  exact ⟨rfl, rfl⟩
set_option maxHeartbeats 400000 in
theorem trait_log (b : Nat) (l : List Int) (w : World) (h : LogAt w b l false) : Calls Tryz.prog 158 #[.pointer (some ⟨b, 0, none⟩)] w fun e w' => e = .returned (.int .i64 ((min 2 (256 - l.length) : Nat) : Int)) ∧ LogAt w' b (l ++ nts 4 (min 2 (256 - l.length))) false ∧ w.grownBy w' (some b) := by
  go_enter Tryz.func158, Tryz.ntmps158
  go_wp2_with fail
  refine (in_log b l 4 2 _ h (by omega) (by omega)).mono ?_
  rintro e w1 ⟨rfl, L, g⟩
  obtain ⟨t, ht⟩ : ∃ t, t = min 2 (256 - l.length) := ⟨_, rfl⟩
  have HT : Hid (t = min 2 (256 - l.length)) := ht
  rw [← ht] at L ⊢
  clear ht
  go_wp2
  go_ret
  exact ⟨ret_int (by rw [HT.out]), by rw [← HT.out]; exact L, g⟩
set_option maxHeartbeats 400000 in
theorem trait_ref (p : Option Addr) (w : World) (hN : ∀ n : Int, Calls Tryz.prog 30 #[.pointer p, .int .i64 n] w fun e w' => e = .returned (.int .i64 (-1)) ∧ w' = w) : Calls Tryz.prog 158 #[.pointer p] w fun e w' => e = .returned (.int .i64 0) ∧ w' = w := by
  have HN : Hid (∀ n : Int, Calls Tryz.prog 30 #[.pointer p, .int .i64 n] w fun e w' => e = .returned (.int .i64 (-1)) ∧ w' = w) := hN
  clear hN
  go_enter Tryz.func158, Tryz.ntmps158
  go_wp2_with fail
  refine (in_ref p 4 2 _ HN.out (by omega) (by omega)).mono ?_
  rintro e w1 ⟨rfl, rfl⟩
  go_wp2
  go_ret
  exact ⟨rfl, rfl⟩
set_option maxHeartbeats 400000 in
theorem air_log (b : Nat) (l : List Int) (w : World) (h : LogAt w b l false) : Calls Tryz.prog 159 #[.pointer (some ⟨b, 0, none⟩)] w fun e w' => e = .returned (.int .i64 ((min 3 (256 - l.length) : Nat) : Int)) ∧ LogAt w' b (l ++ nts 8 (min 3 (256 - l.length))) false ∧ w.grownBy w' (some b) := by
  go_enter Tryz.func159, Tryz.ntmps159
  go_wp2_with fail
  refine (in_log b l 8 3 _ h (by omega) (by omega)).mono ?_
  rintro e w1 ⟨rfl, L, g⟩
  obtain ⟨t, ht⟩ : ∃ t, t = min 3 (256 - l.length) := ⟨_, rfl⟩
  have HT : Hid (t = min 3 (256 - l.length)) := ht
  rw [← ht] at L ⊢
  clear ht
  go_wp2
  go_ret
  exact ⟨ret_int (by rw [HT.out]), by rw [← HT.out]; exact L, g⟩
set_option maxHeartbeats 400000 in
theorem air_ref (p : Option Addr) (w : World) (hN : ∀ n : Int, Calls Tryz.prog 30 #[.pointer p, .int .i64 n] w fun e w' => e = .returned (.int .i64 (-1)) ∧ w' = w) : Calls Tryz.prog 159 #[.pointer p] w fun e w' => e = .returned (.int .i64 0) ∧ w' = w := by
  have HN : Hid (∀ n : Int, Calls Tryz.prog 30 #[.pointer p, .int .i64 n] w fun e w' => e = .returned (.int .i64 (-1)) ∧ w' = w) := hN
  clear hN
  go_enter Tryz.func159, Tryz.ntmps159
  go_wp2_with fail
  refine (in_ref p 8 3 _ HN.out (by omega) (by omega)).mono ?_
  rintro e w1 ⟨rfl, rfl⟩
  go_wp2
  go_ret
  exact ⟨rfl, rfl⟩
set_option maxHeartbeats 400000 in
theorem earth_log (b : Nat) (l : List Int) (w : World) (h : LogAt w b l false) : Calls Tryz.prog 160 #[.pointer (some ⟨b, 0, none⟩)] w fun e w' => e = .returned (.int .i64 ((min 3 (256 - l.length) : Nat) : Int)) ∧ LogAt w' b (l ++ nts 9 (min 3 (256 - l.length))) false ∧ w.grownBy w' (some b) := by
  go_enter Tryz.func160, Tryz.ntmps160
  go_wp2_with fail
  refine (in_log b l 9 3 _ h (by omega) (by omega)).mono ?_
  rintro e w1 ⟨rfl, L, g⟩
  obtain ⟨t, ht⟩ : ∃ t, t = min 3 (256 - l.length) := ⟨_, rfl⟩
  have HT : Hid (t = min 3 (256 - l.length)) := ht
  rw [← ht] at L ⊢
  clear ht
  go_wp2
  go_ret
  exact ⟨ret_int (by rw [HT.out]), by rw [← HT.out]; exact L, g⟩
set_option maxHeartbeats 400000 in
theorem earth_ref (p : Option Addr) (w : World) (hN : ∀ n : Int, Calls Tryz.prog 30 #[.pointer p, .int .i64 n] w fun e w' => e = .returned (.int .i64 (-1)) ∧ w' = w) : Calls Tryz.prog 160 #[.pointer p] w fun e w' => e = .returned (.int .i64 0) ∧ w' = w := by
  have HN : Hid (∀ n : Int, Calls Tryz.prog 30 #[.pointer p, .int .i64 n] w fun e w' => e = .returned (.int .i64 (-1)) ∧ w' = w) := hN
  clear hN
  go_enter Tryz.func160, Tryz.ntmps160
  go_wp2_with fail
  refine (in_ref p 9 3 _ HN.out (by omega) (by omega)).mono ?_
  rintro e w1 ⟨rfl, rfl⟩
  go_wp2
  go_ret
  exact ⟨rfl, rfl⟩
set_option maxHeartbeats 400000 in
theorem fire_log (b : Nat) (l : List Int) (w : World) (h : LogAt w b l false) : Calls Tryz.prog 161 #[.pointer (some ⟨b, 0, none⟩)] w fun e w' => e = .returned (.int .i64 ((min 3 (256 - l.length) : Nat) : Int)) ∧ LogAt w' b (l ++ nts 10 (min 3 (256 - l.length))) false ∧ w.grownBy w' (some b) := by
  go_enter Tryz.func161, Tryz.ntmps161
  go_wp2_with fail
  refine (in_log b l 10 3 _ h (by omega) (by omega)).mono ?_
  rintro e w1 ⟨rfl, L, g⟩
  obtain ⟨t, ht⟩ : ∃ t, t = min 3 (256 - l.length) := ⟨_, rfl⟩
  have HT : Hid (t = min 3 (256 - l.length)) := ht
  rw [← ht] at L ⊢
  clear ht
  go_wp2
  go_ret
  exact ⟨ret_int (by rw [HT.out]), by rw [← HT.out]; exact L, g⟩
set_option maxHeartbeats 400000 in
theorem fire_ref (p : Option Addr) (w : World) (hN : ∀ n : Int, Calls Tryz.prog 30 #[.pointer p, .int .i64 n] w fun e w' => e = .returned (.int .i64 (-1)) ∧ w' = w) : Calls Tryz.prog 161 #[.pointer p] w fun e w' => e = .returned (.int .i64 0) ∧ w' = w := by
  have HN : Hid (∀ n : Int, Calls Tryz.prog 30 #[.pointer p, .int .i64 n] w fun e w' => e = .returned (.int .i64 (-1)) ∧ w' = w) := hN
  clear hN
  go_enter Tryz.func161, Tryz.ntmps161
  go_wp2_with fail
  refine (in_ref p 10 3 _ HN.out (by omega) (by omega)).mono ?_
  rintro e w1 ⟨rfl, rfl⟩
  go_wp2
  go_ret
  exact ⟨rfl, rfl⟩
set_option maxHeartbeats 400000 in
theorem water_log (b : Nat) (l : List Int) (w : World) (h : LogAt w b l false) : Calls Tryz.prog 162 #[.pointer (some ⟨b, 0, none⟩)] w fun e w' => e = .returned (.int .i64 ((min 3 (256 - l.length) : Nat) : Int)) ∧ LogAt w' b (l ++ nts 11 (min 3 (256 - l.length))) false ∧ w.grownBy w' (some b) := by
  go_enter Tryz.func162, Tryz.ntmps162
  go_wp2_with fail
  refine (in_log b l 11 3 _ h (by omega) (by omega)).mono ?_
  rintro e w1 ⟨rfl, L, g⟩
  obtain ⟨t, ht⟩ : ∃ t, t = min 3 (256 - l.length) := ⟨_, rfl⟩
  have HT : Hid (t = min 3 (256 - l.length)) := ht
  rw [← ht] at L ⊢
  clear ht
  go_wp2
  go_ret
  exact ⟨ret_int (by rw [HT.out]), by rw [← HT.out]; exact L, g⟩
set_option maxHeartbeats 400000 in
theorem water_ref (p : Option Addr) (w : World) (hN : ∀ n : Int, Calls Tryz.prog 30 #[.pointer p, .int .i64 n] w fun e w' => e = .returned (.int .i64 (-1)) ∧ w' = w) : Calls Tryz.prog 162 #[.pointer p] w fun e w' => e = .returned (.int .i64 0) ∧ w' = w := by
  have HN : Hid (∀ n : Int, Calls Tryz.prog 30 #[.pointer p, .int .i64 n] w fun e w' => e = .returned (.int .i64 (-1)) ∧ w' = w) := hN
  clear hN
  go_enter Tryz.func162, Tryz.ntmps162
  go_wp2_with fail
  refine (in_ref p 11 3 _ HN.out (by omega) (by omega)).mono ?_
  rintro e w1 ⟨rfl, rfl⟩
  go_wp2
  go_ret
  exact ⟨rfl, rfl⟩
set_option maxHeartbeats 400000 in
theorem void_log (b : Nat) (l : List Int) (w : World) (h : LogAt w b l false) : Calls Tryz.prog 163 #[.pointer (some ⟨b, 0, none⟩)] w fun e w' => e = .returned (.int .i64 ((min 3 (256 - l.length) : Nat) : Int)) ∧ LogAt w' b (l ++ nts 12 (min 3 (256 - l.length))) false ∧ w.grownBy w' (some b) := by
  go_enter Tryz.func163, Tryz.ntmps163
  go_wp2_with fail
  refine (in_log b l 12 3 _ h (by omega) (by omega)).mono ?_
  rintro e w1 ⟨rfl, L, g⟩
  obtain ⟨t, ht⟩ : ∃ t, t = min 3 (256 - l.length) := ⟨_, rfl⟩
  have HT : Hid (t = min 3 (256 - l.length)) := ht
  rw [← ht] at L ⊢
  clear ht
  go_wp2
  go_ret
  exact ⟨ret_int (by rw [HT.out]), by rw [← HT.out]; exact L, g⟩
set_option maxHeartbeats 400000 in
theorem void_ref (p : Option Addr) (w : World) (hN : ∀ n : Int, Calls Tryz.prog 30 #[.pointer p, .int .i64 n] w fun e w' => e = .returned (.int .i64 (-1)) ∧ w' = w) : Calls Tryz.prog 163 #[.pointer p] w fun e w' => e = .returned (.int .i64 0) ∧ w' = w := by
  have HN : Hid (∀ n : Int, Calls Tryz.prog 30 #[.pointer p, .int .i64 n] w fun e w' => e = .returned (.int .i64 (-1)) ∧ w' = w) := hN
  clear hN
  go_enter Tryz.func163, Tryz.ntmps163
  go_wp2_with fail
  refine (in_ref p 12 3 _ HN.out (by omega) (by omega)).mono ?_
  rintro e w1 ⟨rfl, rfl⟩
  go_wp2
  go_ret
  exact ⟨rfl, rfl⟩
set_option maxHeartbeats 400000 in
theorem gold_log (b : Nat) (l : List Int) (w : World) (h : LogAt w b l false) : Calls Tryz.prog 164 #[.pointer (some ⟨b, 0, none⟩)] w fun e w' => e = .returned (.int .i64 ((min 3 (256 - l.length) : Nat) : Int)) ∧ LogAt w' b (l ++ nts 13 (min 3 (256 - l.length))) false ∧ w.grownBy w' (some b) := by
  go_enter Tryz.func164, Tryz.ntmps164
  go_wp2_with fail
  refine (in_log b l 13 3 _ h (by omega) (by omega)).mono ?_
  rintro e w1 ⟨rfl, L, g⟩
  obtain ⟨t, ht⟩ : ∃ t, t = min 3 (256 - l.length) := ⟨_, rfl⟩
  have HT : Hid (t = min 3 (256 - l.length)) := ht
  rw [← ht] at L ⊢
  clear ht
  go_wp2
  go_ret
  exact ⟨ret_int (by rw [HT.out]), by rw [← HT.out]; exact L, g⟩
set_option maxHeartbeats 400000 in
theorem gold_ref (p : Option Addr) (w : World) (hN : ∀ n : Int, Calls Tryz.prog 30 #[.pointer p, .int .i64 n] w fun e w' => e = .returned (.int .i64 (-1)) ∧ w' = w) : Calls Tryz.prog 164 #[.pointer p] w fun e w' => e = .returned (.int .i64 0) ∧ w' = w := by
  have HN : Hid (∀ n : Int, Calls Tryz.prog 30 #[.pointer p, .int .i64 n] w fun e w' => e = .returned (.int .i64 (-1)) ∧ w' = w) := hN
  clear hN
  go_enter Tryz.func164, Tryz.ntmps164
  go_wp2_with fail
  refine (in_ref p 13 3 _ HN.out (by omega) (by omega)).mono ?_
  rintro e w1 ⟨rfl, rfl⟩
  go_wp2
  go_ret
  exact ⟨rfl, rfl⟩
def nineA : Array Value := #[.func (.func 156) #[] #[], .func (.func 157) #[] #[], .func (.func 158) #[] #[], .func (.func 159) #[] #[], .func (.func 160) #[] #[], .func (.func 161) #[] #[], .func (.func 162) #[] #[], .func (.func 163) #[] #[], .func (.func 164) #[] #[]]
theorem results_cell_one {fn : Func} {p : Tmp} {ty : TypeId} (h : fn.results = #[.cell p ty]) (tmps : Array Value) (P : Program) (w : World) : (results fn tmps).run P w = ((asAddr (tmps.getD p undef)).run P w).andThen fun a w₁ => (loadVar ty a).run P w₁ := by
  simp only [results, h]
  simp [Sem.run_bind, Result.andThen]
theorem row_range {w : World} {g : Nat} {cs : List Value} {t : TypeId} (h : w.heap[g]? = some (.cells cs.toArray t (0, 0))) : w.rangeAt g 0 cs := fun j v hv => by
  rw [block_cell h, Nat.zero_add]
  simpa using hv
theorem nineA_size : (Tryz.prog.info? 131).map (·.size) = some nineA.size := by kernel_rfl
theorem nineA_one : nineA.all (·.oneCell') = true := by kernel_rfl
set_option maxRecDepth 100000 in
set_option maxHeartbeats 4000000 in
theorem nine_any (w : World) : Calls Tryz.prog 76 #[] w fun e w' => e = .returned (.agg nineA) ∧ w.grownBy w' none := by
  go_enter Tryz.func76, Tryz.ntmps76
  go_wp2_with (refine wpList_store_rowTo rfl 131 (.tmp 0) (.tmp 1) rfl rfl w.heap.size nineA rfl rfl 131 _ (alloc_at _ _ _) nineA_size (by kernel_rfl) nineA_one ?_)
  refine bodyPost_ret (v := .agg nineA) ?_ rfl ⟨rfl, ?_⟩
  · rw [results_cell_one Tryz.results76]
    exact run_loadVar_mid _ w.heap.size 0 131 nineA.toList _ (row_range (setRow_heap _ _ _ _ _ _ (alloc_at _ _ _))) Tryz.underlying131 rfl nineA_size
  · refine grown_own (World.grownBy_alloc _ _ none) (r := some w.heap.size) ⟨rfl, rfl, rfl, by simp, fun i _ hi => setRow_other _ _ i _ (fun e => hi (by rw [e]))⟩ (fun x e => by cases e; exact Nat.le_refl _)
theorem idx_nine (j : Nat) (hj : j < 9) : ∃ f, nineA[j]? = some f ∧ ∀ w, (Instr.index 131 (.agg nineA) (.int .i64 (j : Int))).run Tryz.prog w = .ok f w := by
  rcases (show j = 0 ∨ j = 1 ∨ j = 2 ∨ j = 3 ∨ j = 4 ∨ j = 5 ∨ j = 6 ∨ j = 7 ∨ j = 8 by omega) with rfl | rfl | rfl | rfl | rfl | rfl | rfl | rfl | rfl <;> exact ⟨_, rfl, fun w => by kernel_rfl⟩
theorem step_0 {b : Nat} {l : List Int} {w : World} (hl : l.length ≤ 256) (h : LogAt w b (l ++ all24.take (min (cnt 0) (256 - l.length))) false) : ∃ n2 : Nat, (Calls Tryz.prog 156 #[.pointer (some ⟨b, 0, none⟩)] w fun e w' => e = .returned (.int .i64 (n2 : Int)) ∧ LogAt w' b (l ++ all24.take (min (cnt (0 + 1)) (256 - l.length))) false ∧ w.grownBy w' (some b)) ∧ min (cnt 0) (256 - l.length) + n2 = min (cnt (0 + 1)) (256 - l.length) := by
  obtain ⟨S1, S2⟩ := seg (l := l) (Q := all24) (c := cnt 0) (t := 1) (layer := 2) (by decide) (by decide) hl
  have CB := rank_log b (l ++ all24.take (min (cnt 0) (256 - l.length))) w h
  rw [S1] at CB
  exact ⟨_, CB, S2⟩
theorem step_1 {b : Nat} {l : List Int} {w : World} (hl : l.length ≤ 256) (h : LogAt w b (l ++ all24.take (min (cnt 1) (256 - l.length))) false) : ∃ n2 : Nat, (Calls Tryz.prog 157 #[.pointer (some ⟨b, 0, none⟩)] w fun e w' => e = .returned (.int .i64 (n2 : Int)) ∧ LogAt w' b (l ++ all24.take (min (cnt (1 + 1)) (256 - l.length))) false ∧ w.grownBy w' (some b)) ∧ min (cnt 1) (256 - l.length) + n2 = min (cnt (1 + 1)) (256 - l.length) := by
  obtain ⟨S1, S2⟩ := seg (l := l) (Q := all24) (c := cnt 1) (t := 2) (layer := 3) (by decide) (by decide) hl
  have CB := suit_log b (l ++ all24.take (min (cnt 1) (256 - l.length))) w h
  rw [S1] at CB
  exact ⟨_, CB, S2⟩
theorem step_2 {b : Nat} {l : List Int} {w : World} (hl : l.length ≤ 256) (h : LogAt w b (l ++ all24.take (min (cnt 2) (256 - l.length))) false) : ∃ n2 : Nat, (Calls Tryz.prog 158 #[.pointer (some ⟨b, 0, none⟩)] w fun e w' => e = .returned (.int .i64 (n2 : Int)) ∧ LogAt w' b (l ++ all24.take (min (cnt (2 + 1)) (256 - l.length))) false ∧ w.grownBy w' (some b)) ∧ min (cnt 2) (256 - l.length) + n2 = min (cnt (2 + 1)) (256 - l.length) := by
  obtain ⟨S1, S2⟩ := seg (l := l) (Q := all24) (c := cnt 2) (t := 2) (layer := 4) (by decide) (by decide) hl
  have CB := trait_log b (l ++ all24.take (min (cnt 2) (256 - l.length))) w h
  rw [S1] at CB
  exact ⟨_, CB, S2⟩
theorem step_3 {b : Nat} {l : List Int} {w : World} (hl : l.length ≤ 256) (h : LogAt w b (l ++ all24.take (min (cnt 3) (256 - l.length))) false) : ∃ n2 : Nat, (Calls Tryz.prog 159 #[.pointer (some ⟨b, 0, none⟩)] w fun e w' => e = .returned (.int .i64 (n2 : Int)) ∧ LogAt w' b (l ++ all24.take (min (cnt (3 + 1)) (256 - l.length))) false ∧ w.grownBy w' (some b)) ∧ min (cnt 3) (256 - l.length) + n2 = min (cnt (3 + 1)) (256 - l.length) := by
  obtain ⟨S1, S2⟩ := seg (l := l) (Q := all24) (c := cnt 3) (t := 3) (layer := 8) (by decide) (by decide) hl
  have CB := air_log b (l ++ all24.take (min (cnt 3) (256 - l.length))) w h
  rw [S1] at CB
  exact ⟨_, CB, S2⟩
theorem step_4 {b : Nat} {l : List Int} {w : World} (hl : l.length ≤ 256) (h : LogAt w b (l ++ all24.take (min (cnt 4) (256 - l.length))) false) : ∃ n2 : Nat, (Calls Tryz.prog 160 #[.pointer (some ⟨b, 0, none⟩)] w fun e w' => e = .returned (.int .i64 (n2 : Int)) ∧ LogAt w' b (l ++ all24.take (min (cnt (4 + 1)) (256 - l.length))) false ∧ w.grownBy w' (some b)) ∧ min (cnt 4) (256 - l.length) + n2 = min (cnt (4 + 1)) (256 - l.length) := by
  obtain ⟨S1, S2⟩ := seg (l := l) (Q := all24) (c := cnt 4) (t := 3) (layer := 9) (by decide) (by decide) hl
  have CB := earth_log b (l ++ all24.take (min (cnt 4) (256 - l.length))) w h
  rw [S1] at CB
  exact ⟨_, CB, S2⟩
theorem step_5 {b : Nat} {l : List Int} {w : World} (hl : l.length ≤ 256) (h : LogAt w b (l ++ all24.take (min (cnt 5) (256 - l.length))) false) : ∃ n2 : Nat, (Calls Tryz.prog 161 #[.pointer (some ⟨b, 0, none⟩)] w fun e w' => e = .returned (.int .i64 (n2 : Int)) ∧ LogAt w' b (l ++ all24.take (min (cnt (5 + 1)) (256 - l.length))) false ∧ w.grownBy w' (some b)) ∧ min (cnt 5) (256 - l.length) + n2 = min (cnt (5 + 1)) (256 - l.length) := by
  obtain ⟨S1, S2⟩ := seg (l := l) (Q := all24) (c := cnt 5) (t := 3) (layer := 10) (by decide) (by decide) hl
  have CB := fire_log b (l ++ all24.take (min (cnt 5) (256 - l.length))) w h
  rw [S1] at CB
  exact ⟨_, CB, S2⟩
theorem step_6 {b : Nat} {l : List Int} {w : World} (hl : l.length ≤ 256) (h : LogAt w b (l ++ all24.take (min (cnt 6) (256 - l.length))) false) : ∃ n2 : Nat, (Calls Tryz.prog 162 #[.pointer (some ⟨b, 0, none⟩)] w fun e w' => e = .returned (.int .i64 (n2 : Int)) ∧ LogAt w' b (l ++ all24.take (min (cnt (6 + 1)) (256 - l.length))) false ∧ w.grownBy w' (some b)) ∧ min (cnt 6) (256 - l.length) + n2 = min (cnt (6 + 1)) (256 - l.length) := by
  obtain ⟨S1, S2⟩ := seg (l := l) (Q := all24) (c := cnt 6) (t := 3) (layer := 11) (by decide) (by decide) hl
  have CB := water_log b (l ++ all24.take (min (cnt 6) (256 - l.length))) w h
  rw [S1] at CB
  exact ⟨_, CB, S2⟩
theorem step_7 {b : Nat} {l : List Int} {w : World} (hl : l.length ≤ 256) (h : LogAt w b (l ++ all24.take (min (cnt 7) (256 - l.length))) false) : ∃ n2 : Nat, (Calls Tryz.prog 163 #[.pointer (some ⟨b, 0, none⟩)] w fun e w' => e = .returned (.int .i64 (n2 : Int)) ∧ LogAt w' b (l ++ all24.take (min (cnt (7 + 1)) (256 - l.length))) false ∧ w.grownBy w' (some b)) ∧ min (cnt 7) (256 - l.length) + n2 = min (cnt (7 + 1)) (256 - l.length) := by
  obtain ⟨S1, S2⟩ := seg (l := l) (Q := all24) (c := cnt 7) (t := 3) (layer := 12) (by decide) (by decide) hl
  have CB := void_log b (l ++ all24.take (min (cnt 7) (256 - l.length))) w h
  rw [S1] at CB
  exact ⟨_, CB, S2⟩
theorem step_8 {b : Nat} {l : List Int} {w : World} (hl : l.length ≤ 256) (h : LogAt w b (l ++ all24.take (min (cnt 8) (256 - l.length))) false) : ∃ n2 : Nat, (Calls Tryz.prog 164 #[.pointer (some ⟨b, 0, none⟩)] w fun e w' => e = .returned (.int .i64 (n2 : Int)) ∧ LogAt w' b (l ++ all24.take (min (cnt (8 + 1)) (256 - l.length))) false ∧ w.grownBy w' (some b)) ∧ min (cnt 8) (256 - l.length) + n2 = min (cnt (8 + 1)) (256 - l.length) := by
  obtain ⟨S1, S2⟩ := seg (l := l) (Q := all24) (c := cnt 8) (t := 3) (layer := 13) (by decide) (by decide) hl
  have CB := gold_log b (l ++ all24.take (min (cnt 8) (256 - l.length))) w h
  rw [S1] at CB
  exact ⟨_, CB, S2⟩
theorem step_9 {b : Nat} {l : List Int} {w : World} (hl : l.length ≤ 256) (h : LogAt w b (l ++ all24.take (min (cnt 9) (256 - l.length))) false) : ∃ n2 : Nat, (Calls Tryz.prog 77 #[.pointer (some ⟨b, 0, none⟩), .int .i64 14, .int .i64 1] w fun e w' => e = .returned (.int .i64 (n2 : Int)) ∧ LogAt w' b (l ++ all24.take (min 24 (256 - l.length))) false ∧ w.grownBy w' (some b)) ∧ min (cnt 9) (256 - l.length) + n2 = min 24 (256 - l.length) := by
  obtain ⟨S1, S2⟩ := seg (l := l) (Q := all24) (c := cnt 9) (t := 1) (layer := 14) (by decide) (by decide) hl
  have CB := in_log b (l ++ all24.take (min (cnt 9) (256 - l.length))) 14 1 w h (by omega) (by omega)
  rw [S1] at CB
  exact ⟨_, CB, S2⟩
theorem grown_lift {w w' : World} {r : Option Nat} (h : w.grownBy w' none) : w.grownBy w' r := ⟨h.os, h.tape, h.output, h.size, fun i hi _ => h.block i hi (by simp)⟩
set_option maxRecDepth 100000 in
set_option maxHeartbeats 8000000 in
theorem begin_open (b : Nat) (l : List Int) (w : World) (h : LogAt w b l false) : Calls Tryz.prog 33 #[.pointer (some ⟨b, 0, none⟩)] w fun e w' => e = .returned (.int .i64 ((min 24 (256 - l.length) : Nat) : Int)) ∧ LogAt w' b (l ++ all24.take (min 24 (256 - l.length))) true ∧ w.grownBy w' (some b) := by
  have HL : Hid (LogAt w b l false) := h
  have hl : l.length ≤ 256 := h.len
  clear h
  go_enter Tryz.func33, Tryz.ntmps33
  go_wp2_with fail
  refine (nine_any w).mono ?_
  rintro e W1 ⟨rfl, g1⟩
  have HL1 : Hid (LogAt W1 b l false) := HL.out.keep g1 (by simp)
  have HG1 : Hid (w.grownBy W1 (some b)) := grown_lift g1
  obtain ⟨sx, hsx⟩ : ∃ s, s = nineA := ⟨_, rfl⟩
  rw [← hsx]
  have HS : Hid (sx = nineA) := hsx
  clear hsx g1 HL
  go_wp2_with fail
  go_loopw [3, 7] (fun c i wr => ∃ j : Nat, j ≤ 9 ∧ i = .int .i64 (j : Int) ∧ c = .int .i64 ((min (cnt j) (256 - l.length) : Nat) : Int) ∧ LogAt wr b (l ++ all24.take (min (cnt j) (256 - l.length))) false ∧ w.grownBy wr (some b)) (fun _ i _ => 9 - (intOf i).toNat)
  case atStart => exact ⟨0, Nat.zero_le _, rfl, by simp [cnt], by simpa [cnt] using HL1.out, HG1.out⟩
  case round =>
    clear HL1 HG1
    obtain ⟨j, hj, rfl, rfl, LJ, Gr⟩ := hrel
    obtain ⟨U, hU⟩ : ∃ U, U = wr := ⟨_, rfl⟩
    subst hU
    have HLj : Hid (LogAt U b (l ++ all24.take (min (cnt j) (256 - l.length))) false) := LJ
    have HG : Hid (w.grownBy U (some b)) := Gr
    clear LJ Gr
    rcases (show j = 0 ∨ j = 1 ∨ j = 2 ∨ j = 3 ∨ j = 4 ∨ j = 5 ∨ j = 6 ∨ j = 7 ∨ j = 8 ∨ j = 9 from by omega) with rfl | rfl | rfl | rfl | rfl | rfl | rfl | rfl | rfl | rfl
    · obtain ⟨n2, CB, hs⟩ := step_0 hl HLj.out
      have hix : ∀ W, (Instr.index 131 (.agg sx) (.int .i64 0)).run Tryz.prog W = .ok (.func (.func 156) #[] #[]) W := fun W => by rw [HS.out]; kernel_rfl
      obtain ⟨n1, hn1⟩ : ∃ n, n = min (cnt 0) (256 - l.length) := ⟨_, rfl⟩
      have HSm : Hid (n1 + n2 = min (cnt (0 + 1)) (256 - l.length)) := by rw [hn1]; exact hs
      have hwn : wrap64 ((n1 : Int) + (n2 : Int)) = (n1 : Int) + (n2 : Int) := by have h9 := HSm.out; unfold wrap64; omega
      rw [← hn1, show ((0 : Nat) : Int) = (0 : Int) from rfl]
      clear hs hn1
      go_wp2_with fail
      refine CB.mono ?_
      rintro e U2 ⟨rfl, L2, g2⟩
      have HL2 : Hid (LogAt U2 b (l ++ all24.take (min (cnt (0 + 1)) (256 - l.length))) false) := L2
      have HG2 : Hid (w.grownBy U2 (some b)) := HG.out.trans g2
      clear L2 g2 CB hix
      go_wp2_with fail
      go_roundw
      case rel => exact ⟨0 + 1, by decide, rfl, by first | (rw [← HSm.out]; rfl) | (rw [← HSm.out, hwn]; rfl) | (rw [← HSm.out]; simp), HL2.out, HG2.out⟩
      case measure => decide
    · obtain ⟨n2, CB, hs⟩ := step_1 hl HLj.out
      have hix : ∀ W, (Instr.index 131 (.agg sx) (.int .i64 1)).run Tryz.prog W = .ok (.func (.func 157) #[] #[]) W := fun W => by rw [HS.out]; kernel_rfl
      obtain ⟨n1, hn1⟩ : ∃ n, n = min (cnt 1) (256 - l.length) := ⟨_, rfl⟩
      have HSm : Hid (n1 + n2 = min (cnt (1 + 1)) (256 - l.length)) := by rw [hn1]; exact hs
      have hwn : wrap64 ((n1 : Int) + (n2 : Int)) = (n1 : Int) + (n2 : Int) := by have h9 := HSm.out; unfold wrap64; omega
      rw [← hn1, show ((1 : Nat) : Int) = (1 : Int) from rfl]
      clear hs hn1
      go_wp2_with fail
      refine CB.mono ?_
      rintro e U2 ⟨rfl, L2, g2⟩
      have HL2 : Hid (LogAt U2 b (l ++ all24.take (min (cnt (1 + 1)) (256 - l.length))) false) := L2
      have HG2 : Hid (w.grownBy U2 (some b)) := HG.out.trans g2
      clear L2 g2 CB hix
      go_wp2_with fail
      go_roundw
      case rel => exact ⟨1 + 1, by decide, rfl, by first | (rw [← HSm.out]; rfl) | (rw [← HSm.out, hwn]; rfl) | (rw [← HSm.out]; simp), HL2.out, HG2.out⟩
      case measure => decide
    · obtain ⟨n2, CB, hs⟩ := step_2 hl HLj.out
      have hix : ∀ W, (Instr.index 131 (.agg sx) (.int .i64 2)).run Tryz.prog W = .ok (.func (.func 158) #[] #[]) W := fun W => by rw [HS.out]; kernel_rfl
      obtain ⟨n1, hn1⟩ : ∃ n, n = min (cnt 2) (256 - l.length) := ⟨_, rfl⟩
      have HSm : Hid (n1 + n2 = min (cnt (2 + 1)) (256 - l.length)) := by rw [hn1]; exact hs
      have hwn : wrap64 ((n1 : Int) + (n2 : Int)) = (n1 : Int) + (n2 : Int) := by have h9 := HSm.out; unfold wrap64; omega
      rw [← hn1, show ((2 : Nat) : Int) = (2 : Int) from rfl]
      clear hs hn1
      go_wp2_with fail
      refine CB.mono ?_
      rintro e U2 ⟨rfl, L2, g2⟩
      have HL2 : Hid (LogAt U2 b (l ++ all24.take (min (cnt (2 + 1)) (256 - l.length))) false) := L2
      have HG2 : Hid (w.grownBy U2 (some b)) := HG.out.trans g2
      clear L2 g2 CB hix
      go_wp2_with fail
      go_roundw
      case rel => exact ⟨2 + 1, by decide, rfl, by first | (rw [← HSm.out]; rfl) | (rw [← HSm.out, hwn]; rfl) | (rw [← HSm.out]; simp), HL2.out, HG2.out⟩
      case measure => decide
    · obtain ⟨n2, CB, hs⟩ := step_3 hl HLj.out
      have hix : ∀ W, (Instr.index 131 (.agg sx) (.int .i64 3)).run Tryz.prog W = .ok (.func (.func 159) #[] #[]) W := fun W => by rw [HS.out]; kernel_rfl
      obtain ⟨n1, hn1⟩ : ∃ n, n = min (cnt 3) (256 - l.length) := ⟨_, rfl⟩
      have HSm : Hid (n1 + n2 = min (cnt (3 + 1)) (256 - l.length)) := by rw [hn1]; exact hs
      have hwn : wrap64 ((n1 : Int) + (n2 : Int)) = (n1 : Int) + (n2 : Int) := by have h9 := HSm.out; unfold wrap64; omega
      rw [← hn1, show ((3 : Nat) : Int) = (3 : Int) from rfl]
      clear hs hn1
      go_wp2_with fail
      refine CB.mono ?_
      rintro e U2 ⟨rfl, L2, g2⟩
      have HL2 : Hid (LogAt U2 b (l ++ all24.take (min (cnt (3 + 1)) (256 - l.length))) false) := L2
      have HG2 : Hid (w.grownBy U2 (some b)) := HG.out.trans g2
      clear L2 g2 CB hix
      go_wp2_with fail
      go_roundw
      case rel => exact ⟨3 + 1, by decide, rfl, by first | (rw [← HSm.out]; rfl) | (rw [← HSm.out, hwn]; rfl) | (rw [← HSm.out]; simp), HL2.out, HG2.out⟩
      case measure => decide
    · obtain ⟨n2, CB, hs⟩ := step_4 hl HLj.out
      have hix : ∀ W, (Instr.index 131 (.agg sx) (.int .i64 4)).run Tryz.prog W = .ok (.func (.func 160) #[] #[]) W := fun W => by rw [HS.out]; kernel_rfl
      obtain ⟨n1, hn1⟩ : ∃ n, n = min (cnt 4) (256 - l.length) := ⟨_, rfl⟩
      have HSm : Hid (n1 + n2 = min (cnt (4 + 1)) (256 - l.length)) := by rw [hn1]; exact hs
      have hwn : wrap64 ((n1 : Int) + (n2 : Int)) = (n1 : Int) + (n2 : Int) := by have h9 := HSm.out; unfold wrap64; omega
      rw [← hn1, show ((4 : Nat) : Int) = (4 : Int) from rfl]
      clear hs hn1
      go_wp2_with fail
      refine CB.mono ?_
      rintro e U2 ⟨rfl, L2, g2⟩
      have HL2 : Hid (LogAt U2 b (l ++ all24.take (min (cnt (4 + 1)) (256 - l.length))) false) := L2
      have HG2 : Hid (w.grownBy U2 (some b)) := HG.out.trans g2
      clear L2 g2 CB hix
      go_wp2_with fail
      go_roundw
      case rel => exact ⟨4 + 1, by decide, rfl, by first | (rw [← HSm.out]; rfl) | (rw [← HSm.out, hwn]; rfl) | (rw [← HSm.out]; simp), HL2.out, HG2.out⟩
      case measure => decide
    · obtain ⟨n2, CB, hs⟩ := step_5 hl HLj.out
      have hix : ∀ W, (Instr.index 131 (.agg sx) (.int .i64 5)).run Tryz.prog W = .ok (.func (.func 161) #[] #[]) W := fun W => by rw [HS.out]; kernel_rfl
      obtain ⟨n1, hn1⟩ : ∃ n, n = min (cnt 5) (256 - l.length) := ⟨_, rfl⟩
      have HSm : Hid (n1 + n2 = min (cnt (5 + 1)) (256 - l.length)) := by rw [hn1]; exact hs
      have hwn : wrap64 ((n1 : Int) + (n2 : Int)) = (n1 : Int) + (n2 : Int) := by have h9 := HSm.out; unfold wrap64; omega
      rw [← hn1, show ((5 : Nat) : Int) = (5 : Int) from rfl]
      clear hs hn1
      go_wp2_with fail
      refine CB.mono ?_
      rintro e U2 ⟨rfl, L2, g2⟩
      have HL2 : Hid (LogAt U2 b (l ++ all24.take (min (cnt (5 + 1)) (256 - l.length))) false) := L2
      have HG2 : Hid (w.grownBy U2 (some b)) := HG.out.trans g2
      clear L2 g2 CB hix
      go_wp2_with fail
      go_roundw
      case rel => exact ⟨5 + 1, by decide, rfl, by first | (rw [← HSm.out]; rfl) | (rw [← HSm.out, hwn]; rfl) | (rw [← HSm.out]; simp), HL2.out, HG2.out⟩
      case measure => decide
    · obtain ⟨n2, CB, hs⟩ := step_6 hl HLj.out
      have hix : ∀ W, (Instr.index 131 (.agg sx) (.int .i64 6)).run Tryz.prog W = .ok (.func (.func 162) #[] #[]) W := fun W => by rw [HS.out]; kernel_rfl
      obtain ⟨n1, hn1⟩ : ∃ n, n = min (cnt 6) (256 - l.length) := ⟨_, rfl⟩
      have HSm : Hid (n1 + n2 = min (cnt (6 + 1)) (256 - l.length)) := by rw [hn1]; exact hs
      have hwn : wrap64 ((n1 : Int) + (n2 : Int)) = (n1 : Int) + (n2 : Int) := by have h9 := HSm.out; unfold wrap64; omega
      rw [← hn1, show ((6 : Nat) : Int) = (6 : Int) from rfl]
      clear hs hn1
      go_wp2_with fail
      refine CB.mono ?_
      rintro e U2 ⟨rfl, L2, g2⟩
      have HL2 : Hid (LogAt U2 b (l ++ all24.take (min (cnt (6 + 1)) (256 - l.length))) false) := L2
      have HG2 : Hid (w.grownBy U2 (some b)) := HG.out.trans g2
      clear L2 g2 CB hix
      go_wp2_with fail
      go_roundw
      case rel => exact ⟨6 + 1, by decide, rfl, by first | (rw [← HSm.out]; rfl) | (rw [← HSm.out, hwn]; rfl) | (rw [← HSm.out]; simp), HL2.out, HG2.out⟩
      case measure => decide
    · obtain ⟨n2, CB, hs⟩ := step_7 hl HLj.out
      have hix : ∀ W, (Instr.index 131 (.agg sx) (.int .i64 7)).run Tryz.prog W = .ok (.func (.func 163) #[] #[]) W := fun W => by rw [HS.out]; kernel_rfl
      obtain ⟨n1, hn1⟩ : ∃ n, n = min (cnt 7) (256 - l.length) := ⟨_, rfl⟩
      have HSm : Hid (n1 + n2 = min (cnt (7 + 1)) (256 - l.length)) := by rw [hn1]; exact hs
      have hwn : wrap64 ((n1 : Int) + (n2 : Int)) = (n1 : Int) + (n2 : Int) := by have h9 := HSm.out; unfold wrap64; omega
      rw [← hn1, show ((7 : Nat) : Int) = (7 : Int) from rfl]
      clear hs hn1
      go_wp2_with fail
      refine CB.mono ?_
      rintro e U2 ⟨rfl, L2, g2⟩
      have HL2 : Hid (LogAt U2 b (l ++ all24.take (min (cnt (7 + 1)) (256 - l.length))) false) := L2
      have HG2 : Hid (w.grownBy U2 (some b)) := HG.out.trans g2
      clear L2 g2 CB hix
      go_wp2_with fail
      go_roundw
      case rel => exact ⟨7 + 1, by decide, rfl, by first | (rw [← HSm.out]; rfl) | (rw [← HSm.out, hwn]; rfl) | (rw [← HSm.out]; simp), HL2.out, HG2.out⟩
      case measure => decide
    · obtain ⟨n2, CB, hs⟩ := step_8 hl HLj.out
      have hix : ∀ W, (Instr.index 131 (.agg sx) (.int .i64 8)).run Tryz.prog W = .ok (.func (.func 164) #[] #[]) W := fun W => by rw [HS.out]; kernel_rfl
      obtain ⟨n1, hn1⟩ : ∃ n, n = min (cnt 8) (256 - l.length) := ⟨_, rfl⟩
      have HSm : Hid (n1 + n2 = min (cnt (8 + 1)) (256 - l.length)) := by rw [hn1]; exact hs
      have hwn : wrap64 ((n1 : Int) + (n2 : Int)) = (n1 : Int) + (n2 : Int) := by have h9 := HSm.out; unfold wrap64; omega
      rw [← hn1, show ((8 : Nat) : Int) = (8 : Int) from rfl]
      clear hs hn1
      go_wp2_with fail
      refine CB.mono ?_
      rintro e U2 ⟨rfl, L2, g2⟩
      have HL2 : Hid (LogAt U2 b (l ++ all24.take (min (cnt (8 + 1)) (256 - l.length))) false) := L2
      have HG2 : Hid (w.grownBy U2 (some b)) := HG.out.trans g2
      clear L2 g2 CB hix
      go_wp2_with fail
      go_roundw
      case rel => exact ⟨8 + 1, by decide, rfl, by first | (rw [← HSm.out]; rfl) | (rw [← HSm.out, hwn]; rfl) | (rw [← HSm.out]; simp), HL2.out, HG2.out⟩
      case measure => decide
    · obtain ⟨n2, CB, hs⟩ := step_9 hl HLj.out
      obtain ⟨n1, hn1⟩ : ∃ n, n = min (cnt 9) (256 - l.length) := ⟨_, rfl⟩
      have HSm : Hid (n1 + n2 = min 24 (256 - l.length)) := by rw [hn1]; exact hs
      have hwn : wrap64 ((n1 : Int) + (n2 : Int)) = (n1 : Int) + (n2 : Int) := by have h9 := HSm.out; unfold wrap64; omega
      rw [← hn1, show ((9 : Nat) : Int) = (9 : Int) from rfl]
      clear hs hn1
      go_wp2_with fail
      refine CB.mono ?_
      rintro e U2 ⟨rfl, L2, g2⟩
      have HG2 : Hid (w.grownBy U2 (some b)) := HG.out.trans g2
      have CC := close_log b _ _ _ L2
      clear L2 g2 CB
      go_wp2_with fail
      refine CC.mono ?_
      rintro e U3 ⟨rfl, L3, g3⟩
      have HL3 : Hid (LogAt U3 b (l ++ all24.take (min 24 (256 - l.length))) true) := L3
      have HG3 : Hid (w.grownBy U3 (some b)) := HG2.out.trans g3
      clear L3 g3 CC HG2
      go_wp2
      go_ret
      exact ⟨by first | (rw [← HSm.out]; simp) | (rw [← HSm.out, hwn]; simp), HL3.out, HG3.out⟩
end Go.Proofs.YtknlcjhcamhfmaaGreatDoor.L
