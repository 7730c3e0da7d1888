/-
  The law's own walk over All, stopped behind so many: the first so many suits, in memory of its own.
-/
import Derived.Test.YtmnkibnbnhjncaaDoorNames
import Derived.Maps.AppendAt
namespace Go.Proofs.YtmnkibnbnhjncaaDoor
open Go.RowKit Go.Shelf

attribute [local go_sem] Oper.semAt_some

theorem Tryd.info22' : (Tryd.prog.info? 22).map (fun i => (i.zero, i.size, i.bytes)) = some (some (.int .u8 0), 1, 1) := by kernel_rfl
theorem fnil (w : World) : Sem.run Tryd.prog (binOp BinOp.eql 31 (Value.func (Fn.func 26) #[] #[]) Value.nilFunc) w = .ok (.bool false) w := by kernel_rfl
def encV (x : Fin 6) : Value := .int .u8 (suitV x)
set_option maxRecDepth 100000 in
set_option maxHeartbeats 2000000 in
theorem walk_some (m : Nat) (hm : 1 ≤ m) (hm7 : m ≤ 7) (w : World) : Calls Tryd.prog 19 #[.func (.func 26) #[] #[], .int .i64 m] w fun e w' => ∃ v, e = .returned v ∧ w'.ownsRow w.heap.size 22 1 v (min m 6) ((suits (min m 6)).map encV) ∧ w.grownBy w' none := by
  have hm0 : ((m : Int) == 0) = false := by simpa using (show ¬ (m : Int) = 0 by omega)
  obtain ⟨i0, hi, hz0, hz1, hz2⟩ := info_parts Tryd.info22'
  refine (callsIn_wide (n := 3)).1 ?_
  refine callsIn_of_wp_marks Tryd.func19 rfl trivial ?_ rfl
  simp only [Tryd.ntmps19, List.size_toArray, List.length_cons, List.length_nil, Nat.reduceAdd, Nat.reduceSub, Array.replicate_succ, Array.replicate_zero, List.push_toArray, List.append_toArray, List.nil_append, List.cons_append]
  have hfn := fnil
  gi_wp2
  have bM := Boxed.new w 3 (.int .i64 m)
  have bO := Boxed.new (w.alloc (.cells #[.int .i64 m] 3)) 33 (.slice none 0 0)
  rw [World.size_alloc] at bO
  obtain ⟨W0, hW0⟩ : ∃ W0, (w.alloc (.cells #[.int .i64 m] 3)).alloc (.cells #[.slice none 0 0] 33) = W0 := ⟨_, rfl⟩
  have bM0 : Boxed W0 w.heap.size 3 (.int .i64 m) := by rw [← hW0]; exact bM.alloc _
  rw [hW0] at bO
  have hB0 : Below w.heap.size w W0 := by rw [← hW0]; exact ((Below.refl _ w).alloc (Nat.le_refl _) _).alloc (by simp) _
  have hs0 : W0.heap.size = w.heap.size + 2 := by rw [← hW0]; simp
  rw [hW0]
  clear hW0 bM
  refine wpIn_rangeFunc_ownF rfl (by omega) (gf := 26) (lb := #[]) rfl trivial (enters_of Tryd.func26 (by kernel_rfl) rfl) (all_stops Fence.wide _ trivial rfl (by omega) _) (fun _ _ => trivial) (fun _ _ _ _ _ _ _ _ => trivial) (Below.refl _ _) (fun _ => rfl)
    (fun (pre : List (Fin 6)) W => (∃ v, Boxed W (w.heap.size + 1) 33 v ∧ W.ownsRow w.heap.size 22 1 v pre.length (pre.map encV) ∧ pre.length < m) ∧ (Boxed W w.heap.size 3 (.int .i64 m) ∧ Below w.heap.size w W))
    (fun c (pre : List (Fin 6)) W => (∃ v, Boxed W (w.heap.size + 1) 33 v ∧ W.ownsRow w.heap.size 22 1 v pre.length (pre.map encV) ∧ (c = .exit 0 ∧ pre.length = m)) ∧ Below w.heap.size w W)
    (OwnFrom.and (Own.from (holdsRow_own w.heap.size (w.heap.size + 1) 33 22 1 (fun pre : List (Fin 6) => pre.length) (fun pre : List (Fin 6) => pre.map encV) (fun (pre : List (Fin 6)) _ => pre.length < m)) _) (OwnFrom.and (Own.from (boxed_own _ _ (fun _ => _)) _) (ownFrom_below (Nat.le_refl _) (by omega))))
    (fun c => OwnFrom.and (Own.from (holdsRow_own w.heap.size (w.heap.size + 1) 33 22 1 (fun pre : List (Fin 6) => pre.length) (fun pre : List (Fin 6) => pre.map encV) (fun (pre : List (Fin 6)) _ => c = .exit 0 ∧ pre.length = m)) _) (ownFrom_below (Nat.le_refl _) (by omega)))
    ⟨⟨_, bO, World.ownsRow_nil _ _ _ _, by simp; omega⟩, bM0, hB0⟩
    (fun x => { tmps := #[.func (.func 26) #[] #[], .int .i64 m, undef, .pointer (some ⟨w.heap.size, 0, none⟩), .slice none 0 0, .pointer (some ⟨w.heap.size + 1, 0, none⟩), .int .u8 (suitV x), .func (.func 26) #[] #[], .bool false, .bool false, .int .i64 m, .bool false, .bool false, undef, .func (.func 26) #[] #[], .int .u8 (suitV x), undef, undef, undef, undef, undef, undef, undef, undef, undef], defers := [] }) ?assign ?body ?done ?stop
  case assign =>
    intro l x W K hK
    gi_wp2
    exact hK
  case body =>
    rintro l pre x W ⟨⟨v, hv, hrow, hlt⟩, hM, hB⟩ h6
    have hc := hv.cell
    have HM : Hid (Boxed W w.heap.size 3 (.int .i64 m)) := hM
    have hr3 : ∀ (z : Value) (U : World), U.ownsRow w.heap.size 22 1 z (pre.length + 1) (pre.map encV ++ [.int .u8 (suitV x)]) → U.ownsRow w.heap.size 22 1 z (pre ++ [x]).length ((pre ++ [x]).map encV) := fun z U h => by simpa [encV] using h
    by_cases he : pre.length + 1 = m
    · have he' : (((pre.length : Int) + 1) == (m : Int)) = true := by simpa using (show (pre.length : Int) + 1 = m by omega)
      have HE : Hid (pre.length + 1 = m) := he
      clear he
      gi_wp2_with (gi_at_builtin; refine wpListIn_append_own _ rfl _ _ 33 rfl w.heap.size 22 i0 (.int .u8 0) 1 1 Tryd.underlying33 hi hz0 hz1 hz2 rfl (by decide) _ _ _ rfl (hrow.alloc _) ⟨W.heap.size, 0, none⟩ 1 1 [.int .u8 (suitV x)] rfl rfl (cell_one_new _ _ _) (by simp [Value.oneCell']) (by unfold maxLen; omega) (by omega) (by have := hB.size; simp; omega) ?_; intro v' w1 hown' hgrow _; obtain ⟨g', cap', rfl⟩ := ownsRow_succ hown'; obtain ⟨hv1, hv2, hr2, hk2, hb2⟩ := hv.appended (by decide) hrow hB.size (by omega) hown' hgrow; have hc1 := hv1.cell; have hf1 := hv1.frozen; have hc2 := hv2.cell; have hM2 := ((HM.out.alloc _).kept hgrow (HM.out.not_row (by decide) hrow)).kept (grownBy_setCell' w1 (w.heap.size + 1) (.slice (some ⟨g', 0, none⟩) (pre.length + 1) cap')) (by simp); have hcM := hM2.cell)
      exact ⟨hk2, ⟨_, hv2, hr3 _ _ hr2, rfl, by simpa using HE.out⟩, hB.trans hb2⟩
    · have he' : (((pre.length : Int) + 1) == (m : Int)) = false := by simpa using (show ¬ (pre.length : Int) + 1 = m by omega)
      have HE : Hid (¬ pre.length + 1 = m) := he
      clear he
      gi_wp2_with (gi_at_builtin; refine wpListIn_append_own _ rfl _ _ 33 rfl w.heap.size 22 i0 (.int .u8 0) 1 1 Tryd.underlying33 hi hz0 hz1 hz2 rfl (by decide) _ _ _ rfl (hrow.alloc _) ⟨W.heap.size, 0, none⟩ 1 1 [.int .u8 (suitV x)] rfl rfl (cell_one_new _ _ _) (by simp [Value.oneCell']) (by unfold maxLen; omega) (by omega) (by have := hB.size; simp; omega) ?_; intro v' w1 hown' hgrow _; obtain ⟨g', cap', rfl⟩ := ownsRow_succ hown'; obtain ⟨hv1, hv2, hr2, hk2, hb2⟩ := hv.appended (by decide) hrow hB.size (by omega) hown' hgrow; have hc1 := hv1.cell; have hf1 := hv1.frozen; have hc2 := hv2.cell; have hM2 := ((HM.out.alloc _).kept hgrow (HM.out.not_row (by decide) hrow)).kept (grownBy_setCell' w1 (w.heap.size + 1) (.slice (some ⟨g', 0, none⟩) (pre.length + 1) cap')) (by simp); have hcM := hM2.cell)
      exact ⟨hk2, trivial, ⟨_, hv2, hr3 _ _ hr2, by have := HE.out; simp; omega⟩, hM2, hB.trans hb2⟩
  case done =>
    rintro D ys W hD rfl ⟨⟨v, hv, hrow, hlt⟩, hM, hB⟩ hK
    have hc := hv.cell
    have em : min m 6 = 6 := by have : (suits 6).length = 6 := rfl; omega
    gi_wp2
    refine ⟨by simp, .inl ⟨_, _, rfl, run_takeDeferred hK, ?_⟩⟩
    exact ⟨_, results_tmp rfl _ _ _, v, rfl, by rw [em]; exact ownsRow_putObj hrow _ hK rfl, below_grown (hB.trans (belowK_b (w := w) (Nat.le_refl _) W D _ _ (by omega) hK rfl rfl))⟩
  case stop =>
    rintro D c pre W hD ⟨k, hk1, hk6, rfl⟩ ⟨⟨v, hv, hrow, rfl, hlen⟩, hB⟩ hK
    rw [suits_length k hk6] at hlen hrow
    have hc := hv.cell
    have em : min m 6 = k := by omega
    gi_wp2
    refine ⟨by simp, .inl ⟨_, _, rfl, run_takeDeferred hK, ?_⟩⟩
    exact ⟨_, results_tmp rfl _ _ _, v, rfl, by rw [em]; exact ownsRow_putObj hrow _ hK rfl, below_grown (hB.trans (belowK_b (w := w) (Nat.le_refl _) W D _ _ (by omega) hK rfl rfl))⟩
set_option maxHeartbeats 1000000 in
theorem walk_zero (w : World) : Calls Tryd.prog 19 #[.func (.func 26) #[] #[], .int .i64 0] w fun e w' => e = .returned (.slice none 0 0) ∧ w.grownBy w' none := by
  have hfn := fnil
  go_enter Tryd.func19, Tryd.ntmps19
  go_wp2
  go_ret
  exact ⟨rfl, grown_push (World.grownBy_alloc _ _ _) _⟩
/-- A list of the first k suits, in memory. -/
def SuitsAt (w : World) (v : Value) (k : Nat) : Prop := ∃ p cap, v = .slice p k cap ∧ (0 < k → ∃ g, p = some ⟨g, 0, none⟩ ∧ ∀ j, j < k → w.cell? ⟨g, j, none⟩ = some (.int .u8 ((j : Int) + 1)))
theorem SuitsAt.keep {w w' : World} {v : Value} {k : Nat} (h : SuitsAt w v k) (g : w.grownBy w' none) : SuitsAt w' v k := by
  obtain ⟨p, cap, e, hc⟩ := h
  refine ⟨p, cap, e, fun hk => ?_⟩
  obtain ⟨b, hp, hj⟩ := hc hk
  exact ⟨b, hp, fun j hj' => g.cell (hj j hj') (by simp)⟩
theorem suits_at (k j : Nat) (hk : k ≤ 6) (hj : j < k) : ((suits k).map encV)[j]? = some (.int .u8 ((j : Int) + 1)) := by
  rcases (by omega : k = 1 ∨ k = 2 ∨ k = 3 ∨ k = 4 ∨ k = 5 ∨ k = 6) with rfl | rfl | rfl | rfl | rfl | rfl <;> rcases (by omega : j = 0 ∨ j = 1 ∨ j = 2 ∨ j = 3 ∨ j = 4 ∨ j = 5) with rfl | rfl | rfl | rfl | rfl | rfl <;> first | rfl | (exfalso; omega)
theorem suits_of_own {w : World} {base : Nat} {v : Value} {k : Nat} (hk : k ≤ 6) (h : w.ownsRow base 22 1 v k ((suits k).map encV)) : SuitsAt w v k := by
  rcases h.2 with ⟨rfl, rfl⟩ | ⟨g, cap, cur, rfl, _, hb, _, _, _, ht⟩
  · exact ⟨none, 0, rfl, fun h => absurd h (Nat.lt_irrefl _)⟩
  · refine ⟨_, cap, rfl, fun _ => ⟨g, rfl, fun j hj => ?_⟩⟩
    rw [block_cell hb, ← suits_at k j hk hj, ← ht, List.getElem?_take, if_pos (by omega)]
    simp
theorem walk_any (m : Nat) (hm7 : m ≤ 7) (w : World) : Calls Tryd.prog 19 #[.func (.func 26) #[] #[], .int .i64 m] w fun e w' => ∃ v, e = .returned v ∧ SuitsAt w' v (min m 6) ∧ w.grownBy w' none := by
  by_cases h : 1 ≤ m
  · refine (walk_some m h hm7 w).mono ?_
    rintro e w' ⟨v, rfl, ho, g⟩
    exact ⟨v, rfl, suits_of_own (by omega) ho, g⟩
  · obtain rfl : m = 0 := by omega
    refine (walk_zero w).mono ?_
    rintro e w' ⟨rfl, g⟩
    exact ⟨_, rfl, ⟨none, 0, rfl, fun h => absurd h (Nat.lt_irrefl _)⟩, g⟩
end Go.Proofs.YtmnkibnbnhjncaaDoor
