/-
  The ring the other way round, and what Beaten tells of every number.
-/
import Derived.Test.YtmnkibnbnhjncaaDoorSuit
namespace Go.Proofs.YtmnkibnbnhjncaaDoor
open Go.RowKit Go.Shelf

attribute [local go_sem] Oper.semAt_some

/-- Whom the suit at a place beats. -/
def ringN (x : Fin 6) : Nat := match x.val with
  | 0 => 2
  | 1 => 4
  | 2 => 5
  | 3 => 3
  | 4 => 6
  | _ => 1
/-- The table behind so many suits. -/
def backOf (pre : List (Fin 6)) : Array Value := pre.foldl (fun a x => a.setIfInBounds (ringN x) (.int .u8 (suitV x))) #[.int .u8 0, .int .u8 0, .int .u8 0, .int .u8 0, .int .u8 0, .int .u8 0, .int .u8 0]
theorem backOf_snoc (pre : List (Fin 6)) (x : Fin 6) : backOf (pre ++ [x]) = (backOf pre).setIfInBounds (ringN x) (.int .u8 (suitV x)) := by simp [backOf]
theorem backOf_size (pre : List (Fin 6)) : (backOf pre).size = 7 := by
  have : ∀ (l : List (Fin 6)) (a : Array Value), a.size = 7 → (l.foldl (fun a x => a.setIfInBounds (ringN x) (Value.int .u8 (suitV x))) a).size = 7 := by
    intro l
    induction l with
    | nil => intro a h; exact h
    | cons x l ih => intro a h; exact ih _ (by simpa using h)
  exact this pre _ rfl
theorem backOf_all : backOf (suits 6) = #[.int .u8 0, .int .u8 6, .int .u8 1, .int .u8 4, .int .u8 2, .int .u8 3, .int .u8 5] := by rfl
theorem below_grown' {w w' : World} (h : Below w.heap.size w w') : w.grownBy w' none := ⟨h.os, h.tape, h.output, h.size, fun k hk _ => h.block k hk⟩
theorem block_kept {W W' : World} {row : Option Nat} {B : Nat} {cs : Array Value} {t : TypeId} (h : W.heap[B]? = some (.cells cs t (0, 0))) (hg : W.grownBy W' row) (hr : ∀ r, row = some r → ∃ o : Obj, W.heap[r]? = some o ∧ o.isCells = false) : W'.heap[B]? = some (.cells cs t (0, 0)) := by
  refine (hg.block B (block_lt h) fun e => ?_).trans h
  obtain ⟨o, ho, hc⟩ := hr B e.symm
  rw [h] at ho; cases ho; cases hc
theorem RingAt.kept {W W' : World} {row : Option Nat} (h : RingAt W) (hg : W.grownBy W' row) (hr : ∀ r, row = some r → ∃ o : Obj, W.heap[r]? = some o ∧ o.isCells = false) : RingAt W' :=
  ⟨cell_kept h.1 hg hr, cell_kept h.2.1 hg hr, cell_kept h.2.2.1 hg hr, cell_kept h.2.2.2.1 hg hr, cell_kept h.2.2.2.2.1 hg hr, cell_kept h.2.2.2.2.2 hg hr⟩
theorem RingAt.lt {W : World} (h : RingAt W) : 1 < W.heap.size := by
  obtain ⟨o, ho, _⟩ := cells_of_cell h.1
  exact block_lt ho
/-- The result's box, the table's box, the ring. -/
def BackAt (B : Nat) (pre : List (Fin 6)) (W : World) : Prop := W.heap[B]? = some (.cells (backOf []) 39 (0, 0)) ∧ W.heap[B + 1]? = some (.cells (backOf pre) 39 (0, 0)) ∧ RingAt W
theorem BackAt.kept {B : Nat} {pre : List (Fin 6)} {W W' : World} {row : Option Nat} (h : BackAt B pre W) (hg : W.grownBy W' row) (hr : ∀ r, row = some r → ∃ o : Obj, W.heap[r]? = some o ∧ o.isCells = false) : BackAt B pre W' :=
  ⟨block_kept h.1 hg hr, block_kept h.2.1 hg hr, h.2.2.kept hg hr⟩
theorem BackAt.step {B : Nat} {pre : List (Fin 6)} {W : World} (x : Fin 6) (n : Nat) (v : Int) (hn : ringN x = n) (hv : suitV x = v) (hB : 1 < B) (h : BackAt B pre W) : BackAt B (pre ++ [x]) (W.setCell ⟨B + 1, n, none⟩ (.int .u8 v)) := by
  subst hn; subst hv
  have g := grown_set W (B + 1) (ringN x) (.int .u8 (suitV x))
  refine ⟨grown_keep g h.1 (by simp), ?_, ⟨g.cell h.2.2.1 (by simp; omega), g.cell h.2.2.2.1 (by simp; omega), g.cell h.2.2.2.2.1 (by simp; omega), g.cell h.2.2.2.2.2.1 (by simp; omega), g.cell h.2.2.2.2.2.2.1 (by simp; omega), g.cell h.2.2.2.2.2.2.2 (by simp; omega)⟩⟩
  rw [backOf_snoc]
  exact block_set h.2.1 _ _
/-- Seven numbers stored into a table. -/
def st7 (W : World) (B : Nat) (a0 a1 a2 a3 a4 a5 a6 : Value) : World := ((((((W.setCell ⟨B, 0, none⟩ a0).setCell ⟨B, 1, none⟩ a1).setCell ⟨B, 2, none⟩ a2).setCell ⟨B, 3, none⟩ a3).setCell ⟨B, 4, none⟩ a4).setCell ⟨B, 5, none⟩ a5).setCell ⟨B, 6, none⟩ a6
theorem st7_block {W : World} {B : Nat} (h : W.heap[B]? = some (.cells (backOf []) 39 (0, 0))) (a0 a1 a2 a3 a4 a5 a6 : Value) : (st7 W B a0 a1 a2 a3 a4 a5 a6).heap[B]? = some (.cells #[a0, a1, a2, a3, a4, a5, a6] 39 (0, 0)) :=
  block_set (block_set (block_set (block_set (block_set (block_set (block_set h 0 a0) 1 a1) 2 a2) 3 a3) 4 a4) 5 a5) 6 a6
theorem st7_keeps (W : World) (B : Nat) (a0 a1 a2 a3 a4 a5 a6 : Value) : KeepsOthers W (st7 W B a0 a1 a2 a3 a4 a5 a6) := ((((((KeepsOthers.setCell _ _ _).trans (KeepsOthers.setCell _ _ _)).trans (KeepsOthers.setCell _ _ _)).trans (KeepsOthers.setCell _ _ _)).trans (KeepsOthers.setCell _ _ _)).trans (KeepsOthers.setCell _ _ _)).trans (KeepsOthers.setCell _ _ _)
theorem st7_below {w W : World} {B : Nat} (h : Below B w W) (a0 a1 a2 a3 a4 a5 a6 : Value) : Below B w (st7 W B a0 a1 a2 a3 a4 a5 a6) :=
  ((((((h.setCell (p := ⟨B, 0, none⟩) (Nat.le_refl _) a0).setCell (p := ⟨B, 1, none⟩) (Nat.le_refl _) a1).setCell (p := ⟨B, 2, none⟩) (Nat.le_refl _) a2).setCell (p := ⟨B, 3, none⟩) (Nat.le_refl _) a3).setCell (p := ⟨B, 4, none⟩) (Nat.le_refl _) a4).setCell (p := ⟨B, 5, none⟩) (Nat.le_refl _) a5).setCell (p := ⟨B, 6, none⟩) (Nat.le_refl _) a6
set_option maxRecDepth 100000 in
set_option maxHeartbeats 2000000 in
theorem back_any (w : World) (N : RingAt w) : Calls Tryd.prog 22 #[] w fun e w' => e = .returned (.agg #[.int .u8 0, .int .u8 6, .int .u8 1, .int .u8 4, .int .u8 2, .int .u8 3, .int .u8 5]) ∧ w.grownBy w' none := by
  refine (callsIn_wide (n := 3)).1 ?_
  refine callsIn_of_wp_marks Tryd.func22 rfl trivial ?_ rfl
  simp only [Tryd.ntmps22, List.size_toArray, List.length_nil, Nat.reduceSub, Array.replicate_succ, Array.replicate_zero, List.push_toArray, List.append_toArray, List.nil_append, List.cons_append]
  gi_wp2_with (refine ⟨trivial, ?_⟩; gi_at_call 18; refine (callsIn_wide.2 (all_any _)).mono ?_; rintro e w' ⟨rfl, rfl⟩)
  have hN1 := N.lt
  obtain ⟨W0, hW0⟩ : ∃ W0, (w.alloc (.cells #[.int .u8 0, .int .u8 0, .int .u8 0, .int .u8 0, .int .u8 0, .int .u8 0, .int .u8 0] 39)).alloc (.cells #[.int .u8 0, .int .u8 0, .int .u8 0, .int .u8 0, .int .u8 0, .int .u8 0, .int .u8 0] 39) = W0 := ⟨_, rfl⟩
  have hs0 : W0.heap.size = w.heap.size + 2 := by rw [← hW0]; simp
  have G0 : w.grownBy W0 none := by rw [← hW0]; exact grown_push (World.grownBy_alloc _ _ _) _
  have b0 : W0.heap[w.heap.size]? = some (.cells (backOf []) 39 (0, 0)) := by
    rw [← hW0]; exact grown_keep (World.grownBy_alloc _ _ none) (alloc_at w _ _) (by simp)
  have b1 : W0.heap[w.heap.size + 1]? = some (.cells (backOf []) 39 (0, 0)) := by
    rw [← hW0]; have := alloc_at (w.alloc (.cells (backOf []) 39)) (backOf []) 39; rw [World.size_alloc] at this; exact this
  have A0 : BackAt w.heap.size [] W0 := ⟨b0, b1, N.keep G0⟩
  have B0 : Below w.heap.size w W0 := grown_below G0
  clear b0 b1 G0
  rw [hW0]
  clear hW0
  refine wpIn_rangeFunc_ownF rfl (by omega) (gf := 26) (lb := #[]) rfl trivial (enters_of Tryd.func26 (by kernel_rfl) rfl) (all_stops Fence.wide _ trivial rfl (by omega) _) (fun _ _ => trivial) (fun _ _ _ _ _ _ _ _ => trivial) (Below.refl _ _) (fun _ => rfl)
    (fun pre W => BackAt w.heap.size pre W ∧ Below w.heap.size w W)
    (fun _ _ _ => False)
    (OwnFrom.and (Own.from (fun _ _ _ _ hs hg hr => hs.kept hg hr) _) (ownFrom_below (Nat.le_refl _) (by omega)))
    (fun _ _ _ _ _ hs _ _ => hs)
    ⟨A0, B0⟩
    (fun x => { tmps := #[.pointer (some ⟨w.heap.size, 0, none⟩), .pointer (some ⟨w.heap.size + 1, 0, none⟩), .int .u8 (suitV x), .func (.func 26) #[] #[], .int .u8 (suitV x), undef, undef, undef, undef, undef, undef], defers := [] }) ?assign ?body ?done ?stop
  case assign =>
    intro l x W K hK
    gi_wp2
    exact hK
  case body =>
    rintro l pre x W ⟨hA, hB⟩ _
    have HA : Hid (BackAt w.heap.size pre W) := hA
    have HB : Hid (Below w.heap.size w W) := hB
    have fz := block_free hA.2.1
    have cl : ∀ i : Nat, i < 7 → ∃ v, W.cell? ⟨w.heap.size + 1, i, none⟩ = some v := fun i hi => ⟨_, (block_cell hA.2.1 i).trans (Array.getElem?_eq_getElem (by rw [backOf_size]; exact hi))⟩
    obtain ⟨_, _, c1, c2, c3, c4, c5, c6⟩ := hA
    clear hB
    rcases fin_six x with rfl | rfl | rfl | rfl | rfl | rfl
    · rw [v0]
      obtain ⟨y, hy⟩ := cl 2 (by omega)
      clear cl
      gi_wp2
      exact ⟨KeepsOthers.setCell _ _ _, trivial, HA.out.step 0 2 1 rfl rfl hN1 , HB.out.setCell (p := ⟨w.heap.size + 1, 2, none⟩) (by simp) _⟩
    · rw [v1]
      obtain ⟨y, hy⟩ := cl 4 (by omega)
      clear cl
      gi_wp2
      exact ⟨KeepsOthers.setCell _ _ _, trivial, HA.out.step 1 4 2 rfl rfl hN1 , HB.out.setCell (p := ⟨w.heap.size + 1, 4, none⟩) (by simp) _⟩
    · rw [v2]
      obtain ⟨y, hy⟩ := cl 5 (by omega)
      clear cl
      gi_wp2
      exact ⟨KeepsOthers.setCell _ _ _, trivial, HA.out.step 2 5 3 rfl rfl hN1 , HB.out.setCell (p := ⟨w.heap.size + 1, 5, none⟩) (by simp) _⟩
    · rw [v3]
      obtain ⟨y, hy⟩ := cl 3 (by omega)
      clear cl
      gi_wp2
      exact ⟨KeepsOthers.setCell _ _ _, trivial, HA.out.step 3 3 4 rfl rfl hN1 , HB.out.setCell (p := ⟨w.heap.size + 1, 3, none⟩) (by simp) _⟩
    · rw [v4]
      obtain ⟨y, hy⟩ := cl 6 (by omega)
      clear cl
      gi_wp2
      exact ⟨KeepsOthers.setCell _ _ _, trivial, HA.out.step 4 6 5 rfl rfl hN1 , HB.out.setCell (p := ⟨w.heap.size + 1, 6, none⟩) (by simp) _⟩
    · rw [v5]
      obtain ⟨y, hy⟩ := cl 1 (by omega)
      clear cl
      gi_wp2
      exact ⟨KeepsOthers.setCell _ _ _, trivial, HA.out.step 5 1 6 rfl rfl hN1 , HB.out.setCell (p := ⟨w.heap.size + 1, 1, none⟩) (by simp) _⟩
  case done =>
    rintro D ys W hD rfl ⟨⟨h0, h1, _⟩, hB⟩ hK
    rw [backOf_all] at h1
    have d0 : W.cell? ⟨w.heap.size + 1, 0, none⟩ = some (.int .u8 0) := block_cell h1 0
    have d1 : W.cell? ⟨w.heap.size + 1, 1, none⟩ = some (.int .u8 6) := block_cell h1 1
    have d2 : W.cell? ⟨w.heap.size + 1, 2, none⟩ = some (.int .u8 1) := block_cell h1 2
    have d3 : W.cell? ⟨w.heap.size + 1, 3, none⟩ = some (.int .u8 4) := block_cell h1 3
    have d4 : W.cell? ⟨w.heap.size + 1, 4, none⟩ = some (.int .u8 2) := block_cell h1 4
    have d5 : W.cell? ⟨w.heap.size + 1, 5, none⟩ = some (.int .u8 3) := block_cell h1 5
    have d6 : W.cell? ⟨w.heap.size + 1, 6, none⟩ = some (.int .u8 5) := block_cell h1 6
    have e0 : W.cell? ⟨w.heap.size, 0, none⟩ = some (.int .u8 0) := block_cell h0 0
    have e1 : W.cell? ⟨w.heap.size, 1, none⟩ = some (.int .u8 0) := block_cell h0 1
    have e2 : W.cell? ⟨w.heap.size, 2, none⟩ = some (.int .u8 0) := block_cell h0 2
    have e3 : W.cell? ⟨w.heap.size, 3, none⟩ = some (.int .u8 0) := block_cell h0 3
    have e4 : W.cell? ⟨w.heap.size, 4, none⟩ = some (.int .u8 0) := block_cell h0 4
    have e5 : W.cell? ⟨w.heap.size, 5, none⟩ = some (.int .u8 0) := block_cell h0 5
    have e6 : W.cell? ⟨w.heap.size, 6, none⟩ = some (.int .u8 0) := block_cell h0 6
    have fz := block_free h0
    have H0 : Hid (W.heap[w.heap.size]? = some (.cells (backOf []) 39 (0, 0))) := h0
    clear h0 h1
    gi_wp2
    clear d0 d1 d2 d3 d4 d5 d6 e0 e1 e2 e3 e4 e5 e6 fz
    change bodyPostM _ _ _ _ _ _ _ (st7 W w.heap.size (.int .u8 0) (.int .u8 6) (.int .u8 1) (.int .u8 4) (.int .u8 2) (.int .u8 3) (.int .u8 5))
    have S7 := st7_block H0.out (.int .u8 0) (.int .u8 6) (.int .u8 1) (.int .u8 4) (.int .u8 2) (.int .u8 3) (.int .u8 5)
    have hK7 := (st7_keeps W w.heap.size (.int .u8 0) (.int .u8 6) (.int .u8 1) (.int .u8 4) (.int .u8 2) (.int .u8 3) (.int .u8 5)).same D _ hK rfl
    have hB7 := st7_below hB (.int .u8 0) (.int .u8 6) (.int .u8 1) (.int .u8 4) (.int .u8 2) (.int .u8 3) (.int .u8 5)
    generalize st7 W w.heap.size (.int .u8 0) (.int .u8 6) (.int .u8 1) (.int .u8 4) (.int .u8 2) (.int .u8 3) (.int .u8 5) = W7 at *
    refine ⟨by simp, .inl ⟨_, _, rfl, run_takeDeferred hK7, ?_⟩⟩
    have S8 := block_kept S7 (grownBy_putObj' _ D (.deferred none)) (fun r e => by cases e; exact ⟨_, hK7, rfl⟩)
    have q0 : (W7.putObj D (.deferred none)).cell? ⟨w.heap.size, 0, none⟩ = some (.int .u8 0) := block_cell S8 0
    have q1 : (W7.putObj D (.deferred none)).cell? ⟨w.heap.size, 1, none⟩ = some (.int .u8 6) := block_cell S8 1
    have q2 : (W7.putObj D (.deferred none)).cell? ⟨w.heap.size, 2, none⟩ = some (.int .u8 1) := block_cell S8 2
    have q3 : (W7.putObj D (.deferred none)).cell? ⟨w.heap.size, 3, none⟩ = some (.int .u8 4) := block_cell S8 3
    have q4 : (W7.putObj D (.deferred none)).cell? ⟨w.heap.size, 4, none⟩ = some (.int .u8 2) := block_cell S8 4
    have q5 : (W7.putObj D (.deferred none)).cell? ⟨w.heap.size, 5, none⟩ = some (.int .u8 3) := block_cell S8 5
    have q6 : (W7.putObj D (.deferred none)).cell? ⟨w.heap.size, 6, none⟩ = some (.int .u8 5) := block_cell S8 6
    refine ⟨.agg #[.int .u8 0, .int .u8 6, .int .u8 1, .int .u8 4, .int .u8 2, .int .u8 3, .int .u8 5], ?_, rfl, below_grown' (hB7.trans (belowK_b (w := w) (Nat.le_refl _) _ D _ _ (by omega) hK7 rfl rfl))⟩
    simp [results, Tryd.f22, go_sem, q0, q1, q2, q3, q4, q5, q6]
  case stop =>
    rintro D c pre W _ _ h _
    exact h.elim
theorem bindex1 (w : World) : (Instr.index 39 (.agg #[.int .u8 0, .int .u8 6, .int .u8 1, .int .u8 4, .int .u8 2, .int .u8 3, .int .u8 5]) (.int .u8 1)).run Tryd.prog w = .ok (.int .u8 6) w := by kernel_rfl
theorem bindex2 (w : World) : (Instr.index 39 (.agg #[.int .u8 0, .int .u8 6, .int .u8 1, .int .u8 4, .int .u8 2, .int .u8 3, .int .u8 5]) (.int .u8 2)).run Tryd.prog w = .ok (.int .u8 1) w := by kernel_rfl
theorem bindex3 (w : World) : (Instr.index 39 (.agg #[.int .u8 0, .int .u8 6, .int .u8 1, .int .u8 4, .int .u8 2, .int .u8 3, .int .u8 5]) (.int .u8 3)).run Tryd.prog w = .ok (.int .u8 4) w := by kernel_rfl
theorem bindex4 (w : World) : (Instr.index 39 (.agg #[.int .u8 0, .int .u8 6, .int .u8 1, .int .u8 4, .int .u8 2, .int .u8 3, .int .u8 5]) (.int .u8 4)).run Tryd.prog w = .ok (.int .u8 2) w := by kernel_rfl
theorem bindex5 (w : World) : (Instr.index 39 (.agg #[.int .u8 0, .int .u8 6, .int .u8 1, .int .u8 4, .int .u8 2, .int .u8 3, .int .u8 5]) (.int .u8 5)).run Tryd.prog w = .ok (.int .u8 3) w := by kernel_rfl
theorem bindex6 (w : World) : (Instr.index 39 (.agg #[.int .u8 0, .int .u8 6, .int .u8 1, .int .u8 4, .int .u8 2, .int .u8 3, .int .u8 5]) (.int .u8 6)).run Tryd.prog w = .ok (.int .u8 5) w := by kernel_rfl
set_option maxHeartbeats 1000000 in
theorem beaten_any (k : Int) (w : World) (N : RingAt w) : Calls Tryd.prog 13 #[.int .u8 k] w fun e w' => e = .returned (.int .u8 (sBeaten k)) ∧ w.grownBy w' none := by
  have i1 := bindex1
  have i2 := bindex2
  have i3 := bindex3
  have i4 := bindex4
  have i5 := bindex5
  have i6 := bindex6
  rcases six_or k with h | h
  · rcases h with rfl | rfl | rfl | rfl | rfl | rfl
    all_goals
      go_enter Tryd.func13, Tryd.ntmps13
      go_wp2_with fail
      refine (isSuit_yes _ (by omega) (by omega) _).mono ?_
      rintro e w1 ⟨rfl, rfl⟩
      go_wp2_with fail
      refine (back_any _ N).mono ?_
      rintro e w2 ⟨rfl, g2⟩
      go_wp2
      go_ret
      exact ⟨rfl, g2⟩
  · rw [(six_no k h).2.2.1]
    go_enter Tryd.func13, Tryd.ntmps13
    go_wp2_with fail
    refine (isSuit_no _ h _).mono ?_
    rintro e w1 ⟨rfl, rfl⟩
    go_wp2
    go_ret
    exact ⟨rfl, grown_refl _ _⟩
end Go.Proofs.YtmnkibnbnhjncaaDoor
