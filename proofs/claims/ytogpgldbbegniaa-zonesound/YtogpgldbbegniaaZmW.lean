/-
  Zones: From's first parts: what is long, both lists copied, may a thing be.
-/
import Derived.Test.YtogpgldbbegniaaZmU
namespace Go.Proofs.Ytogpgldbbegniaa
open Go.RowKit

set_option maxRecDepth 100000 in
set_option maxHeartbeats 4000000 in
theorem areLong_any (p q : Option Addr) (n m c d : Nat) (w : World) : Calls Try.prog 39 #[.agg #[.slice p n c, .slice q m d]] w fun e w' => e = .returned (.bool (decide (2048 < n ∨ 2048 < m))) ∧ w.grownBy w' none := by
  have HG : Hid (∀ o, w.grownBy (w.alloc o) none) := fun o => World.grownBy_alloc _ _ _
  by_cases h1 : 2048 < n
  · have h1' : (2048 : Int) < (n : Int) := by omega
    rw [decide_eq_true (Or.inl h1)]
    clear h1
    go_enter Try.func39, Try.ntmps39
    go_wp2
    go_ret
    exact ⟨rfl, HG.out _⟩
  · have h1' : ¬ (2048 : Int) < (n : Int) := by omega
    by_cases h2 : 2048 < m
    · have h2' : (2048 : Int) < (m : Int) := by omega
      rw [decide_eq_true (Or.inr h2)]
      clear h1 h2
      go_enter Try.func39, Try.ntmps39
      go_wp2
      go_ret
      exact ⟨rfl, HG.out _⟩
    · have h2' : ¬ (2048 : Int) < (m : Int) := by omega
      rw [decide_eq_false (fun h => h.elim h1 h2)]
      clear h1 h2
      go_enter Try.func39, Try.ntmps39
      go_wp2
      go_ret
      exact ⟨rfl, HG.out _⟩
theorem own_lowK {w : World} {base base' e size n : Nat} {v : Value} {xs : List Value} (h : w.ownsRow base e size v n xs) (hb : base' ≤ base) : w.ownsRow base' e size v n xs := by
  refine ⟨h.1, ?_⟩
  rcases h.2 with q | ⟨g, cap, cur, e1, hg, r⟩
  · exact Or.inl q
  · exact Or.inr ⟨g, cap, cur, e1, Nat.le_trans hb hg, r⟩
/-- Both lists, copied. -/
def ObPost (w : World) (l0 l1 : List Int) (e : Ending) (w' : World) : Prop := ∃ a b, e = .returned (.agg #[a, b]) ∧ OwnI w' w.heap.size a l0 ∧ OwnI w' w.heap.size b l1 ∧ Apart2 a b ∧ w.grownBy w' none
set_option maxRecDepth 100000 in
set_option maxHeartbeats 4000000 in
theorem ownBoth_any (v0 v1 : Value) (l0 l1 : List Int) (w : World) (h0 : IntsA w v0 l0) (h1 : IntsA w v1 l1) (b0 : l0.length * 8 ≤ 140737488355328) (b1 : l1.length * 8 ≤ 140737488355328) : Calls Try.prog 41 #[.agg #[v0, v1]] w (ObPost w l0 l1) := by
  obtain ⟨V, hV⟩ : ∃ V, V = (w.alloc (.cells #[v0, v1] 30)).alloc (.cells #[.slice none 0 0, .slice none 0 0] 30) := ⟨_, rfl⟩
  have HV : Hid (V = (w.alloc (.cells #[v0, v1] 30)).alloc (.cells #[.slice none 0 0, .slice none 0 0] 30)) := hV
  obtain ⟨X, hX⟩ : ∃ X, X = w.heap.size := ⟨_, rfl⟩
  have HX : Hid (X = w.heap.size) := hX
  have HG : Hid (w.grownBy V none) := by show w.grownBy V none; rw [hV]; exact grown_push (World.grownBy_alloc _ _ none) _
  have HBx : Hid (V.heap[X]? = some (.cells #[v0, v1] 30 (0, 0))) := by
    show V.heap[X]? = _
    rw [hV, hX]
    exact grown_keep (World.grownBy_alloc _ _ none) (alloc_at _ _ _) (by simp)
  have HBy : Hid (V.heap[X + 1]? = some (.cells #[.slice none 0 0, .slice none 0 0] 30 (0, 0))) := by
    show V.heap[X + 1]? = _
    rw [hV, hX]
    have := alloc_at (w.alloc (.cells #[v0, v1] 30)) #[.slice none 0 0, .slice none 0 0] 30
    rw [World.size_alloc] at this
    exact this
  have C0 := ownI_any v0 l0 V.drew ((h0.keep HG.out).keep (grown_drew V)) b0
  have HI1 : Hid (IntsA w v1 l1) := h1
  have hb : Hid (l1.length * 8 ≤ 140737488355328) := b1
  have hX1 : w.heap.size + 1 = X + 1 := by rw [hX]
  have HSX : Hid (w.heap.size ≤ X ∧ X + 1 < V.heap.size) := ⟨by rw [hX]; exact Nat.le_refl _, block_lt HBy.out⟩
  clear hV hX h0 h1 b0 b1
  go_enter Try.func41, Try.ntmps41
  go_upto_region 1 with fail
  rw [← HV.out, ← HX.out]

  refine wp_region_held_drew (S := fun w' => w'.heap[X]? = some (.cells #[v0, v1] 30 (0, 0))) (by kernel_rfl) (HBx.out) (fun hHeld => ?_)
  refine wpAnyH_take (i := 0) (v := ?_) rfl (by kernel_rfl) (by kernel_rfl) (by kernel_rfl) (fun _ _ _ h => h) (Or.inl ⟨by rfl, ?_⟩) (by assumption) ?_
  rotate_left 1
  · (intro w0 hSw; go_simp; try with_reducible rfl)
  simp only [List.getElem_toArray, List.getElem_cons_zero]
  go_frame
  refine wpAnyH_take (i := 1) (v := ?_) rfl (by kernel_rfl) (by kernel_rfl) (by kernel_rfl) (fun _ _ _ h => h) (Or.inl ⟨by rfl, ?_⟩) (by assumption) ?_
  rotate_left 1
  · (intro w0 hSw; have r0 := (block_cell hSw 0).trans (show _ = some v0 from rfl); have r1 := (block_cell hSw 1).trans (show _ = some v1 from rfl); go_simp; try with_reducible rfl)
  simp only [List.getElem_toArray, List.getElem_cons_zero, List.getElem_cons_succ]
  go_frame
  refine wpAnyH_take (i := 3) (v := ?_) rfl (by kernel_rfl) (by kernel_rfl) (by kernel_rfl) (fun _ _ _ h => h) (Or.inl ⟨by rfl, ?_⟩) (by assumption) ?_
  rotate_left 1
  · (intro w0 hSw; go_simp; try with_reducible rfl)
  simp only [List.getElem_toArray, List.getElem_cons_zero, List.getElem_cons_succ]
  go_frame
  refine wpAnyH_take (i := 4) (v := ?_) rfl (by kernel_rfl) (by kernel_rfl) (by kernel_rfl) (fun _ _ _ h => h) (Or.inl ⟨by rfl, ?_⟩) (by assumption) ?_
  rotate_left 1
  · (intro w0 hSw; have r0 := (block_cell hSw 0).trans (show _ = some v0 from rfl); have r1 := (block_cell hSw 1).trans (show _ = some v1 from rfl); go_simp; try with_reducible rfl)
  simp only [List.getElem_toArray, List.getElem_cons_zero, List.getElem_cons_succ]
  go_frame
  refine wpAnyH_ready (rs := [2]) (by kernel_rfl) (by simp) ?_
  refine AllReadyH.cons rfl (fun K hK => ?_) AllReadyH.nil
  simp only [List.getElem_toArray, List.getElem_cons_zero, List.getElem_cons_succ]
  go_simp
  go_at_call 73
  refine (C0).mono ?_
  rintro e w2 ⟨rfl, o2, g2⟩
  have HO2 : Hid (OwnI w2 V.heap.size (.slice (some ⟨V.heap.size, 0, none⟩) l0.length l0.length) l0) := o2
  have HG2 : Hid (V.grownBy w2 none) := grown_trans (grown_drew V) g2
  have C1 := ownI_any v1 l1 w2 ((HI1.out.keep HG.out).keep HG2.out) hb.out
  clear o2 g2 C0
  refine hK.out _ _ (grown_keep HG2.out HBx.out (by simp)) (fun hHeld2 => ?_)
  clear hK K
  (try go_frame)
  refine wpAnyH_ready (rs := [5]) (by kernel_rfl) (by simp) ?_
  refine AllReadyH.cons rfl (fun K hK => ?_) AllReadyH.nil
  simp only [List.getElem_toArray, List.getElem_cons_zero, List.getElem_cons_succ]
  go_simp
  go_at_call 73
  refine (C1).mono ?_
  rintro e w3 ⟨rfl, o3, g3⟩
  have HO3 : Hid (OwnI w3 w2.heap.size (.slice (some ⟨w2.heap.size, 0, none⟩) l1.length l1.length) l1) := o3
  have HG3 : Hid (w2.grownBy w3 none) := g3
  have HB3 : Hid (w3.heap[X + 1]? = some (.cells #[.slice none 0 0, .slice none 0 0] 30 (0, 0))) := grown_keep (grown_trans HG2.out g3) HBy.out (by simp)
  clear o3 g3 C1
  refine hK.out _ _ (grown_keep (grown_trans HG2.out HG3.out) HBx.out (by simp)) (fun hHeld2 => ?_)
  clear hK K
  (try go_frame)
  refine wpAnyH_take (i := 6) (v := ?_) rfl (by kernel_rfl) (by kernel_rfl) (by kernel_rfl) (fun _ _ _ h => h) (Or.inl ⟨by rfl, ?_⟩) (by assumption) ?_
  rotate_left 1
  · (intro w0 hSw; go_simp; try with_reducible rfl)
  simp only [List.getElem_toArray, List.getElem_cons_zero, List.getElem_cons_succ]
  go_frame
  have k0 := (block_cell HB3.out 0).trans (show _ = some (Value.slice none 0 0) from rfl)
  have k1 := (block_cell HB3.out 1).trans (show _ = some (Value.slice none 0 0) from rfl)
  have f0 := block_free HB3.out 0
  have f1 := block_free HB3.out 1
  have f2 := block_free HB3.out (0 + 1)
  refine wpAnyH_ready (rs := [7]) (by kernel_rfl) (by simp) ?_
  refine AllReadyH.cons rfl (fun K9 hK => ?_) AllReadyH.nil
  simp only [List.getElem_toArray, List.getElem_cons_zero, List.getElem_cons_succ]
  go_simp
  obtain ⟨U, hU⟩ : ∃ U, U = (w3.setCell ⟨X + 1, 0, none⟩ (Value.slice (some ⟨V.heap.size, 0, none⟩) l0.length l0.length)).setCell ⟨X + 1, 1, none⟩ (Value.slice (some ⟨w2.heap.size, 0, none⟩) l1.length l1.length) := ⟨_, rfl⟩
  have HUb : Hid (U.heap[X + 1]? = some (.cells #[(Value.slice (some ⟨V.heap.size, 0, none⟩) l0.length l0.length), (Value.slice (some ⟨w2.heap.size, 0, none⟩) l1.length l1.length)] 30 (0, 0))) := by show U.heap[X + 1]? = _; rw [hU]; exact zc_set (zc_set HB3.out rfl) rfl
  have HGU : Hid (w3.grownBy U (some (X + 1))) := by show w3.grownBy U _; rw [hU]; exact grown_trans (grown_set _ _ _ _) (grown_set _ _ _ _)
  rw [← hU]
  clear hU k0 k1 f0 f1 f2
  refine hK.out _ _ (grown_keep HGU.out (grown_keep (grown_trans HG2.out HG3.out) HBx.out (by simp)) (by intro q; cases q)) (fun hHeld3 => ?_)
  clear hK K9
  (try go_frame)
  refine wpAnyH_done (by kernel_rfl) ?_ _
  have HFin : Hid (ObPost w l0 l1 (.returned (.agg #[(Value.slice (some ⟨V.heap.size, 0, none⟩) l0.length l0.length), (Value.slice (some ⟨w2.heap.size, 0, none⟩) l1.length l1.length)])) U) := by
    have hs2 := HG2.out.size
    have hs := HG.out.size
    have hx := HSX.out
    refine ⟨_, _, rfl, own_lowK (kpt_own (own_grow HO2.out HG3.out) (Kpt.of_grown HGU.out) ?_) hs, own_lowK (kpt_own HO3.out (Kpt.of_grown HGU.out) ?_) (by omega), ?_, grown_own (grown_trans HG.out (grown_trans HG2.out HG3.out)) HGU.out (fun x e => by cases e; omega)⟩
    · intro x q r
      cases q
      have : V.heap.size = X + 1 := by simpa using r
      omega
    · intro x q r
      cases q
      have : w2.heap.size = X + 1 := by simpa using r
      omega
    · intro x q r
      cases q
      have e : w2.heap.size = V.heap.size := by simpa [Value.ownBlock] using r
      have := own_lt HO2.out V.heap.size rfl
      omega
  have k0 := (block_cell HUb.out 0).trans (show _ = some (Value.slice (some ⟨V.heap.size, 0, none⟩) l0.length l0.length) from rfl)
  have k1 := (block_cell HUb.out 1).trans (show _ = some (Value.slice (some ⟨w2.heap.size, 0, none⟩) l1.length l1.length) from rfl)
  clear HO2 HO3 HG2 HG3 HB3 HGU HBx HBy HG HV
  go_wp2

  refine bodyPost_ret (v := .agg #[(Value.slice (some ⟨V.heap.size, 0, none⟩) l0.length l0.length), (Value.slice (some ⟨w2.heap.size, 0, none⟩) l1.length l1.length)]) (by simp [results, Try.results41, go_sem, k0, k1]) rfl HFin.out
end Go.Proofs.Ytogpgldbbegniaa
