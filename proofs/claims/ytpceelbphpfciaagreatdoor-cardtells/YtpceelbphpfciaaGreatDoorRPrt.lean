/-
  What the document's own Print tells of every part: the same text, or the same error.
-/
import Derived.Test.YtpceelbphpfciaaGreatDoorPrint
import Derived.Test.YtpceelbphpfciaaGreatDoorRChk2
import Derived.Test.YtpceelbphpfciaaGreatDoorRName
namespace Go.Proofs.YtpceelbphpfciaaGreatDoor
open Go.RowKit

def rtabC (ws : List (List UInt8)) : Array Value := (ws.map fun x => Value.string ⟨x.toArray⟩).toArray
def RTab (w : World) (b : Nat) (ws : List (List UInt8)) : Prop := w.heap[b]? = some (.cells (rtabC ws) 9 (0, 0))
theorem RTab.cell {w : World} {b : Nat} {ws : List (List UInt8)} (h : RTab w b ws) {j : Nat} (hj : j < ws.length) : w.cell? ⟨b, j, none⟩ = some (.string ⟨(at1 ws ((j : Int) + 1)).toArray⟩) := by
  rw [block_cell h]
  have e : at1 ws ((j : Int) + 1) = ws[j] := by
    unfold at1
    rw [show ((j : Int) + 1).toNat - 1 = j by omega]
    simp [List.getD, hj]
  rw [e]
  simp [rtabC, hj]
set_option maxHeartbeats 1000000 in
theorem whens_any (w : World) : Calls Tryz.prog 70 #[] w fun e w' => e = .returned (.slice (some ⟨w.heap.size, 0, none⟩) 6 6) ∧ RTab w' w.heap.size whenW ∧ w.grownBy w' none := by
  go_enter Tryz.func70, Tryz.ntmps70
  go_wp2
  go_ret
  exact ⟨rfl, alloc_at _ _ _, World.grownBy_alloc _ _ _⟩
set_option maxHeartbeats 1000000 in
set_option maxRecDepth 100000 in
theorem verbs_any (w : World) : Calls Tryz.prog 71 #[] w fun e w' => e = .returned (.slice (some ⟨w.heap.size, 0, none⟩) 19 19) ∧ RTab w' w.heap.size verbW ∧ w.grownBy w' none := by
  go_enter Tryz.func71, Tryz.ntmps71
  go_wp2
  go_ret
  exact ⟨rfl, alloc_at _ _ _, World.grownBy_alloc _ _ _⟩
set_option maxHeartbeats 1000000 in
set_option maxRecDepth 100000 in
theorem whoms_any (w : World) : Calls Tryz.prog 72 #[] w fun e w' => e = .returned (.slice (some ⟨w.heap.size, 0, none⟩) 10 10) ∧ RTab w' w.heap.size whomW ∧ w.grownBy w' none := by
  go_enter Tryz.func72, Tryz.ntmps72
  go_wp2
  go_ret
  exact ⟨rfl, alloc_at _ _ _, World.grownBy_alloc _ _ _⟩
set_option maxHeartbeats 2000000 in
theorem rprint_no (p : Pt) (hw : p.wf) (h : ¬ chk p = 0) (w : World) : Calls Tryz.prog 33 #[pv p] w fun e w' => e = .returned (.tuple #[.string ⟨#[]⟩, .int .i64 (chk p)]) ∧ w.grownBy w' none := by
  have hn : (chk p != 0) = true := by simpa using h
  have hb : (chk p == 0) = false := by simpa using h
  have hc := rcheck_any p hw (w.alloc (.cells #[.int .u8 p.wn, .int .u8 p.vb, .int .u8 p.wm, .int .i64 p.ct, .int .u8 p.su, .int .u8 p.tr, .int .u8 p.mr, .string p.nm] 29))
  obtain ⟨c, hcc⟩ : ∃ c, c = chk p := ⟨_, rfl⟩
  rw [← hcc] at hn hb hc ⊢
  clear hcc h
  unfold pv at hc ⊢
  go_enter Tryz.func33, Tryz.ntmps33
  go_wp2_with (go_at_call 54; refine hc.mono ?_; rintro e w1 ⟨rfl, g1⟩)
  go_ret2
  exact ⟨rfl, grown_trans (World.grownBy_alloc _ _ _) g1⟩
theorem ret_txt {a b : ByteArray} (h : a = b) : Ending.returned (.tuple #[.string a, .int .i64 0]) = .returned (.tuple #[.string b, .int .i64 0]) := by rw [h]
theorem prt_split (p : Pt) : prt p = at1 whenW p.wn ++ [32] ++ at1 verbW p.vb ++ [32] ++ at1 whomW p.wm ++ ((kinds p.vb p.wm).map fun k => 32 :: tell p k).flatten := by
  have g : ∀ (l : List Nat) (z : List UInt8), Lib.join (z :: l.map (tell p)) [32] = z ++ (l.map fun k => 32 :: tell p k).flatten := by
    intro l
    induction l with
    | nil => intro z; simp [Lib.join_one]
    | cons k r ih =>
      intro z
      rw [List.map_cons, join_cons2, ih]
      simp
  unfold prt wordsOf heads
  rw [List.cons_append, List.cons_append, List.cons_append, List.nil_append, join_cons2, join_cons2, g]
  simp
set_option maxHeartbeats 8000000 in
set_option maxRecDepth 100000 in
theorem rprint_ok (a v m : Nat) (ct su tr mr : Int) (nm : ByteArray) (hwf : Pt.wf ⟨a + 1, v + 1, m + 1, ct, su, tr, mr, nm⟩) (h : chk ⟨a + 1, v + 1, m + 1, ct, su, tr, mr, nm⟩ = 0) (w : World) : Calls Tryz.prog 33 #[pv ⟨a + 1, v + 1, m + 1, ct, su, tr, mr, nm⟩] w fun e w' => e = .returned (.tuple #[.string ⟨(prt ⟨a + 1, v + 1, m + 1, ct, su, tr, mr, nm⟩).toArray⟩, .int .i64 0]) ∧ w.grownBy w' none := by
  have M := may_of h
  have ha : a < 6 := by have := M.wn; simp only at this; omega
  have hv : v < 19 := by have := M.vb; simp only at this; omega
  have hm : m < 10 := by have := M.wm; simp only at this; omega
  have lx := (when_back M.wn).2.2
  have ly := (verb_back M.vb).2.2
  have lz := (whom_back M.wm).2.2
  have HM : Hid (May ⟨a + 1, v + 1, m + 1, ct, su, tr, mr, nm⟩) := M
  have hp := prt_split ⟨a + 1, v + 1, m + 1, ct, su, tr, mr, nm⟩
  simp only at hp
  have hc := rcheck_any ⟨a + 1, v + 1, m + 1, ct, su, tr, mr, nm⟩ hwf (w.alloc (.cells #[.int .u8 (a + 1), .int .u8 (v + 1), .int .u8 (m + 1), .int .i64 ct, .int .u8 su, .int .u8 tr, .int .u8 mr, .string nm] 29))
  rw [h] at hc
  clear M h hwf
  simp only at lx ly lz
  obtain ⟨x, hx⟩ : ∃ x, x = at1 whenW ((a : Int) + 1) := ⟨_, rfl⟩
  obtain ⟨y, hy⟩ : ∃ y, y = at1 verbW ((v : Int) + 1) := ⟨_, rfl⟩
  obtain ⟨z, hz⟩ : ∃ z, z = at1 whomW ((m : Int) + 1) := ⟨_, rfl⟩
  rw [← hx] at lx
  rw [← hy] at ly
  rw [← hz] at lz
  rw [← hx, ← hy, ← hz] at hp
  have HP : Hid (prt ⟨a + 1, v + 1, m + 1, ct, su, tr, mr, nm⟩ = x ++ [32] ++ y ++ [32] ++ z ++ ((kinds ((v : Int) + 1) ((m : Int) + 1)).map fun k => 32 :: tell ⟨a + 1, v + 1, m + 1, ct, su, tr, mr, nm⟩ k).flatten) := hp
  clear hp
  have HX : Hid (x = at1 whenW ((a : Int) + 1)) := hx
  have HY : Hid (y = at1 verbW ((v : Int) + 1)) := hy
  have HZ : Hid (z = at1 whomW ((m : Int) + 1)) := hz
  have hv1 : pv ⟨a + 1, v + 1, m + 1, ct, su, tr, mr, nm⟩ = .agg #[.int .u8 (a + 1), .int .u8 (v + 1), .int .u8 (m + 1), .int .i64 ct, .int .u8 su, .int .u8 tr, .int .u8 mr, .string nm] := rfl
  rw [hv1] at hc ⊢
  clear hx hy hz hv1
  go_enter Tryz.func33, Tryz.ntmps33
  go_wp2_with fail
  refine hc.mono ?_
  rintro e W1 ⟨rfl, g1⟩
  have A1 : PAt W1 w.heap.size ⟨a + 1, v + 1, m + 1, ct, su, tr, mr, nm⟩ := (PAt.new w ⟨a + 1, v + 1, m + 1, ct, su, tr, mr, nm⟩).keep g1
  have G1 := grown_trans (World.grownBy_alloc w _ none) g1
  clear g1 hc
  obtain ⟨c0, c1, c2, c3, c4, c5, c6, c7⟩ := A1.cells
  simp only at c0 c1 c2 c3 c4 c5 c6 c7
  go_wp2_with fail
  have a7 : (a : Int) < 6 := by omega
  have v20 : (v : Int) < 19 := by omega
  have m11 : (m : Int) < 10 := by omega
  have wa : IntKind.u8.wrap (a : Int) = a := IntWalk.u8_in _ (by omega)
  have wv : IntKind.u8.wrap (v : Int) = v := IntWalk.u8_in _ (by omega)
  have wm : IntKind.u8.wrap (m : Int) = m := IntWalk.u8_in _ (by omega)
  have s1 : ¬ 9223372036854775807 < x.length + 1 := by omega
  have s2 : ¬ 9223372036854775807 < x.length + 1 + y.length := by omega
  have s3 : ¬ 9223372036854775807 < x.length + 1 + y.length + 1 := by omega
  have s4 : ¬ 9223372036854775807 < x.length + 1 + y.length + 1 + z.length := by omega
  have HA : Hid (PAt W1 w.heap.size ⟨a + 1, v + 1, m + 1, ct, su, tr, mr, nm⟩) := A1
  have G0 := grown_drew W1
  clear A1 c3 c4 c5 c6 c7
  have S0 : (fun w' : World => (w'.cell? ⟨w.heap.size, 0, none⟩ = some (.int .u8 ((a : Int) + 1)) ∧ w'.cell? ⟨w.heap.size, 1, none⟩ = some (.int .u8 ((v : Int) + 1)) ∧ w'.cell? ⟨w.heap.size, 2, none⟩ = some (.int .u8 ((m : Int) + 1)))) W1.drew := ⟨c0, c1, c2⟩
  refine wp_region_held_drew (S := fun w' => (w'.cell? ⟨w.heap.size, 0, none⟩ = some (.int .u8 ((a : Int) + 1)) ∧ w'.cell? ⟨w.heap.size, 1, none⟩ = some (.int .u8 ((v : Int) + 1)) ∧ w'.cell? ⟨w.heap.size, 2, none⟩ = some (.int .u8 ((m : Int) + 1)))) (by kernel_rfl) S0 (fun hHeld => ?_)
  clear S0
  refine wpAnyH_take (i := 1) (v := ?_) rfl (by kernel_rfl) (by kernel_rfl) (by kernel_rfl) (fun _ _ _ h => h) (Or.inl ⟨by rfl, ?_⟩) (by assumption) ?_
  rotate_left 1
  · (intro w0 hSw; (try dsimp only at hSw); go_simp; try with_reducible rfl)
  simp only [List.getElem_toArray, List.getElem_cons_zero, List.getElem_cons_succ]
  go_frame
  refine wpAnyH_take (i := 2) (v := ?_) rfl (by kernel_rfl) (by kernel_rfl) (by kernel_rfl) (fun _ _ _ h => h) (Or.inl ⟨by rfl, ?_⟩) (by assumption) ?_
  rotate_left 1
  · (intro w0 hSw; (try dsimp only at hSw); go_simp; try with_reducible rfl)
  simp only [List.getElem_toArray, List.getElem_cons_zero, List.getElem_cons_succ]
  go_frame
  refine wpAnyH_take (i := 3) (v := ?_) rfl (by kernel_rfl) (by kernel_rfl) (by kernel_rfl) (fun _ _ _ h => h) (Or.inl ⟨by rfl, ?_⟩) (by assumption) ?_
  rotate_left 1
  · (intro w0 hSw; (try dsimp only at hSw); go_simp; try with_reducible rfl)
  simp only [List.getElem_toArray, List.getElem_cons_zero, List.getElem_cons_succ]
  go_frame
  refine wpAnyH_take (i := 8) (v := ?_) rfl (by kernel_rfl) (by kernel_rfl) (by kernel_rfl) (fun _ _ _ h => h) (Or.inl ⟨by rfl, ?_⟩) (by assumption) ?_
  rotate_left 1
  · (intro w0 hSw; (try dsimp only at hSw); go_simp; try with_reducible rfl)
  simp only [List.getElem_toArray, List.getElem_cons_zero, List.getElem_cons_succ]
  go_frame
  refine wpAnyH_take (i := 9) (v := ?_) rfl (by kernel_rfl) (by kernel_rfl) (by kernel_rfl) (fun _ _ _ h => h) (Or.inl ⟨by rfl, ?_⟩) (by assumption) ?_
  rotate_left 1
  · (intro w0 hSw; (try dsimp only at hSw); go_simp; try with_reducible rfl)
  simp only [List.getElem_toArray, List.getElem_cons_zero, List.getElem_cons_succ]
  go_frame
  refine wpAnyH_take (i := 10) (v := ?_) rfl (by kernel_rfl) (by kernel_rfl) (by kernel_rfl) (fun _ _ _ h => h) (Or.inl ⟨by rfl, ?_⟩) (by assumption) ?_
  rotate_left 1
  · (intro w0 hSw; (try dsimp only at hSw); go_simp; try with_reducible rfl)
  simp only [List.getElem_toArray, List.getElem_cons_zero, List.getElem_cons_succ]
  go_frame
  refine wpAnyH_take (i := 16) (v := ?_) rfl (by kernel_rfl) (by kernel_rfl) (by kernel_rfl) (fun _ _ _ h => h) (Or.inl ⟨by rfl, ?_⟩) (by assumption) ?_
  rotate_left 1
  · (intro w0 hSw; (try dsimp only at hSw); go_simp; try with_reducible rfl)
  simp only [List.getElem_toArray, List.getElem_cons_zero, List.getElem_cons_succ]
  go_frame
  refine wpAnyH_take (i := 17) (v := ?_) rfl (by kernel_rfl) (by kernel_rfl) (by kernel_rfl) (fun _ _ _ h => h) (Or.inl ⟨by rfl, ?_⟩) (by assumption) ?_
  rotate_left 1
  · (intro w0 hSw; (try dsimp only at hSw); go_simp; try with_reducible rfl)
  simp only [List.getElem_toArray, List.getElem_cons_zero, List.getElem_cons_succ]
  go_frame
  refine wpAnyH_take (i := 18) (v := ?_) rfl (by kernel_rfl) (by kernel_rfl) (by kernel_rfl) (fun _ _ _ h => h) (Or.inl ⟨by rfl, ?_⟩) (by assumption) ?_
  rotate_left 1
  · (intro w0 hSw; (try dsimp only at hSw); go_simp; try with_reducible rfl)
  simp only [List.getElem_toArray, List.getElem_cons_zero, List.getElem_cons_succ]
  go_frame
  refine wpAnyH_ready (rs := [0]) (by kernel_rfl) (by simp) ?_
  refine AllReadyH.cons rfl (fun K hK => ?_) AllReadyH.nil
  simp only [List.getElem_toArray, List.getElem_cons_zero]
  go_simp
  go_at_call 70
  refine (whens_any _).mono ?_
  rintro e w3 ⟨rfl, T3, g3⟩
  have G3 : W1.grownBy w3 none := grown_trans G0 g3
  have t3 : w3.cell? ⟨W1.heap.size, a, none⟩ = some (.string ⟨x.toArray⟩) := by rw [HX.out]; exact T3.cell ha
  have K3 : (fun w' : World => (w'.cell? ⟨w.heap.size, 0, none⟩ = some (.int .u8 ((a : Int) + 1)) ∧ w'.cell? ⟨w.heap.size, 1, none⟩ = some (.int .u8 ((v : Int) + 1)) ∧ w'.cell? ⟨w.heap.size, 2, none⟩ = some (.int .u8 ((m : Int) + 1)))) w3 := (HA.out.keep G3).three
  refine hK.out _ _ K3 (fun hHeld2 => ?_)
  clear hK K hHeld T3 g3 hHeld2
  (try go_frame)
  refine wpAnyH_mono (S' := fun w' => w'.cell? ⟨W1.heap.size, a, none⟩ = some (.string ⟨x.toArray⟩) ∧ (w'.cell? ⟨w.heap.size, 0, none⟩ = some (.int .u8 ((a : Int) + 1)) ∧ w'.cell? ⟨w.heap.size, 1, none⟩ = some (.int .u8 ((v : Int) + 1)) ∧ w'.cell? ⟨w.heap.size, 2, none⟩ = some (.int .u8 ((m : Int) + 1)))) (fun _ h => h.2) _ _ _ _ ?_
  have hHeld : (fun w' : World => w'.cell? ⟨W1.heap.size, a, none⟩ = some (.string ⟨x.toArray⟩) ∧ (w'.cell? ⟨w.heap.size, 0, none⟩ = some (.int .u8 ((a : Int) + 1)) ∧ w'.cell? ⟨w.heap.size, 1, none⟩ = some (.int .u8 ((v : Int) + 1)) ∧ w'.cell? ⟨w.heap.size, 2, none⟩ = some (.int .u8 ((m : Int) + 1)))) w3 := ⟨t3, K3⟩
  clear K3
  refine wpAnyH_take (i := 4) (v := ?_) rfl (by kernel_rfl) (by kernel_rfl) (by kernel_rfl) (fun _ _ _ h => h) (Or.inl ⟨by rfl, ?_⟩) (by assumption) ?_
  rotate_left 1
  · (intro w0 hSw; (try dsimp only at hSw); go_simp; try with_reducible rfl)
  simp only [List.getElem_toArray, List.getElem_cons_zero, List.getElem_cons_succ]
  go_frame
  refine wpAnyH_take (i := 5) (v := ?_) rfl (by kernel_rfl) (by kernel_rfl) (by kernel_rfl) (fun _ _ _ h => h) (Or.inl ⟨by rfl, ?_⟩) (by assumption) ?_
  rotate_left 1
  · (intro w0 hSw; (try dsimp only at hSw); go_simp; try with_reducible rfl)
  simp only [List.getElem_toArray, List.getElem_cons_zero, List.getElem_cons_succ]
  go_frame
  refine wpAnyH_take (i := 6) (v := ?_) rfl (by kernel_rfl) (by kernel_rfl) (by kernel_rfl) (fun _ _ _ h => h) (Or.inl ⟨by rfl, ?_⟩) (by assumption) ?_
  rotate_left 1
  · (intro w0 hSw; (try dsimp only at hSw); go_simp; try with_reducible rfl)
  simp only [List.getElem_toArray, List.getElem_cons_zero, List.getElem_cons_succ]
  go_frame
  refine wpAnyH_ready (rs := [7]) (by kernel_rfl) (by simp) ?_
  refine AllReadyH.cons rfl (fun K hK => ?_) AllReadyH.nil
  simp only [List.getElem_toArray, List.getElem_cons_zero, List.getElem_cons_succ]
  go_simp
  go_at_call 71
  refine (verbs_any _).mono ?_
  rintro e w4 ⟨rfl, T4, g4⟩
  have G4 : W1.grownBy w4 none := grown_trans G3 g4
  have t4 : w4.cell? ⟨w3.heap.size, v, none⟩ = some (.string ⟨y.toArray⟩) := by rw [HY.out]; exact T4.cell hv
  have K4 : (fun w' : World => w'.cell? ⟨W1.heap.size, a, none⟩ = some (.string ⟨x.toArray⟩) ∧ (w'.cell? ⟨w.heap.size, 0, none⟩ = some (.int .u8 ((a : Int) + 1)) ∧ w'.cell? ⟨w.heap.size, 1, none⟩ = some (.int .u8 ((v : Int) + 1)) ∧ w'.cell? ⟨w.heap.size, 2, none⟩ = some (.int .u8 ((m : Int) + 1)))) w4 := ⟨g4.cell t3 (by simp), (HA.out.keep G4).three⟩
  refine hK.out _ _ K4 (fun hHeld2 => ?_)
  have t3 := g4.cell t3 (by simp)
  clear hK K hHeld T4 g4 hHeld2
  (try go_frame)
  refine wpAnyH_mono (S' := fun w' => w'.cell? ⟨w3.heap.size, v, none⟩ = some (.string ⟨y.toArray⟩) ∧ (w'.cell? ⟨W1.heap.size, a, none⟩ = some (.string ⟨x.toArray⟩) ∧ (w'.cell? ⟨w.heap.size, 0, none⟩ = some (.int .u8 ((a : Int) + 1)) ∧ w'.cell? ⟨w.heap.size, 1, none⟩ = some (.int .u8 ((v : Int) + 1)) ∧ w'.cell? ⟨w.heap.size, 2, none⟩ = some (.int .u8 ((m : Int) + 1))))) (fun _ h => h.2) _ _ _ _ ?_
  have hHeld : (fun w' : World => w'.cell? ⟨w3.heap.size, v, none⟩ = some (.string ⟨y.toArray⟩) ∧ (w'.cell? ⟨W1.heap.size, a, none⟩ = some (.string ⟨x.toArray⟩) ∧ (w'.cell? ⟨w.heap.size, 0, none⟩ = some (.int .u8 ((a : Int) + 1)) ∧ w'.cell? ⟨w.heap.size, 1, none⟩ = some (.int .u8 ((v : Int) + 1)) ∧ w'.cell? ⟨w.heap.size, 2, none⟩ = some (.int .u8 ((m : Int) + 1))))) w4 := ⟨t4, K4⟩
  clear K4
  refine wpAnyH_take (i := 11) (v := ?_) rfl (by kernel_rfl) (by kernel_rfl) (by kernel_rfl) (fun _ _ _ h => h) (Or.inl ⟨by rfl, ?_⟩) (by assumption) ?_
  rotate_left 1
  · (intro w0 hSw; (try dsimp only at hSw); go_simp; try with_reducible rfl)
  simp only [List.getElem_toArray, List.getElem_cons_zero, List.getElem_cons_succ]
  go_frame
  refine wpAnyH_take (i := 12) (v := ?_) rfl (by kernel_rfl) (by kernel_rfl) (by kernel_rfl) (fun _ _ _ h => h) (Or.inl ⟨by rfl, ?_⟩) (by assumption) ?_
  rotate_left 1
  · (intro w0 hSw; (try dsimp only at hSw); go_simp; try with_reducible rfl)
  simp only [List.getElem_toArray, List.getElem_cons_zero, List.getElem_cons_succ]
  go_frame
  refine wpAnyH_take (i := 13) (v := ?_) rfl (by kernel_rfl) (by kernel_rfl) (by kernel_rfl) (fun _ _ _ h => h) (Or.inl ⟨by rfl, ?_⟩) (by assumption) ?_
  rotate_left 1
  · (intro w0 hSw; (try dsimp only at hSw); go_simp; try with_reducible rfl)
  simp only [List.getElem_toArray, List.getElem_cons_zero, List.getElem_cons_succ]
  go_frame
  refine wpAnyH_take (i := 14) (v := ?_) rfl (by kernel_rfl) (by kernel_rfl) (by kernel_rfl) (fun _ _ _ h => h) (Or.inl ⟨by rfl, ?_⟩) (by assumption) ?_
  rotate_left 1
  · (intro w0 hSw; (try dsimp only at hSw); go_simp; try with_reducible rfl)
  simp only [List.getElem_toArray, List.getElem_cons_zero, List.getElem_cons_succ]
  go_frame
  refine wpAnyH_ready (rs := [15]) (by kernel_rfl) (by simp) ?_
  refine AllReadyH.cons rfl (fun K hK => ?_) AllReadyH.nil
  simp only [List.getElem_toArray, List.getElem_cons_zero, List.getElem_cons_succ]
  go_simp
  go_at_call 72
  refine (whoms_any _).mono ?_
  rintro e w5 ⟨rfl, T5, g5⟩
  have G5 : W1.grownBy w5 none := grown_trans G4 g5
  have t5 : w5.cell? ⟨w4.heap.size, m, none⟩ = some (.string ⟨z.toArray⟩) := by rw [HZ.out]; exact T5.cell hm
  have K5 : (fun w' : World => w'.cell? ⟨w3.heap.size, v, none⟩ = some (.string ⟨y.toArray⟩) ∧ (w'.cell? ⟨W1.heap.size, a, none⟩ = some (.string ⟨x.toArray⟩) ∧ (w'.cell? ⟨w.heap.size, 0, none⟩ = some (.int .u8 ((a : Int) + 1)) ∧ w'.cell? ⟨w.heap.size, 1, none⟩ = some (.int .u8 ((v : Int) + 1)) ∧ w'.cell? ⟨w.heap.size, 2, none⟩ = some (.int .u8 ((m : Int) + 1))))) w5 := ⟨g5.cell t4 (by simp), g5.cell t3 (by simp), (HA.out.keep G5).three⟩
  refine hK.out _ _ K5 (fun hHeld2 => ?_)
  clear hK K hHeld T5 g5 hHeld2
  (try go_frame)
  refine wpAnyH_mono (S' := fun w' => w'.cell? ⟨w4.heap.size, m, none⟩ = some (.string ⟨z.toArray⟩) ∧ (w'.cell? ⟨w3.heap.size, v, none⟩ = some (.string ⟨y.toArray⟩) ∧ (w'.cell? ⟨W1.heap.size, a, none⟩ = some (.string ⟨x.toArray⟩) ∧ (w'.cell? ⟨w.heap.size, 0, none⟩ = some (.int .u8 ((a : Int) + 1)) ∧ w'.cell? ⟨w.heap.size, 1, none⟩ = some (.int .u8 ((v : Int) + 1)) ∧ w'.cell? ⟨w.heap.size, 2, none⟩ = some (.int .u8 ((m : Int) + 1)))))) (fun _ h => h.2) _ _ _ _ ?_
  have hHeld : (fun w' : World => w'.cell? ⟨w4.heap.size, m, none⟩ = some (.string ⟨z.toArray⟩) ∧ (w'.cell? ⟨w3.heap.size, v, none⟩ = some (.string ⟨y.toArray⟩) ∧ (w'.cell? ⟨W1.heap.size, a, none⟩ = some (.string ⟨x.toArray⟩) ∧ (w'.cell? ⟨w.heap.size, 0, none⟩ = some (.int .u8 ((a : Int) + 1)) ∧ w'.cell? ⟨w.heap.size, 1, none⟩ = some (.int .u8 ((v : Int) + 1)) ∧ w'.cell? ⟨w.heap.size, 2, none⟩ = some (.int .u8 ((m : Int) + 1)))))) w5 := ⟨t5, K5⟩
  clear K5
  refine wpAnyH_take (i := 19) (v := ?_) rfl (by kernel_rfl) (by kernel_rfl) (by kernel_rfl) (fun _ _ _ h => h) (Or.inl ⟨by rfl, ?_⟩) (by assumption) ?_
  rotate_left 1
  · (intro w0 hSw; (try dsimp only at hSw); go_simp; try with_reducible rfl)
  simp only [List.getElem_toArray, List.getElem_cons_zero, List.getElem_cons_succ]
  go_frame
  refine wpAnyH_take (i := 20) (v := ?_) rfl (by kernel_rfl) (by kernel_rfl) (by kernel_rfl) (fun _ _ _ h => h) (Or.inl ⟨by rfl, ?_⟩) (by assumption) ?_
  rotate_left 1
  · (intro w0 hSw; (try dsimp only at hSw); go_simp; try with_reducible rfl)
  simp only [List.getElem_toArray, List.getElem_cons_zero, List.getElem_cons_succ]
  go_frame
  refine wpAnyH_take (i := 21) (v := ?_) rfl (by kernel_rfl) (by kernel_rfl) (by kernel_rfl) (fun _ _ _ h => h) (Or.inl ⟨by rfl, ?_⟩) (by assumption) ?_
  rotate_left 1
  · (intro w0 hSw; (try dsimp only at hSw); go_simp; try with_reducible rfl)
  simp only [List.getElem_toArray, List.getElem_cons_zero, List.getElem_cons_succ]
  go_frame
  refine wpAnyH_take (i := 22) (v := ?_) rfl (by kernel_rfl) (by kernel_rfl) (by kernel_rfl) (fun _ _ _ h => h) (Or.inl ⟨by rfl, ?_⟩) (by assumption) ?_
  rotate_left 1
  · (intro w0 hSw; (try dsimp only at hSw); go_simp; try with_reducible rfl)
  simp only [List.getElem_toArray, List.getElem_cons_zero, List.getElem_cons_succ]
  go_frame
  refine wpAnyH_done (by kernel_rfl) ?_ _
  have A6 := HA.out.keep G5
  have G := grown_trans G1 G5
  clear HA G1 G5 hHeld t3 t4 t5 G0 G3 G4 c0 c1 c2
  obtain ⟨T, hT⟩ : ∃ T : ByteArray, T = ({ data := x.toArray } ++ { data := #[32] } ++ { data := y.toArray } ++ { data := #[32] } ++ { data := z.toArray }) := ⟨_, rfl⟩
  rw [← hT]
  have tS : T.size ≤ 60 := by
    rw [hT]
    simp only [ByteArray.size_append]
    simp only [ByteArray.size, List.size_toArray, List.length_cons, List.length_nil]
    omega
  have HT : Hid (T.data = (x ++ [32] ++ y ++ [32] ++ z).toArray) := by
    rw [hT]
    simp [Hid]
  have mC := HM.out.ct
  have mS := HM.out.su
  have mT := HM.out.tr
  have mM := HM.out.mr
  have mN := HM.out.nm
  simp only at mC mS mT mM mN
  clear hT s1 s2 s3 s4 lx ly lz wa wv wm a7 v20 m11 HX HY HZ HM ha hv hm
  cases hC : uC ((v : Int) + 1) with
  | true =>
    cases hS : uS ((v : Int) + 1) ((m : Int) + 1) with
    | true =>
      cases hT : uT ((v : Int) + 1) ((m : Int) + 1) with
      | true =>
        cases hM : uM ((v : Int) + 1) with
        | true =>
          have hN : uN ((v : Int) + 1) = false := by
            simp only [uM, decide_eq_true_eq] at hM
            simp only [uN, decide_eq_false_iff_not]
            omega
          rw [hC] at mC
          simp only [if_true] at mC
          have dC := fun w => digits_any (n := ct) mC w
          have lC := (itoa_facts mC).2.2.1
          rw [hS] at mS
          simp only [if_true] at mS
          have dS := fun w => rsname_any mS w
          have lS := (suit_back mS).2.2
          rw [hT] at mT
          simp only [if_true] at mT
          have dT := fun w => rtname_any tr w
          have lT := (trait_back mT).2.2
          rw [tName_at mT] at dT
          rw [hM] at mM
          simp only [if_true] at mM
          have mM' : -99 ≤ mr ∧ mr ≤ 99 := by omega
          have mMu : IntKind.i64.wrap mr = mr := IntWalk.i64_in _ (by omega)
          have dM := fun w => digits_any (n := mr) mM' w
          have lM := (itoa_facts mM').2.2.1
          rw [hN] at mN
          have z1 : ¬ 9223372036854775807 < T.size + 1 := by omega
          have z2 : ¬ 9223372036854775807 < T.size + 1 + (Lib.itoa ct).length := by omega
          have z3 : ¬ 9223372036854775807 < T.size + 1 + (Lib.itoa ct).length + 1 := by omega
          have z4 : ¬ 9223372036854775807 < T.size + 1 + (Lib.itoa ct).length + 1 + (at1 suitW su).length := by omega
          have z5 : ¬ 9223372036854775807 < T.size + 1 + (Lib.itoa ct).length + 1 + (at1 suitW su).length + 1 := by omega
          have z6 : ¬ 9223372036854775807 < T.size + 1 + (Lib.itoa ct).length + 1 + (at1 suitW su).length + 1 + (at1 traitW tr).length := by omega
          have z7 : ¬ 9223372036854775807 < T.size + 1 + (Lib.itoa ct).length + 1 + (at1 suitW su).length + 1 + (at1 traitW tr).length + 1 := by omega
          have z8 : ¬ 9223372036854775807 < T.size + 1 + (Lib.itoa ct).length + 1 + (at1 suitW su).length + 1 + (at1 traitW tr).length + 1 + (Lib.itoa mr).length := by omega
          clear lC mC
          clear lS mS
          clear lT mT
          clear lM mM
          clear mM'
          clear mN
          obtain ⟨c0, c1, c2, c3, c4, c5, c6, c7⟩ := A6.cells
          simp only at c0 c1 c2 c3 c4 c5 c6 c7
          go_wp2_with (first | (go_at_call 73; refine (ruses_any _ _ _).mono ?_; rintro e w7 ⟨rfl, hw⟩; obtain rfl : w5 = w7 := hw.symm; simp only [usesV]) | fail)
          refine (dC _).mono ?_
          rintro e w9 ⟨rfl, hw⟩
          obtain rfl : w5 = w9 := hw.symm
          go_wp2_with fail
          refine (dS _).mono ?_
          rintro e w9 ⟨rfl, hw⟩
          obtain rfl : w5 = w9 := hw.symm
          go_wp2_with fail
          refine (dT _).mono ?_
          rintro e w8 ⟨rfl, g8⟩
          have A8 := A6.keep g8
          have G8 := grown_trans G g8
          clear A6 G g8 c0 c1 c2 c3 c4 c5 c6 c7
          obtain ⟨c0, c1, c2, c3, c4, c5, c6, c7⟩ := A8.cells
          simp only at c0 c1 c2 c3 c4 c5 c6 c7
          go_wp2_with fail
          refine (dM _).mono ?_
          rintro e w9 ⟨rfl, hw⟩
          obtain rfl : w8 = w9 := hw.symm
          go_wp2_with fail
          go_ret2
          exact ⟨ret_txt (ByteArray.ext (by rw [HP.out]; simp [HT.out, kinds, mark, tell, hC, hS, hT, hM, hN])), G8⟩
        | false =>
          cases hN : uN ((v : Int) + 1) with
          | true =>
            rw [hC] at mC
            simp only [if_true] at mC
            have dC := fun w => digits_any (n := ct) mC w
            have lC := (itoa_facts mC).2.2.1
            rw [hS] at mS
            simp only [if_true] at mS
            have dS := fun w => rsname_any mS w
            have lS := (suit_back mS).2.2
            rw [hT] at mT
            simp only [if_true] at mT
            have dT := fun w => rtname_any tr w
            have lT := (trait_back mT).2.2
            rw [tName_at mT] at dT
            rw [hM] at mM
            rw [hN] at mN
            simp only [if_true] at mN
            have lN := (name_facts mN).2
            have lN' : nm.size ≤ 20 := by rw [Lib.size_eq]; exact lN
            have z1 : ¬ 9223372036854775807 < T.size + 1 := by omega
            have z2 : ¬ 9223372036854775807 < T.size + 1 + (Lib.itoa ct).length := by omega
            have z3 : ¬ 9223372036854775807 < T.size + 1 + (Lib.itoa ct).length + 1 := by omega
            have z4 : ¬ 9223372036854775807 < T.size + 1 + (Lib.itoa ct).length + 1 + (at1 suitW su).length := by omega
            have z5 : ¬ 9223372036854775807 < T.size + 1 + (Lib.itoa ct).length + 1 + (at1 suitW su).length + 1 := by omega
            have z6 : ¬ 9223372036854775807 < T.size + 1 + (Lib.itoa ct).length + 1 + (at1 suitW su).length + 1 + (at1 traitW tr).length := by omega
            have z7 : ¬ 9223372036854775807 < T.size + 1 + (Lib.itoa ct).length + 1 + (at1 suitW su).length + 1 + (at1 traitW tr).length + 1 := by omega
            have z8 : ¬ 9223372036854775807 < T.size + 1 + (Lib.itoa ct).length + 1 + (at1 suitW su).length + 1 + (at1 traitW tr).length + 1 + nm.size := by omega
            clear lC mC
            clear lS mS
            clear lT mT
            clear mM
            clear mN lN lN'
            obtain ⟨c0, c1, c2, c3, c4, c5, c6, c7⟩ := A6.cells
            simp only at c0 c1 c2 c3 c4 c5 c6 c7
            go_wp2_with (first | (go_at_call 73; refine (ruses_any _ _ _).mono ?_; rintro e w7 ⟨rfl, hw⟩; obtain rfl : w5 = w7 := hw.symm; simp only [usesV]) | fail)
            refine (dC _).mono ?_
            rintro e w9 ⟨rfl, hw⟩
            obtain rfl : w5 = w9 := hw.symm
            go_wp2_with fail
            refine (dS _).mono ?_
            rintro e w9 ⟨rfl, hw⟩
            obtain rfl : w5 = w9 := hw.symm
            go_wp2_with fail
            refine (dT _).mono ?_
            rintro e w8 ⟨rfl, g8⟩
            have A8 := A6.keep g8
            have G8 := grown_trans G g8
            clear A6 G g8 c0 c1 c2 c3 c4 c5 c6 c7
            obtain ⟨c0, c1, c2, c3, c4, c5, c6, c7⟩ := A8.cells
            simp only at c0 c1 c2 c3 c4 c5 c6 c7
            go_wp2_with fail
            go_ret2
            exact ⟨ret_txt (ByteArray.ext (by rw [HP.out]; simp [HT.out, kinds, mark, tell, hC, hS, hT, hM, hN])), G8⟩
          | false =>
            rw [hC] at mC
            simp only [if_true] at mC
            have dC := fun w => digits_any (n := ct) mC w
            have lC := (itoa_facts mC).2.2.1
            rw [hS] at mS
            simp only [if_true] at mS
            have dS := fun w => rsname_any mS w
            have lS := (suit_back mS).2.2
            rw [hT] at mT
            simp only [if_true] at mT
            have dT := fun w => rtname_any tr w
            have lT := (trait_back mT).2.2
            rw [tName_at mT] at dT
            rw [hM] at mM
            rw [hN] at mN
            have z1 : ¬ 9223372036854775807 < T.size + 1 := by omega
            have z2 : ¬ 9223372036854775807 < T.size + 1 + (Lib.itoa ct).length := by omega
            have z3 : ¬ 9223372036854775807 < T.size + 1 + (Lib.itoa ct).length + 1 := by omega
            have z4 : ¬ 9223372036854775807 < T.size + 1 + (Lib.itoa ct).length + 1 + (at1 suitW su).length := by omega
            have z5 : ¬ 9223372036854775807 < T.size + 1 + (Lib.itoa ct).length + 1 + (at1 suitW su).length + 1 := by omega
            have z6 : ¬ 9223372036854775807 < T.size + 1 + (Lib.itoa ct).length + 1 + (at1 suitW su).length + 1 + (at1 traitW tr).length := by omega
            clear lC mC
            clear lS mS
            clear lT mT
            clear mM
            clear mN
            obtain ⟨c0, c1, c2, c3, c4, c5, c6, c7⟩ := A6.cells
            simp only at c0 c1 c2 c3 c4 c5 c6 c7
            go_wp2_with (first | (go_at_call 73; refine (ruses_any _ _ _).mono ?_; rintro e w7 ⟨rfl, hw⟩; obtain rfl : w5 = w7 := hw.symm; simp only [usesV]) | fail)
            refine (dC _).mono ?_
            rintro e w9 ⟨rfl, hw⟩
            obtain rfl : w5 = w9 := hw.symm
            go_wp2_with fail
            refine (dS _).mono ?_
            rintro e w9 ⟨rfl, hw⟩
            obtain rfl : w5 = w9 := hw.symm
            go_wp2_with fail
            refine (dT _).mono ?_
            rintro e w8 ⟨rfl, g8⟩
            have A8 := A6.keep g8
            have G8 := grown_trans G g8
            clear A6 G g8 c0 c1 c2 c3 c4 c5 c6 c7
            obtain ⟨c0, c1, c2, c3, c4, c5, c6, c7⟩ := A8.cells
            simp only at c0 c1 c2 c3 c4 c5 c6 c7
            go_wp2_with fail
            go_ret2
            exact ⟨ret_txt (ByteArray.ext (by rw [HP.out]; simp [HT.out, kinds, mark, tell, hC, hS, hT, hM, hN])), G8⟩
      | false =>
        cases hM : uM ((v : Int) + 1) with
        | true =>
          have hN : uN ((v : Int) + 1) = false := by
            simp only [uM, decide_eq_true_eq] at hM
            simp only [uN, decide_eq_false_iff_not]
            omega
          rw [hC] at mC
          simp only [if_true] at mC
          have dC := fun w => digits_any (n := ct) mC w
          have lC := (itoa_facts mC).2.2.1
          rw [hS] at mS
          simp only [if_true] at mS
          have dS := fun w => rsname_any mS w
          have lS := (suit_back mS).2.2
          rw [hT] at mT
          rw [hM] at mM
          simp only [if_true] at mM
          have mM' : -99 ≤ mr ∧ mr ≤ 99 := by omega
          have mMu : IntKind.i64.wrap mr = mr := IntWalk.i64_in _ (by omega)
          have dM := fun w => digits_any (n := mr) mM' w
          have lM := (itoa_facts mM').2.2.1
          rw [hN] at mN
          have z1 : ¬ 9223372036854775807 < T.size + 1 := by omega
          have z2 : ¬ 9223372036854775807 < T.size + 1 + (Lib.itoa ct).length := by omega
          have z3 : ¬ 9223372036854775807 < T.size + 1 + (Lib.itoa ct).length + 1 := by omega
          have z4 : ¬ 9223372036854775807 < T.size + 1 + (Lib.itoa ct).length + 1 + (at1 suitW su).length := by omega
          have z5 : ¬ 9223372036854775807 < T.size + 1 + (Lib.itoa ct).length + 1 + (at1 suitW su).length + 1 := by omega
          have z6 : ¬ 9223372036854775807 < T.size + 1 + (Lib.itoa ct).length + 1 + (at1 suitW su).length + 1 + (Lib.itoa mr).length := by omega
          clear lC mC
          clear lS mS
          clear mT
          clear lM mM
          clear mM'
          clear mN
          obtain ⟨c0, c1, c2, c3, c4, c5, c6, c7⟩ := A6.cells
          simp only at c0 c1 c2 c3 c4 c5 c6 c7
          go_wp2_with (first | (go_at_call 73; refine (ruses_any _ _ _).mono ?_; rintro e w7 ⟨rfl, hw⟩; obtain rfl : w5 = w7 := hw.symm; simp only [usesV]) | fail)
          refine (dC _).mono ?_
          rintro e w9 ⟨rfl, hw⟩
          obtain rfl : w5 = w9 := hw.symm
          go_wp2_with fail
          refine (dS _).mono ?_
          rintro e w9 ⟨rfl, hw⟩
          obtain rfl : w5 = w9 := hw.symm
          go_wp2_with fail
          refine (dM _).mono ?_
          rintro e w9 ⟨rfl, hw⟩
          obtain rfl : w5 = w9 := hw.symm
          go_wp2_with fail
          go_ret2
          exact ⟨ret_txt (ByteArray.ext (by rw [HP.out]; simp [HT.out, kinds, mark, tell, hC, hS, hT, hM, hN])), G⟩
        | false =>
          cases hN : uN ((v : Int) + 1) with
          | true =>
            rw [hC] at mC
            simp only [if_true] at mC
            have dC := fun w => digits_any (n := ct) mC w
            have lC := (itoa_facts mC).2.2.1
            rw [hS] at mS
            simp only [if_true] at mS
            have dS := fun w => rsname_any mS w
            have lS := (suit_back mS).2.2
            rw [hT] at mT
            rw [hM] at mM
            rw [hN] at mN
            simp only [if_true] at mN
            have lN := (name_facts mN).2
            have lN' : nm.size ≤ 20 := by rw [Lib.size_eq]; exact lN
            have z1 : ¬ 9223372036854775807 < T.size + 1 := by omega
            have z2 : ¬ 9223372036854775807 < T.size + 1 + (Lib.itoa ct).length := by omega
            have z3 : ¬ 9223372036854775807 < T.size + 1 + (Lib.itoa ct).length + 1 := by omega
            have z4 : ¬ 9223372036854775807 < T.size + 1 + (Lib.itoa ct).length + 1 + (at1 suitW su).length := by omega
            have z5 : ¬ 9223372036854775807 < T.size + 1 + (Lib.itoa ct).length + 1 + (at1 suitW su).length + 1 := by omega
            have z6 : ¬ 9223372036854775807 < T.size + 1 + (Lib.itoa ct).length + 1 + (at1 suitW su).length + 1 + nm.size := by omega
            clear lC mC
            clear lS mS
            clear mT
            clear mM
            clear mN lN lN'
            obtain ⟨c0, c1, c2, c3, c4, c5, c6, c7⟩ := A6.cells
            simp only at c0 c1 c2 c3 c4 c5 c6 c7
            go_wp2_with (first | (go_at_call 73; refine (ruses_any _ _ _).mono ?_; rintro e w7 ⟨rfl, hw⟩; obtain rfl : w5 = w7 := hw.symm; simp only [usesV]) | fail)
            refine (dC _).mono ?_
            rintro e w9 ⟨rfl, hw⟩
            obtain rfl : w5 = w9 := hw.symm
            go_wp2_with fail
            refine (dS _).mono ?_
            rintro e w9 ⟨rfl, hw⟩
            obtain rfl : w5 = w9 := hw.symm
            go_wp2_with fail
            go_ret2
            exact ⟨ret_txt (ByteArray.ext (by rw [HP.out]; simp [HT.out, kinds, mark, tell, hC, hS, hT, hM, hN])), G⟩
          | false =>
            rw [hC] at mC
            simp only [if_true] at mC
            have dC := fun w => digits_any (n := ct) mC w
            have lC := (itoa_facts mC).2.2.1
            rw [hS] at mS
            simp only [if_true] at mS
            have dS := fun w => rsname_any mS w
            have lS := (suit_back mS).2.2
            rw [hT] at mT
            rw [hM] at mM
            rw [hN] at mN
            have z1 : ¬ 9223372036854775807 < T.size + 1 := by omega
            have z2 : ¬ 9223372036854775807 < T.size + 1 + (Lib.itoa ct).length := by omega
            have z3 : ¬ 9223372036854775807 < T.size + 1 + (Lib.itoa ct).length + 1 := by omega
            have z4 : ¬ 9223372036854775807 < T.size + 1 + (Lib.itoa ct).length + 1 + (at1 suitW su).length := by omega
            clear lC mC
            clear lS mS
            clear mT
            clear mM
            clear mN
            obtain ⟨c0, c1, c2, c3, c4, c5, c6, c7⟩ := A6.cells
            simp only at c0 c1 c2 c3 c4 c5 c6 c7
            go_wp2_with (first | (go_at_call 73; refine (ruses_any _ _ _).mono ?_; rintro e w7 ⟨rfl, hw⟩; obtain rfl : w5 = w7 := hw.symm; simp only [usesV]) | fail)
            refine (dC _).mono ?_
            rintro e w9 ⟨rfl, hw⟩
            obtain rfl : w5 = w9 := hw.symm
            go_wp2_with fail
            refine (dS _).mono ?_
            rintro e w9 ⟨rfl, hw⟩
            obtain rfl : w5 = w9 := hw.symm
            go_wp2_with fail
            go_ret2
            exact ⟨ret_txt (ByteArray.ext (by rw [HP.out]; simp [HT.out, kinds, mark, tell, hC, hS, hT, hM, hN])), G⟩
    | false =>
      cases hT : uT ((v : Int) + 1) ((m : Int) + 1) with
      | true =>
        cases hM : uM ((v : Int) + 1) with
        | true =>
          have hN : uN ((v : Int) + 1) = false := by
            simp only [uM, decide_eq_true_eq] at hM
            simp only [uN, decide_eq_false_iff_not]
            omega
          rw [hC] at mC
          simp only [if_true] at mC
          have dC := fun w => digits_any (n := ct) mC w
          have lC := (itoa_facts mC).2.2.1
          rw [hS] at mS
          rw [hT] at mT
          simp only [if_true] at mT
          have dT := fun w => rtname_any tr w
          have lT := (trait_back mT).2.2
          rw [tName_at mT] at dT
          rw [hM] at mM
          simp only [if_true] at mM
          have mM' : -99 ≤ mr ∧ mr ≤ 99 := by omega
          have mMu : IntKind.i64.wrap mr = mr := IntWalk.i64_in _ (by omega)
          have dM := fun w => digits_any (n := mr) mM' w
          have lM := (itoa_facts mM').2.2.1
          rw [hN] at mN
          have z1 : ¬ 9223372036854775807 < T.size + 1 := by omega
          have z2 : ¬ 9223372036854775807 < T.size + 1 + (Lib.itoa ct).length := by omega
          have z3 : ¬ 9223372036854775807 < T.size + 1 + (Lib.itoa ct).length + 1 := by omega
          have z4 : ¬ 9223372036854775807 < T.size + 1 + (Lib.itoa ct).length + 1 + (at1 traitW tr).length := by omega
          have z5 : ¬ 9223372036854775807 < T.size + 1 + (Lib.itoa ct).length + 1 + (at1 traitW tr).length + 1 := by omega
          have z6 : ¬ 9223372036854775807 < T.size + 1 + (Lib.itoa ct).length + 1 + (at1 traitW tr).length + 1 + (Lib.itoa mr).length := by omega
          clear lC mC
          clear mS
          clear lT mT
          clear lM mM
          clear mM'
          clear mN
          obtain ⟨c0, c1, c2, c3, c4, c5, c6, c7⟩ := A6.cells
          simp only at c0 c1 c2 c3 c4 c5 c6 c7
          go_wp2_with (first | (go_at_call 73; refine (ruses_any _ _ _).mono ?_; rintro e w7 ⟨rfl, hw⟩; obtain rfl : w5 = w7 := hw.symm; simp only [usesV]) | fail)
          refine (dC _).mono ?_
          rintro e w9 ⟨rfl, hw⟩
          obtain rfl : w5 = w9 := hw.symm
          go_wp2_with fail
          refine (dT _).mono ?_
          rintro e w8 ⟨rfl, g8⟩
          have A8 := A6.keep g8
          have G8 := grown_trans G g8
          clear A6 G g8 c0 c1 c2 c3 c4 c5 c6 c7
          obtain ⟨c0, c1, c2, c3, c4, c5, c6, c7⟩ := A8.cells
          simp only at c0 c1 c2 c3 c4 c5 c6 c7
          go_wp2_with fail
          refine (dM _).mono ?_
          rintro e w9 ⟨rfl, hw⟩
          obtain rfl : w8 = w9 := hw.symm
          go_wp2_with fail
          go_ret2
          exact ⟨ret_txt (ByteArray.ext (by rw [HP.out]; simp [HT.out, kinds, mark, tell, hC, hS, hT, hM, hN])), G8⟩
        | false =>
          cases hN : uN ((v : Int) + 1) with
          | true =>
            rw [hC] at mC
            simp only [if_true] at mC
            have dC := fun w => digits_any (n := ct) mC w
            have lC := (itoa_facts mC).2.2.1
            rw [hS] at mS
            rw [hT] at mT
            simp only [if_true] at mT
            have dT := fun w => rtname_any tr w
            have lT := (trait_back mT).2.2
            rw [tName_at mT] at dT
            rw [hM] at mM
            rw [hN] at mN
            simp only [if_true] at mN
            have lN := (name_facts mN).2
            have lN' : nm.size ≤ 20 := by rw [Lib.size_eq]; exact lN
            have z1 : ¬ 9223372036854775807 < T.size + 1 := by omega
            have z2 : ¬ 9223372036854775807 < T.size + 1 + (Lib.itoa ct).length := by omega
            have z3 : ¬ 9223372036854775807 < T.size + 1 + (Lib.itoa ct).length + 1 := by omega
            have z4 : ¬ 9223372036854775807 < T.size + 1 + (Lib.itoa ct).length + 1 + (at1 traitW tr).length := by omega
            have z5 : ¬ 9223372036854775807 < T.size + 1 + (Lib.itoa ct).length + 1 + (at1 traitW tr).length + 1 := by omega
            have z6 : ¬ 9223372036854775807 < T.size + 1 + (Lib.itoa ct).length + 1 + (at1 traitW tr).length + 1 + nm.size := by omega
            clear lC mC
            clear mS
            clear lT mT
            clear mM
            clear mN lN lN'
            obtain ⟨c0, c1, c2, c3, c4, c5, c6, c7⟩ := A6.cells
            simp only at c0 c1 c2 c3 c4 c5 c6 c7
            go_wp2_with (first | (go_at_call 73; refine (ruses_any _ _ _).mono ?_; rintro e w7 ⟨rfl, hw⟩; obtain rfl : w5 = w7 := hw.symm; simp only [usesV]) | fail)
            refine (dC _).mono ?_
            rintro e w9 ⟨rfl, hw⟩
            obtain rfl : w5 = w9 := hw.symm
            go_wp2_with fail
            refine (dT _).mono ?_
            rintro e w8 ⟨rfl, g8⟩
            have A8 := A6.keep g8
            have G8 := grown_trans G g8
            clear A6 G g8 c0 c1 c2 c3 c4 c5 c6 c7
            obtain ⟨c0, c1, c2, c3, c4, c5, c6, c7⟩ := A8.cells
            simp only at c0 c1 c2 c3 c4 c5 c6 c7
            go_wp2_with fail
            go_ret2
            exact ⟨ret_txt (ByteArray.ext (by rw [HP.out]; simp [HT.out, kinds, mark, tell, hC, hS, hT, hM, hN])), G8⟩
          | false =>
            rw [hC] at mC
            simp only [if_true] at mC
            have dC := fun w => digits_any (n := ct) mC w
            have lC := (itoa_facts mC).2.2.1
            rw [hS] at mS
            rw [hT] at mT
            simp only [if_true] at mT
            have dT := fun w => rtname_any tr w
            have lT := (trait_back mT).2.2
            rw [tName_at mT] at dT
            rw [hM] at mM
            rw [hN] at mN
            have z1 : ¬ 9223372036854775807 < T.size + 1 := by omega
            have z2 : ¬ 9223372036854775807 < T.size + 1 + (Lib.itoa ct).length := by omega
            have z3 : ¬ 9223372036854775807 < T.size + 1 + (Lib.itoa ct).length + 1 := by omega
            have z4 : ¬ 9223372036854775807 < T.size + 1 + (Lib.itoa ct).length + 1 + (at1 traitW tr).length := by omega
            clear lC mC
            clear mS
            clear lT mT
            clear mM
            clear mN
            obtain ⟨c0, c1, c2, c3, c4, c5, c6, c7⟩ := A6.cells
            simp only at c0 c1 c2 c3 c4 c5 c6 c7
            go_wp2_with (first | (go_at_call 73; refine (ruses_any _ _ _).mono ?_; rintro e w7 ⟨rfl, hw⟩; obtain rfl : w5 = w7 := hw.symm; simp only [usesV]) | fail)
            refine (dC _).mono ?_
            rintro e w9 ⟨rfl, hw⟩
            obtain rfl : w5 = w9 := hw.symm
            go_wp2_with fail
            refine (dT _).mono ?_
            rintro e w8 ⟨rfl, g8⟩
            have A8 := A6.keep g8
            have G8 := grown_trans G g8
            clear A6 G g8 c0 c1 c2 c3 c4 c5 c6 c7
            obtain ⟨c0, c1, c2, c3, c4, c5, c6, c7⟩ := A8.cells
            simp only at c0 c1 c2 c3 c4 c5 c6 c7
            go_wp2_with fail
            go_ret2
            exact ⟨ret_txt (ByteArray.ext (by rw [HP.out]; simp [HT.out, kinds, mark, tell, hC, hS, hT, hM, hN])), G8⟩
      | false =>
        cases hM : uM ((v : Int) + 1) with
        | true =>
          have hN : uN ((v : Int) + 1) = false := by
            simp only [uM, decide_eq_true_eq] at hM
            simp only [uN, decide_eq_false_iff_not]
            omega
          rw [hC] at mC
          simp only [if_true] at mC
          have dC := fun w => digits_any (n := ct) mC w
          have lC := (itoa_facts mC).2.2.1
          rw [hS] at mS
          rw [hT] at mT
          rw [hM] at mM
          simp only [if_true] at mM
          have mM' : -99 ≤ mr ∧ mr ≤ 99 := by omega
          have mMu : IntKind.i64.wrap mr = mr := IntWalk.i64_in _ (by omega)
          have dM := fun w => digits_any (n := mr) mM' w
          have lM := (itoa_facts mM').2.2.1
          rw [hN] at mN
          have z1 : ¬ 9223372036854775807 < T.size + 1 := by omega
          have z2 : ¬ 9223372036854775807 < T.size + 1 + (Lib.itoa ct).length := by omega
          have z3 : ¬ 9223372036854775807 < T.size + 1 + (Lib.itoa ct).length + 1 := by omega
          have z4 : ¬ 9223372036854775807 < T.size + 1 + (Lib.itoa ct).length + 1 + (Lib.itoa mr).length := by omega
          clear lC mC
          clear mS
          clear mT
          clear lM mM
          clear mM'
          clear mN
          obtain ⟨c0, c1, c2, c3, c4, c5, c6, c7⟩ := A6.cells
          simp only at c0 c1 c2 c3 c4 c5 c6 c7
          go_wp2_with (first | (go_at_call 73; refine (ruses_any _ _ _).mono ?_; rintro e w7 ⟨rfl, hw⟩; obtain rfl : w5 = w7 := hw.symm; simp only [usesV]) | fail)
          refine (dC _).mono ?_
          rintro e w9 ⟨rfl, hw⟩
          obtain rfl : w5 = w9 := hw.symm
          go_wp2_with fail
          refine (dM _).mono ?_
          rintro e w9 ⟨rfl, hw⟩
          obtain rfl : w5 = w9 := hw.symm
          go_wp2_with fail
          go_ret2
          exact ⟨ret_txt (ByteArray.ext (by rw [HP.out]; simp [HT.out, kinds, mark, tell, hC, hS, hT, hM, hN])), G⟩
        | false =>
          cases hN : uN ((v : Int) + 1) with
          | true =>
            rw [hC] at mC
            simp only [if_true] at mC
            have dC := fun w => digits_any (n := ct) mC w
            have lC := (itoa_facts mC).2.2.1
            rw [hS] at mS
            rw [hT] at mT
            rw [hM] at mM
            rw [hN] at mN
            simp only [if_true] at mN
            have lN := (name_facts mN).2
            have lN' : nm.size ≤ 20 := by rw [Lib.size_eq]; exact lN
            have z1 : ¬ 9223372036854775807 < T.size + 1 := by omega
            have z2 : ¬ 9223372036854775807 < T.size + 1 + (Lib.itoa ct).length := by omega
            have z3 : ¬ 9223372036854775807 < T.size + 1 + (Lib.itoa ct).length + 1 := by omega
            have z4 : ¬ 9223372036854775807 < T.size + 1 + (Lib.itoa ct).length + 1 + nm.size := by omega
            clear lC mC
            clear mS
            clear mT
            clear mM
            clear mN lN lN'
            obtain ⟨c0, c1, c2, c3, c4, c5, c6, c7⟩ := A6.cells
            simp only at c0 c1 c2 c3 c4 c5 c6 c7
            go_wp2_with (first | (go_at_call 73; refine (ruses_any _ _ _).mono ?_; rintro e w7 ⟨rfl, hw⟩; obtain rfl : w5 = w7 := hw.symm; simp only [usesV]) | fail)
            refine (dC _).mono ?_
            rintro e w9 ⟨rfl, hw⟩
            obtain rfl : w5 = w9 := hw.symm
            go_wp2_with fail
            go_ret2
            exact ⟨ret_txt (ByteArray.ext (by rw [HP.out]; simp [HT.out, kinds, mark, tell, hC, hS, hT, hM, hN])), G⟩
          | false =>
            rw [hC] at mC
            simp only [if_true] at mC
            have dC := fun w => digits_any (n := ct) mC w
            have lC := (itoa_facts mC).2.2.1
            rw [hS] at mS
            rw [hT] at mT
            rw [hM] at mM
            rw [hN] at mN
            have z1 : ¬ 9223372036854775807 < T.size + 1 := by omega
            have z2 : ¬ 9223372036854775807 < T.size + 1 + (Lib.itoa ct).length := by omega
            clear lC mC
            clear mS
            clear mT
            clear mM
            clear mN
            obtain ⟨c0, c1, c2, c3, c4, c5, c6, c7⟩ := A6.cells
            simp only at c0 c1 c2 c3 c4 c5 c6 c7
            go_wp2_with (first | (go_at_call 73; refine (ruses_any _ _ _).mono ?_; rintro e w7 ⟨rfl, hw⟩; obtain rfl : w5 = w7 := hw.symm; simp only [usesV]) | fail)
            refine (dC _).mono ?_
            rintro e w9 ⟨rfl, hw⟩
            obtain rfl : w5 = w9 := hw.symm
            go_wp2_with fail
            go_ret2
            exact ⟨ret_txt (ByteArray.ext (by rw [HP.out]; simp [HT.out, kinds, mark, tell, hC, hS, hT, hM, hN])), G⟩
  | false =>
    cases hS : uS ((v : Int) + 1) ((m : Int) + 1) with
    | true =>
      cases hT : uT ((v : Int) + 1) ((m : Int) + 1) with
      | true =>
        cases hM : uM ((v : Int) + 1) with
        | true =>
          have hN : uN ((v : Int) + 1) = false := by
            simp only [uM, decide_eq_true_eq] at hM
            simp only [uN, decide_eq_false_iff_not]
            omega
          rw [hC] at mC
          rw [hS] at mS
          simp only [if_true] at mS
          have dS := fun w => rsname_any mS w
          have lS := (suit_back mS).2.2
          rw [hT] at mT
          simp only [if_true] at mT
          have dT := fun w => rtname_any tr w
          have lT := (trait_back mT).2.2
          rw [tName_at mT] at dT
          rw [hM] at mM
          simp only [if_true] at mM
          have mM' : -99 ≤ mr ∧ mr ≤ 99 := by omega
          have mMu : IntKind.i64.wrap mr = mr := IntWalk.i64_in _ (by omega)
          have dM := fun w => digits_any (n := mr) mM' w
          have lM := (itoa_facts mM').2.2.1
          rw [hN] at mN
          have z1 : ¬ 9223372036854775807 < T.size + 1 := by omega
          have z2 : ¬ 9223372036854775807 < T.size + 1 + (at1 suitW su).length := by omega
          have z3 : ¬ 9223372036854775807 < T.size + 1 + (at1 suitW su).length + 1 := by omega
          have z4 : ¬ 9223372036854775807 < T.size + 1 + (at1 suitW su).length + 1 + (at1 traitW tr).length := by omega
          have z5 : ¬ 9223372036854775807 < T.size + 1 + (at1 suitW su).length + 1 + (at1 traitW tr).length + 1 := by omega
          have z6 : ¬ 9223372036854775807 < T.size + 1 + (at1 suitW su).length + 1 + (at1 traitW tr).length + 1 + (Lib.itoa mr).length := by omega
          clear mC
          clear lS mS
          clear lT mT
          clear lM mM
          clear mM'
          clear mN
          obtain ⟨c0, c1, c2, c3, c4, c5, c6, c7⟩ := A6.cells
          simp only at c0 c1 c2 c3 c4 c5 c6 c7
          go_wp2_with (first | (go_at_call 73; refine (ruses_any _ _ _).mono ?_; rintro e w7 ⟨rfl, hw⟩; obtain rfl : w5 = w7 := hw.symm; simp only [usesV]) | fail)
          refine (dS _).mono ?_
          rintro e w9 ⟨rfl, hw⟩
          obtain rfl : w5 = w9 := hw.symm
          go_wp2_with fail
          refine (dT _).mono ?_
          rintro e w8 ⟨rfl, g8⟩
          have A8 := A6.keep g8
          have G8 := grown_trans G g8
          clear A6 G g8 c0 c1 c2 c3 c4 c5 c6 c7
          obtain ⟨c0, c1, c2, c3, c4, c5, c6, c7⟩ := A8.cells
          simp only at c0 c1 c2 c3 c4 c5 c6 c7
          go_wp2_with fail
          refine (dM _).mono ?_
          rintro e w9 ⟨rfl, hw⟩
          obtain rfl : w8 = w9 := hw.symm
          go_wp2_with fail
          go_ret2
          exact ⟨ret_txt (ByteArray.ext (by rw [HP.out]; simp [HT.out, kinds, mark, tell, hC, hS, hT, hM, hN])), G8⟩
        | false =>
          cases hN : uN ((v : Int) + 1) with
          | true =>
            rw [hC] at mC
            rw [hS] at mS
            simp only [if_true] at mS
            have dS := fun w => rsname_any mS w
            have lS := (suit_back mS).2.2
            rw [hT] at mT
            simp only [if_true] at mT
            have dT := fun w => rtname_any tr w
            have lT := (trait_back mT).2.2
            rw [tName_at mT] at dT
            rw [hM] at mM
            rw [hN] at mN
            simp only [if_true] at mN
            have lN := (name_facts mN).2
            have lN' : nm.size ≤ 20 := by rw [Lib.size_eq]; exact lN
            have z1 : ¬ 9223372036854775807 < T.size + 1 := by omega
            have z2 : ¬ 9223372036854775807 < T.size + 1 + (at1 suitW su).length := by omega
            have z3 : ¬ 9223372036854775807 < T.size + 1 + (at1 suitW su).length + 1 := by omega
            have z4 : ¬ 9223372036854775807 < T.size + 1 + (at1 suitW su).length + 1 + (at1 traitW tr).length := by omega
            have z5 : ¬ 9223372036854775807 < T.size + 1 + (at1 suitW su).length + 1 + (at1 traitW tr).length + 1 := by omega
            have z6 : ¬ 9223372036854775807 < T.size + 1 + (at1 suitW su).length + 1 + (at1 traitW tr).length + 1 + nm.size := by omega
            clear mC
            clear lS mS
            clear lT mT
            clear mM
            clear mN lN lN'
            obtain ⟨c0, c1, c2, c3, c4, c5, c6, c7⟩ := A6.cells
            simp only at c0 c1 c2 c3 c4 c5 c6 c7
            go_wp2_with (first | (go_at_call 73; refine (ruses_any _ _ _).mono ?_; rintro e w7 ⟨rfl, hw⟩; obtain rfl : w5 = w7 := hw.symm; simp only [usesV]) | fail)
            refine (dS _).mono ?_
            rintro e w9 ⟨rfl, hw⟩
            obtain rfl : w5 = w9 := hw.symm
            go_wp2_with fail
            refine (dT _).mono ?_
            rintro e w8 ⟨rfl, g8⟩
            have A8 := A6.keep g8
            have G8 := grown_trans G g8
            clear A6 G g8 c0 c1 c2 c3 c4 c5 c6 c7
            obtain ⟨c0, c1, c2, c3, c4, c5, c6, c7⟩ := A8.cells
            simp only at c0 c1 c2 c3 c4 c5 c6 c7
            go_wp2_with fail
            go_ret2
            exact ⟨ret_txt (ByteArray.ext (by rw [HP.out]; simp [HT.out, kinds, mark, tell, hC, hS, hT, hM, hN])), G8⟩
          | false =>
            rw [hC] at mC
            rw [hS] at mS
            simp only [if_true] at mS
            have dS := fun w => rsname_any mS w
            have lS := (suit_back mS).2.2
            rw [hT] at mT
            simp only [if_true] at mT
            have dT := fun w => rtname_any tr w
            have lT := (trait_back mT).2.2
            rw [tName_at mT] at dT
            rw [hM] at mM
            rw [hN] at mN
            have z1 : ¬ 9223372036854775807 < T.size + 1 := by omega
            have z2 : ¬ 9223372036854775807 < T.size + 1 + (at1 suitW su).length := by omega
            have z3 : ¬ 9223372036854775807 < T.size + 1 + (at1 suitW su).length + 1 := by omega
            have z4 : ¬ 9223372036854775807 < T.size + 1 + (at1 suitW su).length + 1 + (at1 traitW tr).length := by omega
            clear mC
            clear lS mS
            clear lT mT
            clear mM
            clear mN
            obtain ⟨c0, c1, c2, c3, c4, c5, c6, c7⟩ := A6.cells
            simp only at c0 c1 c2 c3 c4 c5 c6 c7
            go_wp2_with (first | (go_at_call 73; refine (ruses_any _ _ _).mono ?_; rintro e w7 ⟨rfl, hw⟩; obtain rfl : w5 = w7 := hw.symm; simp only [usesV]) | fail)
            refine (dS _).mono ?_
            rintro e w9 ⟨rfl, hw⟩
            obtain rfl : w5 = w9 := hw.symm
            go_wp2_with fail
            refine (dT _).mono ?_
            rintro e w8 ⟨rfl, g8⟩
            have A8 := A6.keep g8
            have G8 := grown_trans G g8
            clear A6 G g8 c0 c1 c2 c3 c4 c5 c6 c7
            obtain ⟨c0, c1, c2, c3, c4, c5, c6, c7⟩ := A8.cells
            simp only at c0 c1 c2 c3 c4 c5 c6 c7
            go_wp2_with fail
            go_ret2
            exact ⟨ret_txt (ByteArray.ext (by rw [HP.out]; simp [HT.out, kinds, mark, tell, hC, hS, hT, hM, hN])), G8⟩
      | false =>
        cases hM : uM ((v : Int) + 1) with
        | true =>
          have hN : uN ((v : Int) + 1) = false := by
            simp only [uM, decide_eq_true_eq] at hM
            simp only [uN, decide_eq_false_iff_not]
            omega
          rw [hC] at mC
          rw [hS] at mS
          simp only [if_true] at mS
          have dS := fun w => rsname_any mS w
          have lS := (suit_back mS).2.2
          rw [hT] at mT
          rw [hM] at mM
          simp only [if_true] at mM
          have mM' : -99 ≤ mr ∧ mr ≤ 99 := by omega
          have mMu : IntKind.i64.wrap mr = mr := IntWalk.i64_in _ (by omega)
          have dM := fun w => digits_any (n := mr) mM' w
          have lM := (itoa_facts mM').2.2.1
          rw [hN] at mN
          have z1 : ¬ 9223372036854775807 < T.size + 1 := by omega
          have z2 : ¬ 9223372036854775807 < T.size + 1 + (at1 suitW su).length := by omega
          have z3 : ¬ 9223372036854775807 < T.size + 1 + (at1 suitW su).length + 1 := by omega
          have z4 : ¬ 9223372036854775807 < T.size + 1 + (at1 suitW su).length + 1 + (Lib.itoa mr).length := by omega
          clear mC
          clear lS mS
          clear mT
          clear lM mM
          clear mM'
          clear mN
          obtain ⟨c0, c1, c2, c3, c4, c5, c6, c7⟩ := A6.cells
          simp only at c0 c1 c2 c3 c4 c5 c6 c7
          go_wp2_with (first | (go_at_call 73; refine (ruses_any _ _ _).mono ?_; rintro e w7 ⟨rfl, hw⟩; obtain rfl : w5 = w7 := hw.symm; simp only [usesV]) | fail)
          refine (dS _).mono ?_
          rintro e w9 ⟨rfl, hw⟩
          obtain rfl : w5 = w9 := hw.symm
          go_wp2_with fail
          refine (dM _).mono ?_
          rintro e w9 ⟨rfl, hw⟩
          obtain rfl : w5 = w9 := hw.symm
          go_wp2_with fail
          go_ret2
          exact ⟨ret_txt (ByteArray.ext (by rw [HP.out]; simp [HT.out, kinds, mark, tell, hC, hS, hT, hM, hN])), G⟩
        | false =>
          cases hN : uN ((v : Int) + 1) with
          | true =>
            rw [hC] at mC
            rw [hS] at mS
            simp only [if_true] at mS
            have dS := fun w => rsname_any mS w
            have lS := (suit_back mS).2.2
            rw [hT] at mT
            rw [hM] at mM
            rw [hN] at mN
            simp only [if_true] at mN
            have lN := (name_facts mN).2
            have lN' : nm.size ≤ 20 := by rw [Lib.size_eq]; exact lN
            have z1 : ¬ 9223372036854775807 < T.size + 1 := by omega
            have z2 : ¬ 9223372036854775807 < T.size + 1 + (at1 suitW su).length := by omega
            have z3 : ¬ 9223372036854775807 < T.size + 1 + (at1 suitW su).length + 1 := by omega
            have z4 : ¬ 9223372036854775807 < T.size + 1 + (at1 suitW su).length + 1 + nm.size := by omega
            clear mC
            clear lS mS
            clear mT
            clear mM
            clear mN lN lN'
            obtain ⟨c0, c1, c2, c3, c4, c5, c6, c7⟩ := A6.cells
            simp only at c0 c1 c2 c3 c4 c5 c6 c7
            go_wp2_with (first | (go_at_call 73; refine (ruses_any _ _ _).mono ?_; rintro e w7 ⟨rfl, hw⟩; obtain rfl : w5 = w7 := hw.symm; simp only [usesV]) | fail)
            refine (dS _).mono ?_
            rintro e w9 ⟨rfl, hw⟩
            obtain rfl : w5 = w9 := hw.symm
            go_wp2_with fail
            go_ret2
            exact ⟨ret_txt (ByteArray.ext (by rw [HP.out]; simp [HT.out, kinds, mark, tell, hC, hS, hT, hM, hN])), G⟩
          | false =>
            rw [hC] at mC
            rw [hS] at mS
            simp only [if_true] at mS
            have dS := fun w => rsname_any mS w
            have lS := (suit_back mS).2.2
            rw [hT] at mT
            rw [hM] at mM
            rw [hN] at mN
            have z1 : ¬ 9223372036854775807 < T.size + 1 := by omega
            have z2 : ¬ 9223372036854775807 < T.size + 1 + (at1 suitW su).length := by omega
            clear mC
            clear lS mS
            clear mT
            clear mM
            clear mN
            obtain ⟨c0, c1, c2, c3, c4, c5, c6, c7⟩ := A6.cells
            simp only at c0 c1 c2 c3 c4 c5 c6 c7
            go_wp2_with (first | (go_at_call 73; refine (ruses_any _ _ _).mono ?_; rintro e w7 ⟨rfl, hw⟩; obtain rfl : w5 = w7 := hw.symm; simp only [usesV]) | fail)
            refine (dS _).mono ?_
            rintro e w9 ⟨rfl, hw⟩
            obtain rfl : w5 = w9 := hw.symm
            go_wp2_with fail
            go_ret2
            exact ⟨ret_txt (ByteArray.ext (by rw [HP.out]; simp [HT.out, kinds, mark, tell, hC, hS, hT, hM, hN])), G⟩
    | false =>
      cases hT : uT ((v : Int) + 1) ((m : Int) + 1) with
      | true =>
        cases hM : uM ((v : Int) + 1) with
        | true =>
          have hN : uN ((v : Int) + 1) = false := by
            simp only [uM, decide_eq_true_eq] at hM
            simp only [uN, decide_eq_false_iff_not]
            omega
          rw [hC] at mC
          rw [hS] at mS
          rw [hT] at mT
          simp only [if_true] at mT
          have dT := fun w => rtname_any tr w
          have lT := (trait_back mT).2.2
          rw [tName_at mT] at dT
          rw [hM] at mM
          simp only [if_true] at mM
          have mM' : -99 ≤ mr ∧ mr ≤ 99 := by omega
          have mMu : IntKind.i64.wrap mr = mr := IntWalk.i64_in _ (by omega)
          have dM := fun w => digits_any (n := mr) mM' w
          have lM := (itoa_facts mM').2.2.1
          rw [hN] at mN
          have z1 : ¬ 9223372036854775807 < T.size + 1 := by omega
          have z2 : ¬ 9223372036854775807 < T.size + 1 + (at1 traitW tr).length := by omega
          have z3 : ¬ 9223372036854775807 < T.size + 1 + (at1 traitW tr).length + 1 := by omega
          have z4 : ¬ 9223372036854775807 < T.size + 1 + (at1 traitW tr).length + 1 + (Lib.itoa mr).length := by omega
          clear mC
          clear mS
          clear lT mT
          clear lM mM
          clear mM'
          clear mN
          obtain ⟨c0, c1, c2, c3, c4, c5, c6, c7⟩ := A6.cells
          simp only at c0 c1 c2 c3 c4 c5 c6 c7
          go_wp2_with (first | (go_at_call 73; refine (ruses_any _ _ _).mono ?_; rintro e w7 ⟨rfl, hw⟩; obtain rfl : w5 = w7 := hw.symm; simp only [usesV]) | fail)
          refine (dT _).mono ?_
          rintro e w8 ⟨rfl, g8⟩
          have A8 := A6.keep g8
          have G8 := grown_trans G g8
          clear A6 G g8 c0 c1 c2 c3 c4 c5 c6 c7
          obtain ⟨c0, c1, c2, c3, c4, c5, c6, c7⟩ := A8.cells
          simp only at c0 c1 c2 c3 c4 c5 c6 c7
          go_wp2_with fail
          refine (dM _).mono ?_
          rintro e w9 ⟨rfl, hw⟩
          obtain rfl : w8 = w9 := hw.symm
          go_wp2_with fail
          go_ret2
          exact ⟨ret_txt (ByteArray.ext (by rw [HP.out]; simp [HT.out, kinds, mark, tell, hC, hS, hT, hM, hN])), G8⟩
        | false =>
          cases hN : uN ((v : Int) + 1) with
          | true =>
            rw [hC] at mC
            rw [hS] at mS
            rw [hT] at mT
            simp only [if_true] at mT
            have dT := fun w => rtname_any tr w
            have lT := (trait_back mT).2.2
            rw [tName_at mT] at dT
            rw [hM] at mM
            rw [hN] at mN
            simp only [if_true] at mN
            have lN := (name_facts mN).2
            have lN' : nm.size ≤ 20 := by rw [Lib.size_eq]; exact lN
            have z1 : ¬ 9223372036854775807 < T.size + 1 := by omega
            have z2 : ¬ 9223372036854775807 < T.size + 1 + (at1 traitW tr).length := by omega
            have z3 : ¬ 9223372036854775807 < T.size + 1 + (at1 traitW tr).length + 1 := by omega
            have z4 : ¬ 9223372036854775807 < T.size + 1 + (at1 traitW tr).length + 1 + nm.size := by omega
            clear mC
            clear mS
            clear lT mT
            clear mM
            clear mN lN lN'
            obtain ⟨c0, c1, c2, c3, c4, c5, c6, c7⟩ := A6.cells
            simp only at c0 c1 c2 c3 c4 c5 c6 c7
            go_wp2_with (first | (go_at_call 73; refine (ruses_any _ _ _).mono ?_; rintro e w7 ⟨rfl, hw⟩; obtain rfl : w5 = w7 := hw.symm; simp only [usesV]) | fail)
            refine (dT _).mono ?_
            rintro e w8 ⟨rfl, g8⟩
            have A8 := A6.keep g8
            have G8 := grown_trans G g8
            clear A6 G g8 c0 c1 c2 c3 c4 c5 c6 c7
            obtain ⟨c0, c1, c2, c3, c4, c5, c6, c7⟩ := A8.cells
            simp only at c0 c1 c2 c3 c4 c5 c6 c7
            go_wp2_with fail
            go_ret2
            exact ⟨ret_txt (ByteArray.ext (by rw [HP.out]; simp [HT.out, kinds, mark, tell, hC, hS, hT, hM, hN])), G8⟩
          | false =>
            rw [hC] at mC
            rw [hS] at mS
            rw [hT] at mT
            simp only [if_true] at mT
            have dT := fun w => rtname_any tr w
            have lT := (trait_back mT).2.2
            rw [tName_at mT] at dT
            rw [hM] at mM
            rw [hN] at mN
            have z1 : ¬ 9223372036854775807 < T.size + 1 := by omega
            have z2 : ¬ 9223372036854775807 < T.size + 1 + (at1 traitW tr).length := by omega
            clear mC
            clear mS
            clear lT mT
            clear mM
            clear mN
            obtain ⟨c0, c1, c2, c3, c4, c5, c6, c7⟩ := A6.cells
            simp only at c0 c1 c2 c3 c4 c5 c6 c7
            go_wp2_with (first | (go_at_call 73; refine (ruses_any _ _ _).mono ?_; rintro e w7 ⟨rfl, hw⟩; obtain rfl : w5 = w7 := hw.symm; simp only [usesV]) | fail)
            refine (dT _).mono ?_
            rintro e w8 ⟨rfl, g8⟩
            have A8 := A6.keep g8
            have G8 := grown_trans G g8
            clear A6 G g8 c0 c1 c2 c3 c4 c5 c6 c7
            obtain ⟨c0, c1, c2, c3, c4, c5, c6, c7⟩ := A8.cells
            simp only at c0 c1 c2 c3 c4 c5 c6 c7
            go_wp2_with fail
            go_ret2
            exact ⟨ret_txt (ByteArray.ext (by rw [HP.out]; simp [HT.out, kinds, mark, tell, hC, hS, hT, hM, hN])), G8⟩
      | false =>
        cases hM : uM ((v : Int) + 1) with
        | true =>
          have hN : uN ((v : Int) + 1) = false := by
            simp only [uM, decide_eq_true_eq] at hM
            simp only [uN, decide_eq_false_iff_not]
            omega
          rw [hC] at mC
          rw [hS] at mS
          rw [hT] at mT
          rw [hM] at mM
          simp only [if_true] at mM
          have mM' : -99 ≤ mr ∧ mr ≤ 99 := by omega
          have mMu : IntKind.i64.wrap mr = mr := IntWalk.i64_in _ (by omega)
          have dM := fun w => digits_any (n := mr) mM' w
          have lM := (itoa_facts mM').2.2.1
          rw [hN] at mN
          have z1 : ¬ 9223372036854775807 < T.size + 1 := by omega
          have z2 : ¬ 9223372036854775807 < T.size + 1 + (Lib.itoa mr).length := by omega
          clear mC
          clear mS
          clear mT
          clear lM mM
          clear mM'
          clear mN
          obtain ⟨c0, c1, c2, c3, c4, c5, c6, c7⟩ := A6.cells
          simp only at c0 c1 c2 c3 c4 c5 c6 c7
          go_wp2_with (first | (go_at_call 73; refine (ruses_any _ _ _).mono ?_; rintro e w7 ⟨rfl, hw⟩; obtain rfl : w5 = w7 := hw.symm; simp only [usesV]) | fail)
          refine (dM _).mono ?_
          rintro e w9 ⟨rfl, hw⟩
          obtain rfl : w5 = w9 := hw.symm
          go_wp2_with fail
          go_ret2
          exact ⟨ret_txt (ByteArray.ext (by rw [HP.out]; simp [HT.out, kinds, mark, tell, hC, hS, hT, hM, hN])), G⟩
        | false =>
          cases hN : uN ((v : Int) + 1) with
          | true =>
            rw [hC] at mC
            rw [hS] at mS
            rw [hT] at mT
            rw [hM] at mM
            rw [hN] at mN
            simp only [if_true] at mN
            have lN := (name_facts mN).2
            have lN' : nm.size ≤ 20 := by rw [Lib.size_eq]; exact lN
            have z1 : ¬ 9223372036854775807 < T.size + 1 := by omega
            have z2 : ¬ 9223372036854775807 < T.size + 1 + nm.size := by omega
            clear mC
            clear mS
            clear mT
            clear mM
            clear mN lN lN'
            obtain ⟨c0, c1, c2, c3, c4, c5, c6, c7⟩ := A6.cells
            simp only at c0 c1 c2 c3 c4 c5 c6 c7
            go_wp2_with (first | (go_at_call 73; refine (ruses_any _ _ _).mono ?_; rintro e w7 ⟨rfl, hw⟩; obtain rfl : w5 = w7 := hw.symm; simp only [usesV]) | fail)
            go_ret2
            exact ⟨ret_txt (ByteArray.ext (by rw [HP.out]; simp [HT.out, kinds, mark, tell, hC, hS, hT, hM, hN])), G⟩
          | false =>
            rw [hC] at mC
            rw [hS] at mS
            rw [hT] at mT
            rw [hM] at mM
            rw [hN] at mN
            clear mC
            clear mS
            clear mT
            clear mM
            clear mN
            obtain ⟨c0, c1, c2, c3, c4, c5, c6, c7⟩ := A6.cells
            simp only at c0 c1 c2 c3 c4 c5 c6 c7
            go_wp2_with (first | (go_at_call 73; refine (ruses_any _ _ _).mono ?_; rintro e w7 ⟨rfl, hw⟩; obtain rfl : w5 = w7 := hw.symm; simp only [usesV]) | fail)
            go_ret2
            exact ⟨ret_txt (ByteArray.ext (by rw [HP.out]; simp [HT.out, kinds, mark, tell, hC, hS, hT, hM, hN])), G⟩
theorem rprint_any (p : Pt) (hw : p.wf) (w : World) : Calls Tryz.prog 33 #[pv p] w fun e w' => e = .returned (.tuple #[.string (prB p), .int .i64 (chk p)]) ∧ w.grownBy w' none := by
  by_cases h : chk p = 0
  · have M := may_of h
    obtain ⟨wn, vb, wm, ct, su, tr, mr, nm⟩ := p
    have h1 := M.wn
    have h2 := M.vb
    have h3 := M.wm
    simp only at h1 h2 h3
    obtain ⟨a, rfl⟩ : ∃ a : Nat, wn = (a : Int) + 1 := ⟨(wn - 1).toNat, by omega⟩
    obtain ⟨v, rfl⟩ : ∃ v : Nat, vb = (v : Int) + 1 := ⟨(vb - 1).toNat, by omega⟩
    obtain ⟨m, rfl⟩ : ∃ m : Nat, wm = (m : Int) + 1 := ⟨(wm - 1).toNat, by omega⟩
    refine (rprint_ok a v m ct su tr mr nm hw h w).mono ?_
    rintro e w' ⟨rfl, g⟩
    refine ⟨?_, g⟩
    unfold prB
    rw [if_pos h, h]
  · refine (rprint_no p hw h w).mono ?_
    rintro e w' ⟨rfl, g⟩
    refine ⟨?_, g⟩
    unfold prB
    rw [if_neg h]
end Go.Proofs.YtpceelbphpfciaaGreatDoor
