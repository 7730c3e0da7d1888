/-
  Layers: the chapter's examples, plainly.
  Layers: awake.
-/
import Derived.Test.YtmemeloehgemcaaGreatLzH
import Derived.Test.YtmemeloehgemcaaGreatLzI
namespace Go.Proofs.YtmemeloehgemcaaGreat
open Go.RowKit Go.Shelf

def exRw : List Rw := [⟨1, 1, exC, [exCp]⟩, ⟨2, 2, exB, [exBp]⟩, ⟨3, 3, exE, []⟩, ⟨4, 4, exE, []⟩]
def exTwo : List Fe := [⟨0, 6, 0, 0, 0⟩, ⟨0, 6, 0, 0, 0⟩, ⟨0, 6, 0, 2, 2⟩, ⟨1, 2, 0, 2, 2⟩]
def exFive : List Fe := [⟨0, 6, 0, 0, 0⟩, ⟨0, 6, 0, 0, 0⟩, ⟨0, 6, 0, 3, 3⟩, ⟨1, 2, 0, 2, 2⟩]
theorem ex_sort : sortR exRw = exRw := List.mergeSort_of_pairwise (by unfold exRw; simp)
theorem ex_tab1 (vE vB vC vF : Value) : tabR 4 (atC exP (exES vE vB vC vF)) exT exFs = some exRw := by
  unfold tabR
  rw [if_pos (show exT.length = exFs.length from rfl), show layF 4 (atC exP (exES vE vB vC vF)) (exT.zip exFs) 0 [] = some exRw from by kernel_rfl]
  simp only [ex_sort]
  rfl
theorem ex_tab2 (vE vB vC vF : Value) : tabR 4 (atC exP (exES vE vB vC vF)) exT exTwo = some exRw := by
  unfold tabR
  rw [if_pos (show exT.length = exTwo.length from rfl), show layF 4 (atC exP (exES vE vB vC vF)) (exT.zip exTwo) 0 [] = some exRw from by kernel_rfl]
  simp only [ex_sort]
  rfl
theorem ex_eff5 : effL exRw (pickF exRw exFs) 5 = [⟨⟨1, 0, exCp⟩, 0⟩] := by kernel_rfl
theorem ex_about : numL exRw (aboutL exRw (pickF exRw exFs) ⟨⟨1, 0, exCp⟩, 0⟩) = [] := by kernel_rfl
theorem ex_list5 : listF exRw [⟨1, 0, exCp⟩] [] = some [⟨⟨1, 0, exCp⟩, 0⟩] := by kernel_rfl
theorem ex_all2 : allR exRw exFs 2 = (exTwo, [⟨⟨2, 0, exBp⟩, 1⟩]) := by kernel_rfl
theorem ex_amg2 : amgL exFs exRw exTwo = exTwo := by kernel_rfl
theorem ex_all5 : (allR exRw exTwo 5).1 = exFive := by kernel_rfl
theorem ex_amg5 : amgL exTwo exRw exFive = exFive := by kernel_rfl
theorem ex_bg1 (vE vB vC vF : Value) (k : Int) (h : 1 ≤ k ∧ k ≤ 5) : bgE 0 4 (atC exP (exES vE vB vC vF)) exT exFs k = 0 := bgE_ok (ex_tab1 vE vB vC vF) h
theorem ex_bg2 (vE vB vC vF : Value) (k : Int) (h : 1 ≤ k ∧ k ≤ 5) : bgE 0 4 (atC exP (exES vE vB vC vF)) exT exTwo k = 0 := bgE_ok (ex_tab2 vE vB vC vF) h
theorem ex_lk1 (vE vB vC vF : Value) : lkE 0 4 (atC exP (exES vE vB vC vF)) exT exFs [⟨1, 0, exCp⟩] = 0 := lkE_ok (ex_tab1 vE vB vC vF) ex_list5
end Go.Proofs.YtmemeloehgemcaaGreat
namespace Go.Proofs.YtmemeloehgemcaaGreat
open Go.RowKit Go.Shelf

theorem aw_eff {W w' : World} {vE vB vC vF : Value} {e : Ending} (h : EffectsPost W 0 4 (atC exP (exES vE vB vC vF)) exT exFs 5 e w') : ∃ g c, e = .returned (.tuple #[.slice (some ⟨g, 0, none⟩) 1 c, .int .i64 0]) ∧ w'.rangeAt g 0 (sdc ⟨1, 0, exCp⟩) ∧ W.grownBy w' none := by
  obtain ⟨p, m, c, he, g, -, hA⟩ := h
  rw [ex_bg1 vE vB vC vF 5 (by decide)] at he
  have o := hA exRw rfl (by decide) (ex_tab1 vE vB vC vF)
  rw [ex_eff5] at o
  obtain ⟨q, cap, e1, -, -, -, -, hc⟩ := own_cell o (by decide)
  cases e1
  exact ⟨q, c, he, fun i v hv => by
    have hi : i < 10 := (List.getElem?_eq_some_iff.1 hv).1
    rw [Nat.zero_add, (hc i (by show i < 1 * 10; omega)).1, ← hv]
    exact congrArg (·[i]?) (show sdR.cs [⟨1, 0, exCp⟩] = sdc ⟨1, 0, exCp⟩ from rfl), g⟩
theorem aw_about {W w' : World} {vE vB vC vF : Value} {e : Ending} (h : AboutPost W 0 4 (atC exP (exES vE vB vC vF)) exT exFs ⟨1, 0, exCp⟩ e w') : ∃ p c, e = .returned (.tuple #[.slice p 0 c, .int .i64 0]) ∧ W.grownBy w' none := by
  obtain ⟨p, m, c, he, g, -, hA⟩ := h
  rw [ex_lk1 vE vB vC vF] at he
  have o := hA exRw _ rfl (ex_tab1 vE vB vC vF) ex_list5
  rw [ex_about] at o
  obtain ⟨q, cap, e1, -⟩ := own_slice o
  cases e1
  exact ⟨_, _, he, g⟩
theorem aw_all2 {W w' : World} {vE vB vC vF : Value} {e : Ending} (h : AllPost W 0 4 (atC exP (exES vE vB vC vF)) exT exFs 2 e w') : ∃ g c g' c', e = .returned (.tuple #[.slice (some ⟨g, 0, none⟩) 4 c, .slice (some ⟨g', 0, none⟩) 1 c', .int .i64 0]) ∧ (w'.cell? ⟨g, 11, none⟩ = some (.int .u8 6) ∧ w'.cell? ⟨g, 16, none⟩ = some (.int .u8 2) ∧ w'.cell? ⟨g', 0, none⟩ = some (.int .i64 2)) ∧ feR.At w' (.slice (some ⟨g, 0, none⟩) 4 c) exTwo ∧ W.grownBy w' none := by
  obtain ⟨p, m, c, p', m', c', he, g, -, hA⟩ := h
  rw [ex_bg1 vE vB vC vF 2 (by decide)] at he
  obtain ⟨o, o'⟩ := hA exRw rfl (by decide) (ex_tab1 vE vB vC vF)
  rw [ex_all2] at o o'
  rw [ex_amg2] at o
  obtain ⟨q, cap, e1, -, -, -, -, hc⟩ := own_cell o (by decide)
  cases e1
  obtain ⟨q', cap', e1, -, -, -, -, hc'⟩ := own_cell o' (by decide)
  cases e1
  exact ⟨q, c, q', c', he, ⟨(hc 11 (by decide)).1.trans rfl, (hc 16 (by decide)).1.trans rfl, (hc' 0 (by decide)).1.trans rfl⟩, RecT.Own.at o, g⟩
theorem aw_all5 {W w' : World} {vE vB vC vF : Value} {e : Ending} (h : AllPost W 0 4 (atC exP (exES vE vB vC vF)) exT exTwo 5 e w') : ∃ g c p m c', e = .returned (.tuple #[.slice (some ⟨g, 0, none⟩) 4 c, .slice p m c', .int .i64 0]) ∧ (w'.cell? ⟨g, 13, none⟩ = some (.int .i64 3) ∧ w'.cell? ⟨g, 14, none⟩ = some (.int .i64 3) ∧ w'.cell? ⟨g, 18, none⟩ = some (.int .i64 2)) ∧ W.grownBy w' none := by
  obtain ⟨p, m, c, p', m', c', he, g, -, hA⟩ := h
  rw [ex_bg2 vE vB vC vF 5 (by decide)] at he
  obtain ⟨o, -⟩ := hA exRw rfl (by decide) (ex_tab2 vE vB vC vF)
  rw [ex_all5, ex_amg5] at o
  obtain ⟨q, cap, e1, -, -, -, -, hc⟩ := own_cell o (by decide)
  cases e1
  exact ⟨q, c, _, _, _, he, ⟨(hc 13 (by decide)).1.trans rfl, (hc 14 (by decide)).1.trans rfl, (hc 18 (by decide)).1.trans rfl⟩, g⟩
structure AwS (w W : World) (b nb S : Nat) (vE vB vC vF vt vf : Value) : Prop where
  ex : ExR w W b S vE vB vC vF vt vf
  tab : TabB W nb vt vf
theorem ExR.keep {w W W' : World} {b S : Nat} {vE vB vC vF vt vf : Value} (h : ExR w W b S vE vB vC vF vt vf) (g : W.grownBy W' none) : ExR w W' b S vE vB vC vF vt vf := ⟨h.bk.keep g, own_grow h.th g, own_grow h.fe g, grown_trans h.gr g, h.lie⟩
theorem AwS.keep {w W W' : World} {b nb S : Nat} {vE vB vC vF vt vf : Value} (h : AwS w W b nb S vE vB vC vF vt vf) (g : W.grownBy W' none) : AwS w W' b nb S vE vB vC vF vt vf := ⟨h.ex.keep g, grown_keep g h.tab (by simp)⟩
theorem ExR.inn {w W : World} {b S : Nat} {vE vB vC vF vt vf : Value} (h : ExR w W b S vE vB vC vF vt vf) : LIn W (.pointer (some ⟨b, 0, none⟩)) vt vf 0 4 (atC exP (exES vE vB vC vF)) exT exFs := LIn.of h.bk (RecT.Own.at h.th) (RecT.Own.at h.fe) (by decide)
theorem ExR.inn2 {w W : World} {b S : Nat} {vE vB vC vF vt vf v : Value} (h : ExR w W b S vE vB vC vF vt vf) (A : feR.At W v exTwo) : LIn W (.pointer (some ⟨b, 0, none⟩)) vt v 0 4 (atC exP (exES vE vB vC vF)) exT exTwo := LIn.of h.bk (RecT.Own.at h.th) A (by decide)
set_option maxRecDepth 100000 in
set_option maxHeartbeats 4000000 in
theorem lawake_any (w : World) : Calls Tryz.prog 9 #[] w fun e w' => e = .returned (.bool true) ∧ w.grownBy w' none := by
  have HE := lexample_any w
  obtain ⟨b, hb⟩ : ∃ b, b = w.heap.size + 1 := ⟨_, rfl⟩
  rw [← hb] at HE
  clear hb
  go_enter Tryz.func9, Tryz.ntmps9
  go_wp2_with fail
  refine HE.mono ?_
  rintro e w1 ⟨vE, vB, vC, vF, vt, vf, S, rfl, X1⟩
  obtain ⟨pt, ct, rfl⟩ : ∃ p c, vt = .slice p 4 c := X1.th.form
  obtain ⟨pf, cf, rfl⟩ : ∃ p c, vf = .slice p 4 c := X1.fe.form
  obtain ⟨V, hV⟩ : ∃ V, V = w1.alloc (.cells #[.slice pt 4 ct, .slice pf 4 cf] 29) := ⟨_, rfl⟩
  have HA : Hid (AwS w V b w1.heap.size S vE vB vC vF (.slice pt 4 ct) (.slice pf 4 cf)) := by rw [hV]; exact ⟨X1.keep (World.grownBy_alloc _ _ none), alloc_at _ _ _⟩
  clear HE X1
  go_upto_region 2 with fail
  rw [← hV]
  obtain ⟨nb, hnb⟩ : ∃ nb, nb = w1.heap.size := ⟨_, rfl⟩
  rw [← hnb] at HA ⊢
  clear hV hnb
  have C1 := lEffects_any _ _ _ 0 4 _ exT exFs 5 V HA.out.ex.inn
  obtain ⟨t0, t1⟩ := tab_box HA.out.tab
  go_wp2_with fail
  refine (C1.mono fun e w' q => aw_eff q).mono ?_
  rintro e2 w2 ⟨g, c, rfl, R2, g2⟩
  have HA2 : Hid (AwS w w2 b nb S vE vB vC vF (.slice pt 4 ct) (.slice pf 4 cf)) := HA.out.keep g2
  obtain ⟨s0, s1, s2, s3, s4, s5, s6, s7, s8, s9⟩ := sd_cells R2
  simp only [Nat.zero_add, exCp] at s0 s1 s2 s3 s4 s5 s6 s7 s8 s9
  clear C1 g2 HA t0 t1 R2
  obtain ⟨t0, t1⟩ := tab_box HA2.out.tab
  have C2 := lAbout_any _ _ _ 0 4 _ exT exFs ⟨1, 0, exCp⟩ w2.drew (HA2.out.keep (grown_drew _)).ex.inn
  unfold sdv exCp at C2
  have h01 : (0 : Int) < ((1 : Nat) : Int) := by decide
  go_upto_region 5 with fail
  refine wp_region_held_drew (S := fun w' => w2.grownBy w' none) (by kernel_rfl) (grown_drew _) (fun hHeld => ?_)
  refine wpAnyH_take (i := 0) (v := ?_) rfl (by kernel_rfl) (by kernel_rfl) (by kernel_rfl) (fun _ _ _ h => h) (Or.inl ⟨by rfl, ?_⟩) (by assumption) ?_
  rotate_left 1
  · (intro w0 hSw; go_simp; try with_reducible rfl)
  simp only [List.getElem_toArray, List.getElem_cons_zero]
  go_frame
  refine wpAnyH_take (i := 1) (v := ?_) rfl (by kernel_rfl) (by kernel_rfl) (by kernel_rfl) (fun _ _ _ h => h) (Or.inl ⟨by rfl, ?_⟩) (by assumption) ?_
  rotate_left 1
  · (intro w0 hSw; go_simp; try with_reducible rfl)
  simp only [List.getElem_toArray, List.getElem_cons_zero, List.getElem_cons_succ]
  go_frame
  refine wpAnyH_take (i := 2) (v := ?_) rfl (by kernel_rfl) (by kernel_rfl) (by kernel_rfl) (fun _ _ _ h => h) (Or.inl ⟨by rfl, ?_⟩) (by assumption) ?_
  rotate_left 1
  · (intro w0 hSw; have t0 := hSw.cell t0 (by simp); go_simp; try with_reducible rfl)
  simp only [List.getElem_toArray, List.getElem_cons_zero, List.getElem_cons_succ]
  go_frame
  refine wpAnyH_take (i := 3) (v := ?_) rfl (by kernel_rfl) (by kernel_rfl) (by kernel_rfl) (fun _ _ _ h => h) (Or.inl ⟨by rfl, ?_⟩) (by assumption) ?_
  rotate_left 1
  · (intro w0 hSw; go_simp; try with_reducible rfl)
  simp only [List.getElem_toArray, List.getElem_cons_zero, List.getElem_cons_succ]
  go_frame
  refine wpAnyH_take (i := 4) (v := ?_) rfl (by kernel_rfl) (by kernel_rfl) (by kernel_rfl) (fun _ _ _ h => h) (Or.inl ⟨by rfl, ?_⟩) (by assumption) ?_
  rotate_left 1
  · (intro w0 hSw; have t1 := hSw.cell t1 (by simp); go_simp; try with_reducible rfl)
  simp only [List.getElem_toArray, List.getElem_cons_zero, List.getElem_cons_succ]
  go_frame
  refine wpAnyH_take (i := 5) (v := ?_) rfl (by kernel_rfl) (by kernel_rfl) (by kernel_rfl) (fun _ _ _ h => h) (Or.inl ⟨by rfl, ?_⟩) (by assumption) ?_
  rotate_left 1
  · (intro w0 hSw; go_simp; try with_reducible rfl)
  simp only [List.getElem_toArray, List.getElem_cons_zero, List.getElem_cons_succ]
  go_frame
  refine wpAnyH_take (i := 6) (v := ?_) rfl (by kernel_rfl) (by kernel_rfl) (by kernel_rfl) (fun _ _ _ h => h) (Or.inl ⟨by rfl, ?_⟩) (by assumption) ?_
  rotate_left 1
  · (intro w0 hSw; go_simp; try with_reducible rfl)
  simp only [List.getElem_toArray, List.getElem_cons_zero, List.getElem_cons_succ]
  go_frame
  refine wpAnyH_take (i := 7) (v := ?_) rfl (by kernel_rfl) (by kernel_rfl) (by kernel_rfl) (fun _ _ _ h => h) (Or.inl ⟨by rfl, ?_⟩) (by assumption) ?_
  rotate_left 1
  · (intro w0 hSw; have s0 := hSw.cell s0 (by simp); have s1 := hSw.cell s1 (by simp); have s2 := hSw.cell s2 (by simp); have s3 := hSw.cell s3 (by simp); have s4 := hSw.cell s4 (by simp); have s5 := hSw.cell s5 (by simp); have s6 := hSw.cell s6 (by simp); have s7 := hSw.cell s7 (by simp); have s8 := hSw.cell s8 (by simp); have s9 := hSw.cell s9 (by simp); go_simp; try with_reducible rfl)
  simp only [List.getElem_toArray, List.getElem_cons_zero, List.getElem_cons_succ]
  go_frame
  refine wpAnyH_ready (rs := [8]) (by kernel_rfl) (by simp) ?_
  refine AllReadyH.cons rfl (fun K hK => ?_) AllReadyH.nil
  simp only [List.getElem_toArray, List.getElem_cons_zero, List.getElem_cons_succ]
  go_simp
  go_at_call 14
  refine (C2).mono ?_
  rintro e3 w3 q3
  obtain ⟨p3, c3, rfl, g3⟩ := aw_about q3
  have HG3 : Hid (w2.grownBy w3 none) := grown_trans (grown_drew _) g3
  clear C2 g3 q3
  refine hK.out _ _ (HG3.out) (fun hHeld2 => ?_)
  clear hK K
  (try go_frame)
  refine wpAnyH_take (i := 9) (v := ?_) rfl (by kernel_rfl) (by kernel_rfl) (by kernel_rfl) (fun _ _ _ h => h) (Or.inl ⟨by rfl, ?_⟩) (by assumption) ?_
  rotate_left 1
  · (intro w0 hSw; go_simp; try with_reducible rfl)
  simp only [List.getElem_toArray, List.getElem_cons_zero, List.getElem_cons_succ]
  go_frame
  refine wpAnyH_take (i := 10) (v := ?_) rfl (by kernel_rfl) (by kernel_rfl) (by kernel_rfl) (fun _ _ _ h => h) (Or.inl ⟨by rfl, ?_⟩) (by assumption) ?_
  rotate_left 1
  · (intro w0 hSw; go_simp; try with_reducible rfl)
  simp only [List.getElem_toArray, List.getElem_cons_zero, List.getElem_cons_succ]
  go_frame
  refine wpAnyH_take (i := 11) (v := ?_) rfl (by kernel_rfl) (by kernel_rfl) (by kernel_rfl) (fun _ _ _ h => h) (Or.inl ⟨by rfl, ?_⟩) (by assumption) ?_
  rotate_left 1
  · (intro w0 hSw; go_simp; try with_reducible rfl)
  simp only [List.getElem_toArray, List.getElem_cons_zero, List.getElem_cons_succ]
  go_frame
  refine wpAnyH_take (i := 12) (v := ?_) rfl (by kernel_rfl) (by kernel_rfl) (by kernel_rfl) (fun _ _ _ h => h) (Or.inl ⟨by rfl, ?_⟩) (by assumption) ?_
  rotate_left 1
  · (intro w0 hSw; go_simp; try with_reducible rfl)
  simp only [List.getElem_toArray, List.getElem_cons_zero, List.getElem_cons_succ]
  go_frame
  refine wpAnyH_take (i := 13) (v := ?_) rfl (by kernel_rfl) (by kernel_rfl) (by kernel_rfl) (fun _ _ _ h => h) (Or.inl ⟨by rfl, ?_⟩) (by assumption) ?_
  rotate_left 1
  · (intro w0 hSw; go_simp; try with_reducible rfl)
  simp only [List.getElem_toArray, List.getElem_cons_zero, List.getElem_cons_succ]
  go_frame
  refine wpAnyH_done (by kernel_rfl) ?_ _
  have HA3 : Hid (AwS w w3 b nb S vE vB vC vF (.slice pt 4 ct) (.slice pf 4 cf)) := HA2.out.keep HG3.out
  clear t0 t1 s0 s1 s2 s3 s4 s5 s6 s7 s8 s9 HA2 HG3 hHeld hHeld2
  have C3 := lAll_any _ _ _ 0 4 _ exT exFs 2 w3 HA3.out.ex.inn
  obtain ⟨t0, t1⟩ := tab_box HA3.out.tab
  go_wp2_with fail
  refine (C3.mono fun e w' q => aw_all2 q).mono ?_
  rintro e4 w4 ⟨g4, c4, g4', c4', rfl, ⟨d0, d1, d2⟩, F4, gr4⟩
  have HA4 : Hid (AwS w w4 b nb S vE vB vC vF (.slice pt 4 ct) (.slice pf 4 cf)) := HA3.out.keep gr4
  have C4 := lAll_any _ _ _ 0 4 _ exT exTwo 5 w4 (HA4.out.ex.inn2 F4)
  clear t0 t1 C3 HA3 gr4 F4
  obtain ⟨t0, t1⟩ := tab_box HA4.out.tab
  go_wp2_with fail
  refine (C4.mono fun e w' q => aw_all5 q).mono ?_
  rintro e5 w5 ⟨g5, c5, p5, m5, c5', rfl, ⟨f0, f1, f2⟩, gr5⟩
  have HG5 : Hid (w.grownBy w5 none) := (HA4.out.keep gr5).ex.gr
  clear t0 t1 d0 d1 d2 C4 HA4 gr5
  go_wp2_with fail
  go_ret
  exact ⟨rfl, HG5.out⟩
end Go.Proofs.YtmemeloehgemcaaGreat
