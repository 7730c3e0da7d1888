/-
  Layers: the chapter's examples, plainly.
  Layers: awake.
  LayerNone: what is answered of no book.
  Layers: a table and a standing effect, read as data.
  Layers' laws, small helpers: Pick; lists copied; lists held against lists that are the same; heavy.
  SameFeatures, SameStandings of lists that are the same.
-/
import Derived.Test.YtmemeloehgemcaaGreatL33
import Derived.Test.YtmemeloehgemcaaGreatLzI
import Derived.Test.YtmemeloehgemcaaGreatL14
import Derived.Test.YtmemeloehgemcaaGreatL13
import Derived.Test.YtmemeloehgemcaaGreatL3
import Derived.BigQuiet
namespace Go.Proofs.YtmemeloehgemcaaGreat
open Go.RowKit Go.Shelf

def exRw : List Rw := [⟨1, 1, exC, [exCp]⟩, ⟨2, 2, exB, [exBp]⟩, ⟨3, 3, exE, []⟩, ⟨4, 4, exE, []⟩]
def exTwo : List Fe := [⟨0, 6, 0, 0, 0⟩, ⟨0, 6, 0, 0, 0⟩, ⟨0, 6, 0, 2, 2⟩, ⟨1, 2, 0, 2, 2⟩]
def exFive : List Fe := [⟨0, 6, 0, 0, 0⟩, ⟨0, 6, 0, 0, 0⟩, ⟨0, 6, 0, 3, 3⟩, ⟨1, 2, 0, 2, 2⟩]
theorem ex_sort : sortR exRw = exRw := List.mergeSort_of_pairwise (by unfold exRw; simp)
theorem ex_tab1 (vE vB vC vF : Value) : tabR 4 (atC exP (exES vE vB vC vF)) exT exFs = some exRw := by
  unfold tabR
  rw [if_pos (show exT.length = exFs.length from rfl), show layF 4 (atC exP (exES vE vB vC vF)) (exT.zip exFs) 0 [] = some exRw from by kernel_rfl]
  simp only [ex_sort]
  rfl
theorem ex_tab2 (vE vB vC vF : Value) : tabR 4 (atC exP (exES vE vB vC vF)) exT exTwo = some exRw := by
  unfold tabR
  rw [if_pos (show exT.length = exTwo.length from rfl), show layF 4 (atC exP (exES vE vB vC vF)) (exT.zip exTwo) 0 [] = some exRw from by kernel_rfl]
  simp only [ex_sort]
  rfl
theorem ex_eff5 : effL exRw (pickF exRw exFs) 5 = [⟨⟨1, 0, exCp⟩, 0⟩] := by kernel_rfl
theorem ex_about : numL exRw (aboutL exRw (pickF exRw exFs) ⟨⟨1, 0, exCp⟩, 0⟩) = [] := by kernel_rfl
theorem ex_list5 : listF exRw [⟨1, 0, exCp⟩] [] = some [⟨⟨1, 0, exCp⟩, 0⟩] := by kernel_rfl
theorem ex_all2 : allR exRw exFs 2 = (exTwo, [⟨⟨2, 0, exBp⟩, 1⟩]) := by kernel_rfl
theorem ex_amg2 : amgL exFs exRw exTwo = exTwo := by kernel_rfl
theorem ex_all5 : (allR exRw exTwo 5).1 = exFive := by kernel_rfl
theorem ex_amg5 : amgL exTwo exRw exFive = exFive := by kernel_rfl
theorem ex_bg1 (vE vB vC vF : Value) (k : Int) (h : 1 ≤ k ∧ k ≤ 5) : bgE 0 4 (atC exP (exES vE vB vC vF)) exT exFs k = 0 := bgE_ok (ex_tab1 vE vB vC vF) h
theorem ex_bg2 (vE vB vC vF : Value) (k : Int) (h : 1 ≤ k ∧ k ≤ 5) : bgE 0 4 (atC exP (exES vE vB vC vF)) exT exTwo k = 0 := bgE_ok (ex_tab2 vE vB vC vF) h
theorem ex_lk1 (vE vB vC vF : Value) : lkE 0 4 (atC exP (exES vE vB vC vF)) exT exFs [⟨1, 0, exCp⟩] = 0 := lkE_ok (ex_tab1 vE vB vC vF) ex_list5
end Go.Proofs.YtmemeloehgemcaaGreat
namespace Go.Proofs.YtmemeloehgemcaaGreat
open Go.RowKit Go.Shelf

theorem aw_eff {W w' : World} {vE vB vC vF : Value} {e : Ending} (h : EffectsPost W 0 4 (atC exP (exES vE vB vC vF)) exT exFs 5 e w') : ∃ g c, e = .returned (.tuple #[.slice (some ⟨g, 0, none⟩) 1 c, .int .i64 0]) ∧ w'.rangeAt g 0 (sdc ⟨1, 0, exCp⟩) ∧ W.grownBy w' none := by
  obtain ⟨p, m, c, he, g, -, hA⟩ := h
  rw [ex_bg1 vE vB vC vF 5 (by decide)] at he
  have o := hA exRw rfl (by decide) (ex_tab1 vE vB vC vF)
  rw [ex_eff5] at o
  obtain ⟨q, cap, e1, -, -, -, -, hc⟩ := own_cell o (by decide)
  cases e1
  exact ⟨q, c, he, fun i v hv => by
    have hi : i < 10 := (List.getElem?_eq_some_iff.1 hv).1
    rw [Nat.zero_add, (hc i (by show i < 1 * 10; omega)).1, ← hv]
    exact congrArg (·[i]?) (show sdR.cs [⟨1, 0, exCp⟩] = sdc ⟨1, 0, exCp⟩ from rfl), g⟩
theorem aw_about {W w' : World} {vE vB vC vF : Value} {e : Ending} (h : AboutPost W 0 4 (atC exP (exES vE vB vC vF)) exT exFs ⟨1, 0, exCp⟩ e w') : ∃ p c, e = .returned (.tuple #[.slice p 0 c, .int .i64 0]) ∧ W.grownBy w' none := by
  obtain ⟨p, m, c, he, g, -, hA⟩ := h
  rw [ex_lk1 vE vB vC vF] at he
  have o := hA exRw _ rfl (ex_tab1 vE vB vC vF) ex_list5
  rw [ex_about] at o
  obtain ⟨q, cap, e1, -⟩ := own_slice o
  cases e1
  exact ⟨_, _, he, g⟩
theorem aw_all2 {W w' : World} {vE vB vC vF : Value} {e : Ending} (h : AllPost W 0 4 (atC exP (exES vE vB vC vF)) exT exFs 2 e w') : ∃ g c g' c', e = .returned (.tuple #[.slice (some ⟨g, 0, none⟩) 4 c, .slice (some ⟨g', 0, none⟩) 1 c', .int .i64 0]) ∧ (w'.cell? ⟨g, 11, none⟩ = some (.int .u8 6) ∧ w'.cell? ⟨g, 16, none⟩ = some (.int .u8 2) ∧ w'.cell? ⟨g', 0, none⟩ = some (.int .i64 2)) ∧ feR.At w' (.slice (some ⟨g, 0, none⟩) 4 c) exTwo ∧ W.grownBy w' none := by
  obtain ⟨p, m, c, p', m', c', he, g, -, hA⟩ := h
  rw [ex_bg1 vE vB vC vF 2 (by decide)] at he
  obtain ⟨o, o'⟩ := hA exRw rfl (by decide) (ex_tab1 vE vB vC vF)
  rw [ex_all2] at o o'
  rw [ex_amg2] at o
  obtain ⟨q, cap, e1, -, -, -, -, hc⟩ := own_cell o (by decide)
  cases e1
  obtain ⟨q', cap', e1, -, -, -, -, hc'⟩ := own_cell o' (by decide)
  cases e1
  exact ⟨q, c, q', c', he, ⟨(hc 11 (by decide)).1.trans rfl, (hc 16 (by decide)).1.trans rfl, (hc' 0 (by decide)).1.trans rfl⟩, RecT.Own.at o, g⟩
theorem aw_all5 {W w' : World} {vE vB vC vF : Value} {e : Ending} (h : AllPost W 0 4 (atC exP (exES vE vB vC vF)) exT exTwo 5 e w') : ∃ g c p m c', e = .returned (.tuple #[.slice (some ⟨g, 0, none⟩) 4 c, .slice p m c', .int .i64 0]) ∧ (w'.cell? ⟨g, 13, none⟩ = some (.int .i64 3) ∧ w'.cell? ⟨g, 14, none⟩ = some (.int .i64 3) ∧ w'.cell? ⟨g, 18, none⟩ = some (.int .i64 2)) ∧ W.grownBy w' none := by
  obtain ⟨p, m, c, p', m', c', he, g, -, hA⟩ := h
  rw [ex_bg2 vE vB vC vF 5 (by decide)] at he
  obtain ⟨o, -⟩ := hA exRw rfl (by decide) (ex_tab2 vE vB vC vF)
  rw [ex_all5, ex_amg5] at o
  obtain ⟨q, cap, e1, -, -, -, -, hc⟩ := own_cell o (by decide)
  cases e1
  exact ⟨q, c, _, _, _, he, ⟨(hc 13 (by decide)).1.trans rfl, (hc 14 (by decide)).1.trans rfl, (hc 18 (by decide)).1.trans rfl⟩, g⟩
/-- What stands while awake asks. -/
structure AwS (w W : World) (b nb S : Nat) (vE vB vC vF vt vf : Value) : Prop where
  ex : ExR w W b S vE vB vC vF vt vf
  tab : TabB W nb vt vf
theorem ExR.keep {w W W' : World} {b S : Nat} {vE vB vC vF vt vf : Value} (h : ExR w W b S vE vB vC vF vt vf) (g : W.grownBy W' none) : ExR w W' b S vE vB vC vF vt vf := ⟨h.bk.keep g, own_grow h.th g, own_grow h.fe g, grown_trans h.gr g, h.lie⟩
theorem AwS.keep {w W W' : World} {b nb S : Nat} {vE vB vC vF vt vf : Value} (h : AwS w W b nb S vE vB vC vF vt vf) (g : W.grownBy W' none) : AwS w W' b nb S vE vB vC vF vt vf := ⟨h.ex.keep g, grown_keep g h.tab (by simp)⟩
theorem ExR.inn {w W : World} {b S : Nat} {vE vB vC vF vt vf : Value} (h : ExR w W b S vE vB vC vF vt vf) : LIn W (.pointer (some ⟨b, 0, none⟩)) vt vf 0 4 (atC exP (exES vE vB vC vF)) exT exFs := LIn.of h.bk (RecT.Own.at h.th) (RecT.Own.at h.fe) (by decide)
theorem ExR.inn2 {w W : World} {b S : Nat} {vE vB vC vF vt vf v : Value} (h : ExR w W b S vE vB vC vF vt vf) (A : feR.At W v exTwo) : LIn W (.pointer (some ⟨b, 0, none⟩)) vt v 0 4 (atC exP (exES vE vB vC vF)) exT exTwo := LIn.of h.bk (RecT.Own.at h.th) A (by decide)
set_option maxRecDepth 100000 in
set_option maxHeartbeats 4000000 in
theorem lawake_any (w : World) : Calls Tryz.prog 9 #[] w fun e w' => e = .returned (.bool true) ∧ w.grownBy w' none := by
  have HE := lexample_any w
  obtain ⟨b, hb⟩ : ∃ b, b = w.heap.size + 1 := ⟨_, rfl⟩
  rw [← hb] at HE
  clear hb
  go_enter Tryz.func9, Tryz.ntmps9
  go_wp2_with fail
  refine HE.mono ?_
  rintro e w1 ⟨vE, vB, vC, vF, vt, vf, S, rfl, X1⟩
  obtain ⟨pt, ct, rfl⟩ : ∃ p c, vt = .slice p 4 c := X1.th.form
  obtain ⟨pf, cf, rfl⟩ : ∃ p c, vf = .slice p 4 c := X1.fe.form
  obtain ⟨V, hV⟩ : ∃ V, V = w1.alloc (.cells #[.slice pt 4 ct, .slice pf 4 cf] 29) := ⟨_, rfl⟩
  have HA : Hid (AwS w V b w1.heap.size S vE vB vC vF (.slice pt 4 ct) (.slice pf 4 cf)) := by rw [hV]; exact ⟨X1.keep (World.grownBy_alloc _ _ none), alloc_at _ _ _⟩
  clear HE X1
  go_upto_region 2 with fail
  rw [← hV]
  obtain ⟨nb, hnb⟩ : ∃ nb, nb = w1.heap.size := ⟨_, rfl⟩
  rw [← hnb] at HA ⊢
  clear hV hnb
  have C1 := lEffects_any _ _ _ 0 4 _ exT exFs 5 V HA.out.ex.inn
  obtain ⟨t0, t1⟩ := tab_box HA.out.tab
  go_wp2_with fail
  refine (C1.mono fun e w' q => aw_eff q).mono ?_
  rintro e2 w2 ⟨g, c, rfl, R2, g2⟩
  have HA2 : Hid (AwS w w2 b nb S vE vB vC vF (.slice pt 4 ct) (.slice pf 4 cf)) := HA.out.keep g2
  obtain ⟨s0, s1, s2, s3, s4, s5, s6, s7, s8, s9⟩ := sd_cells R2
  simp only [Nat.zero_add, exCp] at s0 s1 s2 s3 s4 s5 s6 s7 s8 s9
  clear C1 g2 HA t0 t1 R2
  obtain ⟨t0, t1⟩ := tab_box HA2.out.tab
  have C2 := lAbout_any _ _ _ 0 4 _ exT exFs ⟨1, 0, exCp⟩ w2.drew (HA2.out.keep (grown_drew _)).ex.inn
  unfold sdv exCp at C2
  have h01 : (0 : Int) < ((1 : Nat) : Int) := by decide
  go_upto_region 5 with fail
  refine wp_region_held_drew (S := fun w' => w2.grownBy w' none) (by kernel_rfl) (grown_drew _) (fun hHeld => ?_)
  refine wpAnyH_take (i := 0) (v := ?_) rfl (by kernel_rfl) (by kernel_rfl) (by kernel_rfl) (fun _ _ _ h => h) (Or.inl ⟨by rfl, ?_⟩) (by assumption) ?_
  rotate_left 1
  · (intro w0 hSw; go_simp; try with_reducible rfl)
  simp only [List.getElem_toArray, List.getElem_cons_zero]
  go_frame
  refine wpAnyH_take (i := 1) (v := ?_) rfl (by kernel_rfl) (by kernel_rfl) (by kernel_rfl) (fun _ _ _ h => h) (Or.inl ⟨by rfl, ?_⟩) (by assumption) ?_
  rotate_left 1
  · (intro w0 hSw; go_simp; try with_reducible rfl)
  simp only [List.getElem_toArray, List.getElem_cons_zero, List.getElem_cons_succ]
  go_frame
  refine wpAnyH_take (i := 2) (v := ?_) rfl (by kernel_rfl) (by kernel_rfl) (by kernel_rfl) (fun _ _ _ h => h) (Or.inl ⟨by rfl, ?_⟩) (by assumption) ?_
  rotate_left 1
  · (intro w0 hSw; have t0 := hSw.cell t0 (by simp); go_simp; try with_reducible rfl)
  simp only [List.getElem_toArray, List.getElem_cons_zero, List.getElem_cons_succ]
  go_frame
  refine wpAnyH_take (i := 3) (v := ?_) rfl (by kernel_rfl) (by kernel_rfl) (by kernel_rfl) (fun _ _ _ h => h) (Or.inl ⟨by rfl, ?_⟩) (by assumption) ?_
  rotate_left 1
  · (intro w0 hSw; go_simp; try with_reducible rfl)
  simp only [List.getElem_toArray, List.getElem_cons_zero, List.getElem_cons_succ]
  go_frame
  refine wpAnyH_take (i := 4) (v := ?_) rfl (by kernel_rfl) (by kernel_rfl) (by kernel_rfl) (fun _ _ _ h => h) (Or.inl ⟨by rfl, ?_⟩) (by assumption) ?_
  rotate_left 1
  · (intro w0 hSw; have t1 := hSw.cell t1 (by simp); go_simp; try with_reducible rfl)
  simp only [List.getElem_toArray, List.getElem_cons_zero, List.getElem_cons_succ]
  go_frame
  refine wpAnyH_take (i := 5) (v := ?_) rfl (by kernel_rfl) (by kernel_rfl) (by kernel_rfl) (fun _ _ _ h => h) (Or.inl ⟨by rfl, ?_⟩) (by assumption) ?_
  rotate_left 1
  · (intro w0 hSw; go_simp; try with_reducible rfl)
  simp only [List.getElem_toArray, List.getElem_cons_zero, List.getElem_cons_succ]
  go_frame
  refine wpAnyH_take (i := 6) (v := ?_) rfl (by kernel_rfl) (by kernel_rfl) (by kernel_rfl) (fun _ _ _ h => h) (Or.inl ⟨by rfl, ?_⟩) (by assumption) ?_
  rotate_left 1
  · (intro w0 hSw; go_simp; try with_reducible rfl)
  simp only [List.getElem_toArray, List.getElem_cons_zero, List.getElem_cons_succ]
  go_frame
  refine wpAnyH_take (i := 7) (v := ?_) rfl (by kernel_rfl) (by kernel_rfl) (by kernel_rfl) (fun _ _ _ h => h) (Or.inl ⟨by rfl, ?_⟩) (by assumption) ?_
  rotate_left 1
  · (intro w0 hSw; have s0 := hSw.cell s0 (by simp); have s1 := hSw.cell s1 (by simp); have s2 := hSw.cell s2 (by simp); have s3 := hSw.cell s3 (by simp); have s4 := hSw.cell s4 (by simp); have s5 := hSw.cell s5 (by simp); have s6 := hSw.cell s6 (by simp); have s7 := hSw.cell s7 (by simp); have s8 := hSw.cell s8 (by simp); have s9 := hSw.cell s9 (by simp); go_simp; try with_reducible rfl)
  simp only [List.getElem_toArray, List.getElem_cons_zero, List.getElem_cons_succ]
  go_frame
  refine wpAnyH_ready (rs := [8]) (by kernel_rfl) (by simp) ?_
  refine AllReadyH.cons rfl (fun K hK => ?_) AllReadyH.nil
  simp only [List.getElem_toArray, List.getElem_cons_zero, List.getElem_cons_succ]
  go_simp
  go_at_call 14
  refine (C2).mono ?_
  rintro e3 w3 q3
  obtain ⟨p3, c3, rfl, g3⟩ := aw_about q3
  have HG3 : Hid (w2.grownBy w3 none) := grown_trans (grown_drew _) g3
  clear C2 g3 q3
  refine hK.out _ _ (HG3.out) (fun hHeld2 => ?_)
  clear hK K
  (try go_frame)
  refine wpAnyH_take (i := 9) (v := ?_) rfl (by kernel_rfl) (by kernel_rfl) (by kernel_rfl) (fun _ _ _ h => h) (Or.inl ⟨by rfl, ?_⟩) (by assumption) ?_
  rotate_left 1
  · (intro w0 hSw; go_simp; try with_reducible rfl)
  simp only [List.getElem_toArray, List.getElem_cons_zero, List.getElem_cons_succ]
  go_frame
  refine wpAnyH_take (i := 10) (v := ?_) rfl (by kernel_rfl) (by kernel_rfl) (by kernel_rfl) (fun _ _ _ h => h) (Or.inl ⟨by rfl, ?_⟩) (by assumption) ?_
  rotate_left 1
  · (intro w0 hSw; go_simp; try with_reducible rfl)
  simp only [List.getElem_toArray, List.getElem_cons_zero, List.getElem_cons_succ]
  go_frame
  refine wpAnyH_take (i := 11) (v := ?_) rfl (by kernel_rfl) (by kernel_rfl) (by kernel_rfl) (fun _ _ _ h => h) (Or.inl ⟨by rfl, ?_⟩) (by assumption) ?_
  rotate_left 1
  · (intro w0 hSw; go_simp; try with_reducible rfl)
  simp only [List.getElem_toArray, List.getElem_cons_zero, List.getElem_cons_succ]
  go_frame
  refine wpAnyH_take (i := 12) (v := ?_) rfl (by kernel_rfl) (by kernel_rfl) (by kernel_rfl) (fun _ _ _ h => h) (Or.inl ⟨by rfl, ?_⟩) (by assumption) ?_
  rotate_left 1
  · (intro w0 hSw; go_simp; try with_reducible rfl)
  simp only [List.getElem_toArray, List.getElem_cons_zero, List.getElem_cons_succ]
  go_frame
  refine wpAnyH_take (i := 13) (v := ?_) rfl (by kernel_rfl) (by kernel_rfl) (by kernel_rfl) (fun _ _ _ h => h) (Or.inl ⟨by rfl, ?_⟩) (by assumption) ?_
  rotate_left 1
  · (intro w0 hSw; go_simp; try with_reducible rfl)
  simp only [List.getElem_toArray, List.getElem_cons_zero, List.getElem_cons_succ]
  go_frame
  refine wpAnyH_done (by kernel_rfl) ?_ _
  have HA3 : Hid (AwS w w3 b nb S vE vB vC vF (.slice pt 4 ct) (.slice pf 4 cf)) := HA2.out.keep HG3.out
  clear t0 t1 s0 s1 s2 s3 s4 s5 s6 s7 s8 s9 HA2 HG3 hHeld hHeld2
  have C3 := lAll_any _ _ _ 0 4 _ exT exFs 2 w3 HA3.out.ex.inn
  obtain ⟨t0, t1⟩ := tab_box HA3.out.tab
  go_wp2_with fail
  refine (C3.mono fun e w' q => aw_all2 q).mono ?_
  rintro e4 w4 ⟨g4, c4, g4', c4', rfl, ⟨d0, d1, d2⟩, F4, gr4⟩
  have HA4 : Hid (AwS w w4 b nb S vE vB vC vF (.slice pt 4 ct) (.slice pf 4 cf)) := HA3.out.keep gr4
  have C4 := lAll_any _ _ _ 0 4 _ exT exTwo 5 w4 (HA4.out.ex.inn2 F4)
  clear t0 t1 C3 HA3 gr4 F4
  obtain ⟨t0, t1⟩ := tab_box HA4.out.tab
  go_wp2_with fail
  refine (C4.mono fun e w' q => aw_all5 q).mono ?_
  rintro e5 w5 ⟨g5, c5, p5, m5, c5', rfl, ⟨f0, f1, f2⟩, gr5⟩
  have HG5 : Hid (w.grownBy w5 none) := (HA4.out.keep gr5).ex.gr
  clear t0 t1 d0 d1 d2 C4 HA4 gr5
  go_wp2_with fail
  go_ret
  exact ⟨rfl, HG5.out⟩
end Go.Proofs.YtmemeloehgemcaaGreat
namespace Go.Proofs.YtmemeloehgemcaaGreat
open Go.RowKit Go.Shelf

end Go.Proofs.YtmemeloehgemcaaGreat
namespace Go.Proofs.YtmemeloehgemcaaGreat
open Go.ChangeShapes Go.WideShapes Go.ChangeAt Go.RowKit Go.Deep

set_option maxRecDepth 100000 in
theorem thing_cells {H : Type} {enc : TypeId × Value → H} {w : World} {base : Nat} {sp : Nat → Bool} {held : Bool} {fuel : Nat} {l : List Value} {x : DataW H × List MemPlace} (hsz : l.length = 11) (hf : DataW.trod enc Tryz.prog w base sp held fuel 60 l = some x) : ∃ t : Th, l = thc t := by
  obtain ⟨c0, c1, c2, c3, c4, c5, c6, c7, c8, c9, c10, rfl⟩ : ∃ c0 c1 c2 c3 c4 c5 c6 c7 c8 c9 c10, l = [c0, c1, c2, c3, c4, c5, c6, c7, c8, c9, c10] := by
    match l, (show l.length = 11 from hsz) with
    | [c0, c1, c2, c3, c4, c5, c6, c7, c8, c9, c10], _ => exact ⟨c0, c1, c2, c3, c4, c5, c6, c7, c8, c9, c10, rfl⟩
  obtain ⟨xs, n, _, hx, _, hlen, hfl⟩ := DataW.trod_struct Tryz.underlying60 hf
  match xs, hlen with
  | [y0, y1, y2, y3, y4, y5, y6, y7], _ =>
    have t0 : DataW.trod enc Tryz.prog w base sp held n 3 (([c0, c1, c2, c3, c4, c5, c6, c7, c8, c9, c10].drop 0).take (Tryz.prog.cellsOf 3)) = some y0 := hfl 0 _ rfl
    rw [cOfI] at t0
    have t1 : DataW.trod enc Tryz.prog w base sp held n 3 (([c0, c1, c2, c3, c4, c5, c6, c7, c8, c9, c10].drop 1).take (Tryz.prog.cellsOf 3)) = some y1 := hfl 1 _ rfl
    rw [cOfI] at t1
    have t2 : DataW.trod enc Tryz.prog w base sp held n 57 (([c0, c1, c2, c3, c4, c5, c6, c7, c8, c9, c10].drop 2).take (Tryz.prog.cellsOf 57)) = some y2 := hfl 2 _ rfl
    rw [cOfPl] at t2
    have t3 : DataW.trod enc Tryz.prog w base sp held n 3 (([c0, c1, c2, c3, c4, c5, c6, c7, c8, c9, c10].drop 3).take (Tryz.prog.cellsOf 3)) = some y3 := hfl 3 _ rfl
    rw [cOfI] at t3
    have t4 : DataW.trod enc Tryz.prog w base sp held n 3 (([c0, c1, c2, c3, c4, c5, c6, c7, c8, c9, c10].drop 4).take (Tryz.prog.cellsOf 3)) = some y4 := hfl 4 _ rfl
    rw [cOfI] at t4
    have t5 : DataW.trod enc Tryz.prog w base sp held n 58 (([c0, c1, c2, c3, c4, c5, c6, c7, c8, c9, c10].drop 5).take (Tryz.prog.cellsOf 58)) = some y5 := hfl 5 _ rfl
    rw [cOf4] at t5
    have t6 : DataW.trod enc Tryz.prog w base sp held n 3 (([c0, c1, c2, c3, c4, c5, c6, c7, c8, c9, c10].drop 9).take (Tryz.prog.cellsOf 3)) = some y6 := hfl 6 _ rfl
    rw [cOfI] at t6
    have t7 : DataW.trod enc Tryz.prog w base sp held n 4 (([c0, c1, c2, c3, c4, c5, c6, c7, c8, c9, c10].drop 10).take (Tryz.prog.cellsOf 4)) = some y7 := hfl 7 _ rfl
    rw [cOfB] at t7
    obtain ⟨z0, e0, _, w0⟩ := DataW.trod_int Tryz.underlying3 (cs := [c0]) t0
    simp only [List.cons.injEq, and_true] at e0
    subst e0
    obtain ⟨z1, e1, _, w1⟩ := DataW.trod_int Tryz.underlying3 (cs := [c1]) t1
    simp only [List.cons.injEq, and_true] at e1
    subst e1
    obtain ⟨z2, e2, _, w2⟩ := DataW.trod_int Tryz.underlying57 (cs := [c2]) t2
    simp only [List.cons.injEq, and_true] at e2
    subst e2
    obtain ⟨z3, e3, _, w3⟩ := DataW.trod_int Tryz.underlying3 (cs := [c3]) t3
    simp only [List.cons.injEq, and_true] at e3
    subst e3
    obtain ⟨z4, e4, _, w4⟩ := DataW.trod_int Tryz.underlying3 (cs := [c4]) t4
    simp only [List.cons.injEq, and_true] at e4
    subst e4
    obtain ⟨z5, z6, z7, z8, rfl, rfl, rfl, rfl, w5, w6, w7, w8⟩ := four_cells (c0 := c5) (c1 := c6) (c2 := c7) (c3 := c8) t5
    obtain ⟨z9, e9, _, w9⟩ := DataW.trod_int Tryz.underlying3 (cs := [c9]) t6
    simp only [List.cons.injEq, and_true] at e9
    subst e9
    obtain ⟨z10, e10, _⟩ := DataW.trod_bool Tryz.underlying4 (cs := [c10]) t7
    simp only [List.cons.injEq, and_true] at e10
    subst e10
    exact ⟨⟨z0, z1, z2, z3, z4, z5, z6, z7, z8, z9, z10⟩, rfl⟩
set_option maxRecDepth 100000 in
theorem feature_cells {H : Type} {enc : TypeId × Value → H} {w : World} {base : Nat} {sp : Nat → Bool} {held : Bool} {fuel : Nat} {l : List Value} {x : DataW H × List MemPlace} (hsz : l.length = 5) (hf : DataW.trod enc Tryz.prog w base sp held fuel 64 l = some x) : ∃ f : Fe, l = fec f ∧ InI f.po ∧ InI f.he := by
  obtain ⟨c0, c1, c2, c3, c4, rfl⟩ : ∃ c0 c1 c2 c3 c4, l = [c0, c1, c2, c3, c4] := by
    match l, (show l.length = 5 from hsz) with
    | [c0, c1, c2, c3, c4], _ => exact ⟨c0, c1, c2, c3, c4, rfl⟩
  obtain ⟨xs, n, _, hx, _, hlen, hfl⟩ := DataW.trod_struct Tryz.underlying64 hf
  match xs, hlen with
  | [y0, y1, y2, y3, y4], _ =>
    have t0 : DataW.trod enc Tryz.prog w base sp held n 3 (([c0, c1, c2, c3, c4].drop 0).take (Tryz.prog.cellsOf 3)) = some y0 := hfl 0 _ rfl
    rw [cOfI] at t0
    have t1 : DataW.trod enc Tryz.prog w base sp held n 43 (([c0, c1, c2, c3, c4].drop 1).take (Tryz.prog.cellsOf 43)) = some y1 := hfl 1 _ rfl
    rw [cOfSu] at t1
    have t2 : DataW.trod enc Tryz.prog w base sp held n 62 (([c0, c1, c2, c3, c4].drop 2).take (Tryz.prog.cellsOf 62)) = some y2 := hfl 2 _ rfl
    rw [cOfTs] at t2
    have t3 : DataW.trod enc Tryz.prog w base sp held n 3 (([c0, c1, c2, c3, c4].drop 3).take (Tryz.prog.cellsOf 3)) = some y3 := hfl 3 _ rfl
    rw [cOfI] at t3
    have t4 : DataW.trod enc Tryz.prog w base sp held n 3 (([c0, c1, c2, c3, c4].drop 4).take (Tryz.prog.cellsOf 3)) = some y4 := hfl 4 _ rfl
    rw [cOfI] at t4
    obtain ⟨z0, e0, _, w0⟩ := DataW.trod_int Tryz.underlying3 (cs := [c0]) t0
    simp only [List.cons.injEq, and_true] at e0
    subst e0
    obtain ⟨z1, e1, _, w1⟩ := DataW.trod_int Tryz.underlying43 (cs := [c1]) t1
    simp only [List.cons.injEq, and_true] at e1
    subst e1
    obtain ⟨z2, e2, _, w2⟩ := DataW.trod_int Tryz.underlying62 (cs := [c2]) t2
    simp only [List.cons.injEq, and_true] at e2
    subst e2
    obtain ⟨z3, e3, _, w3⟩ := DataW.trod_int Tryz.underlying3 (cs := [c3]) t3
    simp only [List.cons.injEq, and_true] at e3
    subst e3
    obtain ⟨z4, e4, _, w4⟩ := DataW.trod_int Tryz.underlying3 (cs := [c4]) t4
    simp only [List.cons.injEq, and_true] at e4
    subst e4
    exact ⟨⟨z0, z1, z2, z3, z4⟩, rfl, inI_of w3, inI_of w4⟩
theorem recs_open {α : Type} [Inhabited α] (R : RecT α) {T E : TypeId} (hu : Tryz.prog.underlying T = some (.slice E)) (hk : Tryz.prog.cellsOf E = R.k) {H : Type} {enc : TypeId × Value → H} {w : World} {base : Nat} {sp : Nat → Bool} {held : Bool} (hc : ∀ {fuel : Nat} {l : List Value} {x : DataW H × List MemPlace}, l.length = R.k → DataW.trod enc Tryz.prog w base sp held fuel E l = some x → ∃ e, l = R.enc e) {fuel : Nat} {v : Value} {x : DataW H × List MemPlace} (h : DataW.trod enc Tryz.prog w base sp held fuel T [v] = some x) : ∃ l, R.At w v l := by
  rcases open_slice hu h with ⟨hcs, _⟩ | ⟨a, len, cp, m, f, D, Pl, hcs, _, hl, hm, hmm, hxx, hx⟩
  · simp at hcs
    subst hcs
    exact ⟨[], RecT.At.nil R w⟩
  · simp at hcs
    subst hcs
    rw [hk] at hx
    have hnm : len ≤ m := by rw [hmm]; split <;> omega
    have hp : ∀ i, i < len → ∃ e : α, ∀ k u, (R.enc e)[k]? = some u → w.cell? ((a.add (i * R.k)).add k) = some u := fun i hi => by
      obtain ⟨cs', h1, h2⟩ := hx i (by omega)
      obtain ⟨_, hlen, hcc⟩ := World.cells?_some h1
      obtain ⟨e, he⟩ := hc hlen h2
      subst he
      refine ⟨e, fun k y hk' => ?_⟩
      have hk4 : k < R.k := by have := (List.getElem?_eq_some_iff.1 hk').1; rwa [R.hk] at this
      rw [hcc k hk4]
      exact hk'
    obtain ⟨F, hF⟩ := choose_lt (α := α) hp
    have hln : ((List.range len).map F).length = len := by simp
    refine ⟨(List.range len).map F, some a, cp, by rw [hln], by rw [hln]; exact Nat.le_trans hl hm, fun h0 => ?_⟩
    have h0' : 0 < len := by rwa [hln] at h0
    obtain ⟨v0, hv0⟩ : ∃ v0, (R.enc (F 0))[0]? = some v0 := ⟨_, List.getElem?_eq_getElem (by rw [R.hk]; exact R.hp)⟩
    have c0 := (hF 0 h0') 0 _ hv0
    have ex : (a.add (0 * R.k)).add 0 = a := by simp [Addr.add]
    rw [ex] at c0
    have pl := addr_plain c0
    refine ⟨a.block, a.off, by rw [← pl], fun j e he => ?_⟩
    have hj : j < len := by have := (List.getElem?_eq_some_iff.1 he).1; rwa [hln] at this
    obtain rfl : e = F j := by simp [hj] at he; exact he.symm
    intro k u hk'
    have := hF j hj k u hk'
    rw [add_add pl, pl, add_plain, ← Nat.add_assoc] at this
    exact this
theorem cOfTab : Tryz.prog.cellsOf 29 = 2 := by kernel_rfl
theorem cOfTsL : Tryz.prog.cellsOf 26 = 1 := by kernel_rfl
theorem cOfFsL : Tryz.prog.cellsOf 27 = 1 := by kernel_rfl
set_option maxRecDepth 100000 in
theorem open_table {H : Type} {enc : TypeId × Value → H} {w : World} {base : Nat} {sp : Nat → Bool} {held : Bool} {r : Reach} {b0 : Nat} {v : Value} {d : DataW H} {pl : List MemPlace} (hval : Value.okWide Tryz.prog w r b0 29 v) (hd : DataW.Trod enc Tryz.prog w base sp held 29 v d pl) : ∃ vt vf ts fs, v = .agg #[vt, vf] ∧ thR.At w vt ts ∧ feR.At w vf fs := by
  obtain ⟨cs, rfl, hsz⟩ := okWide_struct Tryz.underlying29 hval
  rw [cOfTab] at hsz
  obtain ⟨fuel, hf⟩ := hd
  obtain ⟨l⟩ := cs
  obtain ⟨c0, c1, rfl⟩ : ∃ c0 c1, l = [c0, c1] := by
    match l, (show l.length = 2 from hsz) with
    | [c0, c1], _ => exact ⟨c0, c1, rfl⟩
  obtain ⟨xs, n, _, hx, _, hlen, hfl⟩ := DataW.trod_struct Tryz.underlying29 hf
  match xs, hlen with
  | [y0, y1], _ =>
    have t0 : DataW.trod enc Tryz.prog w base sp held n 26 (([c0, c1].drop 0).take (Tryz.prog.cellsOf 26)) = some y0 := hfl 0 _ rfl
    have t1 : DataW.trod enc Tryz.prog w base sp held n 27 (([c0, c1].drop 1).take (Tryz.prog.cellsOf 27)) = some y1 := hfl 1 _ rfl
    rw [cOfTsL] at t0
    rw [cOfFsL] at t1
    haveI : Inhabited Th := ⟨⟨0, 0, 0, 0, 0, 0, 0, 0, 0, 0, false⟩⟩
    haveI : Inhabited Fe := ⟨Fe.none⟩
    obtain ⟨ts, hT⟩ := recs_open thR Tryz.underlying26 cOfTh (fun a b => thing_cells a b) (v := c0) t0
    obtain ⟨fs, hF⟩ := recs_open feR Tryz.underlying27 cOfFe (fun a b => by obtain ⟨f, e, _⟩ := feature_cells a b; exact ⟨f, e⟩) (v := c1) t1
    exact ⟨c0, c1, ts, fs, rfl, hT, hF⟩
end Go.Proofs.YtmemeloehgemcaaGreat
namespace Go.Proofs.YtmemeloehgemcaaGreat
open Go.RowKit Go.Shelf

set_option maxHeartbeats 1000000 in
theorem kpick_any (k : Int) (n : Nat) (w : World) (hn : 0 < n) (hm : n ≤ 4294967296) : Calls Tryz.prog 13 #[.int .i64 k, .int .i64 n] w fun e w' => (∃ r : Nat, r < n ∧ e = .returned (.int .i64 r)) ∧ w' = w := by
  have h1 : ¬ ((n : Int) < 1) := by omega
  have h0 : ((n : Int) == 0) = false := by simpa using (show ¬ ((n : Int) = 0) by omega)
  have b1 : k.tmod n < n := Int.tmod_lt_of_pos k (by omega)
  have b2 : -(n : Int) < k.tmod n := by
    have h := Int.tmod_lt_of_pos (-k) (show (0 : Int) < n by omega)
    rw [Int.neg_tmod] at h
    omega
  go_enter Tryz.func13, Tryz.ntmps13
  go_wp2
  · go_ret
    exact ⟨⟨(k.tmod n + n).toNat, by omega, ret_i64 (Int.toNat_of_nonneg (by omega)).symm⟩, rfl⟩
  · go_ret
    exact ⟨⟨(k.tmod n).toNat, by omega, ret_i64 (Int.toNat_of_nonneg (by omega)).symm⟩, rfl⟩
theorem alloc_two (w : World) (a b : Array Value) (s t : TypeId) : ((w.alloc (.cells a s)).alloc (.cells b t)).heap[w.heap.size]? = some (.cells a s (0, 0)) := grown_keep (World.grownBy_alloc _ _ none) (alloc_at w a s) (by simp)
def heavyB (c m t f : Nat) : Bool := decide (80 < c) || (decide (20 < m) || (decide (2100 < t) || decide (2100 < f)))
theorem heavyB_no {c m t f : Nat} (h : heavyB c m t f = false) : c ≤ 80 ∧ m ≤ 20 ∧ t ≤ 2100 ∧ f ≤ 2100 := by
  unfold heavyB at h
  simp at h
  omega
set_option maxRecDepth 100000 in
set_option maxHeartbeats 4000000 in
theorem heavy_any (pc pm pt pf : Option Addr) (c m t f kc km kt kf : Nat) (op : Bool) (w : World) : Calls Tryz.prog 10 #[.agg #[.slice pc c kc, .slice pm m km, .bool op], .agg #[.slice pt t kt, .slice pf f kf]] w fun e w' => e = .returned (.bool (heavyB c m t f)) ∧ w.grownBy w' none := by
  obtain ⟨W, hW⟩ : ∃ W, W = (w.alloc (.cells #[.slice pc c kc, .slice pm m km, .bool op] 25)).alloc (.cells #[.slice pt t kt, .slice pf f kf] 29) := ⟨_, rfl⟩
  have HG : Hid (w.grownBy W none) := by rw [hW]; exact grown_push (World.grownBy_alloc _ _ none) _
  have H0 : Hid (W.heap[w.heap.size]? = some (.cells #[.slice pc c kc, .slice pm m km, .bool op] 25 (0, 0)) ∧ TabB W (w.heap.size + 1) (.slice pt t kt) (.slice pf f kf)) := ⟨by rw [hW]; exact alloc_two _ _ _ _ _, by rw [hW]; exact alloc2_b _ _ _ _⟩
  go_enter Tryz.func10, Tryz.ntmps10
  go_upto_region 1 with fail
  rw [← hW]
  obtain ⟨b0, hb0⟩ : ∃ b0, b0 = w.heap.size := ⟨_, rfl⟩
  obtain ⟨b1, hb1⟩ : ∃ b1, b1 = b0 + 1 := ⟨_, rfl⟩
  rw [← hb0, ← hb1] at H0 ⊢
  clear hW hb0 hb1
  have t0 := (tab_box H0.out.2).1
  have t1 := (tab_box H0.out.2).2
  have f0 : W.cell? ⟨b0, 0, none⟩ = some (.slice pc c kc) := (block_cell H0.out.1 0).trans rfl
  have f1 : W.cell? ⟨b0, 1, none⟩ = some (.slice pm m km) := (block_cell H0.out.1 1).trans rfl
  by_cases h1 : 80 < c
  · have e1 : decide ((80 : Int) < (c : Int)) = true := decide_eq_true (by omega)
    have HE : Hid (heavyB c m t f = true) := by show _ = _; unfold heavyB; rw [decide_eq_true h1]; rfl
    go_wp2_with fail
    go_ret
    exact ⟨by rw [HE.out]; rfl, HG.out⟩
  · have e1 : decide ((80 : Int) < (c : Int)) = false := decide_eq_false (by omega)
    by_cases h2 : 20 < m
    · have e2 : decide ((20 : Int) < (m : Int)) = true := decide_eq_true (by omega)
      have HE : Hid (heavyB c m t f = true) := by show _ = _; unfold heavyB; rw [decide_eq_true h2, Bool.true_or, Bool.or_true]
      go_wp2_with fail
      go_ret
      exact ⟨by rw [HE.out]; rfl, HG.out⟩
    · have e2 : decide ((20 : Int) < (m : Int)) = false := decide_eq_false (by omega)
      by_cases h3 : 2100 < t
      · have e3 : decide ((2100 : Int) < (t : Int)) = true := decide_eq_true (by omega)
        have HE : Hid (heavyB c m t f = true) := by show _ = _; unfold heavyB; rw [decide_eq_true h3, Bool.true_or, Bool.or_true, Bool.or_true]
        go_wp2_with fail
        go_ret
        exact ⟨by rw [HE.out]; rfl, HG.out⟩
      · have e3 : decide ((2100 : Int) < (t : Int)) = false := decide_eq_false (by omega)
        by_cases h4 : 2100 < f
        · have e4 : decide ((2100 : Int) < (f : Int)) = true := decide_eq_true (by omega)
          have HE : Hid (heavyB c m t f = true) := by show _ = _; unfold heavyB; rw [decide_eq_true h4, Bool.or_true, Bool.or_true, Bool.or_true]
          go_wp2_with fail
          go_ret
          exact ⟨by rw [HE.out]; rfl, HG.out⟩
        · have e4 : decide ((2100 : Int) < (f : Int)) = false := decide_eq_false (by omega)
          have HE : Hid (heavyB c m t f = false) := by show _ = _; unfold heavyB; rw [decide_eq_false h1, decide_eq_false h2, decide_eq_false h3, decide_eq_false h4]; rfl
          go_wp2_with fail
          go_ret
          exact ⟨by rw [HE.out]; rfl, HG.out⟩
end Go.Proofs.YtmemeloehgemcaaGreat
namespace Go.Proofs.YtmemeloehgemcaaGreat
open Go.RowKit Go.Shelf

set_option maxHeartbeats 2000000 in
theorem equalIn_feL (a0 a1 a2 a3 a4 : Int) (w : World) : (Op.equalIn 10000 64 (.agg #[.int .i64 a0, .int .u8 a1, .int .u16 a2, .int .i64 a3, .int .i64 a4]) (.agg #[.int .i64 a0, .int .u8 a1, .int .u16 a2, .int .i64 a3, .int .i64 a4])).run Tryz.prog w = .ok true w := by
  have hS : Tryz.prog.underlying 64 = some (.struct (Tryz.prog.fieldsOf 64)) := by kernel_rfl
  have hp : Tryz.prog.stoodInHeld 64 = false := by kernel_rfl
  have u3 := Tryz.underlying3
  have i3 := Tryz.isAgg3
  have z3 := Tryz.sizeOf3
  have uS := Tryz.underlying43
  have iS := Tryz.isAgg43
  have zS := Tryz.sizeOf43
  have uT := Tryz.underlying62
  have iT := Tryz.isAgg62
  have zT := Tryz.sizeOf62
  rw [show (10000 : Nat) = 9999 + 1 from rfl, run_equalIn_agg w 9999 64 _ _ hS hp]
  simp only [Program.fieldsOf, Tryz.underlying64]
  go_simp
theorem neq_feL (a0 a1 a2 a3 a4 : Int) (w : World) : (binOp .neq 64 (.agg #[.int .i64 a0, .int .u8 a1, .int .u16 a2, .int .i64 a3, .int .i64 a4]) (.agg #[.int .i64 a0, .int .u8 a1, .int .u16 a2, .int .i64 a3, .int .i64 a4])).run Tryz.prog w = .ok (.bool false) w := by
  rw [run_neq_struct, equalIn_feL]; rfl
theorem eqg_feL (op : BinOp) (x y : Operand) (xs ys : Array Value) (w : World) : (eqGuard op 64 x y (.agg xs) (.agg ys)).run Tryz.prog w = .ok () w := run_eqGuard_agg w op 64 x y xs ys (by kernel_rfl)
end Go.Proofs.YtmemeloehgemcaaGreat
