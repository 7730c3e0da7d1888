/-
  LayerKnown: the chapter's examples.
-/
import Derived.Test.YtmemeloehgemcaaGreatLkB
import Derived.Test.YtmemeloehgemcaaGreatK45
namespace Go.Proofs.YtmemeloehgemcaaGreat
open Go.RowKit Go.Shelf Go.Deep

def knT : List Th := exT ++ [⟨2, 1, 4, 5, 0, 0, 0, 0, 0, 0, false⟩]
def knF : List Fe := exFs ++ [⟨1, 5, 0, 1, 1⟩]
def knOne : List Fe := [⟨0, 6, 0, 0, 0⟩, ⟨0, 6, 0, 0, 0⟩, ⟨1, 2, 0, 2, 2⟩, ⟨1, 2, 0, 2, 2⟩, ⟨1, 5, 0, 1, 1⟩]
def knRw : List Rw := exRw ++ [⟨5, 5, exF, [exFp]⟩]
theorem kn_sort : sortR knRw = knRw := List.mergeSort_of_pairwise (by unfold knRw exRw; simp)
theorem kn_tab (vE vB vC vF : Value) : tabR 4 (atC exP (exES vE vB vC vF)) knT knF = some knRw := by
  unfold tabR
  rw [if_pos (show knT.length = knF.length from rfl), show layF 4 (atC exP (exES vE vB vC vF)) (knT.zip knF) 0 [] = some knRw from by kernel_rfl]
  simp only [kn_sort]
  rfl
theorem kn_bg (vE vB vC vF : Value) (k : Int) (h : 1 ≤ k ∧ k ≤ 5) : bgE 0 4 (atC exP (exES vE vB vC vF)) knT knF k = 0 := bgE_ok (kn_tab vE vB vC vF) h
theorem kn_bg6 (vE vB vC vF : Value) : bgE 0 4 (atC exP (exES vE vB vC vF)) knT knF 6 = 2 := by
  unfold bgE
  rw [if_pos (lkE_tabs (kn_tab vE vB vC vF)), if_neg (by decide)]
theorem kn_cut (vE vB vC vF : Value) : bgE 0 4 (atC exP (exES vE vB vC vF)) knT exFs 1 = 2 := by
  have ht : tabR 4 (atC exP (exES vE vB vC vF)) knT exFs = none := by
    unfold tabR
    rw [if_neg (by decide)]
  unfold bgE
  rw [lkE_tab ht, if_neg (by decide)]
theorem kn_eff3 : effL exRw (pickF exRw exFs) 3 = [] := by kernel_rfl
theorem kn_eff2 : effL knRw (pickF knRw knF) 2 = [⟨⟨2, 0, exBp⟩, 1⟩] := by kernel_rfl
theorem kn_eff5 : effL knRw (pickF knRw knF) 5 = [⟨⟨1, 0, exCp⟩, 0⟩] := by kernel_rfl
theorem kn_all1 : amgL knF knRw (allR knRw knF 1).1 = knOne ∧ (allR knRw knF 1).2 = [⟨⟨5, 0, exFp⟩, 4⟩] := ⟨by kernel_rfl, by kernel_rfl⟩
theorem kn_li1 : listF knRw [⟨2, 0, exBp⟩, ⟨1, 0, exCp⟩] [] = none := by kernel_rfl
theorem kn_li2 : listF knRw [⟨2, 0, exBp⟩, ⟨2, 0, exBp⟩] [] = none := by kernel_rfl
section
variable {W w' : World} {e : Ending} {vE vB vC vF : Value}
theorem effs_err {r n : Int} {cd : Int → Hd × List Pt} {ts : List Th} {fs : List Fe} {k q : Int} (h : EffectsPost W r n cd ts fs k e w') (hq : bgE r n cd ts fs k = q) : ∃ p m c, e = .returned (.tuple #[.slice p m c, .int .i64 q]) ∧ W.grownBy w' none := by
  obtain ⟨p, m, c, he, g, -, -⟩ := h
  exact ⟨p, m, c, by rw [he, hq], g⟩
theorem kn_none (h : EffectsPost W 0 4 (atC exP (exES vE vB vC vF)) exT exFs 3 e w') : ∃ p c, e = .returned (.tuple #[.slice p 0 c, .int .i64 0]) ∧ W.grownBy w' none := by
  obtain ⟨p, m, c, he, g, -, hA⟩ := h
  rw [ex_bg1 vE vB vC vF 3 (by decide)] at he
  have o := hA exRw rfl (by decide) (ex_tab1 vE vB vC vF)
  rw [kn_eff3] at o
  obtain ⟨q, cap, e1, -⟩ := own_slice o
  cases e1
  exact ⟨_, _, he, g⟩
theorem kn_eff {k : Int} {s : Sd} {i : Nat} (hk : 1 ≤ k ∧ k ≤ 5) (hs : effL knRw (pickF knRw knF) k = [⟨s, i⟩]) (h : EffectsPost W 0 4 (atC exP (exES vE vB vC vF)) knT knF k e w') : ∃ g c, e = .returned (.tuple #[.slice (some ⟨g, 0, none⟩) 1 c, .int .i64 0]) ∧ w'.rangeAt g 0 (sdc s) ∧ W.grownBy w' none := by
  obtain ⟨p, m, c, he, g, -, hA⟩ := h
  rw [kn_bg vE vB vC vF k hk] at he
  have o := hA knRw rfl hk (kn_tab vE vB vC vF)
  rw [hs] at o
  obtain ⟨q, cap, e1, -, -, -, -, hc⟩ := own_cell o Nat.zero_lt_one
  cases e1
  exact ⟨q, c, he, fun i v hv => by
    have hi : i < 10 := (List.getElem?_eq_some_iff.1 hv).1
    rw [Nat.zero_add, (hc i (by show i < 1 * 10; omega)).1, ← hv]
    exact congrArg (·[i]?) (show sdR.cs [s] = sdc s from List.append_nil _), g⟩
theorem kn_all (h : AllPost W 0 4 (atC exP (exES vE vB vC vF)) knT knF 1 e w') : ∃ g c g' c', e = .returned (.tuple #[.slice (some ⟨g, 0, none⟩) 5 c, .slice (some ⟨g', 0, none⟩) 1 c', .int .i64 0]) ∧ (w'.cell? ⟨g, 0, none⟩ = some (.int .i64 0) ∧ w'.cell? ⟨g, 10, none⟩ = some (.int .i64 1) ∧ w'.cell? ⟨g, 15, none⟩ = some (.int .i64 1) ∧ w'.cell? ⟨g', 0, none⟩ = some (.int .i64 5)) ∧ W.grownBy w' none := by
  obtain ⟨p, m, c, p', m', c', he, g, -, hA⟩ := h
  rw [kn_bg vE vB vC vF 1 (by decide)] at he
  obtain ⟨o, o'⟩ := hA knRw rfl (by decide) (kn_tab vE vB vC vF)
  rw [kn_all1.1] at o
  rw [kn_all1.2] at o'
  obtain ⟨q, cap, e1, -, -, -, -, hc⟩ := own_cell o (by decide)
  cases e1
  obtain ⟨q', cap', e1, -, -, -, -, hc'⟩ := own_cell o' (by decide)
  cases e1
  exact ⟨q, c, q', c', he, ⟨(hc 0 (by decide)).1.trans rfl, (hc 10 (by decide)).1.trans rfl, (hc 15 (by decide)).1.trans rfl, (hc' 0 (by decide)).1.trans rfl⟩, g⟩
theorem kn_depe {s o : Sd} (hl : listF knRw [s, o] [] = none) (h : DependsPost W 0 4 (atC exP (exES vE vB vC vF)) knT knF s o e w') : ∃ b, e = .returned (.tuple #[.bool b, .int .i64 2]) ∧ W.grownBy w' none := by
  obtain ⟨b, he, g, -, -⟩ := h
  rw [lkE_list (kn_tab vE vB vC vF) hl] at he
  exact ⟨b, he, g⟩
theorem kn_next (h : NextPost W 0 4 (atC exP (exES vE vB vC vF)) knT knF [] e w') : e = .returned (.tuple #[.int .i64 (-1), .int .i64 0]) ∧ W.grownBy w' none := by
  obtain ⟨p, he, g, -, hA⟩ := h
  rw [lkE_tabs (kn_tab vE vB vC vF)] at he
  have q := hA knRw [] rfl (kn_tab vE vB vC vF) rfl
  rw [if_pos rfl] at q
  rw [q] at he
  exact ⟨he, g⟩
end
structure KnS (w wr : World) (b S nb : Nat) (vE vB vC vF vt vf : Value) (T : List Th) (F : List Fe) : Prop where
  bk : Book (fun k => tgOk b k ∧ k < S) wr b (exES vE vB vC vF) exP
  tab : TabB wr nb vt vf
  th : thR.Own 60 wr S vt T
  fe : feR.Own 64 wr S vf F
  gr : w.grownBy wr none
  lie : w.heap.size < b ∧ b < S ∧ S ≤ nb
theorem KnS.keep {w wr w' : World} {b S nb : Nat} {vE vB vC vF vt vf : Value} {T : List Th} {F : List Fe} (h : KnS w wr b S nb vE vB vC vF vt vf T F) (g : wr.grownBy w' none) : KnS w w' b S nb vE vB vC vF vt vf T F := ⟨h.bk.keep g, grown_keep g h.tab (by simp), h.th.grow g, h.fe.grow g, grown_trans h.gr g, h.lie⟩
theorem KnS.things {w wr w' : World} {b S nb : Nat} {vE vB vC vF vt vf vt' : Value} {T T' : List Th} {F : List Fe} (h : KnS w wr b S nb vE vB vC vF vt vf T F) (o : thR.Own 60 w' S vt' T') (g : wr.grownBy w' vt.ownBlock) : KnS w (w'.setCell ⟨nb, 0, none⟩ vt') b S nb vE vB vC vF vt' vf T' F := by
  obtain ⟨l1, l2, l3⟩ := h.lie
  have hy : ∀ y, vt.ownBlock = some y → S ≤ y := fun y e => (World.ownsRow.lt h.th y e).1
  have b1 := h.bk.keepR g (fun q => by have := hy b q.symm; omega) (fun k hk q => by have := hy k q.symm; omega)
  have t1 : TabB w' nb vt vf := grown_keep g h.tab (own_tag h.th h.tab (by decide))
  have g2 := grown_set w' nb 0 vt'
  exact ⟨b1.keepR g2 (fun q => by cases q; omega) (fun k hk q => by cases q; omega), blk_setL t1 rfl, own_tagged o g2 t1 (by decide), own_tagged (own_other h.fe h.th (by decide) g) g2 t1 (by decide), grown_set2 (grown_own h.gr g (fun y e => by have := hy y e; omega)) (by omega) _ _, h.lie⟩
theorem KnS.feats {w wr w' : World} {b S nb : Nat} {vE vB vC vF vt vf vf' : Value} {T : List Th} {F F' : List Fe} (h : KnS w wr b S nb vE vB vC vF vt vf T F) (o : feR.Own 64 w' S vf' F') (g : wr.grownBy w' vf.ownBlock) : KnS w (w'.setCell ⟨nb, 1, none⟩ vf') b S nb vE vB vC vF vt vf' T F' := by
  obtain ⟨l1, l2, l3⟩ := h.lie
  have hy : ∀ y, vf.ownBlock = some y → S ≤ y := fun y e => (World.ownsRow.lt h.fe y e).1
  have b1 := h.bk.keepR g (fun q => by have := hy b q.symm; omega) (fun k hk q => by have := hy k q.symm; omega)
  have t1 : TabB w' nb vt vf := grown_keep g h.tab (own_tag h.fe h.tab (by decide))
  have g2 := grown_set w' nb 1 vf'
  exact ⟨b1.keepR g2 (fun q => by cases q; omega) (fun k hk q => by cases q; omega), blk_setL t1 rfl, own_tagged (own_other h.th h.fe (by decide) g) g2 t1 (by decide), own_tagged o g2 t1 (by decide), grown_set2 (grown_own h.gr g (fun y e => by have := hy y e; omega)) (by omega) _ _, h.lie⟩
theorem KnS.cellT {w wr : World} {b S nb : Nat} {vE vB vC vF vt vf : Value} {T : List Th} {F : List Fe} (h : KnS w wr b S nb vE vB vC vF vt vf T F) : ∀ w', wr.grownBy w' vt.ownBlock → w'.cell? ⟨nb, 0, none⟩ = some vt ∧ w'.frozen? ⟨nb, 0, none⟩ = false := fun w' g => by
  have t1 : TabB w' nb vt vf := grown_keep g h.tab (own_tag h.th h.tab (by decide))
  exact ⟨(tab_box t1).1, block_free t1 0⟩
theorem KnS.cellF {w wr : World} {b S nb : Nat} {vE vB vC vF vt vf : Value} {T : List Th} {F : List Fe} (h : KnS w wr b S nb vE vB vC vF vt vf T F) : ∀ w', wr.grownBy w' vf.ownBlock → w'.cell? ⟨nb, 1, none⟩ = some vf ∧ w'.frozen? ⟨nb, 1, none⟩ = false := fun w' g => by
  have t1 : TabB w' nb vt vf := grown_keep g h.tab (own_tag h.fe h.tab (by decide))
  exact ⟨(tab_box t1).2, block_free t1 1⟩
theorem KnS.made {w w1 : World} {b S : Nat} {vE vB vC vF vt vf : Value} (X : ExR w w1 b S vE vB vC vF vt vf) (hS : S ≤ w1.heap.size) : KnS w (w1.alloc (.cells #[vt, vf] 29)) b S w1.heap.size vE vB vC vF vt vf exT exFs := by
  have X2 := X.keep (World.grownBy_alloc w1 (.cells #[vt, vf] 29) none)
  exact ⟨X2.bk, alloc_at w1 #[vt, vf] 29, X2.th, X2.fe, X2.gr, X.lie.1, X.lie.2, hS⟩
theorem fe_cut4 {w : World} {g c : Nat} (h : feR.At w (.slice (some ⟨g, 0, none⟩) 5 c) knF) : feR.At w (.slice (some ⟨g, 0, none⟩) 4 c) exFs := by
  obtain ⟨p, cap, e, hm, h⟩ := h
  injection e with e1 _ e3
  subst e1 e3
  obtain ⟨g', off, e2, h2⟩ := h (by decide)
  exact ⟨_, _, rfl, Nat.le_trans (by decide) hm, fun _ => ⟨g', off, e2, fun j x hx => h2 j x (by
    have hj : j < 4 := (List.getElem?_eq_some_iff.1 hx).1
    unfold knF
    rw [List.getElem?_append_left hj]
    exact hx)⟩⟩
theorem KnS.innC {w wr : World} {b S nb : Nat} {vE vB vC vF vt vf v : Value} {F : List Fe} (h : KnS w wr b S nb vE vB vC vF vt vf knT F) (A : feR.At wr v exFs) : LIn wr (.pointer (some ⟨b, 0, none⟩)) vt v 0 4 (atC exP (exES vE vB vC vF)) knT exFs := LIn.of h.bk (RecT.Own.at h.th) A (by decide)
theorem KnS.inn {w wr : World} {b S nb : Nat} {vE vB vC vF vt vf : Value} {T : List Th} {F : List Fe} (h : KnS w wr b S nb vE vB vC vF vt vf T F) (hT : T.length ≤ 2048) (hF : F.length ≤ 4096) : LIn wr (.pointer (some ⟨b, 0, none⟩)) vt vf 0 4 (atC exP (exES vE vB vC vF)) T F := by
  have I := LIn.of h.bk (RecT.Own.at h.th) (RecT.Own.at h.fe) hF
  rw [show refE exP T.length = 0 from by unfold refE; rw [if_neg (by omega)]; rfl] at I
  exact I
theorem thc_zero : ∀ r, r < 11 → (thc ⟨0, 0, 0, 0, 0, 0, 0, 0, 0, 0, false⟩)[r]? = some ((#[.int .i64 0, .int .i64 0, .int .u8 0, .int .i64 0, .int .i64 0, .int .i64 0, .int .i64 0, .int .i64 0, .int .i64 0, .int .i64 0, .bool false] : Array Value)[r]!)
  | 0, _ => rfl
  | 1, _ => rfl
  | 2, _ => rfl
  | 3, _ => rfl
  | 4, _ => rfl
  | 5, _ => rfl
  | 6, _ => rfl
  | 7, _ => rfl
  | 8, _ => rfl
  | 9, _ => rfl
  | 10, _ => rfl
  | n + 11, h => by omega
def thZ : Th := ⟨0, 0, 0, 0, 0, 0, 0, 0, 0, 0, false⟩
theorem made_th (n : Nat) : (madeCells (Value.agg #[.int .i64 0, .int .i64 0, .int .u8 0, .int .i64 0, .int .i64 0, .int .i64 0, .int .i64 0, .int .i64 0, .int .i64 0, .int .i64 0, .bool false]).cells (n * 11)).toList = thR.cs (List.replicate n thZ) := by
  refine List.ext_getElem? fun i => ?_
  by_cases hi : i < n * 11
  · have h1 := thR.at' (l := List.replicate n thZ) (j := i / 11) (x := thZ) (by rw [List.getElem?_replicate, if_pos (by omega)]) (i % 11) (show i % 11 < 11 by omega)
    have h2 : (thR.cs (List.replicate n thZ))[i / 11 * 11 + i % 11]? = (thc thZ)[i % 11]? := h1
    rw [show i / 11 * 11 + i % 11 = i by omega, show thc thZ = thc ⟨0, 0, 0, 0, 0, 0, 0, 0, 0, 0, false⟩ from rfl, thc_zero _ (by omega)] at h2
    rw [h2]
    show ((Array.range (n * 11)).map _).toList[i]? = _
    rw [Array.toList_map, List.getElem?_map, Array.toList_range, List.getElem?_range hi]
    rfl
  · rw [List.getElem?_eq_none (by rw [Array.length_toList, size_madeCells]; omega), List.getElem?_eq_none (by rw [thR.len, List.length_replicate]; show n * 11 ≤ i; omega)]
theorem made_ownT {V : World} {base g n : Nat} (h : V.ownsRow base 60 11 (.slice (some ⟨g, 0, none⟩) n n) n (madeCells (Value.agg #[.int .i64 0, .int .i64 0, .int .u8 0, .int .i64 0, .int .i64 0, .int .i64 0, .int .i64 0, .int .i64 0, .int .i64 0, .int .i64 0, .bool false]).cells (n * 11)).toList) : thR.Own 60 V base (.slice (some ⟨g, 0, none⟩) n n) (List.replicate n thZ) := by
  unfold RecT.Own
  rw [List.length_replicate, ← made_th]
  exact h
theorem many_eff {w wr V : World} {b S nb g2 : Nat} {vE vB vC vF vt vf : Value} {T : List Th} {F : List Fe} {n : Nat} (h : KnS w wr b S nb vE vB vC vF vt vf T F) (k : wr.grownBy V none) (o : thR.Own 60 V 0 (.slice (some ⟨g2, 0, none⟩) n n) (List.replicate n thZ)) (hn : 2048 < n) : Calls Tryz.prog 12 #[.pointer (some ⟨b, 0, none⟩), .slice (some ⟨g2, 0, none⟩) n n, .slice none 0 0, .int .i64 1] V fun e w' => ∃ p m c, e = .returned (.tuple #[.slice p m c, .int .i64 3]) ∧ V.grownBy w' none := by
  have hr : refE exP (List.replicate n thZ).length = 3 := by unfold refE; rw [List.length_replicate, if_pos hn]
  have I := LIn.of (h.bk.keep k) (RecT.Own.at o) (RecT.At.nil feR V) (by decide)
  rw [hr] at I
  exact (lEffects_any _ _ _ _ _ _ _ _ 1 V I).mono fun e w' q => effs_err q (bgE_no (by decide))
set_option maxRecDepth 100000 in
set_option maxHeartbeats 4000000 in
theorem layerKnown_any (w : World) : Calls Tryz.prog 4 #[] w fun e w' => e = .returned (.bool true) ∧ w.grownBy w' none := by
  obtain ⟨iT, hiT, hT0, hT1, hT2⟩ := info_parts Tryz.linfoT
  obtain ⟨iF, hiF, hF0, hF1, hF2⟩ := info_parts Tryz.linfoF
  have HE := lexample_any w
  obtain ⟨b, hb⟩ : ∃ b, b = w.heap.size + 1 := ⟨_, rfl⟩
  rw [← hb] at HE
  clear hb
  go_enter Tryz.func4, Tryz.ntmps4
  go_wp2_with fail
  refine HE.mono ?_
  rintro e w1 ⟨vE, vB, vC, vF, vt, vf, S, rfl, X1⟩
  obtain ⟨g0, c0, ev0, hg0, hl0, -⟩ := own_cell X1.th (by decide)
  obtain ⟨pt, ct, rfl⟩ : ∃ p c, vt = .slice p 4 c := X1.th.form
  obtain ⟨pf, cf, rfl⟩ : ∃ p c, vf = .slice p 4 c := X1.fe.form
  obtain ⟨V, hV⟩ : ∃ V, V = w1.alloc (.cells #[.slice pt 4 ct, .slice pf 4 cf] 29) := ⟨_, rfl⟩
  have HV : Hid (KnS w V b S w1.heap.size vE vB vC vF (.slice pt 4 ct) (.slice pf 4 cf) exT exFs) := by rw [hV]; exact KnS.made X1 (Nat.le_of_lt (Nat.lt_of_le_of_lt hg0 hl0))
  clear HE X1 ev0 hg0 hl0
  go_upto_region 2 with fail
  rw [← hV]
  obtain ⟨nb, hnb⟩ : ∃ nb, nb = w1.heap.size := ⟨_, rfl⟩
  rw [← hnb] at HV ⊢
  clear hV hnb
  have C1 := lEffects_any _ _ _ 0 4 _ exT exFs 3 V (HV.out.inn (by decide) (by decide))
  obtain ⟨t0, t1⟩ := tab_box HV.out.tab
  go_wp2_with fail
  refine (C1.mono fun e w' q => kn_none q).mono ?_
  rintro e w2 ⟨p2, c2, rfl, g2⟩
  have H2 : Hid (KnS w w2 b S nb vE vB vC vF (.slice pt 4 ct) (.slice pf 4 cf) exT exFs) := HV.out.keep g2
  clear C1 g2 HV t0 t1
  have C2 := find_yes b (exES vE vB vC vF) exP exF.nm w2 H2.out.bk.lies H2.out.bk.good.slc
  rw [(ex_fN vE vB vC vF).2.2, (ex_fE vE vB vC vF).2.2] at C2
  unfold exF at C2
  go_wp2_with fail
  refine C2.mono ?_
  rintro e Y ⟨rfl, g3⟩
  have HY : Hid (KnS w Y b S nb vE vB vC vF (.slice pt 4 ct) (.slice pf 4 cf) exT exFs) := H2.out.keep g3
  clear C2 g3 H2
  obtain ⟨y0, y1⟩ := tab_box HY.out.tab
  have HOY : Hid (Y.ownsRow S 60 11 (.slice pt 4 ct) 4 (thR.cs exT)) := HY.out.th
  have HA : Hid (Y.grownBy (Y.alloc (.cells (thc (⟨2, 1, 4, 5, 0, 0, 0, 0, 0, 0, false⟩ : Th)).toArray 60)) none) := World.grownBy_alloc _ _ none
  have HK := (HY.out.keep HA.out).cellT
  have HSz : Hid (S ≤ (Y.alloc (.cells (thc (⟨2, 1, 4, 5, 0, 0, 0, 0, 0, 0, false⟩ : Th)).toArray 60)).heap.size) := by have h1 := HY.out.lie; have h2 := block_lt HY.out.tab; have h3 := HA.out.size; show _ ≤ _; omega
  have HLn : Hid (4 + 1 ≤ maxLen ∧ (4 + 1) * 88 ≤ 140737488355328) := len_smallT (by omega)
  go_upto_region 5 with (at_builtin; refine lwpl_app (by rfl) (.tmp 47) (.tmp 50) 26 rfl S 60 iT _ 11 88 Tryz.underlying26 hiT hT0 hT1 hT2 rfl (by decide) _ 4 (thR.cs exT) rfl (World.ownsRow.alloc HOY.out _) _ 1 (thc (⟨2, 1, 4, 5, 0, 0, 0, 0, 0, 0, false⟩ : Th)) rfl (th_src Y (⟨2, 1, 4, 5, 0, 0, 0, 0, 0, 0, false⟩ : Th)) (thc_ones _) HLn.out.1 HLn.out.2 HSz.out ?_; intro v9 w9 o9 g9 _; obtain ⟨k0, k1⟩ := HK _ g9; obtain ⟨pv, kv, rfl, -⟩ := own_slice o9; have HO9 : Hid _ := o9; have HG9 : Hid _ := g9; clear o9 g9)
  have H9 : Hid (KnS w (w9.setCell ⟨nb, 0, none⟩ (.slice pv 5 kv)) b S nb vE vB vC vF (.slice pv 5 kv) (.slice pf 4 cf) knT exFs) := (HY.out.keep HA.out).things (show thR.Own 60 w9 S (.slice pv 5 kv) (exT ++ [⟨2, 1, 4, 5, 0, 0, 0, 0, 0, 0, false⟩]) from RecT.more HO9.out rfl) HG9.out
  obtain ⟨Z, hZ⟩ : ∃ Z, Z = w9.setCell ⟨nb, 0, none⟩ (.slice pv 5 kv) := ⟨_, rfl⟩
  rw [← hZ] at H9 ⊢
  clear HO9 HG9 hZ k0 k1 HK HA HOY HY HSz HLn y0 y1
  obtain ⟨z0, z1⟩ := tab_box H9.out.tab
  have HOZ : Hid (Z.ownsRow S 64 5 (.slice pf 4 cf) 4 (feR.cs exFs)) := H9.out.fe
  have HA : Hid (Z.grownBy (Z.alloc (.cells (fec (⟨1, 5, 0, 1, 1⟩ : Fe)).toArray 64)) none) := World.grownBy_alloc _ _ none
  have HK := (H9.out.keep HA.out).cellF
  have HSz : Hid (S ≤ (Z.alloc (.cells (fec (⟨1, 5, 0, 1, 1⟩ : Fe)).toArray 64)).heap.size) := by have h1 := H9.out.lie; have h2 := block_lt H9.out.tab; have h3 := HA.out.size; show _ ≤ _; omega
  have HLn : Hid (4 + 1 ≤ maxLen ∧ (4 + 1) * 32 ≤ 140737488355328) := len_smallF (by omega)
  go_upto_region 6 with (at_builtin; refine lwpl_app (by rfl) (.tmp 54) (.tmp 56) 27 rfl S 64 iF _ 5 32 Tryz.underlying27 hiF hF0 hF1 hF2 rfl (by decide) _ 4 (feR.cs exFs) rfl (World.ownsRow.alloc HOZ.out _) _ 1 (fec (⟨1, 5, 0, 1, 1⟩ : Fe)) rfl (fe_src Z (⟨1, 5, 0, 1, 1⟩ : Fe)) (fec_ones _) HLn.out.1 HLn.out.2 HSz.out ?_; intro v10 w10 o10 g10 _; obtain ⟨k0, k1⟩ := HK _ g10; obtain ⟨px, kx, rfl, -⟩ := own_slice o10; have HO10 : Hid _ := o10; have HG10 : Hid _ := g10; clear o10 g10)
  have HX : Hid (KnS w (w10.setCell ⟨nb, 1, none⟩ (.slice px 5 kx)) b S nb vE vB vC vF (.slice pv 5 kv) (.slice px 5 kx) knT knF) := (H9.out.keep HA.out).feats (show feR.Own 64 w10 S (.slice px 5 kx) (exFs ++ [⟨1, 5, 0, 1, 1⟩]) from RecT.more HO10.out rfl) HG10.out
  obtain ⟨X, hX⟩ : ∃ X, X = w10.setCell ⟨nb, 1, none⟩ (.slice px 5 kx) := ⟨_, rfl⟩
  rw [← hX] at HX ⊢
  clear HO10 HG10 hX k0 k1 HK HA HOZ H9 HSz HLn z0 z1
  have C3 := lAll_any _ _ _ 0 4 _ knT knF 1 X (HX.out.inn (by decide) (by decide))
  obtain ⟨t0, t1⟩ := tab_box HX.out.tab
  go_wp2_with fail
  refine (C3.mono fun e w' q => kn_all q).mono ?_
  rintro e w3 ⟨g1, q1, g2, q2, rfl, hc3, g3⟩
  have H3 : Hid (KnS w w3 b S nb vE vB vC vF (.slice pv 5 kv) (.slice px 5 kx) knT knF) := HX.out.keep g3
  have HC : Hid (w3.cell? ⟨g1, 0, none⟩ = some (.int .i64 0) ∧ w3.cell? ⟨g1, 10, none⟩ = some (.int .i64 1) ∧ w3.cell? ⟨g1, 15, none⟩ = some (.int .i64 1) ∧ w3.cell? ⟨g2, 0, none⟩ = some (.int .i64 5)) := hc3
  clear C3 hc3 g3 HX t0 t1
  have C4 := lEffects_any _ _ _ 0 4 _ knT knF 2 w3 (H3.out.inn (by decide) (by decide))
  obtain ⟨t0, t1⟩ := tab_box H3.out.tab
  go_wp2_with fail
  refine (C4.mono fun e w' q => kn_eff (by decide) kn_eff2 q).mono ?_
  rintro e w4 ⟨g4, q4, rfl, R4, gr4⟩
  have H4 : Hid (KnS w w4 b S nb vE vB vC vF (.slice pv 5 kv) (.slice px 5 kx) knT knF) := H3.out.keep gr4
  have HR4 : Hid (w4.rangeAt g4 0 (sdc ⟨2, 0, exBp⟩) ∧ w3.grownBy w4 none) := ⟨R4, gr4⟩
  clear C4 R4 gr4 H3 t0 t1
  have C5 := lEffects_any _ _ _ 0 4 _ knT knF 5 w4 (H4.out.inn (by decide) (by decide))
  obtain ⟨t0, t1⟩ := tab_box H4.out.tab
  go_wp2_with fail
  refine (C5.mono fun e w' q => kn_eff (by decide) kn_eff5 q).mono ?_
  rintro e w5 ⟨g5, q5, rfl, R5, gr5⟩
  have H5 : Hid (KnS w w5 b S nb vE vB vC vF (.slice pv 5 kv) (.slice px 5 kx) knT knF) := H4.out.keep gr5
  have HR5 : Hid (w5.rangeAt g4 0 (sdc ⟨2, 0, exBp⟩) ∧ w5.rangeAt g5 0 (sdc ⟨1, 0, exCp⟩) ∧ w3.grownBy w5 none) := ⟨rangeAt_keep HR4.out.1 gr5, R5, grown_trans HR4.out.2 gr5⟩
  clear C5 R5 gr5 H4 HR4 t0 t1
  obtain ⟨t0, t1⟩ := tab_box H5.out.tab
  obtain ⟨x0, x1, x2, x3, x4, x5, x6, x7, x8, x9⟩ := sd_cells HR5.out.1
  obtain ⟨y0, y1, y2, y3, y4, y5, y6, y7, y8, y9⟩ := sd_cells HR5.out.2.1
  simp only [Nat.zero_add, exBp, exCp] at x0 x1 x2 x3 x4 x5 x6 x7 x8 x9 y0 y1 y2 y3 y4 y5 y6 y7 y8 y9
  have C6 := lDepends_any _ _ _ 0 4 _ knT knF ⟨2, 0, exBp⟩ ⟨1, 0, exCp⟩ w5.drew ((H5.out.keep (grown_drew _)).inn (by decide) (by decide))
  unfold sdv exBp exCp at C6
  have h01 : (0 : Int) < ((1 : Nat) : Int) := by decide
  go_upto_region 11 with fail
  refine wp_region_held_drew (S := fun w' => w5.grownBy w' none) (by kernel_rfl) (grown_drew _) (fun hHeld => ?_)
  refine wpAnyH_take (i := 0) (v := ?_) rfl (by kernel_rfl) (by kernel_rfl) (by kernel_rfl) (fun _ _ _ h => h) (Or.inl ⟨by rfl, ?_⟩) (by assumption) ?_
  rotate_left 1
  · (intro w0 hSw; go_simp; try with_reducible rfl)
  simp only [List.getElem_toArray, List.getElem_cons_zero]
  go_frame
  refine wpAnyH_take (i := 1) (v := ?_) rfl (by kernel_rfl) (by kernel_rfl) (by kernel_rfl) (fun _ _ _ h => h) (Or.inl ⟨by rfl, ?_⟩) (by assumption) ?_
  rotate_left 1
  · (intro w0 hSw; go_simp; try with_reducible rfl)
  simp only [List.getElem_toArray, List.getElem_cons_zero, List.getElem_cons_succ]
  go_frame
  refine wpAnyH_take (i := 2) (v := ?_) rfl (by kernel_rfl) (by kernel_rfl) (by kernel_rfl) (fun _ _ _ h => h) (Or.inl ⟨by rfl, ?_⟩) (by assumption) ?_
  rotate_left 1
  · (intro w0 hSw; have t0 := hSw.cell t0 (by simp); go_simp; try with_reducible rfl)
  simp only [List.getElem_toArray, List.getElem_cons_zero, List.getElem_cons_succ]
  go_frame
  refine wpAnyH_take (i := 3) (v := ?_) rfl (by kernel_rfl) (by kernel_rfl) (by kernel_rfl) (fun _ _ _ h => h) (Or.inl ⟨by rfl, ?_⟩) (by assumption) ?_
  rotate_left 1
  · (intro w0 hSw; go_simp; try with_reducible rfl)
  simp only [List.getElem_toArray, List.getElem_cons_zero, List.getElem_cons_succ]
  go_frame
  refine wpAnyH_take (i := 4) (v := ?_) rfl (by kernel_rfl) (by kernel_rfl) (by kernel_rfl) (fun _ _ _ h => h) (Or.inl ⟨by rfl, ?_⟩) (by assumption) ?_
  rotate_left 1
  · (intro w0 hSw; have t1 := hSw.cell t1 (by simp); go_simp; try with_reducible rfl)
  simp only [List.getElem_toArray, List.getElem_cons_zero, List.getElem_cons_succ]
  go_frame
  refine wpAnyH_take (i := 5) (v := ?_) rfl (by kernel_rfl) (by kernel_rfl) (by kernel_rfl) (fun _ _ _ h => h) (Or.inl ⟨by rfl, ?_⟩) (by assumption) ?_
  rotate_left 1
  · (intro w0 hSw; go_simp; try with_reducible rfl)
  simp only [List.getElem_toArray, List.getElem_cons_zero, List.getElem_cons_succ]
  go_frame
  refine wpAnyH_take (i := 6) (v := ?_) rfl (by kernel_rfl) (by kernel_rfl) (by kernel_rfl) (fun _ _ _ h => h) (Or.inl ⟨by rfl, ?_⟩) (by assumption) ?_
  rotate_left 1
  · (intro w0 hSw; go_simp; try with_reducible rfl)
  simp only [List.getElem_toArray, List.getElem_cons_zero, List.getElem_cons_succ]
  go_frame
  refine wpAnyH_take (i := 7) (v := ?_) rfl (by kernel_rfl) (by kernel_rfl) (by kernel_rfl) (fun _ _ _ h => h) (Or.inl ⟨by rfl, ?_⟩) (by assumption) ?_
  rotate_left 1
  · (intro w0 hSw; have x0 := hSw.cell x0 (by simp); have x1 := hSw.cell x1 (by simp); have x2 := hSw.cell x2 (by simp); have x3 := hSw.cell x3 (by simp); have x4 := hSw.cell x4 (by simp); have x5 := hSw.cell x5 (by simp); have x6 := hSw.cell x6 (by simp); have x7 := hSw.cell x7 (by simp); have x8 := hSw.cell x8 (by simp); have x9 := hSw.cell x9 (by simp); go_simp; try with_reducible rfl)
  simp only [List.getElem_toArray, List.getElem_cons_zero, List.getElem_cons_succ]
  go_frame
  refine wpAnyH_take (i := 8) (v := ?_) rfl (by kernel_rfl) (by kernel_rfl) (by kernel_rfl) (fun _ _ _ h => h) (Or.inl ⟨by rfl, ?_⟩) (by assumption) ?_
  rotate_left 1
  · (intro w0 hSw; go_simp; try with_reducible rfl)
  simp only [List.getElem_toArray, List.getElem_cons_zero, List.getElem_cons_succ]
  go_frame
  refine wpAnyH_take (i := 9) (v := ?_) rfl (by kernel_rfl) (by kernel_rfl) (by kernel_rfl) (fun _ _ _ h => h) (Or.inl ⟨by rfl, ?_⟩) (by assumption) ?_
  rotate_left 1
  · (intro w0 hSw; go_simp; try with_reducible rfl)
  simp only [List.getElem_toArray, List.getElem_cons_zero, List.getElem_cons_succ]
  go_frame
  refine wpAnyH_take (i := 10) (v := ?_) rfl (by kernel_rfl) (by kernel_rfl) (by kernel_rfl) (fun _ _ _ h => h) (Or.inl ⟨by rfl, ?_⟩) (by assumption) ?_
  rotate_left 1
  · (intro w0 hSw; have y0 := hSw.cell y0 (by simp); have y1 := hSw.cell y1 (by simp); have y2 := hSw.cell y2 (by simp); have y3 := hSw.cell y3 (by simp); have y4 := hSw.cell y4 (by simp); have y5 := hSw.cell y5 (by simp); have y6 := hSw.cell y6 (by simp); have y7 := hSw.cell y7 (by simp); have y8 := hSw.cell y8 (by simp); have y9 := hSw.cell y9 (by simp); go_simp; try with_reducible rfl)
  simp only [List.getElem_toArray, List.getElem_cons_zero, List.getElem_cons_succ]
  go_frame
  refine wpAnyH_ready (rs := [11]) (by kernel_rfl) (by simp) ?_
  refine AllReadyH.cons rfl (fun K hK => ?_) AllReadyH.nil
  simp only [List.getElem_toArray, List.getElem_cons_zero, List.getElem_cons_succ]
  go_simp
  go_at_call 20
  refine (C6).mono ?_
  rintro e6 w6 q6
  obtain ⟨b6, rfl, g6⟩ := kn_depe kn_li1 q6
  have HG6 : Hid (w5.grownBy w6 none) := grown_trans (grown_drew _) g6
  clear C6 g6 q6
  refine hK.out _ _ (HG6.out) (fun hHeld2 => ?_)
  clear hK K
  (try go_frame)
  refine wpAnyH_take (i := 12) (v := ?_) rfl (by kernel_rfl) (by kernel_rfl) (by kernel_rfl) (fun _ _ _ h => h) (Or.inl ⟨by rfl, ?_⟩) (by assumption) ?_
  rotate_left 1
  · (intro w0 hSw; go_simp; try with_reducible rfl)
  simp only [List.getElem_toArray, List.getElem_cons_zero, List.getElem_cons_succ]
  go_frame
  refine wpAnyH_take (i := 13) (v := ?_) rfl (by kernel_rfl) (by kernel_rfl) (by kernel_rfl) (fun _ _ _ h => h) (Or.inl ⟨by rfl, ?_⟩) (by assumption) ?_
  rotate_left 1
  · (intro w0 hSw; go_simp; try with_reducible rfl)
  simp only [List.getElem_toArray, List.getElem_cons_zero, List.getElem_cons_succ]
  go_frame
  refine wpAnyH_take (i := 14) (v := ?_) rfl (by kernel_rfl) (by kernel_rfl) (by kernel_rfl) (fun _ _ _ h => h) (Or.inl ⟨by rfl, ?_⟩) (by assumption) ?_
  rotate_left 1
  · (intro w0 hSw; go_simp; try with_reducible rfl)
  simp only [List.getElem_toArray, List.getElem_cons_zero, List.getElem_cons_succ]
  go_frame
  refine wpAnyH_take (i := 15) (v := ?_) rfl (by kernel_rfl) (by kernel_rfl) (by kernel_rfl) (fun _ _ _ h => h) (Or.inl ⟨by rfl, ?_⟩) (by assumption) ?_
  rotate_left 1
  · (intro w0 hSw; go_simp; try with_reducible rfl)
  simp only [List.getElem_toArray, List.getElem_cons_zero, List.getElem_cons_succ]
  go_frame
  refine wpAnyH_take (i := 16) (v := ?_) rfl (by kernel_rfl) (by kernel_rfl) (by kernel_rfl) (fun _ _ _ h => h) (Or.inl ⟨by rfl, ?_⟩) (by assumption) ?_
  rotate_left 1
  · (intro w0 hSw; go_simp; try with_reducible rfl)
  simp only [List.getElem_toArray, List.getElem_cons_zero, List.getElem_cons_succ]
  go_frame
  refine wpAnyH_done (by kernel_rfl) ?_ _
  have H6 : Hid (KnS w w6 b S nb vE vB vC vF (.slice pv 5 kv) (.slice px 5 kx) knT knF) := H5.out.keep HG6.out
  have HR6 : Hid (w6.rangeAt g4 0 (sdc ⟨2, 0, exBp⟩) ∧ w3.grownBy w6 none) := ⟨rangeAt_keep HR5.out.1 HG6.out, grown_trans HR5.out.2.2 HG6.out⟩
  clear t0 t1 x0 x1 x2 x3 x4 x5 x6 x7 x8 x9 y0 y1 y2 y3 y4 y5 y6 y7 y8 y9 H5 HR5 HG6 hHeld hHeld2
  obtain ⟨t0, t1⟩ := tab_box H6.out.tab
  obtain ⟨x0, x1, x2, x3, x4, x5, x6, x7, x8, x9⟩ := sd_cells HR6.out.1
  simp only [Nat.zero_add, exBp] at x0 x1 x2 x3 x4 x5 x6 x7 x8 x9
  have C7 := lDepends_any _ _ _ 0 4 _ knT knF ⟨2, 0, exBp⟩ ⟨2, 0, exBp⟩ w6.drew ((H6.out.keep (grown_drew _)).inn (by decide) (by decide))
  unfold sdv exBp at C7
  go_upto_region 12 with fail
  refine wp_region_held_drew (S := fun w' => w6.grownBy w' none) (by kernel_rfl) (grown_drew _) (fun hHeld => ?_)
  refine wpAnyH_take (i := 0) (v := ?_) rfl (by kernel_rfl) (by kernel_rfl) (by kernel_rfl) (fun _ _ _ h => h) (Or.inl ⟨by rfl, ?_⟩) (by assumption) ?_
  rotate_left 1
  · (intro w0 hSw; go_simp; try with_reducible rfl)
  simp only [List.getElem_toArray, List.getElem_cons_zero]
  go_frame
  refine wpAnyH_take (i := 1) (v := ?_) rfl (by kernel_rfl) (by kernel_rfl) (by kernel_rfl) (fun _ _ _ h => h) (Or.inl ⟨by rfl, ?_⟩) (by assumption) ?_
  rotate_left 1
  · (intro w0 hSw; go_simp; try with_reducible rfl)
  simp only [List.getElem_toArray, List.getElem_cons_zero, List.getElem_cons_succ]
  go_frame
  refine wpAnyH_take (i := 2) (v := ?_) rfl (by kernel_rfl) (by kernel_rfl) (by kernel_rfl) (fun _ _ _ h => h) (Or.inl ⟨by rfl, ?_⟩) (by assumption) ?_
  rotate_left 1
  · (intro w0 hSw; have t0 := hSw.cell t0 (by simp); go_simp; try with_reducible rfl)
  simp only [List.getElem_toArray, List.getElem_cons_zero, List.getElem_cons_succ]
  go_frame
  refine wpAnyH_take (i := 3) (v := ?_) rfl (by kernel_rfl) (by kernel_rfl) (by kernel_rfl) (fun _ _ _ h => h) (Or.inl ⟨by rfl, ?_⟩) (by assumption) ?_
  rotate_left 1
  · (intro w0 hSw; go_simp; try with_reducible rfl)
  simp only [List.getElem_toArray, List.getElem_cons_zero, List.getElem_cons_succ]
  go_frame
  refine wpAnyH_take (i := 4) (v := ?_) rfl (by kernel_rfl) (by kernel_rfl) (by kernel_rfl) (fun _ _ _ h => h) (Or.inl ⟨by rfl, ?_⟩) (by assumption) ?_
  rotate_left 1
  · (intro w0 hSw; have t1 := hSw.cell t1 (by simp); go_simp; try with_reducible rfl)
  simp only [List.getElem_toArray, List.getElem_cons_zero, List.getElem_cons_succ]
  go_frame
  refine wpAnyH_take (i := 5) (v := ?_) rfl (by kernel_rfl) (by kernel_rfl) (by kernel_rfl) (fun _ _ _ h => h) (Or.inl ⟨by rfl, ?_⟩) (by assumption) ?_
  rotate_left 1
  · (intro w0 hSw; go_simp; try with_reducible rfl)
  simp only [List.getElem_toArray, List.getElem_cons_zero, List.getElem_cons_succ]
  go_frame
  refine wpAnyH_take (i := 6) (v := ?_) rfl (by kernel_rfl) (by kernel_rfl) (by kernel_rfl) (fun _ _ _ h => h) (Or.inl ⟨by rfl, ?_⟩) (by assumption) ?_
  rotate_left 1
  · (intro w0 hSw; go_simp; try with_reducible rfl)
  simp only [List.getElem_toArray, List.getElem_cons_zero, List.getElem_cons_succ]
  go_frame
  refine wpAnyH_take (i := 7) (v := ?_) rfl (by kernel_rfl) (by kernel_rfl) (by kernel_rfl) (fun _ _ _ h => h) (Or.inl ⟨by rfl, ?_⟩) (by assumption) ?_
  rotate_left 1
  · (intro w0 hSw; have x0 := hSw.cell x0 (by simp); have x1 := hSw.cell x1 (by simp); have x2 := hSw.cell x2 (by simp); have x3 := hSw.cell x3 (by simp); have x4 := hSw.cell x4 (by simp); have x5 := hSw.cell x5 (by simp); have x6 := hSw.cell x6 (by simp); have x7 := hSw.cell x7 (by simp); have x8 := hSw.cell x8 (by simp); have x9 := hSw.cell x9 (by simp); go_simp; try with_reducible rfl)
  simp only [List.getElem_toArray, List.getElem_cons_zero, List.getElem_cons_succ]
  go_frame
  refine wpAnyH_take (i := 8) (v := ?_) rfl (by kernel_rfl) (by kernel_rfl) (by kernel_rfl) (fun _ _ _ h => h) (Or.inl ⟨by rfl, ?_⟩) (by assumption) ?_
  rotate_left 1
  · (intro w0 hSw; go_simp; try with_reducible rfl)
  simp only [List.getElem_toArray, List.getElem_cons_zero, List.getElem_cons_succ]
  go_frame
  refine wpAnyH_take (i := 9) (v := ?_) rfl (by kernel_rfl) (by kernel_rfl) (by kernel_rfl) (fun _ _ _ h => h) (Or.inl ⟨by rfl, ?_⟩) (by assumption) ?_
  rotate_left 1
  · (intro w0 hSw; go_simp; try with_reducible rfl)
  simp only [List.getElem_toArray, List.getElem_cons_zero, List.getElem_cons_succ]
  go_frame
  refine wpAnyH_take (i := 10) (v := ?_) rfl (by kernel_rfl) (by kernel_rfl) (by kernel_rfl) (fun _ _ _ h => h) (Or.inl ⟨by rfl, ?_⟩) (by assumption) ?_
  rotate_left 1
  · (intro w0 hSw; have x0 := hSw.cell x0 (by simp); have x1 := hSw.cell x1 (by simp); have x2 := hSw.cell x2 (by simp); have x3 := hSw.cell x3 (by simp); have x4 := hSw.cell x4 (by simp); have x5 := hSw.cell x5 (by simp); have x6 := hSw.cell x6 (by simp); have x7 := hSw.cell x7 (by simp); have x8 := hSw.cell x8 (by simp); have x9 := hSw.cell x9 (by simp); go_simp; try with_reducible rfl)
  simp only [List.getElem_toArray, List.getElem_cons_zero, List.getElem_cons_succ]
  go_frame
  refine wpAnyH_ready (rs := [11]) (by kernel_rfl) (by simp) ?_
  refine AllReadyH.cons rfl (fun K hK => ?_) AllReadyH.nil
  simp only [List.getElem_toArray, List.getElem_cons_zero, List.getElem_cons_succ]
  go_simp
  go_at_call 20
  refine (C7).mono ?_
  rintro e6 w7 q6
  obtain ⟨b7, rfl, g6⟩ := kn_depe kn_li2 q6
  have HG6 : Hid (w6.grownBy w7 none) := grown_trans (grown_drew _) g6
  clear C7 g6 q6
  refine hK.out _ _ (HG6.out) (fun hHeld2 => ?_)
  clear hK K
  (try go_frame)
  refine wpAnyH_take (i := 12) (v := ?_) rfl (by kernel_rfl) (by kernel_rfl) (by kernel_rfl) (fun _ _ _ h => h) (Or.inl ⟨by rfl, ?_⟩) (by assumption) ?_
  rotate_left 1
  · (intro w0 hSw; go_simp; try with_reducible rfl)
  simp only [List.getElem_toArray, List.getElem_cons_zero, List.getElem_cons_succ]
  go_frame
  refine wpAnyH_take (i := 13) (v := ?_) rfl (by kernel_rfl) (by kernel_rfl) (by kernel_rfl) (fun _ _ _ h => h) (Or.inl ⟨by rfl, ?_⟩) (by assumption) ?_
  rotate_left 1
  · (intro w0 hSw; go_simp; try with_reducible rfl)
  simp only [List.getElem_toArray, List.getElem_cons_zero, List.getElem_cons_succ]
  go_frame
  refine wpAnyH_take (i := 14) (v := ?_) rfl (by kernel_rfl) (by kernel_rfl) (by kernel_rfl) (fun _ _ _ h => h) (Or.inl ⟨by rfl, ?_⟩) (by assumption) ?_
  rotate_left 1
  · (intro w0 hSw; go_simp; try with_reducible rfl)
  simp only [List.getElem_toArray, List.getElem_cons_zero, List.getElem_cons_succ]
  go_frame
  refine wpAnyH_take (i := 15) (v := ?_) rfl (by kernel_rfl) (by kernel_rfl) (by kernel_rfl) (fun _ _ _ h => h) (Or.inl ⟨by rfl, ?_⟩) (by assumption) ?_
  rotate_left 1
  · (intro w0 hSw; go_simp; try with_reducible rfl)
  simp only [List.getElem_toArray, List.getElem_cons_zero, List.getElem_cons_succ]
  go_frame
  refine wpAnyH_take (i := 16) (v := ?_) rfl (by kernel_rfl) (by kernel_rfl) (by kernel_rfl) (fun _ _ _ h => h) (Or.inl ⟨by rfl, ?_⟩) (by assumption) ?_
  rotate_left 1
  · (intro w0 hSw; go_simp; try with_reducible rfl)
  simp only [List.getElem_toArray, List.getElem_cons_zero, List.getElem_cons_succ]
  go_frame
  refine wpAnyH_done (by kernel_rfl) ?_ _
  have H7 : Hid (KnS w w7 b S nb vE vB vC vF (.slice pv 5 kv) (.slice px 5 kx) knT knF) := H6.out.keep HG6.out
  have HG7 : Hid (w3.grownBy w7 none) := grown_trans HR6.out.2 HG6.out
  clear t0 t1 x0 x1 x2 x3 x4 x5 x6 x7 x8 x9 H6 HR6 HG6 hHeld hHeld2
  have C8 := lNext_any _ _ _ (.slice none 0 0) 0 4 _ knT knF [] w7 (H7.out.inn (by decide) (by decide)) (nil_sd _) (by simp)
  obtain ⟨t0, t1⟩ := tab_box H7.out.tab
  go_wp2_with fail
  refine (C8.mono fun e w' q => kn_next q).mono ?_
  rintro e w8 ⟨rfl, g8⟩
  have H8 : Hid (KnS w w8 b S nb vE vB vC vF (.slice pv 5 kv) (.slice px 5 kx) knT knF) := H7.out.keep g8
  have HG8 : Hid (w3.grownBy w8 none) := grown_trans HG7.out g8
  clear C8 g8 H7 HG7 t0 t1
  have C9 := (lEffects_any _ _ _ 0 4 _ knT knF 6 w8 (H8.out.inn (by decide) (by decide))).mono fun e w' q => effs_err q (kn_bg6 vE vB vC vF)
  obtain ⟨t0, t1⟩ := tab_box H8.out.tab
  go_wp2_with fail
  refine C9.mono ?_
  rintro e w9' ⟨p9, m9, c9, rfl, g9⟩
  have H9 : Hid (KnS w w9' b S nb vE vB vC vF (.slice pv 5 kv) (.slice px 5 kx) knT knF) := H8.out.keep g9
  have HG9 : Hid (w3.grownBy w9' none) := grown_trans HG8.out g9
  clear C9 g9 H8 HG8 t0 t1
  obtain ⟨t0, t1⟩ := tab_box H9.out.tab
  obtain ⟨gx, kx', ex, hx1, hx2, hx3, hx4, hx5⟩ := own_cell H9.out.fe (by decide)
  injection ex with ex1 ex2 ex3
  clear ex2
  subst ex1 ex3
  have HFC : Hid (feR.At w9'.drew (.slice (some ⟨gx, 0, none⟩) 4 kx) exFs) := by
    have h := RecT.Own.at (own_grow H9.out.fe (grown_drew _))
    exact fe_cut4 h
  have C10 := (lEffects_any _ _ _ 0 4 _ knT exFs 1 w9'.drew (KnS.innC (H9.out.keep (grown_drew _)) HFC.out)).mono fun e w' q => effs_err q (kn_cut vE vB vC vF)
  have h45 : (4 : Int) ≤ (kx : Int) := by have h9 : 5 ≤ kx := hx3; omega
  clear hx1 hx2 hx3 hx4 hx5
  go_upto_region 15 with fail
  refine wp_region_held_drew (S := fun w' => w9'.grownBy w' none) (by kernel_rfl) (grown_drew _) (fun hHeld => ?_)
  refine wpAnyH_take (i := 0) (v := ?_) rfl (by kernel_rfl) (by kernel_rfl) (by kernel_rfl) (fun _ _ _ h => h) (Or.inl ⟨by rfl, ?_⟩) (by assumption) ?_
  rotate_left 1
  · (intro w0 hSw; go_simp; try with_reducible rfl)
  simp only [List.getElem_toArray, List.getElem_cons_zero]
  go_frame
  refine wpAnyH_take (i := 1) (v := ?_) rfl (by kernel_rfl) (by kernel_rfl) (by kernel_rfl) (fun _ _ _ h => h) (Or.inl ⟨by rfl, ?_⟩) (by assumption) ?_
  rotate_left 1
  · (intro w0 hSw; go_simp; try with_reducible rfl)
  simp only [List.getElem_toArray, List.getElem_cons_zero, List.getElem_cons_succ]
  go_frame
  refine wpAnyH_take (i := 2) (v := ?_) rfl (by kernel_rfl) (by kernel_rfl) (by kernel_rfl) (fun _ _ _ h => h) (Or.inl ⟨by rfl, ?_⟩) (by assumption) ?_
  rotate_left 1
  · (intro w0 hSw; have t0 := hSw.cell t0 (by simp); go_simp; try with_reducible rfl)
  simp only [List.getElem_toArray, List.getElem_cons_zero, List.getElem_cons_succ]
  go_frame
  refine wpAnyH_take (i := 3) (v := ?_) rfl (by kernel_rfl) (by kernel_rfl) (by kernel_rfl) (fun _ _ _ h => h) (Or.inl ⟨by rfl, ?_⟩) (by assumption) ?_
  rotate_left 1
  · (intro w0 hSw; go_simp; try with_reducible rfl)
  simp only [List.getElem_toArray, List.getElem_cons_zero, List.getElem_cons_succ]
  go_frame
  refine wpAnyH_take (i := 4) (v := ?_) rfl (by kernel_rfl) (by kernel_rfl) (by kernel_rfl) (fun _ _ _ h => h) (Or.inl ⟨by rfl, ?_⟩) (by assumption) ?_
  rotate_left 1
  · (intro w0 hSw; have t1 := hSw.cell t1 (by simp); go_simp; try with_reducible rfl)
  simp only [List.getElem_toArray, List.getElem_cons_zero, List.getElem_cons_succ]
  go_frame
  refine wpAnyH_take (i := 5) (v := ?_) rfl (by kernel_rfl) (by kernel_rfl) (by kernel_rfl) (fun _ _ _ h => h) (Or.inl ⟨by rfl, ?_⟩) (by assumption) ?_
  rotate_left 1
  · (intro w0 hSw; go_simp; try with_reducible rfl)
  simp only [List.getElem_toArray, List.getElem_cons_zero, List.getElem_cons_succ]
  go_frame
  refine wpAnyH_ready (rs := [6]) (by kernel_rfl) (by simp) ?_
  refine AllReadyH.cons rfl (fun K hK => ?_) AllReadyH.nil
  simp only [List.getElem_toArray, List.getElem_cons_zero, List.getElem_cons_succ]
  go_simp
  go_at_call 12
  refine (C10).mono ?_
  rintro e10 w10' ⟨p10, m10, c10, rfl, g10⟩
  have HG10 : Hid (w9'.grownBy w10' none) := grown_trans (grown_drew _) g10
  clear C10 g10
  refine hK.out _ _ (HG10.out) (fun hHeld2 => ?_)
  clear hK K
  (try go_frame)
  refine wpAnyH_take (i := 7) (v := ?_) rfl (by kernel_rfl) (by kernel_rfl) (by kernel_rfl) (fun _ _ _ h => h) (Or.inl ⟨by rfl, ?_⟩) (by assumption) ?_
  rotate_left 1
  · (intro w0 hSw; go_simp; try with_reducible rfl)
  simp only [List.getElem_toArray, List.getElem_cons_zero, List.getElem_cons_succ]
  go_frame
  refine wpAnyH_take (i := 8) (v := ?_) rfl (by kernel_rfl) (by kernel_rfl) (by kernel_rfl) (fun _ _ _ h => h) (Or.inl ⟨by rfl, ?_⟩) (by assumption) ?_
  rotate_left 1
  · (intro w0 hSw; go_simp; try with_reducible rfl)
  simp only [List.getElem_toArray, List.getElem_cons_zero, List.getElem_cons_succ]
  go_frame
  refine wpAnyH_take (i := 9) (v := ?_) rfl (by kernel_rfl) (by kernel_rfl) (by kernel_rfl) (fun _ _ _ h => h) (Or.inl ⟨by rfl, ?_⟩) (by assumption) ?_
  rotate_left 1
  · (intro w0 hSw; go_simp; try with_reducible rfl)
  simp only [List.getElem_toArray, List.getElem_cons_zero, List.getElem_cons_succ]
  go_frame
  refine wpAnyH_take (i := 10) (v := ?_) rfl (by kernel_rfl) (by kernel_rfl) (by kernel_rfl) (fun _ _ _ h => h) (Or.inl ⟨by rfl, ?_⟩) (by assumption) ?_
  rotate_left 1
  · (intro w0 hSw; go_simp; try with_reducible rfl)
  simp only [List.getElem_toArray, List.getElem_cons_zero, List.getElem_cons_succ]
  go_frame
  refine wpAnyH_take (i := 11) (v := ?_) rfl (by kernel_rfl) (by kernel_rfl) (by kernel_rfl) (fun _ _ _ h => h) (Or.inl ⟨by rfl, ?_⟩) (by assumption) ?_
  rotate_left 1
  · (intro w0 hSw; go_simp; try with_reducible rfl)
  simp only [List.getElem_toArray, List.getElem_cons_zero, List.getElem_cons_succ]
  go_frame
  refine wpAnyH_done (by kernel_rfl) ?_ _
  have H10 : Hid (KnS w w10' b S nb vE vB vC vF (.slice pv 5 kv) (.slice (some ⟨gx, 0, none⟩) 5 kx) knT knF) := H9.out.keep HG10.out
  have HG11 : Hid (w3.grownBy w10' none) := grown_trans HG9.out HG10.out
  clear t0 t1 H9 HG9 HG10 hHeld hHeld2 HFC
  have C11 := bnew (tgOk w10'.drew.heap.size) w10'.drew
  obtain ⟨b2, hb2⟩ : ∃ b2, b2 = w10'.drew.heap.size := ⟨_, rfl⟩
  rw [← hb2] at C11
  obtain ⟨t0, t1⟩ := tab_box H10.out.tab
  go_upto_region 16 with fail
  refine wp_region_held_drew (S := fun w' => w10'.grownBy w' none) (by kernel_rfl) (grown_drew _) (fun hHeld => ?_)
  refine wpAnyH_take (i := 1) (v := ?_) rfl (by kernel_rfl) (by kernel_rfl) (by kernel_rfl) (fun _ _ _ h => h) (Or.inl ⟨by rfl, ?_⟩) (by assumption) ?_
  rotate_left 1
  · (intro w0 hSw; go_simp; try with_reducible rfl)
  simp only [List.getElem_toArray, List.getElem_cons_zero, List.getElem_cons_succ]
  go_frame
  refine wpAnyH_take (i := 2) (v := ?_) rfl (by kernel_rfl) (by kernel_rfl) (by kernel_rfl) (fun _ _ _ h => h) (Or.inl ⟨by rfl, ?_⟩) (by assumption) ?_
  rotate_left 1
  · (intro w0 hSw; have t0 := hSw.cell t0 (by simp); go_simp; try with_reducible rfl)
  simp only [List.getElem_toArray, List.getElem_cons_zero, List.getElem_cons_succ]
  go_frame
  refine wpAnyH_take (i := 3) (v := ?_) rfl (by kernel_rfl) (by kernel_rfl) (by kernel_rfl) (fun _ _ _ h => h) (Or.inl ⟨by rfl, ?_⟩) (by assumption) ?_
  rotate_left 1
  · (intro w0 hSw; go_simp; try with_reducible rfl)
  simp only [List.getElem_toArray, List.getElem_cons_zero, List.getElem_cons_succ]
  go_frame
  refine wpAnyH_take (i := 4) (v := ?_) rfl (by kernel_rfl) (by kernel_rfl) (by kernel_rfl) (fun _ _ _ h => h) (Or.inl ⟨by rfl, ?_⟩) (by assumption) ?_
  rotate_left 1
  · (intro w0 hSw; have t1 := hSw.cell t1 (by simp); go_simp; try with_reducible rfl)
  simp only [List.getElem_toArray, List.getElem_cons_zero, List.getElem_cons_succ]
  go_frame
  refine wpAnyH_ready (rs := [0]) (by kernel_rfl) (by simp) ?_
  refine AllReadyH.cons rfl (fun K hK => ?_) AllReadyH.nil
  simp only [List.getElem_toArray, List.getElem_cons_zero]
  go_simp
  go_at_call 22
  refine (C11).mono ?_
  rintro e11 w11 ⟨rfl, B11, g11, hz11⟩
  have H11 : Hid (KnS w w11 b S nb vE vB vC vF (.slice pv 5 kv) (.slice (some ⟨gx, 0, none⟩) 5 kx) knT knF ∧ Book (tgOk b2) w11 b2 [] plNew ∧ w10'.grownBy w11 none) := ⟨H10.out.keep (grown_trans (grown_drew _) g11), B11, grown_trans (grown_drew _) g11⟩
  have C12 : Calls Tryz.prog 12 #[.pointer (some ⟨b2, 0, none⟩), .slice pv 5 kv, .slice (some ⟨gx, 0, none⟩) 5 kx, .int .i64 1] w11 fun e w' => ∃ p m c, e = .returned (.tuple #[.slice p m c, .int .i64 2]) ∧ w11.grownBy w' none := by
    have I := LIn.of B11 (RecT.Own.at H11.out.1.th) (RecT.Own.at H11.out.1.fe) (by decide)
    rw [show refE plNew knT.length = 2 from by kernel_rfl] at I
    exact (lEffects_any _ _ _ _ _ _ _ _ 1 w11 I).mono fun e w' q => effs_err q (bgE_no (by decide))
  clear C11 B11 g11 hz11 hb2
  refine hK.out _ _ (H11.out.2.2) (fun hHeld2 => ?_)
  clear hK K
  (try go_frame)
  refine wpAnyH_ready (rs := [5]) (by kernel_rfl) (by simp) ?_
  refine AllReadyH.cons rfl (fun K hK => ?_) AllReadyH.nil
  simp only [List.getElem_toArray, List.getElem_cons_zero, List.getElem_cons_succ]
  go_simp
  go_at_call 12
  refine (C12).mono ?_
  rintro e12 w12 ⟨p12, m12, c12, rfl, g12⟩
  have H12 : Hid (KnS w w12 b S nb vE vB vC vF (.slice pv 5 kv) (.slice (some ⟨gx, 0, none⟩) 5 kx) knT knF ∧ w10'.grownBy w12 none) := ⟨H11.out.1.keep g12, grown_trans H11.out.2.2 g12⟩
  clear C12 g12
  refine hK.out _ _ (H12.out.2) (fun hHeld2 => ?_)
  clear hK K
  (try go_frame)
  refine wpAnyH_take (i := 6) (v := ?_) rfl (by kernel_rfl) (by kernel_rfl) (by kernel_rfl) (fun _ _ _ h => h) (Or.inl ⟨by rfl, ?_⟩) (by assumption) ?_
  rotate_left 1
  · (intro w0 hSw; go_simp; try with_reducible rfl)
  simp only [List.getElem_toArray, List.getElem_cons_zero, List.getElem_cons_succ]
  go_frame
  refine wpAnyH_take (i := 7) (v := ?_) rfl (by kernel_rfl) (by kernel_rfl) (by kernel_rfl) (fun _ _ _ h => h) (Or.inl ⟨by rfl, ?_⟩) (by assumption) ?_
  rotate_left 1
  · (intro w0 hSw; go_simp; try with_reducible rfl)
  simp only [List.getElem_toArray, List.getElem_cons_zero, List.getElem_cons_succ]
  go_frame
  refine wpAnyH_take (i := 8) (v := ?_) rfl (by kernel_rfl) (by kernel_rfl) (by kernel_rfl) (fun _ _ _ h => h) (Or.inl ⟨by rfl, ?_⟩) (by assumption) ?_
  rotate_left 1
  · (intro w0 hSw; go_simp; try with_reducible rfl)
  simp only [List.getElem_toArray, List.getElem_cons_zero, List.getElem_cons_succ]
  go_frame
  refine wpAnyH_take (i := 9) (v := ?_) rfl (by kernel_rfl) (by kernel_rfl) (by kernel_rfl) (fun _ _ _ h => h) (Or.inl ⟨by rfl, ?_⟩) (by assumption) ?_
  rotate_left 1
  · (intro w0 hSw; go_simp; try with_reducible rfl)
  simp only [List.getElem_toArray, List.getElem_cons_zero, List.getElem_cons_succ]
  go_frame
  refine wpAnyH_take (i := 10) (v := ?_) rfl (by kernel_rfl) (by kernel_rfl) (by kernel_rfl) (fun _ _ _ h => h) (Or.inl ⟨by rfl, ?_⟩) (by assumption) ?_
  rotate_left 1
  · (intro w0 hSw; go_simp; try with_reducible rfl)
  simp only [List.getElem_toArray, List.getElem_cons_zero, List.getElem_cons_succ]
  go_frame
  refine wpAnyH_done (by kernel_rfl) ?_ _
  have HG13 : Hid (w3.grownBy w12 none) := grown_trans HG11.out H12.out.2
  have H13 : Hid (KnS w w12 b S nb vE vB vC vF (.slice pv 5 kv) (.slice (some ⟨gx, 0, none⟩) 5 kx) knT knF) := H12.out.1
  clear t0 t1 H10 HG11 H11 H12 hHeld hHeld2
  have HiT : Hid (iT.bytes = 88) := hT2
  have Hbb : Hid (iT.bytes * 2049 ≤ 281474976710656) := by show _ ≤ _; rw [HiT.out]; decide
  have Hbm : Hid (2049 ≤ maxLen) := by show _ ≤ _; unfold maxLen; decide
  clear hT2
  go_wp2_with (first
    | (at_make; refine wpList_make_full _ rfl _ _ 26 rfl w12.heap.size 60 iT _ 11 Tryz.underlying26 hiT hT0 hT1 .i64 .i64 _ _ 2049 rfl rfl rfl rfl Hbb.out Hbm.out (Nat.le_refl _) ?_; intro V19 o19 g19; have HM19 : Hid (∃ n, n = 2049 ∧ thR.Own 60 V19 0 (.slice (some ⟨w12.heap.size, 0, none⟩) n n) (List.replicate n thZ)) := ⟨2049, rfl, own_big (made_ownT o19) (Nat.zero_le _)⟩; have HG19 : Hid (w12.grownBy V19 none) := g19; clear o19 g19)
    | (go_at_call 12; obtain ⟨n, hn, hM⟩ := HM19.out; rw [hn] at hM; have C20 := many_eff H13.out HG19.out hM (by decide); refine C20.mono ?_; rintro e20 w20 ⟨p20, m20, c20, rfl, g20⟩; have HG20 : Hid (w.grownBy w20 none ∧ w3.grownBy w20 none) := ⟨grown_trans H13.out.gr (grown_trans HG19.out g20), grown_trans HG13.out (grown_trans HG19.out g20)⟩; clear C20 g20 hn hM n)
    | (go_at_call 9; have C21 := lawake_any w20; refine C21.mono ?_; rintro e21 w21 ⟨rfl, g21⟩; have HG21 : Hid (w.grownBy w21 none ∧ w3.grownBy w21 none) := ⟨grown_trans HG20.out.1 g21, grown_trans HG20.out.2 g21⟩; clear C21 g21)
    | (go_at_call 23; have C22 := lhangs_any w21; refine C22.mono ?_; rintro e22 w22 ⟨rfl, g22⟩; have HG22 : Hid (w.grownBy w22 none) := grown_trans HG21.out.1 g22; have d0 := (grown_trans HG21.out.2 g22).cell HC.out.1 (by simp); have d1 := (grown_trans HG21.out.2 g22).cell HC.out.2.1 (by simp); have d2 := (grown_trans HG21.out.2 g22).cell HC.out.2.2.1 (by simp); have d3 := (grown_trans HG21.out.2 g22).cell HC.out.2.2.2 (by simp); clear C22 g22))
  go_ret
  exact ⟨rfl, HG22.out⟩
end Go.Proofs.YtmemeloehgemcaaGreat
