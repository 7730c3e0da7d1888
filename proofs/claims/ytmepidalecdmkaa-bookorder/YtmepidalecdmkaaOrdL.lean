/-
  BookOrder, walked.
-/
import Derived.Test.YtmepidalecdmkaaNumP
namespace Go.Proofs.Ytmepidalecdmkaa
open Go.RowKit

theorem IntsIn.keep {w w' : World} {v : Value} {os : List Int} (h : IntsIn w v os) (g : w.grownBy w' none) : IntsIn w' v os := by
  obtain ⟨a, k, e, h1⟩ := h
  exact ⟨a, k, e, fun h0 => by obtain ⟨x, o, e1, e2⟩ := h1 h0; exact ⟨x, o, e1, fun j z hz => g.cell (e2 j z hz) (by simp)⟩⟩
theorem same_true {ok ok' : Nat → Prop} {w : World} {b c : Nat} {es fs : List Ent} {p q : Pl} (B : Book ok w b es p) (C : Book ok' w c fs q) (h1 : sameEs es fs = true) (h2 : p.shut = q.shut) (h3 : p.nms = q.nms) (h4 : p.mks = q.mks) (hl : es.length = fs.length) : Calls Try.prog 9 #[.pointer (some ⟨b, 0, none⟩), .pointer (some ⟨c, 0, none⟩)] w fun e w' => e = .returned (.bool true) ∧ w.grownBy w' none := by
  have := same_yes ok ok' b c es fs p q w B.lies C.lies B.good C.good B.fine C.fine B.parts
  rw [h1, samePl_iff.2 ⟨hl, h2, h3, h4⟩] at this
  exact this
theorem sealP_shutE {p q : Pl} {es fs : List Ent} (h : sealE p es = sealE q fs) (hs : p.shut = q.shut) : (sealP p es).shut = (sealP q fs).shut := by
  unfold sealP
  rw [h]
  split
  · rfl
  · exact hs
theorem sealP_nms (p : Pl) (es : List Ent) : (sealP p es).nms = p.nms ∧ (sealP p es).mks = p.mks := by
  unfold sealP
  split <;> exact ⟨rfl, rfl⟩
theorem pos_in {es : List Ent} {s : ByteArray} (h : s ∈ names es) : 0 ≤ pos (names es) s := by
  apply Classical.byContradiction
  intro hn
  exact pos_no (Int.not_le.1 hn) h
set_option maxRecDepth 100000 in
set_option maxHeartbeats 4000000 in
theorem order_any (vc vt vm v1 v2 : Value) (cs : List Ent) (ts : List ByteArray) (ms : List Mk) (os1 os2 : List Int) (w : World) (F : FillAt w vc vt vm cs ts ms) (O1 : IntsIn w v1 os1) (O2 : IntsIn w v2 os2) : Calls Try.prog 3 #[fv vc vt vm, v1, v2] w fun e w' => e = .returned (.bool true) ∧ w.grownBy w' none := by
  have HF : Hid (FillAt w vc vt vm cs ts ms) := F
  have HO1 : Hid (IntsIn w v1 os1) := O1
  have HO2 : Hid (IntsIn w v2 os2) := O2
  obtain ⟨⟨ca, ck, rfl, HCs⟩, ⟨ta, tk, rfl, _⟩, ⟨ma, mk', rfl, _⟩, _⟩ := F
  obtain ⟨o1, k1, rfl, _⟩ := O1
  obtain ⟨o2, k2, rfl, _⟩ := O2
  have HCs' : Hid (0 < cs.length → ∃ g o, ca = some ⟨g, o, none⟩ ∧ EsAt w g o cs) := HCs
  clear HCs
  obtain ⟨W1, hW1⟩ : ∃ W1, W1 = w.alloc (.cells #[.slice ca cs.length ck, .slice ta ts.length tk, .slice ma ms.length mk'] 26) := ⟨_, rfl⟩
  have HG1 : Hid (w.grownBy W1 none) := by rw [hW1]; exact World.grownBy_alloc _ _ none
  have HA1 : Hid (W1.heap[w.heap.size]? = some (.cells #[.slice ca cs.length ck, .slice ta ts.length tk, .slice ma ms.length mk'] 26 (0, 0))) := by rw [hW1]; exact alloc_at w _ _
  unfold fv
  go_enter Try.func3, Try.ntmps3
  go_upto_region 1 with fail
  rw [← hW1]
  clear hW1
  go_wp2_with fail
  refine (awake_any _).mono ?_
  rintro e W2 ⟨rfl, g2⟩
  have HG2 : Hid (w.grownBy W2 none) := grown_trans HG1.out g2
  have HA2 : Hid (W2.heap[w.heap.size]? = some (.cells #[.slice ca cs.length ck, .slice ta ts.length tk, .slice ma ms.length mk'] 26 (0, 0))) := grown_keep g2 HA1.out (by simp)
  have a0 : W2.cell? ⟨w.heap.size, 0, none⟩ = some (.slice ca cs.length ck) := block_cell HA2.out 0
  have a1 : W2.cell? ⟨w.heap.size, 1, none⟩ = some (.slice ta ts.length tk) := block_cell HA2.out 1
  have a2 : W2.cell? ⟨w.heap.size, 2, none⟩ = some (.slice ma ms.length mk') := block_cell HA2.out 2
  clear HG1 HA1 g2
  by_cases h1 : 80 < cs.length
  · have h1' : (80 : Int) < (cs.length : Int) := by omega
    go_wp2
    go_ret
    exact ⟨rfl, HG2.out⟩
  have h1' : ¬ (80 : Int) < (cs.length : Int) := by omega
  by_cases h2 : 8 < ts.length
  · have h2' : (8 : Int) < (ts.length : Int) := by omega
    go_wp2
    go_ret
    exact ⟨rfl, HG2.out⟩
  have h2' : ¬ (8 : Int) < (ts.length : Int) := by omega
  by_cases h3 : 8 < ms.length
  · have h3' : (8 : Int) < (ms.length : Int) := by omega
    go_wp2
    go_ret
    exact ⟨rfl, HG2.out⟩
  have h3' : ¬ (8 : Int) < (ms.length : Int) := by omega
  by_cases h4 : 400 < os1.length
  · have h4' : (400 : Int) < (os1.length : Int) := by omega
    go_wp2
    go_ret
    exact ⟨rfl, HG2.out⟩
  have h4' : ¬ (400 : Int) < (os1.length : Int) := by omega
  by_cases h5 : 400 < os2.length
  · have h5' : (400 : Int) < (os2.length : Int) := by omega
    go_wp2
    go_ret
    exact ⟨rfl, HG2.out⟩
  have h5' : ¬ (400 : Int) < (os2.length : Int) := by omega
  have HA := added_any _ _ _ _ cs ts ms os1 W2 (HF.out.keep HG2.out) (HO1.out.keep HG2.out) (by omega) (by omega) (by omega) (by omega)
  have HL : Hid (cs.length ≤ 80 ∧ ts.length ≤ 8 ∧ ms.length ≤ 8 ∧ os2.length ≤ 400) := ⟨by omega, by omega, by omega, by omega⟩
  unfold fv at HA
  go_wp2_with fail
  refine HA.mono ?_
  rintro e W3 ⟨l, es, p, r, rfl, Fl, all1, B3, g3⟩
  clear HA a0 a1 a2 h1 h2 h3 h1' h2' h3' h4 h4' h5 h5'
  have HG3 : Hid (w.grownBy W3 none) := grown_trans HG2.out g3
  have HA3 : Hid (W3.heap[w.heap.size]? = some (.cells #[.slice ca cs.length ck, .slice ta ts.length tk, .slice ma ms.length mk'] 26 (0, 0))) := grown_keep g3 HA2.out (by simp)
  obtain ⟨b, hb⟩ : ∃ b, b = W2.heap.size + 1 := ⟨_, rfl⟩
  obtain ⟨ok, hok⟩ : ∃ ok : Nat → Prop, ok = fun k => (W2.heap.size + 1 + 1 < k) ∧ k < W3.heap.size := ⟨_, rfl⟩
  have HB3 : Hid (Book ok W3 b es p) := by rw [hok, hb]; exact B3.old
  have nb : ¬ ok b := by rw [hok, hb]; intro h; have := h.1; omega
  have hwb : w.heap.size ≤ b := by rw [hb]; have := HG2.out.size; omega
  have hFb : ¬ w.heap.size = b := by have := block_lt HA2.out; omega
  rw [← hb]
  have hb3 : b < W3.heap.size := HB3.out.lt
  have HFl : Hid (Fil cs ts ms l es p r) := Fl
  have HAl : Hid (∀ i, i < many cs ts ms → i ∈ l) := all1
  clear B3 g3 HG2 HA2 hb Fl all1
  have a0 : W3.cell? ⟨w.heap.size, 0, none⟩ = some (.slice ca cs.length ck) := block_cell HA3.out 0
  have a1 : W3.cell? ⟨w.heap.size, 1, none⟩ = some (.slice ta ts.length tk) := block_cell HA3.out 1
  have a2 : W3.cell? ⟨w.heap.size, 2, none⟩ = some (.slice ma ms.length mk') := block_cell HA3.out 2
  have HA := added_any _ _ _ _ cs ts ms os2 W3 (HF.out.keep HG3.out) (HO2.out.keep HG3.out) HL.out.1 HL.out.2.1 HL.out.2.2.1 HL.out.2.2.2
  unfold fv at HA
  go_wp2_with fail
  refine HA.mono ?_
  rintro e W4 ⟨l2, fs, q, r2, rfl, Fl, all2, C4, g4⟩
  clear HA a0 a1 a2
  have HG4 : Hid (w.grownBy W4 none) := grown_trans HG3.out g4
  have HA4 : Hid (W4.heap[w.heap.size]? = some (.cells #[.slice ca cs.length ck, .slice ta ts.length tk, .slice ma ms.length mk'] 26 (0, 0))) := grown_keep g4 HA3.out (by simp)
  obtain ⟨c, hc⟩ : ∃ c, c = W3.heap.size + 1 := ⟨_, rfl⟩
  obtain ⟨ok', hok'⟩ : ∃ ok' : Nat → Prop, ok' = fun k => W3.heap.size + 1 + 1 < k := ⟨_, rfl⟩
  have HC4 : Hid (Book ok' W4 c fs q) := by rw [hok', hc]; exact C4
  have HB4 : Hid (Book ok W4 b es p) := HB3.out.keep g4
  have nc : ¬ ok' c := by rw [hok', hc]; intro h; omega
  have nbc : ∀ k, ok' k → some k ≠ some b := fun k hk e => by cases e; rw [hok'] at hk; omega
  have ncb : ∀ k, ok k → some k ≠ some c := fun k hk e => by cases e; rw [hok] at hk; have := hk.2; omega
  have hbc : ¬ b = c := by omega
  have hwc : w.heap.size ≤ c := by rw [hc]; have := HG3.out.size; omega
  have hFc : ¬ w.heap.size = c := by have := block_lt HA3.out; omega
  rw [← hc]
  have HLs : Hid (cs.length ≤ 140737488355328) := Nat.le_trans HL.out.1 (by decide)
  clear C4 g4 HG3 HA3 HB3 hc hok hok' hb3 HF HO1 HO2 HL
  rcases (show 0 < r ∨ r = 0 from by omega) with hr | hr
  · have hr' : (0 : Int) < (r : Int) := by omega
    go_wp2
    go_ret
    exact ⟨rfl, HG4.out⟩
  rcases (show 0 < r2 ∨ r2 = 0 from by omega) with hr2 | hr2
  · have hr' : ¬ (0 : Int) < (r : Int) := by omega
    have hr2' : (0 : Int) < (r2 : Int) := by omega
    clear hr
    go_wp2
    go_ret
    exact ⟨rfl, HG4.out⟩
  have HT : Hid (sameEs es fs = true ∧ p.nms = q.nms ∧ p.mks = q.mks ∧ es.length = cs.length ∧ (∀ e ∈ cs, e.h.nm ∈ names es)) := two_same (HFl.out.inv hr) (Fl.inv hr2) HAl.out all2 HB4.out.srt HC4.out.srt
  have HS : Hid (p.shut = q.shut) := HFl.out.opn.trans Fl.opn.symm
  have hr' : ¬ (0 : Int) < (r : Int) := by omega
  have hr2' : ¬ (0 : Int) < (r2 : Int) := by omega
  have HLn : Hid (es.length = fs.length) := by have h0 := congrArg List.length (sameEs_names HT.out.1); rw [names_len, names_len] at h0; exact h0
  clear hr hr2 Fl all2 HFl HAl
  have HS12 := fun W (g : W4.grownBy W none) => same_true (HB4.out.keep g) (HC4.out.keep g) HT.out.1 HS.out HT.out.2.1 HT.out.2.2.1 HLn.out
  have HS21 := fun W (g : W4.grownBy W none) => same_true (HC4.out.keep g) (HB4.out.keep g) (sameEs_sym HT.out.1) HS.out.symm HT.out.2.1.symm HT.out.2.2.1.symm HLn.out.symm
  have HLen := fun W (g : W4.grownBy W none) => len_yes b es.length (HB4.out.keep g).lies.len p W (HB4.out.keep g).lies.flags
  rw [HT.out.2.2.2.1] at HLen
  have a4 : W4.cell? ⟨w.heap.size, 0, none⟩ = some (.slice ca cs.length ck) := block_cell HA4.out 0
  go_upto_region 8 with fail
  have H0 : W4.grownBy W4.drew none := grown_drew _
  refine wp_region_held_drew (S := fun w' => W4.grownBy w' none) (by kernel_rfl) H0 (fun hHeld => ?_)
  refine wpAnyH_take (i := 0) (v := ?_) rfl (by kernel_rfl) (by kernel_rfl) (by kernel_rfl) (fun _ _ _ h => h) (Or.inl ⟨by rfl, ?_⟩) (by assumption) ?_
  rotate_left 1
  · (intro w0 hSw; go_simp; try with_reducible rfl)
  simp only [List.getElem_toArray, List.getElem_cons_zero]
  go_frame
  refine wpAnyH_take (i := 1) (v := ?_) rfl (by kernel_rfl) (by kernel_rfl) (by kernel_rfl) (fun _ _ _ h => h) (Or.inl ⟨by rfl, ?_⟩) (by assumption) ?_
  rotate_left 1
  · (intro w0 hSw; go_simp; try with_reducible rfl)
  simp only [List.getElem_toArray, List.getElem_cons_zero, List.getElem_cons_succ]
  go_frame
  refine wpAnyH_ready (rs := [2]) (by kernel_rfl) (by simp) ?_
  refine AllReadyH.cons rfl (fun K hK => ?_) AllReadyH.nil
  simp only [List.getElem_toArray, List.getElem_cons_zero, List.getElem_cons_succ]
  go_simp
  go_at_call 9
  refine (HS12 _ hHeld).mono ?_
  rintro e W5 ⟨rfl, g5⟩
  refine hK.out _ _ (grown_trans hHeld g5) (fun hHeld2 => ?_)
  clear hK K
  (try go_frame)
  have HG5 : Hid (W4.grownBy W5 none) := hHeld2
  clear hHeld2 g5 hHeld
  have hH5 := HG5.out
  refine wpAnyH_take (i := 3) (v := ?_) rfl (by kernel_rfl) (by kernel_rfl) (by kernel_rfl) (fun _ _ _ h => h) (Or.inl ⟨by rfl, ?_⟩) (by assumption) ?_
  rotate_left 1
  · (intro w0 hSw; go_simp; try with_reducible rfl)
  simp only [List.getElem_toArray, List.getElem_cons_zero, List.getElem_cons_succ]
  go_frame
  refine wpAnyH_take (i := 4) (v := ?_) rfl (by kernel_rfl) (by kernel_rfl) (by kernel_rfl) (fun _ _ _ h => h) (Or.inl ⟨by rfl, ?_⟩) (by assumption) ?_
  rotate_left 1
  · (intro w0 hSw; go_simp; try with_reducible rfl)
  simp only [List.getElem_toArray, List.getElem_cons_zero, List.getElem_cons_succ]
  go_frame
  refine wpAnyH_take (i := 5) (v := ?_) rfl (by kernel_rfl) (by kernel_rfl) (by kernel_rfl) (fun _ _ _ h => h) (Or.inl ⟨by rfl, ?_⟩) (by assumption) ?_
  rotate_left 1
  · (intro w0 hSw; go_simp; try with_reducible rfl)
  simp only [List.getElem_toArray, List.getElem_cons_zero, List.getElem_cons_succ]
  go_frame
  refine wpAnyH_take (i := 6) (v := ?_) rfl (by kernel_rfl) (by kernel_rfl) (by kernel_rfl) (fun _ _ _ h => h) (Or.inl ⟨by rfl, ?_⟩) (by assumption) ?_
  rotate_left 1
  · (intro w0 hSw; go_simp; try with_reducible rfl)
  simp only [List.getElem_toArray, List.getElem_cons_zero, List.getElem_cons_succ]
  go_frame
  refine wpAnyH_ready (rs := [7]) (by kernel_rfl) (by simp) ?_
  refine AllReadyH.cons rfl (fun K hK => ?_) AllReadyH.nil
  simp only [List.getElem_toArray, List.getElem_cons_zero, List.getElem_cons_succ]
  go_simp
  go_at_call 9
  refine (HS21 _ HG5.out).mono ?_
  rintro e W6 ⟨rfl, g6⟩
  refine hK.out _ _ (grown_trans HG5.out g6) (fun hHeld2 => ?_)
  clear hK K
  (try go_frame)
  have HG6 : Hid (W4.grownBy W6 none) := hHeld2
  clear hHeld2 g6 hH5
  have hH6 := HG6.out
  refine wpAnyH_take (i := 8) (v := ?_) rfl (by kernel_rfl) (by kernel_rfl) (by kernel_rfl) (fun _ _ _ h => h) (Or.inl ⟨by rfl, ?_⟩) (by assumption) ?_
  rotate_left 1
  · (intro w0 hSw; go_simp; try with_reducible rfl)
  simp only [List.getElem_toArray, List.getElem_cons_zero, List.getElem_cons_succ]
  go_frame
  refine wpAnyH_take (i := 9) (v := ?_) rfl (by kernel_rfl) (by kernel_rfl) (by kernel_rfl) (fun _ _ _ h => h) (Or.inl ⟨by rfl, ?_⟩) (by assumption) ?_
  rotate_left 1
  · (intro w0 hSw; go_simp; try with_reducible rfl)
  simp only [List.getElem_toArray, List.getElem_cons_zero, List.getElem_cons_succ]
  go_frame
  refine wpAnyH_take (i := 10) (v := ?_) rfl (by kernel_rfl) (by kernel_rfl) (by kernel_rfl) (fun _ _ _ h => h) (Or.inl ⟨by rfl, ?_⟩) (by assumption) ?_
  rotate_left 1
  · (intro w0 hSw; go_simp; try with_reducible rfl)
  simp only [List.getElem_toArray, List.getElem_cons_zero, List.getElem_cons_succ]
  go_frame
  refine wpAnyH_take (i := 11) (v := ?_) rfl (by kernel_rfl) (by kernel_rfl) (by kernel_rfl) (fun _ _ _ h => h) (Or.inl ⟨by rfl, ?_⟩) (by assumption) ?_
  rotate_left 1
  · (intro w0 hSw; go_simp; try with_reducible rfl)
  simp only [List.getElem_toArray, List.getElem_cons_zero, List.getElem_cons_succ]
  go_frame
  refine wpAnyH_take (i := 13) (v := ?_) rfl (by kernel_rfl) (by kernel_rfl) (by kernel_rfl) (fun _ _ _ h => h) (Or.inl ⟨by rfl, ?_⟩) (by assumption) ?_
  rotate_left 1
  · (intro w0 hSw; go_simp; try with_reducible rfl)
  simp only [List.getElem_toArray, List.getElem_cons_zero, List.getElem_cons_succ]
  go_frame
  refine wpAnyH_take (i := 14) (v := ?_) rfl (by kernel_rfl) (by kernel_rfl) (by kernel_rfl) (fun _ _ _ h => h) (Or.inl ⟨by rfl, ?_⟩) (by assumption) ?_
  rotate_left 1
  · (intro w0 hSw; have a9 := World.grownBy.cell hSw a4 (by simp); go_simp; try with_reducible rfl)
  simp only [List.getElem_toArray, List.getElem_cons_zero, List.getElem_cons_succ]
  go_frame
  refine wpAnyH_take (i := 15) (v := ?_) rfl (by kernel_rfl) (by kernel_rfl) (by kernel_rfl) (fun _ _ _ h => h) (Or.inl ⟨by rfl, ?_⟩) (by assumption) ?_
  rotate_left 1
  · (intro w0 hSw; go_simp; try with_reducible rfl)
  simp only [List.getElem_toArray, List.getElem_cons_zero, List.getElem_cons_succ]
  go_frame
  refine wpAnyH_ready (rs := [12]) (by kernel_rfl) (by simp) ?_
  refine AllReadyH.cons rfl (fun K hK => ?_) AllReadyH.nil
  simp only [List.getElem_toArray, List.getElem_cons_zero, List.getElem_cons_succ]
  go_simp
  go_at_call 10
  refine (HLen _ HG6.out).mono ?_
  rintro e W7 ⟨rfl, g7, _⟩
  refine hK.out _ _ (grown_trans HG6.out g7) (fun hHeld2 => ?_)
  clear hK K
  (try go_frame)
  have HG7 : Hid (W4.grownBy W7 none) := hHeld2
  clear hHeld2 g7 hH6
  have hH7 := HG7.out
  refine wpAnyH_take (i := 16) (v := ?_) rfl (by kernel_rfl) (by kernel_rfl) (by kernel_rfl) (fun _ _ _ h => h) (Or.inl ⟨by rfl, ?_⟩) (by assumption) ?_
  rotate_left 1
  · (intro w0 hSw; go_simp; try with_reducible rfl)
  simp only [List.getElem_toArray, List.getElem_cons_zero, List.getElem_cons_succ]
  go_frame
  refine wpAnyH_take (i := 17) (v := ?_) rfl (by kernel_rfl) (by kernel_rfl) (by kernel_rfl) (fun _ _ _ h => h) (Or.inl ⟨by rfl, ?_⟩) (by assumption) ?_
  rotate_left 1
  · (intro w0 hSw; go_simp; try with_reducible rfl)
  simp only [List.getElem_toArray, List.getElem_cons_zero, List.getElem_cons_succ]
  go_frame
  refine wpAnyH_done (by kernel_rfl) ?_ _
  have HE : Hid (sealE p es = sealE q fs) := sealE_of HT.out.1 HS.out
  have HB7 : Hid (Book ok W7 b es p) := HB4.out.keep HG7.out
  have HC7 : Hid (Book ok' W7 c fs q) := HC4.out.keep HG7.out
  have HA7 : Hid (W7.heap[w.heap.size]? = some (.cells #[.slice ca cs.length ck, .slice ta ts.length tk, .slice ma ms.length mk'] 26 (0, 0))) := grown_keep HG7.out HA4.out (by simp)
  have HW7 : Hid (w.grownBy W7 none) := grown_trans HG4.out HG7.out
  clear HS12 HS21 HLen HG5 HG6 HG7 hH7 HB4 HC4 HA4 HG4 H0 a4
  go_wp2_with fail
  refine (bseal ok b es p _ HB7.out nb).mono ?_
  rintro e W8 ⟨rfl, B8, g8⟩
  have C8 := HC7.out.keepR g8 (by simpa using Ne.symm hbc) nbc
  have HA8 := grown_keep g8 HA7.out (by simpa using hFb)
  have HW8 : Hid (w.grownBy W8 none) := grown_own HW7.out g8 (fun x e => by cases e; exact hwb)
  clear HB7 HC7 HA7 HW7 g8
  have HSq := bseal ok' c fs q _ C8 nc
  rw [← HE.out] at HSq
  clear C8
  go_wp2_with fail
  refine HSq.mono ?_
  rintro e W9 ⟨rfl, C9, g9⟩
  have B9 := B8.keepR g9 (by simpa using hbc) ncb
  have HA9 : Hid (W9.heap[w.heap.size]? = some (.cells #[.slice ca cs.length ck, .slice ta ts.length tk, .slice ma ms.length mk'] 26 (0, 0))) := grown_keep g9 HA8 (by simpa using hFc)
  have HW9 : Hid (w.grownBy W9 none) := grown_own HW8.out g9 (fun x e => by cases e; exact hwc)
  have HSh : Hid ((sealP p es).shut = (sealP q fs).shut) := sealP_shutE HE.out HS.out
  have HNm : Hid (names es = names fs) := sameEs_names HT.out.1
  have HIn : Hid (∀ e ∈ cs, e.h.nm ∈ names es) := HT.out.2.2.2.2
  have HSm := same_true B9 C9 HT.out.1 HSh.out (((sealP_nms p es).1.trans HT.out.2.1).trans (sealP_nms q fs).1.symm) (((sealP_nms p es).2.trans HT.out.2.2.1).trans (sealP_nms q fs).2.symm) HLn.out
  have HB9 : Hid (Book ok W9 b es (sealP p es)) := B9
  have HC9 : Hid (Book ok' W9 c fs (sealP q fs)) := C9
  clear HSq HA8 HW8 B8 B9 C9 g9 HT HLn HS HE
  generalize sealP p es = p' at *
  generalize sealP q fs = q' at *
  generalize sealE p es = E0 at *
  clear hr' hr2'
  go_wp2_with fail
  refine HSm.mono ?_
  rintro e W10 ⟨rfl, g10⟩
  have HB10 : Hid (Book ok W10 b es p') := HB9.out.keep g10
  have HC10 : Hid (Book ok' W10 c fs q') := HC9.out.keep g10
  have HA10 : Hid (W10.heap[w.heap.size]? = some (.cells #[.slice ca cs.length ck, .slice ta ts.length tk, .slice ma ms.length mk'] 26 (0, 0))) := grown_keep g10 HA9.out (by simp)
  have HW10 : Hid (w.grownBy W10 none) := grown_trans HW9.out g10
  clear HSm g10 HB9 HC9 HA9 HW9
  have hsm : Small cs.length := by unfold Small; exact HLs.out
  go_wp2_with fail
  go_loopw [12] (fun x12 wr => ∃ k : Nat, k ≤ cs.length ∧ x12 = .int .i64 (k : Int) ∧ W10.grownBy wr none) (fun x12 _ => cs.length - (intOf x12).toNat)
  case atStart => exact ⟨0, Nat.zero_le _, rfl, grown_refl _ _⟩
  case round =>
    obtain ⟨k, hk, rfl, Gk⟩ := hrel
    obtain ⟨U, hU⟩ : ∃ U, U = wr := ⟨_, rfl⟩
    subst hU
    have HGk : Hid (W10.grownBy U none) := Gk
    clear Gk
    have a0 : U.cell? ⟨w.heap.size, 0, none⟩ = some (.slice ca cs.length ck) := block_cell (grown_keep HGk.out HA10.out (by simp)) 0
    rcases (show k = cs.length ∨ k < cs.length from by omega) with hke | hkl
    · have kn : ¬ (k : Int) < (cs.length : Int) := by omega
      clear hke
      go_wp2
      go_ret
      exact ⟨rfl, grown_trans HW10.out HGk.out⟩
    · have kl : (k : Int) < (cs.length : Int) := by omega
      have k0 : (0 : Int) ≤ (k : Int) := by omega
      obtain ⟨g, o, rfl, HEs⟩ := HCs'.out (by omega)
      obtain ⟨e0, he0⟩ : ∃ e, cs[k]? = some e := ⟨_, List.getElem?_eq_getElem hkl⟩
      have n0 := ((HEs.keep HW10.out).keep HGk.out k e0 he0).c0
      have HP := pos_in (HIn.out e0 (List.mem_of_getElem? he0))
      have HF1 := fun W (h : U.grownBy W none) => find_yes b es p' e0.h.nm W ((HB10.out.keep HGk.out).keep h).lies HB10.out.good.slc
      have HF2 := fun W (h : U.grownBy W none) => find_yes c fs q' e0.h.nm W ((HC10.out.keep HGk.out).keep h).lies HC10.out.good.slc
      rw [← HNm.out, ← HSh.out] at HF2
      have HSe := fun W (h : U.grownBy W none) => sealed_yes b es.length p' W ((HB10.out.keep HGk.out).keep h).lies.flags
      obtain ⟨N, hN⟩ : ∃ N, N = fndN p'.shut (pos (names es) e0.h.nm) := ⟨_, rfl⟩
      obtain ⟨E, hE⟩ : ∃ E, E = fndE p'.shut (pos (names es) e0.h.nm) := ⟨_, rfl⟩
      have HNE : Hid (p'.shut = true → E = 0 ∧ 1 ≤ N) := fun h => by rw [hN, hE, h]; unfold fndN fndE; rw [if_pos ⟨rfl, HP⟩, if_pos ⟨rfl, HP⟩]; exact ⟨rfl, by omega⟩
      rw [← hN, ← hE] at HF1 HF2
      clear hN hE HP he0 HEs
      cases hsh : p'.shut with
      | false =>
        rw [hsh] at HSe
        clear HNE hsh
        go_wp2_with fail
        refine (HF1 _ (grown_refl _ _)).mono ?_
        rintro e U1 ⟨rfl, g1⟩
        have a1 := g1.cell a0 (by simp)
        have n1 := g1.cell n0 (by simp)
        go_wp2_with fail
        refine (HF2 _ g1).mono ?_
        rintro e U2 ⟨rfl, g2⟩
        have G2 := grown_trans g1 g2
        clear a0 a1 n0 n1 g1 g2
        go_wp2_with fail
        refine (HSe _ G2).mono ?_
        rintro e U3 ⟨rfl, h3⟩
        obtain rfl : U2 = U3 := h3.symm
        go_wp2_with fail
        go_roundw
        case rel => exact ⟨k + 1, hkl, by first | rfl | (rw [hsm.wrap hkl]; rfl), grown_trans HGk.out G2⟩
        case measure => first | exact meas_next hkl | (rw [hsm.wrap hkl]; exact meas_next hkl)
      | true =>
        rw [hsh] at HSe
        obtain ⟨rfl, hN1⟩ := HNE.out hsh
        have hN2 : ¬ N < 1 := by omega
        clear HNE hsh hN1
        go_wp2_with fail
        refine (HF1 _ (grown_refl _ _)).mono ?_
        rintro e U1 ⟨rfl, g1⟩
        have a1 := g1.cell a0 (by simp)
        have n1 := g1.cell n0 (by simp)
        go_wp2_with fail
        refine (HF2 _ g1).mono ?_
        rintro e U2 ⟨rfl, g2⟩
        have G2 := grown_trans g1 g2
        clear a0 a1 n0 n1 g1 g2
        go_wp2_with fail
        refine (HSe _ G2).mono ?_
        rintro e U3 ⟨rfl, h3⟩
        obtain rfl : U2 = U3 := h3.symm
        go_wp2_with fail
        go_roundw
        case rel => exact ⟨k + 1, hkl, by first | rfl | (rw [hsm.wrap hkl]; rfl), grown_trans HGk.out G2⟩
        case measure => first | exact meas_next hkl | (rw [hsm.wrap hkl]; exact meas_next hkl)
end Go.Proofs.Ytmepidalecdmkaa
