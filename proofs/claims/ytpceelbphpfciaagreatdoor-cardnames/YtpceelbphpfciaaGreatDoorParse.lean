/-
  What Parse tells of every text: the part, or the error. It touches nothing that was there.
-/
import Derived.Test.YtpceelbphpfciaaGreatDoorRead
namespace Go.Proofs.YtpceelbphpfciaaGreatDoor
open Go.RowKit

/-- A part and an error, as Parse hands them back. -/
def pe (x : Pt × Int) : Value := .tuple #[pv x.1, .int .i64 x.2]
theorem piece_len : ∀ (l : List UInt8), ∀ x ∈ pieces l, x.length ≤ l.length
  | [], x, h => by simp [pieces] at h; simp [h]
  | c :: r, x, h => by
    have ih := piece_len r
    by_cases hc : c = 32
    · simp only [pieces, if_pos hc, List.mem_cons] at h
      rcases h with rfl | h
      · simp
      · have := ih x h
        simp only [List.length_cons]
        omega
    · simp only [pieces, if_neg hc] at h
      cases hp : pieces r with
      | nil => exact absurd hp (pieces_ne r)
      | cons y ys =>
        rw [hp] at h
        simp only [List.mem_cons] at h
        rcases h with rfl | h
        · have := ih y (by rw [hp]; simp)
          simp only [List.length_cons]
          omega
        · have := ih x (by rw [hp]; simp [h])
          simp only [List.length_cons]
          omega
theorem pieces_len : ∀ (l : List UInt8), (pieces l).length ≤ l.length + 1
  | [] => by simp [pieces]
  | c :: r => by
    have ih := pieces_len r
    by_cases hc : c = 32
    · simp only [pieces, if_pos hc, List.length_cons]
      omega
    · simp only [pieces, if_neg hc]
      cases hp : pieces r with
      | nil => simp
      | cons y ys =>
        rw [hp] at ih
        simp only [List.length_cons] at ih ⊢
        omega
theorem words_map (s : ByteArray) : (wordsB s).map (·.data.toList) = pieces s.data.toList := by
  unfold wordsB
  rw [List.map_map]
  exact List.map_id _
/-- read, of the pieces of a text of at most 80 bytes. -/
theorem read_words (s : ByteArray) (hs : s.size ≤ 80) (b : Nat) (w : World) (L : LaidAt w) (hb : b < w.heap.size) (X : W0At w b (wordsB s)) :
    Calls Tryz.prog 28 #[.slice (some ⟨b, 0, none⟩) (wordsB s).length (wordsB s).length] w fun e w' => rdE (readP (pieces s.data.toList)) e ∧ w.grownBy w' none := by
  have hl := Lib.size_eq s
  have h1 : (wordsB s).length ≤ 81 := by
    have := pieces_len s.data.toList
    unfold wordsB
    rw [List.length_map]
    omega
  have h2 : ∀ x ∈ wordsB s, x.size ≤ 100 := by
    intro x hx
    obtain ⟨l, hm, rfl⟩ := List.mem_map.1 hx
    have := piece_len _ l hm
    show l.toArray.size ≤ 100
    simp
    omega
  rw [← words_map]
  match hw : wordsB s with
  | [] => exact read_short b _ [] (by simp) w
  | [x] => exact read_short b _ [x] (by simp) w
  | [x, y] => exact read_short b _ [x, y] (by simp) w
  | x :: y :: z :: r =>
    rw [hw] at h1 h2 X
    simp only [List.length_cons] at h1
    exact read_long b x y z r h2 (by omega) w L hb X
set_option maxHeartbeats 4000000 in
set_option maxRecDepth 100000 in
theorem parse_long (s : ByteArray) (h : 80 < s.size) (w : World) : Calls Tryz.prog 8 #[.string s] w fun e w' => e = .returned (pe (Pt.none, 3)) ∧ w.grownBy w' none := by
  have hb : (80 : Int) < (s.size : Int) := by omega
  clear h
  go_enter Tryz.func8, Tryz.ntmps8
  go_wp2
  refine bodyPost_ret (v := .tuple #[.agg #[.int .u8 0, .int .u8 0, .int .u8 0, .int .i64 0, .int .u8 0, .int .u8 0, .int .u8 0, .string ⟨#[]⟩], .int .i64 3]) (by simp [results, Tryz.results8, go_sem]) rfl ⟨?_, ?_⟩
  · rfl
  · exact World.grownBy_alloc _ _ _
theorem split_w (s : ByteArray) (hs : s.size < 4294967281) (w : World) : Calls Tryz.prog 29 #[.string s, .string ⟨#[32]⟩] w fun e w' => e = .returned (.slice (some ⟨w.heap.size, 0, none⟩) (wordsB s).length (wordsB s).length) ∧ W0At w' w.heap.size (wordsB s) ∧ w.heap.size < w'.heap.size ∧ w.grownBy w' none := by
  refine (split_any s hs w).mono ?_
  rintro e w' ⟨rfl, rfl⟩
  refine ⟨rfl, fun i x hx => ?_, by rw [World.size_alloc]; omega, World.grownBy_alloc _ _ _⟩
  rw [block_cell (alloc_at _ _ _)]
  simp [hx]
set_option maxHeartbeats 4000000 in
set_option maxRecDepth 100000 in
theorem parse_none (s : ByteArray) (h : s.size ≤ 80) (hr : readP (pieces s.data.toList) = none) (w : World) (L : LaidAt w) : Calls Tryz.prog 8 #[.string s] w fun e w' => e = .returned (pe (Pt.none, 150)) ∧ w.grownBy w' none := by
  have hb : ¬ (80 : Int) < (s.size : Int) := by omega
  have HS : Hid (s.size ≤ 80) := h
  have HL : Hid (LaidAt w) := L
  have HR : Hid _ := hr
  clear h L hr
  go_enter Tryz.func8, Tryz.ntmps8
  go_wp2_with fail
  have Za := PAt.new w Pt.none
  have Ga := World.grownBy_alloc w (.cells #[.int .u8 0, .int .u8 0, .int .u8 0, .int .i64 0, .int .u8 0, .int .u8 0, .int .u8 0, .string ⟨#[]⟩] 29) none
  refine (split_w s (by have := HS.out; omega) _).mono ?_
  rintro e W1 ⟨rfl, X1, l1, g1⟩
  rw [World.size_alloc] at X1 l1
  have Z1 := Za.keep g1
  have G1 := grown_trans Ga g1
  have HX : Hid (W0At W1 (w.heap.size + 1) (wordsB s)) := X1
  clear Za Ga g1 X1
  go_wp2_with fail
  refine (read_words s HS.out (w.heap.size + 1) W1 (HL.out.keep G1) l1 HX.out).mono ?_
  rintro e W2 ⟨he, g2⟩
  rw [show readP (pieces s.data.toList) = _ from HR.out] at he
  obtain ⟨p2, rfl⟩ := he
  simp only [pv]
  have Z3 := (Z1.keep g2).keep (World.grownBy_alloc _ (.cells #[.int .u8 p2.wn, .int .u8 p2.vb, .int .u8 p2.wm, .int .i64 p2.ct, .int .u8 p2.su, .int .u8 p2.tr, .int .u8 p2.mr, .string p2.nm] 29) none)
  have G3 := grown_push (grown_trans G1 g2) (.cells #[.int .u8 p2.wn, .int .u8 p2.vb, .int .u8 p2.wm, .int .i64 p2.ct, .int .u8 p2.su, .int .u8 p2.tr, .int .u8 p2.mr, .string p2.nm] 29)
  obtain ⟨z0, z1, z2, z3, z4, z5, z6, z7⟩ := Z3.cells
  have zf : ∀ i, (W2.alloc (.cells #[.int .u8 p2.wn, .int .u8 p2.vb, .int .u8 p2.wm, .int .i64 p2.ct, .int .u8 p2.su, .int .u8 p2.tr, .int .u8 p2.mr, .string p2.nm] 29)).frozen? ⟨w.heap.size, i, none⟩ = false := block_free Z3
  simp only [Pt.none] at z0 z1 z2 z3 z4 z5 z6 z7
  clear Z1 G1 g2 Z3
  go_wp2
  refine bodyPost_ret (v := .tuple #[.agg #[.int .u8 0, .int .u8 0, .int .u8 0, .int .i64 0, .int .u8 0, .int .u8 0, .int .u8 0, .string ⟨#[]⟩], .int .i64 150]) (by simp [results, Tryz.results8, go_sem, z0, z1, z2, z3, z4, z5, z6, z7]) rfl ⟨?_, ?_⟩
  · rfl
  · exact grown_st8 G3 (Nat.le_refl _) _ _ _ _ _ _ _ _
set_option maxHeartbeats 4000000 in
set_option maxRecDepth 100000 in
theorem parse_bad (s : ByteArray) (h : s.size ≤ 80) (p2 : Pt) (hr : readP (pieces s.data.toList) = some p2) (hc : ¬ chk p2 = 0) (w : World) (L : LaidAt w) : Calls Tryz.prog 8 #[.string s] w fun e w' => e = .returned (pe (Pt.none, 150)) ∧ w.grownBy w' none := by
  have hb : ¬ (80 : Int) < (s.size : Int) := by omega
  have HS : Hid (s.size ≤ 80) := h
  have HL : Hid (LaidAt w) := L
  have HR : Hid _ := hr
  clear h L hr
  go_enter Tryz.func8, Tryz.ntmps8
  go_wp2_with fail
  have Za := PAt.new w Pt.none
  have Ga := World.grownBy_alloc w (.cells #[.int .u8 0, .int .u8 0, .int .u8 0, .int .i64 0, .int .u8 0, .int .u8 0, .int .u8 0, .string ⟨#[]⟩] 29) none
  refine (split_w s (by have := HS.out; omega) _).mono ?_
  rintro e W1 ⟨rfl, X1, l1, g1⟩
  rw [World.size_alloc] at X1 l1
  have Z1 := Za.keep g1
  have G1 := grown_trans Ga g1
  have HX : Hid (W0At W1 (w.heap.size + 1) (wordsB s)) := X1
  clear Za Ga g1 X1
  go_wp2_with fail
  refine (read_words s HS.out (w.heap.size + 1) W1 (HL.out.keep G1) l1 HX.out).mono ?_
  rintro e W2 ⟨he, g2⟩
  rw [show readP (pieces s.data.toList) = _ from HR.out] at he
  have he : e = .returned (.tuple #[pv p2, .bool true]) := he
  subst he
  simp only [pv]
  have Z3 := (Z1.keep g2).keep (World.grownBy_alloc _ (.cells #[.int .u8 p2.wn, .int .u8 p2.vb, .int .u8 p2.wm, .int .i64 p2.ct, .int .u8 p2.su, .int .u8 p2.tr, .int .u8 p2.mr, .string p2.nm] 29) none)
  have A3 := PAt.new W2 p2
  have G3 := grown_push (grown_trans G1 g2) (.cells #[.int .u8 p2.wn, .int .u8 p2.vb, .int .u8 p2.wm, .int .i64 p2.ct, .int .u8 p2.su, .int .u8 p2.tr, .int .u8 p2.mr, .string p2.nm] 29)
  have l2 : w.heap.size < W2.heap.size := block_lt (Z1.keep g2)
  go_wp2_with fail
  obtain ⟨W3, hW3⟩ : ∃ W3, W3 = W2.alloc (.cells #[.int .u8 p2.wn, .int .u8 p2.vb, .int .u8 p2.wm, .int .i64 p2.ct, .int .u8 p2.su, .int .u8 p2.tr, .int .u8 p2.mr, .string p2.nm] 29) := ⟨_, rfl⟩
  rw [← hW3] at Z3 A3 G3 ⊢
  obtain ⟨q, hq⟩ : ∃ q, q = W2.heap.size := ⟨_, rfl⟩
  rw [← hq] at A3 l2 ⊢
  clear Z1 G1 g2 hW3 hq
  refine (print_any p2 W3 (HL.out.keep G3)).mono ?_
  rintro e W4 ⟨rfl, g4⟩
  have Z4 := Z3.keep g4
  have A4 := A3.keep g4
  have G4 := grown_trans G3 g4
  clear Z3 A3 G3 g4
  obtain ⟨c0, c1, c2, c3, c4, c5, c6, c7⟩ := A4.cells
  obtain ⟨z0, z1, z2, z3, z4, z5, z6, z7⟩ := Z4.cells
  have zf : ∀ i, W4.frozen? ⟨w.heap.size, i, none⟩ = false := block_free Z4
  simp only [Pt.none] at z0 z1 z2 z3 z4 z5 z6 z7
  obtain ⟨c, hcc⟩ : ∃ c, c = chk p2 := ⟨_, rfl⟩
  rw [← hcc] at hc ⊢
  have hn : (c != 0) = true := by simpa using hc
  have hn' : (c == 0) = false := by simpa using hc
  obtain ⟨t, ht⟩ : ∃ t, t = prB p2 := ⟨_, rfl⟩
  rw [← ht]
  clear hcc hc ht
  clear A4 Z4
  go_wp2
  refine bodyPost_ret (v := .tuple #[.agg #[.int .u8 0, .int .u8 0, .int .u8 0, .int .i64 0, .int .u8 0, .int .u8 0, .int .u8 0, .string ⟨#[]⟩], .int .i64 150]) (by simp [results, Tryz.results8, go_sem, z0, z1, z2, z3, z4, z5, z6, z7]) rfl ⟨?_, ?_⟩
  · rfl
  · exact grown_st8 G4 (Nat.le_refl _) _ _ _ _ _ _ _ _
set_option maxHeartbeats 4000000 in
set_option maxRecDepth 100000 in
theorem parse_else (s : ByteArray) (h : s.size ≤ 80) (p2 : Pt) (hr : readP (pieces s.data.toList) = some p2) (hc : chk p2 = 0) (hx : ¬ prt p2 = s.data.toList) (w : World) (L : LaidAt w) : Calls Tryz.prog 8 #[.string s] w fun e w' => e = .returned (pe (Pt.none, 150)) ∧ w.grownBy w' none := by
  have hb : ¬ (80 : Int) < (s.size : Int) := by omega
  have HS : Hid (s.size ≤ 80) := h
  have HL : Hid (LaidAt w) := L
  have HR : Hid _ := hr
  clear h L hr
  go_enter Tryz.func8, Tryz.ntmps8
  go_wp2_with fail
  have Za := PAt.new w Pt.none
  have Ga := World.grownBy_alloc w (.cells #[.int .u8 0, .int .u8 0, .int .u8 0, .int .i64 0, .int .u8 0, .int .u8 0, .int .u8 0, .string ⟨#[]⟩] 29) none
  refine (split_w s (by have := HS.out; omega) _).mono ?_
  rintro e W1 ⟨rfl, X1, l1, g1⟩
  rw [World.size_alloc] at X1 l1
  have Z1 := Za.keep g1
  have G1 := grown_trans Ga g1
  have HX : Hid (W0At W1 (w.heap.size + 1) (wordsB s)) := X1
  clear Za Ga g1 X1
  go_wp2_with fail
  refine (read_words s HS.out (w.heap.size + 1) W1 (HL.out.keep G1) l1 HX.out).mono ?_
  rintro e W2 ⟨he, g2⟩
  rw [show readP (pieces s.data.toList) = _ from HR.out] at he
  have he : e = .returned (.tuple #[pv p2, .bool true]) := he
  subst he
  simp only [pv]
  have Z3 := (Z1.keep g2).keep (World.grownBy_alloc _ (.cells #[.int .u8 p2.wn, .int .u8 p2.vb, .int .u8 p2.wm, .int .i64 p2.ct, .int .u8 p2.su, .int .u8 p2.tr, .int .u8 p2.mr, .string p2.nm] 29) none)
  have A3 := PAt.new W2 p2
  have G3 := grown_push (grown_trans G1 g2) (.cells #[.int .u8 p2.wn, .int .u8 p2.vb, .int .u8 p2.wm, .int .i64 p2.ct, .int .u8 p2.su, .int .u8 p2.tr, .int .u8 p2.mr, .string p2.nm] 29)
  have l2 : w.heap.size < W2.heap.size := block_lt (Z1.keep g2)
  go_wp2_with fail
  obtain ⟨W3, hW3⟩ : ∃ W3, W3 = W2.alloc (.cells #[.int .u8 p2.wn, .int .u8 p2.vb, .int .u8 p2.wm, .int .i64 p2.ct, .int .u8 p2.su, .int .u8 p2.tr, .int .u8 p2.mr, .string p2.nm] 29) := ⟨_, rfl⟩
  rw [← hW3] at Z3 A3 G3 ⊢
  obtain ⟨q, hq⟩ : ∃ q, q = W2.heap.size := ⟨_, rfl⟩
  rw [← hq] at A3 l2 ⊢
  clear Z1 G1 g2 hW3 hq
  refine (print_any p2 W3 (HL.out.keep G3)).mono ?_
  rintro e W4 ⟨rfl, g4⟩
  have Z4 := Z3.keep g4
  have A4 := A3.keep g4
  have G4 := grown_trans G3 g4
  clear Z3 A3 G3 g4
  obtain ⟨c0, c1, c2, c3, c4, c5, c6, c7⟩ := A4.cells
  obtain ⟨z0, z1, z2, z3, z4, z5, z6, z7⟩ := Z4.cells
  have zf : ∀ i, W4.frozen? ⟨w.heap.size, i, none⟩ = false := block_free Z4
  simp only [Pt.none] at z0 z1 z2 z3 z4 z5 z6 z7
  rw [hc]
  obtain ⟨t, ht⟩ : ∃ t, t = prB p2 := ⟨_, rfl⟩
  have hts : t.toList = prt p2 := by
    rw [ht, Lib.toList_data]
    unfold prB
    rw [if_pos hc]
  rw [← ht]
  have hn : (t.toList == s.toList) = false := by
    rw [hts, Lib.toList_data]
    simpa using hx
  have hn' : (t.toList != s.toList) = true := by simp only [bne, hn]; rfl
  clear ht hts hx hc
  clear A4 Z4
  go_wp2
  refine bodyPost_ret (v := .tuple #[.agg #[.int .u8 0, .int .u8 0, .int .u8 0, .int .i64 0, .int .u8 0, .int .u8 0, .int .u8 0, .string ⟨#[]⟩], .int .i64 150]) (by simp [results, Tryz.results8, go_sem, z0, z1, z2, z3, z4, z5, z6, z7]) rfl ⟨?_, ?_⟩
  · rfl
  · exact grown_st8 G4 (Nat.le_refl _) _ _ _ _ _ _ _ _
set_option maxHeartbeats 4000000 in
set_option maxRecDepth 100000 in
theorem parse_good (s : ByteArray) (h : s.size ≤ 80) (p2 : Pt) (hr : readP (pieces s.data.toList) = some p2) (hc : chk p2 = 0) (hx : prt p2 = s.data.toList) (w : World) (L : LaidAt w) : Calls Tryz.prog 8 #[.string s] w fun e w' => e = .returned (pe (p2, 0)) ∧ w.grownBy w' none := by
  have hb : ¬ (80 : Int) < (s.size : Int) := by omega
  have HS : Hid (s.size ≤ 80) := h
  have HL : Hid (LaidAt w) := L
  have HR : Hid _ := hr
  clear h L hr
  go_enter Tryz.func8, Tryz.ntmps8
  go_wp2_with fail
  have Za := PAt.new w Pt.none
  have Ga := World.grownBy_alloc w (.cells #[.int .u8 0, .int .u8 0, .int .u8 0, .int .i64 0, .int .u8 0, .int .u8 0, .int .u8 0, .string ⟨#[]⟩] 29) none
  refine (split_w s (by have := HS.out; omega) _).mono ?_
  rintro e W1 ⟨rfl, X1, l1, g1⟩
  rw [World.size_alloc] at X1 l1
  have Z1 := Za.keep g1
  have G1 := grown_trans Ga g1
  have HX : Hid (W0At W1 (w.heap.size + 1) (wordsB s)) := X1
  clear Za Ga g1 X1
  go_wp2_with fail
  refine (read_words s HS.out (w.heap.size + 1) W1 (HL.out.keep G1) l1 HX.out).mono ?_
  rintro e W2 ⟨he, g2⟩
  rw [show readP (pieces s.data.toList) = _ from HR.out] at he
  have he : e = .returned (.tuple #[pv p2, .bool true]) := he
  subst he
  simp only [pv]
  have Z3 := (Z1.keep g2).keep (World.grownBy_alloc _ (.cells #[.int .u8 p2.wn, .int .u8 p2.vb, .int .u8 p2.wm, .int .i64 p2.ct, .int .u8 p2.su, .int .u8 p2.tr, .int .u8 p2.mr, .string p2.nm] 29) none)
  have A3 := PAt.new W2 p2
  have G3 := grown_push (grown_trans G1 g2) (.cells #[.int .u8 p2.wn, .int .u8 p2.vb, .int .u8 p2.wm, .int .i64 p2.ct, .int .u8 p2.su, .int .u8 p2.tr, .int .u8 p2.mr, .string p2.nm] 29)
  have l2 : w.heap.size < W2.heap.size := block_lt (Z1.keep g2)
  go_wp2_with fail
  obtain ⟨W3, hW3⟩ : ∃ W3, W3 = W2.alloc (.cells #[.int .u8 p2.wn, .int .u8 p2.vb, .int .u8 p2.wm, .int .i64 p2.ct, .int .u8 p2.su, .int .u8 p2.tr, .int .u8 p2.mr, .string p2.nm] 29) := ⟨_, rfl⟩
  rw [← hW3] at Z3 A3 G3 ⊢
  obtain ⟨q, hq⟩ : ∃ q, q = W2.heap.size := ⟨_, rfl⟩
  rw [← hq] at A3 l2 ⊢
  clear Z1 G1 g2 hW3 hq
  refine (print_any p2 W3 (HL.out.keep G3)).mono ?_
  rintro e W4 ⟨rfl, g4⟩
  have Z4 := Z3.keep g4
  have A4 := A3.keep g4
  have G4 := grown_trans G3 g4
  clear Z3 A3 G3 g4
  obtain ⟨c0, c1, c2, c3, c4, c5, c6, c7⟩ := A4.cells
  obtain ⟨z0, z1, z2, z3, z4, z5, z6, z7⟩ := Z4.cells
  have zf : ∀ i, W4.frozen? ⟨w.heap.size, i, none⟩ = false := block_free Z4
  simp only [Pt.none] at z0 z1 z2 z3 z4 z5 z6 z7
  rw [hc]
  obtain ⟨t, ht⟩ : ∃ t, t = prB p2 := ⟨_, rfl⟩
  have hts : t.toList = prt p2 := by
    rw [ht, Lib.toList_data]
    unfold prB
    rw [if_pos hc]
  rw [← ht]
  have hn : (t.toList == s.toList) = true := by
    rw [hts, Lib.toList_data]
    simpa using hx
  have hn' : (t.toList != s.toList) = false := by simp only [bne, hn]; rfl
  clear ht hts hx hc
  clear A4 Z4
  go_wp2
  refine bodyPost_ret (v := .tuple #[.agg #[.int .u8 p2.wn, .int .u8 p2.vb, .int .u8 p2.wm, .int .i64 p2.ct, .int .u8 p2.su, .int .u8 p2.tr, .int .u8 p2.mr, .string p2.nm], .int .i64 0]) (by simp [results, Tryz.results8, go_sem, z0, z1, z2, z3, z4, z5, z6, z7]) rfl ⟨?_, ?_⟩
  · rfl
  · exact grown_st8 G4 (Nat.le_refl _) _ _ _ _ _ _ _ _
/-- Of every text. -/
theorem parse_any (s : ByteArray) (w : World) (L : LaidAt w) : Calls Tryz.prog 8 #[.string s] w fun e w' => e = .returned (pe (parse s.data.toList)) ∧ w.grownBy w' none := by
  have hl := Lib.size_eq s
  unfold parse
  by_cases h : 80 < s.size
  · rw [if_pos (by omega)]
    exact parse_long s h w
  · rw [if_neg (by omega)]
    cases hr : readP (pieces s.data.toList) with
    | none => exact parse_none s (by omega) hr w L
    | some p2 =>
      simp only
      by_cases hc : chk p2 = 0
      · by_cases hx : prt p2 = s.data.toList
        · rw [if_pos ⟨hc, hx⟩]
          exact parse_good s (by omega) p2 hr hc hx w L
        · rw [if_neg (fun e => hx e.2)]
          exact parse_else s (by omega) p2 hr hc hx w L
      · rw [if_neg (fun e => hc e.1)]
        exact parse_bad s (by omega) p2 hr hc w L
end Go.Proofs.YtpceelbphpfciaaGreatDoor
