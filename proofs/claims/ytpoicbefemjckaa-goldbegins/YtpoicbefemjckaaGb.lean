/-
  GoldBegins, walked: Begin notes its numbers in a log that is open, as long as there is room, and tells how many were noted; of what is no log none.
-/
import Derived.Test.YtpoicbefemjckaaLNoting
namespace Go.Proofs.Ytpoicbefemjckaa
open Go.RowKit

set_option maxHeartbeats 400000 in
theorem gb_log (b : Nat) (l : List Int) (w : World) (h : LogAt w b l false) : Calls Try.prog 33 #[.pointer (some ⟨b, 0, none⟩)] w fun e w' => e = .returned (.int .i64 ((min 3 (256 - l.length) : Nat) : Int)) ∧ LogAt w' b (l ++ nts 13 (min 3 (256 - l.length))) false ∧ w.grownBy w' (some b) := by
  go_enter Try.func33, Try.ntmps33
  go_wp2_with fail
  refine (in_log b l 13 3 _ h (by omega) (by omega)).mono ?_
  rintro e w1 ⟨rfl, L, g⟩
  obtain ⟨t, ht⟩ : ∃ t, t = min 3 (256 - l.length) := ⟨_, rfl⟩
  have HT : Hid (t = min 3 (256 - l.length)) := ht
  rw [← ht] at L ⊢
  clear ht
  go_wp2
  go_ret
  exact ⟨ret_int (by rw [HT.out]), by rw [← HT.out]; exact L, g⟩
theorem gb_new (b : Nat) (w : World) (h : LogAt w b [] false) : Calls Try.prog 33 #[.pointer (some ⟨b, 0, none⟩)] w fun e w' => e = .returned (.int .i64 3) ∧ w.grownBy w' (some b) := by
  refine (gb_log b [] w h).mono ?_
  rintro e w1 ⟨rfl, _, g⟩
  exact ⟨rfl, g⟩
set_option maxHeartbeats 400000 in
theorem gb_ref (p : Option Addr) (w : World) (hN : ∀ n : Int, Calls Try.prog 31 #[.pointer p, .int .i64 n] w fun e w' => e = .returned (.int .i64 (-1)) ∧ w' = w) : Calls Try.prog 33 #[.pointer p] w fun e w' => e = .returned (.int .i64 0) ∧ w' = w := by
  have HN : Hid (∀ n : Int, Calls Try.prog 31 #[.pointer p, .int .i64 n] w fun e w' => e = .returned (.int .i64 (-1)) ∧ w' = w) := hN
  clear hN
  go_enter Try.func33, Try.ntmps33
  go_wp2_with fail
  refine (in_ref p 13 3 _ HN.out (by omega) (by omega)).mono ?_
  rintro e w1 ⟨rfl, rfl⟩
  go_wp2
  go_ret
  exact ⟨rfl, rfl⟩
theorem gb_closed (b : Nat) (l : List Int) (w : World) (h : LogAt w b l true) : Calls Try.prog 33 #[.pointer (some ⟨b, 0, none⟩)] w fun e w' => e = .returned (.int .i64 0) ∧ w' = w := gb_ref _ w (fun n => note_closed b l n w h)
theorem gb_no (p : Option Addr) (w : World) (h : NoLog w p) : Calls Try.prog 33 #[.pointer p] w fun e w' => e = .returned (.int .i64 0) ∧ w' = w := gb_ref _ w (fun n => note_no p n w h)
set_option maxRecDepth 100000 in
set_option maxHeartbeats 2000000 in
theorem gb_any (many : Int) (shut : Bool) (w : World) : Calls Try.prog 5 #[.int .i64 many, .bool shut] w fun e w' => e = .returned (.bool true) ∧ w.grownBy w' none := by
  obtain ⟨i0, hi, hz0, hz1, hz2⟩ := info_parts Try.info3'
  go_enter Try.func5, Try.ntmps5
  go_wp2_with fail
  refine (new_any _).mono ?_
  rintro e w1 ⟨rfl, L1, G1, hs1⟩
  generalize hb : w.heap.size = b at *
  have HB : Hid (w.heap.size = b) := hb
  clear hb hs1
  go_wp2_with fail
  refine (pick_any many 260 _ (by omega) (by omega)).mono ?_
  rintro e w2 ⟨⟨r, hr, rfl⟩, rfl⟩
  go_wp2_with fail
  go_loopw [6, 7] (fun v i wr => ∃ k : Nat, k ≤ r ∧ i = .int .i64 k ∧ BegAt w wr b v (min k 256)) (fun _ i _ => r - (intOf i).toNat)
  case atStart => exact ⟨0, Nat.zero_le _, rfl, L1, Own.nil _ _, G1⟩
  case round =>
    clear L1 G1
    obtain ⟨k, hk, rfl, L, O, G⟩ := hrel
    by_cases hlt : k < r
    · have hlt' : (k : Int) < r := by omega
      by_cases h2 : k < 256
      · rw [Nat.min_eq_left (by omega)] at L O
        obtain ⟨q, cp, rfl⟩ := O.form_len (length_upTo k)
        go_wp2_with fail
        refine (note_ok b (upTo k) k _ L (by rw [length_upTo]; exact h2)).mono ?_
        rintro e w3 ⟨rfl, L3, g3⟩
        rw [upTo_succ] at L3
        have O3 := own_row (O.keep g3 (fun x hx => by cases hx; omega)) (length_upTo k)
        have B3 := O.block
        have G3 := grown_own G g3 (fun x hx => by cases hx; exact Nat.le_of_eq HB.out)
        have hb3 : b < w3.heap.size := L3.lt
        have HL3 : Hid (LogAt w3 b (upTo (k + 1)) false) := L3
        have HB3 : Hid (∀ x, (Value.slice q k cp).ownBlock = some x → b + 1 ≤ x) := B3
        have HG3 : Hid (w.grownBy w3 none) := G3
        clear L O G g3 L3 B3 G3
        rw [length_upTo]
        have hk0 : (0 : Int) ≤ k := by omega
        go_wp2_with (at_builtin; refine wpList_append_own _ rfl (.tmp 25) (.tmp 27) 39 rfl (b + 1) 3 i0 (.int .i64 0) 1 8 Try.underlying39 hi hz0 hz1 hz2 rfl (by decide) (.slice q k cp) k (ints (upTo k)) rfl (O3.alloc _) ⟨w3.heap.size, 0, none⟩ 1 1 [.int .i64 k] rfl rfl (cell_one_new _ _ _) (fun x hx => by simp at hx; subst hx; rfl) (by unfold maxLen; omega) (by omega) (by simp; omega) ?_; intro v' w7 hown' hgrow7 hnil7; clear hnil7; have O7 := own_snoc hown' (by rw [length_upTo]); rw [upTo_succ] at O7; obtain ⟨q', cp', rfl⟩ := O7.form_len (length_upTo (k + 1)); have L7 := (HL3.out.keep (World.grownBy_alloc w3 _ none) (by simp)).keep hgrow7 (fun e => by have := HB3.out b e.symm; omega); have G7 := grown_own (grown_push HG3.out _) hgrow7 (fun x hx => by have := HB3.out x hx; have := HB.out; omega); have H7 : Hid (BegAt w w7 b (.slice q' (k + 1) cp') (k + 1)) := ⟨L7, O7, G7⟩; clear hown' hgrow7 L7 O7 G7)
        go_roundw
        case rel => exact ⟨k + 1, by omega, by go_num, by rw [Nat.min_eq_left (by omega)]; exact H7.out⟩
        case measure => simp [intOf]; omega
      · have em : min k 256 = 256 := by omega
        have em' : min (k + 1) 256 = 256 := by omega
        rw [em] at L O
        go_wp2_with fail
        refine (note_full b (upTo 256) _ k _ L (length_upTo _)).mono ?_
        rintro e w3 ⟨rfl, rfl⟩
        go_wp2
        go_roundw
        case rel => exact ⟨k + 1, by omega, by go_num, by rw [em']; exact ⟨L, O, G⟩⟩
        case measure => simp [intOf]; omega
    · have ek : k = r := by omega
      subst ek
      have hn : min k 256 ≤ 256 := by omega
      generalize min k 256 = n at *
      obtain ⟨q, cp, rfl⟩ := O.form_len (length_upTo n)
      have hlt' : ¬ ((k : Int) < k) := by omega
      obtain ⟨wz, hz⟩ : ∃ wz, wz = wr := ⟨_, rfl⟩
      subst hz
      cases shut
      case true =>
        go_wp2_with fail
        refine (close_log b _ _ _ L).mono ?_
        rintro e w4 ⟨rfl, LC, g4⟩
        have OC := O.keep g4 (fun x hx => by cases hx; omega)
        have GC := grown_own G g4 (fun x hx => by cases hx; exact Nat.le_of_eq HB.out)
        clear L O G g4
        go_wp2_with fail
        have ga := World.grownBy_alloc w4 (Obj.cells #[Value.int IntKind.i64 113, Value.int IntKind.i64 213, Value.int IntKind.i64 313] 3) none
        have L4 := LC.keep ga (by simp)
        have O4 := OC.keep (r := none) ga (by simp)
        have G4 := grown_own (r := none) GC ga (by simp)
        clear LC OC GC ga
        go_loop [6, 9, 10] (fun v c i => v = .slice q n cp ∧ c = .int .i64 0 ∧ (i = .int .i64 0 ∨ i = .int .i64 1 ∨ i = .int .i64 2 ∨ i = .int .i64 3)) (fun _ _ i => 3 - (intOf i).toNat)
        case atStart => exact ⟨rfl, rfl, Or.inl rfl⟩
        case round =>
        obtain ⟨rfl, rfl, rfl | rfl | rfl | rfl⟩ := hrel
        iterate 3
          · go_wp2
            go_round
            case rel => simp
            case measure => decide
        have hlen : (upTo n).length ≤ 256 := by rw [length_upTo]; exact hn
        generalize upTo n = l at *
        go_wp2_with fail
        refine (gb_closed b _ _ L4).mono ?_
        rintro e w5 ⟨rfl, hw5⟩
        rw [← hw5] at L4 G4 O4
        have L5 := L4
        have G5 := G4
        have O5 := O4
        clear L4 G4 O4 hw5
        go_wp2_with fail
        refine (list_log b _ _ _ L5).mono ?_
        rintro e w6 ⟨rfl, B6, g6⟩
        have L6 := L5.keep g6 (by simp)
        have G6 := grown_own (r := none) G5 g6 (by simp)
        have I6 : IntsAt w6 (.slice (some ⟨w5.heap.size, 0, none⟩) l.length l.length) l := IntsAt.whole B6 (small_maxLen (by omega))
        have W6 := (O5.keep (r := none) g6 (by simp)).ints
        clear B6 g6 L5 G5 O5
        generalize w5.heap.size = s5 at *
        go_wp2_with fail
        refine (same_ints _ _ l l _ I6 W6).mono ?_
        rintro e w7 ⟨rfl, n7, hw7⟩
        have g7 : w6.grownBy w7 none := by rw [hw7]; exact grown_drewN _ _ _
        have L7 := L6.keep g7 (by simp)
        have G7 := grown_own (r := none) G6 g7 (by simp)
        clear hw7 g7 L6 G6 I6 W6
        rw [decide_eq_true rfl]
        go_wp2_with fail
        refine (closed_log b _ _ _ L7).mono ?_
        rintro e w8 ⟨rfl, rfl⟩
        go_wp2_with fail
        refine (gb_no none _ (Or.inl rfl)).mono ?_
        rintro e w9 ⟨rfl, rfl⟩
        clear L7
        go_wp2_with (first | (refine wpl_build_g ?g 71 #[] ?ho #[] ?hv (.agg noCells) (run_build33' _) ?_; (case g => rfl); (case ho => rfl); (case hv => simp)) | (refine wpl_box_g ?g 71 (.tmp 76) ?ho (.agg noCells) ?hv _ (run_box43 noCells _) ?_; (case g => rfl); (case ho => rfl); (case hv => simp [Act.eval])))
        refine (gb_no _ _ (no_new _)).mono ?_
        rintro e w10 ⟨rfl, rfl⟩
        have G10 := grown_push G7 (Obj.cells noCells 71)
        go_wp2_with fail
        refine (new_any _).mono ?_
        rintro e w11 ⟨rfl, L11, g11, _⟩
        have G11 := grown_trans G10 g11
        have hs10 := G10.size
        rw [World.size_alloc] at L11 hs10
        go_wp2_with fail
        refine (gb_new _ _ L11).mono ?_
        rintro e w12 ⟨rfl, g12⟩
        have G12 := grown_own G11 g12 (fun x hx => by cases hx; exact hs10)
        clear L11 g11 G11 g12 G10 G7
        go_wp2
        go_ret
        exact ⟨rfl, G12⟩
      case false =>
        go_wp2_with fail
        have ga := World.grownBy_alloc wz (Obj.cells #[Value.int IntKind.i64 113, Value.int IntKind.i64 213, Value.int IntKind.i64 313] 3) none
        have hsB : (wz.alloc (Obj.cells #[Value.int IntKind.i64 113, Value.int IntKind.i64 213, Value.int IntKind.i64 313] 3)).heap[wz.heap.size]? = some (.cells (ints (nts 13 3)).toArray 3 (0, 0)) := alloc_at wz _ 3
        have hM : Hid (NumAt w (wz.alloc (Obj.cells #[Value.int IntKind.i64 113, Value.int IntKind.i64 213, Value.int IntKind.i64 313] 3)) b wz.heap.size 13 3 n 0 (.slice q n cp)) := ⟨L.keep ga (by simp), by simpa [nts] using O.keep (r := none) ga (by simp), hsB, fun e => Nat.lt_irrefl _ (own_lt O _ e), grown_own (r := none) G ga (by simp)⟩
        clear L O G ga hsB
        generalize wz.heap.size = s at *
        go_loopw [6, 9, 10] (fun v c i wr => ∃ j : Nat, j ≤ 3 ∧ i = .int .i64 j ∧ c = .int .i64 ((min j (256 - n) : Nat) : Int) ∧ NumAt w wr b s 13 3 n j v) (fun _ _ i _ => 3 - (intOf i).toNat)
        case atStart => exact ⟨0, Nat.zero_le _, rfl, by simp, hM.out⟩
        case round =>
        clear hM
        obtain ⟨j, hj, rfl, rfl, M⟩ := hrel
        by_cases hlt : j < 3
        · have hlt2 : (j : Int) < 3 := by omega
          by_cases hj256 : n + j < 256
          · have em : min j (256 - n) = j := by omega
            have O3 := M.2.1
            rw [em] at O3 ⊢
            obtain ⟨p5, c5, rfl⟩ := O3.form_len (len_want 13 n j)
            have O3 := own_row O3 (len_want 13 n j)
            have hr256 : (n : Int) + j < 256 := by omega
            have cj := M.cell hlt
            have hbz := M.1.lt
            have HM : Hid (NumAt w wr b s 13 3 n j (.slice p5 (n + j) c5)) := M
            clear M em
            go_wp2_with (at_builtin; refine wpList_append_own_at _ rfl (.tmp 46) (.tmp 51) 39 rfl (b + 1) 3 i0 (.int .i64 0) 1 8 Try.underlying39 hi hz0 hz1 hz2 rfl (by decide) (.slice p5 (n + j) c5) (n + j) (ints (upTo n ++ nts 13 j)) rfl (O3.alloc _) ⟨wr.heap.size, 0, none⟩ 1 1 [.int .i64 (100 * ((j : Int) + 1) + 13)] rfl rfl (cell_one_new _ _ _) (fun x hx => by simp at hx; subst hx; rfl) (by unfold maxLen; omega) (by omega) (by simp; omega) ?_; intro v' w7 hown' hgrow7 hnil7 hlie; clear hnil7; have O7 := own_snoc hown' (by rw [len_want]); rw [List.append_assoc, nts_succ] at O7; obtain ⟨q', cp', rfl⟩ := O7.form_len (len_want 13 n (j + 1)); have H7 := HM.out.next hown' hgrow7 hlie hj256 (by have := HB.out; omega); clear hown' hgrow7 hlie O7)
            go_roundw
            case rel => exact ⟨j + 1, by omega, by go_num, by rw [show min (j + 1) (256 - n) = j + 1 by omega]; go_num, H7⟩
            case measure => simp [intOf]; omega
          · have em : min j (256 - n) = 256 - n := by omega
            have em' : min (j + 1) (256 - n) = 256 - n := by omega
            have O3 := M.2.1
            rw [em] at O3
            obtain ⟨p5, c5, rfl⟩ := O3.form_len ((len_want 13 n (256 - n)).trans (by omega : n + (256 - n) = 256))
            have HM : Hid (NumAt w wr b s 13 3 n (j + 1) (.slice p5 256 c5)) := by
              obtain ⟨a1, a2, a3⟩ := M
              rw [em] at a2
              exact ⟨a1, by rw [em']; exact a2, a3⟩
            rw [em]
            clear M em O3
            generalize ht : (256 - n : Nat) = t at *
            clear ht
            go_wp2
            go_roundw
            case rel => exact ⟨j + 1, by omega, by go_num, by rw [em'], HM.out⟩
            case measure => simp [intOf]; omega
        · obtain rfl : j = 3 := by omega
          obtain ⟨L4, O4, _, _, G4⟩ := M
          have hlen : (upTo n ++ nts 13 (min 3 (256 - n))).length ≤ 256 := by rw [len_want]; omega
          obtain ⟨p5, c5, rfl⟩ := O4.form_len (len_want 13 n (min 3 (256 - n)))
          simp only [Int.cast_ofNat_Int]
          go_wp2_with fail
          refine (gb_log b _ _ L4).mono ?_
          rintro e w5 ⟨rfl, L5, g5⟩
          have G5 := grown_own G4 g5 (fun x hx => by cases hx; exact Nat.le_of_eq HB.out)
          have O5 := O4.keep g5 (fun x hx => by cases hx; omega)
          clear L4 G4 O4 g5
          rw [length_upTo] at L5 ⊢
          generalize upTo n ++ nts 13 (min 3 (256 - n)) = l at *
          generalize min 3 (256 - n) = t at *
          go_wp2_with fail
          refine (list_log b _ _ _ L5).mono ?_
          rintro e w6 ⟨rfl, B6, g6⟩
          have L6 := L5.keep g6 (by simp)
          have G6 := grown_own (r := none) G5 g6 (by simp)
          have I6 : IntsAt w6 (.slice (some ⟨w5.heap.size, 0, none⟩) l.length l.length) l := IntsAt.whole B6 (small_maxLen (by omega))
          have W6 := (O5.keep (r := none) g6 (by simp)).ints
          clear B6 g6 L5 G5 O5
          generalize w5.heap.size = s5 at *
          go_wp2_with fail
          refine (same_ints _ _ l l _ I6 W6).mono ?_
          rintro e w7 ⟨rfl, n7, hw7⟩
          have g7 : w6.grownBy w7 none := by rw [hw7]; exact grown_drewN _ _ _
          have L7 := L6.keep g7 (by simp)
          have G7 := grown_own (r := none) G6 g7 (by simp)
          clear hw7 g7 L6 G6 I6 W6
          rw [decide_eq_true rfl]
          go_wp2_with fail
          refine (closed_log b _ _ _ L7).mono ?_
          rintro e w8 ⟨rfl, rfl⟩
          go_wp2_with fail
          refine (gb_no none _ (Or.inl rfl)).mono ?_
          rintro e w9 ⟨rfl, rfl⟩
          clear L7
          go_wp2_with (first | (refine wpl_build_g ?g 71 #[] ?ho #[] ?hv (.agg noCells) (run_build33' _) ?_; (case g => rfl); (case ho => rfl); (case hv => simp)) | (refine wpl_box_g ?g 71 (.tmp 76) ?ho (.agg noCells) ?hv _ (run_box43 noCells _) ?_; (case g => rfl); (case ho => rfl); (case hv => simp [Act.eval])))
          refine (gb_no _ _ (no_new _)).mono ?_
          rintro e w10 ⟨rfl, rfl⟩
          have G10 := grown_push G7 (Obj.cells noCells 71)
          go_wp2_with fail
          refine (new_any _).mono ?_
          rintro e w11 ⟨rfl, L11, g11, _⟩
          have G11 := grown_trans G10 g11
          have hs10 := G10.size
          rw [World.size_alloc] at L11 hs10
          go_wp2_with fail
          refine (gb_new _ _ L11).mono ?_
          rintro e w12 ⟨rfl, g12⟩
          have G12 := grown_own G11 g12 (fun x hx => by cases hx; exact hs10)
          clear L11 g11 G11 g12 G10 G7
          go_wp2
          go_ret
          exact ⟨rfl, G12⟩
end Go.Proofs.Ytpoicbefemjckaa
