/-
  RankBegins, walked: Begin notes 102 alone, in a log that is open and has room, and tells how many were noted; of what is no log none.
-/
import Derived.Test.YteigfndahedleaaOwn
import Derived.Test.YteigfndahedleaaRank2
import Derived.Maps.AppendAt
namespace Go.Proofs.Yteigfndahedleaa
open Go.RowKit

theorem wpl_build_g {P : Program} {w w1 : World} {ops : Array Oper} {rest : List Oper} {o : Oper} {a : Act} {Q : Exit → Act → World → Prop} (hgd : Region.wanted o (yielded ops a.tmps) = true) (t : TypeId) (parts : Array (Nat × Operand))
    (ho : o.op = .build t parts) (vs : Array (Nat × Value)) (hv : (parts.map fun (i, x) => (i, a.eval x)) = vs) (v : Value) (hrun : (Instr.build t vs).run P w = .ok v w1) (h : wpList P ops Q rest (a.put o.dst v) w1) : wpList P ops Q (o :: rest) a w := by
  refine wpList_step fun K hK => ?_
  rw [if_pos hgd]
  unfold Oper.wp
  simp only [execOp, ho, Sem.run_bind, hv, hrun, Result.andThen_ok]
  exact hK _ _ h
theorem wpl_box_g {P : Program} {w w1 : World} {ops : Array Oper} {rest : List Oper} {o : Oper} {a : Act} {Q : Exit → Act → World → Prop} (hgd : Region.wanted o (yielded ops a.tmps) = true) (t : TypeId) (x : Operand)
    (ho : o.op = .box t x) (y : Value) (hy : a.eval x = y) (v : Value) (hrun : (Instr.box t y).run P w = .ok v w1) (h : wpList P ops Q rest (a.put o.dst v) w1) : wpList P ops Q (o :: rest) a w := by
  refine wpList_step fun K hK => ?_
  rw [if_pos hgd]
  unfold Oper.wp
  simp only [execOp, ho, Sem.run_bind, hy, hrun, Result.andThen_ok]
  exact hK _ _ h
theorem run_build40' (w : World) : (Instr.build 40 #[]).run Try.prog w = .ok (.agg noCells) w := by kernel_rfl
set_option maxRecDepth 100000 in
theorem no_new (w : World) : NoLog (w.alloc (Obj.cells noCells 40)) (some ⟨w.heap.size, 0, none⟩) := Or.inr ⟨_, rfl, by
  rw [block_cell (alloc_at w noCells 40)]; exact log_made _ _ _ _ (by simp)⟩
set_option maxHeartbeats 400000 in
theorem begin_ok (b : Nat) (l : List Int) (w : World) (h : LogAt w b l false) (hl : l.length < 256) : Calls Try.prog 15 #[.pointer (some ⟨b, 0, none⟩)] w fun e w' => e = .returned (.int .i64 1) ∧ LogAt w' b (l ++ [102]) false ∧ w.grownBy w' (some b) := by
  go_enter Try.func15, Try.ntmps15
  go_wp2_with fail
  refine (note_ok b l 102 _ h hl).mono ?_
  rintro e w1 ⟨rfl, L, g⟩
  have h0 : ¬ ((l.length : Int) < 0) := by omega
  go_wp2
  go_ret
  exact ⟨rfl, L, g⟩
set_option maxHeartbeats 400000 in
theorem begin_closed (b : Nat) (l : List Int) (w : World) (h : LogAt w b l true) : Calls Try.prog 15 #[.pointer (some ⟨b, 0, none⟩)] w fun e w' => e = .returned (.int .i64 0) ∧ w' = w := by
  go_enter Try.func15, Try.ntmps15
  go_wp2_with fail
  refine (note_closed b l 102 _ h).mono ?_
  rintro e w1 ⟨rfl, rfl⟩
  go_wp2
  go_ret
  exact ⟨rfl, rfl⟩
set_option maxHeartbeats 400000 in
theorem begin_full (b : Nat) (l : List Int) (c : Bool) (w : World) (h : LogAt w b l c) (hl : l.length = 256) : Calls Try.prog 15 #[.pointer (some ⟨b, 0, none⟩)] w fun e w' => e = .returned (.int .i64 0) ∧ w' = w := by
  go_enter Try.func15, Try.ntmps15
  go_wp2_with fail
  refine (note_full b l c 102 _ h hl).mono ?_
  rintro e w1 ⟨rfl, rfl⟩
  go_wp2
  go_ret
  exact ⟨rfl, rfl⟩
set_option maxHeartbeats 400000 in
theorem begin_no (p : Option Addr) (w : World) (h : NoLog w p) : Calls Try.prog 15 #[.pointer p] w fun e w' => e = .returned (.int .i64 0) ∧ w' = w := by
  go_enter Try.func15, Try.ntmps15
  go_wp2_with fail
  refine (note_no p 102 _ h).mono ?_
  rintro e w1 ⟨rfl, rfl⟩
  go_wp2
  go_ret
  exact ⟨rfl, rfl⟩
/-- 0, 1, .., n - 1. -/
def upTo (n : Nat) : List Int := (List.range n).map Int.ofNat
theorem length_upTo (n : Nat) : (upTo n).length = n := by simp [upTo]
theorem upTo_succ (n : Nat) : upTo n ++ [(n : Int)] = upTo (n + 1) := by simp [upTo, List.range_succ]
theorem len102 (n : Nat) : (upTo n ++ [102]).length = n + 1 := by simp [length_upTo]
theorem own_snoc {w : World} {base m : Nat} {v : Value} {l : List Int} {n : Int} (h : w.ownsRow base 3 1 v m (ints l ++ [Value.int .i64 n])) (hm : m = l.length + 1) : Own w base v (l ++ [n]) := by
  unfold Own; rw [ints_snoc]; simpa [hm] using h
theorem Own.form_len {w : World} {base : Nat} {v : Value} {l : List Int} {n : Nat} (h : Own w base v l) (hn : l.length = n) : ∃ p cap, v = .slice p n cap := by
  obtain ⟨p, cap, e⟩ := h.form; exact ⟨p, cap, by rw [e, hn]⟩
theorem own_row {w : World} {base n : Nat} {v : Value} {l : List Int} (h : Own w base v l) (hn : l.length = n) : w.ownsRow base 3 1 v n (ints l) := by rw [← hn]; exact h
/-- The log, and the list of what it took, behind k notes. -/
def BegAt (w wr : World) (b : Nat) (v : Value) (n : Nat) : Prop := LogAt wr b (upTo n) false ∧ Own wr (b + 1) v (upTo n) ∧ w.grownBy wr none
set_option maxRecDepth 100000 in
set_option maxHeartbeats 1000000 in
theorem begins_any (many : Int) (shut : Bool) (w : World) : Calls Try.prog 5 #[.int .i64 many, .bool shut] w fun e w' => e = .returned (.bool true) ∧ w.grownBy w' none := by
  obtain ⟨i0, hi, hz0, hz1, hz2⟩ := info_parts Try.info3'
  go_enter Try.func5, Try.ntmps5
  go_wp2_with fail
  refine (new_any _).mono ?_
  rintro e w1 ⟨rfl, L1, G1, hs1⟩
  generalize hb : w.heap.size = b at *
  have HB : Hid (w.heap.size = b) := hb
  clear hb hs1
  go_wp2_with fail
  refine (pick_any many 260 _ (by omega) (by omega)).mono ?_
  rintro e w2 ⟨⟨r, hr, rfl⟩, rfl⟩
  go_wp2_with fail
  go_loopw [6, 7] (fun v i wr => ∃ k : Nat, k ≤ r ∧ i = .int .i64 k ∧ BegAt w wr b v (min k 256)) (fun _ i _ => r - (intOf i).toNat)
  case atStart => exact ⟨0, Nat.zero_le _, rfl, L1, Own.nil _ _, G1⟩
  case round =>
    clear L1 G1
    obtain ⟨k, hk, rfl, L, O, G⟩ := hrel
    by_cases hlt : k < r
    · have hlt' : (k : Int) < r := by omega
      by_cases h2 : k < 256
      · rw [Nat.min_eq_left (by omega)] at L O
        obtain ⟨q, cp, rfl⟩ := O.form_len (length_upTo k)
        go_wp2_with fail
        refine (note_ok b (upTo k) k _ L (by rw [length_upTo]; exact h2)).mono ?_
        rintro e w3 ⟨rfl, L3, g3⟩
        rw [upTo_succ] at L3
        have O3 := own_row (O.keep g3 (fun x hx => by cases hx; omega)) (length_upTo k)
        have B3 := O.block
        have G3 := grown_own G g3 (fun x hx => by cases hx; exact Nat.le_of_eq HB.out)
        have hb3 : b < w3.heap.size := L3.lt
        have HL3 : Hid (LogAt w3 b (upTo (k + 1)) false) := L3
        have HB3 : Hid (∀ x, (Value.slice q k cp).ownBlock = some x → b + 1 ≤ x) := B3
        have HG3 : Hid (w.grownBy w3 none) := G3
        clear L O G g3 L3 B3 G3
        rw [length_upTo]
        have hk0 : (0 : Int) ≤ k := by omega
        go_wp2_with (at_builtin; refine wpList_append_own _ rfl (.tmp 25) (.tmp 27) 33 rfl (b + 1) 3 i0 (.int .i64 0) 1 8 Try.underlying33 hi hz0 hz1 hz2 rfl (by decide) (.slice q k cp) k (ints (upTo k)) rfl (O3.alloc _) ⟨w3.heap.size, 0, none⟩ 1 1 [.int .i64 k] rfl rfl (cell_one_new _ _ _) (fun x hx => by simp at hx; subst hx; rfl) (by unfold maxLen; omega) (by omega) (by simp; omega) ?_; intro v' w7 hown' hgrow7 hnil7; clear hnil7; have O7 := own_snoc hown' (by rw [length_upTo]); rw [upTo_succ] at O7; obtain ⟨q', cp', rfl⟩ := O7.form_len (length_upTo (k + 1)); have L7 := (HL3.out.keep (World.grownBy_alloc w3 _ none) (by simp)).keep hgrow7 (fun e => by have := HB3.out b e.symm; omega); have G7 := grown_own (grown_push HG3.out _) hgrow7 (fun x hx => by have := HB3.out x hx; have := HB.out; omega); have H7 : Hid (BegAt w w7 b (.slice q' (k + 1) cp') (k + 1)) := ⟨L7, O7, G7⟩; clear hown' hgrow7 L7 O7 G7)
        go_roundw
        case rel => exact ⟨k + 1, by omega, by go_num, by rw [Nat.min_eq_left (by omega)]; exact H7.out⟩
        case measure => simp [intOf]; omega
      · have em : min k 256 = 256 := by omega
        have em' : min (k + 1) 256 = 256 := by omega
        rw [em] at L O
        go_wp2_with fail
        refine (note_full b (upTo 256) _ k _ L (length_upTo _)).mono ?_
        rintro e w3 ⟨rfl, rfl⟩
        go_wp2
        go_roundw
        case rel => exact ⟨k + 1, by omega, by go_num, by rw [em']; exact ⟨L, O, G⟩⟩
        case measure => simp [intOf]; omega
    · have ek : k = r := by omega
      subst ek
      have hn : min k 256 ≤ 256 := by omega
      generalize min k 256 = n at *
      obtain ⟨q, cp, rfl⟩ := O.form_len (length_upTo n)
      have hlt' : ¬ ((k : Int) < k) := by omega
      obtain ⟨wz, hz⟩ : ∃ wz, wz = wr := ⟨_, rfl⟩
      subst hz
      cases shut
      case true =>
        go_wp2_with fail
        refine (close_log b _ _ _ L).mono ?_
        rintro e w4 ⟨rfl, LC, g4⟩
        have OC := O.keep g4 (fun x hx => by cases hx; omega)
        have GC := grown_own G g4 (fun x hx => by cases hx; exact Nat.le_of_eq HB.out)
        clear L O G g4
        go_wp2_with fail
        have ga := World.grownBy_alloc w4 (Obj.cells #[Value.int IntKind.i64 102] 3) none
        have L4 := LC.keep ga (by simp)
        have O4 := OC.keep (r := none) ga (by simp)
        have G4 := grown_own (r := none) GC ga (by simp)
        clear LC OC GC ga
        go_loop [6, 9, 10] (fun v c i => v = .slice q n cp ∧ c = .int .i64 0 ∧ (i = .int .i64 0 ∨ i = .int .i64 1)) (fun _ _ i => 1 - (intOf i).toNat)
        case atStart => exact ⟨rfl, rfl, Or.inl rfl⟩
        case round =>
        obtain ⟨rfl, rfl, rfl | rfl⟩ := hrel
        · go_wp2
          go_round
          case rel => exact ⟨rfl, rfl, Or.inr rfl⟩
          case measure => decide
        go_wp2_with fail
        refine (begin_closed b _ _ L4).mono ?_
        rintro e w5 ⟨rfl, hw5⟩
        rw [← hw5] at L4 G4 O4
        have L5 := L4
        have G5 := G4
        have O5 := O4
        clear L4 G4 O4 hw5
        go_wp2_with fail
        refine (list_log b _ _ _ L5).mono ?_
        rintro e w6 ⟨rfl, B6, g6⟩
        have L6 := L5.keep g6 (by simp)
        have G6 := grown_own (r := none) G5 g6 (by simp)
        have I6 : IntsAt w6 (.slice (some ⟨w5.heap.size, 0, none⟩) (upTo n).length (upTo n).length) (upTo n) := IntsAt.whole B6 (small_maxLen (by rw [length_upTo]; omega))
        have W6 := (O5.keep (r := none) g6 (by simp)).ints
        clear B6 g6 L5 G5 O5
        rw [length_upTo] at I6 ⊢
        generalize w5.heap.size = s5 at *
        go_wp2_with fail
        refine (same_ints _ _ (upTo n) (upTo n) _ I6 W6).mono ?_
        rintro e w7 ⟨rfl, n7, hw7⟩
        have g7 : w6.grownBy w7 none := by rw [hw7]; exact grown_drewN _ _ _
        have L7 := L6.keep g7 (by simp)
        have G7 := grown_own (r := none) G6 g7 (by simp)
        clear hw7 g7 L6 G6 I6 W6
        rw [decide_eq_true rfl]
        go_wp2_with fail
        refine (closed_log b _ _ _ L7).mono ?_
        rintro e w8 ⟨rfl, rfl⟩
        go_wp2_with fail
        refine (begin_no none _ (Or.inl rfl)).mono ?_
        rintro e w9 ⟨rfl, rfl⟩
        clear L7
        go_wp2_with (first | (refine wpl_build_g ?g 40 #[] ?ho #[] ?hv (.agg noCells) (run_build40' _) ?_; (case g => rfl); (case ho => rfl); (case hv => simp)) | (refine wpl_box_g ?g 40 (.tmp 76) ?ho (.agg noCells) ?hv _ (run_box43 noCells _) ?_; (case g => rfl); (case ho => rfl); (case hv => simp [Act.eval])))
        refine (begin_no _ _ (no_new _)).mono ?_
        rintro e w10 ⟨rfl, rfl⟩
        have G10 := grown_push G7 (Obj.cells noCells 40)
        go_wp2_with fail
        refine (new_any _).mono ?_
        rintro e w11 ⟨rfl, L11, g11, _⟩
        have G11 := grown_trans G10 g11
        have hs10 := G10.size
        rw [World.size_alloc] at L11 hs10
        go_wp2_with fail
        refine (begin_ok _ _ _ L11 (by simp)).mono ?_
        rintro e w12 ⟨rfl, _, g12⟩
        have G12 := grown_own G11 g12 (fun x hx => by cases hx; exact hs10)
        clear L11 g11 G11 g12 G10 G7
        go_wp2
        go_ret
        exact ⟨rfl, G12⟩
      case false =>
        go_wp2_with fail
        have ga := World.grownBy_alloc wz (Obj.cells #[Value.int IntKind.i64 102] 3) none
        have L4 := L.keep ga (by simp)
        have O4 := O.keep (r := none) ga (by simp)
        have G4 := grown_own (r := none) G ga (by simp)
        have cN : (wz.alloc (Obj.cells #[Value.int IntKind.i64 102] 3)).cell? ⟨wz.heap.size, 0, none⟩ = some (.int .i64 102) := block_cell (alloc_at wz _ 3) 0
        have hbz := L4.lt
        clear L O G ga
        generalize wz.alloc (Obj.cells #[Value.int IntKind.i64 102] 3) = wy at *
        by_cases hn2 : n < 256
        · have hn2' : (n : Int) < 256 := by omega
          go_loopw [6, 9, 10] (fun v c i wr => (v = .slice q n cp ∧ c = .int .i64 0 ∧ i = .int .i64 0 ∧ wr = wy) ∨ (c = .int .i64 1 ∧ i = .int .i64 1 ∧ LogAt wr b (upTo n) false ∧ Own wr (b + 1) v (upTo n ++ [102]) ∧ w.grownBy wr none)) (fun _ _ i _ => 1 - (intOf i).toNat)
          case atStart => exact Or.inl ⟨rfl, rfl, rfl, rfl⟩
          case round =>
          rcases hrel with ⟨rfl, rfl, rfl, hw⟩ | ⟨rfl, rfl, L5, O5, G5⟩
          · rw [← hw] at L4 O4 G4 hbz cN
            clear hw
            have O3 := own_row O4 (length_upTo n)
            have HB4 : Hid (∀ x, (Value.slice q n cp).ownBlock = some x → b + 1 ≤ x) := O4.block
            go_wp2_with (at_builtin; refine wpList_append_own _ rfl (.tmp 46) (.tmp 51) 33 rfl (b + 1) 3 i0 (.int .i64 0) 1 8 Try.underlying33 hi hz0 hz1 hz2 rfl (by decide) (.slice q n cp) n (ints (upTo n)) rfl (O3.alloc _) ⟨wr.heap.size, 0, none⟩ 1 1 [.int .i64 102] rfl rfl (cell_one_new _ _ _) (fun x hx => by simp at hx; subst hx; rfl) (by unfold maxLen; omega) (by omega) (by simp; omega) ?_; intro v' w7 hown' hgrow7 hnil7; clear hnil7; have O7 := own_snoc hown' (by rw [length_upTo]); obtain ⟨q', cp', rfl⟩ := O7.form_len (len102 n); have L7 := (L4.keep (World.grownBy_alloc _ _ none) (by simp)).keep hgrow7 (fun e => by have := HB4.out b e.symm; omega); have G7 := grown_own (grown_push G4 _) hgrow7 (fun x hx => by have := HB4.out x hx; have := HB.out; omega); have H7 : Hid (LogAt w7 b (upTo n) false ∧ Own w7 (b + 1) (.slice q' (n + 1) cp') (upTo n ++ [102]) ∧ w.grownBy w7 none) := ⟨L7, O7, G7⟩; clear hown' hgrow7 L7 O7 G7)
            go_roundw
            case rel => exact Or.inr ⟨rfl, rfl, H7.out⟩
            case measure => decide
          · clear L4 O4 G4 cN
            obtain ⟨q5, cp5, rfl⟩ := O5.form_len (len102 n)
            have L4 := L5
            have O4 := O5
            have G4 := G5
            clear L5 O5 G5
            go_wp2_with fail
            refine (begin_ok b _ _ L4 (by rw [length_upTo]; exact hn2)).mono ?_
            rintro e w5 ⟨rfl, L5, g5⟩
            have G5 := grown_own G4 g5 (fun x hx => by cases hx; exact Nat.le_of_eq HB.out)
            have O5 := O4.keep g5 (fun x hx => by cases hx; omega)
            clear L4 G4 O4 g5
            go_wp2_with fail
            refine (list_log b _ _ _ L5).mono ?_
            rintro e w6 ⟨rfl, B6, g6⟩
            have L6 := L5.keep g6 (by simp)
            have G6 := grown_own (r := none) G5 g6 (by simp)
            have I6 : IntsAt w6 (.slice (some ⟨w5.heap.size, 0, none⟩) (upTo n ++ [102]).length (upTo n ++ [102]).length) (upTo n ++ [102]) := IntsAt.whole B6 (small_maxLen (by rw [len102]; omega))
            have W6 := (O5.keep (r := none) g6 (by simp)).ints
            clear B6 g6 L5 G5 O5
            rw [len102] at I6 ⊢
            generalize w5.heap.size = s5 at *
            go_wp2_with fail
            refine (same_ints _ _ (upTo n ++ [102]) (upTo n ++ [102]) _ I6 W6).mono ?_
            rintro e w7 ⟨rfl, n7, hw7⟩
            have g7 : w6.grownBy w7 none := by rw [hw7]; exact grown_drewN _ _ _
            have L7 := L6.keep g7 (by simp)
            have G7 := grown_own (r := none) G6 g7 (by simp)
            clear hw7 g7 L6 G6 I6 W6
            rw [decide_eq_true rfl]
            go_wp2_with fail
            refine (closed_log b _ _ _ L7).mono ?_
            rintro e w8 ⟨rfl, rfl⟩
            go_wp2_with fail
            refine (begin_no none _ (Or.inl rfl)).mono ?_
            rintro e w9 ⟨rfl, rfl⟩
            clear L7
            go_wp2_with (first | (refine wpl_build_g ?g 40 #[] ?ho #[] ?hv (.agg noCells) (run_build40' _) ?_; (case g => rfl); (case ho => rfl); (case hv => simp)) | (refine wpl_box_g ?g 40 (.tmp 76) ?ho (.agg noCells) ?hv _ (run_box43 noCells _) ?_; (case g => rfl); (case ho => rfl); (case hv => simp [Act.eval])))
            refine (begin_no _ _ (no_new _)).mono ?_
            rintro e w10 ⟨rfl, rfl⟩
            have G10 := grown_push G7 (Obj.cells noCells 40)
            go_wp2_with fail
            refine (new_any _).mono ?_
            rintro e w11 ⟨rfl, L11, g11, _⟩
            have G11 := grown_trans G10 g11
            have hs10 := G10.size
            rw [World.size_alloc] at L11 hs10
            go_wp2_with fail
            refine (begin_ok _ _ _ L11 (by simp)).mono ?_
            rintro e w12 ⟨rfl, _, g12⟩
            have G12 := grown_own G11 g12 (fun x hx => by cases hx; exact hs10)
            clear L11 g11 G11 g12 G10 G7
            go_wp2
            go_ret
            exact ⟨rfl, G12⟩
        · have hn2' : ¬ ((n : Int) < 256) := by omega
          have HN : Hid (n = 256) := Nat.le_antisymm hn (by omega)
          clear hn2
          go_loop [6, 9, 10] (fun v c i => v = .slice q n cp ∧ c = .int .i64 0 ∧ (i = .int .i64 0 ∨ i = .int .i64 1)) (fun _ _ i => 1 - (intOf i).toNat)
          case atStart => exact ⟨rfl, rfl, Or.inl rfl⟩
          case round =>
          obtain ⟨rfl, rfl, rfl | rfl⟩ := hrel
          · go_wp2
            go_round
            case rel => exact ⟨rfl, rfl, Or.inr rfl⟩
            case measure => decide
          go_wp2_with fail
          refine (begin_full b _ _ _ L4 (by rw [length_upTo]; exact HN.out)).mono ?_
          rintro e w5 ⟨rfl, hw5⟩
          rw [← hw5] at L4 G4 O4
          have L5 := L4
          have G5 := G4
          have O5 := O4
          clear L4 G4 O4 hw5
          go_wp2_with fail
          refine (list_log b _ _ _ L5).mono ?_
          rintro e w6 ⟨rfl, B6, g6⟩
          have L6 := L5.keep g6 (by simp)
          have G6 := grown_own (r := none) G5 g6 (by simp)
          have I6 : IntsAt w6 (.slice (some ⟨w5.heap.size, 0, none⟩) (upTo n).length (upTo n).length) (upTo n) := IntsAt.whole B6 (small_maxLen (by rw [length_upTo]; omega))
          have W6 := (O5.keep (r := none) g6 (by simp)).ints
          clear B6 g6 L5 G5 O5
          rw [length_upTo] at I6 ⊢
          generalize w5.heap.size = s5 at *
          go_wp2_with fail
          refine (same_ints _ _ (upTo n) (upTo n) _ I6 W6).mono ?_
          rintro e w7 ⟨rfl, n7, hw7⟩
          have g7 : w6.grownBy w7 none := by rw [hw7]; exact grown_drewN _ _ _
          have L7 := L6.keep g7 (by simp)
          have G7 := grown_own (r := none) G6 g7 (by simp)
          clear hw7 g7 L6 G6 I6 W6
          rw [decide_eq_true rfl]
          go_wp2_with fail
          refine (closed_log b _ _ _ L7).mono ?_
          rintro e w8 ⟨rfl, rfl⟩
          go_wp2_with fail
          refine (begin_no none _ (Or.inl rfl)).mono ?_
          rintro e w9 ⟨rfl, rfl⟩
          clear L7
          go_wp2_with (first | (refine wpl_build_g ?g 40 #[] ?ho #[] ?hv (.agg noCells) (run_build40' _) ?_; (case g => rfl); (case ho => rfl); (case hv => simp)) | (refine wpl_box_g ?g 40 (.tmp 76) ?ho (.agg noCells) ?hv _ (run_box43 noCells _) ?_; (case g => rfl); (case ho => rfl); (case hv => simp [Act.eval])))
          refine (begin_no _ _ (no_new _)).mono ?_
          rintro e w10 ⟨rfl, rfl⟩
          have G10 := grown_push G7 (Obj.cells noCells 40)
          go_wp2_with fail
          refine (new_any _).mono ?_
          rintro e w11 ⟨rfl, L11, g11, _⟩
          have G11 := grown_trans G10 g11
          have hs10 := G10.size
          rw [World.size_alloc] at L11 hs10
          go_wp2_with fail
          refine (begin_ok _ _ _ L11 (by simp)).mono ?_
          rintro e w12 ⟨rfl, _, g12⟩
          have G12 := grown_own G11 g12 (fun x hx => by cases hx; exact hs10)
          clear L11 g11 G11 g12 G10 G7
          go_wp2
          go_ret
          exact ⟨rfl, G12⟩
end Go.Proofs.Yteigfndahedleaa
