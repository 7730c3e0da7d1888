/-
  StartGrows, walked: behind each note the list is what it was and that one; the law answers true, in any world, and touches nothing that was there.
-/
import Derived.Test.YtldjfeodeodcmaaGrowsParts
import Derived.Deep.DeepCutAuto
import Derived.Deep.QuietTactic
import Derived.BigQuiet
namespace Go.Proofs.Ytldjfeodeodcmaa
open Go.RowKit
theorem pick_int (k n : Int) (w : World) (hn : 0 < n) (hm : n ≤ 4294967296) : Calls Try.prog 16 #[.int .i64 k, .int .i64 n] w fun e w' => (∃ r : Nat, (r : Int) < n ∧ e = .returned (.int .i64 r)) ∧ w' = w := by
  obtain ⟨n, rfl⟩ := Int.eq_ofNat_of_zero_le (Int.le_of_lt hn)
  refine (pick_any k n w (by omega) (by omega)).mono ?_
  rintro e w' ⟨⟨r, hr, rfl⟩, rfl⟩
  exact ⟨⟨r, by omega, rfl⟩, rfl⟩
/-- What holds at the head of round k of the first loop: the log a, the other log (the next block), the list that is gathered. -/
structure Inv (w wr : World) (X : List Int) (r k a : Nat) (v : Value) : Prop where
  log : LogAt wr a (kept X r k) (decide (r < k))
  other : LogAt wr (a + 1) [] false
  own : Own wr (a + 2) v (kept X r k)
  grown : w.grownBy wr none
  old : w.heap.size ≤ a
  room : a + 2 ≤ wr.heap.size
theorem inv_start {w wr : World} {X : List Int} {r a : Nat} (h1 : a + 2 ≤ wr.heap.size) (h2 : w.heap.size ≤ a) (h3 : LogAt wr a [] false) (h4 : LogAt wr (a + 1) [] false) (h5 : w.grownBy wr none) : Inv w wr X r 0 a (.slice none 0 0) := by
  have e : kept X r 0 = [] := by simp [kept]
  exact ⟨by rw [e]; simpa using h3, h4, by rw [e]; exact Own.nil _ _, h5, h2, h1⟩
theorem inv_closed {w wr w' : World} {X : List Int} {r k a : Nat} {v : Value} (I : Inv w wr X r k a v) (L : LogAt w' a (kept X r k) true) (g : wr.grownBy w' (some a)) (h : r ≤ k) : Inv w w' X r (k + 1) a v := by
  have e := kept_same X r k (Or.inl h)
  have d : decide (r < k + 1) = true := by simp; omega
  exact ⟨by rw [e, d]; exact L, I.other.keep g (by simp), by rw [e]; exact I.own.keep g (fun x hx => by cases hx; omega), grown_own I.grown g (fun x hx => by cases hx; exact I.old), I.old, Nat.le_trans I.room g.size⟩
theorem inv_full {w wr : World} {X : List Int} {r k a : Nat} {v : Value} (I : Inv w wr X r k a v) (h : k < r) (h2 : 256 ≤ k) : Inv w wr X r (k + 1) a v := by
  have e := kept_same X r k (Or.inr h2)
  have d : decide (r < k + 1) = decide (r < k) := by
    have h1 : ¬ r < k + 1 := by omega
    have h2 : ¬ r < k := by omega
    simp [h1, h2]
  exact ⟨by rw [e, d]; exact I.log, I.other, by rw [e]; exact I.own, I.grown, I.old, I.room⟩
theorem inv_noted {w wr w5 w6 w7 : World} {X : List Int} {r k a : Nat} {v v' : Value} (I : Inv w wr X r k a v) (L : LogAt w5 a (kept X r (k + 1)) false) (g5 : wr.grownBy w5 (some a)) (g6 : w5.grownBy w6 none) (g7 : w6.grownBy w7 v.ownBlock) (O : Own w7 (a + 2) v' (kept X r (k + 1))) (h : k < r) : Inv w w7 X r (k + 1) a v' := by
  have d : decide (r < k + 1) = false := by simp; omega
  have hb := I.own.block
  have na : some a ≠ v.ownBlock := fun e => by have := hb a e.symm; omega
  have nb : some (a + 1) ≠ v.ownBlock := fun e => by have := hb _ e.symm; omega
  refine ⟨by rw [d]; exact (L.keep g6 (by simp)).keep g7 na, ((I.other.keep g5 (by simp)).keep g6 (by simp)).keep g7 nb, O, ?_, I.old, Nat.le_trans I.room (Nat.le_trans g5.size (Nat.le_trans g6.size g7.size))⟩
  have G5 := grown_own I.grown g5 (fun x hx => by cases hx; exact I.old)
  exact grown_own (grown_own G5 g6 (by simp)) g7 (fun x hx => by have := hb x hx; have := I.old; omega)
theorem inv_later {w wr w' : World} {X : List Int} {r k a : Nat} {v : Value} (I : Inv w wr X r k a v) (g : wr.grownBy w' none) : Inv w w' X r k a v :=
  ⟨I.log.keep g (by simp), I.other.keep g (by simp), I.own.keep g (by simp), grown_own I.grown g (by simp), I.old, Nat.le_trans I.room g.size⟩
theorem own_snoc {w : World} {base n : Nat} {v : Value} {l l' : List Int} {x : Int} (h : w.ownsRow base 3 1 v (n + 1) (ints l ++ [Value.int .i64 x])) (hl : l ++ [x] = l') (hn : l'.length = n + 1) : Own w base v l' := by
  unfold Own
  rw [hn, ← hl, ints_snoc]; exact h
theorem Own.form_len {w : World} {base n : Nat} {v : Value} {l : List Int} (h : Own w base v l) (hn : l.length = n) : ∃ p cap, v = .slice p n cap := by
  subst hn; exact h.form
theorem first_spec (l : List Int) (x : Int) : (first l x = -1 ∧ ∀ j, j < l.length → l.getD j 0 ≠ x) ∨ (∃ f : Nat, first l x = f ∧ f < l.length ∧ l.getD f 0 = x ∧ ∀ j, j < f → l.getD j 0 ≠ x) := by
  cases h : l.findIdx? (fun y => y == x) with
  | none =>
    left
    refine ⟨by simp [first, h], fun j hj => ?_⟩
    rw [List.findIdx?_eq_none_iff] at h
    rw [getD_lt _ _ hj]
    simpa using h _ (List.getElem_mem hj)
  | some f =>
    right
    rw [List.findIdx?_eq_some_iff_getElem] at h
    obtain ⟨h1, h2, h3⟩ := h
    have hx : l.getD f 0 = x := by rw [getD_lt _ _ h1]; simpa using h2
    have hn : ∀ j, j < f → l.getD j 0 ≠ x := fun j hj => by
      rw [getD_lt _ _ (by omega)]; simpa using h3 j hj
    exact ⟨f, first_hit l x f h1 hx hn, h1, hx, hn⟩
set_option maxRecDepth 100000 in
set_option maxHeartbeats 1000000 in
theorem grows_any (xs : List Int) (p : Option Addr) (cap : Nat) (at0 : Int) (w : World) (hx : IntsAt w (.slice p xs.length cap) xs) (hcap : xs.length ≤ cap) : Calls Try.prog 5 #[.slice p xs.length cap, .int .i64 at0] w fun e w' => e = .returned (.bool true) ∧ w.grownBy w' none := by
  have hx2 := hx
  obtain ⟨p', cap', e0, hm, hp⟩ := hx
  obtain ⟨rfl, rfl⟩ : p = p' ∧ cap = cap' := by simpa using e0
  clear e0
  unfold maxLen at hm
  go_enter Try.func5, Try.ntmps5
  go_wp2_with fail
  refine (awake_any _).mono ?_
  rintro e w1 ⟨rfl, G1⟩
  go_upto_if 17 with fail
  go_cut [0] (fun s0 wc => ∃ m : Nat, m ≤ 300 ∧ m ≤ xs.length ∧ s0 = .slice p m cap ∧ wc = w1)
  case first =>
    by_cases h3 : xs.length ≤ 300
    · go_wp2
      go_meet
      case rel => exact ⟨xs.length, h3, Nat.le_refl _, rfl, rfl⟩
    · obtain ⟨g, off, rfl, hc⟩ := hp (by omega)
      have hc1 : (300 : Int) ≤ (cap : Int) := by omega
      clear hc
      go_wp2
      go_meet
      case rel => exact ⟨300, Nat.le_refl _, by omega, rfl, rfl⟩
  case rest =>
    obtain ⟨m, hm3, hmx, rfl, rfl⟩ := hcut
    clear hx2 hcap
    have hX : ∃ X : List Int, X.length = m ∧ (0 < m → ∃ g off, p = some ⟨g, off, none⟩ ∧ ∀ wr, w.grownBy wr none → ∀ j, j < m → wr.cell? ⟨g, off + j, none⟩ = some (.int .i64 (X.getD j 0))) := by
      refine ⟨xs.take m, by simp; omega, fun h0 => ?_⟩
      obtain ⟨g, off, e, hc⟩ := hp (by omega)
      refine ⟨g, off, e, fun wr hg j hj => ?_⟩
      have e2 : (xs.take m).getD j 0 = xs.getD j 0 := by simp [List.getD, hj]
      rw [e2]
      exact hg.cell (hc j (by omega)) (by simp)
    obtain ⟨X, hXl, hX⟩ := hX
    clear hp hmx hm
    subst hXl
    have HX : Hid (0 < X.length → ∃ g off, p = some ⟨g, off, none⟩ ∧ ∀ wr, w.grownBy wr none → ∀ j, j < X.length → wr.cell? ⟨g, off + j, none⟩ = some (.int .i64 (X.getD j 0))) := hX
    clear hX
    go_wp2_with fail
    refine (pick_int at0 (X.length + 1) _ (by omega) (by omega)).mono ?_
    rintro e w2 ⟨⟨r, hr, rfl⟩, rfl⟩
    go_wp2_with fail
    refine (new_any _).mono ?_
    rintro e w3 ⟨rfl, L3, g3, s3⟩
    have hle := G1.size
    have G3 := grown_own G1 g3 (by simp)
    generalize hb : w2.heap.size = a at *
    clear hb g3 G1
    go_wp2_with fail
    refine (new_any _).mono ?_
    rintro e w4 ⟨rfl, M4, g4, s4⟩
    have L4 := L3.keep g4 (by simp)
    have G4 := grown_own G3 g4 (by simp)
    rw [s3] at s4
    rw [s3] at M4 ⊢
    clear g4 G3 L3 s3
    have S4 : a + 2 ≤ w4.heap.size := by omega
    clear s4
    obtain ⟨i0, hi, hz0, hz1, hz2⟩ := info_parts Try.info3'
    go_wp2_with fail
    go_loopw [8, 9] (fun v i wr => ∃ k : Nat, ∃ q : Option Addr, ∃ cp : Nat, k ≤ X.length ∧ i = .int .i64 k ∧ v = .slice q (min (min k r) 256) cp ∧ Inv w wr X r k a v) (fun _ i _ => X.length - (intOf i).toNat)
    case atStart => exact ⟨0, none, 0, Nat.zero_le _, rfl, by simp, inv_start S4 hle L4 M4 G4⟩
    case round =>
      clear L4 M4 G4 S4
      obtain ⟨k, q, cp, hk, rfl, rfl, I⟩ := hrel
      by_cases hlt : k < X.length
      · obtain ⟨g, off, rfl, hc⟩ := HX.out (by omega)
        have ck := hc wr I.grown k hlt
        have HC : Hid (∀ wr, w.grownBy wr none → ∀ j, j < X.length → wr.cell? ⟨g, off + j, none⟩ = some (.int .i64 (X.getD j 0))) := hc
        clear hc
        generalize hv : X.getD k 0 = v at *
        have HV : Hid (X.getD k 0 = v) := hv
        clear hv
        by_cases hrk : r ≤ k
        · by_cases he : k = r
          · subst he
            generalize hn : min (min k k) 256 = n at I ⊢
            have HN : Hid (min (min k k) 256 = n) := hn
            clear hn
            have L := I.log
            go_wp2_with fail
            refine (close_log a _ _ wr L).mono ?_
            rintro e w5 ⟨rfl, L5, g5⟩
            have I5 := inv_closed I L5 g5 hrk
            have ck5 := HC.out w5 I5.grown k hlt
            rw [HV.out] at ck5
            clear ck L I g5
            go_wp2_with fail
            refine (note_closed a _ v w5 L5).mono ?_
            rintro e w6 ⟨rfl, rfl⟩
            clear L5
            go_wp2_with fail
            go_roundw
            case rel => exact ⟨k + 1, q, cp, by omega, by go_num, by have := HN.out; congr 1; omega, I5⟩
            case measure => simp [intOf]; omega
          · have he' : ((k : Int) == (r : Int)) = false := by simpa using (show ¬ ((k : Int) = r) by omega)
            generalize hn : min (min k r) 256 = n at I ⊢
            have HN : Hid (min (min k r) 256 = n) := hn
            clear hn
            have L := I.log
            rw [show decide (r < k) = true by simp; omega] at L
            have I5 := inv_closed I L (grown_refl _ _) hrk
            clear I he
            go_wp2_with fail
            refine (note_closed a _ v wr L).mono ?_
            rintro e w6 ⟨rfl, rfl⟩
            clear L
            go_wp2_with fail
            go_roundw
            case rel => exact ⟨k + 1, q, cp, by omega, by go_num, by have := HN.out; congr 1; omega, I5⟩
            case measure => simp [intOf]; omega
        · have he' : ((k : Int) == (r : Int)) = false := by simpa using (show ¬ ((k : Int) = r) by omega)
          have hd' : decide ((r : Int) ≤ (k : Int)) = false := by simp; omega
          have L := I.log
          rw [show decide (r < k) = false by simp; omega] at L
          by_cases h256 : 256 ≤ k
          · have I5 := inv_full I (by omega) h256
            have hlen : (kept X r k).length = 256 := by rw [length_kept _ _ _ hk]; omega
            have e0 : min (min k r) 256 = 256 := by omega
            rw [e0]
            clear I
            go_wp2_with fail
            refine (note_full a _ _ v wr L hlen).mono ?_
            rintro e w6 ⟨rfl, rfl⟩
            clear L hlen
            go_wp2_with fail
            go_roundw
            case rel => exact ⟨k + 1, q, cp, by omega, by go_num, by congr 1; omega, by rw [e0] at I5; exact I5⟩
            case measure => simp [intOf]; omega
          · have hlen : (kept X r k).length = k := by rw [length_kept _ _ _ hk]; omega
            have e0 : min (min k r) 256 = k := by omega
            rw [e0] at I ⊢
            clear e0
            go_wp2_with fail
            refine (note_ok a _ v wr L (by omega)).mono ?_
            rintro e w5 ⟨rfl, L5, g5⟩
            rw [hlen]
            have hs := kept_snoc X r k hlt (by omega) (by omega)
            rw [HV.out] at hs
            rw [hs] at L5
            have O5 : w5.ownsRow (a + 2) 3 1 (.slice q k cp) k (ints (kept X r k)) := by
              have := I.own.keep g5 (fun x hx => by cases hx; omega)
              unfold Own at this
              rwa [hlen] at this
            have HS : Hid (kept X r k ++ [v] = kept X r (k + 1)) := hs
            have G5 := grown_own I.grown g5 (fun x hx => by cases hx; exact I.old)
            have ck5 := HC.out w5 G5 k hlt
            rw [HV.out] at ck5
            have R5 : a + 2 ≤ w5.heap.size := Nat.le_trans I.room g5.size
            have hl1 : (kept X r (k + 1)).length = k + 1 := by rw [length_kept _ _ _ (by omega)]; omega
            have hkr : k < r := by omega
            clear hs L ck hlen G5
            go_wp2_with (at_builtin; refine wpList_append_own _ rfl (.tmp 54) (.tmp 59) 35 rfl (a + 2) 3 i0 (.int .i64 0) 1 8 Try.underlying35 hi hz0 hz1 hz2 rfl (by decide) (.slice q k cp) k (ints (kept X r k)) rfl (O5.alloc _) ⟨w5.heap.size, 0, none⟩ 1 1 [.int .i64 v] rfl rfl (cell_one_new _ _ _) (fun x hx => by simp at hx; subst hx; rfl) (by unfold maxLen; omega) (by omega) (by simp; omega) ?_; intro v' w7 hown' hgrow7 hnil7; clear hnil7; have O7 := own_snoc hown' HS.out hl1; obtain ⟨q', cp', rfl⟩ := O7.form_len hl1; have I7 := inv_noted I L5 g5 (World.grownBy_alloc w5 _ none) hgrow7 O7 hkr; clear hown' hgrow7)
            · have T7 := list_log a _ _ w7 I7.log
              rw [hl1] at T7
              refine T7.mono ?_
              rintro e w8 ⟨rfl, B8, g8⟩
              have I8 := inv_later I7 g8
              have N8 : IntsAt w8 (.slice (some ⟨w7.heap.size, 0, none⟩) (k + 1) (k + 1)) (kept X r (k + 1)) := by
                have h := IntsAt.whole (cap := k + 1) B8 (small_maxLen (by omega))
                rwa [hl1] at h
              have O8 := I8.own.ints
              clear T7 B8 g8 I7 O7 hl1 O5 L5 g5 I ck5
              generalize hw7 : w7.heap.size = s7 at *
              clear hw7
              go_wp2_with fail
              refine (same_ints _ _ _ _ w8 N8 O8).mono ?_
              rintro e w9 ⟨rfl, n9, hw9⟩
              have I9 := inv_later I8 (show w8.grownBy w9 none by rw [hw9]; exact grown_drewN _ _ _)
              clear hw9 I8 N8 O8
              go_wp2_with fail
              go_roundw
              case rel => exact ⟨k + 1, q', cp', by omega, by go_num, by congr 1; omega, I9⟩
              case measure => simp [intOf]; omega
            · go_roundw
              case rel => exact ⟨k + 1, q', cp', by omega, by go_num, by congr 1; omega, I7⟩
              case measure => simp [intOf]; omega
      · have e : k = X.length := by omega
        subst e
        obtain ⟨L, M, O, G, old, room⟩ := I
        have hKl : (kept X r X.length).length = min (min X.length r) 256 := length_kept _ _ _ (Nat.le_refl _)
        generalize kept X r X.length = K at L O hKl
        have hK2 : K.length ≤ 256 := by omega
        rw [← hKl] at O ⊢
        have ON := O.ints
        obtain ⟨q', cp', e0, hm2, hq⟩ := ON
        obtain ⟨rfl, rfl⟩ : q = q' ∧ cp = cp' := by simpa using e0
        have HQ : Hid (0 < K.length → ∃ g off, q = some ⟨g, off, none⟩ ∧ ∀ j, j < K.length → wr.cell? ⟨g, off + j, none⟩ = some (.int .i64 (K.getD j 0))) := hq
        clear hq e0 hm2 hKl hk hlt
        go_wp2_with fail
        go_loopw [11] (fun i wq => ∃ k n : Nat, k ≤ X.length ∧ i = .int .i64 k ∧ wq = wr.drewN n) (fun i _ => X.length - (intOf i).toNat)
        case atStart => exact ⟨0, 0, Nat.zero_le _, rfl, rfl⟩
        case round =>
          obtain ⟨k, n, hk, rfl, rfl⟩ := hrel
          by_cases hlt : k < X.length
          · obtain ⟨g, off, rfl, hc⟩ := HX.out (by omega)
            have ck := hc wr G k hlt
            clear hc
            generalize X.getD k 0 = x at *
            have L' := L.keep (grown_drewN wr n none) (by simp)
            go_wp2_with fail
            refine (first_log a K _ x _ L').mono ?_
            rintro e w6 ⟨rfl, rfl⟩
            clear L'
            rcases first_spec K x with ⟨hf, hno⟩ | ⟨f, hf, hfl, hfx, hno⟩
            · rw [hf]
              clear hf
              go_wp2_with fail
              go_quiet (fail)
              go_wp2_with fail
              go_loopw [13] (fun i wq => ∃ j n : Nat, j ≤ K.length ∧ i = .int .i64 j ∧ wq = wr.drewN n) (fun i _ => K.length - (intOf i).toNat)
              case atStart => exact ⟨0, n + nq, Nat.zero_le _, rfl, by first | rfl | simp⟩
              case round =>
                obtain ⟨j, n2, hj, rfl, rfl⟩ := hrel
                by_cases hjl : j < K.length
                · obtain ⟨g', off', rfl, hc'⟩ := HQ.out (by omega)
                  have cj := hc' j hjl
                  have hne := hno j hjl
                  clear hc' hno
                  generalize K.getD j 0 = y at *
                  have hb : (y == x) = false := by simpa using hne
                  clear hne
                  go_wp2_with fail
                  go_quiet (fail)
                  go_wp2_with fail
                  go_roundw
                  case rel => exact ⟨j + 1, n2 + _, by omega, by go_num, by first | rfl | simp⟩
                  case measure => simp [intOf]; omega
                · clear hno
                  go_wp2_with fail
                  go_roundw
                  case rel => exact ⟨k + 1, n2, by omega, by go_num, rfl⟩
                  case measure => simp [intOf]; omega
            · rw [hf]
              clear hf
              obtain ⟨g', off', rfl, hc'⟩ := HQ.out (by omega)
              have cf := hc' f hfl
              rw [hfx] at cf
              have HC' : Hid (∀ j, j < K.length → wr.cell? ⟨g', off' + j, none⟩ = some (.int .i64 (K.getD j 0))) := hc'
              have HNO : Hid (∀ j, j < f → K.getD j 0 ≠ x) := hno
              clear hfx hc' hno
              have hb0 : decide (K.length ≤ f) = false := by simp; omega
              go_wp2_with fail
              go_quiet (fail)
              go_wp2_with fail
              clear cf hb0
              go_loopw [13] (fun i wq => ∃ j n : Nat, j ≤ f ∧ i = .int .i64 j ∧ wq = wr.drewN n) (fun i _ => f - (intOf i).toNat)
              case atStart => exact ⟨0, n + nq, Nat.zero_le _, rfl, by first | rfl | simp⟩
              case round =>
                obtain ⟨j, n2, hj, rfl, rfl⟩ := hrel
                by_cases hjl : j < f
                · have cj := HC'.out j (by omega)
                  have hne := HNO.out j hjl
                  clear HC' HNO
                  generalize K.getD j 0 = y at *
                  have hb : (y == x) = false := by simpa using hne
                  have hjK : j < K.length := by omega
                  clear hne
                  go_wp2_with fail
                  go_quiet (fail)
                  go_wp2_with fail
                  go_roundw
                  case rel => exact ⟨j + 1, n2 + nq, by omega, by go_num, by first | rfl | simp⟩
                  case measure => simp [intOf]; omega
                · clear HNO HC'
                  have hjf : j = f := by omega
                  subst hjf
                  go_wp2_with fail
                  go_roundw
                  case rel => exact ⟨k + 1, n2, by omega, by go_num, rfl⟩
                  case measure => simp [intOf]; omega
          · have ek : k = X.length := by omega
            subst ek
            have g6 := grown_drewN wr n none
            have L6 := L.keep g6 (by simp)
            have M6 := M.keep g6 (by simp)
            have O6 := O.keep g6 (by simp)
            have G6 := grown_own G g6 (by simp)
            clear L M O G g6 HQ HX hlt hk
            generalize wr.drewN n = w6 at *
            go_wp2_with fail
            refine (list_log a _ _ w6 L6).mono ?_
            rintro e w7 ⟨rfl, B7, g7⟩
            have L7 := L6.keep g7 (by simp)
            have M7 := M6.keep g7 (by simp)
            have O7 := (O6.keep g7 (by simp)).ints
            have G7 := grown_own G6 g7 (by simp)
            have N7 := IntsAt.whole (cap := K.length) B7 (small_maxLen (by omega))
            generalize hw6 : w6.heap.size = s6 at *
            clear L6 M6 O6 G6 g7 B7 hw6
            go_wp2_with fail
            refine (same_ints _ _ _ _ w7 N7 O7).mono ?_
            rintro e w8 ⟨rfl, n8, hw8⟩
            have g8 : w7.grownBy w8 none := by rw [hw8]; exact grown_drewN _ _ _
            have L8 := L7.keep g8 (by simp)
            have M8 := M7.keep g8 (by simp)
            have G8 := grown_own G7 g8 (by simp)
            clear L7 M7 O7 G7 N7 hw8 g8
            go_wp2_with fail
            refine (closed_log a _ _ w8 L8).mono ?_
            rintro e w9 ⟨rfl, rfl⟩
            clear L8
            have ed : (decide (r < X.length) == decide ((r : Int) < (X.length : Int))) = true := by simp
            go_wp2_with fail
            refine (list_log (a + 1) _ _ w9 M8).mono ?_
            rintro e w10 ⟨rfl, B10, g10⟩
            have M10 := M8.keep g10 (by simp)
            have G10 := grown_own G8 g10 (by simp)
            clear M8 G8 g10 B10
            go_wp2_with fail
            refine (closed_log (a + 1) _ _ w10 M10).mono ?_
            rintro e w11 ⟨rfl, rfl⟩
            go_wp2
            go_ret
            exact ⟨rfl, G10⟩
end Go.Proofs.Ytldjfeodeodcmaa
