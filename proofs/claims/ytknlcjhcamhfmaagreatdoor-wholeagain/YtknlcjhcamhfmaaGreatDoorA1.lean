/-
  WholeAgain, walked.
  What WholeAgain was handed, read as data.
-/
import Derived.Test.YtknlcjhcamhfmaaGreatDoorA0
import Derived.Test.YtknlcjhcamhfmaaGreatDoorJ43
import Derived.ChangeSlices
namespace Go.Proofs.YtknlcjhcamhfmaaGreatDoor
open Go.RowKit

theorem own_pre {w : World} {g n k : Nat} {os : List Int} (h : w.ownsRow g 3 1 (.slice (some ⟨g, 0, none⟩) n k) n (ints (os ++ [-77, -77]))) (m : Nat) : IntsIn w (.slice (some ⟨g, 0, none⟩) os.length m) os := by
  refine ⟨_, _, rfl, fun h0 => ⟨g, 0, rfl, fun j x hx => ?_⟩⟩
  have hj := (List.getElem?_eq_some_iff.1 hx).1
  have hl := h.1
  rw [length_ints, List.length_append] at hl
  rcases h.2 with ⟨e, _⟩ | ⟨g', cap, cur, e, hb, hh, hn, hm, hs, ht⟩
  · cases e
  · injection e with e1 _ _
    injection e1 with e1
    injection e1 with e1 _ _
    subst e1
    have h9 : (ints (os ++ [-77, -77]))[j]? = some (.int .i64 x) := by unfold ints; rw [List.getElem?_map, List.getElem?_append_left hj, hx]; rfl
    rw [← ht, List.getElem?_take, if_pos (by simp at hl; omega)] at h9
    rw [block_cell hh, Nat.zero_add]
    simpa using h9
theorem tr_cells {w : World} {g o : Nat} {x : Tr} (h : ∀ k u, (trv x)[k]? = some u → w.cell? ⟨g, o + k, none⟩ = some u) : C9 w g o x.h (.slice x.a x.n x.c) ∧ w.cell? ⟨g, o + 9, none⟩ = some (.int .u8 x.t) ∧ w.cell? ⟨g, o + 10, none⟩ = some (.string x.s) ∧ w.cell? ⟨g, o + 11, none⟩ = some (.int .u8 x.m.mi) ∧ w.cell? ⟨g, o + 12, none⟩ = some (.string x.m.nm) ∧ w.cell? ⟨g, o + 13, none⟩ = some (.int .i64 x.m.po) ∧ w.cell? ⟨g, o + 14, none⟩ = some (.int .i64 x.m.he) :=
  ⟨⟨h 0 _ rfl, h 1 _ rfl, h 2 _ rfl, h 3 _ rfl, h 4 _ rfl, h 5 _ rfl, h 6 _ rfl, h 7 _ rfl, h 8 _ rfl⟩, h 9 _ rfl, h 10 _ rfl, h 11 _ rfl, h 12 _ rfl, h 13 _ rfl, h 14 _ rfl⟩
set_option maxRecDepth 100000 in
set_option maxHeartbeats 16000000 in
theorem again14 (v u : Value) (os : List Int) (xs : List Tr) (w : World) (O : IntsA w v os) (X : TrsIn w u xs) (hb : (os.length + 2) * 8 ≤ 140737488355328) (N : NamesAt w) : Calls Tryz.prog 6 #[v, u] w fun e w' => e = .returned (.bool true) ∧ w.grownBy w' none := by
  have HN : Hid (NamesAt w) := N
  have HO : Hid (IntsA w v os) := O
  have HX : Hid (TrsIn w u xs) := X
  have CL := lentI_any v os w O hb
  obtain ⟨va, vc, hv⟩ : ∃ a c, v = .slice a os.length c := by
    rcases O with ⟨h, rfl⟩ | ⟨ad, cap, h, _⟩
    · exact ⟨_, _, h⟩
    · exact ⟨_, _, h⟩
  obtain ⟨ua, uc, hu, _⟩ := X
  have hb0 : (0 : Int) ≤ (os.length : Int) := by omega
  have hb1 : (os.length : Int) ≤ (os.length : Int) + 2 := by omega
  have hb2 : (os.length : Int) ≤ ((os.length + 2 : Nat) : Int) := by omega
  subst hv
  subst hu
  clear N O
  go_enter Tryz.func6, Tryz.ntmps6
  go_wp2_with fail
  refine CL.mono ?_
  rintro e W1 ⟨rfl, O1, g1⟩
  have HO1 : Hid (W1.ownsRow w.heap.size 3 1 (.slice (some ⟨w.heap.size, 0, none⟩) (os.length + 2) (os.length + 2)) (os.length + 2) (ints (os ++ [-77, -77]))) := O1
  have HG1 : Hid (w.grownBy W1 none) := g1
  clear O1 g1 CL
  by_cases hi : IsOrd os
  · obtain ⟨ks, hks, hK⟩ := hi
    have C2 : ∀ W, W1.grownBy W none → ∀ m, Calls Tryz.prog 9 #[.slice (some ⟨w.heap.size, 0, none⟩) os.length m] W fun e w' => ∃ b es, e = .returned (.tuple #[.pointer (some ⟨b, 0, none⟩), .int .i64 0]) ∧ FB w' b es ∧ W.heap.size ≤ b ∧ W.grownBy w' none := fun W g m => by
      refine again_yes _ ks W ?_ hK (HN.out.keep (grown_trans HG1.out g))
      rw [← hks]
      exact (own_pre HO1.out m).keep g
    have C3 : ∀ W, w.grownBy W none → Calls Tryz.prog 23 #[.slice va os.length vc] W fun e w' => ∃ r v fs, e = .returned (.tuple #[.pointer (some ⟨r, 0, none⟩), .int .i64 0]) ∧ RF w' r v fs ∧ W.heap.size ≤ r ∧ W.grownBy w' none := fun W g => by
      refine ragain_yes _ ks W ?_ hK
      rw [← hks]
      exact (HO.out.keep g).in
    have HC2 : Hid (∀ W, W1.grownBy W none → ∀ m, Calls Tryz.prog 9 #[.slice (some ⟨w.heap.size, 0, none⟩) os.length m] W fun e w' => ∃ b es, e = .returned (.tuple #[.pointer (some ⟨b, 0, none⟩), .int .i64 0]) ∧ FB w' b es ∧ W.heap.size ≤ b ∧ W.grownBy w' none) := C2
    have HC3 : Hid (∀ W, w.grownBy W none → Calls Tryz.prog 23 #[.slice va os.length vc] W fun e w' => ∃ r v fs, e = .returned (.tuple #[.pointer (some ⟨r, 0, none⟩), .int .i64 0]) ∧ RF w' r v fs ∧ W.heap.size ≤ r ∧ W.grownBy w' none) := C3
    clear C2 C3 hks hK
    go_wp2_with fail
    refine (HC2.out W1 (grown_refl _ _) _).mono ?_
    rintro e W2 ⟨a, ea, rfl, A2, la, g2⟩
    have HA2 : Hid (FB W2 a ea) := A2
    have Hg2 : Hid (W1.grownBy W2 none) := g2
    have HG2 : Hid (w.grownBy W2 none) := grown_trans HG1.out g2
    clear A2 la g2
    go_wp2_with fail
    refine (HC2.out W2 Hg2.out _).mono ?_
    rintro e W3 ⟨b, eb, rfl, B3, lb, g3⟩
    have HA3 : Hid (FB W3 a ea) := HA2.out.keep g3
    have HB3 : Hid (FB W3 b eb) := B3
    have Hg3 : Hid (W1.grownBy W3 none) := grown_trans Hg2.out g3
    have HG3 : Hid (w.grownBy W3 none) := grown_trans HG2.out g3
    have hab : ¬ a = b := by have h9 := HA2.out.book.lt; omega
    clear B3 lb g3 HA2 Hg2 HG2 HC2
    go_wp2_with fail
    refine (HC3.out W3 HG3.out).mono ?_
    rintro e W4 ⟨r, vr, fs, rfl, R4, _, g4⟩
    have HA4 : Hid (FB W4 a ea) := HA3.out.keep g4
    have HB4 : Hid (FB W4 b eb) := HB3.out.keep g4
    have HR4 : Hid (RF W4 r vr fs) := R4
    have Hg4 : Hid (W1.grownBy W4 none) := grown_trans Hg3.out g4
    have HG4 : Hid (w.grownBy W4 none) := grown_trans HG3.out g4
    have CK := keptI_any (.slice (some ⟨w.heap.size, 0, none⟩) (os.length + 2) (os.length + 2)) (.slice va os.length vc) w.heap.size os W4 (by
      unfold L.Own
      rw [show (os ++ [-77, -77] : List Int).length = os.length + 2 by simp]
      exact World.ownsRow.kept HO1.out Hg4.out (by simp [Value.ownBlock])) (HO.out.keep HG4.out) hb
    clear R4 g4 HA3 HB3 Hg3 HG3 HC3
    go_wp2_with fail
    refine CK.mono ?_
    rintro e W5 ⟨rfl, g5⟩
    have HA5 : Hid (FB W5 a ea) := HA4.out.keep g5
    have HB5 : Hid (FB W5 b eb) := HB4.out.keep g5
    have HR5 : Hid (RF W5 r vr fs) := HR4.out.keep g5
    have HG5 : Hid (w.grownBy W5 none) := grown_trans HG4.out g5
    clear g5 CK HA4 HB4 HR4 HG4 Hg4
    go_wp2_with fail
    refine (lives_any W5 (HN.out.keep HG5.out)).mono ?_
    rintro e W6 ⟨rfl, g6⟩
    have HA6 : Hid (FB W6 a ea) := HA5.out.keep g6
    have HB6 : Hid (FB W6 b eb) := HB5.out.keep g6
    have HR6 : Hid (RF W6 r vr fs) := HR5.out.keep g6
    have HG6 : Hid (w.grownBy W6 none) := grown_trans HG5.out g6
    clear g6 HA5 HB5 HR5 HG5
    go_wp2_with fail
    go_loopw [12] (fun x wr => ∃ n : Nat, n ≤ xs.length ∧ n ≤ 20 ∧ x = .int .i64 (n : Int) ∧ FB wr a ea ∧ FB wr b eb ∧ RF wr r vr fs ∧ w.grownBy wr none) (fun x _ => 20 - (intOf x).toNat)
    case atStart => exact ⟨0, Nat.zero_le _, Nat.zero_le _, rfl, HA6.out, HB6.out, HR6.out, HG6.out⟩
    case round =>
      clear HA6 HB6 HR6 HG6
      obtain ⟨n, hn, hn2, rfl, A, B, R, Gr⟩ := hrel
      obtain ⟨U, hU⟩ : ∃ U, U = wr := ⟨_, rfl⟩
      subst hU
      have HA : Hid (FB U a ea) := A
      have HB : Hid (FB U b eb) := B
      have HR : Hid (RF U r vr fs) := R
      have HG : Hid (w.grownBy U none) := Gr
      clear A B R Gr
      by_cases h1 : n < xs.length
      · have h1' : (n : Int) < (xs.length : Int) := by omega
        by_cases h2 : n < 20
        · have h2' : (n : Int) < 20 := by omega
          have n0 : (0 : Int) ≤ (n : Int) := by omega
          have hwn : wrap64 ((n : Int) + 1) = (n : Int) + 1 := by unfold wrap64; omega
          obtain ⟨xa', xk', hxe, hxc⟩ := HX.out
          injection hxe with hxe1 _ hxe3
          subst hxe1
          subst hxe3
          obtain ⟨xg, xo, rfl, hxs⟩ := hxc (by omega)
          obtain ⟨x, hx⟩ : ∃ x, xs[n]? = some x := ⟨_, List.getElem?_eq_getElem h1⟩
          obtain ⟨C9x, ct, cs, y0, y1, y2, y3⟩ := tr_cells (o := xo + n * 15) (w := U) (fun k u hu => HG.out.cell (hxs n x hx k u hu) (by simp))
          clear hx hxs hxc
          obtain ⟨⟨nm, su, kd, co, po, he, tr, tk⟩, xa, xn, xc, tt, ss, ⟨m0, m1, m2, m3⟩⟩ := x
          obtain ⟨z0, z1, z2, z3, z4, z5, z6, z7, z8⟩ := C9x
          simp only at z0 z1 z2 z3 z4 z5 z6 z7 z8 ct cs y0 y1 y2 y3
          obtain ⟨U1, hU1⟩ : ∃ U1, U1 = U.alloc (.cells #[.string nm, .int .u8 su, .int .u8 kd, .int .i64 co, .int .i64 po, .int .i64 he, .int .u16 tr, .bool tk, .slice xa xn xc, .int .u8 tt, .string ss, .int .u8 m0, .string m1, .int .i64 m2, .int .i64 m3] 62) := ⟨_, rfl⟩
          have g1 : U.grownBy U1 none := by rw [hU1]; exact World.grownBy_alloc _ _ none
          have Z1 : U1.heap[U.heap.size]? = some (.cells #[.string nm, .int .u8 su, .int .u8 kd, .int .i64 co, .int .i64 po, .int .i64 he, .int .u16 tr, .bool tk, .slice xa xn xc, .int .u8 tt, .string ss, .int .u8 m0, .string m1, .int .i64 m2, .int .i64 m3] 62 (0, 0)) := by rw [hU1]; exact alloc_at _ _ _
          have HZ1 : Hid (U1.heap[U.heap.size]? = some (.cells #[.string nm, .int .u8 su, .int .u8 kd, .int .i64 co, .int .i64 po, .int .i64 he, .int .u16 tr, .bool tk, .slice xa xn xc, .int .u8 tt, .string ss, .int .u8 m0, .string m1, .int .i64 m2, .int .i64 m3] 62 (0, 0))) := Z1
          have HA1 : Hid (FB U1 a ea) := HA.out.keep g1
          have HB1 : Hid (FB U1 b eb) := HB.out.keep g1
          have HR1 : Hid (RF U1 r vr fs) := HR.out.keep g1
          have HGu1 : Hid (w.grownBy U1 none) := grown_trans HG.out g1
          have HU1 : Hid (U1 = U.alloc (.cells #[.string nm, .int .u8 su, .int .u8 kd, .int .i64 co, .int .i64 po, .int .i64 he, .int .u16 tr, .bool tk, .slice xa xn xc, .int .u8 tt, .string ss, .int .u8 m0, .string m1, .int .i64 m2, .int .i64 m3] 62)) := hU1
          clear g1 HA HB HR HG hU1 Z1
          go_upto_region 13 with fail
          rw [← HU1.out]
          clear HU1 z0 z1 z2 z3 z4 z5 z6 z7 z8 ct cs y0 y1 y2 y3
          have d0 := block_cell HZ1.out 0
          have d1 := block_cell HZ1.out 1
          have d2 := block_cell HZ1.out 2
          have d3 := block_cell HZ1.out 3
          have d4 := block_cell HZ1.out 4
          have d5 := block_cell HZ1.out 5
          have d6 := block_cell HZ1.out 6
          have d7 := block_cell HZ1.out 7
          have d8 := block_cell HZ1.out 8
          simp only [List.getElem?_toArray, List.getElem?_cons_zero, List.getElem?_cons_succ] at d0 d1 d2 d3 d4 d5 d6 d7 d8
          have C1 := card7 HA1.out ⟨nm, su, kd, co, po, he, tr, tk⟩ xa xn xc
          unfold cv at C1
          simp only at C1
          go_wp2_with fail
          refine C1.mono ?_
          rintro e U2 ⟨rfl, g2⟩
          have HA2 : Hid (FB U2 a ea) := HA1.out.keep g2
          have HB2 : Hid (FB U2 b eb) := HB1.out.keep g2
          have HR2 : Hid (RF U2 r vr fs) := HR1.out.keep g2
          have HGu2 : Hid (w.grownBy U2 none) := grown_trans HGu1.out g2
          have Z2 := grown_keep g2 HZ1.out (by simp)
          have HZ2 : Hid (U2.heap[U.heap.size]? = some (.cells #[.string nm, .int .u8 su, .int .u8 kd, .int .i64 co, .int .i64 po, .int .i64 he, .int .u16 tr, .bool tk, .slice xa xn xc, .int .u8 tt, .string ss, .int .u8 m0, .string m1, .int .i64 m2, .int .i64 m3] 62 (0, 0))) := Z2
          have e9 : U2.cell? ⟨U.heap.size, 9, none⟩ = some (.int .u8 tt) := block_cell Z2 9
          have e10 : U2.cell? ⟨U.heap.size, 10, none⟩ = some (.string ss) := block_cell Z2 10
          clear g2 C1 Z2 HA1 HB1 HR1 HGu1 HZ1 d0 d1 d2 d3 d4 d5 d6 d7 d8
          go_wp2_with fail
          refine (trait7 HA2.out tt ss).mono ?_
          rintro e U3 ⟨rfl, g3⟩
          have HA3 : Hid (FB U3 a ea) := HA2.out.keep g3
          have HB3 : Hid (FB U3 b eb) := HB2.out.keep g3
          have HR3 : Hid (RF U3 r vr fs) := HR2.out.keep g3
          have HGu3 : Hid (w.grownBy U3 none) := grown_trans HGu2.out g3
          have Z3 := grown_keep g3 HZ2.out (by simp)
          have e11 : U3.cell? ⟨U.heap.size, 11, none⟩ = some (.int .u8 m0) := block_cell Z3 11
          have e12 : U3.cell? ⟨U.heap.size, 12, none⟩ = some (.string m1) := block_cell Z3 12
          have e13 : U3.cell? ⟨U.heap.size, 13, none⟩ = some (.int .i64 m2) := block_cell Z3 13
          have e14 : U3.cell? ⟨U.heap.size, 14, none⟩ = some (.int .i64 m3) := block_cell Z3 14
          have C3 := mark7 HA3.out ⟨m0, m1, m2, m3⟩
          unfold mv at C3
          simp only at C3
          clear g3 Z3 HA2 HB2 HR2 HGu2 HZ2 e9 e10
          go_wp2_with fail
          refine C3.mono ?_
          rintro e U4 ⟨rfl, g4⟩
          have HA4 : Hid (FB U4 a ea) := HA3.out.keep g4
          have HB4 : Hid (FB U4 b eb) := HB3.out.keep g4
          have HR4 : Hid (RF U4 r vr fs) := HR3.out.keep g4
          have HGu4 : Hid (w.grownBy U4 none) := grown_trans HGu3.out g4
          clear g4 C3 HA3 HB3 HR3 HGu3 e11 e12 e13 e14
          go_wp2_with fail
          refine (seal7 HA4.out).mono ?_
          rintro e U5 ⟨rfl, g5⟩
          have HA5 : Hid (FB U5 a ea) := HA4.out.keep g5
          have HB5 : Hid (FB U5 b eb) := HB4.out.keep g5
          have HR5 : Hid (RF U5 r vr fs) := HR4.out.keep g5
          have HGu5 : Hid (w.grownBy U5 none) := grown_trans HGu4.out g5
          clear g5 HA4 HB4 HR4 HGu4
          go_wp2_with fail
          go_roundw
          case rel => exact ⟨n + 1, h1, h2, by first | rfl | (rw [hwn]; rfl), HA5.out, HB5.out, HR5.out, HGu5.out⟩
          case measure => first | exact meas_next h2 | (rw [hwn]; exact meas_next h2)
        have h2' : ¬ (n : Int) < 20 := by omega
        have hq := ptr_neq hab HA.out.book.lies HB.out.book.lies
        go_wp2_with fail
        clear hq
        refine (same14 a r vr ea fs U HA.out HR.out).mono ?_
        rintro e V1 ⟨rfl, k1⟩
        have HAv : Hid (FB V1 a ea) := HA.out.keep k1
        have HBv : Hid (FB V1 b eb) := HB.out.keep k1
        have HRv : Hid (RF V1 r vr fs) := HR.out.keep k1
        have HGv : Hid (w.grownBy V1 none) := grown_trans HG.out k1
        clear k1 HA HB HR HG
        go_wp2_with fail
        refine (same14 b r vr eb fs V1 HBv.out HRv.out).mono ?_
        rintro e V2 ⟨rfl, k2⟩
        have HAw : Hid (FB V2 a ea) := HAv.out.keep k2
        have HBw : Hid (FB V2 b eb) := HBv.out.keep k2
        have HGw : Hid (w.grownBy V2 none) := grown_trans HGv.out k2
        clear k2 HAv HBv HRv HGv
        go_wp2_with fail
        refine (same_full HAw.out HBw.out).mono ?_
        rintro e V3 ⟨rfl, k3⟩
        have HF : Hid (w.grownBy V3 none) := grown_trans HGw.out k3
        clear k3 HAw HBw HGw
        go_wp2
        go_ret
        exact ⟨rfl, HF.out⟩
      · have h1' : ¬ (n : Int) < (xs.length : Int) := by omega
        have hq := ptr_neq hab HA.out.book.lies HB.out.book.lies
        go_wp2_with fail
        clear hq
        refine (same14 a r vr ea fs U HA.out HR.out).mono ?_
        rintro e V1 ⟨rfl, k1⟩
        have HAv : Hid (FB V1 a ea) := HA.out.keep k1
        have HBv : Hid (FB V1 b eb) := HB.out.keep k1
        have HRv : Hid (RF V1 r vr fs) := HR.out.keep k1
        have HGv : Hid (w.grownBy V1 none) := grown_trans HG.out k1
        clear k1 HA HB HR HG
        go_wp2_with fail
        refine (same14 b r vr eb fs V1 HBv.out HRv.out).mono ?_
        rintro e V2 ⟨rfl, k2⟩
        have HAw : Hid (FB V2 a ea) := HAv.out.keep k2
        have HBw : Hid (FB V2 b eb) := HBv.out.keep k2
        have HGw : Hid (w.grownBy V2 none) := grown_trans HGv.out k2
        clear k2 HAv HBv HRv HGv
        go_wp2_with fail
        refine (same_full HAw.out HBw.out).mono ?_
        rintro e V3 ⟨rfl, k3⟩
        have HF : Hid (w.grownBy V3 none) := grown_trans HGw.out k3
        clear k3 HAw HBw HGw
        go_wp2
        go_ret
        exact ⟨rfl, HF.out⟩
  · have C2 : ∀ W, W1.grownBy W none → ∀ m, Calls Tryz.prog 9 #[.slice (some ⟨w.heap.size, 0, none⟩) os.length m] W fun e w' => e = .returned (.tuple #[.pointer none, .int .i64 2]) ∧ W.grownBy w' none := fun W g m => again_no _ os W ((own_pre HO1.out m).keep g) hi
    have C3 : ∀ W, w.grownBy W none → Calls Tryz.prog 23 #[.slice va os.length vc] W fun e w' => e = .returned (.tuple #[.pointer none, .int .i64 2]) ∧ W.grownBy w' none := fun W g => ragain_no _ os W (HO.out.keep g).in hi
    have HC2 : Hid (∀ W, W1.grownBy W none → ∀ m, Calls Tryz.prog 9 #[.slice (some ⟨w.heap.size, 0, none⟩) os.length m] W fun e w' => e = .returned (.tuple #[.pointer none, .int .i64 2]) ∧ W.grownBy w' none) := C2
    have HC3 : Hid (∀ W, w.grownBy W none → Calls Tryz.prog 23 #[.slice va os.length vc] W fun e w' => e = .returned (.tuple #[.pointer none, .int .i64 2]) ∧ W.grownBy w' none) := C3
    clear C2 C3 hi
    go_wp2_with fail
    refine (HC2.out W1 (grown_refl _ _) _).mono ?_
    rintro e W2 ⟨rfl, g2⟩
    have Hg2 : Hid (W1.grownBy W2 none) := g2
    clear g2
    go_wp2_with fail
    refine (HC2.out W2 Hg2.out _).mono ?_
    rintro e W3 ⟨rfl, g3⟩
    have Hg3 : Hid (W1.grownBy W3 none) := grown_trans Hg2.out g3
    clear g3 Hg2 HC2
    go_wp2_with fail
    refine (HC3.out W3 (grown_trans HG1.out Hg3.out)).mono ?_
    rintro e W4 ⟨rfl, g4⟩
    have Hg4 : Hid (W1.grownBy W4 none) := grown_trans Hg3.out g4
    have HG4 : Hid (w.grownBy W4 none) := grown_trans HG1.out Hg4.out
    have CK := keptI_any (.slice (some ⟨w.heap.size, 0, none⟩) (os.length + 2) (os.length + 2)) (.slice va os.length vc) w.heap.size os W4 (by
      unfold L.Own
      rw [show (os ++ [-77, -77] : List Int).length = os.length + 2 by simp]
      exact World.ownsRow.kept HO1.out Hg4.out (by simp [Value.ownBlock])) (HO.out.keep HG4.out) hb
    clear g4 Hg3 HC3
    go_wp2_with fail
    refine CK.mono ?_
    rintro e W5 ⟨rfl, g5⟩
    have HG5 : Hid (w.grownBy W5 none) := grown_trans HG4.out g5
    clear g5 CK HG4 Hg4
    go_wp2_with fail
    refine (lives_any W5 (HN.out.keep HG5.out)).mono ?_
    rintro e W6 ⟨rfl, g6⟩
    have HF : Hid (w.grownBy W6 none) := grown_trans HG5.out g6
    clear g6 HG5
    go_wp2
    go_ret
    exact ⟨rfl, HF.out⟩
end Go.Proofs.YtknlcjhcamhfmaaGreatDoor
namespace Go.Proofs.YtknlcjhcamhfmaaGreatDoor
open Go.ChangeShapes Go.WideShapes Go.ChangeAt Go.RowKit Go.Deep

theorem cOf3 : Tryz.prog.cellsOf 3 = 1 := by kernel_rfl
theorem cOf9 : Tryz.prog.cellsOf 9 = 1 := by kernel_rfl
theorem cOfM : Tryz.prog.cellsOf 58 = 1 := by kernel_rfl
theorem cOfT : Tryz.prog.cellsOf 57 = 1 := by kernel_rfl
theorem cOfMI : Tryz.prog.cellsOf 60 = 4 := by kernel_rfl
theorem cOfC : Tryz.prog.cellsOf 56 = 9 := by kernel_rfl
theorem cOfTry : Tryz.prog.cellsOf 62 = 15 := by kernel_rfl
theorem bytes3x : Tryz.prog.bytesOf 3 = 8 := by kernel_rfl
/-- The four cells of a mark, read as data. -/
theorem markC {H : Type} {enc : TypeId × Value → H} {w : World} {base : Nat} {sp : Nat → Bool} {held : Bool} {fuel : Nat} {l : List Value} {x : DataW H × List MemPlace} (hsz : l.length = 4) (hf : DataW.trod enc Tryz.prog w base sp held fuel 60 l = some x) : ∃ m : Mk, l = mvs m := by
  obtain ⟨c0, c1, c2, c3, rfl⟩ : ∃ c0 c1 c2 c3, l = [c0, c1, c2, c3] := by
    match l, hsz with
    | [c0, c1, c2, c3], _ => exact ⟨c0, c1, c2, c3, rfl⟩
  obtain ⟨xs, n, _, hx, _, hlen, hfl⟩ := DataW.trod_struct Tryz.underlying60 hf
  match xs, hlen with
  | [y0, y1, y2, y3], _ =>
    have t0 : DataW.trod enc Tryz.prog w base sp held n 58 (([c0, c1, c2, c3].drop 0).take (Tryz.prog.cellsOf 58)) = some y0 := hfl 0 _ rfl
    have t1 : DataW.trod enc Tryz.prog w base sp held n 9 (([c0, c1, c2, c3].drop 1).take (Tryz.prog.cellsOf 9)) = some y1 := hfl 1 _ rfl
    have t2 : DataW.trod enc Tryz.prog w base sp held n 3 (([c0, c1, c2, c3].drop 2).take (Tryz.prog.cellsOf 3)) = some y2 := hfl 2 _ rfl
    have t3 : DataW.trod enc Tryz.prog w base sp held n 3 (([c0, c1, c2, c3].drop 3).take (Tryz.prog.cellsOf 3)) = some y3 := hfl 3 _ rfl
    rw [cOfM] at t0
    rw [cOf9] at t1
    rw [cOf3] at t2 t3
    obtain ⟨z0, e0, _, _⟩ := DataW.trod_int Tryz.underlying58 (cs := [c0]) t0
    obtain ⟨z1, e1, _, _⟩ := DataW.trod_string Tryz.underlying9 (cs := [c1]) t1
    obtain ⟨z2, e2, _, _⟩ := DataW.trod_int Tryz.underlying3 (cs := [c2]) t2
    obtain ⟨z3, e3, _, _⟩ := DataW.trod_int Tryz.underlying3 (cs := [c3]) t3
    simp only [List.cons.injEq, and_true] at e0 e1 e2 e3
    subst e0 e1 e2 e3
    exact ⟨⟨z0, z1, z2, z3⟩, rfl⟩
theorem wIn {H : Type} {P : Program} {e : TypeId} {n : Nat} : ∀ {l : List (DataW H)} {d : DataW H}, d ∈ l → n ∈ d.weights P e → n ∈ DataW.weightsAll P e l
  | x :: r, d, hd, hn => by
    simp only [DataW.weightsAll, List.mem_append]
    rcases List.mem_cons.1 hd with rfl | hd
    · exact Or.inl hn
    · exact Or.inr (wIn hd hn)
theorem fifteen {α : Type} {X : List α} (h : X.length = 15) : ∃ a b c d e f g i j k l m n o p, X = [a, b, c, d, e, f, g, i, j, k, l, m, n, o, p] := by
  match X, h with
  | [a, b, c, d, e, f, g, i, j, k, l, m, n, o, p], _ => exact ⟨a, b, c, d, e, f, g, i, j, k, l, m, n, o, p, rfl⟩
set_option maxRecDepth 100000 in
/-- The fifteen cells of a try, read as data. -/
theorem try_cells {H : Type} {enc : TypeId × Value → H} {w : World} {base : Nat} {sp : Nat → Bool} {held : Bool} {fuel : Nat} {l : List Value} {x : DataW H × List MemPlace} (hsz : l.length = 15) (hf : DataW.trod enc Tryz.prog w base sp held fuel 62 l = some x) (hz : ∀ n ∈ x.1.weights Tryz.prog 62, n ≤ reachBytes) : ∃ d : Tr, l = trv d := by
  obtain ⟨c0, c1, c2, c3, c4, c5, c6, c7, c8, c9, c10, c11, c12, c13, c14, rfl⟩ := fifteen hsz
  obtain ⟨xs, n, _, hx, _, hlen, hfl⟩ := DataW.trod_struct Tryz.underlying62 hf
  match xs, hlen with
  | [y0, y1, y2, y3], _ =>
    have t0 : DataW.trod enc Tryz.prog w base sp held n 56 (([c0, c1, c2, c3, c4, c5, c6, c7, c8, c9, c10, c11, c12, c13, c14].drop 0).take (Tryz.prog.cellsOf 56)) = some y0 := hfl 0 _ rfl
    have t1 : DataW.trod enc Tryz.prog w base sp held n 57 (([c0, c1, c2, c3, c4, c5, c6, c7, c8, c9, c10, c11, c12, c13, c14].drop 9).take (Tryz.prog.cellsOf 57)) = some y1 := hfl 1 _ rfl
    have t2 : DataW.trod enc Tryz.prog w base sp held n 9 (([c0, c1, c2, c3, c4, c5, c6, c7, c8, c9, c10, c11, c12, c13, c14].drop 10).take (Tryz.prog.cellsOf 9)) = some y2 := hfl 2 _ rfl
    have t3 : DataW.trod enc Tryz.prog w base sp held n 60 (([c0, c1, c2, c3, c4, c5, c6, c7, c8, c9, c10, c11, c12, c13, c14].drop 11).take (Tryz.prog.cellsOf 60)) = some y3 := hfl 3 _ rfl
    rw [cOfC] at t0
    rw [cOfT] at t1
    rw [cOf9] at t2
    rw [cOfMI] at t3
    obtain ⟨z1, e1, _, _⟩ := DataW.trod_int Tryz.underlying57 (cs := [c9]) t1
    obtain ⟨z2, e2, _, _⟩ := DataW.trod_string Tryz.underlying9 (cs := [c10]) t2
    obtain ⟨h, u, ps, e0, hp, _, _, _⟩ := card_cells (l := [c0, c1, c2, c3, c4, c5, c6, c7, c8]) rfl t0 (fun n hn => hz n (by
      rw [hx]
      simp only [DataW.weights, Tryz.underlying62]
      exact DataW.weights_mem_each (j := 0) rfl rfl n hn))
    obtain ⟨m, e3⟩ := markC (l := [c11, c12, c13, c14]) rfl t3
    obtain ⟨pa, pc, rfl⟩ := hp.form
    simp only [List.cons.injEq, and_true] at e1 e2
    simp only [cvs, mvs, List.cons.injEq, and_true] at e0 e3
    obtain ⟨q0, q1, q2, q3, q4, q5, q6, q7, q8⟩ := e0
    obtain ⟨r0, r1, r2, r3⟩ := e3
    subst e1 e2 q0 q1 q2 q3 q4 q5 q6 q7 q8 r0 r1 r2 r3
    exact ⟨⟨h, pa, ps.length, pc, z1, z2, m⟩, rfl⟩
set_option maxRecDepth 100000 in
/-- A list of tries, read as data. -/
theorem tries_open {H : Type} {enc : TypeId × Value → H} {w : World} {base : Nat} {sp : Nat → Bool} {held : Bool} {fuel : Nat} {v : Value} {x : DataW H × List MemPlace}
    (h : DataW.trod enc Tryz.prog w base sp held fuel 45 [v] = some x) (hz : ∀ n ∈ x.1.weights Tryz.prog 45, n ≤ reachBytes) : ∃ ds : List Tr, TrsIn w v ds := by
  rcases open_slice Tryz.underlying45 h with ⟨hcs, _⟩ | ⟨a, len, cp, m, f, D, Pl, hcs, _, hl, hm, hmm, hxx, hx⟩
  · simp at hcs
    subst hcs
    exact ⟨[], none, 0, rfl, fun h0 => by simp at h0⟩
  · simp at hcs
    subst hcs
    rw [cOfTry] at hx
    have hnm : len ≤ m := by rw [hmm]; split <;> omega
    have hp : ∀ i, i < len → ∃ d : Tr, ∀ k u, (trv d)[k]? = some u → w.cell? ((a.add (i * 15)).add k) = some u := fun i hi => by
      obtain ⟨cs', h1, h2⟩ := hx i (by omega)
      obtain ⟨_, hlen, hc⟩ := World.cells?_some h1
      obtain ⟨d, e⟩ := try_cells hlen h2 (fun n hn => hz n (by
        rw [hxx]
        simp only [DataW.weights, Tryz.underlying45]
        exact List.mem_cons_of_mem _ (List.mem_append_left _ (wIn (List.mem_map.2 ⟨i, List.mem_range.2 hi, rfl⟩) hn))))
      subst e
      refine ⟨d, fun k y hk => ?_⟩
      have hk9 : k < 15 := (List.getElem?_eq_some_iff.1 hk).1
      rw [hc k hk9]
      exact hk
    haveI : Inhabited Tr := ⟨⟨Hd.none, none, 0, 0, 0, ⟨#[]⟩, Mk.none⟩⟩
    obtain ⟨F, hF⟩ := choose_lt (α := Tr) hp
    refine ⟨(List.range len).map F, some a, cp, by simp, fun h0 => ?_⟩
    have h0' : 0 < len := by simpa using h0
    have c0 := hF 0 h0' 0 _ rfl
    have ex : (a.add (0 * 15)).add 0 = a := by simp [Addr.add]
    rw [ex] at c0
    have pl := addr_plain c0
    refine ⟨a.block, a.off, by rw [← pl], fun j e he k u hk => ?_⟩
    have hj : j < len := by have := (List.getElem?_eq_some_iff.1 he).1; simpa using this
    obtain rfl : e = F j := by simp [hj] at he; exact he.symm
    have := hF j hj k u hk
    rw [add_add pl, pl, add_plain, ← Nat.add_assoc] at this
    exact this
set_option maxRecDepth 100000 in
/-- A list of numbers, read as data. -/
theorem numsA_open {H : Type} {enc : TypeId × Value → H} {w : World} {base : Nat} {sp : Nat → Bool} {held : Bool} {fuel : Nat} {v : Value} {x : DataW H × List MemPlace}
    (h : DataW.trod enc Tryz.prog w base sp held fuel 28 [v] = some x) (hz : ∀ n ∈ x.1.weights Tryz.prog 28, n ≤ reachBytes) : ∃ os : List Int, IntsA w v os ∧ (os.length + 2) * 8 ≤ 140737488355328 := by
  rcases open_slice1 Tryz.underlying28 cOf3 h with ⟨hcs, _⟩ | ⟨a, len, cp, m, f, V, D, Pl, hcs, _, hl, hm, hmm, hxx, hx⟩
  · simp at hcs
    subst hcs
    exact ⟨[], Or.inl ⟨rfl, rfl⟩, by decide⟩
  · simp at hcs
    subst hcs
    have hnm : len ≤ m := by rw [hmm]; split <;> omega
    have hp : ∀ i, i < len → ∃ s : Int, w.cell? (a.add i) = some (.int .i64 s) := fun i hi => by
      obtain ⟨h1, h2⟩ := hx i (by omega)
      obtain ⟨z, e, _, _⟩ := DataW.trod_int Tryz.underlying3 h2
      simp only [List.cons.injEq, and_true] at e
      exact ⟨z, by rw [h1, e]⟩
    obtain ⟨F, hF⟩ := choose_lt (α := Int) hp
    refine ⟨(List.range len).map F, Or.inr ⟨a, cp, by simp, fun j u hu => ?_⟩, ?_⟩
    · have hj : j < len := by have := (List.getElem?_eq_some_iff.1 hu).1; rw [length_ints] at this; simpa using this
      obtain rfl : u = .int .i64 (F j) := by simp [ints, hj] at hu; exact hu.symm
      exact hF j hj
    · have hb := hz ((len + (m - len)) * 8) (by rw [hxx]; simp [DataW.weights, Tryz.underlying28, bytes3x])
      unfold reachBytes at hb
      simp only [List.length_map, List.length_range]
      omega
end Go.Proofs.YtknlcjhcamhfmaaGreatDoor
