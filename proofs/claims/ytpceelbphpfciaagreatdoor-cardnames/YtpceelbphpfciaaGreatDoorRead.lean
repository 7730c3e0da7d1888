/-
  What read takes words for: a part, or none. It touches nothing that was there.
-/
import Derived.Test.YtpceelbphpfciaaGreatDoorRFld
import Derived.Test.YtpceelbphpfciaaGreatDoorHead
namespace Go.Proofs.YtpceelbphpfciaaGreatDoor
open Go.RowKit

/-- The part while its first words are read. -/
def hp (a b c : Nat) : Nat → Pt
  | 0 => Pt.none
  | 1 => { Pt.none with wn := a }
  | 2 => { Pt.none with wn := a, vb := b }
  | _ => { Pt.none with wn := a, vb := b, wm := c }
theorem readP_short {ws : List (List UInt8)} (h : ws.length < 3) : readP ws = none := by
  match ws, h with
  | [], _ => rfl
  | [_], _ => rfl
  | [_, _], _ => rfl
theorem readP_no {x y z : List UInt8} {r : List (List UInt8)} (h : idx whenW x = 0 ∨ idx verbW y = 0 ∨ idx whomW z = 0) : readP (x :: y :: z :: r) = none := if_pos h
theorem readP_go {x y z : List UInt8} {r : List (List UInt8)} (h : ¬ (idx whenW x = 0 ∨ idx verbW y = 0 ∨ idx whomW z = 0)) : readP (x :: y :: z :: r) = rdF (kinds (idx verbW y) (idx whomW z)) r (hp (idx whenW x) (idx verbW y) (idx whomW z) 3) := if_neg h
theorem index0 (x y z : Value) (w : World) : (Instr.index 89 (.agg #[x, y, z]) (.int .i64 0)).run Tryz.prog w = .ok x w := by kernel_rfl
theorem index1 (x y z : Value) (w : World) : (Instr.index 89 (.agg #[x, y, z]) (.int .i64 1)).run Tryz.prog w = .ok y w := by kernel_rfl
theorem index2 (x y z : Value) (w : World) : (Instr.index 89 (.agg #[x, y, z]) (.int .i64 2)).run Tryz.prog w = .ok z w := by kernel_rfl
theorem idx_le {l : List (List UInt8)} {x : List UInt8} : idx l x ≤ l.length := by
  unfold idx
  split
  · omega
  · omega
theorem grown_st8R (b : World) (s : Nat) (x0 x1 x2 x3 x4 x5 x6 x7 : Value) : b.grownBy ((((((((b.setCell ⟨s, 0, none⟩ x0).setCell ⟨s, 1, none⟩ x1).setCell ⟨s, 2, none⟩ x2).setCell ⟨s, 3, none⟩ x3).setCell ⟨s, 4, none⟩ x4).setCell ⟨s, 5, none⟩ x5).setCell ⟨s, 6, none⟩ x6).setCell ⟨s, 7, none⟩ x7) (some s) :=
  grown_trans (grown_trans (grown_trans (grown_trans (grown_trans (grown_trans (grown_trans (grown_set _ _ _ _) (grown_set _ _ _ _)) (grown_set _ _ _ _)) (grown_set _ _ _ _)) (grown_set _ _ _ _)) (grown_set _ _ _ _)) (grown_set _ _ _ _)) (grown_set _ _ _ _)
/-- Words, in memory. -/
def W0At (w : World) (b : Nat) (ws : List ByteArray) : Prop := ∀ (i : Nat) x, ws[i]? = some x → w.cell? ⟨b, i, none⟩ = some (.string x)
theorem read_short (b c : Nat) (ws : List ByteArray) (h : ws.length < 3) (w : World) :
    Calls Tryz.prog 28 #[.slice (some ⟨b, 0, none⟩) ws.length c] w fun e w' => rdE (readP (ws.map (·.data.toList))) e ∧ w.grownBy w' none := by
  have hn : readP (ws.map (·.data.toList)) = none := readP_short (by rw [List.length_map]; exact h)
  rw [hn]
  obtain ⟨n, hn⟩ : ∃ n, n = ws.length := ⟨_, rfl⟩
  rw [← hn] at h ⊢
  have hlt : (n : Int) < 3 := by omega
  clear hn
  go_enter Tryz.func28, Tryz.ntmps28
  go_wp2
  refine bodyPost_ret (v := .tuple #[.agg #[.int .u8 0, .int .u8 0, .int .u8 0, .int .i64 0, .int .u8 0, .int .u8 0, .int .u8 0, .string ⟨#[]⟩], .bool false]) (by simp [results, Tryz.results28, go_sem]) rfl ⟨?_, ?_⟩
  · exact ⟨Pt.none, rfl⟩
  · exact grown_push (World.grownBy_alloc _ _ _) _
set_option maxHeartbeats 8000000 in
set_option maxRecDepth 100000 in
theorem read_long (b : Nat) (x y z : ByteArray) (r : List ByteArray) (hsz : ∀ u ∈ x :: y :: z :: r, u.size ≤ 100) (hl : r.length ≤ 1000) (w : World) (L : LaidAt w) (hb : b < w.heap.size) (X : W0At w b (x :: y :: z :: r)) :
    Calls Tryz.prog 28 #[.slice (some ⟨b, 0, none⟩) (r.length + 3) (r.length + 3)] w fun e w' => rdE (readP (x.data.toList :: y.data.toList :: z.data.toList :: r.map (·.data.toList))) e ∧ w.grownBy w' none := by
  have HL : Hid (LaidAt w) := L
  have HX : Hid (W0At w b (x :: y :: z :: r)) := X
  obtain ⟨res, hres⟩ : ∃ res, res = readP (x.data.toList :: y.data.toList :: z.data.toList :: r.map (·.data.toList)) := ⟨_, rfl⟩
  have HR : Hid (res = readP (x.data.toList :: y.data.toList :: z.data.toList :: r.map (·.data.toList))) := hres
  rw [← hres]
  clear L X hres
  have hx := hsz x (by simp)
  have hy := hsz y (by simp)
  have hz := hsz z (by simp)
  obtain ⟨i0, e0⟩ : ∃ i0, i0 = idx whenW x.data.toList := ⟨_, rfl⟩
  obtain ⟨i1, e1⟩ : ∃ i1, i1 = idx verbW y.data.toList := ⟨_, rfl⟩
  obtain ⟨i2, e2⟩ : ∃ i2, i2 = idx whomW z.data.toList := ⟨_, rfl⟩
  have E0 : Hid (i0 = idx whenW x.data.toList) := e0
  have E1 : Hid (i1 = idx verbW y.data.toList) := e1
  have E2 : Hid (i2 = idx whomW z.data.toList) := e2
  have l0 : i0 ≤ whenW.length := by rw [e0]; exact idx_le
  have l1 : i1 ≤ verbW.length := by rw [e1]; exact idx_le
  have l2 : i2 ≤ whomW.length := by rw [e2]; exact idx_le
  clear e0 e1 e2
  obtain ⟨n, hn⟩ : ∃ n, n = r.length := ⟨_, rfl⟩
  have HN : Hid (n = r.length) := hn
  rw [← hn] at hl ⊢
  have h3 : ¬ (n : Int) + 3 < 3 := by omega
  clear hn
  have x0 := index0
  have x1 := index1
  have x2 := index2
  go_enter Tryz.func28, Tryz.ntmps28
  go_wp2_with fail
  have Za := (PAt.new w Pt.none).keep (World.grownBy_alloc _ (.cells #[.int .u8 0, .int .u8 0, .int .u8 0, .int .i64 0, .int .u8 0, .int .u8 0, .int .u8 0, .string ⟨#[]⟩] 29) none)
  have Aa : PAt ((w.alloc (.cells #[.int .u8 0, .int .u8 0, .int .u8 0, .int .i64 0, .int .u8 0, .int .u8 0, .int .u8 0, .string ⟨#[]⟩] 29)).alloc (.cells #[.int .u8 0, .int .u8 0, .int .u8 0, .int .i64 0, .int .u8 0, .int .u8 0, .int .u8 0, .string ⟨#[]⟩] 29)) (w.heap.size + 1) Pt.none := by
    have := alloc_at (w.alloc (.cells #[.int .u8 0, .int .u8 0, .int .u8 0, .int .i64 0, .int .u8 0, .int .u8 0, .int .u8 0, .string ⟨#[]⟩] 29)) #[.int .u8 0, .int .u8 0, .int .u8 0, .int .i64 0, .int .u8 0, .int .u8 0, .int .u8 0, .string ⟨#[]⟩] 29
    rw [World.size_alloc] at this
    exact this
  have Ga : w.grownBy ((w.alloc (.cells #[.int .u8 0, .int .u8 0, .int .u8 0, .int .i64 0, .int .u8 0, .int .u8 0, .int .u8 0, .string ⟨#[]⟩] 29)).alloc (.cells #[.int .u8 0, .int .u8 0, .int .u8 0, .int .i64 0, .int .u8 0, .int .u8 0, .int .u8 0, .string ⟨#[]⟩] 29)) none := grown_push (World.grownBy_alloc _ _ _) _
  refine (headSetters_any _).mono ?_
  rintro e W1 ⟨B0, B1, B2, rfl, H1, q0, q1, q2, g1⟩
  rw [World.size_alloc, World.size_alloc] at q0 q1 q2
  have A1 := Aa.keep g1
  have Z1 := Za.keep g1
  have G1 := grown_trans Ga g1
  clear Aa Za Ga g1
  go_wp2_with fail
  obtain ⟨q, hq⟩ : ∃ q, q = w.heap.size + 1 := ⟨_, rfl⟩
  have HQ : Hid (q = w.heap.size + 1) := hq
  rw [← hq] at A1 q0 q1 q2 ⊢
  have hqw : w.heap.size < q := by omega
  clear hq
  go_loopw [14] (fun t wr => ∃ i : Nat, i ≤ 3 ∧ t = .int .i64 i ∧ (1 ≤ i → ¬ i0 = 0) ∧ (2 ≤ i → ¬ i1 = 0) ∧ (3 ≤ i → ¬ i2 = 0) ∧ PAt wr q (hp i0 i1 i2 i) ∧ PAt wr w.heap.size Pt.none ∧ HeadsAt wr B0 B1 B2 ∧ w.grownBy wr none) (fun t _ => 3 - (intOf t).toNat)
  case atStart => exact ⟨0, by omega, rfl, by omega, by omega, by omega, A1, Z1, H1, G1⟩
  case round =>
    obtain ⟨i, hi, rfl, k0, k1, k2, A, Z, H, G⟩ := hrel
    clear A1 Z1 H1 G1
    have HA : Hid (PAt wr q (hp i0 i1 i2 i)) := A
    have HZ : Hid (PAt wr w.heap.size Pt.none) := Z
    have HH : Hid (HeadsAt wr B0 B1 B2) := H
    have HG : Hid (w.grownBy wr none) := G
    have hqs : q < wr.heap.size := block_lt A
    clear A Z H G
    rcases (show i = 0 ∨ i = 1 ∨ i = 2 ∨ i = 3 from by omega) with rfl | rfl | rfl | rfl
    · have cx : wr.cell? ⟨b, 0, none⟩ = some (.string x) := grown_cell HG.out (HX.out 0 x rfl) (by simp)
      have hlk := look_any HH.out.h0 whenW_ok.1 whenW_ok.2.1 x hx
      rw [← E0.out] at hlk
      by_cases hz0 : i0 = 0
      · rw [if_pos hz0] at hlk
        have HE : Hid (res = none) := by
          show _ = _
          rw [HR.out]
          exact readP_no (by rw [← E0.out, ← E1.out, ← E2.out]; exact (Or.inl) hz0)
        obtain ⟨c0, c1, c2, c3, c4, c5, c6, c7⟩ := HA.out.cells
        obtain ⟨z0, z1, z2, z3, z4, z5, z6, z7⟩ := HZ.out.cells
        have zf : ∀ i, wr.frozen? ⟨w.heap.size, i, none⟩ = false := block_free HZ.out
        simp only [Pt.none] at z0 z1 z2 z3 z4 z5 z6 z7
        clear hz0
        go_wp2
        refine bodyPost_ret (v := .tuple #[.agg #[.int .u8 (hp i0 i1 i2 0).wn, .int .u8 (hp i0 i1 i2 0).vb, .int .u8 (hp i0 i1 i2 0).wm, .int .i64 (hp i0 i1 i2 0).ct, .int .u8 (hp i0 i1 i2 0).su, .int .u8 (hp i0 i1 i2 0).tr, .int .u8 (hp i0 i1 i2 0).mr, .string (hp i0 i1 i2 0).nm], .bool false]) (by simp [results, Tryz.results28, go_sem, z0, z1, z2, z3, z4, z5, z6, z7]) rfl ⟨?_, ?_⟩
        · exact rdE_no HE.out (hp i0 i1 i2 0) rfl
        · exact grown_st8 HG.out (by omega) _ _ _ _ _ _ _ _
      · rw [if_neg hz0] at hlk
        unfold clo at hlk
        have HNZ : Hid (¬ i0 = 0) := hz0
        clear hz0
        go_wp2_with fail
        refine (clo0_any q B0 i0 whenW (Nat.pos_of_ne_zero HNZ.out) l0 whenW_ok.2.2 _ wr HH.out.h0 HA.out).mono ?_
        rintro e w3 ⟨rfl, A3, g3⟩
        have HA3 : Hid (PAt w3 q (hp i0 i1 i2 1)) := A3
        have HZ3 : Hid (PAt w3 w.heap.size Pt.none) := HZ.out.keepR g3 (by simp; omega)
        have HH3 : Hid (HeadsAt w3 B0 B1 B2) := ⟨HH.out.h0.keepR g3 (by omega), HH.out.h1.keepR g3 (by omega), HH.out.h2.keepR g3 (by omega)⟩
        have HG3 : Hid (w.grownBy w3 none) := grown_own HG.out g3 (fun _ e => by cases e; omega)
        clear A3 g3 hlk cx
        go_wp2
        go_roundw
        case rel => exact ⟨1, by omega, by go_num, fun _ => HNZ.out, by omega, by omega, HA3.out, HZ3.out, HH3.out, HG3.out⟩
        case measure => simp [intOf]
    · have cx : wr.cell? ⟨b, 1, none⟩ = some (.string y) := grown_cell HG.out (HX.out 1 y rfl) (by simp)
      have hlk := look_any HH.out.h1 verbW_ok.1 verbW_ok.2.1 y hy
      rw [← E1.out] at hlk
      by_cases hz0 : i1 = 0
      · rw [if_pos hz0] at hlk
        have HE : Hid (res = none) := by
          show _ = _
          rw [HR.out]
          exact readP_no (by rw [← E0.out, ← E1.out, ← E2.out]; exact (fun e => Or.inr (Or.inl e)) hz0)
        obtain ⟨c0, c1, c2, c3, c4, c5, c6, c7⟩ := HA.out.cells
        obtain ⟨z0, z1, z2, z3, z4, z5, z6, z7⟩ := HZ.out.cells
        have zf : ∀ i, wr.frozen? ⟨w.heap.size, i, none⟩ = false := block_free HZ.out
        simp only [Pt.none] at z0 z1 z2 z3 z4 z5 z6 z7
        clear hz0
        go_wp2
        refine bodyPost_ret (v := .tuple #[.agg #[.int .u8 (hp i0 i1 i2 1).wn, .int .u8 (hp i0 i1 i2 1).vb, .int .u8 (hp i0 i1 i2 1).wm, .int .i64 (hp i0 i1 i2 1).ct, .int .u8 (hp i0 i1 i2 1).su, .int .u8 (hp i0 i1 i2 1).tr, .int .u8 (hp i0 i1 i2 1).mr, .string (hp i0 i1 i2 1).nm], .bool false]) (by simp [results, Tryz.results28, go_sem, z0, z1, z2, z3, z4, z5, z6, z7]) rfl ⟨?_, ?_⟩
        · exact rdE_no HE.out (hp i0 i1 i2 1) rfl
        · exact grown_st8 HG.out (by omega) _ _ _ _ _ _ _ _
      · rw [if_neg hz0] at hlk
        unfold clo at hlk
        have HNZ : Hid (¬ i1 = 0) := hz0
        clear hz0
        go_wp2_with fail
        refine (clo1_any q B1 i1 verbW (Nat.pos_of_ne_zero HNZ.out) l1 verbW_ok.2.2 _ wr HH.out.h1 HA.out).mono ?_
        rintro e w3 ⟨rfl, A3, g3⟩
        have HA3 : Hid (PAt w3 q (hp i0 i1 i2 2)) := A3
        have HZ3 : Hid (PAt w3 w.heap.size Pt.none) := HZ.out.keepR g3 (by simp; omega)
        have HH3 : Hid (HeadsAt w3 B0 B1 B2) := ⟨HH.out.h0.keepR g3 (by omega), HH.out.h1.keepR g3 (by omega), HH.out.h2.keepR g3 (by omega)⟩
        have HG3 : Hid (w.grownBy w3 none) := grown_own HG.out g3 (fun _ e => by cases e; omega)
        clear A3 g3 hlk cx
        go_wp2
        go_roundw
        case rel => exact ⟨2, by omega, by go_num, fun _ => k0 (by omega), fun _ => HNZ.out, by omega, HA3.out, HZ3.out, HH3.out, HG3.out⟩
        case measure => simp [intOf]
    · have cx : wr.cell? ⟨b, 2, none⟩ = some (.string z) := grown_cell HG.out (HX.out 2 z rfl) (by simp)
      have hlk := look_any HH.out.h2 whomW_ok.1 whomW_ok.2.1 z hz
      rw [← E2.out] at hlk
      by_cases hz0 : i2 = 0
      · rw [if_pos hz0] at hlk
        have HE : Hid (res = none) := by
          show _ = _
          rw [HR.out]
          exact readP_no (by rw [← E0.out, ← E1.out, ← E2.out]; exact (fun e => Or.inr (Or.inr e)) hz0)
        obtain ⟨c0, c1, c2, c3, c4, c5, c6, c7⟩ := HA.out.cells
        obtain ⟨z0, z1, z2, z3, z4, z5, z6, z7⟩ := HZ.out.cells
        have zf : ∀ i, wr.frozen? ⟨w.heap.size, i, none⟩ = false := block_free HZ.out
        simp only [Pt.none] at z0 z1 z2 z3 z4 z5 z6 z7
        clear hz0
        go_wp2
        refine bodyPost_ret (v := .tuple #[.agg #[.int .u8 (hp i0 i1 i2 2).wn, .int .u8 (hp i0 i1 i2 2).vb, .int .u8 (hp i0 i1 i2 2).wm, .int .i64 (hp i0 i1 i2 2).ct, .int .u8 (hp i0 i1 i2 2).su, .int .u8 (hp i0 i1 i2 2).tr, .int .u8 (hp i0 i1 i2 2).mr, .string (hp i0 i1 i2 2).nm], .bool false]) (by simp [results, Tryz.results28, go_sem, z0, z1, z2, z3, z4, z5, z6, z7]) rfl ⟨?_, ?_⟩
        · exact rdE_no HE.out (hp i0 i1 i2 2) rfl
        · exact grown_st8 HG.out (by omega) _ _ _ _ _ _ _ _
      · rw [if_neg hz0] at hlk
        unfold clo at hlk
        have HNZ : Hid (¬ i2 = 0) := hz0
        clear hz0
        go_wp2_with fail
        refine (clo2_any q B2 i2 whomW (Nat.pos_of_ne_zero HNZ.out) l2 whomW_ok.2.2 _ wr HH.out.h2 HA.out).mono ?_
        rintro e w3 ⟨rfl, A3, g3⟩
        have HA3 : Hid (PAt w3 q (hp i0 i1 i2 3)) := A3
        have HZ3 : Hid (PAt w3 w.heap.size Pt.none) := HZ.out.keepR g3 (by simp; omega)
        have HH3 : Hid (HeadsAt w3 B0 B1 B2) := ⟨HH.out.h0.keepR g3 (by omega), HH.out.h1.keepR g3 (by omega), HH.out.h2.keepR g3 (by omega)⟩
        have HG3 : Hid (w.grownBy w3 none) := grown_own HG.out g3 (fun _ e => by cases e; omega)
        clear A3 g3 hlk cx
        go_wp2
        go_roundw
        case rel => exact ⟨3, by omega, by go_num, fun _ => k0 (by omega), fun _ => k1 (by omega), fun _ => HNZ.out, HA3.out, HZ3.out, HH3.out, HG3.out⟩
        case measure => simp [intOf]
    · have HE : Hid (res = rdF (kinds i1 i2) (r.map (·.data.toList)) (hp i0 i1 i2 3)) := by
        show _ = _
        have n0 := k0 (by omega)
        have n1 := k1 (by omega)
        have n2 := k2 (by omega)
        rw [HR.out, readP_go (by rw [← E0.out, ← E1.out, ← E2.out]; omega), ← E0.out, ← E1.out, ← E2.out]
      have HW : Hid (WAt wr b r) := fun i u hu => by
        rw [Nat.add_comm]
        exact grown_cell HG.out (HX.out (i + 3) u hu) (by simp)
      have hbw : b < wr.heap.size := Nat.lt_of_lt_of_le hb HG.out.size
      have hrz : ∀ u ∈ r, u.size ≤ 100 := fun u hu => hsz u (by simp [hu])
      have hrl : r.length ≤ 1000 := by rw [← HN.out]; exact hl
      have HC : Hid (∀ W, wr.grownBy W none → Calls Tryz.prog 62 #[pv (hp i0 i1 i2 3), .slice (if n = 0 then some ⟨b, 0, none⟩ else some ⟨b, 3, none⟩) n n] W fun e w' => rdE res e ∧ W.grownBy w' none) := fun W g => by
        have h := readFields_any (hp i0 i1 i2 3) b n (if n = 0 then some ⟨b, 0, none⟩ else some ⟨b, 3, none⟩) r (fun hp => if_neg (by rw [HN.out]; omega)) hrz hrl W (HL.out.keep (grown_trans HG.out g)) (Nat.lt_of_lt_of_le hbw g.size) (HW.out.keep g (by simp))
        rw [← HN.out] at h
        rw [HE.out]
        exact h
      have h33 : (3 : Int) ≤ (n : Int) + 3 := by omega
      clear HW hrz hrl HE x0 x1 x2 k0 k1 k2
      have S0 := (HA.out.keep (grown_drew wr)).cells
      have hqne : some w.heap.size ≠ some q := by simp; omega
      cases res with
      | none =>
        go_wp2_with fail
        go_region_held3 (fun w' => w'.cell? ⟨q, 0, none⟩ = some (.int .u8 (hp i0 i1 i2 3).wn) ∧ w'.cell? ⟨q, 1, none⟩ = some (.int .u8 (hp i0 i1 i2 3).vb) ∧ w'.cell? ⟨q, 2, none⟩ = some (.int .u8 (hp i0 i1 i2 3).wm) ∧ w'.cell? ⟨q, 3, none⟩ = some (.int .i64 (hp i0 i1 i2 3).ct) ∧ w'.cell? ⟨q, 4, none⟩ = some (.int .u8 (hp i0 i1 i2 3).su) ∧ w'.cell? ⟨q, 5, none⟩ = some (.int .u8 (hp i0 i1 i2 3).tr) ∧ w'.cell? ⟨q, 6, none⟩ = some (.int .u8 (hp i0 i1 i2 3).mr) ∧ w'.cell? ⟨q, 7, none⟩ = some (.string (hp i0 i1 i2 3).nm)) (first | with_reducible exact S0 | with_reducible exact S3 | with_reducible exact (A3.keepR (grown_st8R _ _ _ _ _ _ _ _ _ _) hqne).cells) ((go_at_call 62; refine (HC.out _ (grown_drew _)).mono ?_; rintro e w3 ⟨⟨p2, rfl⟩, g3⟩; have A3 := HA.out.keep (grown_trans (grown_drew _) g3); have S3 := A3.cells; have Z3 := HZ.out.keep (grown_trans (grown_drew _) g3); obtain ⟨z0, z1, z2, z3, z4, z5, z6, z7⟩ := Z3.cells; have zf : ∀ i, w3.frozen? ⟨w.heap.size, i, none⟩ = false := block_free Z3; simp only [Pt.none] at z0 z1 z2 z3 z4 z5 z6 z7; simp only [pv]))
        have HG3 : Hid (w.grownBy w3 none) := grown_trans HG.out (grown_trans (grown_drew _) g3)
        go_wp2
        all_goals
          refine bodyPost_ret (v := .tuple #[.agg #[.int .u8 (p2).wn, .int .u8 (p2).vb, .int .u8 (p2).wm, .int .i64 (p2).ct, .int .u8 (p2).su, .int .u8 (p2).tr, .int .u8 (p2).mr, .string (p2).nm], .bool false]) (by simp [results, Tryz.results28, go_sem, z0, z1, z2, z3, z4, z5, z6, z7]) rfl ⟨?_, ?_⟩
          · exact ⟨p2, rfl⟩
          · exact grown_st8 HG3.out (by omega) _ _ _ _ _ _ _ _
      | some p2 =>
        go_wp2_with fail
        go_region_held3 (fun w' => w'.cell? ⟨q, 0, none⟩ = some (.int .u8 (hp i0 i1 i2 3).wn) ∧ w'.cell? ⟨q, 1, none⟩ = some (.int .u8 (hp i0 i1 i2 3).vb) ∧ w'.cell? ⟨q, 2, none⟩ = some (.int .u8 (hp i0 i1 i2 3).wm) ∧ w'.cell? ⟨q, 3, none⟩ = some (.int .i64 (hp i0 i1 i2 3).ct) ∧ w'.cell? ⟨q, 4, none⟩ = some (.int .u8 (hp i0 i1 i2 3).su) ∧ w'.cell? ⟨q, 5, none⟩ = some (.int .u8 (hp i0 i1 i2 3).tr) ∧ w'.cell? ⟨q, 6, none⟩ = some (.int .u8 (hp i0 i1 i2 3).mr) ∧ w'.cell? ⟨q, 7, none⟩ = some (.string (hp i0 i1 i2 3).nm)) (first | with_reducible exact S0 | with_reducible exact S3 | with_reducible exact (A3.keepR (grown_st8R _ _ _ _ _ _ _ _ _ _) hqne).cells) ((go_at_call 62; refine (HC.out _ (grown_drew _)).mono ?_; rintro e w3 ⟨he, g3⟩; simp only [rdE] at he; subst he; have A3 := HA.out.keep (grown_trans (grown_drew _) g3); have S3 := A3.cells; have Z3 := HZ.out.keep (grown_trans (grown_drew _) g3); obtain ⟨z0, z1, z2, z3, z4, z5, z6, z7⟩ := Z3.cells; have zf : ∀ i, w3.frozen? ⟨w.heap.size, i, none⟩ = false := block_free Z3; simp only [Pt.none] at z0 z1 z2 z3 z4 z5 z6 z7; simp only [pv]))
        have HG3 : Hid (w.grownBy w3 none) := grown_trans HG.out (grown_trans (grown_drew _) g3)
        go_wp2
        all_goals
          refine bodyPost_ret (v := .tuple #[.agg #[.int .u8 (p2).wn, .int .u8 (p2).vb, .int .u8 (p2).wm, .int .i64 (p2).ct, .int .u8 (p2).su, .int .u8 (p2).tr, .int .u8 (p2).mr, .string (p2).nm], .bool true]) (by simp [results, Tryz.results28, go_sem, z0, z1, z2, z3, z4, z5, z6, z7]) rfl ⟨?_, ?_⟩
          · rfl
          · exact grown_st8 HG3.out (by omega) _ _ _ _ _ _ _ _
end Go.Proofs.YtpceelbphpfciaaGreatDoor
