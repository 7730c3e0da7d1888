/-
  added: a book, filled in an order.
-/
import Derived.Test.YtmepidalecdmkaaFil
import Derived.OwnWalk
namespace Go.Proofs.Ytmepidalecdmkaa
open Go.RowKit

/-- Where a list of numbers lies. -/
def IntsIn (w : World) (v : Value) (os : List Int) : Prop := ∃ a k, v = .slice a os.length k ∧ (0 < os.length → ∃ g o, a = some ⟨g, o, none⟩ ∧ ∀ (j : Nat) x, os[j]? = some x → w.cell? ⟨g, o + j, none⟩ = some (.int .i64 x))
theorem one_w5 {i c d : Nat} (h : d = i - c) (h1 : c ≤ i) (h2 : i < 900) : wrap64 ((i : Int) - (c : Int)) = (d : Int) := by
  rw [w64_of ((i : Int) - (c : Int)) (by omega) (by omega)]; omega
set_option maxRecDepth 100000 in
set_option maxHeartbeats 4000000 in
theorem added_any (vc vt vm vo : Value) (cs : List Ent) (ts : List ByteArray) (ms : List Mk) (os : List Int) (w : World) (F : FillAt w vc vt vm cs ts ms) (O : IntsIn w vo os) (hc : cs.length ≤ 80) (ht : ts.length ≤ 8) (hm : ms.length ≤ 8) (ho : os.length ≤ 400) : Calls Try.prog 8 #[fv vc vt vm, vo] w fun e w' => ∃ (l : List Nat) (es : List Ent) (p : Pl) (r : Nat), e = .returned (.tuple #[.pointer (some ⟨w.heap.size + 1, 0, none⟩), .int .i64 (r : Int)]) ∧ Fil cs ts ms l es p r ∧ (∀ i, i < many cs ts ms → i ∈ l) ∧ Book (fun k => w.heap.size + 1 + 1 < k) w' (w.heap.size + 1) es p ∧ w.grownBy w' none := by
  obtain ⟨ok, hok⟩ : ∃ ok : Nat → Prop, ok = fun k => w.heap.size + 1 + 1 < k := ⟨_, rfl⟩
  rw [← hok]
  have nb : ¬ ok (w.heap.size + 1) := by rw [hok]; simp
  have nd : ¬ ok (w.heap.size + 1 + 1) := by rw [hok]; simp
  have nw : ∀ W : World, w.heap.size + 1 + 1 < W.heap.size → ∀ k, W.heap.size ≤ k → ok k := fun W h k hk => by rw [hok]; simp; omega
  clear hok
  have HF : Hid (FillAt w vc vt vm cs ts ms) := F
  obtain ⟨⟨ca, ck, rfl, _⟩, ⟨ta, tk, rfl, _⟩, ⟨ma, mk', rfl, _⟩, _⟩ := F
  obtain ⟨oa, okk, rfl, HO⟩ := O
  obtain ⟨W1, hW1⟩ : ∃ W1, W1 = w.alloc (.cells #[.slice ca cs.length ck, .slice ta ts.length tk, .slice ma ms.length mk'] 26) := ⟨_, rfl⟩
  have HG1 : Hid (w.grownBy W1 none) := by rw [hW1]; exact World.grownBy_alloc _ _ none
  have A1 : Hid (W1.heap[w.heap.size]? = some (.cells #[.slice ca cs.length ck, .slice ta ts.length tk, .slice ma ms.length mk'] 26 (0, 0))) := by rw [hW1]; exact alloc_at w _ _
  have S1 : W1.heap.size = w.heap.size + 1 := by rw [hW1, World.size_alloc]
  obtain ⟨n, hn⟩ : ∃ n, n = cs.length + ts.length + ms.length := ⟨_, rfl⟩
  have n96 : n ≤ 96 := by omega
  unfold fv
  obtain ⟨i0, hi, hz0, hz1, hz2⟩ := info_parts (P := Try.prog) (e := 4) (z := .bool false) (size := 1) (bytes := 1) (by kernel_rfl)
  go_enter Try.func8, Try.ntmps8
  go_upto_region 1 with fail
  rw [← hW1]
  clear hW1
  go_wp2_with fail
  refine (bnew ok W1).mono ?_
  rw [S1]
  rintro e W2 ⟨rfl, B2, g2, s2⟩
  have A2 := grown_keep g2 A1.out (by simp)
  have a0 : W2.cell? ⟨w.heap.size, 0, none⟩ = some (.slice ca cs.length ck) := block_cell A2 0
  have a1 : W2.cell? ⟨w.heap.size, 1, none⟩ = some (.slice ta ts.length tk) := block_cell A2 1
  have a2 : W2.cell? ⟨w.heap.size, 2, none⟩ = some (.slice ma ms.length mk') := block_cell A2 2
  have HG2 : Hid (w.grownBy W2 none) := grown_trans HG1.out g2
  have HA2 : Hid (W2.heap[w.heap.size]? = some (.cells #[.slice ca cs.length ck, .slice ta ts.length tk, .slice ma ms.length mk'] 26 (0, 0))) := A2
  have HB2 : Hid (Book ok W2 (w.heap.size + 1) [] plNew) := B2
  clear A1 A2 g2 HG1 B2
  go_upto_region 3 with fail
  have mn : (cs.length : Int) + (ts.length : Int) + (ms.length : Int) = (n : Int) := by omega
  rw [mn]
  have Hn : Hid (n = cs.length + ts.length + ms.length) := hn
  clear mn a0 a1 a2 hn
  go_wp2_with (at_make; refine wpList_make_full _ rfl _ _ 88 rfl W2.heap.size 4 i0 (.bool false) 1 Try.underlying88 hi hz0 hz1 .i64 .i64 _ _ n rfl rfl rfl rfl (by rw [hz2]; omega) (Nat.le_trans n96 (by decide)) (Nat.le_refl _) ?_; intro V o1 gv; have D1 := DnAt.made o1; have HV : Hid (W2.grownBy V none) := gv; clear o1 gv)
  have B3 := HB2.out.keep HV.out
  have HG3 : Hid (w.grownBy V none) := grown_trans HG2.out HV.out
  have HD3 : Hid (DnAt V (w.heap.size + 1 + 1) (w.heap.size + 1 + 1) n []) := by have := D1; rw [s2] at this; exact this
  have HB3 : Hid (Book ok V (w.heap.size + 1) [] plNew) := B3
  have HA3 : Hid (V.heap[w.heap.size]? = some (.cells #[.slice ca cs.length ck, .slice ta ts.length tk, .slice ma ms.length mk'] 26 (0, 0))) := grown_keep HV.out HA2.out (by simp)
  clear B3 D1 HB2 HG2 HA2 HV
  have hsm : Small (os.length + n) := by unfold Small; omega
  go_loopw [9, 10] (fun x9 x10 wr => ∃ (k r : Nat) (l : List Nat) (es : List Ent) (p : Pl), k ≤ os.length + n ∧ x10 = .int .i64 k ∧ x9 = .int .i64 r ∧ r ≤ k ∧ Fil cs ts ms l es p r ∧ (∀ j, j + os.length < k → j ∈ l) ∧ Book ok wr (w.heap.size + 1) es p ∧ DnAt wr (w.heap.size + 1 + 1) (w.heap.size + 1 + 1) n l ∧ wr.heap[w.heap.size]? = some (.cells #[.slice ca cs.length ck, .slice ta ts.length tk, .slice ma ms.length mk'] 26 (0, 0)) ∧ w.grownBy wr none) (fun _ x10 _ => os.length + n - (intOf x10).toNat)
  case atStart => exact ⟨0, 0, [], [], plNew, Nat.zero_le _, rfl, rfl, Nat.zero_le _, Fil.nil, fun j hj => absurd hj (by omega), HB3.out, HD3.out, HA3.out, HG3.out⟩
  case round =>
    obtain ⟨k, r, l, es, p, hk, rfl, rfl, hrk, Fl, N, B, D, A, G⟩ := hrel
    have HFl : Hid (Fil cs ts ms l es p r) := Fl
    have HB : Hid (Book ok wr (w.heap.size + 1) es p) := B
    have HD : Hid (DnAt wr (w.heap.size + 1 + 1) (w.heap.size + 1 + 1) n l) := D
    have HA : Hid (wr.heap[w.heap.size]? = some (.cells #[.slice ca cs.length ck, .slice ta ts.length tk, .slice ma ms.length mk'] 26 (0, 0))) := A
    have HG : Hid (w.grownBy wr none) := G
    have HN0 : Hid (∀ j, j + os.length < k → j ∈ l) := N
    clear Fl B D A G N HB3 HD3 HA3 HG3
    rcases (show k = os.length + n ∨ k < os.length + n from by omega) with hke | hlt
    · have HNe : Hid (∀ j, j < many cs ts ms → j ∈ l) := fun j hj => HN0.out j (by have := Hn.out; unfold many at hj; omega)
      have kk : (k : Int) = (os.length : Int) + (n : Int) := by omega
      rw [kk]
      clear kk
      go_wp2
      refine bodyPost_ret (v := .tuple #[.pointer (some ⟨w.heap.size + 1, 0, none⟩), .int .i64 (r : Int)]) (by simp [results, Try.results8, go_sem]) rfl ⟨l, es, p, r, rfl, HFl.out, HNe.out, HB.out, HG.out⟩
    · have kl : (k : Int) < (os.length : Int) + (n : Int) := by omega
      have k0 : (0 : Int) ≤ (k : Int) := by omega
      rcases (show k < os.length ∨ os.length ≤ k from by omega) with hko | hko
      · have ko : (k : Int) < (os.length : Int) := by omega
        obtain ⟨g, o, rfl, HOc⟩ := HO (by omega)
        obtain ⟨x, hx⟩ : ∃ x, os[k]? = some x := ⟨_, List.getElem?_eq_getElem hko⟩
        have cx := HG.out.cell (HOc k x hx) (by simp)
        rcases (show n = 0 ∨ 0 < n from by omega) with hz | hz
        · have HN2 : Hid (∀ j, j + os.length < k + 1 → j ∈ l) := fun j hj => absurd hj (by omega)
          have nz : (n : Int) = 0 := by omega
          have nzb : ((n : Int) == 0) = true := by simpa using nz
          go_wp2_with fail
          go_roundw
          case rel => exact ⟨k + 1, r, l, es, p, hlt, by first | rfl | (rw [hsm.wrap hlt]; rfl), rfl, by omega, HFl.out, HN2.out, HB.out, HD.out, HA.out, HG.out⟩
          case measure => first | exact meas_next hlt | (rw [hsm.wrap hlt]; exact meas_next hlt)
        · have nzb : ((n : Int) == 0) = false := by simpa using (show ¬ (n : Int) = 0 by omega)
          go_wp2_with fail
          refine (pick_any x n wr hz (Nat.le_trans n96 (by decide))).mono ?_
          rintro e w5 ⟨⟨ix, hI, rfl⟩, h5⟩
          obtain rfl : wr = w5 := h5.symm
          have HN : Hid (∀ j, j + os.length < k + 1 → j ∈ l ∨ j = ix) := fun j hj => absurd hj (by omega)
          clear HN0 HOc hx cx HO
          have HIi : Hid (ix < cs.length + ts.length + ms.length) := by have := hI; rw [Hn.out] at this; exact this
          have x0 : (0 : Int) ≤ (ix : Int) := by omega
          have x1 : (ix : Int) < (n : Int) := by omega
          have y0 : (0 : Int) ≤ (r : Int) := by omega
          have y1 : (r : Int) < 1000 := by omega
          have hk2 : k < os.length + n := hlt
          have hne : some w.heap.size ≠ some (w.heap.size + 1 + 1) := by simp; omega
          have hr1 : r ≤ k + 1 := by omega
          have hr2 : r + 1 ≤ k + 1 := by omega
          rcases Classical.em (ix ∈ l) with hin | hin
          · have c1 := HD.out.cell (i := ix) hI
            rw [decide_eq_true hin] at c1
            have HN2 : Hid (∀ j, j + os.length < k + 1 → j ∈ l) := fun j hj => (HN.out j hj).elim id (fun e => e ▸ hin)
            go_wp2_with fail
            go_roundw
            case rel => exact ⟨k + 1, r, l, es, p, hk2, by first | rfl | (rw [hsm.wrap hk2]; rfl), rfl, hr1, HFl.out, HN2.out, HB.out, HD.out, HA.out, HG.out⟩
            case measure => first | exact meas_next hk2 | (rw [hsm.wrap hk2]; exact meas_next hk2)
          · have c1 := HD.out.cell (i := ix) hI
            rw [decide_eq_false hin] at c1
            have f1 := HD.out.free ix
            obtain ⟨W3, hW3⟩ : ∃ W3, W3 = wr.setCell ⟨w.heap.size + 1 + 1, ix, none⟩ (.bool true) := ⟨_, rfl⟩
            have P3 := HD.out.put (i := ix) hI
            rw [← hW3] at P3
            obtain ⟨D3, g3⟩ := P3
            have HD3 : Hid (DnAt W3 (w.heap.size + 1 + 1) (w.heap.size + 1 + 1) n (ix :: l)) := D3
            have HG3 : Hid (w.grownBy W3 none) := grown_own HG.out g3 (fun x e => by cases e; exact Nat.le_trans (Nat.le_succ _) (Nat.le_succ _))
            have B3 := HB.out.keepR g3 (by simp) (fun k hk e => by cases e; exact nd hk)
            have A3 := grown_keep g3 HA.out hne
            have a0 : W3.cell? ⟨w.heap.size, 0, none⟩ = some (.slice ca cs.length ck) := block_cell A3 0
            have a1 : W3.cell? ⟨w.heap.size, 1, none⟩ = some (.slice ta ts.length tk) := block_cell A3 1
            have a2 : W3.cell? ⟨w.heap.size, 2, none⟩ = some (.slice ma ms.length mk') := block_cell A3 2
            have HA3 : Hid (W3.heap[w.heap.size]? = some (.cells #[.slice ca cs.length ck, .slice ta ts.length tk, .slice ma ms.length mk'] 26 (0, 0))) := A3
            have HC := one_any ok (w.heap.size + 1) es p _ _ _ cs ts ms ix W3 B3 nb (nw W3 (World.ownsRow.lt D3 _ rfl).2) (HF.out.keep HG3.out) hc ht hm HIi.out
            have HST : Hid (∀ u, Fil cs ts ms (ix :: l) (oneEs p es cs u ix) (oneP p cs ts ms ix) (r + if oneE p es cs ts ms ix = 0 then 0 else 1)) := fun u => Fil.step ix u HFl.out hin HIi.out
            obtain ⟨E, hE⟩ : ∃ E, E = oneE p es cs ts ms ix := ⟨_, rfl⟩
            rw [← hE] at HC
            unfold fv at HC
            have HN2 : Hid (∀ j, j + os.length < k + 1 → j ∈ ix :: l) := fun j hj => (HN.out j hj).elim (fun h => List.mem_cons_of_mem _ h) (fun e => e ▸ List.mem_cons_self)
            clear D3 g3 B3 A3 HA HD HB HFl HN HG hrk hI HIi
            by_cases h0 : E = 0
            · subst h0
              have HS0 : Hid (∀ u, Fil cs ts ms (ix :: l) (oneEs p es cs u ix) (oneP p cs ts ms ix) r) := fun u => by have := HST.out u; rw [if_pos hE.symm] at this; exact this
              clear HST hE
              go_upto_region 14 with fail
              rw [← hW3]
              clear hW3
              go_wp2_with fail
              refine HC.mono ?_
              rintro e W4 ⟨u, rfl, B4, g4⟩
              have HB4 : Hid (Book ok W4 (w.heap.size + 1) (oneEs p es cs u ix) (oneP p cs ts ms ix)) := B4
              have HD4 : Hid (DnAt W4 (w.heap.size + 1 + 1) (w.heap.size + 1 + 1) n (ix :: l)) := HD3.out.keepR g4 (by simp)
              have HA4 := grown_keep g4 HA3.out (by simp)
              have HG4 : Hid (w.grownBy W4 none) := grown_own HG3.out g4 (fun x e => by cases e; exact Nat.le_succ _)
              clear B4 g4 a0 a1 a2 HC
              go_wp2_with fail
              go_roundw
              case rel => exact ⟨k + 1, r, ix :: l, _, _, hk2, by first | rfl | (rw [hsm.wrap hk2]; rfl), rfl, hr1, HS0.out u, HN2.out, HB4.out, HD4.out, HA4, HG4.out⟩
              case measure => first | exact meas_next hk2 | (rw [hsm.wrap hk2]; exact meas_next hk2)
            · have HS0 : Hid (∀ u, Fil cs ts ms (ix :: l) (oneEs p es cs u ix) (oneP p cs ts ms ix) (r + 1)) := fun u => by have := HST.out u; rw [if_neg (fun e => h0 (hE.trans e))] at this; exact this
              have h0b : (E == 0) = false := by simpa using h0
              have h0n : (E != 0) = true := by simpa using h0
              clear HST hE
              go_upto_region 14 with fail
              rw [← hW3]
              clear hW3
              go_wp2_with fail
              refine HC.mono ?_
              rintro e W4 ⟨u, rfl, B4, g4⟩
              have HB4 : Hid (Book ok W4 (w.heap.size + 1) (oneEs p es cs u ix) (oneP p cs ts ms ix)) := B4
              have HD4 : Hid (DnAt W4 (w.heap.size + 1 + 1) (w.heap.size + 1 + 1) n (ix :: l)) := HD3.out.keepR g4 (by simp)
              have HA4 := grown_keep g4 HA3.out (by simp)
              have HG4 : Hid (w.grownBy W4 none) := grown_own HG3.out g4 (fun x e => by cases e; exact Nat.le_succ _)
              clear B4 g4 a0 a1 a2 HC
              go_wp2_with fail
              go_roundw
              case rel => exact ⟨k + 1, r + 1, ix :: l, _, _, hk2, by first | rfl | (rw [hsm.wrap hk2]; rfl), by first | rfl | (congr 1), hr2, HS0.out u, HN2.out, HB4.out, HD4.out, HA4, HG4.out⟩
              case measure => first | exact meas_next hk2 | (rw [hsm.wrap hk2]; exact meas_next hk2)
      · have ko : ¬ (k : Int) < (os.length : Int) := by omega
        obtain ⟨ix, hix⟩ : ∃ ix, ix = k - os.length := ⟨_, rfl⟩
        have hI : ix < n := by omega
        have HN : Hid (∀ j, j + os.length < k + 1 → j ∈ l ∨ j = ix) := fun j hj => (show j + os.length < k ∨ j = ix from by omega).elim (fun h => Or.inl (HN0.out j h)) Or.inr
        have HW : Hid (wrap64 ((k : Int) - (os.length : Int)) = (ix : Int)) := one_w5 hix hko (by omega)
        have HW2 : Hid ((k : Int) - (os.length : Int) = (ix : Int)) := by show (k : Int) - (os.length : Int) = (ix : Int); omega
        clear HN0 HO hix
        have HIi : Hid (ix < cs.length + ts.length + ms.length) := by have := hI; rw [Hn.out] at this; exact this
        have x0 : (0 : Int) ≤ (ix : Int) := by omega
        have x1 : (ix : Int) < (n : Int) := by omega
        have y0 : (0 : Int) ≤ (r : Int) := by omega
        have y1 : (r : Int) < 1000 := by omega
        have hk2 : k < os.length + n := hlt
        have hne : some w.heap.size ≠ some (w.heap.size + 1 + 1) := by simp; omega
        have hr1 : r ≤ k + 1 := by omega
        have hr2 : r + 1 ≤ k + 1 := by omega
        have wi := HW.out
        have wi2 := HW2.out
        rcases Classical.em (ix ∈ l) with hin | hin
        · have c1 := HD.out.cell (i := ix) hI
          rw [decide_eq_true hin] at c1
          have HN2 : Hid (∀ j, j + os.length < k + 1 → j ∈ l) := fun j hj => (HN.out j hj).elim id (fun e => e ▸ hin)
          go_wp2_with fail
          go_roundw
          case rel => exact ⟨k + 1, r, l, es, p, hk2, by first | rfl | (rw [hsm.wrap hk2]; rfl), rfl, hr1, HFl.out, HN2.out, HB.out, HD.out, HA.out, HG.out⟩
          case measure => first | exact meas_next hk2 | (rw [hsm.wrap hk2]; exact meas_next hk2)
        · have c1 := HD.out.cell (i := ix) hI
          rw [decide_eq_false hin] at c1
          have f1 := HD.out.free ix
          obtain ⟨W3, hW3⟩ : ∃ W3, W3 = wr.setCell ⟨w.heap.size + 1 + 1, ix, none⟩ (.bool true) := ⟨_, rfl⟩
          have P3 := HD.out.put (i := ix) hI
          rw [← hW3] at P3
          obtain ⟨D3, g3⟩ := P3
          have HD3 : Hid (DnAt W3 (w.heap.size + 1 + 1) (w.heap.size + 1 + 1) n (ix :: l)) := D3
          have HG3 : Hid (w.grownBy W3 none) := grown_own HG.out g3 (fun x e => by cases e; exact Nat.le_trans (Nat.le_succ _) (Nat.le_succ _))
          have B3 := HB.out.keepR g3 (by simp) (fun k hk e => by cases e; exact nd hk)
          have A3 := grown_keep g3 HA.out hne
          have a0 : W3.cell? ⟨w.heap.size, 0, none⟩ = some (.slice ca cs.length ck) := block_cell A3 0
          have a1 : W3.cell? ⟨w.heap.size, 1, none⟩ = some (.slice ta ts.length tk) := block_cell A3 1
          have a2 : W3.cell? ⟨w.heap.size, 2, none⟩ = some (.slice ma ms.length mk') := block_cell A3 2
          have HA3 : Hid (W3.heap[w.heap.size]? = some (.cells #[.slice ca cs.length ck, .slice ta ts.length tk, .slice ma ms.length mk'] 26 (0, 0))) := A3
          have HC := one_any ok (w.heap.size + 1) es p _ _ _ cs ts ms ix W3 B3 nb (nw W3 (World.ownsRow.lt D3 _ rfl).2) (HF.out.keep HG3.out) hc ht hm HIi.out
          have HST : Hid (∀ u, Fil cs ts ms (ix :: l) (oneEs p es cs u ix) (oneP p cs ts ms ix) (r + if oneE p es cs ts ms ix = 0 then 0 else 1)) := fun u => Fil.step ix u HFl.out hin HIi.out
          obtain ⟨E, hE⟩ : ∃ E, E = oneE p es cs ts ms ix := ⟨_, rfl⟩
          rw [← hE] at HC
          unfold fv at HC
          have HN2 : Hid (∀ j, j + os.length < k + 1 → j ∈ ix :: l) := fun j hj => (HN.out j hj).elim (fun h => List.mem_cons_of_mem _ h) (fun e => e ▸ List.mem_cons_self)
          clear D3 g3 B3 A3 HA HD HB HFl HN HG hrk hI HIi
          by_cases h0 : E = 0
          · subst h0
            have HS0 : Hid (∀ u, Fil cs ts ms (ix :: l) (oneEs p es cs u ix) (oneP p cs ts ms ix) r) := fun u => by have := HST.out u; rw [if_pos hE.symm] at this; exact this
            clear HST hE
            go_upto_region 14 with fail
            rw [← hW3]
            clear hW3
            go_wp2_with fail
            refine HC.mono ?_
            rintro e W4 ⟨u, rfl, B4, g4⟩
            have HB4 : Hid (Book ok W4 (w.heap.size + 1) (oneEs p es cs u ix) (oneP p cs ts ms ix)) := B4
            have HD4 : Hid (DnAt W4 (w.heap.size + 1 + 1) (w.heap.size + 1 + 1) n (ix :: l)) := HD3.out.keepR g4 (by simp)
            have HA4 := grown_keep g4 HA3.out (by simp)
            have HG4 : Hid (w.grownBy W4 none) := grown_own HG3.out g4 (fun x e => by cases e; exact Nat.le_succ _)
            clear B4 g4 a0 a1 a2 HC
            go_wp2_with fail
            go_roundw
            case rel => exact ⟨k + 1, r, ix :: l, _, _, hk2, by first | rfl | (rw [hsm.wrap hk2]; rfl), rfl, hr1, HS0.out u, HN2.out, HB4.out, HD4.out, HA4, HG4.out⟩
            case measure => first | exact meas_next hk2 | (rw [hsm.wrap hk2]; exact meas_next hk2)
          · have HS0 : Hid (∀ u, Fil cs ts ms (ix :: l) (oneEs p es cs u ix) (oneP p cs ts ms ix) (r + 1)) := fun u => by have := HST.out u; rw [if_neg (fun e => h0 (hE.trans e))] at this; exact this
            have h0b : (E == 0) = false := by simpa using h0
            have h0n : (E != 0) = true := by simpa using h0
            clear HST hE
            go_upto_region 14 with fail
            rw [← hW3]
            clear hW3
            go_wp2_with fail
            refine HC.mono ?_
            rintro e W4 ⟨u, rfl, B4, g4⟩
            have HB4 : Hid (Book ok W4 (w.heap.size + 1) (oneEs p es cs u ix) (oneP p cs ts ms ix)) := B4
            have HD4 : Hid (DnAt W4 (w.heap.size + 1 + 1) (w.heap.size + 1 + 1) n (ix :: l)) := HD3.out.keepR g4 (by simp)
            have HA4 := grown_keep g4 HA3.out (by simp)
            have HG4 : Hid (w.grownBy W4 none) := grown_own HG3.out g4 (fun x e => by cases e; exact Nat.le_succ _)
            clear B4 g4 a0 a1 a2 HC
            go_wp2_with fail
            go_roundw
            case rel => exact ⟨k + 1, r + 1, ix :: l, _, _, hk2, by first | rfl | (rw [hsm.wrap hk2]; rfl), by first | rfl | (congr 1), hr2, HS0.out u, HN2.out, HB4.out, HD4.out, HA4, HG4.out⟩
            case measure => first | exact meas_next hk2 | (rw [hsm.wrap hk2]; exact meas_next hk2)
end Go.Proofs.Ytmepidalecdmkaa
