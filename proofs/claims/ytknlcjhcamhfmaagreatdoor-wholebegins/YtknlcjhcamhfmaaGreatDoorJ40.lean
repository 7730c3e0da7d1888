/-
  Book; Again of any list.
  The six suits' numbers.
-/
import Derived.Test.YtknlcjhcamhfmaaGreatDoorJ39
import Derived.Test.YtknlcjhcamhfmaaGreatDoorJ37
import Derived.Laws.MakeOwn
import Derived.OwnWalk
import Derived.Test.YtknlcjhcamhfmaaGreatDoorJ31
namespace Go.Proofs.YtknlcjhcamhfmaaGreatDoor
open Go.RowKit

theorem ord_all : Ord6 all6 := List.Perm.refl _
theorem six_src {sx : Array Value} (hs : sx = sixA) {W : World} {g : Nat} {t : TypeId} (h : W.heap[g]? = some (.cells sx t (0, 0))) : SrcAt W g all6 := src_of (junk := []) (t := t) (by rw [List.append_nil, h, hs]; rfl)
set_option maxRecDepth 100000 in
set_option maxHeartbeats 4000000 in
theorem book_any (w : World) (N : NamesAt w) : Calls Tryz.prog 11 #[] w fun e w' => ∃ b es, e = .returned (.pointer (some ⟨b, 0, none⟩)) ∧ FB w' b es ∧ w.heap.size ≤ b ∧ w.grownBy w' none := by
  have HN : Hid (NamesAt w) := N
  clear N
  go_enter Tryz.func11, Tryz.ntmps11
  go_wp2_with fail
  refine (six_any w).mono ?_
  rintro e W1 ⟨rfl, g1⟩
  have HG1 : Hid (w.grownBy W1 none) := g1
  obtain ⟨sx, hsx⟩ : ∃ s, s = sixA := ⟨_, rfl⟩
  have hz : (Tryz.prog.info? 84).map (·.size) = some sx.size := by rw [hsx]; exact sixA_size
  have ho : sx.all (·.oneCell') = true := by rw [hsx]; exact sixA_one
  rw [← hsx]
  have HS : Hid (sx = sixA) := hsx
  clear hsx g1
  go_wp2_with (refine wpList_store_rowTo rfl 84 (.tmp 1) (.tmp 4) rfl rfl W1.heap.size sx rfl rfl 84 _ (alloc_at _ _ _) hz (by rw [HS.out]; kernel_rfl) ho ?_)
  have HR : ∀ zs, ((W1.alloc (.cells zs 84)).setRow W1.heap.size sx).heap[W1.heap.size]? = some (.cells sx 84 (0, 0)) := fun zs => setRow_heap _ _ zs sx _ _ (alloc_at _ _ _)
  have HGr : ∀ zs, w.grownBy ((W1.alloc (.cells zs 84)).setRow W1.heap.size sx) none := fun zs => grown_own (grown_push HG1.out _) (grown_rowA _ _ _) (fun x e => by cases e; exact HG1.out.size)
  refine (sealed_any W1.heap.size 6 all6 _ ord_all (six_src HS.out (HR _)) (HN.out.keep (HGr _))).mono ?_
  rintro e W2 ⟨b, es, rfl, F2, l2, g2⟩
  have HF : Hid (FB W2 b es ∧ w.heap.size ≤ b ∧ w.grownBy W2 none) := ⟨F2, Nat.le_trans (HGr _).size l2, grown_trans (HGr _) g2⟩
  clear F2 l2 g2 HR HGr
  go_wp2
  go_ret
  exact ⟨b, es, rfl, HF.out⟩
def noSrc : Nat → List Value
  | 0 => []
  | n + 1 => [.string ⟨#[]⟩, .nilFunc, .nilFunc, .nilFunc, .nilFunc] ++ noSrc n
theorem noSrc_len : ∀ n, (noSrc n).length = n * 5
  | 0 => rfl
  | n + 1 => by rw [noSrc, List.length_append, noSrc_len n]; simp only [List.length_cons, List.length_nil]; omega
def set5 (w : World) (b o k : Nat) : World := ((((w.setCell ⟨b, o, none⟩ (.string (sNm k))).setCell ⟨b, o + 1, none⟩ (.func (.func (fL k)) #[] #[])).setCell ⟨b, o + 2, none⟩ (.func (.func (fT k)) #[] #[])).setCell ⟨b, o + 3, none⟩ (.func (.func (fM k)) #[] #[])).setCell ⟨b, o + 4, none⟩ (.func (.func (fU k)) #[] #[])
theorem grown_s5 (w : World) (b o k : Nat) : w.grownBy (set5 w b o k) (some b) := ((((grown_set _ b _ _).trans (grown_set _ b _ _)).trans (grown_set _ b _ _)).trans (grown_set _ b _ _)).trans (grown_set _ b _ _)
theorem fives_of {α : Type} {X : List α} (h : X.length = 5) : ∃ a b c d e, X = [a, b, c, d, e] := by
  match X, h with
  | [a, b, c, d, e], _ => exact ⟨a, b, c, d, e, rfl⟩
theorem set_five (A X B : List Value) (n : Nat) (hA : A.length = n) (hX : X.length = 5) (x0 x1 x2 x3 x4 : Value) : (((((A ++ (X ++ B)).set n x0).set (n + 1) x1).set (n + 2) x2).set (n + 3) x3).set (n + 4) x4 = A ++ ([x0, x1, x2, x3, x4] ++ B) := by
  obtain ⟨a, b, c, d, e, rfl⟩ := fives_of hX
  subst hA
  simp [List.set_append_right]
theorem set5_block {w : World} {b : Nat} {A X B : List Value} {t : TypeId} (h : w.heap[b]? = some (.cells (A ++ (X ++ B)).toArray t (0, 0))) (n : Nat) (hA : A.length = n) (hX : X.length = 5) (k : Nat) : (set5 w b n k).heap[b]? = some (.cells (A ++ (srcC k ++ B)).toArray t (0, 0)) := by
  have e0 := block_set h (n) (.string (sNm k))
  rw [List.setIfInBounds_toArray] at e0
  have e1 := block_set e0 (n + 1) (.func (.func (fL k)) #[] #[])
  rw [List.setIfInBounds_toArray] at e1
  have e2 := block_set e1 (n + 2) (.func (.func (fT k)) #[] #[])
  rw [List.setIfInBounds_toArray] at e2
  have e3 := block_set e2 (n + 3) (.func (.func (fM k)) #[] #[])
  rw [List.setIfInBounds_toArray] at e3
  have e4 := block_set e3 (n + 4) (.func (.func (fU k)) #[] #[])
  rw [List.setIfInBounds_toArray] at e4
  rw [set_five A X B n hA hX] at e4
  exact e4
theorem srcs_snoc {ks : List Nat} {j k : Nat} (hk : ks[j]? = some k) : srcs (ks.take (j + 1)) = srcs (ks.take j) ++ srcC k := by
  unfold srcs
  rw [List.take_add_one, hk, List.flatMap_append]
  simp
theorem src_size : (Tryz.prog.info? 83).map (·.size) = some 5 := by kernel_rfl
theorem src_one (k : Nat) : (srcC k).toArray.all (·.oneCell') = true := all_oneCell_toArray fun v hv => by
  simp only [srcC, List.mem_cons, List.not_mem_nil, or_false] at hv
  rcases hv with rfl | rfl | rfl | rfl | rfl <;> rfl
theorem made_src : (madeCells (Value.agg #[.string ⟨#[]⟩, .nilFunc, .nilFunc, .nilFunc, .nilFunc]).cells (6 * 5)).toList = noSrc 6 := by kernel_rfl
theorem mid_there {w : World} {g : Nat} {t : TypeId} {A X B : List Value} (h : w.heap[g]? = some (.cells (A ++ (X ++ B)).toArray t (0, 0))) (o : Nat) (hA : A.length = o) : w.there g o X.length := fun i hi => by
  refine ⟨?_, block_free h _⟩
  rw [block_cell h, List.getElem?_toArray, List.getElem?_append_right (by omega), show o + i - A.length = i by omega, List.getElem?_append_left hi, List.getElem?_eq_getElem hi]
  rfl
set_option maxRecDepth 100000 in
set_option maxHeartbeats 4000000 in
theorem again_no (v : Value) (os : List Int) (w : World) (O : IntsIn w v os) (hn : ¬ IsOrd os) : Calls Tryz.prog 9 #[v] w fun e w' => e = .returned (.tuple #[.pointer none, .int .i64 2]) ∧ w.grownBy w' none := by
  have C := isOrder_any v os w O
  have HN : Hid (¬ IsOrd os) := hn
  obtain ⟨oa, oc, rfl, _⟩ := O
  clear hn
  go_enter Tryz.func9, Tryz.ntmps9
  go_wp2_with fail
  refine C.mono ?_
  rintro e W1 ⟨h9, g1⟩
  rcases h9 with ⟨h9, rfl⟩ | ⟨h9, rfl⟩
  · exact absurd h9 HN.out
  clear h9 C
  go_wp2
  go_ret2
  exact ⟨rfl, g1⟩
set_option maxRecDepth 100000 in
set_option maxHeartbeats 8000000 in
theorem again_yes (v : Value) (ks : List Nat) (w : World) (O : IntsIn w v (ks.map fun k : Nat => (k : Int))) (hk : Ord6 ks) (N : NamesAt w) : Calls Tryz.prog 9 #[v] w fun e w' => ∃ b es, e = .returned (.tuple #[.pointer (some ⟨b, 0, none⟩), .int .i64 0]) ∧ FB w' b es ∧ w.heap.size ≤ b ∧ w.grownBy w' none := by
  have C := isOrder_any v _ w O
  have HK : Hid (Ord6 ks) := hk
  have HN : Hid (NamesAt w) := N
  obtain ⟨oa, oc, rfl, HO0⟩ := O
  have h6 : (ks.map fun k : Nat => (k : Int)).length = 6 := by rw [List.length_map, hk.len]
  obtain ⟨og, oo, rfl, HO1⟩ := HO0 (by rw [h6]; decide)
  have HO : Hid (∀ (j : Nat) k, ks[j]? = some k → w.cell? ⟨og, oo + j, none⟩ = some (.int .i64 (k : Int))) := fun j k hjk => HO1 j _ (by rw [List.getElem?_map, hjk]; rfl)
  rw [h6] at C ⊢
  have sm6 : Small 6 := by unfold Small; decide
  obtain ⟨i0, hi, hz0, hz1, hz2⟩ := info_parts (P := Tryz.prog) (e := 83) (z := .agg #[.string ⟨#[]⟩, .nilFunc, .nilFunc, .nilFunc, .nilFunc]) (size := 5) (bytes := 48) (by kernel_rfl)
  clear HO0 HO1 h6 hk N
  go_enter Tryz.func9, Tryz.ntmps9
  go_wp2_with fail
  refine C.mono ?_
  rintro e W1 ⟨h9, g1⟩
  rcases h9 with ⟨h9, rfl⟩ | ⟨h9, rfl⟩
  rotate_left 1
  · exact absurd ⟨ks, rfl, HK.out⟩ h9
  have HG1 : Hid (w.grownBy W1 none) := g1
  clear h9 C g1
  go_wp2_with fail
  refine (six_any W1).mono ?_
  rintro e W2 ⟨rfl, g2⟩
  have HG2 : Hid (w.grownBy W2 none) := grown_trans HG1.out g2
  obtain ⟨sx, hsx⟩ : ∃ s, s = sixA := ⟨_, rfl⟩
  have hz : (Tryz.prog.info? 84).map (·.size) = some sx.size := by rw [hsx]; exact sixA_size
  have ho : sx.all (·.oneCell') = true := by rw [hsx]; exact sixA_one
  rw [← hsx]
  have HS : Hid (sx = sixA) := hsx
  clear hsx g2 HG1
  have HR : ∀ zs, ((W2.alloc (.cells zs 84)).setRow W2.heap.size sx).heap[W2.heap.size]? = some (.cells sx 84 (0, 0)) := fun zs => setRow_heap _ _ zs sx _ _ (alloc_at _ _ _)
  have HGr : ∀ zs, w.grownBy ((W2.alloc (.cells zs 84)).setRow W2.heap.size sx) none := fun zs => grown_own (grown_push HG2.out _) (grown_rowA _ _ _) (fun x e => by cases e; exact HG2.out.size)
  have HHR : Hid (∀ zs, ((W2.alloc (.cells zs 84)).setRow W2.heap.size sx).heap[W2.heap.size]? = some (.cells sx 84 (0, 0))) := HR
  have HHG : Hid (∀ zs, w.grownBy ((W2.alloc (.cells zs 84)).setRow W2.heap.size sx) none) := HGr
  clear HR HGr
  go_wp2_with (first | (refine wpList_store_rowTo rfl 84 (.tmp 4) (.tmp 11) rfl rfl W2.heap.size sx rfl rfl 84 _ (alloc_at _ _ _) hz (by rw [HS.out]; kernel_rfl) ho ?_) | (at_make; refine wpList_make_full _ rfl _ _ 87 rfl (W2.heap.size + 1) 83 i0 _ 5 Tryz.underlying87 hi hz0 hz1 .i64 .i64 _ _ 6 rfl rfl rfl rfl (by rw [hz2]; decide) (by decide) (by rw [setRow_size, World.size_alloc]; exact Nat.le_refl _) ?_; intro V o1 gv))
  have HP0 : Hid (V.heap[W2.heap.size + 1]? = some (.cells (srcs (ks.take 0) ++ noSrc 6).toArray 83 (0, 0))) := by
    obtain ⟨_, h0 | ⟨g, cap, cur, ev, _, hh, _, _, hsz, htk⟩⟩ := o1
    · exact absurd h0.2 (by decide)
    · injection ev with e1 _ e3
      injection e1 with e1
      injection e1 with e1 _ _
      rw [setRow_size, World.size_alloc] at e1
      subst e1
      subst e3
      have hc : cur = (noSrc 6).toArray := by
        apply Array.ext'
        rw [← made_src, ← htk, List.take_of_length_le (by rw [Array.length_toList, hsz]; exact Nat.le_refl _)]
      rw [hc] at hh
      show V.heap[W2.heap.size + 1]? = _
      rw [hh, List.take_zero]
      rfl
  have HT0 : Hid (V.heap[W2.heap.size]? = some (.cells sx 84 (0, 0))) := grown_keep gv (HHR.out _) (by simp)
  have HG0 : Hid (w.grownBy V none) := grown_trans (HHG.out _) gv
  have wT : w.heap.size ≤ W2.heap.size := HG2.out.size
  clear o1 gv HHR HHG hz ho hi hz0 hz1 hz2 HG2
  go_loopw [17] (fun x wr => ∃ j : Nat, j ≤ 6 ∧ x = .int .i64 (j : Int) ∧ wr.heap[W2.heap.size + 1]? = some (.cells (srcs (ks.take j) ++ noSrc (6 - j)).toArray 83 (0, 0)) ∧ wr.heap[W2.heap.size]? = some (.cells sx 84 (0, 0)) ∧ w.grownBy wr none) (fun x _ => 6 - (intOf x).toNat)
  case atStart =>
    refine ⟨0, Nat.zero_le _, rfl, ?_, ?_, ?_⟩
    · exact HP0.out
    · exact HT0.out
    · exact HG0.out
  case round =>
    clear HP0 HT0 HG0
    obtain ⟨j, hj, rfl, P1, T1, Gr⟩ := hrel
    obtain ⟨U, hU⟩ : ∃ U, U = wr := ⟨_, rfl⟩
    subst hU
    have HP : Hid (U.heap[W2.heap.size + 1]? = some (.cells (srcs (ks.take j) ++ noSrc (6 - j)).toArray 83 (0, 0))) := P1
    have HT : Hid (U.heap[W2.heap.size]? = some (.cells sx 84 (0, 0))) := T1
    have HG : Hid (w.grownBy U none) := Gr
    clear P1 T1 Gr
    rcases (show j < 6 ∨ j = 6 from by omega) with h1 | h1
    · have h1' : (j : Int) < 6 := by omega
      have j0 : (0 : Int) ≤ (j : Int) := by omega
      obtain ⟨k, hk⟩ : ∃ k, ks[j]? = some k := ⟨_, List.getElem?_eq_getElem (by rw [HK.out.len]; exact h1)⟩
      have hk6 : k < 6 := HK.out.lt (List.mem_of_getElem? hk)
      have k6 : (k : Int) < 6 := by omega
      have k0 : (0 : Int) ≤ (k : Int) := by omega
      have c0 := HG.out.cell (HO.out j k hk) (by simp)
      have HR := six_src HS.out HT.out k k (by rcases (show k = 0 ∨ k = 1 ∨ k = 2 ∨ k = 3 ∨ k = 4 ∨ k = 5 by omega) with rfl | rfl | rfl | rfl | rfl | rfl <;> rfl)
      obtain ⟨s0, s1, s2, s3, s4⟩ := HR
      have lA : (srcs (ks.take j)).length = j * 5 := by rw [srcs_len, List.length_take, HK.out.len]; omega
      have eN : noSrc (6 - j) = [.string ⟨#[]⟩, .nilFunc, .nilFunc, .nilFunc, .nilFunc] ++ noSrc (6 - (j + 1)) := by rw [show 6 - j = (6 - (j + 1)) + 1 by omega]; rfl
      have hL := HP.out
      rw [eN] at hL
      have HTh : Hid (U.there (W2.heap.size + 1) (j * 5) 5) := mid_there hL (j * 5) lA
      have HP2 : Hid ((set5 U (W2.heap.size + 1) (j * 5) k).heap[W2.heap.size + 1]? = some (.cells (srcs (ks.take (j + 1)) ++ noSrc (6 - (j + 1))).toArray 83 (0, 0))) := by
        have h9 := set5_block hL (j * 5) lA rfl k
        rw [srcs_snoc hk, List.append_assoc]
        exact h9
      have HT2 : Hid ((set5 U (W2.heap.size + 1) (j * 5) k).heap[W2.heap.size]? = some (.cells sx 84 (0, 0))) := grown_keep (grown_s5 _ _ _ _) HT.out (fun e => by injection e with e; omega)
      have HG2 : Hid (w.grownBy (set5 U (W2.heap.size + 1) (j * 5) k) none) := grown_own HG.out (grown_s5 _ _ _ _) (fun x e => by cases e; omega)
      obtain ⟨U2, hU2⟩ : ∃ U2, U2 = set5 U (W2.heap.size + 1) (j * 5) k := ⟨_, rfl⟩
      rw [← hU2] at HP2 HT2 HG2
      have HU2 : Hid (U.setCells (W2.heap.size + 1) (j * 5) (srcC k).toArray.toList = U2) := hU2.symm
      have hOn : (srcC k).toArray.all (·.oneCell') = true := src_one k
      have hSz : (Tryz.prog.info? 83).map (·.size) = some (srcC k).toArray.size := src_size
      clear hk lA eN hL hU2
      go_wp2_with (refine wpList_store_mid rfl 83 (.tmp 27) (.tmp 26) rfl (W2.heap.size + 1) (j * 5) (srcC k).toArray rfl rfl HTh.out hSz hOn ?_; rw [HU2.out])
      go_roundw
      case rel => exact ⟨j + 1, h1, by first | rfl | (rw [sm6.wrap h1]; rfl), HP2.out, HT2.out, HG2.out⟩
      case measure => first | exact meas_next h1 | (rw [sm6.wrap h1]; exact meas_next h1)
    · have h1' : ¬ (j : Int) < 6 := by omega
      have HPf : Hid (U.heap[W2.heap.size + 1]? = some (.cells (srcs ks ++ []).toArray 83 (0, 0))) := by have h9 := HP.out; rw [h1, List.take_of_length_le (by rw [HK.out.len]; exact Nat.le_refl _)] at h9; exact h9
      clear HP h1
      go_wp2_with fail
      refine (sealed_any (W2.heap.size + 1) 6 ks U HK.out (src_of HPf.out) (HN.out.keep HG.out)).mono ?_
      rintro e U2 ⟨b, es, rfl, F2, l2, g2⟩
      have HF : Hid (FB U2 b es ∧ w.heap.size ≤ b ∧ w.grownBy U2 none) := ⟨F2, Nat.le_trans HG.out.size l2, grown_trans HG.out g2⟩
      clear F2 l2 g2
      go_wp2
      go_ret2
      exact ⟨b, es, rfl, HF.out⟩
end Go.Proofs.YtknlcjhcamhfmaaGreatDoor
namespace Go.Proofs.YtknlcjhcamhfmaaGreatDoor
open Go.RowKit

set_option maxHeartbeats 1000000 in
theorem number_ai (w : World) : Calls Tryz.prog 82 #[] w fun e w' => e = .returned (.int .i64 27) ∧ w.grownBy w' none := by
  go_enter Tryz.func82, Tryz.ntmps82
  go_wp2_with fail
  refine (of_five 2 (by unfold Five; omega) _).mono ?_
  rintro e w1 ⟨rfl, g1⟩
  rw [show ansV 2 = 7 from rfl, show ansT 2 = 2 from rfl, show ansE 2 = 0 from rfl]
  go_wp2
  go_ret
  exact ⟨rfl, g1⟩
set_option maxHeartbeats 1000000 in
theorem weight2 (w : World) : Calls Tryz.prog 173 #[.int .u8 2] w fun e w' => e = .returned (.int .i64 2) ∧ w.grownBy w' none := by
  have i : Calls Tryz.prog 217 #[.int .u8 2] w fun e w' => e = .returned (.bool true) ∧ w' = w := by
    go_enter Tryz.func217, Tryz.ntmps217
    go_wp2
    go_ret
    exact ⟨rfl, rfl⟩
  go_enter Tryz.func173, Tryz.ntmps173
  go_wp2_with fail
  refine i.mono ?_
  rintro e w1 ⟨rfl, h1⟩
  obtain rfl : w = w1 := h1.symm
  go_wp2_with fail
  refine (of_five 1 (by unfold Five; omega) _).mono ?_
  rintro e w1 ⟨rfl, g1⟩
  rw [show ansV 1 = 2 from rfl, show ansT 1 = 3 from rfl, show ansE 1 = 0 from rfl]
  go_wp2
  go_ret
  exact ⟨rfl, g1⟩
set_option maxHeartbeats 1000000 in
theorem number_ea (w : World) : Calls Tryz.prog 86 #[] w fun e w' => e = .returned (.int .i64 31) ∧ w.grownBy w' none := by
  go_enter Tryz.func86, Tryz.ntmps86
  go_wp2_with fail
  refine (of_five 3 (by unfold Five; omega) _).mono ?_
  rintro e w1 ⟨rfl, g1⟩
  rw [show ansV 3 = 11 from rfl, show ansT 3 = 4 from rfl, show ansE 3 = 0 from rfl]
  go_wp2_with fail
  refine (weight2 _).mono ?_
  rintro e w2 ⟨rfl, g2⟩
  go_wp2
  go_ret
  exact ⟨rfl, grown_trans g1 g2⟩
set_option maxHeartbeats 1000000 in
theorem number_fr (w : World) : Calls Tryz.prog 90 #[] w fun e w' => e = .returned (.int .i64 68) ∧ w.grownBy w' none := by
  go_enter Tryz.func90, Tryz.ntmps90
  go_wp2_with fail
  refine (of_five 4 (by unfold Five; omega) _).mono ?_
  rintro e w1 ⟨rfl, g1⟩
  rw [show ansV 4 = 18 from rfl, show ansT 4 = 5 from rfl, show ansE 4 = 0 from rfl]
  go_wp2
  go_ret
  exact ⟨rfl, g1⟩
set_option maxHeartbeats 1000000 in
theorem number_wa (w : World) : Calls Tryz.prog 94 #[] w fun e w' => e = .returned (.int .i64 51) ∧ w.grownBy w' none := by
  go_enter Tryz.func94, Tryz.ntmps94
  go_wp2_with fail
  refine (of_five 3 (by unfold Five; omega) _).mono ?_
  rintro e w1 ⟨rfl, g1⟩
  rw [show ansV 3 = 11 from rfl, show ansT 3 = 4 from rfl, show ansE 3 = 0 from rfl]
  go_wp2
  go_ret
  exact ⟨rfl, g1⟩
set_option maxHeartbeats 1000000 in
theorem weight5 (w : World) : Calls Tryz.prog 173 #[.int .u8 5] w fun e w' => e = .returned (.int .i64 18) ∧ w.grownBy w' none := by
  have i : Calls Tryz.prog 217 #[.int .u8 5] w fun e w' => e = .returned (.bool true) ∧ w' = w := by
    go_enter Tryz.func217, Tryz.ntmps217
    go_wp2
    go_ret
    exact ⟨rfl, rfl⟩
  go_enter Tryz.func173, Tryz.ntmps173
  go_wp2_with fail
  refine i.mono ?_
  rintro e w1 ⟨rfl, h1⟩
  obtain rfl : w = w1 := h1.symm
  go_wp2_with fail
  refine (of_five 4 (by unfold Five; omega) _).mono ?_
  rintro e w1 ⟨rfl, g1⟩
  rw [show ansV 4 = 18 from rfl, show ansT 4 = 5 from rfl, show ansE 4 = 0 from rfl]
  go_wp2
  go_ret
  exact ⟨rfl, g1⟩
set_option maxHeartbeats 1000000 in
theorem number_vo (w : World) : Calls Tryz.prog 98 #[] w fun e w' => e = .returned (.int .i64 147) ∧ w.grownBy w' none := by
  go_enter Tryz.func98, Tryz.ntmps98
  go_wp2_with fail
  refine (number_ai _).mono ?_
  rintro e w1 ⟨rfl, g1⟩
  go_wp2_with fail
  refine (number_wa _).mono ?_
  rintro e w2 ⟨rfl, g2⟩
  go_wp2_with fail
  refine (weight5 _).mono ?_
  rintro e w3 ⟨rfl, g3⟩
  go_wp2
  go_ret
  exact ⟨rfl, grown_trans g1 (grown_trans g2 g3)⟩
set_option maxHeartbeats 1000000 in
theorem number_gd (w : World) : Calls Tryz.prog 102 #[] w fun e w' => e = .returned (.int .i64 215) ∧ w.grownBy w' none := by
  go_enter Tryz.func102, Tryz.ntmps102
  go_wp2_with fail
  refine (number_fr _).mono ?_
  rintro e w1 ⟨rfl, g1⟩
  go_wp2_with fail
  refine (number_vo _).mono ?_
  rintro e w2 ⟨rfl, g2⟩
  go_wp2
  go_ret
  exact ⟨rfl, grown_trans g1 g2⟩
end Go.Proofs.YtknlcjhcamhfmaaGreatDoor
