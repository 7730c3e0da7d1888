/-
  isOrder of any list.
  The table of the six.
  Book; Again of any list.
-/
import Derived.Test.YtknlcjhcamhfmaaGreatDoorJ40
import Derived.Test.YtknlcjhcamhfmaaGreatDoorJ31
import Derived.Test.YtknlcjhcamhfmaaGreatDoorJ38
import Derived.Laws.EntriesVeiled
import Derived.Laws.Tables
import Derived.Deep.MidRow
import Derived.Great.BuildSlice
import Derived.Test.YtknlcjhcamhfmaaGreatDoorJ44
import Derived.Laws.MakeOwn
import Derived.OwnWalk
namespace Go.Proofs.YtknlcjhcamhfmaaGreatDoor
open Go.RowKit

theorem nod_len : ∀ (n : Nat) (l : List Nat), l.Nodup → (∀ x ∈ l, x < n) → l.length ≤ n ∧ (l.length = n → l.Perm (List.range n))
  | 0, [], _, _ => ⟨Nat.le_refl _, fun _ => List.Perm.refl _⟩
  | 0, x :: r, _, h => absurd (h x (by simp)) (Nat.not_lt_zero _)
  | n + 1, l, hd, h => by
    by_cases hn : n ∈ l
    · have p := List.perm_cons_erase hn
      have d2 := (p.nodup_iff.1 hd)
      rw [List.nodup_cons] at d2
      have ih := nod_len n (l.erase n) d2.2 (fun x hx => by
        have h1 := h x (List.mem_of_mem_erase hx)
        have h2 : ¬ x = n := fun e => d2.1 (e ▸ hx)
        omega)
      have hl := p.length_eq
      rw [List.length_cons] at hl
      refine ⟨by omega, fun e => ?_⟩
      have p2 := ih.2 (by omega)
      refine p.trans ?_
      rw [List.range_succ]
      exact (List.Perm.cons n p2).trans (List.perm_append_singleton n _).symm
    · have ih := nod_len n l hd (fun x hx => by
        have h1 := h x hx
        have h2 : ¬ x = n := fun e => hn (e ▸ hx)
        omega)
      exact ⟨by omega, fun e => by omega⟩
/-- A list that is each of 0 to 5 once. -/
def IsOrd (os : List Int) : Prop := ∃ ks : List Nat, os = ks.map (fun k : Nat => (k : Int)) ∧ Ord6 ks
/-- What has been met, up to a place. -/
structure Met (os : List Int) (j : Nat) (ks : List Nat) : Prop where
  is : os.take j = ks.map (fun k : Nat => (k : Int))
  nod : ks.Nodup
  lt : ∀ k ∈ ks, k < 6
theorem Met.nil (os : List Int) : Met os 0 [] := ⟨by simp, List.nodup_nil, fun k hk => by simp at hk⟩
theorem Met.len {os : List Int} {j : Nat} {ks : List Nat} (h : Met os j ks) (hj : j ≤ os.length) : ks.length = j := by
  have := congrArg List.length h.is
  rw [List.length_map, List.length_take] at this
  omega
theorem Met.next {os : List Int} {j : Nat} {ks : List Nat} (h : Met os j ks) {k : Nat} (hx : os[j]? = some (k : Int)) (hk : k < 6) (hn : ¬ k ∈ ks) : Met os (j + 1) (ks ++ [k]) := by
  refine ⟨?_, ?_, fun x hx => ?_⟩
  · rw [List.take_add_one, hx, h.is, List.map_append]; rfl
  · rw [List.nodup_append]
    exact ⟨h.nod, by simp, fun a ha b hb => by have : b = k := by simpa using hb
                                               intro e; exact hn (by rw [← this, ← e]; exact ha)⟩
  · rcases List.mem_append.1 hx with hx | hx
    · exact h.lt x hx
    · have : x = k := by simpa using hx
      omega
theorem Met.full {os : List Int} {ks : List Nat} (h : Met os 6 ks) (h6 : os.length = 6) : os = ks.map (fun k : Nat => (k : Int)) ∧ Ord6 ks := by
  have e := h.is
  rw [List.take_of_length_le (by omega)] at e
  exact ⟨e, (nod_len 6 ks h.nod h.lt).2 (h.len (by omega))⟩
theorem IsOrd.len {os : List Int} (h : IsOrd os) : os.length = 6 := by
  obtain ⟨ks, rfl, h⟩ := h
  rw [List.length_map, h.len]
theorem IsOrd.in {os : List Int} (h : IsOrd os) {j : Nat} {x : Int} (hx : os[j]? = some x) : ∃ k : Nat, x = (k : Int) ∧ k < 6 := by
  obtain ⟨ks, rfl, h⟩ := h
  rw [List.getElem?_map] at hx
  cases hk : ks[j]? with
  | none => rw [hk] at hx; cases hx
  | some k =>
    rw [hk] at hx
    exact ⟨k, (Option.some.inj hx).symm, h.lt (List.mem_of_getElem? hk)⟩
theorem Met.twice {os : List Int} {j : Nat} {ks : List Nat} (h : Met os j ks) {k : Nat} (hx : os[j]? = some (k : Int)) (hn : k ∈ ks) : ¬ IsOrd os := by
  rintro ⟨ls, rfl, h2⟩
  have hm : (k : Int) ∈ (ls.map (fun k : Nat => (k : Int))).take j := by rw [h.is]; exact List.mem_map.2 ⟨k, hn, rfl⟩
  rw [← List.map_take] at hm
  obtain ⟨k', hk', e⟩ := List.mem_map.1 hm
  have e' : k' = k := by omega
  subst e'
  rw [List.getElem?_map] at hx
  cases hk : ls[j]? with
  | none => rw [hk] at hx; cases hx
  | some y =>
    rw [hk] at hx
    have e2 : y = k' := by have h9 : ((y : Nat) : Int) = (k' : Int) := Option.some.inj hx; omega
    subst e2
    obtain ⟨i, hi⟩ := List.getElem?_of_mem hk'
    have hij : i < j := by have := (List.getElem?_eq_some_iff.1 hi).1; rw [List.length_take] at this; omega
    rw [List.getElem?_take, if_pos hij] at hi
    obtain ⟨a1, b1⟩ := List.getElem?_eq_some_iff.1 hi
    obtain ⟨a2, b2⟩ := List.getElem?_eq_some_iff.1 hk
    exact List.pairwise_iff_getElem.1 h2.nodup i j a1 a2 hij (b1.trans b2.symm)
def seenB (ks : List Nat) (i : Nat) : Bool := ks.contains i
def seenC (ks : List Nat) : Array Value := #[.bool (seenB ks 0), .bool (seenB ks 1), .bool (seenB ks 2), .bool (seenB ks 3), .bool (seenB ks 4), .bool (seenB ks 5)]
theorem seen_at {w : World} {b : Nat} {ks : List Nat} {t : TypeId} (h : w.heap[b]? = some (.cells (seenC ks) t (0, 0))) {k : Nat} (hk : k < 6) : w.cell? ⟨b, k, none⟩ = some (.bool (seenB ks k)) := by
  rw [block_cell h]
  rcases (show k = 0 ∨ k = 1 ∨ k = 2 ∨ k = 3 ∨ k = 4 ∨ k = 5 by omega) with rfl | rfl | rfl | rfl | rfl | rfl <;> rfl
theorem seen_set {w : World} {b : Nat} {ks : List Nat} {t : TypeId} (h : w.heap[b]? = some (.cells (seenC ks) t (0, 0))) {k : Nat} (hk : k < 6) : (w.setCell ⟨b, k, none⟩ (.bool true)).heap[b]? = some (.cells (seenC (ks ++ [k])) t (0, 0)) := by
  rw [block_set h k (.bool true)]
  congr 2
  rcases (show k = 0 ∨ k = 1 ∨ k = 2 ∨ k = 3 ∨ k = 4 ∨ k = 5 by omega) with rfl | rfl | rfl | rfl | rfl | rfl <;> simp [seenC, seenB]
set_option maxRecDepth 100000 in
set_option maxHeartbeats 4000000 in
theorem isOrder_any (v : Value) (os : List Int) (w : World) (O : IntsIn w v os) : Calls Tryz.prog 40 #[v] w fun e w' => ((IsOrd os ∧ e = .returned (.bool true)) ∨ (¬ IsOrd os ∧ e = .returned (.bool false))) ∧ w.grownBy w' none := by
  obtain ⟨oa, oc, rfl, HO0⟩ := O
  have HO : Hid (0 < os.length → ∃ g o, oa = some ⟨g, o, none⟩ ∧ ∀ (j : Nat) x, os[j]? = some x → w.cell? ⟨g, o + j, none⟩ = some (.int .i64 x)) := HO0
  clear HO0
  by_cases h6 : os.length = 6
  rotate_left 1
  · have h6' : ¬ (os.length : Int) = 6 := by omega
    have HF : Hid (¬ IsOrd os) := fun h => h6 h.len
    go_enter Tryz.func40, Tryz.ntmps40
    go_wp2
    go_ret
    exact ⟨Or.inr ⟨HF.out, rfl⟩, grown_refl _ _⟩
  rw [h6]
  have sm6 : Small 6 := by unfold Small; decide
  obtain ⟨g, o, rfl, HOc0⟩ := HO.out (by omega)
  have HOc : Hid (∀ (j : Nat) x, os[j]? = some x → w.cell? ⟨g, o + j, none⟩ = some (.int .i64 x)) := HOc0
  clear HOc0 HO
  obtain ⟨S, hS⟩ : ∃ S, S = w.heap.size := ⟨_, rfl⟩
  obtain ⟨W1, hW1⟩ : ∃ W1, W1 = w.alloc (.cells #[.bool false, .bool false, .bool false, .bool false, .bool false, .bool false] 134) := ⟨_, rfl⟩
  have HG1 : Hid (w.grownBy W1 none) := by rw [hW1]; exact World.grownBy_alloc _ _ none
  have HS1 : Hid (W1.heap[S]? = some (.cells (seenC []) 134 (0, 0))) := by rw [hW1, hS]; exact alloc_at _ _ _
  have hgS : ¬ g = S := by
    obtain ⟨x, hx⟩ : ∃ x, os[0]? = some x := ⟨_, List.getElem?_eq_getElem (by omega)⟩
    have := cell_block' (HOc.out 0 x hx)
    omega
  have wS : w.heap.size ≤ S := Nat.le_of_eq hS.symm
  go_enter Tryz.func40, Tryz.ntmps40
  go_wp2_with fail
  rw [← hS, ← hW1]
  clear hS hW1
  go_loopw [11] (fun x wr => ∃ (j : Nat) (ks : List Nat), j ≤ 6 ∧ x = .int .i64 (j : Int) ∧ Met os j ks ∧ wr.heap[S]? = some (.cells (seenC ks) 134 (0, 0)) ∧ w.grownBy wr none) (fun x _ => 6 - (intOf x).toNat)
  case atStart => exact ⟨0, [], Nat.zero_le _, rfl, Met.nil os, HS1.out, HG1.out⟩
  case round =>
    clear HS1 HG1
    obtain ⟨j, ks, hj, rfl, M, Sn, Gr⟩ := hrel
    obtain ⟨U, hU⟩ : ∃ U, U = wr := ⟨_, rfl⟩
    subst hU
    have HM : Hid (Met os j ks) := M
    have HSn : Hid (U.heap[S]? = some (.cells (seenC ks) 134 (0, 0))) := Sn
    have HG : Hid (w.grownBy U none) := Gr
    clear M Sn Gr
    rcases (show j < 6 ∨ j = 6 from by omega) with h1 | h1
    · have h1' : (j : Int) < 6 := by omega
      have j0 : (0 : Int) ≤ (j : Int) := by omega
      obtain ⟨x, hx⟩ : ∃ x, os[j]? = some x := ⟨_, List.getElem?_eq_getElem (by omega)⟩
      have c0 := HG.out.cell (HOc.out j x hx) (by simp)
      have HX : Hid (os[j]? = some x) := hx
      clear hx
      by_cases hlo : x < 0
      · have HF : Hid (¬ IsOrd os) := fun h => by obtain ⟨k, e, _⟩ := h.in HX.out; omega
        go_wp2
        go_ret
        exact ⟨Or.inr ⟨HF.out, rfl⟩, HG.out⟩
      by_cases hhi : 6 ≤ x
      · have HF : Hid (¬ IsOrd os) := fun h => by obtain ⟨k, e, h6⟩ := h.in HX.out; omega
        go_wp2
        go_ret
        exact ⟨Or.inr ⟨HF.out, rfl⟩, HG.out⟩
      obtain ⟨k, rfl⟩ : ∃ k : Nat, x = (k : Int) := ⟨x.toNat, by omega⟩
      have hk6 : k < 6 := by omega
      have k6 : (k : Int) < 6 := by omega
      have k0 : (0 : Int) ≤ (k : Int) := by omega
      have cs := seen_at HSn.out hk6
      cases hsb : seenB ks k with
      | true =>
        rw [hsb] at cs
        have HF : Hid (¬ IsOrd os) := HM.out.twice HX.out (by simpa [seenB] using hsb)
        go_wp2
        go_ret
        exact ⟨Or.inr ⟨HF.out, rfl⟩, HG.out⟩
      | false =>
        rw [hsb] at cs
        have fS : U.frozen? ⟨S, k, none⟩ = false := block_free HSn.out k
        have HM2 : Hid (Met os (j + 1) (ks ++ [k])) := HM.out.next HX.out hk6 (by simpa [seenB] using hsb)
        have HS2 : Hid ((U.setCell ⟨S, k, none⟩ (.bool true)).heap[S]? = some (.cells (seenC (ks ++ [k])) 134 (0, 0))) := seen_set HSn.out hk6
        have HG2 : Hid (w.grownBy (U.setCell ⟨S, k, none⟩ (.bool true)) none) := grown_own HG.out (grown_set _ _ _ _) (fun x e => by cases e; exact wS)
        go_wp2_with fail
        go_roundw
        case rel => exact ⟨j + 1, ks ++ [k], h1, by first | rfl | (rw [sm6.wrap h1]; rfl), HM2.out, HS2.out, HG2.out⟩
        case measure => first | exact meas_next h1 | (rw [sm6.wrap h1]; exact meas_next h1)
    · have h1' : ¬ (j : Int) < 6 := by omega
      subst h1
      have HF : Hid (IsOrd os) := ⟨ks, HM.out.full h6⟩
      go_wp2
      go_ret
      exact ⟨Or.inl ⟨HF.out, rfl⟩, HG.out⟩
end Go.Proofs.YtknlcjhcamhfmaaGreatDoor
namespace Go.Proofs.YtknlcjhcamhfmaaGreatDoor
open Go.RowKit

theorem results_cell_one {fn : Func} {p : Tmp} {ty : TypeId} (h : fn.results = #[.cell p ty]) (tmps : Array Value) (P : Program) (w : World) : (results fn tmps).run P w = ((asAddr (tmps.getD p undef)).run P w).andThen fun a w₁ => (loadVar ty a).run P w₁ := by
  simp only [results, h]
  simp [Sem.run_bind, Result.andThen]
def sixA : Array Value := (srcs all6).toArray
theorem sixA_size : (Tryz.prog.info? 84).map (·.size) = some sixA.size := by kernel_rfl
theorem sixA_len : (Tryz.prog.info? 84).map (·.size) = some (srcs all6).length := by kernel_rfl
theorem sixA_one : sixA.all (·.oneCell') = true := by kernel_rfl
theorem row_range {w : World} {g : Nat} {cs : List Value} {t : TypeId} (h : w.heap[g]? = some (.cells cs.toArray t (0, 0))) : w.rangeAt g 0 cs := fun j v hv => by
  rw [block_cell h, Nat.zero_add]
  simpa using hv
theorem grown_rowA (w : World) (g : Nat) (cs : Array Value) : w.grownBy (w.setRow g cs) (some g) := ⟨rfl, rfl, rfl, by simp, fun i _ hi => setRow_other w g i cs (fun e => hi (by rw [e]))⟩
set_option maxRecDepth 100000 in
set_option maxHeartbeats 4000000 in
theorem six_any (w : World) : Calls Tryz.prog 39 #[] w fun e w' => e = .returned (.agg sixA) ∧ w.grownBy w' none := by
  go_enter Tryz.func39, Tryz.ntmps39
  go_wp2_with (refine wpList_store_rowTo rfl 84 (.tmp 0) (.tmp 7) rfl rfl w.heap.size sixA rfl rfl 84 _ (alloc_at _ _ _) sixA_size (by kernel_rfl) sixA_one ?_)
  refine bodyPost_ret (v := .agg sixA) ?_ rfl ⟨rfl, ?_⟩
  · rw [results_cell_one Tryz.results39]
    exact run_loadVar_mid _ w.heap.size 0 84 (srcs all6) _ (row_range (setRow_heap _ _ _ _ _ _ (alloc_at _ _ _))) Tryz.underlying84 rfl sixA_len
  · exact grown_own (World.grownBy_alloc _ _ none) (grown_rowA _ _ _) (fun x e => by cases e; exact Nat.le_refl _)
end Go.Proofs.YtknlcjhcamhfmaaGreatDoor
namespace Go.Proofs.YtknlcjhcamhfmaaGreatDoor
open Go.RowKit

theorem ord_all : Ord6 all6 := List.Perm.refl _
theorem six_src {sx : Array Value} (hs : sx = sixA) {W : World} {g : Nat} {t : TypeId} (h : W.heap[g]? = some (.cells sx t (0, 0))) : SrcAt W g all6 := src_of (junk := []) (t := t) (by rw [List.append_nil, h, hs]; rfl)
set_option maxRecDepth 100000 in
set_option maxHeartbeats 4000000 in
theorem book_any (w : World) (N : NamesAt w) : Calls Tryz.prog 11 #[] w fun e w' => ∃ b es, e = .returned (.pointer (some ⟨b, 0, none⟩)) ∧ FB w' b es ∧ w.heap.size ≤ b ∧ w.grownBy w' none := by
  have HN : Hid (NamesAt w) := N
  clear N
  go_enter Tryz.func11, Tryz.ntmps11
  go_wp2_with fail
  refine (six_any w).mono ?_
  rintro e W1 ⟨rfl, g1⟩
  have HG1 : Hid (w.grownBy W1 none) := g1
  obtain ⟨sx, hsx⟩ : ∃ s, s = sixA := ⟨_, rfl⟩
  have hz : (Tryz.prog.info? 84).map (·.size) = some sx.size := by rw [hsx]; exact sixA_size
  have ho : sx.all (·.oneCell') = true := by rw [hsx]; exact sixA_one
  rw [← hsx]
  have HS : Hid (sx = sixA) := hsx
  clear hsx g1
  go_wp2_with (refine wpList_store_rowTo rfl 84 (.tmp 1) (.tmp 4) rfl rfl W1.heap.size sx rfl rfl 84 _ (alloc_at _ _ _) hz (by rw [HS.out]; kernel_rfl) ho ?_)
  have HR : ∀ zs, ((W1.alloc (.cells zs 84)).setRow W1.heap.size sx).heap[W1.heap.size]? = some (.cells sx 84 (0, 0)) := fun zs => setRow_heap _ _ zs sx _ _ (alloc_at _ _ _)
  have HGr : ∀ zs, w.grownBy ((W1.alloc (.cells zs 84)).setRow W1.heap.size sx) none := fun zs => grown_own (grown_push HG1.out _) (grown_rowA _ _ _) (fun x e => by cases e; exact HG1.out.size)
  refine (sealed_any W1.heap.size 6 all6 _ ord_all (six_src HS.out (HR _)) (HN.out.keep (HGr _))).mono ?_
  rintro e W2 ⟨b, es, rfl, F2, l2, g2⟩
  have HF : Hid (FB W2 b es ∧ w.heap.size ≤ b ∧ w.grownBy W2 none) := ⟨F2, Nat.le_trans (HGr _).size l2, grown_trans (HGr _) g2⟩
  clear F2 l2 g2 HR HGr
  go_wp2
  go_ret
  exact ⟨b, es, rfl, HF.out⟩
def noSrc : Nat → List Value
  | 0 => []
  | n + 1 => [.string ⟨#[]⟩, .nilFunc, .nilFunc, .nilFunc, .nilFunc] ++ noSrc n
theorem noSrc_len : ∀ n, (noSrc n).length = n * 5
  | 0 => rfl
  | n + 1 => by rw [noSrc, List.length_append, noSrc_len n]; simp only [List.length_cons, List.length_nil]; omega
def set5 (w : World) (b o k : Nat) : World := ((((w.setCell ⟨b, o, none⟩ (.string (sNm k))).setCell ⟨b, o + 1, none⟩ (.func (.func (fL k)) #[] #[])).setCell ⟨b, o + 2, none⟩ (.func (.func (fT k)) #[] #[])).setCell ⟨b, o + 3, none⟩ (.func (.func (fM k)) #[] #[])).setCell ⟨b, o + 4, none⟩ (.func (.func (fU k)) #[] #[])
theorem grown_s5 (w : World) (b o k : Nat) : w.grownBy (set5 w b o k) (some b) := ((((grown_set _ b _ _).trans (grown_set _ b _ _)).trans (grown_set _ b _ _)).trans (grown_set _ b _ _)).trans (grown_set _ b _ _)
theorem fives_of {α : Type} {X : List α} (h : X.length = 5) : ∃ a b c d e, X = [a, b, c, d, e] := by
  match X, h with
  | [a, b, c, d, e], _ => exact ⟨a, b, c, d, e, rfl⟩
theorem set_five (A X B : List Value) (n : Nat) (hA : A.length = n) (hX : X.length = 5) (x0 x1 x2 x3 x4 : Value) : (((((A ++ (X ++ B)).set n x0).set (n + 1) x1).set (n + 2) x2).set (n + 3) x3).set (n + 4) x4 = A ++ ([x0, x1, x2, x3, x4] ++ B) := by
  obtain ⟨a, b, c, d, e, rfl⟩ := fives_of hX
  subst hA
  simp [List.set_append_right]
theorem set5_block {w : World} {b : Nat} {A X B : List Value} {t : TypeId} (h : w.heap[b]? = some (.cells (A ++ (X ++ B)).toArray t (0, 0))) (n : Nat) (hA : A.length = n) (hX : X.length = 5) (k : Nat) : (set5 w b n k).heap[b]? = some (.cells (A ++ (srcC k ++ B)).toArray t (0, 0)) := by
  have e0 := block_set h (n) (.string (sNm k))
  rw [List.setIfInBounds_toArray] at e0
  have e1 := block_set e0 (n + 1) (.func (.func (fL k)) #[] #[])
  rw [List.setIfInBounds_toArray] at e1
  have e2 := block_set e1 (n + 2) (.func (.func (fT k)) #[] #[])
  rw [List.setIfInBounds_toArray] at e2
  have e3 := block_set e2 (n + 3) (.func (.func (fM k)) #[] #[])
  rw [List.setIfInBounds_toArray] at e3
  have e4 := block_set e3 (n + 4) (.func (.func (fU k)) #[] #[])
  rw [List.setIfInBounds_toArray] at e4
  rw [set_five A X B n hA hX] at e4
  exact e4
theorem srcs_snoc {ks : List Nat} {j k : Nat} (hk : ks[j]? = some k) : srcs (ks.take (j + 1)) = srcs (ks.take j) ++ srcC k := by
  unfold srcs
  rw [List.take_add_one, hk, List.flatMap_append]
  simp
theorem src_size : (Tryz.prog.info? 83).map (·.size) = some 5 := by kernel_rfl
theorem src_one (k : Nat) : (srcC k).toArray.all (·.oneCell') = true := all_oneCell_toArray fun v hv => by
  simp only [srcC, List.mem_cons, List.not_mem_nil, or_false] at hv
  rcases hv with rfl | rfl | rfl | rfl | rfl <;> rfl
theorem made_src : (madeCells (Value.agg #[.string ⟨#[]⟩, .nilFunc, .nilFunc, .nilFunc, .nilFunc]).cells (6 * 5)).toList = noSrc 6 := by kernel_rfl
theorem mid_there {w : World} {g : Nat} {t : TypeId} {A X B : List Value} (h : w.heap[g]? = some (.cells (A ++ (X ++ B)).toArray t (0, 0))) (o : Nat) (hA : A.length = o) : w.there g o X.length := fun i hi => by
  refine ⟨?_, block_free h _⟩
  rw [block_cell h, List.getElem?_toArray, List.getElem?_append_right (by omega), show o + i - A.length = i by omega, List.getElem?_append_left hi, List.getElem?_eq_getElem hi]
  rfl
set_option maxRecDepth 100000 in
set_option maxHeartbeats 4000000 in
theorem again_no (v : Value) (os : List Int) (w : World) (O : IntsIn w v os) (hn : ¬ IsOrd os) : Calls Tryz.prog 9 #[v] w fun e w' => e = .returned (.tuple #[.pointer none, .int .i64 2]) ∧ w.grownBy w' none := by
  have C := isOrder_any v os w O
  have HN : Hid (¬ IsOrd os) := hn
  obtain ⟨oa, oc, rfl, _⟩ := O
  clear hn
  go_enter Tryz.func9, Tryz.ntmps9
  go_wp2_with fail
  refine C.mono ?_
  rintro e W1 ⟨h9, g1⟩
  rcases h9 with ⟨h9, rfl⟩ | ⟨h9, rfl⟩
  · exact absurd h9 HN.out
  clear h9 C
  go_wp2
  go_ret2
  exact ⟨rfl, g1⟩
set_option maxRecDepth 100000 in
set_option maxHeartbeats 8000000 in
theorem again_yes (v : Value) (ks : List Nat) (w : World) (O : IntsIn w v (ks.map fun k : Nat => (k : Int))) (hk : Ord6 ks) (N : NamesAt w) : Calls Tryz.prog 9 #[v] w fun e w' => ∃ b es, e = .returned (.tuple #[.pointer (some ⟨b, 0, none⟩), .int .i64 0]) ∧ FB w' b es ∧ w.heap.size ≤ b ∧ w.grownBy w' none := by
  have C := isOrder_any v _ w O
  have HK : Hid (Ord6 ks) := hk
  have HN : Hid (NamesAt w) := N
  obtain ⟨oa, oc, rfl, HO0⟩ := O
  have h6 : (ks.map fun k : Nat => (k : Int)).length = 6 := by rw [List.length_map, hk.len]
  obtain ⟨og, oo, rfl, HO1⟩ := HO0 (by rw [h6]; decide)
  have HO : Hid (∀ (j : Nat) k, ks[j]? = some k → w.cell? ⟨og, oo + j, none⟩ = some (.int .i64 (k : Int))) := fun j k hjk => HO1 j _ (by rw [List.getElem?_map, hjk]; rfl)
  rw [h6] at C ⊢
  have sm6 : Small 6 := by unfold Small; decide
  obtain ⟨i0, hi, hz0, hz1, hz2⟩ := info_parts (P := Tryz.prog) (e := 83) (z := .agg #[.string ⟨#[]⟩, .nilFunc, .nilFunc, .nilFunc, .nilFunc]) (size := 5) (bytes := 48) (by kernel_rfl)
  clear HO0 HO1 h6 hk N
  go_enter Tryz.func9, Tryz.ntmps9
  go_wp2_with fail
  refine C.mono ?_
  rintro e W1 ⟨h9, g1⟩
  rcases h9 with ⟨h9, rfl⟩ | ⟨h9, rfl⟩
  rotate_left 1
  · exact absurd ⟨ks, rfl, HK.out⟩ h9
  have HG1 : Hid (w.grownBy W1 none) := g1
  clear h9 C g1
  go_wp2_with fail
  refine (six_any W1).mono ?_
  rintro e W2 ⟨rfl, g2⟩
  have HG2 : Hid (w.grownBy W2 none) := grown_trans HG1.out g2
  obtain ⟨sx, hsx⟩ : ∃ s, s = sixA := ⟨_, rfl⟩
  have hz : (Tryz.prog.info? 84).map (·.size) = some sx.size := by rw [hsx]; exact sixA_size
  have ho : sx.all (·.oneCell') = true := by rw [hsx]; exact sixA_one
  rw [← hsx]
  have HS : Hid (sx = sixA) := hsx
  clear hsx g2 HG1
  have HR : ∀ zs, ((W2.alloc (.cells zs 84)).setRow W2.heap.size sx).heap[W2.heap.size]? = some (.cells sx 84 (0, 0)) := fun zs => setRow_heap _ _ zs sx _ _ (alloc_at _ _ _)
  have HGr : ∀ zs, w.grownBy ((W2.alloc (.cells zs 84)).setRow W2.heap.size sx) none := fun zs => grown_own (grown_push HG2.out _) (grown_rowA _ _ _) (fun x e => by cases e; exact HG2.out.size)
  have HHR : Hid (∀ zs, ((W2.alloc (.cells zs 84)).setRow W2.heap.size sx).heap[W2.heap.size]? = some (.cells sx 84 (0, 0))) := HR
  have HHG : Hid (∀ zs, w.grownBy ((W2.alloc (.cells zs 84)).setRow W2.heap.size sx) none) := HGr
  clear HR HGr
  go_wp2_with (first | (refine wpList_store_rowTo rfl 84 (.tmp 4) (.tmp 11) rfl rfl W2.heap.size sx rfl rfl 84 _ (alloc_at _ _ _) hz (by rw [HS.out]; kernel_rfl) ho ?_) | (at_make; refine wpList_make_full _ rfl _ _ 87 rfl (W2.heap.size + 1) 83 i0 _ 5 Tryz.underlying87 hi hz0 hz1 .i64 .i64 _ _ 6 rfl rfl rfl rfl (by rw [hz2]; decide) (by decide) (by rw [setRow_size, World.size_alloc]; exact Nat.le_refl _) ?_; intro V o1 gv))
  have HP0 : Hid (V.heap[W2.heap.size + 1]? = some (.cells (srcs (ks.take 0) ++ noSrc 6).toArray 83 (0, 0))) := by
    obtain ⟨_, h0 | ⟨g, cap, cur, ev, _, hh, _, _, hsz, htk⟩⟩ := o1
    · exact absurd h0.2 (by decide)
    · injection ev with e1 _ e3
      injection e1 with e1
      injection e1 with e1 _ _
      rw [setRow_size, World.size_alloc] at e1
      subst e1
      subst e3
      have hc : cur = (noSrc 6).toArray := by
        apply Array.ext'
        rw [← made_src, ← htk, List.take_of_length_le (by rw [Array.length_toList, hsz]; exact Nat.le_refl _)]
      rw [hc] at hh
      show V.heap[W2.heap.size + 1]? = _
      rw [hh, List.take_zero]
      rfl
  have HT0 : Hid (V.heap[W2.heap.size]? = some (.cells sx 84 (0, 0))) := grown_keep gv (HHR.out _) (by simp)
  have HG0 : Hid (w.grownBy V none) := grown_trans (HHG.out _) gv
  have wT : w.heap.size ≤ W2.heap.size := HG2.out.size
  clear o1 gv HHR HHG hz ho hi hz0 hz1 hz2 HG2
  go_loopw [17] (fun x wr => ∃ j : Nat, j ≤ 6 ∧ x = .int .i64 (j : Int) ∧ wr.heap[W2.heap.size + 1]? = some (.cells (srcs (ks.take j) ++ noSrc (6 - j)).toArray 83 (0, 0)) ∧ wr.heap[W2.heap.size]? = some (.cells sx 84 (0, 0)) ∧ w.grownBy wr none) (fun x _ => 6 - (intOf x).toNat)
  case atStart =>
    refine ⟨0, Nat.zero_le _, rfl, ?_, ?_, ?_⟩
    · exact HP0.out
    · exact HT0.out
    · exact HG0.out
  case round =>
    clear HP0 HT0 HG0
    obtain ⟨j, hj, rfl, P1, T1, Gr⟩ := hrel
    obtain ⟨U, hU⟩ : ∃ U, U = wr := ⟨_, rfl⟩
    subst hU
    have HP : Hid (U.heap[W2.heap.size + 1]? = some (.cells (srcs (ks.take j) ++ noSrc (6 - j)).toArray 83 (0, 0))) := P1
    have HT : Hid (U.heap[W2.heap.size]? = some (.cells sx 84 (0, 0))) := T1
    have HG : Hid (w.grownBy U none) := Gr
    clear P1 T1 Gr
    rcases (show j < 6 ∨ j = 6 from by omega) with h1 | h1
    · have h1' : (j : Int) < 6 := by omega
      have j0 : (0 : Int) ≤ (j : Int) := by omega
      obtain ⟨k, hk⟩ : ∃ k, ks[j]? = some k := ⟨_, List.getElem?_eq_getElem (by rw [HK.out.len]; exact h1)⟩
      have hk6 : k < 6 := HK.out.lt (List.mem_of_getElem? hk)
      have k6 : (k : Int) < 6 := by omega
      have k0 : (0 : Int) ≤ (k : Int) := by omega
      have c0 := HG.out.cell (HO.out j k hk) (by simp)
      have HR := six_src HS.out HT.out k k (by rcases (show k = 0 ∨ k = 1 ∨ k = 2 ∨ k = 3 ∨ k = 4 ∨ k = 5 by omega) with rfl | rfl | rfl | rfl | rfl | rfl <;> rfl)
      obtain ⟨s0, s1, s2, s3, s4⟩ := HR
      have lA : (srcs (ks.take j)).length = j * 5 := by rw [srcs_len, List.length_take, HK.out.len]; omega
      have eN : noSrc (6 - j) = [.string ⟨#[]⟩, .nilFunc, .nilFunc, .nilFunc, .nilFunc] ++ noSrc (6 - (j + 1)) := by rw [show 6 - j = (6 - (j + 1)) + 1 by omega]; rfl
      have hL := HP.out
      rw [eN] at hL
      have HTh : Hid (U.there (W2.heap.size + 1) (j * 5) 5) := mid_there hL (j * 5) lA
      have HP2 : Hid ((set5 U (W2.heap.size + 1) (j * 5) k).heap[W2.heap.size + 1]? = some (.cells (srcs (ks.take (j + 1)) ++ noSrc (6 - (j + 1))).toArray 83 (0, 0))) := by
        have h9 := set5_block hL (j * 5) lA rfl k
        rw [srcs_snoc hk, List.append_assoc]
        exact h9
      have HT2 : Hid ((set5 U (W2.heap.size + 1) (j * 5) k).heap[W2.heap.size]? = some (.cells sx 84 (0, 0))) := grown_keep (grown_s5 _ _ _ _) HT.out (fun e => by injection e with e; omega)
      have HG2 : Hid (w.grownBy (set5 U (W2.heap.size + 1) (j * 5) k) none) := grown_own HG.out (grown_s5 _ _ _ _) (fun x e => by cases e; omega)
      obtain ⟨U2, hU2⟩ : ∃ U2, U2 = set5 U (W2.heap.size + 1) (j * 5) k := ⟨_, rfl⟩
      rw [← hU2] at HP2 HT2 HG2
      have HU2 : Hid (U.setCells (W2.heap.size + 1) (j * 5) (srcC k).toArray.toList = U2) := hU2.symm
      have hOn : (srcC k).toArray.all (·.oneCell') = true := src_one k
      have hSz : (Tryz.prog.info? 83).map (·.size) = some (srcC k).toArray.size := src_size
      clear hk lA eN hL hU2
      go_wp2_with (refine wpList_store_mid rfl 83 (.tmp 27) (.tmp 26) rfl (W2.heap.size + 1) (j * 5) (srcC k).toArray rfl rfl HTh.out hSz hOn ?_; rw [HU2.out])
      go_roundw
      case rel => exact ⟨j + 1, h1, by first | rfl | (rw [sm6.wrap h1]; rfl), HP2.out, HT2.out, HG2.out⟩
      case measure => first | exact meas_next h1 | (rw [sm6.wrap h1]; exact meas_next h1)
    · have h1' : ¬ (j : Int) < 6 := by omega
      have HPf : Hid (U.heap[W2.heap.size + 1]? = some (.cells (srcs ks ++ []).toArray 83 (0, 0))) := by have h9 := HP.out; rw [h1, List.take_of_length_le (by rw [HK.out.len]; exact Nat.le_refl _)] at h9; exact h9
      clear HP h1
      go_wp2_with fail
      refine (sealed_any (W2.heap.size + 1) 6 ks U HK.out (src_of HPf.out) (HN.out.keep HG.out)).mono ?_
      rintro e U2 ⟨b, es, rfl, F2, l2, g2⟩
      have HF : Hid (FB U2 b es ∧ w.heap.size ≤ b ∧ w.grownBy U2 none) := ⟨F2, Nat.le_trans HG.out.size l2, grown_trans HG.out g2⟩
      clear F2 l2 g2
      go_wp2
      go_ret2
      exact ⟨b, es, rfl, HF.out⟩
end Go.Proofs.YtknlcjhcamhfmaaGreatDoor
