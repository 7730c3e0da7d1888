/-
  isOrder of any list.
  The document's order.
-/
import Derived.Test.YtknlcjhcamhfmaaGreatDoorJ37
import Derived.Test.YtknlcjhcamhfmaaGreatDoorJ24
namespace Go.Proofs.YtknlcjhcamhfmaaGreatDoor
open Go.RowKit

theorem nod_len : ∀ (n : Nat) (l : List Nat), l.Nodup → (∀ x ∈ l, x < n) → l.length ≤ n ∧ (l.length = n → l.Perm (List.range n))
  | 0, [], _, _ => ⟨Nat.le_refl _, fun _ => List.Perm.refl _⟩
  | 0, x :: r, _, h => absurd (h x (by simp)) (Nat.not_lt_zero _)
  | n + 1, l, hd, h => by
    by_cases hn : n ∈ l
    · have p := List.perm_cons_erase hn
      have d2 := (p.nodup_iff.1 hd)
      rw [List.nodup_cons] at d2
      have ih := nod_len n (l.erase n) d2.2 (fun x hx => by
        have h1 := h x (List.mem_of_mem_erase hx)
        have h2 : ¬ x = n := fun e => d2.1 (e ▸ hx)
        omega)
      have hl := p.length_eq
      rw [List.length_cons] at hl
      refine ⟨by omega, fun e => ?_⟩
      have p2 := ih.2 (by omega)
      refine p.trans ?_
      rw [List.range_succ]
      exact (List.Perm.cons n p2).trans (List.perm_append_singleton n _).symm
    · have ih := nod_len n l hd (fun x hx => by
        have h1 := h x hx
        have h2 : ¬ x = n := fun e => hn (e ▸ hx)
        omega)
      exact ⟨by omega, fun e => by omega⟩
/-- A list that is each of 0 to 5 once. -/
def IsOrd (os : List Int) : Prop := ∃ ks : List Nat, os = ks.map (fun k : Nat => (k : Int)) ∧ Ord6 ks
/-- What has been met, up to a place. -/
structure Met (os : List Int) (j : Nat) (ks : List Nat) : Prop where
  is : os.take j = ks.map (fun k : Nat => (k : Int))
  nod : ks.Nodup
  lt : ∀ k ∈ ks, k < 6
theorem Met.nil (os : List Int) : Met os 0 [] := ⟨by simp, List.nodup_nil, fun k hk => by simp at hk⟩
theorem Met.len {os : List Int} {j : Nat} {ks : List Nat} (h : Met os j ks) (hj : j ≤ os.length) : ks.length = j := by
  have := congrArg List.length h.is
  rw [List.length_map, List.length_take] at this
  omega
theorem Met.next {os : List Int} {j : Nat} {ks : List Nat} (h : Met os j ks) {k : Nat} (hx : os[j]? = some (k : Int)) (hk : k < 6) (hn : ¬ k ∈ ks) : Met os (j + 1) (ks ++ [k]) := by
  refine ⟨?_, ?_, fun x hx => ?_⟩
  · rw [List.take_add_one, hx, h.is, List.map_append]; rfl
  · rw [List.nodup_append]
    exact ⟨h.nod, by simp, fun a ha b hb => by have : b = k := by simpa using hb
                                               intro e; exact hn (by rw [← this, ← e]; exact ha)⟩
  · rcases List.mem_append.1 hx with hx | hx
    · exact h.lt x hx
    · have : x = k := by simpa using hx
      omega
theorem Met.full {os : List Int} {ks : List Nat} (h : Met os 6 ks) (h6 : os.length = 6) : os = ks.map (fun k : Nat => (k : Int)) ∧ Ord6 ks := by
  have e := h.is
  rw [List.take_of_length_le (by omega)] at e
  exact ⟨e, (nod_len 6 ks h.nod h.lt).2 (h.len (by omega))⟩
theorem IsOrd.len {os : List Int} (h : IsOrd os) : os.length = 6 := by
  obtain ⟨ks, rfl, h⟩ := h
  rw [List.length_map, h.len]
theorem IsOrd.in {os : List Int} (h : IsOrd os) {j : Nat} {x : Int} (hx : os[j]? = some x) : ∃ k : Nat, x = (k : Int) ∧ k < 6 := by
  obtain ⟨ks, rfl, h⟩ := h
  rw [List.getElem?_map] at hx
  cases hk : ks[j]? with
  | none => rw [hk] at hx; cases hx
  | some k =>
    rw [hk] at hx
    exact ⟨k, (Option.some.inj hx).symm, h.lt (List.mem_of_getElem? hk)⟩
theorem Met.twice {os : List Int} {j : Nat} {ks : List Nat} (h : Met os j ks) {k : Nat} (hx : os[j]? = some (k : Int)) (hn : k ∈ ks) : ¬ IsOrd os := by
  rintro ⟨ls, rfl, h2⟩
  have hm : (k : Int) ∈ (ls.map (fun k : Nat => (k : Int))).take j := by rw [h.is]; exact List.mem_map.2 ⟨k, hn, rfl⟩
  rw [← List.map_take] at hm
  obtain ⟨k', hk', e⟩ := List.mem_map.1 hm
  have e' : k' = k := by omega
  subst e'
  rw [List.getElem?_map] at hx
  cases hk : ls[j]? with
  | none => rw [hk] at hx; cases hx
  | some y =>
    rw [hk] at hx
    have e2 : y = k' := by have h9 : ((y : Nat) : Int) = (k' : Int) := Option.some.inj hx; omega
    subst e2
    obtain ⟨i, hi⟩ := List.getElem?_of_mem hk'
    have hij : i < j := by have := (List.getElem?_eq_some_iff.1 hi).1; rw [List.length_take] at this; omega
    rw [List.getElem?_take, if_pos hij] at hi
    obtain ⟨a1, b1⟩ := List.getElem?_eq_some_iff.1 hi
    obtain ⟨a2, b2⟩ := List.getElem?_eq_some_iff.1 hk
    exact List.pairwise_iff_getElem.1 h2.nodup i j a1 a2 hij (b1.trans b2.symm)
def seenB (ks : List Nat) (i : Nat) : Bool := ks.contains i
def seenC (ks : List Nat) : Array Value := #[.bool (seenB ks 0), .bool (seenB ks 1), .bool (seenB ks 2), .bool (seenB ks 3), .bool (seenB ks 4), .bool (seenB ks 5)]
theorem seen_at {w : World} {b : Nat} {ks : List Nat} {t : TypeId} (h : w.heap[b]? = some (.cells (seenC ks) t (0, 0))) {k : Nat} (hk : k < 6) : w.cell? ⟨b, k, none⟩ = some (.bool (seenB ks k)) := by
  rw [block_cell h]
  rcases (show k = 0 ∨ k = 1 ∨ k = 2 ∨ k = 3 ∨ k = 4 ∨ k = 5 by omega) with rfl | rfl | rfl | rfl | rfl | rfl <;> rfl
theorem seen_set {w : World} {b : Nat} {ks : List Nat} {t : TypeId} (h : w.heap[b]? = some (.cells (seenC ks) t (0, 0))) {k : Nat} (hk : k < 6) : (w.setCell ⟨b, k, none⟩ (.bool true)).heap[b]? = some (.cells (seenC (ks ++ [k])) t (0, 0)) := by
  rw [block_set h k (.bool true)]
  congr 2
  rcases (show k = 0 ∨ k = 1 ∨ k = 2 ∨ k = 3 ∨ k = 4 ∨ k = 5 by omega) with rfl | rfl | rfl | rfl | rfl | rfl <;> simp [seenC, seenB]
set_option maxRecDepth 100000 in
set_option maxHeartbeats 4000000 in
theorem isOrder_any (v : Value) (os : List Int) (w : World) (O : IntsIn w v os) : Calls Tryz.prog 40 #[v] w fun e w' => ((IsOrd os ∧ e = .returned (.bool true)) ∨ (¬ IsOrd os ∧ e = .returned (.bool false))) ∧ w.grownBy w' none := by
  obtain ⟨oa, oc, rfl, HO0⟩ := O
  have HO : Hid (0 < os.length → ∃ g o, oa = some ⟨g, o, none⟩ ∧ ∀ (j : Nat) x, os[j]? = some x → w.cell? ⟨g, o + j, none⟩ = some (.int .i64 x)) := HO0
  clear HO0
  by_cases h6 : os.length = 6
  rotate_left 1
  · have h6' : ¬ (os.length : Int) = 6 := by omega
    have HF : Hid (¬ IsOrd os) := fun h => h6 h.len
    go_enter Tryz.func40, Tryz.ntmps40
    go_wp2
    go_ret
    exact ⟨Or.inr ⟨HF.out, rfl⟩, grown_refl _ _⟩
  rw [h6]
  have sm6 : Small 6 := by unfold Small; decide
  obtain ⟨g, o, rfl, HOc0⟩ := HO.out (by omega)
  have HOc : Hid (∀ (j : Nat) x, os[j]? = some x → w.cell? ⟨g, o + j, none⟩ = some (.int .i64 x)) := HOc0
  clear HOc0 HO
  obtain ⟨S, hS⟩ : ∃ S, S = w.heap.size := ⟨_, rfl⟩
  obtain ⟨W1, hW1⟩ : ∃ W1, W1 = w.alloc (.cells #[.bool false, .bool false, .bool false, .bool false, .bool false, .bool false] 134) := ⟨_, rfl⟩
  have HG1 : Hid (w.grownBy W1 none) := by rw [hW1]; exact World.grownBy_alloc _ _ none
  have HS1 : Hid (W1.heap[S]? = some (.cells (seenC []) 134 (0, 0))) := by rw [hW1, hS]; exact alloc_at _ _ _
  have hgS : ¬ g = S := by
    obtain ⟨x, hx⟩ : ∃ x, os[0]? = some x := ⟨_, List.getElem?_eq_getElem (by omega)⟩
    have := cell_block' (HOc.out 0 x hx)
    omega
  have wS : w.heap.size ≤ S := Nat.le_of_eq hS.symm
  go_enter Tryz.func40, Tryz.ntmps40
  go_wp2_with fail
  rw [← hS, ← hW1]
  clear hS hW1
  go_loopw [11] (fun x wr => ∃ (j : Nat) (ks : List Nat), j ≤ 6 ∧ x = .int .i64 (j : Int) ∧ Met os j ks ∧ wr.heap[S]? = some (.cells (seenC ks) 134 (0, 0)) ∧ w.grownBy wr none) (fun x _ => 6 - (intOf x).toNat)
  case atStart => exact ⟨0, [], Nat.zero_le _, rfl, Met.nil os, HS1.out, HG1.out⟩
  case round =>
    clear HS1 HG1
    obtain ⟨j, ks, hj, rfl, M, Sn, Gr⟩ := hrel
    obtain ⟨U, hU⟩ : ∃ U, U = wr := ⟨_, rfl⟩
    subst hU
    have HM : Hid (Met os j ks) := M
    have HSn : Hid (U.heap[S]? = some (.cells (seenC ks) 134 (0, 0))) := Sn
    have HG : Hid (w.grownBy U none) := Gr
    clear M Sn Gr
    rcases (show j < 6 ∨ j = 6 from by omega) with h1 | h1
    · have h1' : (j : Int) < 6 := by omega
      have j0 : (0 : Int) ≤ (j : Int) := by omega
      obtain ⟨x, hx⟩ : ∃ x, os[j]? = some x := ⟨_, List.getElem?_eq_getElem (by omega)⟩
      have c0 := HG.out.cell (HOc.out j x hx) (by simp)
      have HX : Hid (os[j]? = some x) := hx
      clear hx
      by_cases hlo : x < 0
      · have HF : Hid (¬ IsOrd os) := fun h => by obtain ⟨k, e, _⟩ := h.in HX.out; omega
        go_wp2
        go_ret
        exact ⟨Or.inr ⟨HF.out, rfl⟩, HG.out⟩
      by_cases hhi : 6 ≤ x
      · have HF : Hid (¬ IsOrd os) := fun h => by obtain ⟨k, e, h6⟩ := h.in HX.out; omega
        go_wp2
        go_ret
        exact ⟨Or.inr ⟨HF.out, rfl⟩, HG.out⟩
      obtain ⟨k, rfl⟩ : ∃ k : Nat, x = (k : Int) := ⟨x.toNat, by omega⟩
      have hk6 : k < 6 := by omega
      have k6 : (k : Int) < 6 := by omega
      have k0 : (0 : Int) ≤ (k : Int) := by omega
      have cs := seen_at HSn.out hk6
      cases hsb : seenB ks k with
      | true =>
        rw [hsb] at cs
        have HF : Hid (¬ IsOrd os) := HM.out.twice HX.out (by simpa [seenB] using hsb)
        go_wp2
        go_ret
        exact ⟨Or.inr ⟨HF.out, rfl⟩, HG.out⟩
      | false =>
        rw [hsb] at cs
        have fS : U.frozen? ⟨S, k, none⟩ = false := block_free HSn.out k
        have HM2 : Hid (Met os (j + 1) (ks ++ [k])) := HM.out.next HX.out hk6 (by simpa [seenB] using hsb)
        have HS2 : Hid ((U.setCell ⟨S, k, none⟩ (.bool true)).heap[S]? = some (.cells (seenC (ks ++ [k])) 134 (0, 0))) := seen_set HSn.out hk6
        have HG2 : Hid (w.grownBy (U.setCell ⟨S, k, none⟩ (.bool true)) none) := grown_own HG.out (grown_set _ _ _ _) (fun x e => by cases e; exact wS)
        go_wp2_with fail
        go_roundw
        case rel => exact ⟨j + 1, ks ++ [k], h1, by first | rfl | (rw [sm6.wrap h1]; rfl), HM2.out, HS2.out, HG2.out⟩
        case measure => first | exact meas_next h1 | (rw [sm6.wrap h1]; exact meas_next h1)
    · have h1' : ¬ (j : Int) < 6 := by omega
      subst h1
      have HF : Hid (IsOrd os) := ⟨ks, HM.out.full h6⟩
      go_wp2
      go_ret
      exact ⟨Or.inl ⟨HF.out, rfl⟩, HG.out⟩
end Go.Proofs.YtknlcjhcamhfmaaGreatDoor
namespace Go.Proofs.YtknlcjhcamhfmaaGreatDoor
open Go.RowKit

set_option maxRecDepth 100000 in
set_option maxHeartbeats 4000000 in
theorem rorder_any (v : Value) (os : List Int) (w : World) (O : IntsIn w v os) : Calls Tryz.prog 62 #[v] w fun e w' => ((IsOrd os ∧ e = .returned (.bool true)) ∨ (¬ IsOrd os ∧ e = .returned (.bool false))) ∧ w.grownBy w' none := by
  obtain ⟨oa, oc, rfl, HO0⟩ := O
  have HO : Hid (0 < os.length → ∃ g o, oa = some ⟨g, o, none⟩ ∧ ∀ (j : Nat) x, os[j]? = some x → w.cell? ⟨g, o + j, none⟩ = some (.int .i64 x)) := HO0
  clear HO0
  by_cases h6 : os.length = 6
  rotate_left 1
  · have h6' : ¬ (os.length : Int) = 6 := by omega
    have HF : Hid (¬ IsOrd os) := fun h => h6 h.len
    go_enter Tryz.func62, Tryz.ntmps62
    go_wp2
    go_ret
    exact ⟨Or.inr ⟨HF.out, rfl⟩, grown_refl _ _⟩
  rw [h6]
  have sm6 : Small 6 := by unfold Small; decide
  obtain ⟨g, o, rfl, HOc0⟩ := HO.out (by omega)
  have HOc : Hid (∀ (j : Nat) x, os[j]? = some x → w.cell? ⟨g, o + j, none⟩ = some (.int .i64 x)) := HOc0
  clear HOc0 HO
  obtain ⟨S, hS⟩ : ∃ S, S = w.heap.size := ⟨_, rfl⟩
  obtain ⟨W1, hW1⟩ : ∃ W1, W1 = w.alloc (.cells #[.bool false, .bool false, .bool false, .bool false, .bool false, .bool false] 134) := ⟨_, rfl⟩
  have HG1 : Hid (w.grownBy W1 none) := by rw [hW1]; exact World.grownBy_alloc _ _ none
  have HS1 : Hid (W1.heap[S]? = some (.cells (seenC []) 134 (0, 0))) := by rw [hW1, hS]; exact alloc_at _ _ _
  have hgS : ¬ g = S := by
    obtain ⟨x, hx⟩ : ∃ x, os[0]? = some x := ⟨_, List.getElem?_eq_getElem (by omega)⟩
    have := cell_block' (HOc.out 0 x hx)
    omega
  have wS : w.heap.size ≤ S := Nat.le_of_eq hS.symm
  go_enter Tryz.func62, Tryz.ntmps62
  go_wp2_with fail
  rw [← hS, ← hW1]
  clear hS hW1
  go_loopw [4] (fun x wr => ∃ (j : Nat) (ks : List Nat), j ≤ 6 ∧ x = .int .i64 (j : Int) ∧ Met os j ks ∧ wr.heap[S]? = some (.cells (seenC ks) 134 (0, 0)) ∧ w.grownBy wr none) (fun x _ => 6 - (intOf x).toNat)
  case atStart => exact ⟨0, [], Nat.zero_le _, rfl, Met.nil os, HS1.out, HG1.out⟩
  case round =>
    clear HS1 HG1
    obtain ⟨j, ks, hj, rfl, M, Sn, Gr⟩ := hrel
    obtain ⟨U, hU⟩ : ∃ U, U = wr := ⟨_, rfl⟩
    subst hU
    have HM : Hid (Met os j ks) := M
    have HSn : Hid (U.heap[S]? = some (.cells (seenC ks) 134 (0, 0))) := Sn
    have HG : Hid (w.grownBy U none) := Gr
    clear M Sn Gr
    rcases (show j < 6 ∨ j = 6 from by omega) with h1 | h1
    · have h1' : (j : Int) < 6 := by omega
      have j0 : (0 : Int) ≤ (j : Int) := by omega
      obtain ⟨x, hx⟩ : ∃ x, os[j]? = some x := ⟨_, List.getElem?_eq_getElem (by omega)⟩
      have c0 := HG.out.cell (HOc.out j x hx) (by simp)
      have HX : Hid (os[j]? = some x) := hx
      clear hx
      by_cases hlo : x < 0
      · have HF : Hid (¬ IsOrd os) := fun h => by obtain ⟨k, e, _⟩ := h.in HX.out; omega
        go_wp2
        go_ret
        exact ⟨Or.inr ⟨HF.out, rfl⟩, HG.out⟩
      by_cases hhi : 5 < x
      · have HF : Hid (¬ IsOrd os) := fun h => by obtain ⟨k, e, h6⟩ := h.in HX.out; omega
        go_wp2
        go_ret
        exact ⟨Or.inr ⟨HF.out, rfl⟩, HG.out⟩
      obtain ⟨k, rfl⟩ : ∃ k : Nat, x = (k : Int) := ⟨x.toNat, by omega⟩
      have hk6 : k < 6 := by omega
      have k6 : (k : Int) < 6 := by omega
      have k0 : (0 : Int) ≤ (k : Int) := by omega
      have cs := seen_at HSn.out hk6
      cases hsb : seenB ks k with
      | true =>
        rw [hsb] at cs
        have HF : Hid (¬ IsOrd os) := HM.out.twice HX.out (by simpa [seenB] using hsb)
        go_wp2
        go_ret
        exact ⟨Or.inr ⟨HF.out, rfl⟩, HG.out⟩
      | false =>
        rw [hsb] at cs
        have fS : U.frozen? ⟨S, k, none⟩ = false := block_free HSn.out k
        have HM2 : Hid (Met os (j + 1) (ks ++ [k])) := HM.out.next HX.out hk6 (by simpa [seenB] using hsb)
        have HS2 : Hid ((U.setCell ⟨S, k, none⟩ (.bool true)).heap[S]? = some (.cells (seenC (ks ++ [k])) 134 (0, 0))) := seen_set HSn.out hk6
        have HG2 : Hid (w.grownBy (U.setCell ⟨S, k, none⟩ (.bool true)) none) := grown_own HG.out (grown_set _ _ _ _) (fun x e => by cases e; exact wS)
        go_wp2_with fail
        go_roundw
        case rel => exact ⟨j + 1, ks ++ [k], h1, by first | rfl | (rw [sm6.wrap h1]; rfl), HM2.out, HS2.out, HG2.out⟩
        case measure => first | exact meas_next h1 | (rw [sm6.wrap h1]; exact meas_next h1)
    · have h1' : ¬ (j : Int) < 6 := by omega
      subst h1
      have HF : Hid (IsOrd os) := ⟨ks, HM.out.full h6⟩
      go_wp2
      go_ret
      exact ⟨Or.inl ⟨HF.out, rfl⟩, HG.out⟩
end Go.Proofs.YtknlcjhcamhfmaaGreatDoor
