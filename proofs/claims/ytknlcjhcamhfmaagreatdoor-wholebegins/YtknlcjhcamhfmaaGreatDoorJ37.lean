/-
  isOrder of any list.
  The document's order.
  fill of package air.
  fill of package earth.
-/
import Derived.Test.YtknlcjhcamhfmaaGreatDoorJ34
import Derived.Test.YtknlcjhcamhfmaaGreatDoorJ22
import Derived.Test.YtknlcjhcamhfmaaGreatDoorJ36
import Derived.Test.YtknlcjhcamhfmaaGreatDoorJ28
import Derived.Laws.EntriesVeiled
import Derived.Deep.RegionHeld3
namespace Go.Proofs.YtknlcjhcamhfmaaGreatDoor
open Go.RowKit

theorem nod_len : ∀ (n : Nat) (l : List Nat), l.Nodup → (∀ x ∈ l, x < n) → l.length ≤ n ∧ (l.length = n → l.Perm (List.range n))
  | 0, [], _, _ => ⟨Nat.le_refl _, fun _ => List.Perm.refl _⟩
  | 0, x :: r, _, h => absurd (h x (by simp)) (Nat.not_lt_zero _)
  | n + 1, l, hd, h => by
    by_cases hn : n ∈ l
    · have p := List.perm_cons_erase hn
      have d2 := (p.nodup_iff.1 hd)
      rw [List.nodup_cons] at d2
      have ih := nod_len n (l.erase n) d2.2 (fun x hx => by
        have h1 := h x (List.mem_of_mem_erase hx)
        have h2 : ¬ x = n := fun e => d2.1 (e ▸ hx)
        omega)
      have hl := p.length_eq
      rw [List.length_cons] at hl
      refine ⟨by omega, fun e => ?_⟩
      have p2 := ih.2 (by omega)
      refine p.trans ?_
      rw [List.range_succ]
      exact (List.Perm.cons n p2).trans (List.perm_append_singleton n _).symm
    · have ih := nod_len n l hd (fun x hx => by
        have h1 := h x hx
        have h2 : ¬ x = n := fun e => hn (e ▸ hx)
        omega)
      exact ⟨by omega, fun e => by omega⟩
/-- A list that is each of 0 to 5 once. -/
def IsOrd (os : List Int) : Prop := ∃ ks : List Nat, os = ks.map (fun k : Nat => (k : Int)) ∧ Ord6 ks
/-- What has been met, up to a place. -/
structure Met (os : List Int) (j : Nat) (ks : List Nat) : Prop where
  is : os.take j = ks.map (fun k : Nat => (k : Int))
  nod : ks.Nodup
  lt : ∀ k ∈ ks, k < 6
theorem Met.nil (os : List Int) : Met os 0 [] := ⟨by simp, List.nodup_nil, fun k hk => by simp at hk⟩
theorem Met.len {os : List Int} {j : Nat} {ks : List Nat} (h : Met os j ks) (hj : j ≤ os.length) : ks.length = j := by
  have := congrArg List.length h.is
  rw [List.length_map, List.length_take] at this
  omega
theorem Met.next {os : List Int} {j : Nat} {ks : List Nat} (h : Met os j ks) {k : Nat} (hx : os[j]? = some (k : Int)) (hk : k < 6) (hn : ¬ k ∈ ks) : Met os (j + 1) (ks ++ [k]) := by
  refine ⟨?_, ?_, fun x hx => ?_⟩
  · rw [List.take_add_one, hx, h.is, List.map_append]; rfl
  · rw [List.nodup_append]
    exact ⟨h.nod, by simp, fun a ha b hb => by have : b = k := by simpa using hb
                                               intro e; exact hn (by rw [← this, ← e]; exact ha)⟩
  · rcases List.mem_append.1 hx with hx | hx
    · exact h.lt x hx
    · have : x = k := by simpa using hx
      omega
theorem Met.full {os : List Int} {ks : List Nat} (h : Met os 6 ks) (h6 : os.length = 6) : os = ks.map (fun k : Nat => (k : Int)) ∧ Ord6 ks := by
  have e := h.is
  rw [List.take_of_length_le (by omega)] at e
  exact ⟨e, (nod_len 6 ks h.nod h.lt).2 (h.len (by omega))⟩
theorem IsOrd.len {os : List Int} (h : IsOrd os) : os.length = 6 := by
  obtain ⟨ks, rfl, h⟩ := h
  rw [List.length_map, h.len]
theorem IsOrd.in {os : List Int} (h : IsOrd os) {j : Nat} {x : Int} (hx : os[j]? = some x) : ∃ k : Nat, x = (k : Int) ∧ k < 6 := by
  obtain ⟨ks, rfl, h⟩ := h
  rw [List.getElem?_map] at hx
  cases hk : ks[j]? with
  | none => rw [hk] at hx; cases hx
  | some k =>
    rw [hk] at hx
    exact ⟨k, (Option.some.inj hx).symm, h.lt (List.mem_of_getElem? hk)⟩
theorem Met.twice {os : List Int} {j : Nat} {ks : List Nat} (h : Met os j ks) {k : Nat} (hx : os[j]? = some (k : Int)) (hn : k ∈ ks) : ¬ IsOrd os := by
  rintro ⟨ls, rfl, h2⟩
  have hm : (k : Int) ∈ (ls.map (fun k : Nat => (k : Int))).take j := by rw [h.is]; exact List.mem_map.2 ⟨k, hn, rfl⟩
  rw [← List.map_take] at hm
  obtain ⟨k', hk', e⟩ := List.mem_map.1 hm
  have e' : k' = k := by omega
  subst e'
  rw [List.getElem?_map] at hx
  cases hk : ls[j]? with
  | none => rw [hk] at hx; cases hx
  | some y =>
    rw [hk] at hx
    have e2 : y = k' := by have h9 : ((y : Nat) : Int) = (k' : Int) := Option.some.inj hx; omega
    subst e2
    obtain ⟨i, hi⟩ := List.getElem?_of_mem hk'
    have hij : i < j := by have := (List.getElem?_eq_some_iff.1 hi).1; rw [List.length_take] at this; omega
    rw [List.getElem?_take, if_pos hij] at hi
    obtain ⟨a1, b1⟩ := List.getElem?_eq_some_iff.1 hi
    obtain ⟨a2, b2⟩ := List.getElem?_eq_some_iff.1 hk
    exact List.pairwise_iff_getElem.1 h2.nodup i j a1 a2 hij (b1.trans b2.symm)
def seenB (ks : List Nat) (i : Nat) : Bool := ks.contains i
def seenC (ks : List Nat) : Array Value := #[.bool (seenB ks 0), .bool (seenB ks 1), .bool (seenB ks 2), .bool (seenB ks 3), .bool (seenB ks 4), .bool (seenB ks 5)]
theorem seen_at {w : World} {b : Nat} {ks : List Nat} {t : TypeId} (h : w.heap[b]? = some (.cells (seenC ks) t (0, 0))) {k : Nat} (hk : k < 6) : w.cell? ⟨b, k, none⟩ = some (.bool (seenB ks k)) := by
  rw [block_cell h]
  rcases (show k = 0 ∨ k = 1 ∨ k = 2 ∨ k = 3 ∨ k = 4 ∨ k = 5 by omega) with rfl | rfl | rfl | rfl | rfl | rfl <;> rfl
theorem seen_set {w : World} {b : Nat} {ks : List Nat} {t : TypeId} (h : w.heap[b]? = some (.cells (seenC ks) t (0, 0))) {k : Nat} (hk : k < 6) : (w.setCell ⟨b, k, none⟩ (.bool true)).heap[b]? = some (.cells (seenC (ks ++ [k])) t (0, 0)) := by
  rw [block_set h k (.bool true)]
  congr 2
  rcases (show k = 0 ∨ k = 1 ∨ k = 2 ∨ k = 3 ∨ k = 4 ∨ k = 5 by omega) with rfl | rfl | rfl | rfl | rfl | rfl <;> simp [seenC, seenB]
set_option maxRecDepth 100000 in
set_option maxHeartbeats 4000000 in
theorem isOrder_any (v : Value) (os : List Int) (w : World) (O : IntsIn w v os) : Calls Tryz.prog 40 #[v] w fun e w' => ((IsOrd os ∧ e = .returned (.bool true)) ∨ (¬ IsOrd os ∧ e = .returned (.bool false))) ∧ w.grownBy w' none := by
  obtain ⟨oa, oc, rfl, HO0⟩ := O
  have HO : Hid (0 < os.length → ∃ g o, oa = some ⟨g, o, none⟩ ∧ ∀ (j : Nat) x, os[j]? = some x → w.cell? ⟨g, o + j, none⟩ = some (.int .i64 x)) := HO0
  clear HO0
  by_cases h6 : os.length = 6
  rotate_left 1
  · have h6' : ¬ (os.length : Int) = 6 := by omega
    have HF : Hid (¬ IsOrd os) := fun h => h6 h.len
    go_enter Tryz.func40, Tryz.ntmps40
    go_wp2
    go_ret
    exact ⟨Or.inr ⟨HF.out, rfl⟩, grown_refl _ _⟩
  rw [h6]
  have sm6 : Small 6 := by unfold Small; decide
  obtain ⟨g, o, rfl, HOc0⟩ := HO.out (by omega)
  have HOc : Hid (∀ (j : Nat) x, os[j]? = some x → w.cell? ⟨g, o + j, none⟩ = some (.int .i64 x)) := HOc0
  clear HOc0 HO
  obtain ⟨S, hS⟩ : ∃ S, S = w.heap.size := ⟨_, rfl⟩
  obtain ⟨W1, hW1⟩ : ∃ W1, W1 = w.alloc (.cells #[.bool false, .bool false, .bool false, .bool false, .bool false, .bool false] 134) := ⟨_, rfl⟩
  have HG1 : Hid (w.grownBy W1 none) := by rw [hW1]; exact World.grownBy_alloc _ _ none
  have HS1 : Hid (W1.heap[S]? = some (.cells (seenC []) 134 (0, 0))) := by rw [hW1, hS]; exact alloc_at _ _ _
  have hgS : ¬ g = S := by
    obtain ⟨x, hx⟩ : ∃ x, os[0]? = some x := ⟨_, List.getElem?_eq_getElem (by omega)⟩
    have := cell_block' (HOc.out 0 x hx)
    omega
  have wS : w.heap.size ≤ S := Nat.le_of_eq hS.symm
  go_enter Tryz.func40, Tryz.ntmps40
  go_wp2_with fail
  rw [← hS, ← hW1]
  clear hS hW1
  go_loopw [11] (fun x wr => ∃ (j : Nat) (ks : List Nat), j ≤ 6 ∧ x = .int .i64 (j : Int) ∧ Met os j ks ∧ wr.heap[S]? = some (.cells (seenC ks) 134 (0, 0)) ∧ w.grownBy wr none) (fun x _ => 6 - (intOf x).toNat)
  case atStart => exact ⟨0, [], Nat.zero_le _, rfl, Met.nil os, HS1.out, HG1.out⟩
  case round =>
    clear HS1 HG1
    obtain ⟨j, ks, hj, rfl, M, Sn, Gr⟩ := hrel
    obtain ⟨U, hU⟩ : ∃ U, U = wr := ⟨_, rfl⟩
    subst hU
    have HM : Hid (Met os j ks) := M
    have HSn : Hid (U.heap[S]? = some (.cells (seenC ks) 134 (0, 0))) := Sn
    have HG : Hid (w.grownBy U none) := Gr
    clear M Sn Gr
    rcases (show j < 6 ∨ j = 6 from by omega) with h1 | h1
    · have h1' : (j : Int) < 6 := by omega
      have j0 : (0 : Int) ≤ (j : Int) := by omega
      obtain ⟨x, hx⟩ : ∃ x, os[j]? = some x := ⟨_, List.getElem?_eq_getElem (by omega)⟩
      have c0 := HG.out.cell (HOc.out j x hx) (by simp)
      have HX : Hid (os[j]? = some x) := hx
      clear hx
      by_cases hlo : x < 0
      · have HF : Hid (¬ IsOrd os) := fun h => by obtain ⟨k, e, _⟩ := h.in HX.out; omega
        go_wp2
        go_ret
        exact ⟨Or.inr ⟨HF.out, rfl⟩, HG.out⟩
      by_cases hhi : 6 ≤ x
      · have HF : Hid (¬ IsOrd os) := fun h => by obtain ⟨k, e, h6⟩ := h.in HX.out; omega
        go_wp2
        go_ret
        exact ⟨Or.inr ⟨HF.out, rfl⟩, HG.out⟩
      obtain ⟨k, rfl⟩ : ∃ k : Nat, x = (k : Int) := ⟨x.toNat, by omega⟩
      have hk6 : k < 6 := by omega
      have k6 : (k : Int) < 6 := by omega
      have k0 : (0 : Int) ≤ (k : Int) := by omega
      have cs := seen_at HSn.out hk6
      cases hsb : seenB ks k with
      | true =>
        rw [hsb] at cs
        have HF : Hid (¬ IsOrd os) := HM.out.twice HX.out (by simpa [seenB] using hsb)
        go_wp2
        go_ret
        exact ⟨Or.inr ⟨HF.out, rfl⟩, HG.out⟩
      | false =>
        rw [hsb] at cs
        have fS : U.frozen? ⟨S, k, none⟩ = false := block_free HSn.out k
        have HM2 : Hid (Met os (j + 1) (ks ++ [k])) := HM.out.next HX.out hk6 (by simpa [seenB] using hsb)
        have HS2 : Hid ((U.setCell ⟨S, k, none⟩ (.bool true)).heap[S]? = some (.cells (seenC (ks ++ [k])) 134 (0, 0))) := seen_set HSn.out hk6
        have HG2 : Hid (w.grownBy (U.setCell ⟨S, k, none⟩ (.bool true)) none) := grown_own HG.out (grown_set _ _ _ _) (fun x e => by cases e; exact wS)
        go_wp2_with fail
        go_roundw
        case rel => exact ⟨j + 1, ks ++ [k], h1, by first | rfl | (rw [sm6.wrap h1]; rfl), HM2.out, HS2.out, HG2.out⟩
        case measure => first | exact meas_next h1 | (rw [sm6.wrap h1]; exact meas_next h1)
    · have h1' : ¬ (j : Int) < 6 := by omega
      subst h1
      have HF : Hid (IsOrd os) := ⟨ks, HM.out.full h6⟩
      go_wp2
      go_ret
      exact ⟨Or.inl ⟨HF.out, rfl⟩, HG.out⟩
end Go.Proofs.YtknlcjhcamhfmaaGreatDoor
namespace Go.Proofs.YtknlcjhcamhfmaaGreatDoor
open Go.RowKit

set_option maxRecDepth 100000 in
set_option maxHeartbeats 4000000 in
theorem rorder_any (v : Value) (os : List Int) (w : World) (O : IntsIn w v os) : Calls Tryz.prog 62 #[v] w fun e w' => ((IsOrd os ∧ e = .returned (.bool true)) ∨ (¬ IsOrd os ∧ e = .returned (.bool false))) ∧ w.grownBy w' none := by
  obtain ⟨oa, oc, rfl, HO0⟩ := O
  have HO : Hid (0 < os.length → ∃ g o, oa = some ⟨g, o, none⟩ ∧ ∀ (j : Nat) x, os[j]? = some x → w.cell? ⟨g, o + j, none⟩ = some (.int .i64 x)) := HO0
  clear HO0
  by_cases h6 : os.length = 6
  rotate_left 1
  · have h6' : ¬ (os.length : Int) = 6 := by omega
    have HF : Hid (¬ IsOrd os) := fun h => h6 h.len
    go_enter Tryz.func62, Tryz.ntmps62
    go_wp2
    go_ret
    exact ⟨Or.inr ⟨HF.out, rfl⟩, grown_refl _ _⟩
  rw [h6]
  have sm6 : Small 6 := by unfold Small; decide
  obtain ⟨g, o, rfl, HOc0⟩ := HO.out (by omega)
  have HOc : Hid (∀ (j : Nat) x, os[j]? = some x → w.cell? ⟨g, o + j, none⟩ = some (.int .i64 x)) := HOc0
  clear HOc0 HO
  obtain ⟨S, hS⟩ : ∃ S, S = w.heap.size := ⟨_, rfl⟩
  obtain ⟨W1, hW1⟩ : ∃ W1, W1 = w.alloc (.cells #[.bool false, .bool false, .bool false, .bool false, .bool false, .bool false] 134) := ⟨_, rfl⟩
  have HG1 : Hid (w.grownBy W1 none) := by rw [hW1]; exact World.grownBy_alloc _ _ none
  have HS1 : Hid (W1.heap[S]? = some (.cells (seenC []) 134 (0, 0))) := by rw [hW1, hS]; exact alloc_at _ _ _
  have hgS : ¬ g = S := by
    obtain ⟨x, hx⟩ : ∃ x, os[0]? = some x := ⟨_, List.getElem?_eq_getElem (by omega)⟩
    have := cell_block' (HOc.out 0 x hx)
    omega
  have wS : w.heap.size ≤ S := Nat.le_of_eq hS.symm
  go_enter Tryz.func62, Tryz.ntmps62
  go_wp2_with fail
  rw [← hS, ← hW1]
  clear hS hW1
  go_loopw [4] (fun x wr => ∃ (j : Nat) (ks : List Nat), j ≤ 6 ∧ x = .int .i64 (j : Int) ∧ Met os j ks ∧ wr.heap[S]? = some (.cells (seenC ks) 134 (0, 0)) ∧ w.grownBy wr none) (fun x _ => 6 - (intOf x).toNat)
  case atStart => exact ⟨0, [], Nat.zero_le _, rfl, Met.nil os, HS1.out, HG1.out⟩
  case round =>
    clear HS1 HG1
    obtain ⟨j, ks, hj, rfl, M, Sn, Gr⟩ := hrel
    obtain ⟨U, hU⟩ : ∃ U, U = wr := ⟨_, rfl⟩
    subst hU
    have HM : Hid (Met os j ks) := M
    have HSn : Hid (U.heap[S]? = some (.cells (seenC ks) 134 (0, 0))) := Sn
    have HG : Hid (w.grownBy U none) := Gr
    clear M Sn Gr
    rcases (show j < 6 ∨ j = 6 from by omega) with h1 | h1
    · have h1' : (j : Int) < 6 := by omega
      have j0 : (0 : Int) ≤ (j : Int) := by omega
      obtain ⟨x, hx⟩ : ∃ x, os[j]? = some x := ⟨_, List.getElem?_eq_getElem (by omega)⟩
      have c0 := HG.out.cell (HOc.out j x hx) (by simp)
      have HX : Hid (os[j]? = some x) := hx
      clear hx
      by_cases hlo : x < 0
      · have HF : Hid (¬ IsOrd os) := fun h => by obtain ⟨k, e, _⟩ := h.in HX.out; omega
        go_wp2
        go_ret
        exact ⟨Or.inr ⟨HF.out, rfl⟩, HG.out⟩
      by_cases hhi : 5 < x
      · have HF : Hid (¬ IsOrd os) := fun h => by obtain ⟨k, e, h6⟩ := h.in HX.out; omega
        go_wp2
        go_ret
        exact ⟨Or.inr ⟨HF.out, rfl⟩, HG.out⟩
      obtain ⟨k, rfl⟩ : ∃ k : Nat, x = (k : Int) := ⟨x.toNat, by omega⟩
      have hk6 : k < 6 := by omega
      have k6 : (k : Int) < 6 := by omega
      have k0 : (0 : Int) ≤ (k : Int) := by omega
      have cs := seen_at HSn.out hk6
      cases hsb : seenB ks k with
      | true =>
        rw [hsb] at cs
        have HF : Hid (¬ IsOrd os) := HM.out.twice HX.out (by simpa [seenB] using hsb)
        go_wp2
        go_ret
        exact ⟨Or.inr ⟨HF.out, rfl⟩, HG.out⟩
      | false =>
        rw [hsb] at cs
        have fS : U.frozen? ⟨S, k, none⟩ = false := block_free HSn.out k
        have HM2 : Hid (Met os (j + 1) (ks ++ [k])) := HM.out.next HX.out hk6 (by simpa [seenB] using hsb)
        have HS2 : Hid ((U.setCell ⟨S, k, none⟩ (.bool true)).heap[S]? = some (.cells (seenC (ks ++ [k])) 134 (0, 0))) := seen_set HSn.out hk6
        have HG2 : Hid (w.grownBy (U.setCell ⟨S, k, none⟩ (.bool true)) none) := grown_own HG.out (grown_set _ _ _ _) (fun x e => by cases e; exact wS)
        go_wp2_with fail
        go_roundw
        case rel => exact ⟨j + 1, ks ++ [k], h1, by first | rfl | (rw [sm6.wrap h1]; rfl), HM2.out, HS2.out, HG2.out⟩
        case measure => first | exact meas_next h1 | (rw [sm6.wrap h1]; exact meas_next h1)
    · have h1' : ¬ (j : Int) < 6 := by omega
      subst h1
      have HF : Hid (IsOrd os) := ⟨ks, HM.out.full h6⟩
      go_wp2
      go_ret
      exact ⟨Or.inl ⟨HF.out, rfl⟩, HG.out⟩
end Go.Proofs.YtknlcjhcamhfmaaGreatDoor
namespace Go.Proofs.YtknlcjhcamhfmaaGreatDoor
open Go.RowKit

set_option maxRecDepth 100000 in
set_option maxHeartbeats 8000000 in
theorem fill_0 (ok : Nat → Prop) (b : Nat) (es : List Ent) (p q : Pl) (d : List (Hd × List Pt)) (w : World) (B : Book ok w b es p) (hok : ¬ ok b) (hnew : ∀ n, w.heap.size ≤ n → ok n) (N : NamesAt w) (h0 : ¬ b = 0) (hS : stepOk 0 p q) (hq : q.shut = false) (hE : (es.map hp).Perm d) (hN : ((d ++ sCs 0).map fun x => x.1.nm).Nodup) (h64 : d.length + 6 ≤ 64) : Calls Tryz.prog 104 #[.pointer (some ⟨b, 0, none⟩), .agg #[.string ⟨#[97, 105, 114]⟩, .func (.func 79) #[] #[], .func (.func 80) #[] #[], .func (.func 81) #[] #[], .func (.func 82) #[] #[]]] w fun e w' => e = .returned (.int .i64 0) ∧ ∃ es', Book ok w' b es' q ∧ (es'.map hp).Perm (d ++ sCs 0) ∧ w.grownBy w' (some b) := by
  have hmf : ∀ (fn : Fn) (first cap : Array Value) (w : World), (Instr.makeFunc fn first cap).run Tryz.prog w = .ok (.func fn first cap) w := fun _ _ _ _ => rfl
  have HB : Hid (Book ok w b es p) := B
  have HN : Hid (NamesAt w) := N
  have HW : Hid (∀ n, w.heap.size ≤ n → ok n) := hnew
  have HE : Hid ((es.map hp).Perm d) := hE
  have HNo : Hid (((d ++ sCs 0).map fun x => x.1.nm).Nodup) := hN
  have HS : Hid (stepOk 0 p q) := hS
  have HQ : Hid (q.shut = false) := hq
  have H64 : Hid (d.length + 6 ≤ 64) := h64
  have hbw : b < w.heap.size := B.lt
  clear B N hnew hE hN hS hq h64
  obtain ⟨X, hX⟩ : ∃ X, X = w.heap.size := ⟨_, rfl⟩
  obtain ⟨W2, hW2⟩ : ∃ W2, W2 = (w.alloc (.cells #[.pointer (some ⟨b, 0, none⟩)] 24)).alloc (.cells #[.string ⟨#[97, 105, 114]⟩, .func (.func 79) #[] #[], .func (.func 80) #[] #[], .func (.func 81) #[] #[], .func (.func 82) #[] #[]] 83) := ⟨_, rfl⟩
  have G2 : w.grownBy W2 none := by rw [hW2]; exact grown_push (World.grownBy_alloc _ _ none) _
  have X2 : W2.heap[X]? = some (.cells #[.pointer (some ⟨b, 0, none⟩)] 24 (0, 0)) := by rw [hW2, hX]; exact grown_keep (World.grownBy_alloc _ _ none) (alloc_at w _ _) (by simp)
  have Y2 : W2.heap[X + 1]? = some (.cells #[.string ⟨#[97, 105, 114]⟩, .func (.func 79) #[] #[], .func (.func 80) #[] #[], .func (.func 81) #[] #[], .func (.func 82) #[] #[]] 83 (0, 0)) := by
    have := alloc_at (w.alloc (.cells #[.pointer (some ⟨b, 0, none⟩)] 24)) #[.string ⟨#[97, 105, 114]⟩, .func (.func 79) #[] #[], .func (.func 80) #[] #[], .func (.func 81) #[] #[], .func (.func 82) #[] #[]] 83
    rw [World.size_alloc] at this
    rw [hW2, hX]
    exact this
  have x0 : W2.cell? ⟨X, 0, none⟩ = some (.pointer (some ⟨b, 0, none⟩)) := block_cell X2 0
  have y1 : W2.cell? ⟨X + 1, 1, none⟩ = some (.func (.func 79) #[] #[]) := block_cell Y2 1
  have y2 : W2.cell? ⟨X + 1, 2, none⟩ = some (.func (.func 80) #[] #[]) := block_cell Y2 2
  have y3 : W2.cell? ⟨X + 1, 3, none⟩ = some (.func (.func 81) #[] #[]) := block_cell Y2 3
  have HG2 : Hid (w.grownBy W2 none) := G2
  have HX0 : Hid (W2.cell? ⟨X, 0, none⟩ = some (.pointer (some ⟨b, 0, none⟩))) := x0
  have HY1 : Hid (W2.cell? ⟨X + 1, 1, none⟩ = some (.func (.func 79) #[] #[])) := y1
  have HY2 : Hid (W2.cell? ⟨X + 1, 2, none⟩ = some (.func (.func 80) #[] #[])) := y2
  have hxb : ¬ X = b := by omega
  have hyb : ¬ X + 1 = b := by omega
  have H0 : W2.grownBy W2.drew (some b) := grown_drew' _ _
  have HBd : Hid (Book ok W2.drew b es p) := (HB.out.keep G2).keep (grown_drew _)
  clear X2 Y2 y1 y2 G2
  go_enter Tryz.func104, Tryz.ntmps104
  go_upto_region 1 with fail
  rw [← hX, ← hW2]
  have HXs : Hid (X = w.heap.size) := hX
  clear hW2 hX
  refine wp_region_held_drew (S := fun w' => W2.grownBy w' (some b)) (by kernel_rfl) H0 (fun hHeld => ?_)
  refine wpAnyH_take (i := 0) (v := ?_) rfl (by kernel_rfl) (by kernel_rfl) (by kernel_rfl) (fun _ _ _ h => h) (Or.inl ⟨by rfl, ?_⟩) (by assumption) ?_
  rotate_left 1
  · (intro w0 hSw; go_simp; try with_reducible rfl)
  simp only [List.getElem_toArray, List.getElem_cons_zero]
  go_frame
  refine wpAnyH_take (i := 1) (v := ?_) rfl (by kernel_rfl) (by kernel_rfl) (by kernel_rfl) (fun _ _ _ h => h) (Or.inl ⟨by rfl, ?_⟩) (by assumption) ?_
  rotate_left 1
  · (intro w0 hSw; have a9 := World.grownBy.cell hSw y3 (by simpa using hyb); go_simp; try with_reducible rfl)
  simp only [List.getElem_toArray, List.getElem_cons_zero, List.getElem_cons_succ]
  go_frame
  refine wpAnyH_take (i := 3) (v := ?_) rfl (by kernel_rfl) (by kernel_rfl) (by kernel_rfl) (fun _ _ _ h => h) (Or.inl ⟨by rfl, ?_⟩) (by assumption) ?_
  rotate_left 1
  · (intro w0 hSw; have a9 := World.grownBy.cell hSw x0 (by simpa using hxb); go_simp; try with_reducible rfl)
  simp only [List.getElem_toArray, List.getElem_cons_zero, List.getElem_cons_succ]
  go_frame
  refine wpAnyH_take (i := 4) (v := ?_) rfl (by kernel_rfl) (by kernel_rfl) (by kernel_rfl) (fun _ _ _ h => h) (Or.inl ⟨by rfl, ?_⟩) (by assumption) ?_
  rotate_left 1
  · (intro w0 hSw; go_simp; try with_reducible rfl)
  simp only [List.getElem_toArray, List.getElem_cons_zero, List.getElem_cons_succ]
  go_frame
  refine wpAnyH_ready (rs := [2]) (by kernel_rfl) (by simp) ?_
  refine AllReadyH.cons rfl (fun K hK => ?_) AllReadyH.nil
  simp only [List.getElem_toArray, List.getElem_cons_zero, List.getElem_cons_succ]
  go_simp
  go_at_call 81
  refine (Ai.marks W2.drew).mono ?_
  rintro e U3 ⟨rfl, h3⟩
  have g3 : W2.drew.grownBy U3 none := by rw [h3]; exact grown_refl _ _
  have m3 : MsAt U3 b (.slice none 0 0) (sMs 0) := ⟨_, rfl, fun h => absurd h (by decide)⟩
  clear h3
  refine hK.out _ _ (grown_own' (grown_trans (grown_drew _) g3) (grown_refl _ _)) (fun hHeld2 => ?_)
  clear hK K
  (try go_frame)
  refine wpAnyH_ready (rs := [5]) (by kernel_rfl) (by simp) ?_
  refine AllReadyH.cons rfl (fun K hK => ?_) AllReadyH.nil
  simp only [List.getElem_toArray, List.getElem_cons_zero, List.getElem_cons_succ]
  go_simp
  go_at_call 183
  refine (addM_any ok b es p (sMs 0) _ U3 (HBd.out.keep g3) hok m3 HS.out.1 (by decide)).mono ?_
  rintro e U4 ⟨rfl, B4, g4⟩
  refine hK.out _ _ (grown_own' (grown_trans (grown_drew _) g3) g4) (fun hHeld2 => ?_)
  clear hK K
  (try go_frame)
  refine wpAnyH_take (i := 6) (v := ?_) rfl (by kernel_rfl) (by kernel_rfl) (by kernel_rfl) (fun _ _ _ h => h) (Or.inl ⟨by rfl, ?_⟩) (by assumption) ?_
  rotate_left 1
  · (intro w0 hSw; go_simp; try with_reducible rfl)
  simp only [List.getElem_toArray, List.getElem_cons_zero, List.getElem_cons_succ]
  go_frame
  refine wpAnyH_done (by kernel_rfl) ?_ _
  have HB4 : Hid (Book ok U4 b es (pMs p (sMs 0))) := B4
  have HG4 : Hid (W2.grownBy U4 (some b)) := grown_own' (grown_trans (grown_drew _) g3) g4
  clear B4 g4 g3 m3 hHeld hHeld2 H0 HBd x0 y3 HB
  have y2 := HG4.out.cell HY2.out (by simpa using hyb)
  go_wp2_with fail
  refine (Ai.traits U4).mono ?_
  rintro e U5 ⟨rfl, h5⟩
  have g5 : U4.grownBy U5 none := by rw [h5]; exact World.grownBy_alloc _ _ none
  have t5 : TsAt U5 b (.slice (some ⟨U4.heap.size, 0, none⟩) 2 2) (sTs 0) := ⟨_, rfl, fun _ => ⟨_, rfl, fun e => by have := HG2.out.size; have := HG4.out.size; omega, by rw [h5]; exact alloc_at _ _ _⟩⟩
  have CT := addT_any ok b X es (pMs p (sMs 0)) (sTs 0) _ U5 (HB4.out.keep g5) hok (((HN.out.keep HG2.out).keepR HG4.out (by simpa using fun e => h0 e.symm)).keep g5) h0 (g5.cell (HG4.out.cell HX0.out (by simpa using hxb)) (by simp)) hxb t5 HS.out.2.1 (by decide)
  rw [HS.out.2.2] at CT
  clear y2 h5 t5
  go_wp2_with fail
  refine CT.mono ?_
  rintro e U6 ⟨rfl, B6, g6⟩
  have HB6 : Hid (Book ok U6 b es q) := B6
  have HG6 : Hid (W2.grownBy U6 (some b)) := HG4.out.trans (grown_own' g5 g6)
  clear B6 g6 g5 CT HB4 HG4
  have y1 := HG6.out.cell HY1.out (by simpa using hyb)
  have x0 := HG6.out.cell HX0.out (by simpa using hxb)
  have H0 : U6.grownBy U6.drew (some b) := grown_drew' _ _
  go_upto_region 8 with fail
  refine wp_region_held_drew (S := fun w' => U6.grownBy w' (some b)) (by kernel_rfl) H0 (fun hHeld => ?_)
  refine wpAnyH_take (i := 0) (v := ?_) rfl (by kernel_rfl) (by kernel_rfl) (by kernel_rfl) (fun _ _ _ h => h) (Or.inl ⟨by rfl, ?_⟩) (by assumption) ?_
  rotate_left 1
  · (intro w0 hSw; go_simp; try with_reducible rfl)
  simp only [List.getElem_toArray, List.getElem_cons_zero]
  go_frame
  refine wpAnyH_take (i := 1) (v := ?_) rfl (by kernel_rfl) (by kernel_rfl) (by kernel_rfl) (fun _ _ _ h => h) (Or.inl ⟨by rfl, ?_⟩) (by assumption) ?_
  rotate_left 1
  · (intro w0 hSw; have a9 := World.grownBy.cell hSw y1 (by simpa using hyb); go_simp; try with_reducible rfl)
  simp only [List.getElem_toArray, List.getElem_cons_zero, List.getElem_cons_succ]
  go_frame
  refine wpAnyH_take (i := 3) (v := ?_) rfl (by kernel_rfl) (by kernel_rfl) (by kernel_rfl) (fun _ _ _ h => h) (Or.inl ⟨by rfl, ?_⟩) (by assumption) ?_
  rotate_left 1
  · (intro w0 hSw; have a9 := World.grownBy.cell hSw x0 (by simpa using hxb); go_simp; try with_reducible rfl)
  simp only [List.getElem_toArray, List.getElem_cons_zero, List.getElem_cons_succ]
  go_frame
  refine wpAnyH_take (i := 4) (v := ?_) rfl (by kernel_rfl) (by kernel_rfl) (by kernel_rfl) (fun _ _ _ h => h) (Or.inl ⟨by rfl, ?_⟩) (by assumption) ?_
  rotate_left 1
  · (intro w0 hSw; go_simp; try with_reducible rfl)
  simp only [List.getElem_toArray, List.getElem_cons_zero, List.getElem_cons_succ]
  go_frame
  refine wpAnyH_ready (rs := [2]) (by kernel_rfl) (by simp) ?_
  refine AllReadyH.cons rfl (fun K hK => ?_) AllReadyH.nil
  simp only [List.getElem_toArray, List.getElem_cons_zero, List.getElem_cons_succ]
  go_simp
  go_at_call 79
  refine (Ai.list_std U6.drew).mono ?_
  rintro e U7 ⟨g, cs, rfl, A⟩
  have hcl : cs.length = 6 := by have h9 := congrArg List.length A.is; rw [List.length_map] at h9; exact h9
  have szU : X ≤ U6.drew.heap.size := by have h6 := HXs.out; have h7 := HG2.out.size; have h8 := HG6.out.size; have h9 := (grown_drew U6).size; omega
  have CC := addC_any ok b g U6.drew.heap.size es cs q (sCs 0) d U7 ((HB6.out.keep (grown_drew _)).keep A.gr) hok (fun n hn => HW.out n (by have h6 := HXs.out; have h9 := A.gr.size; omega)) (fun e => by have h6 := HXs.out; have h9 := A.low; omega) A.lies A.is A.own (by have h6 := HXs.out; omega) HE.out HNo.out (fun x hx => cAll_chk x (sCs_mem (by decide) hx)) (by rw [show (sCs 0).length = 6 from rfl]; exact H64.out) (fun x hx => cAll_four x (sCs_mem (by decide) hx)) HQ.out
  rw [hcl] at CC
  refine hK.out _ _ (grown_own' (grown_trans (grown_drew _) A.gr) (grown_refl _ _)) (fun hHeld2 => ?_)
  clear hK K
  (try go_frame)
  refine wpAnyH_ready (rs := [5]) (by kernel_rfl) (by simp) ?_
  refine AllReadyH.cons rfl (fun K hK => ?_) AllReadyH.nil
  simp only [List.getElem_toArray, List.getElem_cons_zero, List.getElem_cons_succ]
  go_simp
  go_at_call 187
  refine (CC).mono ?_
  rintro e U8 ⟨rfl, es2, B8, P8, g8⟩
  refine hK.out _ _ (grown_own' (grown_trans (grown_drew _) A.gr) g8) (fun hHeld2 => ?_)
  clear hK K
  (try go_frame)
  refine wpAnyH_take (i := 6) (v := ?_) rfl (by kernel_rfl) (by kernel_rfl) (by kernel_rfl) (fun _ _ _ h => h) (Or.inl ⟨by rfl, ?_⟩) (by assumption) ?_
  rotate_left 1
  · (intro w0 hSw; go_simp; try with_reducible rfl)
  simp only [List.getElem_toArray, List.getElem_cons_zero, List.getElem_cons_succ]
  go_frame
  refine wpAnyH_done (by kernel_rfl) ?_ _
  have HF : Hid (Book ok U8 b es2 q ∧ (es2.map hp).Perm (d ++ sCs 0) ∧ w.grownBy U8 (some b)) := ⟨B8, P8, grown_own' HG2.out (HG6.out.trans (grown_own' (grown_trans (grown_drew _) A.gr) g8))⟩
  clear B8 P8 g8 A CC hHeld hHeld2 H0 x0 y1 HB6 HG6 hcl szU
  go_wp2
  go_ret
  exact ⟨rfl, es2, HF.out⟩
end Go.Proofs.YtknlcjhcamhfmaaGreatDoor
namespace Go.Proofs.YtknlcjhcamhfmaaGreatDoor
open Go.RowKit

set_option maxRecDepth 100000 in
set_option maxHeartbeats 8000000 in
theorem fill_1 (ok : Nat → Prop) (b : Nat) (es : List Ent) (p q : Pl) (d : List (Hd × List Pt)) (w : World) (B : Book ok w b es p) (hok : ¬ ok b) (hnew : ∀ n, w.heap.size ≤ n → ok n) (N : NamesAt w) (h0 : ¬ b = 0) (hS : stepOk 1 p q) (hq : q.shut = false) (hE : (es.map hp).Perm d) (hN : ((d ++ sCs 1).map fun x => x.1.nm).Nodup) (h64 : d.length + 6 ≤ 64) : Calls Tryz.prog 104 #[.pointer (some ⟨b, 0, none⟩), .agg #[.string ⟨#[101, 97, 114, 116, 104]⟩, .func (.func 83) #[] #[], .func (.func 84) #[] #[], .func (.func 85) #[] #[], .func (.func 86) #[] #[]]] w fun e w' => e = .returned (.int .i64 0) ∧ ∃ es', Book ok w' b es' q ∧ (es'.map hp).Perm (d ++ sCs 1) ∧ w.grownBy w' (some b) := by
  have hmf : ∀ (fn : Fn) (first cap : Array Value) (w : World), (Instr.makeFunc fn first cap).run Tryz.prog w = .ok (.func fn first cap) w := fun _ _ _ _ => rfl
  have HB : Hid (Book ok w b es p) := B
  have HN : Hid (NamesAt w) := N
  have HW : Hid (∀ n, w.heap.size ≤ n → ok n) := hnew
  have HE : Hid ((es.map hp).Perm d) := hE
  have HNo : Hid (((d ++ sCs 1).map fun x => x.1.nm).Nodup) := hN
  have HS : Hid (stepOk 1 p q) := hS
  have HQ : Hid (q.shut = false) := hq
  have H64 : Hid (d.length + 6 ≤ 64) := h64
  have hbw : b < w.heap.size := B.lt
  clear B N hnew hE hN hS hq h64
  obtain ⟨X, hX⟩ : ∃ X, X = w.heap.size := ⟨_, rfl⟩
  obtain ⟨W2, hW2⟩ : ∃ W2, W2 = (w.alloc (.cells #[.pointer (some ⟨b, 0, none⟩)] 24)).alloc (.cells #[.string ⟨#[101, 97, 114, 116, 104]⟩, .func (.func 83) #[] #[], .func (.func 84) #[] #[], .func (.func 85) #[] #[], .func (.func 86) #[] #[]] 83) := ⟨_, rfl⟩
  have G2 : w.grownBy W2 none := by rw [hW2]; exact grown_push (World.grownBy_alloc _ _ none) _
  have X2 : W2.heap[X]? = some (.cells #[.pointer (some ⟨b, 0, none⟩)] 24 (0, 0)) := by rw [hW2, hX]; exact grown_keep (World.grownBy_alloc _ _ none) (alloc_at w _ _) (by simp)
  have Y2 : W2.heap[X + 1]? = some (.cells #[.string ⟨#[101, 97, 114, 116, 104]⟩, .func (.func 83) #[] #[], .func (.func 84) #[] #[], .func (.func 85) #[] #[], .func (.func 86) #[] #[]] 83 (0, 0)) := by
    have := alloc_at (w.alloc (.cells #[.pointer (some ⟨b, 0, none⟩)] 24)) #[.string ⟨#[101, 97, 114, 116, 104]⟩, .func (.func 83) #[] #[], .func (.func 84) #[] #[], .func (.func 85) #[] #[], .func (.func 86) #[] #[]] 83
    rw [World.size_alloc] at this
    rw [hW2, hX]
    exact this
  have x0 : W2.cell? ⟨X, 0, none⟩ = some (.pointer (some ⟨b, 0, none⟩)) := block_cell X2 0
  have y1 : W2.cell? ⟨X + 1, 1, none⟩ = some (.func (.func 83) #[] #[]) := block_cell Y2 1
  have y2 : W2.cell? ⟨X + 1, 2, none⟩ = some (.func (.func 84) #[] #[]) := block_cell Y2 2
  have y3 : W2.cell? ⟨X + 1, 3, none⟩ = some (.func (.func 85) #[] #[]) := block_cell Y2 3
  have HG2 : Hid (w.grownBy W2 none) := G2
  have HX0 : Hid (W2.cell? ⟨X, 0, none⟩ = some (.pointer (some ⟨b, 0, none⟩))) := x0
  have HY1 : Hid (W2.cell? ⟨X + 1, 1, none⟩ = some (.func (.func 83) #[] #[])) := y1
  have HY2 : Hid (W2.cell? ⟨X + 1, 2, none⟩ = some (.func (.func 84) #[] #[])) := y2
  have hxb : ¬ X = b := by omega
  have hyb : ¬ X + 1 = b := by omega
  have H0 : W2.grownBy W2.drew (some b) := grown_drew' _ _
  have HBd : Hid (Book ok W2.drew b es p) := (HB.out.keep G2).keep (grown_drew _)
  clear X2 Y2 y1 y2 G2
  go_enter Tryz.func104, Tryz.ntmps104
  go_upto_region 1 with fail
  rw [← hX, ← hW2]
  have HXs : Hid (X = w.heap.size) := hX
  clear hW2 hX
  refine wp_region_held_drew (S := fun w' => W2.grownBy w' (some b)) (by kernel_rfl) H0 (fun hHeld => ?_)
  refine wpAnyH_take (i := 0) (v := ?_) rfl (by kernel_rfl) (by kernel_rfl) (by kernel_rfl) (fun _ _ _ h => h) (Or.inl ⟨by rfl, ?_⟩) (by assumption) ?_
  rotate_left 1
  · (intro w0 hSw; go_simp; try with_reducible rfl)
  simp only [List.getElem_toArray, List.getElem_cons_zero]
  go_frame
  refine wpAnyH_take (i := 1) (v := ?_) rfl (by kernel_rfl) (by kernel_rfl) (by kernel_rfl) (fun _ _ _ h => h) (Or.inl ⟨by rfl, ?_⟩) (by assumption) ?_
  rotate_left 1
  · (intro w0 hSw; have a9 := World.grownBy.cell hSw y3 (by simpa using hyb); go_simp; try with_reducible rfl)
  simp only [List.getElem_toArray, List.getElem_cons_zero, List.getElem_cons_succ]
  go_frame
  refine wpAnyH_take (i := 3) (v := ?_) rfl (by kernel_rfl) (by kernel_rfl) (by kernel_rfl) (fun _ _ _ h => h) (Or.inl ⟨by rfl, ?_⟩) (by assumption) ?_
  rotate_left 1
  · (intro w0 hSw; have a9 := World.grownBy.cell hSw x0 (by simpa using hxb); go_simp; try with_reducible rfl)
  simp only [List.getElem_toArray, List.getElem_cons_zero, List.getElem_cons_succ]
  go_frame
  refine wpAnyH_take (i := 4) (v := ?_) rfl (by kernel_rfl) (by kernel_rfl) (by kernel_rfl) (fun _ _ _ h => h) (Or.inl ⟨by rfl, ?_⟩) (by assumption) ?_
  rotate_left 1
  · (intro w0 hSw; go_simp; try with_reducible rfl)
  simp only [List.getElem_toArray, List.getElem_cons_zero, List.getElem_cons_succ]
  go_frame
  refine wpAnyH_ready (rs := [2]) (by kernel_rfl) (by simp) ?_
  refine AllReadyH.cons rfl (fun K hK => ?_) AllReadyH.nil
  simp only [List.getElem_toArray, List.getElem_cons_zero, List.getElem_cons_succ]
  go_simp
  go_at_call 85
  refine (Ea.marks W2.drew).mono ?_
  rintro e U3 ⟨rfl, h3⟩
  have g3 : W2.drew.grownBy U3 none := by rw [h3]; exact World.grownBy_alloc _ _ none
  have m3 : MsAt U3 b (.slice (some ⟨W2.drew.heap.size, 0, none⟩) 1 1) (sMs 1) := ⟨_, rfl, fun _ => ⟨_, rfl, fun e => by have := HG2.out.size; have := (grown_drew W2).size; omega, by rw [h3]; exact alloc_at _ _ _⟩⟩
  clear h3
  refine hK.out _ _ (grown_own' (grown_trans (grown_drew _) g3) (grown_refl _ _)) (fun hHeld2 => ?_)
  clear hK K
  (try go_frame)
  refine wpAnyH_ready (rs := [5]) (by kernel_rfl) (by simp) ?_
  refine AllReadyH.cons rfl (fun K hK => ?_) AllReadyH.nil
  simp only [List.getElem_toArray, List.getElem_cons_zero, List.getElem_cons_succ]
  go_simp
  go_at_call 183
  refine (addM_any ok b es p (sMs 1) _ U3 (HBd.out.keep g3) hok m3 HS.out.1 (by decide)).mono ?_
  rintro e U4 ⟨rfl, B4, g4⟩
  refine hK.out _ _ (grown_own' (grown_trans (grown_drew _) g3) g4) (fun hHeld2 => ?_)
  clear hK K
  (try go_frame)
  refine wpAnyH_take (i := 6) (v := ?_) rfl (by kernel_rfl) (by kernel_rfl) (by kernel_rfl) (fun _ _ _ h => h) (Or.inl ⟨by rfl, ?_⟩) (by assumption) ?_
  rotate_left 1
  · (intro w0 hSw; go_simp; try with_reducible rfl)
  simp only [List.getElem_toArray, List.getElem_cons_zero, List.getElem_cons_succ]
  go_frame
  refine wpAnyH_done (by kernel_rfl) ?_ _
  have HB4 : Hid (Book ok U4 b es (pMs p (sMs 1))) := B4
  have HG4 : Hid (W2.grownBy U4 (some b)) := grown_own' (grown_trans (grown_drew _) g3) g4
  clear B4 g4 g3 m3 hHeld hHeld2 H0 HBd x0 y3 HB
  have y2 := HG4.out.cell HY2.out (by simpa using hyb)
  go_wp2_with fail
  refine (Ea.traits U4).mono ?_
  rintro e U5 ⟨rfl, h5⟩
  have g5 : U4.grownBy U5 none := by rw [h5]; exact World.grownBy_alloc _ _ none
  have t5 : TsAt U5 b (.slice (some ⟨U4.heap.size, 0, none⟩) 1 1) (sTs 1) := ⟨_, rfl, fun _ => ⟨_, rfl, fun e => by have := HG2.out.size; have := HG4.out.size; omega, by rw [h5]; exact alloc_at _ _ _⟩⟩
  have CT := addT_any ok b X es (pMs p (sMs 1)) (sTs 1) _ U5 (HB4.out.keep g5) hok (((HN.out.keep HG2.out).keepR HG4.out (by simpa using fun e => h0 e.symm)).keep g5) h0 (g5.cell (HG4.out.cell HX0.out (by simpa using hxb)) (by simp)) hxb t5 HS.out.2.1 (by decide)
  rw [HS.out.2.2] at CT
  clear y2 h5 t5
  go_wp2_with fail
  refine CT.mono ?_
  rintro e U6 ⟨rfl, B6, g6⟩
  have HB6 : Hid (Book ok U6 b es q) := B6
  have HG6 : Hid (W2.grownBy U6 (some b)) := HG4.out.trans (grown_own' g5 g6)
  clear B6 g6 g5 CT HB4 HG4
  have y1 := HG6.out.cell HY1.out (by simpa using hyb)
  have x0 := HG6.out.cell HX0.out (by simpa using hxb)
  have H0 : U6.grownBy U6.drew (some b) := grown_drew' _ _
  go_upto_region 8 with fail
  refine wp_region_held_drew (S := fun w' => U6.grownBy w' (some b)) (by kernel_rfl) H0 (fun hHeld => ?_)
  refine wpAnyH_take (i := 0) (v := ?_) rfl (by kernel_rfl) (by kernel_rfl) (by kernel_rfl) (fun _ _ _ h => h) (Or.inl ⟨by rfl, ?_⟩) (by assumption) ?_
  rotate_left 1
  · (intro w0 hSw; go_simp; try with_reducible rfl)
  simp only [List.getElem_toArray, List.getElem_cons_zero]
  go_frame
  refine wpAnyH_take (i := 1) (v := ?_) rfl (by kernel_rfl) (by kernel_rfl) (by kernel_rfl) (fun _ _ _ h => h) (Or.inl ⟨by rfl, ?_⟩) (by assumption) ?_
  rotate_left 1
  · (intro w0 hSw; have a9 := World.grownBy.cell hSw y1 (by simpa using hyb); go_simp; try with_reducible rfl)
  simp only [List.getElem_toArray, List.getElem_cons_zero, List.getElem_cons_succ]
  go_frame
  refine wpAnyH_take (i := 3) (v := ?_) rfl (by kernel_rfl) (by kernel_rfl) (by kernel_rfl) (fun _ _ _ h => h) (Or.inl ⟨by rfl, ?_⟩) (by assumption) ?_
  rotate_left 1
  · (intro w0 hSw; have a9 := World.grownBy.cell hSw x0 (by simpa using hxb); go_simp; try with_reducible rfl)
  simp only [List.getElem_toArray, List.getElem_cons_zero, List.getElem_cons_succ]
  go_frame
  refine wpAnyH_take (i := 4) (v := ?_) rfl (by kernel_rfl) (by kernel_rfl) (by kernel_rfl) (fun _ _ _ h => h) (Or.inl ⟨by rfl, ?_⟩) (by assumption) ?_
  rotate_left 1
  · (intro w0 hSw; go_simp; try with_reducible rfl)
  simp only [List.getElem_toArray, List.getElem_cons_zero, List.getElem_cons_succ]
  go_frame
  refine wpAnyH_ready (rs := [2]) (by kernel_rfl) (by simp) ?_
  refine AllReadyH.cons rfl (fun K hK => ?_) AllReadyH.nil
  simp only [List.getElem_toArray, List.getElem_cons_zero, List.getElem_cons_succ]
  go_simp
  go_at_call 83
  refine (Ea.list_std U6.drew).mono ?_
  rintro e U7 ⟨g, cs, rfl, A⟩
  have hcl : cs.length = 6 := by have h9 := congrArg List.length A.is; rw [List.length_map] at h9; exact h9
  have szU : X ≤ U6.drew.heap.size := by have h6 := HXs.out; have h7 := HG2.out.size; have h8 := HG6.out.size; have h9 := (grown_drew U6).size; omega
  have CC := addC_any ok b g U6.drew.heap.size es cs q (sCs 1) d U7 ((HB6.out.keep (grown_drew _)).keep A.gr) hok (fun n hn => HW.out n (by have h6 := HXs.out; have h9 := A.gr.size; omega)) (fun e => by have h6 := HXs.out; have h9 := A.low; omega) A.lies A.is A.own (by have h6 := HXs.out; omega) HE.out HNo.out (fun x hx => cAll_chk x (sCs_mem (by decide) hx)) (by rw [show (sCs 1).length = 6 from rfl]; exact H64.out) (fun x hx => cAll_four x (sCs_mem (by decide) hx)) HQ.out
  rw [hcl] at CC
  refine hK.out _ _ (grown_own' (grown_trans (grown_drew _) A.gr) (grown_refl _ _)) (fun hHeld2 => ?_)
  clear hK K
  (try go_frame)
  refine wpAnyH_ready (rs := [5]) (by kernel_rfl) (by simp) ?_
  refine AllReadyH.cons rfl (fun K hK => ?_) AllReadyH.nil
  simp only [List.getElem_toArray, List.getElem_cons_zero, List.getElem_cons_succ]
  go_simp
  go_at_call 187
  refine (CC).mono ?_
  rintro e U8 ⟨rfl, es2, B8, P8, g8⟩
  refine hK.out _ _ (grown_own' (grown_trans (grown_drew _) A.gr) g8) (fun hHeld2 => ?_)
  clear hK K
  (try go_frame)
  refine wpAnyH_take (i := 6) (v := ?_) rfl (by kernel_rfl) (by kernel_rfl) (by kernel_rfl) (fun _ _ _ h => h) (Or.inl ⟨by rfl, ?_⟩) (by assumption) ?_
  rotate_left 1
  · (intro w0 hSw; go_simp; try with_reducible rfl)
  simp only [List.getElem_toArray, List.getElem_cons_zero, List.getElem_cons_succ]
  go_frame
  refine wpAnyH_done (by kernel_rfl) ?_ _
  have HF : Hid (Book ok U8 b es2 q ∧ (es2.map hp).Perm (d ++ sCs 1) ∧ w.grownBy U8 (some b)) := ⟨B8, P8, grown_own' HG2.out (HG6.out.trans (grown_own' (grown_trans (grown_drew _) A.gr) g8))⟩
  clear B8 P8 g8 A CC hHeld hHeld2 H0 x0 y1 HB6 HG6 hcl szU
  go_wp2
  go_ret
  exact ⟨rfl, es2, HF.out⟩
end Go.Proofs.YtknlcjhcamhfmaaGreatDoor
