/-
  The document's own log, its second part: a note that is taken, List, First.
-/
import Derived.Test.YtldjfeodeodcmaaRef
import Derived.Laws.AppendOwnNone
namespace Go.Proofs.Ytldjfeodeodcmaa
open Go.RowKit

theorem rnote_step {b : Nat} {p : Option Addr} {cap : Nat} {l : List Int} {n : Int} {c : Bool} {v' : Value} {w w7 : World} (h1 : w.heap[b]? = some (.cells #[.bool true, .bool c, .slice p l.length cap] 50 (0, 0)))
    (hn : ∀ x, x ∈ ob (.slice p l.length cap) → x ≠ b) (ho : w7.ownsRow 0 3 1 v' (l.length + 1) (ints l ++ [Value.int .i64 n])) (hg : (w.alloc (Obj.cells #[Value.int .i64 n] 3)).grownBy w7 (Value.slice p l.length cap).ownBlock)
    (ha : v'.ownBlock = (Value.slice p l.length cap).ownBlock ∨ v'.ownBlock = some (w.alloc (Obj.cells #[Value.int .i64 n] 3)).heap.size) :
    ∃ p' cap', v' = .slice p' (l.length + 1) cap' ∧ Hid (Own w7 0 (.slice p' (l.length + 1) cap') (l ++ [n])) ∧ Hid (Kept (ob (.slice p l.length cap)) w w7) ∧ Hid (w7.heap[b]? = some (.cells #[.bool true, .bool c, .slice p l.length cap] 50 (0, 0))) ∧
      Hid (∀ x, x ∈ ob (.slice p' (l.length + 1) cap') → x ∈ ob (.slice p l.length cap) ∨ w.heap.size ≤ x) ∧ w7.cell? ⟨b, 2, none⟩ = some (.slice p l.length cap) ∧ ∀ i, w7.frozen? ⟨b, i, none⟩ = false := by
  have O7 : Own w7 0 v' (l ++ [n]) := own_snoc ho rfl (by simp)
  obtain ⟨p', cap', rfl⟩ := O7.form_len (n := l.length + 1) (by simp)
  have K7 : Kept (ob (.slice p l.length cap)) w w7 := (Kept.of_grown (World.grownBy_alloc w _ (Value.slice p l.length cap).ownBlock)).trans (Kept.of_grown hg) (fun x hx => Or.inl hx)
  have B7 := K7.keep h1 (fun hx => hn b hx rfl)
  refine ⟨p', cap', rfl, O7, K7, B7, fun x hx => ?_, block_cell B7 2, block_free B7⟩
  unfold ob at hx ⊢
  rcases ha with e | e
  · rw [e] at hx; exact Or.inl hx
  · rw [e] at hx
    have : x = (w.alloc (Obj.cells #[Value.int .i64 n] 3)).heap.size := by simpa using hx
    right; rw [this]; simp
set_option maxRecDepth 100000 in
set_option maxHeartbeats 600000 in
theorem rnote_ok (b : Nat) (v : Value) (l : List Int) (n : Int) (w : World) (h : RefAt w b v l false) (hl : l.length < 256) : Calls Try.prog 21 #[.pointer (some ⟨b, 0, none⟩), .int .i64 n] w fun e w' =>
    e = .returned (.int .i64 l.length) ∧ ∃ v', RefAt w' b v' (l ++ [n]) false ∧ Kept (b :: ob v) w w' ∧ ∀ x, x ∈ ob v' → x ∈ ob v ∨ w.heap.size ≤ x := by
  obtain ⟨p, cap, rfl⟩ := h.2.1.form
  have c0 : w.cell? ⟨b, 0, none⟩ = some (.bool true) := block_cell h.1 0
  have c1 : w.cell? ⟨b, 1, none⟩ = some (.bool false) := block_cell h.1 1
  have c2 : w.cell? ⟨b, 2, none⟩ = some (.slice p l.length cap) := block_cell h.1 2
  have f := block_free h.1
  have hlt : b < w.heap.size := block_lt h.1
  have O : w.ownsRow 0 3 1 (.slice p l.length cap) l.length (ints l) := h.2.1
  have hne : ∀ x, x ∈ ob (.slice p l.length cap) → x ≠ b := h.ne
  have HN : Hid (∀ x, x ∈ ob (.slice p l.length cap) → x ≠ b) := hne
  have H1 : Hid (w.heap[b]? = some (.cells #[.bool true, .bool false, .slice p l.length cap] 50 (0, 0))) := h.1
  clear h hne
  obtain ⟨i0, hi, hz0, hz1, hz2⟩ := info_parts Try.info3'
  go_enter Try.func21, Try.ntmps21
  go_wp2_with (first | (go_at_call 26; refine (rnone_made _ _ c0).mono ?_; rintro e w' ⟨rfl, rfl⟩) | (at_builtin; refine wpList_append_own_at _ rfl (.tmp 25) (.tmp 27) 35 rfl 0 3 i0 (.int .i64 0) 1 8 Try.underlying35 hi hz0 hz1 hz2 rfl (by decide) (.slice p l.length cap) l.length (ints l) rfl (O.alloc _) ⟨w'.heap.size, 0, none⟩ 1 1 [.int .i64 n] rfl rfl (cell_one_new _ _ _) (fun x hx => by simp at hx; subst hx; rfl) (by unfold maxLen; omega) (by omega) (by omega) ?_; intro v' w7 hown' hgrow7 hnil7 hat7; obtain ⟨p', cap', rfl, O7, K7, B7, A7, d2, f7⟩ := rnote_step H1.out HN.out hown' hgrow7 hat7; clear hnil7 hown' hgrow7 hat7))
  go_ret
  have K8 : Kept [b] w7 (w7.setCell ⟨b, 2, none⟩ (.slice p' (l.length + 1) cap')) := Kept.of_grown (grown_set _ _ _ _)
  refine ⟨by first | rfl | exact ret_int (by omega), _, ⟨block_set B7.out 2 _, O7.out.kept K8 (fun x hx => ?_), by simp; omega⟩, (K7.out.mono (fun x hx => List.mem_cons_of_mem _ hx)).trans K8 (fun x hx => Or.inl (by simp at hx; simp [hx])), A7.out⟩
  rcases A7.out x hx with h1 | h1
  · simpa using HN.out x h1
  · simp; omega

theorem own_shape {w : World} {base : Nat} {v : Value} {l : List Int} (h : Own w base v l) : (v = .slice none 0 0 ∧ l = []) ∨ ∃ g cap, v = .slice (some ⟨g, 0, none⟩) l.length cap ∧ ∀ j u, (ints l)[j]? = some u → w.cell? ((⟨g, 0, none⟩ : Addr).add j) = some u := by
  obtain ⟨h1, h2⟩ := h
  rcases h2 with ⟨rfl, h0⟩ | ⟨g, cap, cur, rfl, hg0, hh, hn, hm, hs, ht⟩
  · exact Or.inl ⟨rfl, List.eq_nil_of_length_eq_zero h0⟩
  · refine Or.inr ⟨g, cap, rfl, fun j u hj => ?_⟩
    have e : (⟨g, 0, none⟩ : Addr).add j = ⟨g, j, none⟩ := by unfold Addr.add; split <;> simp_all
    have hjl : j < l.length := by have := (List.getElem?_eq_some_iff.1 hj).1; rwa [length_ints] at this
    rw [e, block_cell hh, ← hj, ← ht, List.getElem?_take, if_pos (by omega)]
    simp
theorem ints_one (l : List Int) : ∀ u ∈ ints l, u.oneCell' = true := by
  intro u hu
  simp only [ints, List.mem_map] at hu
  obtain ⟨z, _, rfl⟩ := hu
  rfl
set_option maxRecDepth 100000 in
set_option maxHeartbeats 600000 in
theorem rlist_any (b : Nat) (v : Value) (l : List Int) (c : Bool) (w : World) (h : RefAt w b v l c) : Calls Try.prog 12 #[.pointer (some ⟨b, 0, none⟩)] w fun e w' =>
    ∃ u, e = .returned u ∧ IntsAt w' u l ∧ w.grownBy w' none := by
  have c0 : w.cell? ⟨b, 0, none⟩ = some (.bool true) := block_cell h.1 0
  have c2 : w.cell? ⟨b, 2, none⟩ = some v := block_cell h.1 2
  obtain ⟨i0, hi, hz0, hz1, hz2⟩ := info_parts Try.info3'
  have hl := h.2.2
  rcases own_shape h.2.1 with ⟨rfl, rfl⟩ | ⟨g, cap, rfl, hc⟩
  · have O := World.ownsRow_nil w 0 3 1
    clear h
    go_enter Try.func12, Try.ntmps12
    go_wp2_with (first | (go_at_call 26; refine (rnone_made _ _ c0).mono ?_; rintro e w' ⟨rfl, rfl⟩) | (at_builtin; refine wpList_append_own_none rfl (.tmp 7) (.tmp 11) 35 rfl 0 3 i0 1 Try.underlying35 hi (.slice none 0 0) 0 [] rfl O rfl ?_))
    go_ret
    exact ⟨_, rfl, ⟨none, 0, rfl, by simp, fun h => absurd h (by simp)⟩, grown_refl _ _⟩
  · have O := World.ownsRow_nil w 0 3 1
    have HC : Hid (∀ j u, (ints l)[j]? = some u → w.cell? ((⟨g, 0, none⟩ : Addr).add j) = some u) := hc
    clear hc h
    go_enter Try.func12, Try.ntmps12
    go_wp2_with (first | (go_at_call 26; refine (rnone_made _ _ c0).mono ?_; rintro e w' ⟨rfl, rfl⟩) | (at_builtin; refine wpList_append_own _ rfl (.tmp 7) (.tmp 11) 35 rfl 0 3 i0 (.int .i64 0) 1 8 Try.underlying35 hi hz0 hz1 hz2 rfl (by decide) (.slice none 0 0) 0 [] rfl O ⟨g, 0, none⟩ l.length cap (ints l) rfl (by simp [length_ints]) HC.out (ints_one l) (by unfold maxLen; omega) (by omega) (by omega) ?_; intro v' w7 hown' hgrow7 hnil7; clear hnil7; have HO : Hid (w7.ownsRow 0 3 1 v' (0 + l.length) ([] ++ ints l)) := hown'; clear hown'))
    go_ret
    have O7 : Own w7 0 v' l := by have := HO.out; rwa [Nat.zero_add, List.nil_append] at this
    exact ⟨_, rfl, O7.ints, hgrow7⟩

set_option maxRecDepth 100000 in
set_option maxHeartbeats 600000 in
theorem rfirst_any (b : Nat) (v : Value) (l : List Int) (c : Bool) (n : Int) (w : World) (h : RefAt w b v l c) : Calls Try.prog 24 #[.pointer (some ⟨b, 0, none⟩), .int .i64 n] w fun e w' => e = .returned (.int .i64 (first l n)) ∧ w.grownBy w' none := by
  have hl := h.2.2
  go_enter Try.func24, Try.ntmps24
  go_wp2_with fail
  refine (rlist_any b v l c w h).mono ?_
  rintro e w1 ⟨u, rfl, ⟨p, cap, rfl, hm, hp⟩, g1⟩
  have HP : Hid (0 < l.length → ∃ g off, p = some ⟨g, off, none⟩ ∧ ∀ j, j < l.length → w1.cell? ⟨g, off + j, none⟩ = some (.int .i64 (l.getD j 0))) := hp
  clear hp hm h
  go_wp2_with fail
  go_loop [6] (fun i => ∃ k : Nat, k ≤ l.length ∧ i = .int .i64 k ∧ ∀ j, j < k → l.getD j 0 ≠ n) (fun i => l.length - (intOf i).toNat)
  case atStart => exact ⟨0, Nat.zero_le _, rfl, fun j hj => absurd hj (Nat.not_lt_zero _)⟩
  case round =>
    obtain ⟨k, hk, rfl, ha⟩ := hrel
    have HA : Hid (∀ j, j < k → l.getD j 0 ≠ n) := ha
    clear ha
    by_cases hlt : k < l.length
    · obtain ⟨g, off, rfl, hc⟩ := HP.out (by omega)
      have ck := hc k hlt
      clear hc
      generalize hv : l.getD k 0 = y at *
      have HV : Hid (l.getD k 0 = y) := hv
      clear hv
      by_cases he : y = n
      · have hb : (y == n) = true := by simpa using he
        have HE : Hid (y = n) := he
        clear he
        go_wp2
        go_ret
        exact ⟨ret_int (first_hit l n k hlt (HV.out.trans HE.out) HA.out).symm, g1⟩
      · have hb : (y == n) = false := by simpa using he
        have HE : Hid (¬ y = n) := he
        clear he
        go_wp2
        go_round
        case rel =>
          refine ⟨k + 1, by omega, by go_num, fun j hj => ?_⟩
          by_cases ej : j = k
          · subst ej; rw [HV.out]; exact HE.out
          · exact HA.out j (by omega)
        case measure => simp [intOf]; omega
    · go_wp2
      go_ret
      exact ⟨ret_int (first_miss l n (fun j hj => HA.out j (by omega))).symm, g1⟩
end Go.Proofs.Ytldjfeodeodcmaa
