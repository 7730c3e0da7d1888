/-
  SameThings, of any two lists of things.
-/
import Derived.Test.YtogpgldbbegniaaThEq
namespace Go.Proofs.Ytogpgldbbegniaa
open Go.RowKit

/-- What SameThings answers. -/
def StPost (w : World) (l r : List Th) (e : Ending) (w' : World) : Prop := ∃ b, e = .returned (.bool b) ∧ (b = true ↔ l = r) ∧ ∃ n, w' = w.drewN n
set_option maxRecDepth 100000 in
set_option maxHeartbeats 1000000 in
theorem st_len (p q : Option Addr) (n m c d : Nat) (w : World) (h : n ≠ m) : Calls Try.prog 38 #[.slice p n c, .slice q m d] w fun e w' => e = .returned (.bool false) ∧ w' = w := by
  have hb : ((n : Int) == (m : Int)) = false := by simpa using (show ¬ ((n : Int) = m) by omega)
  go_enter Try.func38, Try.ntmps38
  go_wp2
  go_ret
  exact ⟨rfl, rfl⟩
set_option maxRecDepth 100000 in
set_option maxHeartbeats 1000000 in
theorem st_nil (p q : Option Addr) (c d : Nat) (w : World) : Calls Try.prog 38 #[.slice p 0 c, .slice q 0 d] w fun e w' => e = .returned (.bool true) ∧ w' = w := by
  go_enter Try.func38, Try.ntmps38
  go_wp2
  go_loop [5] (fun i => i = .int .i64 0) (fun _ => 0)
  case atStart => rfl
  case round =>
    subst hrel
    go_wp2
    go_ret
    exact ⟨rfl, rfl⟩
theorem ext_th {l r : List Th} (hl : l.length = r.length) (h : ∀ j : Nat, j < l.length → l[j]? = r[j]?) : l = r := by
  apply List.ext_getElem? fun j => ?_
  by_cases hj : j < l.length
  · exact h j hj
  · rw [List.getElem?_eq_none (by omega), List.getElem?_eq_none (by omega)]
set_option maxRecDepth 100000 in
set_option maxHeartbeats 4000000 in
theorem st_run (l r : List Th) (g off c g' off' c' : Nat) (w : World) (hl : l.length = r.length) (hm : l.length ≤ maxLen) (ha : ∀ (j : Nat) t, l[j]? = some t → w.rangeAt g (off + j * 11) (thc t)) (hb : ∀ (j : Nat) t, r[j]? = some t → w.rangeAt g' (off' + j * 11) (thc t)) :
    Calls Try.prog 38 #[.slice (some ⟨g, off, none⟩) l.length c, .slice (some ⟨g', off', none⟩) l.length c'] w (StPost w l r) := by
  unfold maxLen at hm
  have HL : Hid (l.length = r.length) := hl
  have HA' : Hid (∀ (j : Nat) t, l[j]? = some t → w.rangeAt g (off + j * 11) (thc t)) := ha
  have HB' : Hid (∀ (j : Nat) t, r[j]? = some t → w.rangeAt g' (off' + j * 11) (thc t)) := hb
  clear hl ha hb
  have hnq := neq_th
  have hgq := eqg_th
  go_enter Try.func38, Try.ntmps38
  go_wp2
  go_loopw [5] (fun i wr => ∃ k n : Nat, k ≤ l.length ∧ i = .int .i64 k ∧ wr = w.drewN n ∧ ∀ j : Nat, j < k → l[j]? = r[j]?) (fun i _ => l.length - (intOf i).toNat)
  case atStart => exact ⟨0, 0, Nat.zero_le _, rfl, rfl, fun j hj => absurd hj (Nat.not_lt_zero _)⟩
  case round =>
    obtain ⟨k, n, hk, rfl, rfl, hall⟩ := hrel
    have HA : Hid (∀ j : Nat, j < k → l[j]? = r[j]?) := hall
    clear hall
    by_cases hlt : k < l.length
    · obtain ⟨t, ht⟩ : ∃ t, l[k]? = some t := ⟨_, List.getElem?_eq_getElem hlt⟩
      obtain ⟨u, hu⟩ : ∃ u, r[k]? = some u := ⟨_, List.getElem?_eq_getElem (by have := HL.out; omega)⟩
      obtain ⟨c1, c2, c3, c4, c5, c6, c7, c8, c9, c10, c11⟩ := range_cells (HA'.out k t ht)
      obtain ⟨d1, d2, d3, d4, d5, d6, d7, d8, d9, d10, d11⟩ := range_cells (HB'.out k u hu)
      have HV : Hid (l[k]? = some t) := ht
      have HU : Hid (r[k]? = some u) := hu
      clear ht hu
      cases hs : samet t u with
      | true =>
        have HE : Hid (t = u) := samet_iff.1 hs
        go_wp2
        go_quiet (fail)
        go_wp2
        go_roundw
        case rel =>
          refine ⟨k + 1, n + nq, by omega, by go_num, rfl, fun j hj => ?_⟩
          by_cases ej : j = k
          · subst ej; rw [HV.out, HU.out, HE.out]
          · exact HA.out j (by omega)
        case measure => simp [intOf]; omega
      | false =>
        have HE : Hid (¬ t = u) := fun q => Bool.eq_false_iff.1 hs (samet_yes q)
        go_wp2
        go_quiet (fail)
        go_wp2
        go_ret
        refine ⟨false, rfl, ⟨fun q => Bool.noConfusion q, fun q => absurd ?_ HE.out⟩, n + nq, by simp [World.drewN, Nat.add_assoc]⟩
        have := HV.out
        rw [q, HU.out] at this
        exact (Option.some.inj this).symm
    · go_wp2
      go_ret
      exact ⟨true, rfl, ⟨fun _ => ext_th HL.out (fun j hj => HA.out j (by omega)), fun _ => rfl⟩, _, rfl⟩
theorem sameT_any (a b : Value) (l r : List Th) (w : World) (ha : ThsAt w a l) (hb : ThsAt w b r) : Calls Try.prog 38 #[a, b] w (StPost w l r) := by
  obtain ⟨p, c, rfl, hm, hp⟩ := ha
  obtain ⟨q, d, rfl, hm', hq⟩ := hb
  by_cases hl : l.length = r.length
  · by_cases h0 : l.length = 0
    · have e1 : l = [] := List.eq_nil_of_length_eq_zero h0
      have e2 : r = [] := List.eq_nil_of_length_eq_zero (by omega)
      subst e1
      subst e2
      refine (st_nil p q c d w).mono ?_
      rintro e w' ⟨rfl, rfl⟩
      exact ⟨true, rfl, by simp, 0, rfl⟩
    · obtain ⟨g, off, rfl, ca⟩ := hp (by omega)
      obtain ⟨g', off', rfl, cb⟩ := hq (by omega)
      rw [← hl]
      exact st_run l r g off c g' off' d w hl hm ca cb
  · refine (st_len p q _ _ c d w hl).mono ?_
    rintro e w' ⟨rfl, rfl⟩
    exact ⟨false, rfl, ⟨fun q => Bool.noConfusion q, fun q => absurd (by rw [q]) hl⟩, 0, rfl⟩
end Go.Proofs.Ytogpgldbbegniaa
