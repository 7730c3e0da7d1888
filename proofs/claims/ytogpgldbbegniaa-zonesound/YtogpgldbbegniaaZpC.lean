/-
  The law's count: how often a number stands in lists.
-/
import Derived.Test.YtogpgldbbegniaaZoB
import Derived.Test.YtogpgldbbegniaaZmV
namespace Go.Proofs.Ytogpgldbbegniaa
open Go.RowKit

/-- How often a number stands in lists. -/
def cnt (n : Int) (L : List (List Int)) : Nat := (L.map fun l => l.count n).sum
theorem cnt_next {n : Int} {L : List (List Int)} {a : Nat} {l : List Int} (h : L[a]? = some l) : cnt n (L.take (a + 1)) = cnt n (L.take a) + l.count n := by
  unfold cnt
  rw [List.take_add_one, h, List.map_append, List.sum_append]
  simp
theorem count_next {n x : Int} {l : List Int} {b : Nat} (h : l[b]? = some x) : (l.take (b + 1)).count n = (l.take b).count n + (if x = n then 1 else 0) := by
  rw [List.take_add_one, h, List.count_append]
  show _ + List.count n [x] = _
  rw [List.count_singleton]
  simp
theorem cnt_le {n : Int} {L : List (List Int)} (h : ∀ l ∈ L, l.length ≤ 4096) : cnt n L ≤ L.length * 4096 := by
  induction L with
  | nil => exact Nat.le_refl _
  | cons l L ih =>
    have h1 := ih fun x hx => h x (List.mem_cons_of_mem _ hx)
    have h2 := h l List.mem_cons_self
    have h3 := List.count_le_length (a := n) (l := l)
    unfold cnt at h1 ⊢
    rw [List.map_cons, List.sum_cons, List.length_cons]
    omega
set_option maxRecDepth 100000 in
set_option maxHeartbeats 4000000 in
theorem count_any (n : Int) (g c : Nat) (M : List (List Int)) (w : World) (hL : M.length ≤ 2) (hs : ∀ l ∈ M, l.length ≤ 4096) (hc : ∀ (a : Nat) l, M[a]? = some l → ∃ v, w.cell? ⟨g, a, none⟩ = some v ∧ L.IntsAt w v l) : Calls Try.prog 37 #[.int .i64 n, .slice (some ⟨g, 0, none⟩) M.length c] w fun e w' => e = .returned (.int .i64 (cnt n M : Nat)) ∧ w' = w := by
  have HL : Hid (M.length ≤ 2) := hL
  have HS : Hid (∀ l ∈ M, l.length ≤ 4096) := hs
  have HC : Hid (∀ (a : Nat) l, M[a]? = some l → ∃ v, w.cell? ⟨g, a, none⟩ = some v ∧ L.IntsAt w v l) := hc
  clear hL hs hc
  go_enter Try.func37, Try.ntmps37
  go_wp2
  go_loopw [5, 6, 7] (fun k i _ wr => ∃ a : Nat, a ≤ M.length ∧ i = .int .i64 (a : Int) ∧ k = .int .i64 (cnt n (M.take a) : Nat) ∧ wr = w) (fun _ i _ _ => M.length - (intOf i).toNat)
  case atStart => exact ⟨0, Nat.zero_le _, rfl, rfl, rfl⟩
  case round =>
    obtain ⟨a, ha, rfl, rfl, hwr⟩ := hrel
    obtain rfl : w = wr := hwr.symm
    clear hwr
    by_cases hlt : a < M.length
    · obtain ⟨l, hl⟩ : ∃ l, M[a]? = some l := ⟨_, List.getElem?_eq_getElem hlt⟩
      obtain ⟨v, x0, p, cap, rfl, -, hp⟩ := HC.out a l hl
      have hlt' : (a : Int) < M.length := by omega
      have hwa : wrap64 ((a : Int) + 1) = (a : Int) + 1 := by have := HL.out; unfold wrap64; omega
      have HN : Hid (cnt n (M.take (a + 1)) = cnt n (M.take a) + l.count n) := cnt_next hl
      have HLe : Hid (cnt n (M.take a) ≤ 8192) := by
        have h1 := cnt_le (n := n) (L := M.take a) fun x hx => HS.out x (List.mem_of_mem_take hx)
        have h2 := HL.out
        have h3 : (M.take a).length ≤ 2 := by rw [List.length_take]; omega
        show _ ≤ 8192
        omega
      have Hl : Hid (l.length ≤ 4096) := HS.out l (List.mem_of_getElem? hl)
      have HP : Hid (0 < l.length → ∃ g off, p = some ⟨g, off, none⟩ ∧ ∀ j, j < l.length → w.cell? ⟨g, off + j, none⟩ = some (.int .i64 (l.getD j 0))) := hp
      have HA : Hid (a + 1 ≤ M.length) := hlt
      have HMe : Hid (M.length - (intOf (.int .i64 ((a : Int) + 1))).toNat < M.length - (intOf (.int .i64 (a : Int))).toNat) := meas_next hlt
      obtain ⟨s, hs⟩ : ∃ s, s = cnt n (M.take a) := ⟨_, rfl⟩
      rw [← hs] at HN HLe ⊢
      clear hl hp hs HC HS ha
      go_wp2
      go_loopw [5, 7] (fun k j wr => ∃ b : Nat, b ≤ l.length ∧ j = .int .i64 (b : Int) ∧ k = .int .i64 ((s + (l.take b).count n : Nat) : Int) ∧ wr = w) (fun _ j _ => l.length - (intOf j).toNat)
      case atStart => exact ⟨0, Nat.zero_le _, rfl, by simp, rfl⟩
      case round =>
        obtain ⟨b, hb, rfl, rfl, hwr⟩ := hrel
        obtain rfl : w = wr := hwr.symm
        clear hwr
        by_cases hlb : b < l.length
        · obtain ⟨g2, off, rfl, cc⟩ := HP.out (by omega)
          have y := cc b hlb
          obtain ⟨x, hx⟩ : ∃ x, x = l.getD b 0 := ⟨_, rfl⟩
          have hx' : l[b]? = some x := by rw [hx, getD_lt _ _ hlb]; exact List.getElem?_eq_getElem hlb
          rw [← hx] at y
          have HCn : Hid ((l.take (b + 1)).count n = (l.take b).count n + (if x = n then 1 else 0)) := count_next hx'
          have hlb' : (b : Int) < l.length := by omega
          have hwb : wrap64 ((b : Int) + 1) = (b : Int) + 1 := by have := Hl.out; unfold wrap64; omega
          have HB : Hid (b + 1 ≤ l.length) := hlb
          have HMb : Hid (l.length - (intOf (.int .i64 ((b : Int) + 1))).toNat < l.length - (intOf (.int .i64 (b : Int))).toNat) := meas_next hlb
          have hq : (l.take b).count n ≤ l.length := Nat.le_trans List.count_le_length (by rw [List.length_take]; omega)
          obtain ⟨t, ht⟩ : ∃ t, t = s + (l.take b).count n := ⟨_, rfl⟩
          have HT : Hid (t = s + (l.take b).count n) := ht
          have hwt : wrap64 ((t : Int) + 1) = (t : Int) + 1 := by have := HLe.out; have := Hl.out; unfold wrap64; omega
          rw [← ht]
          clear cc hx hx' hb hlb ht hq
          by_cases hxn : x = n
          · have hd : (x == n) = true := by simpa using hxn
            have HE : Hid (Value.int .i64 ((t : Int) + 1) = .int .i64 ((s + (l.take (b + 1)).count n : Nat) : Int)) := by
              show Value.int _ _ = _
              rw [HCn.out, if_pos hxn, ← Nat.add_assoc, ← HT.out]; rfl
            clear hxn
            go_wp2
            rw [hwt, hwb]
            exact ⟨⟨b + 1, HB.out, rfl, HE.out, by trivial⟩, HMb.out⟩
          · have hd : (x == n) = false := by simpa using hxn
            have HE : Hid (Value.int .i64 (t : Int) = .int .i64 ((s + (l.take (b + 1)).count n : Nat) : Int)) := by
              show Value.int _ _ = _
              rw [HCn.out, if_neg hxn, Nat.add_zero, ← HT.out]
            clear hxn
            go_wp2
            rw [hwb]
            exact ⟨⟨b + 1, HB.out, rfl, HE.out, by trivial⟩, HMb.out⟩
        · have hlb' : ¬ (b : Int) < l.length := by omega
          have HE : Hid (Value.int .i64 ((s + (l.take b).count n : Nat) : Int) = .int .i64 (cnt n (M.take (a + 1)) : Nat)) := by
            show Value.int _ _ = _
            rw [HN.out, List.take_of_length_le (by omega)]
          obtain ⟨t, ht⟩ : ∃ t, t = s + (l.take b).count n := ⟨_, rfl⟩
          rw [← ht] at HE ⊢
          clear ht
          go_wp2
          rw [hwa]
          exact ⟨⟨a + 1, HA.out, rfl, HE.out, by trivial⟩, HMe.out⟩
    · have hlt' : ¬ (a : Int) < M.length := by omega
      have HE : Hid (cnt n (M.take a) = cnt n M) := by show cnt n (M.take a) = _; rw [List.take_of_length_le (by omega)]
      rw [HE.out]
      go_wp2
      go_ret
      exact ⟨rfl, rfl⟩
end Go.Proofs.Ytogpgldbbegniaa
