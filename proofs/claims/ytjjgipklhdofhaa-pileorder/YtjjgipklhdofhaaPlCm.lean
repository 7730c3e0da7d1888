/-
  How often a number stands in a list; whether two lists have the same numbers.
-/
import Derived.Test.YtjjgipklhdofhaaPlAw
import Derived.Deep.RegionWith
namespace Go.Proofs.Ytjjgipklhdofhaa
open Go.RowKit

theorem count_next {l : List Int} {k : Nat} (x : Int) (hk : k < l.length) : (l.take (k + 1)).count x = (l.take k).count x + (if l.getD k 0 = x then 1 else 0) := by
  rw [List.take_add_one, List.getElem?_eq_getElem hk, List.count_append, getD_at l k hk]
  simp [List.count_singleton]
theorem count_le {l : List Int} {k : Nat} (x : Int) : (l.take k).count x ≤ k := Nat.le_trans List.count_le_length (by rw [List.length_take]; omega)
set_option maxHeartbeats 1000000 in
theorem count_plain (g off cap n : Nat) (l : List Int) (x : Int) (w : World) (hC : CellsB w g off l) (hn : n = l.length) (hm : n ≤ 17592186044416) : Calls Try.prog 29 #[.slice (some ⟨g, off, none⟩) n cap, .int .i64 x] w fun e w' => e = .returned (.int .i64 ((l.count x : Nat) : Int)) ∧ w' = w := by
  have HC : Hid (CellsB w g off l) := hC
  have HN : Hid (n = l.length) := hn
  have hsm : Small n := by unfold Small; omega
  have hm9 : (n : Int) ≤ 17592186044416 := by omega
  clear hC hn hm
  go_enter Try.func29, Try.ntmps29
  go_wp2_with fail
  go_loopw [5, 6] (fun c i wr => ∃ k q : Nat, k ≤ n ∧ i = .int .i64 (k : Int) ∧ c = .int .i64 (q : Int) ∧ Hid (q = (l.take k).count x) ∧ q ≤ k ∧ wr = w) (fun _ i _ => n - (intOf i).toNat)
  case atStart => exact ⟨0, 0, Nat.zero_le _, rfl, rfl, by show 0 = (l.take 0).count x; simp, Nat.le_refl _, rfl⟩
  case round =>
    obtain ⟨k, q, hk, rfl, rfl, hq, hqk, rfl⟩ := hrel
    rcases (show k = n ∨ k < n from by omega) with e | hlt
    · have hlt' : ¬ (k : Int) < (n : Int) := by omega
      have HQ : Hid (q = l.count x) := by show q = l.count x; rw [hq.out, e, HN.out, List.take_length]
      clear e hq
      go_wp2
      go_ret
      exact ⟨ret_int (by rw [HQ.out]), rfl⟩
    · have hlt' : (k : Int) < (n : Int) := by omega
      have hk0 : (0 : Int) ≤ (k : Int) := by omega
      have hqk9 : (q : Int) ≤ (k : Int) := by omega
      have hq0 : (0 : Int) ≤ (q : Int) := by omega
      obtain ⟨y, hy⟩ : ∃ y, y = l.getD k 0 := ⟨_, rfl⟩
      have D : wr.cell? ⟨g, off + k, none⟩ = some (.int .i64 y) := by rw [hy]; exact HC.out k (by have := HN.out; omega)
      have hcn := count_next (l := l) (k := k) x (by have := HN.out; omega)
      rw [← hy, ← hq.out] at hcn
      have HCN : Hid ((l.take (k + 1)).count x = q + (if y = x then 1 else 0)) := hcn
      clear hcn hy hq
      by_cases hd : y = x
      · have hd2 : (y == x) = true := by simpa using hd
        have HQ : Hid (q + 1 = (l.take (k + 1)).count x) := by show q + 1 = (l.take (k + 1)).count x; rw [HCN.out, if_pos hd]
        clear HCN
        subst hd
        go_wp2_with fail
        go_roundw
        case rel => exact ⟨k + 1, q + 1, hlt, by first | rfl | (rw [hsm.wrap hlt]; rfl), by first | rfl | go_num, HQ.out, by omega, by first | rfl | trivial⟩
        case measure => first | exact meas_next hlt | (rw [hsm.wrap hlt]; exact meas_next hlt)
      · have hd2 : (y == x) = false := by simpa using hd
        have HQ : Hid (q = (l.take (k + 1)).count x) := by show q = (l.take (k + 1)).count x; rw [HCN.out, if_neg hd]; rfl
        clear HCN
        go_wp2_with fail
        go_roundw
        case rel => exact ⟨k + 1, q, hlt, by first | rfl | (rw [hsm.wrap hlt]; rfl), rfl, HQ.out, by omega, by first | rfl | trivial⟩
        case measure => first | exact meas_next hlt | (rw [hsm.wrap hlt]; exact meas_next hlt)
set_option maxHeartbeats 1000000 in
theorem count_nil (a : Option Addr) (x : Int) (w : World) : Calls Try.prog 29 #[.slice a 0 0, .int .i64 x] w fun e w' => e = .returned (.int .i64 0) ∧ w' = w := by
  go_enter Try.func29, Try.ntmps29
  go_wp2_with fail
  go_loopw [5, 6] (fun c i wr => c = .int .i64 0 ∧ i = .int .i64 0 ∧ wr = w) (fun _ _ _ => 0)
  case atStart => exact ⟨rfl, rfl, rfl⟩
  case round =>
    obtain ⟨rfl, rfl, rfl⟩ := hrel
    go_wp2
    go_ret
    exact ⟨rfl, rfl⟩
theorem count_any (v : Value) (l : List Int) (x : Int) (w : World) (h : IntsB w v l) (hb : (l.length + 2) * 8 ≤ 140737488355328) : Calls Try.prog 29 #[v, .int .i64 x] w fun e w' => e = .returned (.int .i64 ((l.count x : Nat) : Int)) ∧ w.grownBy w' none := by
  rcases h with ⟨a, rfl, rfl⟩ | ⟨g, off, cap, rfl, hcap, hC⟩
  · refine (count_nil a x w).mono ?_
    rintro e w' ⟨rfl, rfl⟩
    exact ⟨rfl, grown_refl _ _⟩
  · refine (count_plain g off cap _ l x w (cells_of hC) rfl (by omega)).mono ?_
    rintro e w' ⟨rfl, rfl⟩
    exact ⟨rfl, grown_refl _ _⟩
/-- A list with numbers in it lies at a plain place. -/
theorem IntsB.plain {w : World} {a : Option Addr} {n c : Nat} {l : List Int} (h : IntsB w (.slice a n c) l) (h0 : 0 < n) : n = l.length ∧ n ≤ c ∧ ∃ g off, a = some ⟨g, off, none⟩ ∧ CellsB w g off l := by
  rcases h with ⟨b, e, _⟩ | ⟨g, off, cap, e, hc, hC⟩
  · cases e
    omega
  · cases e
    exact ⟨rfl, hc, g, off, rfl, cells_of hC⟩
set_option maxRecDepth 100000 in
set_option maxHeartbeats 4000000 in
theorem mixed_any (a b : Value) (la lb : List Int) (w : World) (ha : IntsB w a la) (hb : IntsB w b lb) (hp : la.Perm lb) (hz : (la.length + 2) * 8 ≤ 140737488355328) : Calls Try.prog 28 #[a, b] w fun e w' => e = .returned (.bool true) ∧ w.grownBy w' none := by
  have HA : Hid (IntsB w a la) := ha
  have HB : Hid (IntsB w b lb) := hb
  have HP : Hid (la.Perm lb) := hp
  have hl := hp.length_eq
  obtain ⟨aa, ac, rfl⟩ := ha.form
  obtain ⟨ba, bc, rfl⟩ := hb.form
  obtain ⟨n, hn⟩ : ∃ n, n = la.length := ⟨_, rfl⟩
  have Hn : Hid (la.length = n) := hn.symm
  have Hz : Hid ((n + 2) * 8 ≤ 140737488355328) := by show (n + 2) * 8 ≤ _; rw [hn]; exact hz
  have hn9 : (n : Int) ≤ 17592186044416 := by omega
  have hsm : Small n := by unfold Small; omega
  rw [← hl, ← hn] at HB ⊢
  rw [← hn] at HA
  clear ha hb hp hz
  have Hl : Hid (lb.length = n) := by show lb.length = n; rw [← hl, hn]
  clear hl hn
  go_enter Try.func28, Try.ntmps28
  go_wp2_with fail
  go_loopw [5] (fun i wr => ∃ k : Nat, k ≤ n ∧ i = .int .i64 (k : Int) ∧ w.grownBy wr none) (fun i _ => n - (intOf i).toNat)
  case atStart => exact ⟨0, Nat.zero_le _, rfl, grown_refl _ _⟩
  case round =>
    obtain ⟨k, hk, rfl, hg⟩ := hrel
    obtain ⟨U, hU⟩ : ∃ U, U = wr := ⟨_, rfl⟩
    subst hU
    have HG : Hid (w.grownBy U none) := hg
    clear hg
    by_cases hlt : k < n
    · have hlt' : (k : Int) < (n : Int) := by omega
      by_cases h300 : k < 300
      · have h300' : (k : Int) < 300 := by omega
        obtain ⟨hn1, hc1, g, off, rfl, hC⟩ := HA.out.plain (show 0 < n by omega)
        have HC : Hid (CellsB U g off la) := hC.keep HG.out
        obtain ⟨y, hy⟩ : ∃ y, y = la.getD k 0 := ⟨_, rfl⟩
        have D : U.cell? ⟨g, off + k, none⟩ = some (.int .i64 y) := by rw [hy]; exact HC.out k (by omega)
        have HD : Hid (U.grownBy U.drew none) := grown_drew _
        have C1 := count_any _ la y U.drew (HA.out.keep (grown_trans HG.out HD.out)) (by rw [Hn.out]; exact Hz.out)
        have C2 : Hid (∀ W, w.grownBy W none → Calls Try.prog 29 #[.slice ba n bc, .int .i64 y] W fun e w' => e = .returned (.int .i64 ((la.count y : Nat) : Int)) ∧ W.grownBy w' none) := fun W gW => by
          have := count_any _ lb y W (HB.out.keep gW) (by rw [Hl.out]; exact Hz.out)
          rw [← HP.out.count_eq y] at this
          exact this
        obtain ⟨q, hq⟩ : ∃ q, q = la.count y := ⟨_, rfl⟩
        rw [← hq] at C1 C2
        clear hn1 hc1 hC hy hq
        have k0 : (0 : Int) ≤ (k : Int) := by omega
        go_upto_region 6 with fail
        go_region_with (first | (go_at_call 29; refine C1.mono ?_; clear C1; rintro e w1 ⟨rfl, g1⟩; have HG1 : Hid (w.grownBy w1 none ∧ U.grownBy w1 none) := ⟨grown_trans (grown_trans HG.out HD.out) g1, grown_trans HD.out g1⟩; have D1 : w1.cell? ⟨g, off + k, none⟩ = some (.int .i64 y) := HG1.out.2.cell D (by simp); clear g1) | (go_at_call 29; refine (C2.out _ HG1.out.1).mono ?_; rintro e w2 ⟨rfl, g2⟩; have HG2 : Hid (w.grownBy w2 none) := grown_trans HG1.out.1 g2; clear g2))
        all_goals
          go_wp2_with fail
          go_roundw
          case rel => exact ⟨k + 1, hlt, by first | rfl | (rw [hsm.wrap hlt]; rfl), HG2.out⟩
          case measure => first | exact meas_next hlt | (rw [hsm.wrap hlt]; exact meas_next hlt)
      · have h300' : ¬ (k : Int) < 300 := by omega
        go_wp2
        go_ret
        exact ⟨rfl, HG.out⟩
    · have hlt' : ¬ (k : Int) < (n : Int) := by omega
      go_wp2
      go_ret
      exact ⟨rfl, HG.out⟩
end Go.Proofs.Ytjjgipklhdofhaa
