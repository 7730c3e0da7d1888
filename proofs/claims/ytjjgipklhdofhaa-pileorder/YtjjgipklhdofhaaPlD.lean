/-
  The program's Draw, Under, Cut.
-/
import Derived.Test.YtjjgipklhdofhaaPlC
import Derived.Test.YtjjgipklhdofhaaPlJ
namespace Go.Proofs.Ytjjgipklhdofhaa
open Go.RowKit

theorem joined_ex (v : Value) (os : List Int) (w : World) (h : IntsA w v os) (hb : (os.length + 2) * 8 ≤ 140737488355328) : Calls Try.prog 30 #[v, .slice none 0 0] w fun e w' => ∃ u, e = .returned u ∧ w'.ownsRow w.heap.size 3 1 u os.length (ints os) ∧ w.grownBy w' none :=
  (joined_one v os w h (by omega)).mono fun e w' ⟨h1, h2, h3⟩ => ⟨_, h1, h2, h3⟩
set_option maxRecDepth 100000 in
set_option maxHeartbeats 2000000 in
theorem pdraw_some (g off cap : Nat) (x : Int) (l : List Int) (w : World) (h : IntsA w (.slice (some ⟨g, off, none⟩) (l.length + 1) cap) (x :: l)) (hcap : l.length + 1 ≤ cap) (hb : (l.length + 1 + 2) * 8 ≤ 140737488355328) : Calls Try.prog 16 #[.slice (some ⟨g, off, none⟩) (l.length + 1) cap] w fun e w' => ∃ u, e = .returned (.tuple #[.int .i64 x, u, .bool true]) ∧ w'.ownsRow w.heap.size 3 1 u l.length (ints l) ∧ w.grownBy w' none := by
  have hn : l.length ≤ 17592186044416 := by omega
  obtain ⟨n, hnl⟩ : ∃ n, n = l.length := ⟨_, rfl⟩
  have Hn : Hid (n = l.length) := hnl
  rw [← hnl] at h hcap hb hn ⊢
  have HI : Hid (IntsA w (.slice (some ⟨g, off, none⟩) (n + 1) cap) (x :: l)) := h
  have c0 : w.cell? ⟨g, off, none⟩ = some (.int .i64 x) := by
    rcases h with ⟨h, _⟩ | ⟨ad, c, h, hc⟩
    · cases h
    · cases h
      have := hc 0 (.int .i64 x) (by simp [ints])
      simpa [Addr.add] using this
  clear h
  clear hnl
  have hn1 : (0 : Int) < (n : Int) + 1 := by omega
  have hn2 : (1 : Int) ≤ (n : Int) + 1 := by omega
  have hn3 : (n : Int) + 1 ≤ (cap : Int) := by omega
  have hn4 : (1 : Int) ≤ (cap : Int) := by omega
  go_enter Try.func16, Try.ntmps16
  have gd : w.grownBy w.drew none := grown_drewN w 1 none
  have HD : Hid (w.grownBy w.drew none) := gd
  have hsz : w.drew.heap.size = w.heap.size := rfl
  have CC0 := joined_ex (.slice (if cap = 1 then some ⟨g, off, none⟩ else some ⟨g, off + 1, none⟩) n (cap - 1)) l w.drew (by rw [Hn.out]; exact ints_from (HI.out.keep gd) Hn.out hcap) (by rw [← Hn.out]; omega)
  rw [← Hn.out, hsz] at CC0
  clear gd hsz
  by_cases e1 : cap = 1
  · subst e1
    obtain rfl : n = 0 := by omega
    have CC : Calls Try.prog 30 #[.slice (some ⟨g, off, none⟩) 0 0, .slice none 0 0] w.drew fun e w' => ∃ u, e = .returned u ∧ w'.ownsRow w.heap.size 3 1 u 0 (ints l) ∧ w.drew.grownBy w' none := CC0
    clear CC0
    go_upto_region 3 with fail
    go_region_with (go_at_call 30; refine CC.mono ?_; rintro e w1 ⟨u, rfl, o1, g1⟩; have c1 : w1.cell? ⟨g, off, none⟩ = some (.int .i64 x) := g1.cell (HD.out.cell c0 (by simp)) (by simp); have HF : Hid (w1.ownsRow w.heap.size 3 1 u 0 (ints l) ∧ w.grownBy w1 none) := ⟨o1, grown_trans HD.out g1⟩; clear o1 g1)
    all_goals (go_wp2; go_ret3; exact ⟨_, rfl, HF.out⟩)
  · rw [if_neg e1] at CC0
    go_upto_region 3 with fail
    go_region_with (go_at_call 30; refine CC0.mono ?_; rintro e w1 ⟨u, rfl, o1, g1⟩; have c1 : w1.cell? ⟨g, off, none⟩ = some (.int .i64 x) := g1.cell (HD.out.cell c0 (by simp)) (by simp); have HF : Hid (w1.ownsRow w.heap.size 3 1 u n (ints l) ∧ w.grownBy w1 none) := ⟨o1, grown_trans HD.out g1⟩; clear o1 g1)
    all_goals (go_wp2; go_ret3; exact ⟨_, rfl, HF.out⟩)
set_option maxHeartbeats 1000000 in
theorem pdraw_none (a : Option Addr) (cap : Nat) (w : World) : Calls Try.prog 16 #[.slice a 0 cap] w fun e w' => e = .returned (.tuple #[.int .i64 0, .slice none 0 0, .bool false]) ∧ w' = w := by
  go_enter Try.func16, Try.ntmps16
  go_wp2
  go_ret3
  exact ⟨rfl, rfl⟩
set_option maxRecDepth 100000 in
set_option maxHeartbeats 4000000 in
theorem pcut_some (g off cap k : Nat) (l : List Int) (w : World) (h : IntsA w (.slice (some ⟨g, off, none⟩) l.length cap) l) (hcap : l.length ≤ cap) (hk : k ≤ l.length) (hb : (l.length + 2) * 8 ≤ 140737488355328) : Calls Try.prog 19 #[.slice (some ⟨g, off, none⟩) l.length cap, .int .i64 (k : Int)] w fun e w' => ∃ u v, e = .returned (.tuple #[u, v, .int .i64 0]) ∧ (∃ m, w.heap.size ≤ m ∧ m ≤ w'.heap.size ∧ (∀ b, u.ownBlock = some b → b < m) ∧ w'.ownsRow w.heap.size 3 1 u k (ints (l.take k)) ∧ w'.ownsRow m 3 1 v (l.length - k) (ints (l.drop k))) ∧ w.grownBy w' none := by
  obtain ⟨n, hnl⟩ : ∃ n, n = l.length := ⟨_, rfl⟩
  have Hn : Hid (n = l.length) := hnl
  have HH : Hid ((n + 2) * 8 ≤ 140737488355328) := by show (n + 2) * 8 ≤ 140737488355328; rw [hnl]; exact hb
  rw [← hnl] at h hcap hk ⊢
  have HI : Hid (IntsA w (.slice (some ⟨g, off, none⟩) n cap) l) := h
  clear h hb hnl
  have gd : w.grownBy w.drew none := grown_drewN w 1 none
  have HD : Hid (w.grownBy w.drew none) := gd
  have hsz : w.drew.heap.size = w.heap.size := rfl
  have lt : (l.take k).length = k := by rw [List.length_take]; have := Hn.out; omega
  have ld : (l.drop k).length = n - k := by rw [List.length_drop, Hn.out]
  have CC1 := joined_ex (.slice (some ⟨g, off, none⟩) k cap) (l.take k) w.drew (ints_upto (HI.out.keep gd) hk) (by rw [lt]; have := HH.out; omega)
  rw [lt, hsz] at CC1
  have CC2 : Hid (∀ W, w.drew.grownBy W none → Calls Try.prog 30 #[.slice (if cap = k then some ⟨g, off, none⟩ else some ⟨g, off + k, none⟩) (n - k) (cap - k), .slice none 0 0] W fun e w' => ∃ u, e = .returned u ∧ w'.ownsRow W.heap.size 3 1 u (n - k) (ints (l.drop k)) ∧ W.grownBy w' none) := fun W gW => by
    have := joined_ex _ (l.drop k) W (ints_past (HI.out.keep (grown_trans gd gW)) hk hcap) (by rw [ld]; have := HH.out; omega)
    rw [ld] at this
    exact this
  have k0 : ¬ ((k : Int) < 0) := by omega
  have k1 : ¬ ((n : Int) < (k : Int)) := by omega
  have k2 : (k : Int) ≤ (n : Int) := by omega
  have k3 : (n : Int) ≤ (cap : Int) := by omega
  have k4 : (k : Int) ≤ (cap : Int) := by omega
  have k5 : (0 : Int) ≤ (k : Int) := by omega
  clear gd hsz lt ld
  by_cases e1 : cap = k
  · subst e1
    obtain rfl : n = cap := by omega
    have CC3 : Hid (∀ W, w.drew.grownBy W none → Calls Try.prog 30 #[.slice (some ⟨g, off, none⟩) 0 0, .slice none 0 0] W fun e w' => ∃ u, e = .returned u ∧ w'.ownsRow W.heap.size 3 1 u 0 (ints (l.drop n)) ∧ W.grownBy w' none) := by have := CC2.out; rw [if_pos rfl, Nat.sub_self] at this; exact this
    clear CC2
    go_enter Try.func19, Try.ntmps19
    go_upto_region 3 with fail
    go_region_with (first | (go_at_call 30; refine CC1.mono ?_; clear CC1; rintro e w1 ⟨u1, rfl, o1, g1⟩; have HO1 : Hid (w1.ownsRow w.heap.size 3 1 u1 n (ints (l.take n))) := o1; have HG1 : Hid (w.drew.grownBy w1 none) := g1; clear o1 g1) | (go_at_call 30; refine (CC3.out _ HG1.out).mono ?_; rintro e w2 ⟨u2, rfl, o2, g2⟩; have HO2 : Hid (w2.ownsRow w1.heap.size 3 1 u2 (0) (ints (l.drop n))) := o2; have HG2 : Hid (w1.grownBy w2 none) := g2; clear o2 g2))
    all_goals (go_wp2; go_ret3; exact ⟨_, _, rfl, by rw [Nat.sub_self]; exact cut_fin HD.out HO1.out HG1.out HO2.out HG2.out⟩)
  · have CC3 : Hid (∀ W, w.drew.grownBy W none → Calls Try.prog 30 #[.slice (some ⟨g, off + k, none⟩) (n - k) (cap - k), .slice none 0 0] W fun e w' => ∃ u, e = .returned u ∧ w'.ownsRow W.heap.size 3 1 u (n - k) (ints (l.drop k)) ∧ W.grownBy w' none) := by have := CC2.out; rw [if_neg e1] at this; exact this
    have e2 : ¬ (k = cap) := fun e => e1 e.symm
    clear CC2
    go_enter Try.func19, Try.ntmps19
    go_upto_region 3 with fail
    go_region_with (first | (go_at_call 30; refine CC1.mono ?_; clear CC1; rintro e w1 ⟨u1, rfl, o1, g1⟩; have HO1 : Hid (w1.ownsRow w.heap.size 3 1 u1 k (ints (l.take k))) := o1; have HG1 : Hid (w.drew.grownBy w1 none) := g1; clear o1 g1) | (go_at_call 30; refine (CC3.out _ HG1.out).mono ?_; rintro e w2 ⟨u2, rfl, o2, g2⟩; have HO2 : Hid (w2.ownsRow w1.heap.size 3 1 u2 (n - k) (ints (l.drop k))) := o2; have HG2 : Hid (w1.grownBy w2 none) := g2; clear o2 g2))
    all_goals (go_wp2; go_ret3; exact ⟨_, _, rfl, cut_fin HD.out HO1.out HG1.out HO2.out HG2.out⟩)
set_option maxHeartbeats 1000000 in
theorem pcut_low (a : Option Addr) (n cap : Nat) (k : Int) (hk : k < 0) (w : World) : Calls Try.prog 19 #[.slice a n cap, .int .i64 k] w fun e w' => e = .returned (.tuple #[.slice none 0 0, .slice none 0 0, .int .i64 2]) ∧ w' = w := by
  go_enter Try.func19, Try.ntmps19
  go_wp2
  go_ret3
  exact ⟨rfl, rfl⟩
set_option maxHeartbeats 1000000 in
theorem pcut_high (a : Option Addr) (n cap : Nat) (k : Int) (hk : (n : Int) < k) (w : World) : Calls Try.prog 19 #[.slice a n cap, .int .i64 k] w fun e w' => e = .returned (.tuple #[.slice none 0 0, .slice none 0 0, .int .i64 2]) ∧ w' = w := by
  have h0 : ¬ (k < 0) := by omega
  go_enter Try.func19, Try.ntmps19
  go_wp2
  go_ret3
  exact ⟨rfl, rfl⟩
theorem own_low {w : World} {b b' n : Nat} {v : Value} {xs : List Value} (h : w.ownsRow b' 3 1 v n xs) (hb : b ≤ b') : w.ownsRow b 3 1 v n xs := by
  refine ⟨h.1, ?_⟩
  rcases h.2 with h | ⟨g, cap, cur, e, hg, r⟩
  · exact Or.inl h
  · exact Or.inr ⟨g, cap, cur, e, Nat.le_trans hb hg, r⟩
theorem one_ints {w : World} {g : Nat} {x : Int} (h : w.heap[g]? = some (.cells #[.int .i64 x] 3 (0, 0))) : IntsA w (.slice (some ⟨g, 0, none⟩) 1 1) [x] := Or.inr ⟨_, _, rfl, fun j u hu => by
  rw [add_plain, Nat.zero_add, block_cell h]
  simpa [ints] using hu⟩
set_option maxRecDepth 100000 in
set_option maxHeartbeats 2000000 in
theorem punder_any (v : Value) (l : List Int) (x : Int) (w : World) (h : IntsA w v l) (hb : (l.length + 2) * 8 ≤ 140737488355328) : Calls Try.prog 17 #[v, .int .i64 x] w fun e w' => ∃ u, e = .returned u ∧ w'.ownsRow w.heap.size 3 1 u (l.length + 1) (ints (l ++ [x])) ∧ w.grownBy w' none := by
  obtain ⟨W, hW⟩ : ∃ W, W = w.alloc (.cells #[.int .i64 x] 3) := ⟨_, rfl⟩
  have gW : w.grownBy W none := by rw [hW]; exact World.grownBy_alloc _ _ none
  have C1 := joined_any v (.slice (some ⟨w.heap.size, 0, none⟩) 1 1) l [x] W (h.keep gW) (one_ints (by rw [hW]; exact alloc_at _ _ _)) (by simp; omega)
  have HG : Hid (w.grownBy W none) := gW
  have HW : Hid (W = w.alloc (.cells #[.int .i64 x] 3)) := hW
  obtain ⟨va, vn, vc, rfl⟩ : ∃ a n c, v = .slice a n c := by
    rcases h with ⟨rfl, _⟩ | ⟨ad, cap, rfl, _⟩
    · exact ⟨_, _, _, rfl⟩
    · exact ⟨_, _, _, rfl⟩
  clear h hb gW hW
  go_enter Try.func17, Try.ntmps17
  go_wp2_with fail
  rw [← HW.out]
  refine C1.mono ?_
  rintro e w1 ⟨rfl, o1, g1⟩
  have HF : Hid (w1.ownsRow W.heap.size 3 1 (.slice (some ⟨W.heap.size, 0, none⟩) (l.length + 1) (l.length + 1)) (l.length + 1) (ints (l ++ [x])) ∧ w.grownBy w1 none) := ⟨o1, grown_trans HG.out g1⟩
  clear C1 o1 g1
  go_wp2
  go_ret
  exact ⟨_, rfl, own_low HF.out.1 HG.out.size, HF.out.2⟩
end Go.Proofs.Ytjjgipklhdofhaa
