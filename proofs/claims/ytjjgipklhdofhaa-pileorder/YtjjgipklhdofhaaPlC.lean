/-
  The document's Cut.
-/
import Derived.Test.YtjjgipklhdofhaaPlR
namespace Go.Proofs.Ytjjgipklhdofhaa
open Go.RowKit

theorem ints_upto {w : World} {g off n cap k : Nat} {l : List Int} (h : IntsA w (.slice (some ⟨g, off, none⟩) n cap) l) (hk : k ≤ n) : IntsA w (.slice (some ⟨g, off, none⟩) k cap) (l.take k) := by
  rcases h with ⟨h, _⟩ | ⟨ad, c, h, hcell⟩
  · cases h
  · cases h
    have hl : (l.take k).length = k := by rw [List.length_take]; omega
    refine Or.inr ⟨_, _, by rw [hl], fun j u hu => hcell j u ?_⟩
    have hj : j < k := by have := (List.getElem?_eq_some_iff.1 hu).1; rw [length_ints, hl] at this; exact this
    unfold ints at hu ⊢
    rw [List.getElem?_map, List.getElem?_take, if_pos hj] at hu
    rw [List.getElem?_map]
    exact hu
theorem ints_past {w : World} {g off n cap k : Nat} {l : List Int} (h : IntsA w (.slice (some ⟨g, off, none⟩) n cap) l) (hk : k ≤ n) (hc : n ≤ cap) : IntsA w (.slice (if cap = k then some ⟨g, off, none⟩ else some ⟨g, off + k, none⟩) (n - k) (cap - k)) (l.drop k) := by
  rcases h with ⟨h, _⟩ | ⟨ad, c, h, hcell⟩
  · cases h
  · cases h
    have hl : (l.drop k).length = l.length - k := List.length_drop
    by_cases e : cap = k
    · rw [if_pos e]
      have h0 : l.drop k = [] := List.length_eq_zero_iff.1 (by omega)
      rw [h0]
      exact Or.inr ⟨_, _, by rw [show l.length - k = 0 by omega]; rfl, fun j u hu => by simp [ints] at hu⟩
    · rw [if_neg e]
      refine Or.inr ⟨_, _, by rw [hl], fun j u hu => ?_⟩
      have := hcell (k + j) u (by unfold ints at hu ⊢; rw [List.getElem?_map, List.getElem?_drop] at hu; rw [List.getElem?_map]; exact hu)
      rw [add_plain] at this ⊢
      rw [show off + k + j = off + (k + j) by omega]
      exact this
theorem own_under {w : World} {base n : Nat} {v : Value} {xs : List Value} (h : w.ownsRow base 3 1 v n xs) : ∀ b, v.ownBlock = some b → b < w.heap.size := by
  intro b hb
  rcases h.2 with ⟨e, _⟩ | ⟨g, cap, cur, e, _, hh, _⟩
  · rw [e] at hb; simp [Value.ownBlock] at hb
  · rw [e] at hb; simp [Value.ownBlock] at hb; rw [← hb]; exact block_lt hh
theorem cut_fin {w w1 w2 : World} {u v : Value} {k j : Nat} {xs ys : List Value} (hd : w.grownBy w.drew none) (o1 : w1.ownsRow w.heap.size 3 1 u k xs) (g1 : w.drew.grownBy w1 none) (o2 : w2.ownsRow w1.heap.size 3 1 v j ys) (g2 : w1.grownBy w2 none) : (∃ m, w.heap.size ≤ m ∧ m ≤ w2.heap.size ∧ (∀ b, u.ownBlock = some b → b < m) ∧ w2.ownsRow w.heap.size 3 1 u k xs ∧ w2.ownsRow m 3 1 v j ys) ∧ w.grownBy w2 none :=
  ⟨⟨w1.heap.size, (grown_trans hd g1).size, g2.size, own_under o1, World.ownsRow.kept o1 g2 (Classical.em _), o2⟩, grown_trans (grown_trans hd g1) g2⟩
set_option maxRecDepth 100000 in
set_option maxHeartbeats 4000000 in
theorem rcut_some (g off cap k : Nat) (l : List Int) (w : World) (h : IntsA w (.slice (some ⟨g, off, none⟩) l.length cap) l) (hcap : l.length ≤ cap) (hk : k ≤ l.length) (hb : (l.length + 2) * 8 ≤ 140737488355328) : Calls Try.prog 23 #[.slice (some ⟨g, off, none⟩) l.length cap, .int .i64 (k : Int)] w fun e w' => ∃ u v, e = .returned (.tuple #[u, v, .int .i64 0]) ∧ (∃ m, w.heap.size ≤ m ∧ m ≤ w'.heap.size ∧ (∀ b, u.ownBlock = some b → b < m) ∧ w'.ownsRow w.heap.size 3 1 u k (ints (l.take k)) ∧ w'.ownsRow m 3 1 v (l.length - k) (ints (l.drop k))) ∧ w.grownBy w' none := by
  obtain ⟨n, hnl⟩ : ∃ n, n = l.length := ⟨_, rfl⟩
  have Hn : Hid (n = l.length) := hnl
  have HH : Hid ((n + 2) * 8 ≤ 140737488355328) := by show (n + 2) * 8 ≤ 140737488355328; rw [hnl]; exact hb
  rw [← hnl] at h hcap hk ⊢
  have HI : Hid (IntsA w (.slice (some ⟨g, off, none⟩) n cap) l) := h
  clear h hb hnl
  have gd : w.grownBy w.drew none := grown_drewN w 1 none
  have HD : Hid (w.grownBy w.drew none) := gd
  have hsz : w.drew.heap.size = w.heap.size := rfl
  have lt : (l.take k).length = k := by rw [List.length_take]; have := Hn.out; omega
  have ld : (l.drop k).length = n - k := by rw [List.length_drop, Hn.out]
  have CC1 := rcopied_any (.slice (some ⟨g, off, none⟩) k cap) (l.take k) w.drew (ints_upto (HI.out.keep gd) hk) (by rw [lt]; have := HH.out; omega)
  rw [lt, hsz] at CC1
  have CC2 : Hid (∀ W, w.drew.grownBy W none → Calls Try.prog 31 #[.slice (if cap = k then some ⟨g, off, none⟩ else some ⟨g, off + k, none⟩) (n - k) (cap - k)] W fun e w' => ∃ u, e = .returned u ∧ w'.ownsRow W.heap.size 3 1 u (n - k) (ints (l.drop k)) ∧ W.grownBy w' none) := fun W gW => by
    have := rcopied_any _ (l.drop k) W (ints_past (HI.out.keep (grown_trans gd gW)) hk hcap) (by rw [ld]; have := HH.out; omega)
    rw [ld] at this
    exact this
  have k0 : ¬ ((k : Int) < 0) := by omega
  have k1 : ¬ ((n : Int) < (k : Int)) := by omega
  have k2 : (k : Int) ≤ (n : Int) := by omega
  have k3 : (n : Int) ≤ (cap : Int) := by omega
  have k4 : (k : Int) ≤ (cap : Int) := by omega
  have k5 : (0 : Int) ≤ (k : Int) := by omega
  clear gd hsz lt ld
  by_cases e1 : cap = k
  · subst e1
    obtain rfl : n = cap := by omega
    have CC3 : Hid (∀ W, w.drew.grownBy W none → Calls Try.prog 31 #[.slice (some ⟨g, off, none⟩) 0 0] W fun e w' => ∃ u, e = .returned u ∧ w'.ownsRow W.heap.size 3 1 u 0 (ints (l.drop n)) ∧ W.grownBy w' none) := by have := CC2.out; rw [if_pos rfl, Nat.sub_self] at this; exact this
    clear CC2
    go_enter Try.func23, Try.ntmps23
    go_upto_region 3 with fail
    go_region_with (first | (go_at_call 31; refine CC1.mono ?_; rintro e w1 ⟨u1, rfl, o1, g1⟩; have HO1 : Hid (w1.ownsRow w.heap.size 3 1 u1 n (ints (l.take n))) := o1; have HG1 : Hid (w.drew.grownBy w1 none) := g1; clear o1 g1) | (go_at_call 31; refine (CC3.out _ HG1.out).mono ?_; rintro e w2 ⟨u2, rfl, o2, g2⟩; have HO2 : Hid (w2.ownsRow w1.heap.size 3 1 u2 (0) (ints (l.drop n))) := o2; have HG2 : Hid (w1.grownBy w2 none) := g2; clear o2 g2))
    all_goals (go_wp2; go_ret3; exact ⟨_, _, rfl, by rw [Nat.sub_self]; exact cut_fin HD.out HO1.out HG1.out HO2.out HG2.out⟩)
  · have CC3 : Hid (∀ W, w.drew.grownBy W none → Calls Try.prog 31 #[.slice (some ⟨g, off + k, none⟩) (n - k) (cap - k)] W fun e w' => ∃ u, e = .returned u ∧ w'.ownsRow W.heap.size 3 1 u (n - k) (ints (l.drop k)) ∧ W.grownBy w' none) := by have := CC2.out; rw [if_neg e1] at this; exact this
    have e2 : ¬ (k = cap) := fun e => e1 e.symm
    clear CC2
    go_enter Try.func23, Try.ntmps23
    go_upto_region 3 with fail
    go_region_with (first | (go_at_call 31; refine CC1.mono ?_; rintro e w1 ⟨u1, rfl, o1, g1⟩; have HO1 : Hid (w1.ownsRow w.heap.size 3 1 u1 k (ints (l.take k))) := o1; have HG1 : Hid (w.drew.grownBy w1 none) := g1; clear o1 g1) | (go_at_call 31; refine (CC3.out _ HG1.out).mono ?_; rintro e w2 ⟨u2, rfl, o2, g2⟩; have HO2 : Hid (w2.ownsRow w1.heap.size 3 1 u2 (n - k) (ints (l.drop k))) := o2; have HG2 : Hid (w1.grownBy w2 none) := g2; clear o2 g2))
    all_goals (go_wp2; go_ret3; exact ⟨_, _, rfl, cut_fin HD.out HO1.out HG1.out HO2.out HG2.out⟩)
set_option maxHeartbeats 1000000 in
theorem rcut_low (a : Option Addr) (n cap : Nat) (k : Int) (hk : k < 0) (w : World) : Calls Try.prog 23 #[.slice a n cap, .int .i64 k] w fun e w' => e = .returned (.tuple #[.slice none 0 0, .slice none 0 0, .int .i64 2]) ∧ w' = w := by
  go_enter Try.func23, Try.ntmps23
  go_wp2
  go_ret3
  exact ⟨rfl, rfl⟩
set_option maxHeartbeats 1000000 in
theorem rcut_high (a : Option Addr) (n cap : Nat) (k : Int) (hk : (n : Int) < k) (w : World) : Calls Try.prog 23 #[.slice a n cap, .int .i64 k] w fun e w' => e = .returned (.tuple #[.slice none 0 0, .slice none 0 0, .int .i64 2]) ∧ w' = w := by
  have h0 : ¬ (k < 0) := by omega
  go_enter Try.func23, Try.ntmps23
  go_wp2
  go_ret3
  exact ⟨rfl, rfl⟩
end Go.Proofs.Ytjjgipklhdofhaa
