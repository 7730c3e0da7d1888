/-
  The document's Draw, Under, Cut, Without.
-/
import Derived.Test.YtjjgipklhdofhaaPlS
import Derived.Deep.RegionWith
import Derived.Deep.CutRange
namespace Go.Proofs.Ytjjgipklhdofhaa
open Go.RowKit

theorem ints_from {w : World} {g off n cap : Nat} {x : Int} {l : List Int} (h : IntsA w (.slice (some ⟨g, off, none⟩) (n + 1) cap) (x :: l)) (hn : n = l.length) (hc : n + 1 ≤ cap) : IntsA w (.slice (if cap = 1 then some ⟨g, off, none⟩ else some ⟨g, off + 1, none⟩) l.length (cap - 1)) l := by
  rcases h with ⟨h, _⟩ | ⟨ad, c, h, hcell⟩
  · cases h
  · cases h
    by_cases e : cap = 1
    · obtain rfl : l = [] := List.length_eq_zero_iff.1 (by omega)
      rw [if_pos e]
      exact Or.inr ⟨_, _, rfl, fun j u hu => by simp [ints] at hu⟩
    · rw [if_neg e]
      refine Or.inr ⟨_, _, rfl, fun j u hu => ?_⟩
      have := hcell (j + 1) u (by simpa [ints] using hu)
      rw [add_plain] at this ⊢
      rw [show off + 1 + j = off + (j + 1) by omega]
      exact this
set_option maxRecDepth 100000 in
set_option maxHeartbeats 2000000 in
theorem rdraw_some (g off cap : Nat) (x : Int) (l : List Int) (w : World) (h : IntsA w (.slice (some ⟨g, off, none⟩) (l.length + 1) cap) (x :: l)) (hcap : l.length + 1 ≤ cap) (hb : (l.length + 1 + 2) * 8 ≤ 140737488355328) : Calls Try.prog 21 #[.slice (some ⟨g, off, none⟩) (l.length + 1) cap] w fun e w' => ∃ u, e = .returned (.tuple #[.int .i64 x, u, .bool true]) ∧ w'.ownsRow w.heap.size 3 1 u l.length (ints l) ∧ w.grownBy w' none := by
  have hn : l.length ≤ 17592186044416 := by omega
  obtain ⟨n, hnl⟩ : ∃ n, n = l.length := ⟨_, rfl⟩
  have Hn : Hid (n = l.length) := hnl
  rw [← hnl] at h hcap hb hn ⊢
  have HI : Hid (IntsA w (.slice (some ⟨g, off, none⟩) (n + 1) cap) (x :: l)) := h
  have c0 : w.cell? ⟨g, off, none⟩ = some (.int .i64 x) := by
    rcases h with ⟨h, _⟩ | ⟨ad, c, h, hc⟩
    · cases h
    · cases h
      have := hc 0 (.int .i64 x) (by simp [ints])
      simpa [Addr.add] using this
  clear h
  clear hnl
  have hn1 : (0 : Int) < (n : Int) + 1 := by omega
  have hn2 : (1 : Int) ≤ (n : Int) + 1 := by omega
  have hn3 : (n : Int) + 1 ≤ (cap : Int) := by omega
  have hn4 : (1 : Int) ≤ (cap : Int) := by omega
  go_enter Try.func21, Try.ntmps21
  have gd : w.grownBy w.drew none := grown_drewN w 1 none
  have HD : Hid (w.grownBy w.drew none) := gd
  have hsz : w.drew.heap.size = w.heap.size := rfl
  have CC0 := rcopied_any (.slice (if cap = 1 then some ⟨g, off, none⟩ else some ⟨g, off + 1, none⟩) n (cap - 1)) l w.drew (by rw [Hn.out]; exact ints_from (HI.out.keep gd) Hn.out hcap) (by rw [← Hn.out]; omega)
  rw [← Hn.out, hsz] at CC0
  clear gd hsz
  by_cases e1 : cap = 1
  · subst e1
    obtain rfl : n = 0 := by omega
    have CC : Calls Try.prog 31 #[.slice (some ⟨g, off, none⟩) 0 0] w.drew fun e w' => ∃ u, e = .returned u ∧ w'.ownsRow w.heap.size 3 1 u 0 (ints l) ∧ w.drew.grownBy w' none := CC0
    clear CC0
    go_upto_region 3 with fail
    go_region_with (go_at_call 31; refine CC.mono ?_; rintro e w1 ⟨u, rfl, o1, g1⟩; have c1 : w1.cell? ⟨g, off, none⟩ = some (.int .i64 x) := g1.cell (HD.out.cell c0 (by simp)) (by simp); have HF : Hid (w1.ownsRow w.heap.size 3 1 u 0 (ints l) ∧ w.grownBy w1 none) := ⟨o1, grown_trans HD.out g1⟩; clear o1 g1)
    all_goals (go_wp2; go_ret3; exact ⟨_, rfl, HF.out⟩)
  · rw [if_neg e1] at CC0
    go_upto_region 3 with fail
    go_region_with (go_at_call 31; refine CC0.mono ?_; rintro e w1 ⟨u, rfl, o1, g1⟩; have c1 : w1.cell? ⟨g, off, none⟩ = some (.int .i64 x) := g1.cell (HD.out.cell c0 (by simp)) (by simp); have HF : Hid (w1.ownsRow w.heap.size 3 1 u n (ints l) ∧ w.grownBy w1 none) := ⟨o1, grown_trans HD.out g1⟩; clear o1 g1)
    all_goals (go_wp2; go_ret3; exact ⟨_, rfl, HF.out⟩)
set_option maxHeartbeats 1000000 in
theorem rdraw_none (a : Option Addr) (cap : Nat) (w : World) : Calls Try.prog 21 #[.slice a 0 cap] w fun e w' => e = .returned (.tuple #[.int .i64 0, .slice none 0 0, .bool false]) ∧ w' = w := by
  go_enter Try.func21, Try.ntmps21
  go_wp2
  go_ret3
  exact ⟨rfl, rfl⟩
set_option maxRecDepth 100000 in
set_option maxHeartbeats 2000000 in
theorem runder_any (v : Value) (l : List Int) (x : Int) (w : World) (h : IntsA w v l) (hb : (l.length + 2) * 8 ≤ 140737488355328) : Calls Try.prog 25 #[v, .int .i64 x] w fun e w' => ∃ u, e = .returned u ∧ w'.ownsRow w.heap.size 3 1 u (l.length + 1) (ints (l ++ [x])) ∧ w.grownBy w' none := by
  obtain ⟨i0, hi, hz0, hz1, hz2⟩ := info_parts Try.info3i
  have C1 := rcopied_any v l w h hb
  obtain ⟨n, hnl⟩ : ∃ n, n = l.length := ⟨_, rfl⟩
  have Hn : Hid (n = l.length) := hnl
  have HH : Hid (n + 2 ≤ 17592186044416) := by show n + 2 ≤ 17592186044416; omega
  rw [← hnl] at C1 ⊢
  obtain ⟨va, vn, vc, rfl⟩ : ∃ a n c, v = .slice a n c := by
    rcases h with ⟨rfl, _⟩ | ⟨ad, cap, rfl, _⟩
    · exact ⟨_, _, _, rfl⟩
    · exact ⟨_, _, _, rfl⟩
  clear h hb hnl
  go_enter Try.func25, Try.ntmps25
  go_wp2_with fail
  refine C1.mono ?_
  rintro e w1 ⟨u, rfl, o1, g1⟩
  obtain ⟨ua, uc, rfl⟩ : ∃ a c, u = .slice a n c := by
    rcases o1.2 with ⟨h, h0⟩ | ⟨g, cap, cur, h, _⟩
    · exact ⟨_, _, by rw [h, h0]⟩
    · exact ⟨_, _, h⟩
  have Hw : Hid (w.heap.size ≤ w1.heap.size) := g1.size
  have HG : Hid (w.grownBy w1 none) := g1
  have HB : Hid (∀ x, (Value.slice ua n uc).ownBlock = some x → w.heap.size ≤ x) := by
    show ∀ x, (Value.slice ua n uc).ownBlock = some x → w.heap.size ≤ x
    rw [Hn.out] at o1 ⊢
    exact L.Own.block o1
  clear C1 g1
  go_wp2_with (at_builtin; refine wpList_append_own_at _ rfl (.tmp 6) (.tmp 8) 22 rfl w.heap.size 3 i0 (.int .i64 0) 1 8 Try.underlying22 hi hz0 hz1 hz2 rfl (by decide) (.slice ua n uc) n (ints l) rfl (o1.alloc _) ⟨w1.heap.size, 0, none⟩ 1 1 [.int .i64 x] rfl rfl (cell_one_new _ _ _) (fun x hx => by simp at hx; subst hx; rfl) (by have := HH.out; unfold maxLen; omega) (by have := HH.out; omega) (by have := Hw.out; have := HH.out; rw [World.size_alloc]; omega) ?_; intro v' w7 hown' hgrow7 hnil7 hlie; have HF : Hid (w7.ownsRow w.heap.size 3 1 v' (n + 1) (ints (l ++ [x])) ∧ w.grownBy w7 none) := ⟨by rw [ints_app]; exact hown', grown_own (grown_push HG.out _) hgrow7 HB.out⟩; clear hown' hgrow7 hnil7 hlie o1)
  go_ret
  exact ⟨_, rfl, HF.out⟩
end Go.Proofs.Ytjjgipklhdofhaa
