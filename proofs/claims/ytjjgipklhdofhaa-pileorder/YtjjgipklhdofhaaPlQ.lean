/-
  The program's Shuffle.
-/
import Derived.Test.YtjjgipklhdofhaaPlJ
namespace Go.Proofs.Ytjjgipklhdofhaa
open Go.RowKit

theorem ShAt.drew {w wr : World} {g cap : Nat} {cur : List Int} (h : ShAt w wr g cap cur) : ShAt w wr.drew g cap cur := ⟨h.1, ⟨h.2.os, h.2.tape, h.2.output, h.2.size, h.2.block⟩⟩
set_option maxRecDepth 100000 in
set_option maxHeartbeats 4000000 in
theorem pshuf_any (v : Value) (l : List Int) (s : Int) (w : World) (h : IntsA w v l) (hb : (l.length + 2) * 8 ≤ 140737488355328) (hs : isU s) : Calls Try.prog 10 #[v, .int .u64 s] w fun e w' => ∃ u, e = .returned (.tuple #[u, .int .u64 (shuffled l s).2]) ∧ w'.ownsRow w.heap.size 3 1 u l.length (ints (shuffled l s).1) ∧ w.grownBy w' none := by
  have C1 := joined_one v l w h (by omega)
  obtain ⟨va, vn, vc, rfl⟩ : ∃ a n c, v = .slice a n c := by
    rcases h with ⟨rfl, _⟩ | ⟨ad, cap, rfl, _⟩
    · exact ⟨_, _, _, rfl⟩
    · exact ⟨_, _, _, rfl⟩
  clear h
  have Hb : Hid ((l.length + 2) * 8 ≤ 140737488355328) := hb
  have Hs : Hid (isU s) := hs
  clear hb hs
  go_enter Try.func10, Try.ntmps10
  go_wp2_with fail
  refine C1.mono ?_
  rintro e w1 ⟨rfl, o1, g1⟩
  clear C1
  obtain ⟨g, hg⟩ : ∃ g, g = w.heap.size := ⟨_, rfl⟩
  rw [← hg] at o1 ⊢
  have HS0 : Hid (ShAt w w1 g l.length l) := by show ShAt w w1 g l.length l; refine ⟨?_, g1⟩; rw [← hg]; exact o1
  clear o1 g1 hg
  by_cases hl : l.length = 0
  · obtain rfl : l = [] := List.length_eq_zero_iff.1 hl
    clear hl
    go_wp2_with fail
    go_loop [1, 7] (fun st i => st = .int .u64 s ∧ i = .int .i64 (-1)) (fun _ _ => 0)
    case atStart => exact ⟨rfl, rfl⟩
    case round =>
      obtain ⟨rfl, rfl⟩ := hrel
      go_wp2
      go_ret2
      exact ⟨_, rfl, HS0.out⟩
  · have Hl : Hid (0 < l.length) := Nat.pos_of_ne_zero hl
    clear hl
    have hn : (l.length : Int) ≤ 17592186044416 := by have := Hb.out; omega
    obtain ⟨n, hnl⟩ : ∃ n, n = l.length := ⟨_, rfl⟩
    rw [← hnl] at hn ⊢
    have Hn : Hid (n = l.length) := hnl
    have HS : Hid (ShAt w w1 g n l) := by rw [hnl]; exact HS0.out
    clear HS0
    clear hnl
    go_wp2_with fail
    go_loopw [1, 7] (fun st i wr => ∃ (k : Nat) (z : Int) (cur : List Int), st = .int .u64 z ∧ isU z ∧ i = .int .i64 (k : Int) ∧ k < n ∧ cur.length = n ∧ shuf gen k cur z = shuffled l s ∧ ShAt w wr g n cur) (fun _ i _ => (intOf i).toNat)
    case atStart => exact ⟨n - 1, s, l, rfl, Hs.out, by have := Hl.out; have := Hn.out; first | (congr 1; omega) | go_num, by have := Hl.out; have := Hn.out; omega, Hn.out.symm, by rw [Hn.out]; rfl, HS.out⟩
    case round =>
      clear HS
      obtain ⟨k, z, cur, rfl, hz, rfl, hk, hc, he, S⟩ := hrel
      obtain ⟨U, hU⟩ : ∃ U, U = wr := ⟨_, rfl⟩
      subst hU
      rcases k with _ | m
      · have HF : Hid ((cur, z) = shuffled l s ∧ cur.length = n ∧ ShAt w U g n cur) := ⟨he, hc, S⟩
        clear he hc S hz
        go_wp2
        go_ret2
        exact ⟨_, by rw [← HF.out.1]; rfl, by have := HF.out; rw [← this.1, ← Hn.out]; have h3 := this.2.2.1; rw [this.2.1] at h3; exact h3, HF.out.2.2.2⟩
      · have HSt : Hid (shuf gen (m + 1) cur z = shuffled l s) := he
        have HSh : Hid (ShAt w U g n cur) := S
        have hz0 : 0 ≤ z := hz.1
        have hz1 : z < 18446744073709551616 := hz.2
        have CN := pnext_any z hz U
        have hm1 : (0 : Int) ≤ (m : Int) := by omega
        have hk' : (m : Int) + 1 < (n : Int) := by omega
        clear he S
        go_wp2_with fail
        refine CN.mono ?_
        rintro e U1 ⟨rfl, rfl⟩
        obtain ⟨y, hy⟩ : ∃ y, y = nx z := ⟨_, rfl⟩
        obtain ⟨z', hz'⟩ : ∃ y, y = stp z := ⟨_, rfl⟩
        rw [← hy, ← hz']
        have hy0 : 0 ≤ y := by rw [hy]; exact (nx_isU z).1
        have hy1 : y < 18446744073709551616 := by rw [hy]; exact (nx_isU z).2
        have Hy : Hid (y = nx z ∧ z' = stp z) := ⟨hy, hz'⟩
        obtain ⟨r, HrH, hrm, hrg⟩ : ∃ r : Nat, Hid (y % ((m : Int) + 1 + 1) = (r : Int)) ∧ r < m + 2 ∧ Hid (r = y.toNat % (m + 2)) := rem_place y m hy0
        have hrn : r < n := by omega
        have hrn' : (r : Int) < (n : Int) := by omega
        have hwr : wrap64 (r : Int) = (r : Int) := by unfold wrap64; omega
        obtain ⟨x1, hx1⟩ : ∃ x, x = cur.getD (m + 1) 0 := ⟨_, rfl⟩
        obtain ⟨x2, hx2⟩ : ∃ x, x = cur.getD r 0 := ⟨_, rfl⟩
        have c1 : U1.cell? ⟨g, m + 1, none⟩ = some (.int .i64 x1) := by rw [hx1]; exact HSh.out.cell (by omega)
        have c2 : U1.cell? ⟨g, r, none⟩ = some (.int .i64 x2) := by rw [hx2]; exact HSh.out.cell (by omega)
        have f1 : U1.frozen? ⟨g, m + 1, none⟩ = false := HSh.out.free _
        have f2 : U1.frozen? ⟨g, r, none⟩ = false := HSh.out.free _
        have HS2 : Hid (ShAt w (U1.setCell ⟨g, m + 1, none⟩ (.int .i64 x2)) g n (cur.set (m + 1) x2)) := HSh.out.put
        have f3 : (U1.setCell ⟨g, m + 1, none⟩ (.int .i64 x2)).frozen? ⟨g, r, none⟩ = false := HS2.out.free _
        obtain ⟨x3, c3⟩ : ∃ u, (U1.setCell ⟨g, m + 1, none⟩ (.int .i64 x2)).cell? ⟨g, r, none⟩ = some u := ⟨_, HS2.out.cell (by rw [List.length_set]; omega)⟩
        have HX : Hid (x1 = cur.getD (m + 1) 0 ∧ x2 = cur.getD r 0) := ⟨hx1, hx2⟩
        have HR : Hid (r = gen.num z % (m + 2)) := by show r = (nx z).toNat % (m + 2); rw [← Hy.out.1]; exact hrg.out
        clear CN hy hz' hx1 hx2 hrg
        go_upto_region 8 with (rw [HrH.out, hwr])
        go_region
        go_wp2
        exact ⟨⟨m, z', swp cur (m + 1) r, rfl, by rw [Hy.out.2]; exact stp_isU z, rfl, by omega, by rw [swp_len]; exact hc, by rw [← HSt.out, shuf, ← HR.out, Hy.out.2]; rfl, by have := HS2.out.put (i := r) (z := x1); rw [HX.out.1, HX.out.2] at this ⊢; exact this.drew⟩, by first | (simp [intOf]; done) | (simp [intOf]; omega)⟩
end Go.Proofs.Ytjjgipklhdofhaa
