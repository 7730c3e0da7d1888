/-
  A list in memory of its own; the document's Shuffle.
-/
import Derived.Test.YtjjgipklhdofhaaPlN
import Derived.Test.YtjjgipklhdofhaaLeI
import Derived.Laws.OwnMore
namespace Go.Proofs.Ytjjgipklhdofhaa
open Go.RowKit

set_option maxRecDepth 100000 in
set_option maxHeartbeats 2000000 in
theorem rcopied_any (v : Value) (os : List Int) (w : World) (h : IntsA w v os) (hb : (os.length + 2) * 8 ≤ 140737488355328) : Calls Try.prog 31 #[v] w fun e w' => ∃ u, e = .returned u ∧ w'.ownsRow w.heap.size 3 1 u os.length (ints os) ∧ w.grownBy w' none := by
  obtain ⟨i0, hi, hz0, hz1, hz2⟩ := info_parts Try.info3i
  rcases h with ⟨rfl, rfl⟩ | ⟨ad, cap, rfl, h⟩
  · go_enter Try.func31, Try.ntmps31
    go_wp2_with (first | (at_builtin; refine wpList_append_own_none rfl (.tmp 4) (.tmp 5) 22 rfl w.heap.size 3 i0 1 Try.underlying22 hi _ 0 [] rfl (World.ownsRow_nil _ _ _ _) rfl ?_) | fail)
    go_ret
    exact ⟨_, rfl, World.ownsRow_nil _ _ _ _, grown_refl _ _⟩
  · have HS : Hid (∀ j u, (ints os)[j]? = some u → w.cell? (ad.add j) = some u) := h
    clear h
    go_enter Try.func31, Try.ntmps31
    go_wp2_with (first | (at_builtin; refine wpList_append_own _ rfl (.tmp 4) (.tmp 5) 22 rfl w.heap.size 3 i0 _ 1 8 Try.underlying22 hi hz0 hz1 hz2 rfl (by decide) (.slice none 0 0) 0 [] rfl (World.ownsRow_nil _ _ _ _) ad os.length cap (ints os) rfl (by rw [length_ints, Nat.mul_one]) HS.out (ints_one os) (by unfold maxLen; omega) (by omega) (Nat.le_refl _) ?_; intro v3 w3 o3 g3 _; rw [Nat.zero_add, List.nil_append] at o3) | fail)
    go_ret
    exact ⟨_, rfl, o3, grown_own (grown_refl _ _) g3 (fun x e => by cases e)⟩
/-- A list that is shuffled, in the call's own memory. -/
def ShAt (w wr : World) (g cap : Nat) (cur : List Int) : Prop := wr.ownsRow w.heap.size 3 1 (.slice (some ⟨g, 0, none⟩) cur.length cap) cur.length (ints cur) ∧ w.grownBy wr none
theorem ShAt.cell {w wr : World} {g cap i : Nat} {cur : List Int} (h : ShAt w wr g cap cur) (hi : i < cur.length) : wr.cell? ⟨g, i, none⟩ = some (.int .i64 (cur.getD i 0)) := by
  rw [World.ownsRow.cellAt h.1 i (by omega)]
  exact ints_at cur i hi
theorem ShAt.free {w wr : World} {g cap : Nat} {cur : List Int} (h : ShAt w wr g cap cur) (i : Nat) : wr.frozen? ⟨g, i, none⟩ = false := World.ownsRow.frozenAt h.1 i
theorem ints_set (l : List Int) (i : Nat) (z : Int) : (ints l).set i (.int .i64 z) = ints (l.set i z) := by simp [ints, List.map_set]
theorem rem_place (y : Int) (m : Nat) (h : 0 ≤ y) : ∃ r : Nat, y % ((m : Int) + 1 + 1) = (r : Int) ∧ r < m + 2 ∧ r = y.toNat % (m + 2) := by
  refine ⟨y.toNat % (m + 2), ?_, Nat.mod_lt _ (by omega), rfl⟩
  rw [Int.natCast_emod, Int.toNat_of_nonneg h]
  rfl
theorem own_ge {w : World} {base g n cap : Nat} {xs : List Value} (h : w.ownsRow base 3 1 (.slice (some ⟨g, 0, none⟩) n cap) n xs) : base ≤ g := by
  rcases h.2 with ⟨h', _⟩ | ⟨g', cap', cur, h', hb, _⟩
  · simp at h'
  · simp at h'; omega
theorem ShAt.put {w wr : World} {g cap i : Nat} {cur : List Int} {z : Int} (h : ShAt w wr g cap cur) : ShAt w (wr.setCell ⟨g, i, none⟩ (.int .i64 z)) g cap (cur.set i z) := by
  have := World.ownsRow.stored h.1 i (.int .i64 z)
  rw [ints_set] at this
  refine ⟨by rw [List.length_set]; exact this.1, grown_own h.2 this.2 (fun x e => by cases e; exact own_ge h.1)⟩
/-- The list shuffled, and the generator's state. -/
def shuffled (l : List Int) (s : Int) : List Int × Int := shuf gen (l.length - 1) l s
set_option maxRecDepth 100000 in
set_option maxHeartbeats 4000000 in
theorem rshuf_any (v : Value) (l : List Int) (s : Int) (w : World) (h : IntsA w v l) (hb : (l.length + 2) * 8 ≤ 140737488355328) (hs : isU s) : Calls Try.prog 11 #[v, .int .u64 s] w fun e w' => ∃ u, e = .returned (.tuple #[u, .int .u64 (shuffled l s).2]) ∧ w'.ownsRow w.heap.size 3 1 u l.length (ints (shuffled l s).1) ∧ w.grownBy w' none := by
  have C1 := rcopied_any v l w h hb
  obtain ⟨va, vn, vc, rfl⟩ : ∃ a n c, v = .slice a n c := by
    rcases h with ⟨rfl, _⟩ | ⟨ad, cap, rfl, _⟩
    · exact ⟨_, _, _, rfl⟩
    · exact ⟨_, _, _, rfl⟩
  clear h
  have Hb : Hid ((l.length + 2) * 8 ≤ 140737488355328) := hb
  have Hs : Hid (isU s) := hs
  clear hb hs
  go_enter Try.func11, Try.ntmps11
  go_wp2_with fail
  refine C1.mono ?_
  rintro e w1 ⟨u, rfl, o1, g1⟩
  clear C1
  by_cases hl : l.length = 0
  · obtain rfl : l = [] := List.length_eq_zero_iff.1 hl
    have HF : Hid (w1.ownsRow w.heap.size 3 1 u 0 (ints []) ∧ w.grownBy w1 none) := ⟨o1, g1⟩
    obtain ⟨ua, uc, rfl⟩ : ∃ a c, u = .slice a 0 c := by
      rcases o1.2 with ⟨h, h0⟩ | ⟨g, cap, cur, h, _⟩
      · exact ⟨_, _, h⟩
      · exact ⟨_, _, h⟩
    clear o1 g1 hl
    go_wp2_with fail
    go_loop [1, 7] (fun st i => st = .int .u64 s ∧ i = .int .i64 (-1)) (fun _ _ => 0)
    case atStart => exact ⟨rfl, rfl⟩
    case round =>
      obtain ⟨rfl, rfl⟩ := hrel
      go_wp2
      go_ret2
      exact ⟨_, rfl, HF.out⟩
  · have Hl : Hid (0 < l.length) := Nat.pos_of_ne_zero hl
    obtain ⟨g, cap, rfl⟩ : ∃ g c, u = .slice (some ⟨g, 0, none⟩) l.length c := by
      rcases o1.2 with ⟨h, h0⟩ | ⟨g, cap, cur, h, _⟩
      · exact absurd h0 hl
      · exact ⟨_, _, h⟩
    have HS : Hid (ShAt w w1 g cap l) := ⟨o1, g1⟩
    clear o1 g1 hl
    have hn : (l.length : Int) ≤ 17592186044416 := by have := Hb.out; omega
    obtain ⟨n, hnl⟩ : ∃ n, n = l.length := ⟨_, rfl⟩
    rw [← hnl] at hn ⊢
    have Hn : Hid (n = l.length) := hnl
    clear hnl
    go_wp2_with fail
    go_loopw [1, 7] (fun st i wr => ∃ (k : Nat) (z : Int) (cur : List Int), st = .int .u64 z ∧ isU z ∧ i = .int .i64 (k : Int) ∧ k < n ∧ cur.length = n ∧ shuf gen k cur z = shuffled l s ∧ ShAt w wr g cap cur) (fun _ i _ => (intOf i).toNat)
    case atStart => exact ⟨n - 1, s, l, rfl, Hs.out, by have := Hl.out; have := Hn.out; first | (congr 1; omega) | go_num, by have := Hl.out; have := Hn.out; omega, Hn.out.symm, by rw [Hn.out]; rfl, HS.out⟩
    case round =>
      clear HS
      obtain ⟨k, z, cur, rfl, hz, rfl, hk, hc, he, S⟩ := hrel
      obtain ⟨U, hU⟩ : ∃ U, U = wr := ⟨_, rfl⟩
      subst hU
      rcases k with _ | m
      · have HF : Hid ((cur, z) = shuffled l s ∧ cur.length = n ∧ ShAt w U g cap cur) := ⟨he, hc, S⟩
        clear he hc S hz
        go_wp2
        go_ret2
        exact ⟨_, by rw [← HF.out.1]; rfl, by have := HF.out; rw [← this.1, ← Hn.out]; have h3 := this.2.2.1; rw [this.2.1] at h3; exact h3, HF.out.2.2.2⟩
      · have HSt : Hid (shuf gen (m + 1) cur z = shuffled l s) := he
        have HSh : Hid (ShAt w U g cap cur) := S
        have hz0 : 0 ≤ z := hz.1
        have hz1 : z < 18446744073709551616 := hz.2
        have CN := rnext_any z hz U
        have hm1 : (0 : Int) ≤ (m : Int) := by omega
        have hk' : (m : Int) + 1 < (n : Int) := by omega
        clear he S
        go_wp2_with fail
        refine CN.mono ?_
        rintro e U1 ⟨rfl, rfl⟩
        obtain ⟨y, hy⟩ : ∃ y, y = nx z := ⟨_, rfl⟩
        obtain ⟨z', hz'⟩ : ∃ y, y = stp z := ⟨_, rfl⟩
        rw [← hy, ← hz']
        have hy0 : 0 ≤ y := by rw [hy]; exact (nx_isU z).1
        have hy1 : y < 18446744073709551616 := by rw [hy]; exact (nx_isU z).2
        have Hy : Hid (y = nx z ∧ z' = stp z) := ⟨hy, hz'⟩
        obtain ⟨r, HrH, hrm, hrg⟩ : ∃ r : Nat, Hid (y % ((m : Int) + 1 + 1) = (r : Int)) ∧ r < m + 2 ∧ Hid (r = y.toNat % (m + 2)) := rem_place y m hy0
        have hrn : r < n := by omega
        have hrn' : (r : Int) < (n : Int) := by omega
        have hwr : wrap64 (r : Int) = (r : Int) := by unfold wrap64; omega
        obtain ⟨x1, hx1⟩ : ∃ x, x = cur.getD (m + 1) 0 := ⟨_, rfl⟩
        obtain ⟨x2, hx2⟩ : ∃ x, x = cur.getD r 0 := ⟨_, rfl⟩
        have c1 : U1.cell? ⟨g, m + 1, none⟩ = some (.int .i64 x1) := by rw [hx1]; exact HSh.out.cell (by omega)
        have c2 : U1.cell? ⟨g, r, none⟩ = some (.int .i64 x2) := by rw [hx2]; exact HSh.out.cell (by omega)
        have f1 : U1.frozen? ⟨g, m + 1, none⟩ = false := HSh.out.free _
        have f2 : U1.frozen? ⟨g, r, none⟩ = false := HSh.out.free _
        have HS2 : Hid (ShAt w (U1.setCell ⟨g, m + 1, none⟩ (.int .i64 x2)) g cap (cur.set (m + 1) x2)) := HSh.out.put
        have f3 : (U1.setCell ⟨g, m + 1, none⟩ (.int .i64 x2)).frozen? ⟨g, r, none⟩ = false := HS2.out.free _
        obtain ⟨x3, c3⟩ : ∃ u, (U1.setCell ⟨g, m + 1, none⟩ (.int .i64 x2)).cell? ⟨g, r, none⟩ = some u := ⟨_, HS2.out.cell (by rw [List.length_set]; omega)⟩
        have HX : Hid (x1 = cur.getD (m + 1) 0 ∧ x2 = cur.getD r 0) := ⟨hx1, hx2⟩
        have HR : Hid (r = gen.num z % (m + 2)) := by show r = (nx z).toNat % (m + 2); rw [← Hy.out.1]; exact hrg.out
        clear CN hy hz' hx1 hx2 hrg
        go_wp2_with (rw [HrH.out, hwr])
        exact ⟨⟨m, z', swp cur (m + 1) r, rfl, by rw [Hy.out.2]; exact stp_isU z, rfl, by omega, by rw [swp_len]; exact hc, by rw [← HSt.out, shuf, ← HR.out, Hy.out.2]; rfl, by have := HS2.out.put (i := r) (z := x1); rw [HX.out.1, HX.out.2] at this ⊢; exact this⟩, by first | (simp [intOf]; done) | (simp [intOf]; omega)⟩
end Go.Proofs.Ytjjgipklhdofhaa
