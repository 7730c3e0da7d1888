/-
  LentInts, CopyInts, KeptInts: a list of numbers lent, copied, as it was.
-/
import Derived.Test.YtjjgipklhdofhaaIb
import Derived.Laws.MakeOwn
import Derived.Laws.AppendOwnNone
import Derived.OwnWalk
import Derived.Maps.AppendAt
namespace Go.Proofs.Ytjjgipklhdofhaa
open Go.RowKit

/-- Numbers that were handed in. -/
def IntsA (w : World) (v : Value) (os : List Int) : Prop := (v = .slice none 0 0 ∧ os = []) ∨ ∃ ad cap, v = .slice (some ad) os.length cap ∧ ∀ (j : Nat) u, (ints os)[j]? = some u → w.cell? (Addr.add ad j) = some u
theorem IntsA.keep {w w' : World} {v : Value} {os : List Int} (h : IntsA w v os) (g : w.grownBy w' none) : IntsA w' v os := by
  rcases h with h | ⟨ad, cap, e, h⟩
  · exact Or.inl h
  · exact Or.inr ⟨ad, cap, e, fun j u hu => g.cell (h j u hu) (by simp)⟩
theorem IntsA.in {w : World} {v : Value} {os : List Int} (h : IntsA w v os) : IntsIn w v os := by
  rcases h with ⟨rfl, rfl⟩ | ⟨ad, cap, rfl, h⟩
  · exact ⟨none, 0, rfl, fun h => absurd h (by decide)⟩
  · refine ⟨some ad, cap, rfl, fun h0 => ?_⟩
    have c0 := h 0 _ (ints_at os 0 h0)
    have ex : Addr.add ad 0 = ad := by simp [Addr.add]
    rw [ex] at c0
    have pl := addr_plain c0
    refine ⟨ad.block, ad.off, by rw [← pl], fun j x hx => ?_⟩
    have hj := (List.getElem?_eq_some_iff.1 hx).1
    have h9 := h j (.int .i64 x) (by unfold ints; rw [List.getElem?_map, hx]; rfl)
    rw [pl, add_plain] at h9
    exact h9
theorem ints_one (l : List Int) : ∀ u ∈ ints l, u.oneCell' = true := fun u hu => by
  obtain ⟨z, _, rfl⟩ := List.mem_map.1 hu
  rfl
theorem ints_app (a b : List Int) : ints (a ++ b) = ints a ++ ints b := by simp [ints]
theorem m77 {w : World} {g : Nat} (h : w.heap[g]? = some (.cells #[.int .i64 (-77), .int .i64 (-77)] 3 (0, 0))) : ∀ j u, (ints [-77, -77])[j]? = some u → w.cell? ((⟨g, 0, none⟩ : Addr).add j) = some u := fun j u hu => by
  rw [add_plain, Nat.zero_add, block_cell h]
  simpa [ints] using hu
theorem own_two {w : World} {base : Nat} {v : Value} {n : Nat} {xs : List Value} (h : w.ownsRow base 3 1 v (n + 2) xs) : ∃ g c, v = .slice (some ⟨g, 0, none⟩) (n + 2) c := by
  rcases h.2 with ⟨_, h0⟩ | ⟨g, cap, _, rfl, _⟩
  · omega
  · exact ⟨g, cap, rfl⟩
theorem Try.info3i : (Try.prog.info? 3).map (fun i => (i.zero, i.size, i.bytes)) = some (some (.int .i64 0), 1, 8) := by kernel_rfl
set_option maxRecDepth 100000 in
set_option maxHeartbeats 2000000 in
theorem lentI_any (v : Value) (os : List Int) (w : World) (h : IntsA w v os) (hb : (os.length + 2) * 8 ≤ 140737488355328) : Calls Try.prog 9 #[v] w fun e w' => e = .returned (.slice (some ⟨w.heap.size, 0, none⟩) (os.length + 2) (os.length + 2)) ∧ w'.ownsRow w.heap.size 3 1 (.slice (some ⟨w.heap.size, 0, none⟩) (os.length + 2) (os.length + 2)) (os.length + 2) (ints (os ++ [-77, -77])) ∧ w.grownBy w' none := by
  obtain ⟨i0, hi, hz0, hz1, hz2⟩ := info_parts Try.info3i
  have hw : wrap64 ((os.length : Int) + 2) = (os.length : Int) + 2 := by unfold wrap64; omega
  have hC : Hid (((os.length : Int) + 2) = ((os.length + 2 : Nat) : Int)) := by unfold Hid; omega
  have hB : Hid (i0.bytes * (os.length + 2) ≤ 281474976710656) := by unfold Hid; rw [hz2]; omega
  have hM : Hid (os.length + 2 ≤ maxLen) := by unfold Hid maxLen; omega
  rcases h with ⟨rfl, rfl⟩ | ⟨ad, cap, rfl, h⟩
  · go_enter Try.func9, Try.ntmps9
    go_wp2_with (first | (at_make; refine wpList_make_own _ rfl _ _ 22 rfl w.heap.size 3 i0 _ 1 Try.underlying22 hi hz0 hz1 .i64 .i64 _ 2 rfl rfl rfl (by rw [hz2]; decide) (by decide) (Nat.le_refl _) ?_; intro w1 o1 g1) | (at_builtin; refine wpList_append_own_none rfl (.tmp 8) (.tmp 9) 22 rfl w.heap.size 3 i0 1 Try.underlying22 hi _ 0 [] rfl o1 rfl ?_) | (at_builtin; refine wpList_append_fits _ rfl (.tmp 11) (.tmp 12) 22 rfl w.heap.size 3 i0 1 Try.underlying22 hi hz1 w.heap.size 0 2 [] rfl (o1.alloc _) ⟨w1.heap.size, 0, none⟩ 2 2 (ints [-77, -77]) rfl rfl (m77 (alloc_at _ _ _)) (ints_one _) (by decide) ?_; intro w3 o3 g3) | fail)
    go_ret
    have G : w.grownBy w3 none := grown_own (grown_push g1 _) g3 (fun x e => by cases e; exact Nat.le_refl _)
    exact ⟨rfl, o3, G⟩
  · have HS : Hid (∀ j u, (ints os)[j]? = some u → w.cell? (ad.add j) = some u) := h
    clear h
    go_enter Try.func9, Try.ntmps9
    go_wp2_with (first | (at_make; refine wpList_make_own _ rfl _ _ 22 rfl w.heap.size 3 i0 _ 1 Try.underlying22 hi hz0 hz1 .i64 .i64 _ (os.length + 2) rfl rfl hC.out hB.out hM.out (Nat.le_refl _) ?_; intro w1 o1 g1) | (at_builtin; refine wpList_append_fits _ rfl (.tmp 8) (.tmp 9) 22 rfl w.heap.size 3 i0 1 Try.underlying22 hi hz1 w.heap.size 0 (os.length + 2) [] rfl o1 ad os.length cap (ints os) rfl (by rw [length_ints, Nat.mul_one]) (fun j u hu => g1.cell (HS.out j u hu) (by simp)) (ints_one os) (by omega) ?_; intro w2 o2 g2; rw [Nat.zero_add, List.nil_append] at o2) | (at_builtin; refine wpList_append_fits _ rfl (.tmp 11) (.tmp 12) 22 rfl w.heap.size 3 i0 1 Try.underlying22 hi hz1 w.heap.size os.length (os.length + 2) (ints os) rfl (o2.alloc _) ⟨w2.heap.size, 0, none⟩ 2 2 (ints [-77, -77]) rfl rfl (m77 (alloc_at _ _ _)) (ints_one _) (by omega) ?_; intro w3 o3 g3) | fail)
    go_ret
    have G : w.grownBy w3 none := grown_own (grown_push (grown_own g1 g2 (fun x e => by cases e; exact Nat.le_refl _)) _) g3 (fun x e => by cases e; exact Nat.le_refl _)
    rw [ints_app]
    exact ⟨rfl, o3, G⟩
set_option maxRecDepth 100000 in
set_option maxHeartbeats 2000000 in
theorem copyI_any (v : Value) (os : List Int) (w : World) (h : IntsA w v os) (hb : (os.length + 2) * 8 ≤ 140737488355328) : Calls Try.prog 27 #[v] w fun e w' => ∃ u, e = .returned u ∧ w'.ownsRow w.heap.size 3 1 u os.length (ints os) ∧ w.grownBy w' none := by
  obtain ⟨i0, hi, hz0, hz1, hz2⟩ := info_parts Try.info3i
  rcases h with ⟨rfl, rfl⟩ | ⟨ad, cap, rfl, h⟩
  · go_enter Try.func27, Try.ntmps27
    go_wp2_with (first | (at_builtin; refine wpList_append_own_none rfl (.tmp 4) (.tmp 5) 22 rfl w.heap.size 3 i0 1 Try.underlying22 hi _ 0 [] rfl (World.ownsRow_nil _ _ _ _) rfl ?_) | fail)
    go_ret
    exact ⟨_, rfl, World.ownsRow_nil _ _ _ _, grown_refl _ _⟩
  · have HS : Hid (∀ j u, (ints os)[j]? = some u → w.cell? (ad.add j) = some u) := h
    clear h
    go_enter Try.func27, Try.ntmps27
    go_wp2_with (first | (at_builtin; refine wpList_append_own _ rfl (.tmp 4) (.tmp 5) 22 rfl w.heap.size 3 i0 _ 1 8 Try.underlying22 hi hz0 hz1 hz2 rfl (by decide) (.slice none 0 0) 0 [] rfl (World.ownsRow_nil _ _ _ _) ad os.length cap (ints os) rfl (by rw [length_ints, Nat.mul_one]) HS.out (ints_one os) (by unfold maxLen; omega) (by omega) (Nat.le_refl _) ?_; intro v3 w3 o3 g3 _; rw [Nat.zero_add, List.nil_append] at o3) | fail)
    go_ret
    exact ⟨_, rfl, o3, grown_own (grown_refl _ _) g3 (fun x e => by cases e)⟩
set_option maxRecDepth 100000 in
set_option maxHeartbeats 2000000 in
theorem keptI_any (vf vl : Value) (base : Nat) (os : List Int) (w : World) (hf : L.Own w base vf (os ++ [-77, -77])) (hl : IntsA w vl os) (hb : (os.length + 2) * 8 ≤ 140737488355328) : Calls Try.prog 12 #[vf, vl] w fun e w' => e = .returned (.bool true) ∧ w.grownBy w' none := by
  obtain ⟨i0, hi, hz0, hz1, hz2⟩ := info_parts Try.info3i
  have HF : Hid (L.Own w base vf (os ++ [-77, -77])) := hf
  have C1 := copyI_any vl os w hl hb
  obtain ⟨fa, fc, rfl⟩ := hf.form
  obtain ⟨la, ln, lc, rfl⟩ : ∃ a n c, vl = .slice a n c := by
    rcases hl with ⟨rfl, _⟩ | ⟨ad, cap, rfl, _⟩
    · exact ⟨_, _, _, rfl⟩
    · exact ⟨_, _, _, rfl⟩
  clear hf hl
  go_enter Try.func12, Try.ntmps12
  go_wp2_with fail
  refine C1.mono ?_
  rintro e w1 ⟨u, rfl, o1, g1⟩
  obtain ⟨ua, uc, rfl⟩ : ∃ a c, u = .slice a os.length c := by
    rcases o1.2 with ⟨h, h0⟩ | ⟨g, cap, cur, h, _⟩
    · exact ⟨none, 0, by rw [h, h0]⟩
    · exact ⟨_, _, h⟩
  have hs1 : w.heap.size ≤ w1.heap.size := g1.size
  go_wp2_with (first | (at_builtin; refine wpList_append_own _ rfl (.tmp 7) (.tmp 8) 22 rfl w.heap.size 3 i0 _ 1 8 Try.underlying22 hi hz0 hz1 hz2 rfl (by decide) _ os.length (ints os) rfl (World.ownsRow.alloc o1 _) ⟨w1.heap.size, 0, none⟩ 2 2 (ints [-77, -77]) rfl rfl (m77 (alloc_at _ _ _)) (ints_one _) (by unfold maxLen; omega) (by omega) (by rw [World.size_alloc]; omega) ?_; intro v3 w3 o3 g3 _; obtain ⟨g', c3, rfl⟩ : ∃ g c, v3 = .slice (some ⟨g, 0, none⟩) (os.length + 2) c := own_two o3) | fail)
  have G3 : w.grownBy w3 none := grown_own (grown_push g1 _) g3 (fun x e => (World.ownsRow.lt o1 x e).1)
  have O3 : L.Own w3 w.heap.size (.slice (some ⟨g', 0, none⟩) (os.length + 2) c3) (os ++ [-77, -77]) := by
    unfold L.Own
    rw [List.length_append]
    rw [← ints_app] at o3
    exact o3
  have F3 : L.Own w3 base (.slice fa (os ++ [-77, -77]).length fc) (os ++ [-77, -77]) := World.ownsRow.kept HF.out G3 (by cases fa <;> simp [Value.ownBlock])
  have hln : (os ++ [-77, -77] : List Int).length = os.length + 2 := by simp
  rw [hln] at F3
  refine (L.same_ints _ _ _ _ _ F3.ints O3.ints).mono ?_
  rintro e w4 ⟨rfl, n4, h4⟩
  rw [decide_eq_true rfl]
  have G4 : w.grownBy w4 none := by rw [h4]; exact grown_trans G3 (grown_drewN _ _ _)
  clear o1 g1 o3 g3 G3 O3 F3 h4 C1
  go_wp2
  go_ret
  exact ⟨rfl, G4⟩
end Go.Proofs.Ytjjgipklhdofhaa
