/-
  Two lists, one behind the other, in new memory: the program's joined.
-/
import Derived.Test.YtjjgipklhdofhaaPlS
import Derived.Laws.CopyOwn
import Derived.Deep.CutRange
namespace Go.Proofs.Ytjjgipklhdofhaa
open Go.RowKit

/-- Numbers that were handed in: where they lie, if there are any. -/
theorem IntsA.src {w : World} {v : Value} {os : List Int} (h : IntsA w v os) : ∃ p c, v = .slice p os.length c ∧ (0 < os.length → ∃ ad, p = some ad ∧ ∀ j u, (ints os)[j]? = some u → w.cell? (Addr.add ad j) = some u) := by
  rcases h with ⟨rfl, rfl⟩ | ⟨ad, cap, rfl, h⟩
  · exact ⟨_, _, rfl, fun h => absurd h (by simp)⟩
  · exact ⟨_, _, rfl, fun _ => ⟨ad, rfl, h⟩⟩
theorem below_grown {w w' : World} (h : Below w.heap.size w w') : w.grownBy w' none := ⟨h.os, h.tape, h.output, h.size, fun k hk _ => h.block k hk⟩
theorem splice_two {α : Type} (Z A B : List α) (k : Nat) (hk : A.length = k) (hZ : Z.length = k + B.length) : splice (splice Z 0 A) k B = A ++ B := by
  subst hk
  have e1 : splice Z 0 A = A ++ Z.drop A.length := by simp [splice]
  rw [e1]
  unfold splice
  rw [List.take_left, List.drop_append]
  have e2 : List.drop (A.length + B.length) A = [] := List.drop_eq_nil_of_le (by omega)
  have e3 : List.drop (A.length + B.length - A.length) (List.drop A.length Z) = [] := List.drop_eq_nil_of_le (by simp; omega)
  rw [e2, e3]
  simp
/-- The new list, made: a block of so many cells. -/
theorem made_block {w V : World} {N : Nat} {xs : List Value} (h : V.ownsRow w.heap.size 3 1 (.slice (some ⟨w.heap.size, 0, none⟩) N N) N xs) : ∃ Z : List Value, Z.length = N ∧ V.heap[w.heap.size]? = some (.cells Z.toArray 3 (0, 0)) := by
  rcases h.2 with ⟨h', _⟩ | ⟨g, cap, cur, h', hb, hh, hn, hm, hs, ht⟩
  · simp at h'
  · simp at h'
    obtain ⟨rfl, rfl⟩ := h'
    exact ⟨cur.toList, by simp [hs], by simpa using hh⟩
theorem block_own {w V : World} {N : Nat} {l : List Int} (h : V.heap[w.heap.size]? = some (.cells (ints l).toArray 3 (0, 0))) (hl : l.length = N) (hN : N ≤ maxLen) : V.ownsRow w.heap.size 3 1 (.slice (some ⟨w.heap.size, 0, none⟩) N N) N (ints l) :=
  ⟨by rw [length_ints, Nat.mul_one, hl], Or.inr ⟨w.heap.size, N, _, rfl, Nat.le_refl _, h, Nat.le_refl _, hN, by simp [length_ints, hl], by simp [← hl, length_ints, List.take_of_length_le]⟩⟩
set_option maxRecDepth 100000 in
set_option maxHeartbeats 2000000 in
theorem joined_any (v1 v2 : Value) (a b : List Int) (w : World) (h1 : IntsA w v1 a) (h2 : IntsA w v2 b) (hb : (a.length + b.length) * 8 ≤ 140737488355328) : Calls Try.prog 30 #[v1, v2] w fun e w' => e = .returned (.slice (some ⟨w.heap.size, 0, none⟩) (a.length + b.length) (a.length + b.length)) ∧ w'.ownsRow w.heap.size 3 1 (.slice (some ⟨w.heap.size, 0, none⟩) (a.length + b.length) (a.length + b.length)) (a.length + b.length) (ints (a ++ b)) ∧ w.grownBy w' none := by
  obtain ⟨i0, hi, hz0, hz1, hz2⟩ := info_parts Try.info3i
  obtain ⟨p1, c1, rfl, s1⟩ := h1.src
  obtain ⟨p2, c2, rfl, s2⟩ := h2.src
  clear h1 h2
  obtain ⟨N, hN⟩ : ∃ N, N = a.length + b.length := ⟨_, rfl⟩
  obtain ⟨A, hA⟩ : ∃ A, A = ints a := ⟨_, rfl⟩
  obtain ⟨B, hB⟩ : ∃ B, B = ints b := ⟨_, rfl⟩
  have HAB : Hid (A ++ B = ints (a ++ b)) := by show A ++ B = _; rw [hA, hB, ints_app]
  have HA1 : Hid (∀ u ∈ A, u.oneCell' = true) := by rw [hA]; exact ints_one a
  have HB1 : Hid (∀ u ∈ B, u.oneCell' = true) := by rw [hB]; exact ints_one b
  have hla : A.length = a.length := by rw [hA, length_ints]
  have hlb : B.length = b.length := by rw [hB, length_ints]
  rw [← hA] at s1
  rw [← hB] at s2
  rw [← hN]
  have HLab : Hid ((a ++ b).length = N) := by show (a ++ b).length = N; rw [List.length_append, hN]
  obtain ⟨n, hn⟩ : ∃ n, n = a.length := ⟨_, rfl⟩
  obtain ⟨m, hm⟩ : ∃ m, m = b.length := ⟨_, rfl⟩
  rw [← hn] at s1 hla hN hb ⊢
  rw [← hm] at s2 hlb hN hb ⊢
  clear hA hB hn hm
  have S1 : Hid (0 < n → ∃ ad, p1 = some ad ∧ ∀ j u, A[j]? = some u → w.cell? (Addr.add ad j) = some u) := s1
  have S2 : Hid (0 < m → ∃ ad, p2 = some ad ∧ ∀ j u, B[j]? = some u → w.cell? (Addr.add ad j) = some u) := s2
  have HlA : Hid (A.length = n) := hla
  have HlB : Hid (B.length = m) := hlb
  have HN : Hid (N = n + m) := hN
  have Hbb : Hid (i0.bytes * N ≤ 281474976710656) := by show i0.bytes * N ≤ _; rw [hz2]; omega
  have Hbm : Hid (N ≤ maxLen) := by show N ≤ maxLen; unfold maxLen; omega
  have hsum : (n : Int) + (m : Int) ≤ 17592186044416 := by omega
  have HLL : Hid ((n : Int) + (m : Int) = (N : Int)) := by show (n : Int) + (m : Int) = (N : Int); omega
  have hnN : (n : Int) ≤ (N : Int) := by omega
  clear s1 s2 hla hlb hb hN
  by_cases e : n = N
  · have hm0 : m = 0 := by have := HN.out; omega
    subst hm0
    subst e
    go_enter Try.func30, Try.ntmps30
    go_wp2_with (first | (at_make; refine wpList_make_full _ rfl _ _ 22 rfl w.heap.size 3 i0 _ 1 Try.underlying22 hi hz0 hz1 .i64 .i64 _ _ n rfl rfl HLL.out HLL.out Hbb.out Hbm.out (Nat.le_refl _) ?_; intro V o1 gv; obtain ⟨Z, hZ, hV⟩ := made_block o1; have HZ : Hid (Z.length = n) := hZ; have HV : Hid (V.heap[w.heap.size]? = some (.cells Z.toArray 3 (0, 0))) := hV; have HG : Hid (Below w.heap.size w V) := grown_below gv; clear o1 gv hZ hV) | (refine wpList_copy_splice rfl (.tmp 12) (.tmp 13) 22 22 rfl 3 Try.underlying22 (by kernel_rfl) (some ⟨w.heap.size, 0, none⟩) p1 n n n c1 rfl rfl w.heap.size 0 Z 3 HV.out A (by rw [HlA.out]; exact (Nat.min_eq_left (by have := HN.out; omega)).symm) (fun h => by have := HlA.out; obtain ⟨ad, e, f⟩ := S1.out (by omega); exact ⟨rfl, ad, e, fun j u hu => (below_grown HG.out).cell (f j u hu) (by simp)⟩) (by rw [HlA.out, HZ.out]; have := HN.out; omega) HA1.out w.heap.size w HG.out (Nat.le_refl _) ?_; intro V2 hV2 hG2; have HG2 : Hid (Below w.heap.size w V2) := hG2; clear hG2) | (refine wpList_copy_splice rfl (.tmp 18) (.tmp 19) 22 22 rfl 3 Try.underlying22 (by kernel_rfl) (some ⟨w.heap.size, 0, none⟩) p2 0 0 0 c2 rfl rfl w.heap.size n (splice Z 0 A) 3 hV2.out B (by rw [HlB.out]; rfl) (fun h => by have := HlB.out; omega) (by rw [HlB.out, length_splice _ _ _ (by rw [HlA.out, HZ.out]; omega), HZ.out]; omega) HB1.out w.heap.size w HG2.out (Nat.le_refl _) ?_; intro V3 hV3 hG3; have HG3 : Hid (Below w.heap.size w V3) := hG3; clear hG3) | fail)
    go_ret
    refine ⟨rfl, block_own (by rw [← HAB.out, ← splice_two Z A B n HlA.out (by rw [HZ.out, HlB.out]; rfl)]; exact hV3.out) HLab.out Hbm.out, below_grown HG3.out⟩
  · have e2 : ¬ (N = n) := fun h => e h.symm
    have hm1 : (n : Int) ≠ (N : Int) := by omega
    have HD : Hid (N - n = m) := by show N - n = m; have := HN.out; omega
    go_enter Try.func30, Try.ntmps30
    go_wp2_with (first | (at_make; refine wpList_make_full _ rfl _ _ 22 rfl w.heap.size 3 i0 _ 1 Try.underlying22 hi hz0 hz1 .i64 .i64 _ _ N rfl rfl HLL.out HLL.out Hbb.out Hbm.out (Nat.le_refl _) ?_; intro V o1 gv; obtain ⟨Z, hZ, hV⟩ := made_block o1; have HZ : Hid (Z.length = N) := hZ; have HV : Hid (V.heap[w.heap.size]? = some (.cells Z.toArray 3 (0, 0))) := hV; have HG : Hid (Below w.heap.size w V) := grown_below gv; clear o1 gv hZ hV) | (refine wpList_copy_splice rfl (.tmp 12) (.tmp 13) 22 22 rfl 3 Try.underlying22 (by kernel_rfl) (some ⟨w.heap.size, 0, none⟩) p1 N N n c1 rfl rfl w.heap.size 0 Z 3 HV.out A (by rw [HlA.out]; exact (Nat.min_eq_left (by have := HN.out; omega)).symm) (fun h => by have := HlA.out; obtain ⟨ad, e, f⟩ := S1.out (by omega); exact ⟨rfl, ad, e, fun j u hu => (below_grown HG.out).cell (f j u hu) (by simp)⟩) (by rw [HlA.out, HZ.out]; have := HN.out; omega) HA1.out w.heap.size w HG.out (Nat.le_refl _) ?_; intro V2 hV2 hG2; have HG2 : Hid (Below w.heap.size w V2) := hG2; clear hG2) | (refine wpList_copy_splice rfl (.tmp 18) (.tmp 19) 22 22 rfl 3 Try.underlying22 (by kernel_rfl) (some ⟨w.heap.size, n, none⟩) p2 (N - n) (N - n) m c2 rfl rfl w.heap.size n (splice Z 0 A) 3 hV2.out B (by rw [HlB.out, HD.out]; exact (Nat.min_self m).symm) (fun h => by have := HlB.out; obtain ⟨ad, e, f⟩ := S2.out (by omega); exact ⟨rfl, ad, e, fun j u hu => (below_grown HG2.out).cell (f j u hu) (by simp)⟩) (by rw [HlB.out, length_splice _ _ _ (by rw [HlA.out, HZ.out]; have := HN.out; omega), HZ.out]; have := HN.out; omega) HB1.out w.heap.size w HG2.out (Nat.le_refl _) ?_; intro V3 hV3 hG3; have HG3 : Hid (Below w.heap.size w V3) := hG3; clear hG3) | fail)
    go_ret
    refine ⟨rfl, block_own (by rw [← HAB.out, ← splice_two Z A B n HlA.out (by rw [HZ.out, HlB.out, HN.out])]; exact hV3.out) HLab.out Hbm.out, below_grown HG3.out⟩
theorem joined_one (v : Value) (l : List Int) (w : World) (h : IntsA w v l) (hb : l.length * 8 ≤ 140737488355328) : Calls Try.prog 30 #[v, .slice none 0 0] w fun e w' => e = .returned (.slice (some ⟨w.heap.size, 0, none⟩) l.length l.length) ∧ w'.ownsRow w.heap.size 3 1 (.slice (some ⟨w.heap.size, 0, none⟩) l.length l.length) l.length (ints l) ∧ w.grownBy w' none := by
  have := joined_any v (.slice none 0 0) l [] w h (Or.inl ⟨rfl, rfl⟩) hb
  rw [List.append_nil] at this
  exact this
end Go.Proofs.Ytjjgipklhdofhaa
