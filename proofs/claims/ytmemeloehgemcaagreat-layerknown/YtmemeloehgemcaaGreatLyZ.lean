/-
  slices.Delete of standing effects.
-/
import Derived.Test.YtmemeloehgemcaaGreatLyY
import Derived.Deep.RegionLaw
import Derived.Lib.SliceRun
namespace Go.Proofs.YtmemeloehgemcaaGreat
open Go.RowKit

theorem own_cut {w : World} {base e size g n m cap : Nat} {xs : List Value} (h : w.ownsRow base e size (.slice (some ⟨g, 0, none⟩) n cap) n xs) (hm : m ≤ n) : w.ownsRow base e size (.slice (some ⟨g, 0, none⟩) m cap) m (xs.take (m * size)) := by
  have h2 : m * size ≤ n * size := Nat.mul_le_mul_right _ hm
  refine ⟨by rw [List.length_take, h.1]; omega, ?_⟩
  rcases h.2 with ⟨e1, _⟩ | ⟨g', cap', cur, e1, hb, hh, hc, hx, hs, ht⟩
  · cases e1
  · cases e1
    refine Or.inr ⟨g, cap, cur, rfl, hb, hh, Nat.le_trans hm hc, hx, hs, ?_⟩
    rw [← ht, List.take_take, Nat.min_eq_left h2]
theorem zero_ones {zs : Array Value} (h : ∀ v ∈ zs.toList, v.oneCell' = true) (hz : 0 < zs.size) (n : Nat) : ∀ v ∈ (Builtin.zeroCells zs n).toList, v.oneCell' = true := fun v hv => by
  unfold Builtin.zeroCells at hv
  simp at hv
  obtain ⟨i, _, rfl⟩ := hv
  have hi : i % zs.size < zs.size := Nat.mod_lt _ hz
  rw [getElem!_pos zs _ hi]
  exact h _ (by simp)
theorem zero_len (zs : Array Value) (n : Nat) : (Builtin.zeroCells zs n).toList.length = n * zs.size := by unfold Builtin.zeroCells; simp
theorem run_clearK {P : Program} (w : World) (t e ty : TypeId) (zs : Array Value) (ht : P.underlying t = some (.slice e)) (hv : ∀ w, (zeroValue e).run P w = .ok (.agg zs) w) (h1 : ∀ v ∈ zs.toList, v.oneCell' = true) (hz : 0 < zs.size) (b o n c : Nat) (hn : 0 < n)
    (hc : w.there b o (n * zs.size)) :
    (Builtin.clear_ #[t] ty #[.slice (some ⟨b, o, none⟩) n c]).run P w = .ok (.tuple #[]) (w.setCells b o (Builtin.zeroCells zs n).toList) := by
  have hst := run_storeCells_cells (P := P) b o (Builtin.zeroCells zs n).toList 0 w (fun j hj => by rw [zero_len] at hj; exact (hc j hj).1) (fun j hj => by rw [zero_len] at hj; exact (hc j hj).2) (zero_ones h1 hz n)
  simp only [Nat.add_zero] at hst
  obtain ⟨m, rfl⟩ : ∃ m, n = m + 1 := ⟨n - 1, by omega⟩
  simp [Builtin.clear_, run_underlying ht, hv, Value.cells, hst]
theorem set_twice {R : RecT Se} {L : List Se} {i j : Nat} {zs : List Value} (hij : i < j) (hj : j ≤ L.length) (hz : zs.length = (j - i) * R.k) : (setFrom (setFrom (R.cs L) (i * R.k) (R.cs (L.drop j))) ((i + (L.length - j)) * R.k) zs).take ((i + (L.length - j)) * R.k) = R.cs (L.take i ++ L.drop j) := by
  have e1 : (i + (L.length - j)) * R.k + (j - i) * R.k = L.length * R.k := by rw [← Nat.add_mul]; congr 1; omega
  have e2 : i * R.k + (L.drop j).length * R.k = (i + (L.length - j)) * R.k := by rw [List.length_drop, ← Nat.add_mul]
  have e3 : i * R.k + (L.drop j).length * R.k ≤ L.length * R.k := by rw [e2]; omega
  have h1 : setFrom (R.cs L) (i * R.k) (R.cs (L.drop j)) = R.cs (L.take i) ++ (R.cs (L.drop j) ++ (R.cs L).drop (i * R.k + (R.cs (L.drop j)).length)) := by rw [setFrom_eq _ _ _ (by rw [R.len, R.len]; exact e3), R.take]
  have l1 : (setFrom (R.cs L) (i * R.k) (R.cs (L.drop j))).length = L.length * R.k := by
    rw [h1, List.length_append, List.length_append, List.length_drop, R.len, R.len, R.len, List.length_take, Nat.min_eq_left (by omega)]
    omega
  have hl : (R.cs (L.take i ++ L.drop j)).length = (i + (L.length - j)) * R.k := by rw [R.len, List.length_append, List.length_take, List.length_drop, Nat.min_eq_left (by omega)]
  rw [setFrom_eq _ _ _ (by rw [l1, hz]; omega), List.take_append_of_le_length (by rw [List.length_take, l1]; omega), List.take_take, Nat.min_self, h1, ← List.append_assoc, ← R.app, List.take_append_of_le_length (by rw [hl]; exact Nat.le_refl _), List.take_of_length_le (by rw [hl]; exact Nat.le_refl _)]
def zS : Array Value := #[.int .i64 0, .int .i64 0, .int .u8 0, .int .u8 0, .int .u8 0, .int .i64 0, .int .u8 0, .int .u8 0, .int .u8 0, .string ⟨#[]⟩, .int .i64 0]
theorem zS_ones : ∀ v ∈ zS.toList, v.oneCell' = true := by
  unfold zS
  simp
  exact ⟨rfl, rfl, rfl, rfl, rfl, rfl⟩
set_option maxHeartbeats 4000000 in
set_option maxRecDepth 1000000 in
theorem deleteS_any (base g cap i j : Nat) (L : List Se) (w : World) (O : SOwn w base (.slice (some ⟨g, 0, none⟩) L.length cap) L) (hij : i < j) (hj : j ≤ L.length) : Calls Tryz.prog 62 #[.slice (some ⟨g, 0, none⟩) L.length cap, .int .i64 (i : Int), .int .i64 (j : Int)] w fun e w' => e = .returned (.slice (some ⟨g, 0, none⟩) (i + (L.length - j)) cap) ∧ SOwn w' base (.slice (some ⟨g, 0, none⟩) (i + (L.length - j)) cap) (L.take i ++ L.drop j) ∧ w.grownBy w' (some g) := by
  obtain ⟨i0, hi0, hz0, hz1, hz2⟩ := info_parts Tryz.linfoS
  obtain ⟨g', cap', e', _, _, hcap, hmx, hcell⟩ := own_cell O (by omega)
  injection e' with e1 e2 e3
  injection e1 with e1
  injection e1 with e1
  subst e1
  subst e3
  obtain ⟨n, hn⟩ : ∃ n, n = L.length := ⟨_, rfl⟩
  rw [← hn] at hj hcap hcell ⊢
  have hm : cap ≤ 9223372036854775807 := by unfold maxLen at hmx; omega
  have HN : Hid (n = L.length) := hn
  have HO : Hid (w.ownsRow base 123 11 (.slice (some ⟨g, 0, none⟩) n cap) n (seR.cs L)) := by show World.ownsRow _ _ _ _ _ _ _; rw [hn]; exact O
  obtain ⟨news, hnews⟩ : ∃ news, news = seR.cs (L.drop j) := ⟨_, rfl⟩
  have hlen : news.length = (n - j) * 11 := by rw [hnews, seR.len, List.length_drop, ← hn]; rfl
  have hget : ∀ t u, news[t]? = some u → w.cell? ⟨g, j * 11 + t, none⟩ = some u := fun t u hu => by
    have ht : t < (n - j) * 11 := by have := (List.getElem?_eq_some_iff.1 hu).1; rwa [hlen] at this
    rw [(hcell (j * 11 + t) (by show _ < n * 11; omega)).1, ← List.getElem?_drop]
    rw [hnews] at hu
    rw [← hu]
    exact congrArg (·[t]?) (seR.drop L j)
  obtain ⟨A, hA, hsrc⟩ : ∃ A : Addr, (if cap = j then some (⟨g, 0, none⟩ : Addr) else some ⟨g, j * 11, none⟩) = some A ∧ Hid (∀ t u, news[t]? = some u → w.drew.cell? (A.add t) = some u) := by
    by_cases h : cap = j
    · refine ⟨⟨g, 0, none⟩, by simp [h], fun t u hu => ?_⟩
      have h0 : news.length = 0 := by rw [hlen]; omega
      rw [List.length_eq_zero_iff.1 h0] at hu
      simp at hu
    · exact ⟨⟨g, j * 11, none⟩, by simp [h], fun t u hu => by rw [add_plain']; exact hget t u hu⟩
  have s1 : Hid (news.length = (n - j) * 11) := hlen
  have s2 : Hid (∀ u ∈ news, u.oneCell' = true) := by rw [hnews]; exact seR.ones _
  have s3 : Hid (∀ t, t < news.length → (w.drew.cell? ⟨g, 0 + i * 11 + t, none⟩).isSome = true ∧ w.drew.frozen? ⟨g, 0 + i * 11 + t, none⟩ = false) := by
    intro t ht
    rw [hlen] at ht
    rw [Nat.zero_add]
    have hq : i * 11 + t < n * 11 := by omega
    refine ⟨?_, (hcell _ hq).2⟩
    show (w.cell? _).isSome = true
    rw [(hcell _ hq).1, List.getElem?_eq_getElem (by rw [seR.len, ← hn]; exact hq)]
    rfl
  obtain ⟨W1, hW1⟩ : ∃ W1, W1 = w.drew.setCells g (0 + i * 11) news := ⟨_, rfl⟩
  have o1 := own_setCells news (seR.cs L) (i * 11) w.drew (show w.drew.ownsRow base 123 11 (.slice (some ⟨g, 0, none⟩) n cap) n (seR.cs L) from HO.out)
  have eW : w.drew.setCells g (i * 11) news = W1 := by rw [hW1, Nat.zero_add]
  rw [eW] at o1
  have HO1 : Hid (W1.ownsRow base 123 11 (.slice (some ⟨g, 0, none⟩) n cap) n (setFrom (seR.cs L) (i * 11) news)) := o1.1
  have HGW : Hid (w.grownBy W1 (some g)) := grown_trans (grown_drewR w _) o1.2
  obtain ⟨c, hc⟩ : ∃ c, c = i + (n - j) := ⟨_, rfl⟩
  have hcn : n - c = j - i := by omega
  have hcl : ∀ ty, (Builtin.clear_ #[119] ty #[.slice (some ⟨g, c * 11, none⟩) (n - c) (cap - c)]).run Tryz.prog W1 = .ok (.tuple #[]) (W1.setCells g (c * 11) (Builtin.zeroCells zS (n - c)).toList) := fun ty => run_clearK W1 _ 123 ty zS Tryz.underlying119 (fun w => Tryz.zeroValue123 w) zS_ones (by decide) g (c * 11) (n - c) (cap - c) (by omega) (fun t ht => by
    have ht' : t < (n - c) * 11 := ht
    have hq : c * 11 + t < n * 11 := by omega
    refine ⟨?_, World.ownsRow.frozenAt o1.1 _⟩
    rw [World.ownsRow.cellAt o1.1 (c * 11 + t) hq, List.getElem?_eq_getElem (by rw [o1.1.1]; exact hq)]
    rfl)
  have hW : Hid (W1 = w.drew.setCells g (0 + i * 11) news) := hW1
  have HCz : Hid ((Builtin.zeroCells zS (n - c)).toList.length = (j - i) * 11) := by show _ = _; rw [zero_len, hcn]; rfl
  have Hnews : Hid (news = seR.cs (L.drop j)) := hnews
  have Hc : Hid (c = i + (n - j)) := hc
  have hc1 : (i : Int) + ((n - j : Nat) : Int) = (c : Int) := by omega
  have hic : i ≤ cap := by omega
  have hjc : j ≤ cap := by omega
  have hcc : c ≤ cap := by omega
  have hcn2 : c ≤ n := by omega
  have hcne : ¬ cap = c := by omega
  have Hcn : Hid (c < n) := by show _ < _; omega
  clear hW1 hget hnews hlen o1 eW O hcell hn hcn
  rw [← hc]
  clear hc hc1
  go_enter Tryz.func62, Tryz.ntmps62
  go_wp2_with fail
  go_region_law (refine step_append_room rfl (.tmp 22) (.tmp 25) 119 rfl 123 i0 11 Tryz.underlying119 hi0 hz1 g 0 i cap (by simp [Act.eval, Act.put]) A (n - j) (cap - j) news (by simp [Act.eval, Act.put]) s1.out hsrc.out s2.out (by omega) s3.out ?_; rw [← hW.out])
  rw [← Hc.out]
  go_wp2
  go_ret
  have o2 := own_setCells (Builtin.zeroCells zS (n - c)).toList _ (c * 11) W1 HO1.out
  refine ⟨rfl, ?_, grown_trans HGW.out o2.2⟩
  have o3 := own_cut o2.1 (Nat.le_of_lt Hcn.out)
  have e9 := set_twice (R := seR) (L := L) (i := i) (j := j) (zs := (Builtin.zeroCells zS (n - c)).toList) hij (by rw [← HN.out]; exact hj) HCz.out
  rw [← HN.out, ← Hc.out, ← Hnews.out] at e9
  have e10 : (setFrom (setFrom (seR.cs L) (i * 11) news) (c * 11) (Builtin.zeroCells zS (n - c)).toList).take (c * 11) = seR.cs (L.take i ++ L.drop j) := e9
  rw [e10] at o3
  unfold SOwn RecT.Own
  rw [show (L.take i ++ L.drop j).length = c from by rw [List.length_append, List.length_take, List.length_drop, ← HN.out, Hc.out, Nat.min_eq_left (by omega)]]
  exact o3
end Go.Proofs.YtmemeloehgemcaaGreat
