/-
  Layers: About, Apply, Depends.
  slices.Delete of standing effects.
  Layers: Effects.
-/
import Derived.Test.YtmemeloehgemcaaGreatT31
import Derived.Deep.RegionLaw
import Derived.Lib.SliceRun
namespace Go.Proofs.YtmemeloehgemcaaGreat
open Go.RowKit

def AboutPost (w : World) (r n : Int) (cd : Int → Hd × List Pt) (ts : List Th) (fs : List Fe) (s : Sd) (e : Ending) (w' : World) : Prop := ∃ p m c, e = .returned (.tuple #[.slice p m c, .int .i64 (lkE r n cd ts fs [s])]) ∧ w.grownBy w' none ∧ (lkE r n cd ts fs [s] ≠ 0 → m = 0 ∧ p = none) ∧ ∀ R d, r = 0 → tabR n cd ts fs = some R → listF R [s] [] = some [d] → LOwnI w' w.heap.size (.slice p m c) (numL R (aboutL R (pickF R fs) d))
def ApplyPost (w : World) (r n : Int) (cd : Int → Hd × List Pt) (ts : List Th) (fs : List Fe) (s : Sd) (e : Ending) (w' : World) : Prop := ∃ p m c, e = .returned (.tuple #[.slice p m c, .int .i64 (lkE r n cd ts fs [s])]) ∧ w.grownBy w' none ∧ (lkE r n cd ts fs [s] ≠ 0 → m = 0 ∧ p = none) ∧ ∀ R d, r = 0 → tabR n cd ts fs = some R → listF R [s] [] = some [d] → FOwn w' w.heap.size (.slice p m c) (amgL fs R (applyL R (pickF R fs) d))
end Go.Proofs.YtmemeloehgemcaaGreat
namespace Go.Proofs.YtmemeloehgemcaaGreat
open Go.RowKit

theorem own_cut {w : World} {base e size g n m cap : Nat} {xs : List Value} (h : w.ownsRow base e size (.slice (some ⟨g, 0, none⟩) n cap) n xs) (hm : m ≤ n) : w.ownsRow base e size (.slice (some ⟨g, 0, none⟩) m cap) m (xs.take (m * size)) := by
  have h2 : m * size ≤ n * size := Nat.mul_le_mul_right _ hm
  refine ⟨by rw [List.length_take, h.1]; omega, ?_⟩
  rcases h.2 with ⟨e1, _⟩ | ⟨g', cap', cur, e1, hb, hh, hc, hx, hs, ht⟩
  · cases e1
  · cases e1
    refine Or.inr ⟨g, cap, cur, rfl, hb, hh, Nat.le_trans hm hc, hx, hs, ?_⟩
    rw [← ht, List.take_take, Nat.min_eq_left h2]
theorem zero_ones {zs : Array Value} (h : ∀ v ∈ zs.toList, v.oneCell' = true) (hz : 0 < zs.size) (n : Nat) : ∀ v ∈ (Builtin.zeroCells zs n).toList, v.oneCell' = true := fun v hv => by
  unfold Builtin.zeroCells at hv
  simp at hv
  obtain ⟨i, _, rfl⟩ := hv
  have hi : i % zs.size < zs.size := Nat.mod_lt _ hz
  rw [getElem!_pos zs _ hi]
  exact h _ (by simp)
theorem zero_len (zs : Array Value) (n : Nat) : (Builtin.zeroCells zs n).toList.length = n * zs.size := by unfold Builtin.zeroCells; simp
theorem run_clearK {P : Program} (w : World) (t e ty : TypeId) (zs : Array Value) (ht : P.underlying t = some (.slice e)) (hv : ∀ w, (zeroValue e).run P w = .ok (.agg zs) w) (h1 : ∀ v ∈ zs.toList, v.oneCell' = true) (hz : 0 < zs.size) (b o n c : Nat) (hn : 0 < n)
    (hc : w.there b o (n * zs.size)) :
    (Builtin.clear_ #[t] ty #[.slice (some ⟨b, o, none⟩) n c]).run P w = .ok (.tuple #[]) (w.setCells b o (Builtin.zeroCells zs n).toList) := by
  have hst := run_storeCells_cells (P := P) b o (Builtin.zeroCells zs n).toList 0 w (fun j hj => by rw [zero_len] at hj; exact (hc j hj).1) (fun j hj => by rw [zero_len] at hj; exact (hc j hj).2) (zero_ones h1 hz n)
  simp only [Nat.add_zero] at hst
  obtain ⟨m, rfl⟩ : ∃ m, n = m + 1 := ⟨n - 1, by omega⟩
  simp [Builtin.clear_, run_underlying ht, hv, Value.cells, hst]
theorem set_twice {R : RecT Se} {L : List Se} {i j : Nat} {zs : List Value} (hij : i < j) (hj : j ≤ L.length) (hz : zs.length = (j - i) * R.k) : (setFrom (setFrom (R.cs L) (i * R.k) (R.cs (L.drop j))) ((i + (L.length - j)) * R.k) zs).take ((i + (L.length - j)) * R.k) = R.cs (L.take i ++ L.drop j) := by
  have e1 : (i + (L.length - j)) * R.k + (j - i) * R.k = L.length * R.k := by rw [← Nat.add_mul]; congr 1; omega
  have e2 : i * R.k + (L.drop j).length * R.k = (i + (L.length - j)) * R.k := by rw [List.length_drop, ← Nat.add_mul]
  have e3 : i * R.k + (L.drop j).length * R.k ≤ L.length * R.k := by rw [e2]; omega
  have h1 : setFrom (R.cs L) (i * R.k) (R.cs (L.drop j)) = R.cs (L.take i) ++ (R.cs (L.drop j) ++ (R.cs L).drop (i * R.k + (R.cs (L.drop j)).length)) := by rw [setFrom_eq _ _ _ (by rw [R.len, R.len]; exact e3), R.take]
  have l1 : (setFrom (R.cs L) (i * R.k) (R.cs (L.drop j))).length = L.length * R.k := by
    rw [h1, List.length_append, List.length_append, List.length_drop, R.len, R.len, R.len, List.length_take, Nat.min_eq_left (by omega)]
    omega
  have hl : (R.cs (L.take i ++ L.drop j)).length = (i + (L.length - j)) * R.k := by rw [R.len, List.length_append, List.length_take, List.length_drop, Nat.min_eq_left (by omega)]
  rw [setFrom_eq _ _ _ (by rw [l1, hz]; omega), List.take_append_of_le_length (by rw [List.length_take, l1]; omega), List.take_take, Nat.min_self, h1, ← List.append_assoc, ← R.app, List.take_append_of_le_length (by rw [hl]; exact Nat.le_refl _), List.take_of_length_le (by rw [hl]; exact Nat.le_refl _)]
def zS : Array Value := #[.int .i64 0, .int .i64 0, .int .u8 0, .int .u8 0, .int .u8 0, .int .i64 0, .int .u8 0, .int .u8 0, .int .u8 0, .string ⟨#[]⟩, .int .i64 0]
theorem zS_ones : ∀ v ∈ zS.toList, v.oneCell' = true := by
  unfold zS
  simp
  exact ⟨rfl, rfl, rfl, rfl, rfl, rfl⟩
set_option maxHeartbeats 4000000 in
set_option maxRecDepth 1000000 in
theorem deleteS_any (base g cap i j : Nat) (L : List Se) (w : World) (O : SOwn w base (.slice (some ⟨g, 0, none⟩) L.length cap) L) (hij : i < j) (hj : j ≤ L.length) : Calls Tryz.prog 62 #[.slice (some ⟨g, 0, none⟩) L.length cap, .int .i64 (i : Int), .int .i64 (j : Int)] w fun e w' => e = .returned (.slice (some ⟨g, 0, none⟩) (i + (L.length - j)) cap) ∧ SOwn w' base (.slice (some ⟨g, 0, none⟩) (i + (L.length - j)) cap) (L.take i ++ L.drop j) ∧ w.grownBy w' (some g) := by
  obtain ⟨i0, hi0, hz0, hz1, hz2⟩ := info_parts Tryz.linfoS
  obtain ⟨g', cap', e', _, _, hcap, hmx, hcell⟩ := own_cell O (by omega)
  injection e' with e1 e2 e3
  injection e1 with e1
  injection e1 with e1
  subst e1
  subst e3
  obtain ⟨n, hn⟩ : ∃ n, n = L.length := ⟨_, rfl⟩
  rw [← hn] at hj hcap hcell ⊢
  have hm : cap ≤ 9223372036854775807 := by unfold maxLen at hmx; omega
  have HN : Hid (n = L.length) := hn
  have HO : Hid (w.ownsRow base 123 11 (.slice (some ⟨g, 0, none⟩) n cap) n (seR.cs L)) := by show World.ownsRow _ _ _ _ _ _ _; rw [hn]; exact O
  obtain ⟨news, hnews⟩ : ∃ news, news = seR.cs (L.drop j) := ⟨_, rfl⟩
  have hlen : news.length = (n - j) * 11 := by rw [hnews, seR.len, List.length_drop, ← hn]; rfl
  have hget : ∀ t u, news[t]? = some u → w.cell? ⟨g, j * 11 + t, none⟩ = some u := fun t u hu => by
    have ht : t < (n - j) * 11 := by have := (List.getElem?_eq_some_iff.1 hu).1; rwa [hlen] at this
    rw [(hcell (j * 11 + t) (by show _ < n * 11; omega)).1, ← List.getElem?_drop]
    rw [hnews] at hu
    rw [← hu]
    exact congrArg (·[t]?) (seR.drop L j)
  obtain ⟨A, hA, hsrc⟩ : ∃ A : Addr, (if cap = j then some (⟨g, 0, none⟩ : Addr) else some ⟨g, j * 11, none⟩) = some A ∧ Hid (∀ t u, news[t]? = some u → w.drew.cell? (A.add t) = some u) := by
    by_cases h : cap = j
    · refine ⟨⟨g, 0, none⟩, by simp [h], fun t u hu => ?_⟩
      have h0 : news.length = 0 := by rw [hlen]; omega
      rw [List.length_eq_zero_iff.1 h0] at hu
      simp at hu
    · exact ⟨⟨g, j * 11, none⟩, by simp [h], fun t u hu => by rw [add_plain']; exact hget t u hu⟩
  have s1 : Hid (news.length = (n - j) * 11) := hlen
  have s2 : Hid (∀ u ∈ news, u.oneCell' = true) := by rw [hnews]; exact seR.ones _
  have s3 : Hid (∀ t, t < news.length → (w.drew.cell? ⟨g, 0 + i * 11 + t, none⟩).isSome = true ∧ w.drew.frozen? ⟨g, 0 + i * 11 + t, none⟩ = false) := by
    intro t ht
    rw [hlen] at ht
    rw [Nat.zero_add]
    have hq : i * 11 + t < n * 11 := by omega
    refine ⟨?_, (hcell _ hq).2⟩
    show (w.cell? _).isSome = true
    rw [(hcell _ hq).1, List.getElem?_eq_getElem (by rw [seR.len, ← hn]; exact hq)]
    rfl
  obtain ⟨W1, hW1⟩ : ∃ W1, W1 = w.drew.setCells g (0 + i * 11) news := ⟨_, rfl⟩
  have o1 := own_setCells news (seR.cs L) (i * 11) w.drew (show w.drew.ownsRow base 123 11 (.slice (some ⟨g, 0, none⟩) n cap) n (seR.cs L) from HO.out)
  have eW : w.drew.setCells g (i * 11) news = W1 := by rw [hW1, Nat.zero_add]
  rw [eW] at o1
  have HO1 : Hid (W1.ownsRow base 123 11 (.slice (some ⟨g, 0, none⟩) n cap) n (setFrom (seR.cs L) (i * 11) news)) := o1.1
  have HGW : Hid (w.grownBy W1 (some g)) := grown_trans (grown_drewR w _) o1.2
  obtain ⟨c, hc⟩ : ∃ c, c = i + (n - j) := ⟨_, rfl⟩
  have hcn : n - c = j - i := by omega
  have hcl : ∀ ty, (Builtin.clear_ #[119] ty #[.slice (some ⟨g, c * 11, none⟩) (n - c) (cap - c)]).run Tryz.prog W1 = .ok (.tuple #[]) (W1.setCells g (c * 11) (Builtin.zeroCells zS (n - c)).toList) := fun ty => run_clearK W1 _ 123 ty zS Tryz.underlying119 (fun w => Tryz.zeroValue123 w) zS_ones (by decide) g (c * 11) (n - c) (cap - c) (by omega) (fun t ht => by
    have ht' : t < (n - c) * 11 := ht
    have hq : c * 11 + t < n * 11 := by omega
    refine ⟨?_, World.ownsRow.frozenAt o1.1 _⟩
    rw [World.ownsRow.cellAt o1.1 (c * 11 + t) hq, List.getElem?_eq_getElem (by rw [o1.1.1]; exact hq)]
    rfl)
  have hW : Hid (W1 = w.drew.setCells g (0 + i * 11) news) := hW1
  have HCz : Hid ((Builtin.zeroCells zS (n - c)).toList.length = (j - i) * 11) := by show _ = _; rw [zero_len, hcn]; rfl
  have Hnews : Hid (news = seR.cs (L.drop j)) := hnews
  have Hc : Hid (c = i + (n - j)) := hc
  have hc1 : (i : Int) + ((n - j : Nat) : Int) = (c : Int) := by omega
  have hic : i ≤ cap := by omega
  have hjc : j ≤ cap := by omega
  have hcc : c ≤ cap := by omega
  have hcn2 : c ≤ n := by omega
  have hcne : ¬ cap = c := by omega
  have Hcn : Hid (c < n) := by show _ < _; omega
  clear hW1 hget hnews hlen o1 eW O hcell hn hcn
  rw [← hc]
  clear hc hc1
  go_enter Tryz.func62, Tryz.ntmps62
  go_wp2_with fail
  go_region_law (refine step_append_room rfl (.tmp 22) (.tmp 25) 119 rfl 123 i0 11 Tryz.underlying119 hi0 hz1 g 0 i cap (by simp [Act.eval, Act.put]) A (n - j) (cap - j) news (by simp [Act.eval, Act.put]) s1.out hsrc.out s2.out (by omega) s3.out ?_; rw [← hW.out])
  rw [← Hc.out]
  go_wp2
  go_ret
  have o2 := own_setCells (Builtin.zeroCells zS (n - c)).toList _ (c * 11) W1 HO1.out
  refine ⟨rfl, ?_, grown_trans HGW.out o2.2⟩
  have o3 := own_cut o2.1 (Nat.le_of_lt Hcn.out)
  have e9 := set_twice (R := seR) (L := L) (i := i) (j := j) (zs := (Builtin.zeroCells zS (n - c)).toList) hij (by rw [← HN.out]; exact hj) HCz.out
  rw [← HN.out, ← Hc.out, ← Hnews.out] at e9
  have e10 : (setFrom (setFrom (seR.cs L) (i * 11) news) (c * 11) (Builtin.zeroCells zS (n - c)).toList).take (c * 11) = seR.cs (L.take i ++ L.drop j) := e9
  rw [e10] at o3
  unfold SOwn RecT.Own
  rw [show (L.take i ++ L.drop j).length = c from by rw [List.length_append, List.length_take, List.length_drop, ← HN.out, Hc.out, Nat.min_eq_left (by omega)]]
  exact o3
end Go.Proofs.YtmemeloehgemcaaGreat
namespace Go.Proofs.YtmemeloehgemcaaGreat
open Go.RowKit

def DOwn (w : World) (base : Nat) (v : Value) (L : List Sd) : Prop := sdR.Own 49 w base v L
theorem Tryz.linfoD : (Tryz.prog.info? 49).map (fun i => (i.zero, i.size, i.bytes)) = some (some (.agg #[.int .i64 0, .int .i64 0, .int .u8 0, .int .u8 0, .int .u8 0, .int .i64 0, .int .u8 0, .int .u8 0, .int .u8 0, .string ⟨#[]⟩]), 10, 56) := by kernel_rfl
theorem sd_src (Z : World) (s : Sd) : Src (Z.alloc (.cells (sdc s).toArray 49)) (.slice (some ⟨Z.heap.size, 0, none⟩) 1 1) 1 10 (sdc s) := lit_Src (cs := (sdc s).toArray) (alloc_at Z _ _) rfl 1
theorem len_smallD {n : Nat} (h : n ≤ 4096) : n + 1 ≤ maxLen ∧ (n + 1) * 56 ≤ 140737488355328 := by unfold maxLen; omega
theorem bgE_of {r n : Int} {cd : Int → Hd × List Pt} {ts : List Th} {fs : List Fe} {k : Int} (h : bgE r n cd ts fs k = 0) : r = 0 ∧ (1 ≤ k ∧ k ≤ 5) ∧ ∃ R, tabR n cd ts fs = some R := by
  unfold bgE at h
  split at h
  · rename_i h0
    split at h
    · rename_i h1
      obtain ⟨a, R, b⟩ := lkE_nil h0
      exact ⟨a, h1, R, b⟩
    · cases h
  · rename_i h0
    exact absurd h h0
theorem bgE_ok {n : Int} {cd : Int → Hd × List Pt} {ts : List Th} {fs : List Fe} {k : Int} {R : List Rw} (h : tabR n cd ts fs = some R) (hk : 1 ≤ k ∧ k ≤ 5) : bgE 0 n cd ts fs k = 0 := by
  unfold bgE
  rw [if_pos (lkE_tabs h), if_pos hk]
theorem effP_ro {k nu : Int} {ro : Nat} {ps : List Pt} {m : Nat} {e : Se} (h : e ∈ effP k nu ro ps m) : e.ro = ro := by
  unfold effP at h
  obtain ⟨i, _, q⟩ := List.mem_filterMap.1 h
  split at q
  · cases q; rfl
  · cases q
theorem effL_ro {R : List Rw} {F : List Fe} {k : Int} {e : Se} (h : e ∈ effL R F k) : e.ro < R.length := by
  unfold effL effU at h
  obtain ⟨i, hi, q⟩ := List.mem_flatMap.1 h
  unfold effR at q
  split at q
  · cases q
  · rw [effP_ro q]
    exact List.mem_range.1 hi
theorem effL_len {X : List Rv} {F : List Fe} {k : Int} (h4 : ∀ x ∈ X, x.r.ps.length ≤ 4) (h16 : X.length ≤ 16) : (effL (rws X) F k).length ≤ 64 := by
  unfold effL
  have := effU_len (R := rws X) (F := F) (k := k) (fun i => by
    by_cases h : i < X.length
    · rw [rws_get h]; exact h4 _ (List.getElem_mem h)
    · rw [List.getD_eq_getElem?_getD, List.getElem?_eq_none (by rw [rws_len]; omega)]; exact Nat.zero_le _) (rws X).length
  rw [rws_len] at this ⊢
  omega
def EffectsPost (w : World) (r n : Int) (cd : Int → Hd × List Pt) (ts : List Th) (fs : List Fe) (k : Int) (e : Ending) (w' : World) : Prop := ∃ p m c, e = .returned (.tuple #[.slice p m c, .int .i64 (bgE r n cd ts fs k)]) ∧ w.grownBy w' none ∧ (bgE r n cd ts fs k ≠ 0 → m = 0 ∧ p = none) ∧ ∀ R, r = 0 → 1 ≤ k ∧ k ≤ 5 → tabR n cd ts fs = some R → DOwn w' w.heap.size (.slice p m c) ((effL R (pickF R fs) k).map Se.s)
theorem map_next {L : List Se} {k : Nat} (h : k < L.length) : (L.take (k + 1)).map Se.s = (L.take k).map Se.s ++ [(L.getD k Se.none).s] := by
  rw [getD_in h, List.take_add_one, List.getElem?_eq_getElem h, List.map_append]
  rfl
set_option maxRecDepth 100000 in
set_option maxHeartbeats 4000000 in
theorem lEffects_any (bv vt vf : Value) (r n : Int) (cd : Int → Hd × List Pt) (ts : List Th) (fs : List Fe) (k : Int) (w : World) (I : LIn w bv vt vf r n cd ts fs) : Calls Tryz.prog 12 #[bv, vt, vf, .int .i64 k] w (EffectsPost w r n cd ts fs k) := by
  obtain ⟨i0, hi, hz0, hz1, hz2⟩ := info_parts Tryz.linfoD
  obtain ⟨pt, ct, rfl⟩ := I.things.form
  obtain ⟨pf, cf, rfl⟩ := I.feats.form
  have HBg := lbegin_any bv _ _ r n cd ts fs k w I
  unfold BgPost tbv at HBg
  have HI : Hid (LIn w bv (.slice pt ts.length ct) (.slice pf fs.length cf) r n cd ts fs) := I
  clear I
  go_enter Tryz.func12, Tryz.ntmps12
  go_wp2_with fail
  refine HBg.mono ?_
  rintro e2 w2 ⟨p1, m1, c1, p2, m2, c2, p3, m3, c3, rfl, g2, h2⟩
  obtain ⟨q, hq⟩ : ∃ q, q = bgE r n cd ts fs k := ⟨_, rfl⟩
  have Hq : Hid (q = bgE r n cd ts fs k) := hq
  rw [← hq]
  obtain ⟨V, hV⟩ : ∃ V, V = w2.alloc (.cells #[.slice p1 m1 c1, .slice p2 m2 c2] 118) := ⟨_, rfl⟩
  have HGV : Hid (w.grownBy V none) := by rw [hV]; exact grown_push g2 _
  have HBt : Hid (TbB V w2.heap.size (.slice p1 m1 c1) (.slice p2 m2 c2)) := by rw [hV]; exact alloc_at _ _ _
  have H2 : Hid (∀ R, r = 0 → 1 ≤ k ∧ k ≤ 5 → tabR n cd ts fs = some R → ∃ X, rws X = R ∧ TbO V w.heap.size (.slice p1 m1 c1) (.slice p2 m2 c2) X (pickF R fs) ∧ (∀ x ∈ X, 1 ≤ x.r.nu ∧ x.r.nu ≤ (fs.length : Int)) ∧ SOwn V w.heap.size (.slice p3 m3 c3) (effL R (pickF R fs) k)) := fun R a b c => by
    obtain ⟨X, x1, x2, x3, x4⟩ := h2 R a b c
    have g := World.grownBy_alloc w2 (.cells #[.slice p1 m1 c1, .slice p2 m2 c2] 118) none
    exact ⟨X, x1, by rw [hV]; exact x2.grow g, x3, by rw [hV]; exact own_grow x4 g⟩
  have Hw2 : Hid (w.heap.size ≤ w2.heap.size) := g2.size
  clear HBg g2 h2 hq
  go_upto_region 2 with fail
  rw [← hV]
  obtain ⟨nb, hnb⟩ : ∃ nb, nb = w2.heap.size := ⟨_, rfl⟩
  rw [← hnb] at HBt Hw2 ⊢
  clear hV hnb
  by_cases hq0 : q = 0
  · have e1 : (q != 0) = false := by simpa using hq0
    obtain ⟨hr0, hk0, R, hR⟩ := bgE_of (Hq.out.symm.trans hq0)
    obtain ⟨X, hX, hT, hnu, hS⟩ := H2.out R hr0 hk0 hR
    have HRL : Hid (rws X = R ∧ tabR n cd ts fs = some R ∧ bgE r n cd ts fs k = 0) := ⟨hX, hR, Hq.out.symm.trans hq0⟩
    obtain ⟨L, hL⟩ : ∃ L, L = effL R (pickF R fs) k := ⟨_, rfl⟩
    have hLl : L.length ≤ 64 := by rw [hL, ← hX]; exact effL_len (fun x hx => (hT.parts x hx).2) hT.few
    rw [← hL] at hS
    have HS : Hid (seR.At V (.slice p3 m3 c3) L) := RecT.Own.at hS
    have HL : Hid (L = effL R (pickF R fs) k) := hL
    have Hm3 : Hid (m3 = L.length) := by obtain ⟨a, b, e⟩ := RecT.Own.form hS; injection e
    rw [Hm3.out] at HS
    rw [Hm3.out]
    have Hll : Hid (L.length ≤ 64) := hLl
    clear hq0 hr0 hk0 hR hX hT hnu hS H2 hL hLl
    go_wp2_with fail
    go_loopw [13, 30] (fun v i wr => ∃ j : Nat, j ≤ L.length ∧ i = .int .i64 (j : Int) ∧ DOwn wr V.heap.size v ((L.take j).map Se.s) ∧ V.grownBy wr none) (fun _ i _ => L.length - (intOf i).toNat)
    case atStart => exact ⟨0, Nat.zero_le _, rfl, RecT.Own.nil _ _ _ _, grown_refl _ _⟩
    case round =>
      obtain ⟨j, hj, rfl, O, G⟩ := hrel
      obtain ⟨U, hU⟩ : ∃ U, U = wr := ⟨_, rfl⟩
      subst hU
      obtain ⟨pq, cq, rfl⟩ := O.form
      have HG : Hid (V.grownBy U none) := G
      by_cases hlt : j < L.length
      · obtain ⟨g, off, cap, e1, RR⟩ := SeAt.there (HS.out.keep G) hlt
        cases e1
        obtain ⟨e, he⟩ : ∃ e, e = L.getD j Se.none := ⟨_, rfl⟩
        rw [← he] at RR
        obtain ⟨c0, c1', c2', c3', c4, c5, c6, c7, c8, c9, c10⟩ := se_cells RR
        obtain ⟨Y, hY⟩ : ∃ Y, Y = U.alloc (.cells #[.int .i64 e.s.th, .int .i64 e.s.pl, .int .u8 e.s.wh.wn, .int .u8 e.s.wh.vb, .int .u8 e.s.wh.wm, .int .i64 e.s.wh.ct, .int .u8 e.s.wh.su, .int .u8 e.s.wh.tr, .int .u8 e.s.wh.mr, .string e.s.wh.nm, .int .i64 (e.ro : Int)] 123) := ⟨_, rfl⟩
        have HGY : Hid (U.grownBy Y none) := by rw [hY]; exact World.grownBy_alloc _ _ none
        have HBe : Hid (SeB Y U.heap.size e) := by rw [hY]; exact alloc_at _ _ _
        have hDl : ((L.take j).map Se.s).length = j := by rw [List.length_map, List.length_take, Nat.min_eq_left (Nat.le_of_lt hlt)]
        have HNx : Hid ((L.take (j + 1)).map Se.s = (L.take j).map Se.s ++ [e.s]) := by show _ = _; rw [map_next hlt, ← he]
        obtain ⟨D, hD⟩ : ∃ D, D = (L.take j).map Se.s := ⟨_, rfl⟩
        rw [← hD] at O HNx hDl ⊢
        have HOY : Hid (Y.ownsRow V.heap.size 49 10 (.slice pq D.length cq) D.length (sdR.cs D)) := O.grow HGY.out
        have HLn : Hid (D.length + 1 ≤ maxLen ∧ (D.length + 1) * 56 ≤ 140737488355328) := len_smallD (by rw [hDl]; exact Nat.le_trans (Nat.le_of_lt hlt) (Nat.le_trans Hll.out (by decide)))
        have hlt' : (j : Int) < L.length := Int.ofNat_lt.2 hlt
        have Hlt : Hid (j < L.length) := hlt
        have hwk := wrap_next (k := j) (Nat.le_trans (Nat.le_of_lt hlt) (Nat.le_trans Hll.out (by decide)))
        have HM : Hid (L.length - (intOf (.int .i64 ((j : Int) + 1))).toNat < L.length - (intOf (.int .i64 (j : Int))).toNat) := meas_k hlt
        clear he RR O G hD hDl hlt hj
        go_upto_region 8 with fail
        rw [← hY]
        obtain ⟨nc, hnc⟩ : ∃ nc, nc = U.heap.size := ⟨_, rfl⟩
        rw [← hnc] at HBe ⊢
        clear hY hnc c0 c1' c2' c3' c4 c5 c6 c7 c8 c9 c10
        obtain ⟨o0, o1, o2, o3, o4, o5, o6, o7, o8, o9, o10⟩ := se_box HBe.out
        go_wp2_with (at_builtin; refine lwpl_app (by rfl) (.tmp 34) (.tmp 37) 36 rfl V.heap.size 49 i0 _ 10 56 Tryz.underlying36 hi hz0 hz1 hz2 rfl (by decide) _ D.length (sdR.cs D) rfl (World.ownsRow.alloc HOY.out _) _ 1 (sdc e.s) rfl (sd_src Y e.s) (sdc_ones _) HLn.out.1 HLn.out.2 (by rw [World.size_alloc]; exact Nat.le_succ_of_le (grown_trans HG.out HGY.out).size) ?_; intro v8 w8 o8 g8 _; have HO8 : Hid _ := o8; have HG8 : Hid _ := g8; clear o8 g8)
        have HS8 : Hid (DOwn w8 V.heap.size v8 (D ++ [e.s]) ∧ V.grownBy w8 none) := ⟨RecT.more HO8.out rfl, grown_own (grown_push (grown_trans HG.out HGY.out) _) HG8.out (fun y e => (World.ownsRow.lt HOY.out y e).1)⟩
        clear HO8 HG8
        go_roundw
        case rel => exact ⟨j + 1, Hlt.out, by first | rfl | (rw [hwk]; rfl) | go_num, by rw [HNx.out]; exact HS8.out.1, HS8.out.2⟩
        case measure => first | exact HM.out | (rw [hwk]; exact HM.out)
      · obtain rfl : j = L.length := Nat.le_antisymm hj (Nat.le_of_not_lt hlt)
        rw [List.take_length] at O ⊢
        have HF : Hid (DOwn U V.heap.size (.slice pq (L.map Se.s).length cq) (L.map Se.s)) := O
        clear O G hlt hj
        go_wp2_with fail
        go_ret2
        refine ⟨_, _, _, by rw [HRL.out.2.2]; rfl, grown_trans HGV.out HG.out, fun h => absurd HRL.out.2.2 h, fun R' _ _ a => ?_⟩
        rw [HRL.out.2.1] at a
        cases a
        have o := own_big HF.out HGV.out.size
        rw [HL.out] at o
        rw [HL.out]
        exact o
  · have e1 : (q != 0) = true := by simpa using hq0
    have Hq0 : Hid (q ≠ 0) := hq0
    clear hq0
    go_wp2_with fail
    go_ret2
    exact ⟨none, 0, 0, by rw [← Hq.out]; rfl, HGV.out, fun _ => ⟨rfl, rfl⟩, fun R a b c => absurd (by rw [Hq.out, a]; exact bgE_ok c b) Hq0.out⟩
end Go.Proofs.YtmemeloehgemcaaGreat
