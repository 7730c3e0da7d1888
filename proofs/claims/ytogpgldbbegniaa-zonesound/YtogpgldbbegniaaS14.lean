/-
  SameThings, of any two lists of things.
  The law's count: how often a number stands in lists.
  The law's do: a call.
-/
import Derived.Test.YtogpgldbbegniaaS10
import Derived.Test.YtogpgldbbegniaaS13
namespace Go.Proofs.Ytogpgldbbegniaa
open Go.RowKit

/-- What SameThings answers. -/
def StPost (w : World) (l r : List Th) (e : Ending) (w' : World) : Prop := ∃ b, e = .returned (.bool b) ∧ (b = true ↔ l = r) ∧ ∃ n, w' = w.drewN n
set_option maxRecDepth 100000 in
set_option maxHeartbeats 1000000 in
theorem st_len (p q : Option Addr) (n m c d : Nat) (w : World) (h : n ≠ m) : Calls Try.prog 38 #[.slice p n c, .slice q m d] w fun e w' => e = .returned (.bool false) ∧ w' = w := by
  have hb : ((n : Int) == (m : Int)) = false := by simpa using (show ¬ ((n : Int) = m) by omega)
  go_enter Try.func38, Try.ntmps38
  go_wp2
  go_ret
  exact ⟨rfl, rfl⟩
set_option maxRecDepth 100000 in
set_option maxHeartbeats 1000000 in
theorem st_nil (p q : Option Addr) (c d : Nat) (w : World) : Calls Try.prog 38 #[.slice p 0 c, .slice q 0 d] w fun e w' => e = .returned (.bool true) ∧ w' = w := by
  go_enter Try.func38, Try.ntmps38
  go_wp2
  go_loop [5] (fun i => i = .int .i64 0) (fun _ => 0)
  case atStart => rfl
  case round =>
    subst hrel
    go_wp2
    go_ret
    exact ⟨rfl, rfl⟩
theorem ext_th {l r : List Th} (hl : l.length = r.length) (h : ∀ j : Nat, j < l.length → l[j]? = r[j]?) : l = r := by
  apply List.ext_getElem? fun j => ?_
  by_cases hj : j < l.length
  · exact h j hj
  · rw [List.getElem?_eq_none (by omega), List.getElem?_eq_none (by omega)]
set_option maxRecDepth 100000 in
set_option maxHeartbeats 4000000 in
theorem st_run (l r : List Th) (g off c g' off' c' : Nat) (w : World) (hl : l.length = r.length) (hm : l.length ≤ maxLen) (ha : ∀ (j : Nat) t, l[j]? = some t → w.rangeAt g (off + j * 11) (thc t)) (hb : ∀ (j : Nat) t, r[j]? = some t → w.rangeAt g' (off' + j * 11) (thc t)) :
    Calls Try.prog 38 #[.slice (some ⟨g, off, none⟩) l.length c, .slice (some ⟨g', off', none⟩) l.length c'] w (StPost w l r) := by
  unfold maxLen at hm
  have HL : Hid (l.length = r.length) := hl
  have HA' : Hid (∀ (j : Nat) t, l[j]? = some t → w.rangeAt g (off + j * 11) (thc t)) := ha
  have HB' : Hid (∀ (j : Nat) t, r[j]? = some t → w.rangeAt g' (off' + j * 11) (thc t)) := hb
  clear hl ha hb
  have hnq := neq_th
  have hgq := eqg_th
  go_enter Try.func38, Try.ntmps38
  go_wp2
  go_loopw [5] (fun i wr => ∃ k n : Nat, k ≤ l.length ∧ i = .int .i64 k ∧ wr = w.drewN n ∧ ∀ j : Nat, j < k → l[j]? = r[j]?) (fun i _ => l.length - (intOf i).toNat)
  case atStart => exact ⟨0, 0, Nat.zero_le _, rfl, rfl, fun j hj => absurd hj (Nat.not_lt_zero _)⟩
  case round =>
    obtain ⟨k, n, hk, rfl, rfl, hall⟩ := hrel
    have HA : Hid (∀ j : Nat, j < k → l[j]? = r[j]?) := hall
    clear hall
    by_cases hlt : k < l.length
    · obtain ⟨t, ht⟩ : ∃ t, l[k]? = some t := ⟨_, List.getElem?_eq_getElem hlt⟩
      obtain ⟨u, hu⟩ : ∃ u, r[k]? = some u := ⟨_, List.getElem?_eq_getElem (by have := HL.out; omega)⟩
      obtain ⟨c1, c2, c3, c4, c5, c6, c7, c8, c9, c10, c11⟩ := range_cells (HA'.out k t ht)
      obtain ⟨d1, d2, d3, d4, d5, d6, d7, d8, d9, d10, d11⟩ := range_cells (HB'.out k u hu)
      have HV : Hid (l[k]? = some t) := ht
      have HU : Hid (r[k]? = some u) := hu
      clear ht hu
      cases hs : samet t u with
      | true =>
        have HE : Hid (t = u) := samet_iff.1 hs
        go_wp2
        go_quiet (fail)
        go_wp2
        go_roundw
        case rel =>
          refine ⟨k + 1, n + nq, by omega, by go_num, rfl, fun j hj => ?_⟩
          by_cases ej : j = k
          · subst ej; rw [HV.out, HU.out, HE.out]
          · exact HA.out j (by omega)
        case measure => simp [intOf]; omega
      | false =>
        have HE : Hid (¬ t = u) := fun q => Bool.eq_false_iff.1 hs (samet_yes q)
        go_wp2
        go_quiet (fail)
        go_wp2
        go_ret
        refine ⟨false, rfl, ⟨fun q => Bool.noConfusion q, fun q => absurd ?_ HE.out⟩, n + nq, by simp [World.drewN, Nat.add_assoc]⟩
        have := HV.out
        rw [q, HU.out] at this
        exact (Option.some.inj this).symm
    · go_wp2
      go_ret
      exact ⟨true, rfl, ⟨fun _ => ext_th HL.out (fun j hj => HA.out j (by omega)), fun _ => rfl⟩, _, rfl⟩
theorem sameT_any (a b : Value) (l r : List Th) (w : World) (ha : ThsAt w a l) (hb : ThsAt w b r) : Calls Try.prog 38 #[a, b] w (StPost w l r) := by
  obtain ⟨p, c, rfl, hm, hp⟩ := ha
  obtain ⟨q, d, rfl, hm', hq⟩ := hb
  by_cases hl : l.length = r.length
  · by_cases h0 : l.length = 0
    · have e1 : l = [] := List.eq_nil_of_length_eq_zero h0
      have e2 : r = [] := List.eq_nil_of_length_eq_zero (by omega)
      subst e1
      subst e2
      refine (st_nil p q c d w).mono ?_
      rintro e w' ⟨rfl, rfl⟩
      exact ⟨true, rfl, by simp, 0, rfl⟩
    · obtain ⟨g, off, rfl, ca⟩ := hp (by omega)
      obtain ⟨g', off', rfl, cb⟩ := hq (by omega)
      rw [← hl]
      exact st_run l r g off c g' off' d w hl hm ca cb
  · refine (st_len p q _ _ c d w hl).mono ?_
    rintro e w' ⟨rfl, rfl⟩
    exact ⟨false, rfl, ⟨fun q => Bool.noConfusion q, fun q => absurd (by rw [q]) hl⟩, 0, rfl⟩
end Go.Proofs.Ytogpgldbbegniaa
namespace Go.Proofs.Ytogpgldbbegniaa
open Go.RowKit

/-- How often a number stands in lists. -/
def cnt (n : Int) (L : List (List Int)) : Nat := (L.map fun l => l.count n).sum
theorem cnt_next {n : Int} {L : List (List Int)} {a : Nat} {l : List Int} (h : L[a]? = some l) : cnt n (L.take (a + 1)) = cnt n (L.take a) + l.count n := by
  unfold cnt
  rw [List.take_succ, h, List.map_append, List.sum_append]
  simp
theorem count_next {n x : Int} {l : List Int} {b : Nat} (h : l[b]? = some x) : (l.take (b + 1)).count n = (l.take b).count n + (if x = n then 1 else 0) := by
  rw [List.take_succ, h, List.count_append]
  show _ + List.count n [x] = _
  rw [List.count_singleton]
  simp
theorem cnt_le {n : Int} {L : List (List Int)} (h : ∀ l ∈ L, l.length ≤ 4096) : cnt n L ≤ L.length * 4096 := by
  induction L with
  | nil => exact Nat.le_refl _
  | cons l L ih =>
    have h1 := ih fun x hx => h x (List.mem_cons_of_mem _ hx)
    have h2 := h l List.mem_cons_self
    have h3 := List.count_le_length (a := n) (l := l)
    unfold cnt at h1 ⊢
    rw [List.map_cons, List.sum_cons, List.length_cons]
    omega
set_option maxRecDepth 100000 in
set_option maxHeartbeats 4000000 in
theorem count_any (n : Int) (g c : Nat) (M : List (List Int)) (w : World) (hL : M.length ≤ 2) (hs : ∀ l ∈ M, l.length ≤ 4096) (hc : ∀ (a : Nat) l, M[a]? = some l → ∃ v, w.cell? ⟨g, a, none⟩ = some v ∧ L.IntsAt w v l) : Calls Try.prog 37 #[.int .i64 n, .slice (some ⟨g, 0, none⟩) M.length c] w fun e w' => e = .returned (.int .i64 (cnt n M : Nat)) ∧ w' = w := by
  have HL : Hid (M.length ≤ 2) := hL
  have HS : Hid (∀ l ∈ M, l.length ≤ 4096) := hs
  have HC : Hid (∀ (a : Nat) l, M[a]? = some l → ∃ v, w.cell? ⟨g, a, none⟩ = some v ∧ L.IntsAt w v l) := hc
  clear hL hs hc
  go_enter Try.func37, Try.ntmps37
  go_wp2
  go_loopw [5, 6, 7] (fun k i _ wr => ∃ a : Nat, a ≤ M.length ∧ i = .int .i64 (a : Int) ∧ k = .int .i64 (cnt n (M.take a) : Nat) ∧ wr = w) (fun _ i _ _ => M.length - (intOf i).toNat)
  case atStart => exact ⟨0, Nat.zero_le _, rfl, rfl, rfl⟩
  case round =>
    obtain ⟨a, ha, rfl, rfl, hwr⟩ := hrel
    obtain rfl : w = wr := hwr.symm
    clear hwr
    by_cases hlt : a < M.length
    · obtain ⟨l, hl⟩ : ∃ l, M[a]? = some l := ⟨_, List.getElem?_eq_getElem hlt⟩
      obtain ⟨v, x0, p, cap, rfl, -, hp⟩ := HC.out a l hl
      have hlt' : (a : Int) < M.length := by omega
      have hwa : wrap64 ((a : Int) + 1) = (a : Int) + 1 := by have := HL.out; unfold wrap64; omega
      have HN : Hid (cnt n (M.take (a + 1)) = cnt n (M.take a) + l.count n) := cnt_next hl
      have HLe : Hid (cnt n (M.take a) ≤ 8192) := by
        have h1 := cnt_le (n := n) (L := M.take a) fun x hx => HS.out x (List.mem_of_mem_take hx)
        have h2 := HL.out
        have h3 : (M.take a).length ≤ 2 := by rw [List.length_take]; omega
        show _ ≤ 8192
        omega
      have Hl : Hid (l.length ≤ 4096) := HS.out l (List.mem_of_getElem? hl)
      have HP : Hid (0 < l.length → ∃ g off, p = some ⟨g, off, none⟩ ∧ ∀ j, j < l.length → w.cell? ⟨g, off + j, none⟩ = some (.int .i64 (l.getD j 0))) := hp
      have HA : Hid (a + 1 ≤ M.length) := hlt
      have HMe : Hid (M.length - (intOf (.int .i64 ((a : Int) + 1))).toNat < M.length - (intOf (.int .i64 (a : Int))).toNat) := meas_next hlt
      obtain ⟨s, hs⟩ : ∃ s, s = cnt n (M.take a) := ⟨_, rfl⟩
      rw [← hs] at HN HLe ⊢
      clear hl hp hs HC HS ha
      go_wp2
      go_loopw [5, 7] (fun k j wr => ∃ b : Nat, b ≤ l.length ∧ j = .int .i64 (b : Int) ∧ k = .int .i64 ((s + (l.take b).count n : Nat) : Int) ∧ wr = w) (fun _ j _ => l.length - (intOf j).toNat)
      case atStart => exact ⟨0, Nat.zero_le _, rfl, by simp, rfl⟩
      case round =>
        obtain ⟨b, hb, rfl, rfl, hwr⟩ := hrel
        obtain rfl : w = wr := hwr.symm
        clear hwr
        by_cases hlb : b < l.length
        · obtain ⟨g2, off, rfl, cc⟩ := HP.out (by omega)
          have y := cc b hlb
          obtain ⟨x, hx⟩ : ∃ x, x = l.getD b 0 := ⟨_, rfl⟩
          have hx' : l[b]? = some x := by rw [hx, getD_lt _ _ hlb]; exact List.getElem?_eq_getElem hlb
          rw [← hx] at y
          have HCn : Hid ((l.take (b + 1)).count n = (l.take b).count n + (if x = n then 1 else 0)) := count_next hx'
          have hlb' : (b : Int) < l.length := by omega
          have hwb : wrap64 ((b : Int) + 1) = (b : Int) + 1 := by have := Hl.out; unfold wrap64; omega
          have HB : Hid (b + 1 ≤ l.length) := hlb
          have HMb : Hid (l.length - (intOf (.int .i64 ((b : Int) + 1))).toNat < l.length - (intOf (.int .i64 (b : Int))).toNat) := meas_next hlb
          have hq : (l.take b).count n ≤ l.length := Nat.le_trans List.count_le_length (by rw [List.length_take]; omega)
          obtain ⟨t, ht⟩ : ∃ t, t = s + (l.take b).count n := ⟨_, rfl⟩
          have HT : Hid (t = s + (l.take b).count n) := ht
          have hwt : wrap64 ((t : Int) + 1) = (t : Int) + 1 := by have := HLe.out; have := Hl.out; unfold wrap64; omega
          rw [← ht]
          clear cc hx hx' hb hlb ht hq
          by_cases hxn : x = n
          · have hd : (x == n) = true := by simpa using hxn
            have HE : Hid (Value.int .i64 ((t : Int) + 1) = .int .i64 ((s + (l.take (b + 1)).count n : Nat) : Int)) := by
              show Value.int _ _ = _
              rw [HCn.out, if_pos hxn, ← Nat.add_assoc, ← HT.out]; rfl
            clear hxn
            go_wp2
            rw [hwt, hwb]
            exact ⟨⟨b + 1, HB.out, rfl, HE.out, by trivial⟩, HMb.out⟩
          · have hd : (x == n) = false := by simpa using hxn
            have HE : Hid (Value.int .i64 (t : Int) = .int .i64 ((s + (l.take (b + 1)).count n : Nat) : Int)) := by
              show Value.int _ _ = _
              rw [HCn.out, if_neg hxn, Nat.add_zero, ← HT.out]
            clear hxn
            go_wp2
            rw [hwb]
            exact ⟨⟨b + 1, HB.out, rfl, HE.out, by trivial⟩, HMb.out⟩
        · have hlb' : ¬ (b : Int) < l.length := by omega
          have HE : Hid (Value.int .i64 ((s + (l.take b).count n : Nat) : Int) = .int .i64 (cnt n (M.take (a + 1)) : Nat)) := by
            show Value.int _ _ = _
            rw [HN.out, List.take_of_length_le (by omega)]
          obtain ⟨t, ht⟩ : ∃ t, t = s + (l.take b).count n := ⟨_, rfl⟩
          rw [← ht] at HE ⊢
          clear ht
          go_wp2
          rw [hwa]
          exact ⟨⟨a + 1, HA.out, rfl, HE.out, by trivial⟩, HMe.out⟩
    · have hlt' : ¬ (a : Int) < M.length := by omega
      have HE : Hid (cnt n (M.take a) = cnt n M) := by show cnt n (M.take a) = _; rw [List.take_of_length_le (by omega)]
      rw [HE.out]
      go_wp2
      go_ret
      exact ⟨rfl, rfl⟩
end Go.Proofs.Ytogpgldbbegniaa
namespace Go.Proofs.Ytogpgldbbegniaa
open Go.RowKit

/-- A call, as it is handed in. -/
structure Opc where
  call : Int
  n : Int
  tp : Int
  own : Int
  t : Th
  l : List Int
def opv (o : Opc) (v : Value) : Value := .agg #[.int .i64 o.call, .int .i64 o.n, .int .u8 o.tp, .int .i64 o.own, .int .i64 o.t.card, .int .i64 o.t.owner, .int .u8 o.t.place, .int .i64 o.t.stamp, .int .i64 o.t.hurt, .int .i64 o.t.m0, .int .i64 o.t.m1, .int .i64 o.t.m2, .int .i64 o.t.m3, .int .i64 o.t.done, .bool o.t.fresh, v]
def arrB (z : Zs) (p : Int) (l : List Int) : Bool := decide ((p = 0 ∨ p = 1) ∧ srt l = numsOf z.ts p 1)
theorem arrB_iff {z : Zs} {p : Int} {l : List Int} : arrB z p l = true ↔ (p = 0 ∨ p = 1) ∧ Holds z.ts l p 1 := by
  unfold arrB
  rw [decide_eq_true_iff, holds_srt]
/-- Is it taken? -/
def Zs.doB (z : Zs) (o : Opc) : Bool := if o.call = 0 then decide (z.moveE o.n o.tp = 0) else if o.call = 1 then decide (z.makeE o.n o.own = 0) else if o.call = 2 then decide (z.writeE o.n o.t = 0) else if o.call = 3 then arrB z o.own o.l else false
/-- What comes of it. -/
def Zs.doZ (z : Zs) (o : Opc) : Zs := if o.call = 0 then z.move o.n o.tp else if o.call = 1 then z.make o.n o.own else if o.call = 2 then z.write o.n o.t else if o.call = 3 then (if arrB z o.own o.l = true then z.arrange o.own o.l else z) else z
theorem Zs.Sound.doZ {z : Zs} (S : z.Sound) (o : Opc) : (z.doZ o).Sound := by
  unfold Zs.doZ
  split
  · exact S.move _ _
  split
  · exact S.make _ _
  split
  · exact S.write _ _
  split
  · split
    · next h => exact S.arrange (arrB_iff.1 h).2
    · exact S
  · exact S
/-- What is refused has changed nothing. -/
theorem Zs.doZ_no {z : Zs} {o : Opc} (h : z.doB o = false) : z.doZ o = z := by
  unfold Zs.doB at h
  unfold Zs.doZ
  split
  · next q => rw [if_pos q] at h; unfold Zs.move; rw [if_neg (of_decide_eq_false h)]
  next q0 =>
  rw [if_neg q0] at h
  split
  · next q => rw [if_pos q] at h; unfold Zs.make; rw [if_neg (of_decide_eq_false h)]
  next q1 =>
  rw [if_neg q1] at h
  split
  · next q => rw [if_pos q] at h; unfold Zs.write; rw [if_neg (of_decide_eq_false h)]
  next q2 =>
  rw [if_neg q2] at h
  split
  · next q => rw [if_pos q] at h; rw [h]; rfl
  · rfl
set_option maxRecDepth 100000 in
set_option maxHeartbeats 4000000 in
theorem do_move (b : Nat) (Sb : List Nat) (z : Zs) (o : Opc) (v : Value) (w : World) (Z : ZAt w b Sb z) (S : z.Sound) (hS : Old w Sb) (hl : IntsA w v o.l) (hk : o.call = 0) : Calls Try.prog 9 #[.pointer (some ⟨b, 0, none⟩), opv o v] w (TnPost w b Sb (z.doZ o) (.bool (z.doB o))) := by
  unfold opv
  obtain ⟨V, hV⟩ : ∃ V, V = w.alloc (.cells #[.int .i64 o.call, .int .i64 o.n, .int .u8 o.tp, .int .i64 o.own, .int .i64 o.t.card, .int .i64 o.t.owner, .int .u8 o.t.place, .int .i64 o.t.stamp, .int .i64 o.t.hurt, .int .i64 o.t.m0, .int .i64 o.t.m1, .int .i64 o.t.m2, .int .i64 o.t.m3, .int .i64 o.t.done, .bool o.t.fresh, v] 40) := ⟨_, rfl⟩
  have HV : Hid (V = w.alloc (.cells #[.int .i64 o.call, .int .i64 o.n, .int .u8 o.tp, .int .i64 o.own, .int .i64 o.t.card, .int .i64 o.t.owner, .int .u8 o.t.place, .int .i64 o.t.stamp, .int .i64 o.t.hurt, .int .i64 o.t.m0, .int .i64 o.t.m1, .int .i64 o.t.m2, .int .i64 o.t.m3, .int .i64 o.t.done, .bool o.t.fresh, v] 40)) := hV
  have HGV : Hid (w.grownBy V none) := by show w.grownBy V none; rw [hV]; exact World.grownBy_alloc _ _ _
  have HB : Hid (V.heap[w.heap.size]? = some (.cells #[.int .i64 o.call, .int .i64 o.n, .int .u8 o.tp, .int .i64 o.own, .int .i64 o.t.card, .int .i64 o.t.owner, .int .u8 o.t.place, .int .i64 o.t.stamp, .int .i64 o.t.hurt, .int .i64 o.t.m0, .int .i64 o.t.m1, .int .i64 o.t.m2, .int .i64 o.t.m3, .int .i64 o.t.done, .bool o.t.fresh, v] 40 (0, 0))) := by show V.heap[_]? = _; rw [hV]; exact alloc_at _ _ _
  have ZV := Z.grow HGV.out
  have hSV : Old V Sb := fun x hx => Nat.lt_of_lt_of_le (hS x hx) HGV.out.size
  obtain ⟨pv, cv, rfl, -⟩ := hl.src
  have eB : z.doB o = decide (z.moveE o.n o.tp = 0) := by unfold Zs.doB; rw [if_pos hk]
  have eZ : z.doZ o = z.move o.n o.tp := by unfold Zs.doZ; rw [if_pos hk]
  rw [eB, eZ]
  have C := move_any b Sb z o.n o.tp V ZV S hSV
  obtain ⟨x, hx⟩ : ∃ x, x = z.moveE o.n o.tp := ⟨_, rfl⟩
  rw [← hx] at C ⊢
  rw [hV, hk] at C
  rw [hk] at HV HB ⊢
  have hb : (x == 0) = decide (x = 0) := by rw [Bool.eq_iff_iff]; simp
  clear eB eZ hx hV Z ZV S hS hSV hl 
  go_enter Try.func9, Try.ntmps9
  go_wp2_with fail
  refine C.mono ?_
  rintro e w1 ⟨rfl, S1, Z1, T1⟩
  have HF : Hid (TnPost w b Sb (z.move o.n o.tp) (.bool (decide (x = 0))) (.returned (.bool (decide (x = 0)))) w1) := ⟨rfl, S1, Z1, T1.pre (by rw [← HV.out]; exact HGV.out)⟩
  clear Z1 T1 C
  cases hd : decide (x = 0) with
  | true =>
    have HF2 : Hid (TnPost w b Sb (z.move o.n o.tp) (.bool (decide (x = 0))) (.returned (.bool true)) w1) := by
      have q := HF.out
      rw [hd] at q
      show TnPost w b Sb (z.move o.n o.tp) (.bool (decide (x = 0))) (.returned (.bool true)) w1
      rw [hd]
      exact q
    rw [hd] at hb
    clear HF
    go_wp2
    go_ret
    exact HF2.out
  | false =>
    have HF2 : Hid (TnPost w b Sb (z.move o.n o.tp) (.bool (decide (x = 0))) (.returned (.bool false)) w1) := by
      have q := HF.out
      rw [hd] at q
      show TnPost w b Sb (z.move o.n o.tp) (.bool (decide (x = 0))) (.returned (.bool false)) w1
      rw [hd]
      exact q
    rw [hd] at hb
    clear HF
    go_wp2
    go_ret
    exact HF2.out
set_option maxRecDepth 100000 in
set_option maxHeartbeats 4000000 in
theorem do_make (b : Nat) (Sb : List Nat) (z : Zs) (o : Opc) (v : Value) (w : World) (Z : ZAt w b Sb z) (S : z.Sound) (hS : Old w Sb) (hl : IntsA w v o.l) (hk : o.call = 1) : Calls Try.prog 9 #[.pointer (some ⟨b, 0, none⟩), opv o v] w (TnPost w b Sb (z.doZ o) (.bool (z.doB o))) := by
  unfold opv
  obtain ⟨V, hV⟩ : ∃ V, V = w.alloc (.cells #[.int .i64 o.call, .int .i64 o.n, .int .u8 o.tp, .int .i64 o.own, .int .i64 o.t.card, .int .i64 o.t.owner, .int .u8 o.t.place, .int .i64 o.t.stamp, .int .i64 o.t.hurt, .int .i64 o.t.m0, .int .i64 o.t.m1, .int .i64 o.t.m2, .int .i64 o.t.m3, .int .i64 o.t.done, .bool o.t.fresh, v] 40) := ⟨_, rfl⟩
  have HV : Hid (V = w.alloc (.cells #[.int .i64 o.call, .int .i64 o.n, .int .u8 o.tp, .int .i64 o.own, .int .i64 o.t.card, .int .i64 o.t.owner, .int .u8 o.t.place, .int .i64 o.t.stamp, .int .i64 o.t.hurt, .int .i64 o.t.m0, .int .i64 o.t.m1, .int .i64 o.t.m2, .int .i64 o.t.m3, .int .i64 o.t.done, .bool o.t.fresh, v] 40)) := hV
  have HGV : Hid (w.grownBy V none) := by show w.grownBy V none; rw [hV]; exact World.grownBy_alloc _ _ _
  have HB : Hid (V.heap[w.heap.size]? = some (.cells #[.int .i64 o.call, .int .i64 o.n, .int .u8 o.tp, .int .i64 o.own, .int .i64 o.t.card, .int .i64 o.t.owner, .int .u8 o.t.place, .int .i64 o.t.stamp, .int .i64 o.t.hurt, .int .i64 o.t.m0, .int .i64 o.t.m1, .int .i64 o.t.m2, .int .i64 o.t.m3, .int .i64 o.t.done, .bool o.t.fresh, v] 40 (0, 0))) := by show V.heap[_]? = _; rw [hV]; exact alloc_at _ _ _
  have ZV := Z.grow HGV.out
  have hSV : Old V Sb := fun x hx => Nat.lt_of_lt_of_le (hS x hx) HGV.out.size
  obtain ⟨pv, cv, rfl, -⟩ := hl.src
  have hk0 : ¬ o.call = 0 := by omega
  have eB : z.doB o = decide (z.makeE o.n o.own = 0) := by unfold Zs.doB; rw [if_neg hk0, if_pos hk]
  have eZ : z.doZ o = z.make o.n o.own := by unfold Zs.doZ; rw [if_neg hk0, if_pos hk]
  rw [eB, eZ]
  have C := make_any b Sb z o.n o.own V ZV S hSV
  obtain ⟨x, hx⟩ : ∃ x, x = z.makeE o.n o.own := ⟨_, rfl⟩
  rw [← hx] at C ⊢
  rw [hV, hk] at C
  rw [hk] at HV HB ⊢
  have hb : (x == 0) = decide (x = 0) := by rw [Bool.eq_iff_iff]; simp
  clear eB eZ hx hV Z ZV S hS hSV hl hk0
  go_enter Try.func9, Try.ntmps9
  go_wp2_with fail
  refine C.mono ?_
  rintro e w1 ⟨rfl, S1, Z1, T1⟩
  have HF : Hid (TnPost w b Sb (z.make o.n o.own) (.bool (decide (x = 0))) (.returned (.bool (decide (x = 0)))) w1) := ⟨rfl, S1, Z1, T1.pre (by rw [← HV.out]; exact HGV.out)⟩
  clear Z1 T1 C
  cases hd : decide (x = 0) with
  | true =>
    have HF2 : Hid (TnPost w b Sb (z.make o.n o.own) (.bool (decide (x = 0))) (.returned (.bool true)) w1) := by
      have q := HF.out
      rw [hd] at q
      show TnPost w b Sb (z.make o.n o.own) (.bool (decide (x = 0))) (.returned (.bool true)) w1
      rw [hd]
      exact q
    rw [hd] at hb
    clear HF
    go_wp2
    go_ret
    exact HF2.out
  | false =>
    have HF2 : Hid (TnPost w b Sb (z.make o.n o.own) (.bool (decide (x = 0))) (.returned (.bool false)) w1) := by
      have q := HF.out
      rw [hd] at q
      show TnPost w b Sb (z.make o.n o.own) (.bool (decide (x = 0))) (.returned (.bool false)) w1
      rw [hd]
      exact q
    rw [hd] at hb
    clear HF
    go_wp2
    go_ret
    exact HF2.out
set_option maxRecDepth 100000 in
set_option maxHeartbeats 4000000 in
theorem do_write (b : Nat) (Sb : List Nat) (z : Zs) (o : Opc) (v : Value) (w : World) (Z : ZAt w b Sb z) (S : z.Sound) (hS : Old w Sb) (hl : IntsA w v o.l) (hk : o.call = 2) : Calls Try.prog 9 #[.pointer (some ⟨b, 0, none⟩), opv o v] w (TnPost w b Sb (z.doZ o) (.bool (z.doB o))) := by
  unfold opv
  obtain ⟨V, hV⟩ : ∃ V, V = w.alloc (.cells #[.int .i64 o.call, .int .i64 o.n, .int .u8 o.tp, .int .i64 o.own, .int .i64 o.t.card, .int .i64 o.t.owner, .int .u8 o.t.place, .int .i64 o.t.stamp, .int .i64 o.t.hurt, .int .i64 o.t.m0, .int .i64 o.t.m1, .int .i64 o.t.m2, .int .i64 o.t.m3, .int .i64 o.t.done, .bool o.t.fresh, v] 40) := ⟨_, rfl⟩
  have HV : Hid (V = w.alloc (.cells #[.int .i64 o.call, .int .i64 o.n, .int .u8 o.tp, .int .i64 o.own, .int .i64 o.t.card, .int .i64 o.t.owner, .int .u8 o.t.place, .int .i64 o.t.stamp, .int .i64 o.t.hurt, .int .i64 o.t.m0, .int .i64 o.t.m1, .int .i64 o.t.m2, .int .i64 o.t.m3, .int .i64 o.t.done, .bool o.t.fresh, v] 40)) := hV
  have HGV : Hid (w.grownBy V none) := by show w.grownBy V none; rw [hV]; exact World.grownBy_alloc _ _ _
  have HB : Hid (V.heap[w.heap.size]? = some (.cells #[.int .i64 o.call, .int .i64 o.n, .int .u8 o.tp, .int .i64 o.own, .int .i64 o.t.card, .int .i64 o.t.owner, .int .u8 o.t.place, .int .i64 o.t.stamp, .int .i64 o.t.hurt, .int .i64 o.t.m0, .int .i64 o.t.m1, .int .i64 o.t.m2, .int .i64 o.t.m3, .int .i64 o.t.done, .bool o.t.fresh, v] 40 (0, 0))) := by show V.heap[_]? = _; rw [hV]; exact alloc_at _ _ _
  have ZV := Z.grow HGV.out
  have hSV : Old V Sb := fun x hx => Nat.lt_of_lt_of_le (hS x hx) HGV.out.size
  obtain ⟨pv, cv, rfl, -⟩ := hl.src
  have hk0 : ¬ o.call = 0 := by omega
  have hk1 : ¬ o.call = 1 := by omega
  have eB : z.doB o = decide (z.writeE o.n o.t = 0) := by unfold Zs.doB; rw [if_neg hk0, if_neg hk1, if_pos hk]
  have eZ : z.doZ o = z.write o.n o.t := by unfold Zs.doZ; rw [if_neg hk0, if_neg hk1, if_pos hk]
  rw [eB, eZ]
  have C := write_any b Sb z o.n o.t V ZV S hSV
  unfold thv at C
  obtain ⟨x, hx⟩ : ∃ x, x = z.writeE o.n o.t := ⟨_, rfl⟩
  rw [← hx] at C ⊢
  rw [hV, hk] at C
  rw [hk] at HV HB ⊢
  have hb : (x == 0) = decide (x = 0) := by rw [Bool.eq_iff_iff]; simp
  clear eB eZ hx hV Z ZV S hS hSV hl hk0 hk1
  go_enter Try.func9, Try.ntmps9
  go_wp2_with fail
  refine C.mono ?_
  rintro e w1 ⟨rfl, S1, Z1, T1⟩
  have HF : Hid (TnPost w b Sb (z.write o.n o.t) (.bool (decide (x = 0))) (.returned (.bool (decide (x = 0)))) w1) := ⟨rfl, S1, Z1, T1.pre (by rw [← HV.out]; exact HGV.out)⟩
  clear Z1 T1 C
  cases hd : decide (x = 0) with
  | true =>
    have HF2 : Hid (TnPost w b Sb (z.write o.n o.t) (.bool (decide (x = 0))) (.returned (.bool true)) w1) := by
      have q := HF.out
      rw [hd] at q
      show TnPost w b Sb (z.write o.n o.t) (.bool (decide (x = 0))) (.returned (.bool true)) w1
      rw [hd]
      exact q
    rw [hd] at hb
    clear HF
    go_wp2
    go_ret
    exact HF2.out
  | false =>
    have HF2 : Hid (TnPost w b Sb (z.write o.n o.t) (.bool (decide (x = 0))) (.returned (.bool false)) w1) := by
      have q := HF.out
      rw [hd] at q
      show TnPost w b Sb (z.write o.n o.t) (.bool (decide (x = 0))) (.returned (.bool false)) w1
      rw [hd]
      exact q
    rw [hd] at hb
    clear HF
    go_wp2
    go_ret
    exact HF2.out
set_option maxRecDepth 100000 in
set_option maxHeartbeats 4000000 in
theorem do_arr (b : Nat) (Sb : List Nat) (z : Zs) (o : Opc) (v : Value) (w : World) (Z : ZAt w b Sb z) (S : z.Sound) (hS : Old w Sb) (hl : IntsA w v o.l) (hk : o.call = 3) : Calls Try.prog 9 #[.pointer (some ⟨b, 0, none⟩), opv o v] w (TnPost w b Sb (z.doZ o) (.bool (z.doB o))) := by
  unfold opv
  obtain ⟨V, hV⟩ : ∃ V, V = w.alloc (.cells #[.int .i64 o.call, .int .i64 o.n, .int .u8 o.tp, .int .i64 o.own, .int .i64 o.t.card, .int .i64 o.t.owner, .int .u8 o.t.place, .int .i64 o.t.stamp, .int .i64 o.t.hurt, .int .i64 o.t.m0, .int .i64 o.t.m1, .int .i64 o.t.m2, .int .i64 o.t.m3, .int .i64 o.t.done, .bool o.t.fresh, v] 40) := ⟨_, rfl⟩
  have HV : Hid (V = w.alloc (.cells #[.int .i64 o.call, .int .i64 o.n, .int .u8 o.tp, .int .i64 o.own, .int .i64 o.t.card, .int .i64 o.t.owner, .int .u8 o.t.place, .int .i64 o.t.stamp, .int .i64 o.t.hurt, .int .i64 o.t.m0, .int .i64 o.t.m1, .int .i64 o.t.m2, .int .i64 o.t.m3, .int .i64 o.t.done, .bool o.t.fresh, v] 40)) := hV
  have HGV : Hid (w.grownBy V none) := by show w.grownBy V none; rw [hV]; exact World.grownBy_alloc _ _ _
  have HB : Hid (V.heap[w.heap.size]? = some (.cells #[.int .i64 o.call, .int .i64 o.n, .int .u8 o.tp, .int .i64 o.own, .int .i64 o.t.card, .int .i64 o.t.owner, .int .u8 o.t.place, .int .i64 o.t.stamp, .int .i64 o.t.hurt, .int .i64 o.t.m0, .int .i64 o.t.m1, .int .i64 o.t.m2, .int .i64 o.t.m3, .int .i64 o.t.done, .bool o.t.fresh, v] 40 (0, 0))) := by show V.heap[_]? = _; rw [hV]; exact alloc_at _ _ _
  have ZV := Z.grow HGV.out
  have hSV : Old V Sb := fun x hx => Nat.lt_of_lt_of_le (hS x hx) HGV.out.size
  obtain ⟨pv, cv, rfl, -⟩ := hl.src
  have eB : z.doB o = arrB z o.own o.l := by unfold Zs.doB; rw [if_neg (by omega), if_neg (by omega), if_neg (by omega), if_pos hk]
  have eZ : z.doZ o = (if arrB z o.own o.l = true then z.arrange o.own o.l else z) := by unfold Zs.doZ; rw [if_neg (by omega), if_neg (by omega), if_neg (by omega), if_pos hk]
  rw [eB, eZ]
  have C := arrange_any b Sb z o.own _ o.l V ZV S hSV (hl.keep HGV.out)
  have HA : Hid (arrB z o.own o.l = true ↔ (o.own = 0 ∨ o.own = 1) ∧ Holds z.ts o.l o.own 1) := arrB_iff
  rw [hV, hk] at C
  rw [hk] at HV HB ⊢
  obtain ⟨y, hy⟩ : ∃ y, y = (if arrB z o.own o.l = true then z.arrange o.own o.l else z) := ⟨_, rfl⟩
  obtain ⟨a, ha⟩ : ∃ a, a = arrB z o.own o.l := ⟨_, rfl⟩
  have HY : Hid (y = (if arrB z o.own o.l = true then z.arrange o.own o.l else z)) := hy
  rw [← hy, ← ha]
  clear eB eZ hV Z ZV S hS hSV hl hy
  go_enter Try.func9, Try.ntmps9
  go_wp2_with fail
  refine C.mono ?_
  rintro e w1 ⟨ok, rfl, hok, S1, Z1, T1⟩
  obtain rfl : a = ok := by rw [ha, Bool.eq_iff_iff, HA.out, hok]
  have HF : Hid (TnPost w b Sb y (.bool a) (.returned (.bool a)) w1) := ⟨rfl, S1, by rw [HY.out, ← ha]; exact Z1, T1.pre (by rw [← HV.out]; exact HGV.out)⟩
  clear Z1 T1 C hok HA ha
  cases a with
  | true =>
    go_wp2
    go_ret
    exact HF.out
  | false =>
    go_wp2
    go_ret
    exact HF.out
set_option maxRecDepth 100000 in
set_option maxHeartbeats 4000000 in
theorem do_none (b : Nat) (Sb : List Nat) (z : Zs) (o : Opc) (v : Value) (w : World) (Z : ZAt w b Sb z) (hS : Old w Sb) (hl : IntsA w v o.l) (k0 : ¬ o.call = 0) (k1 : ¬ o.call = 1) (k2 : ¬ o.call = 2) (k3 : ¬ o.call = 3) : Calls Try.prog 9 #[.pointer (some ⟨b, 0, none⟩), opv o v] w (TnPost w b Sb (z.doZ o) (.bool (z.doB o))) := by
  unfold opv
  obtain ⟨V, hV⟩ : ∃ V, V = w.alloc (.cells #[.int .i64 o.call, .int .i64 o.n, .int .u8 o.tp, .int .i64 o.own, .int .i64 o.t.card, .int .i64 o.t.owner, .int .u8 o.t.place, .int .i64 o.t.stamp, .int .i64 o.t.hurt, .int .i64 o.t.m0, .int .i64 o.t.m1, .int .i64 o.t.m2, .int .i64 o.t.m3, .int .i64 o.t.done, .bool o.t.fresh, v] 40) := ⟨_, rfl⟩
  have HV : Hid (V = w.alloc (.cells #[.int .i64 o.call, .int .i64 o.n, .int .u8 o.tp, .int .i64 o.own, .int .i64 o.t.card, .int .i64 o.t.owner, .int .u8 o.t.place, .int .i64 o.t.stamp, .int .i64 o.t.hurt, .int .i64 o.t.m0, .int .i64 o.t.m1, .int .i64 o.t.m2, .int .i64 o.t.m3, .int .i64 o.t.done, .bool o.t.fresh, v] 40)) := hV
  have HGV : Hid (w.grownBy V none) := by show w.grownBy V none; rw [hV]; exact World.grownBy_alloc _ _ _
  have HB : Hid (V.heap[w.heap.size]? = some (.cells #[.int .i64 o.call, .int .i64 o.n, .int .u8 o.tp, .int .i64 o.own, .int .i64 o.t.card, .int .i64 o.t.owner, .int .u8 o.t.place, .int .i64 o.t.stamp, .int .i64 o.t.hurt, .int .i64 o.t.m0, .int .i64 o.t.m1, .int .i64 o.t.m2, .int .i64 o.t.m3, .int .i64 o.t.done, .bool o.t.fresh, v] 40 (0, 0))) := by show V.heap[_]? = _; rw [hV]; exact alloc_at _ _ _
  have ZV := Z.grow HGV.out
  have hSV : Old V Sb := fun x hx => Nat.lt_of_lt_of_le (hS x hx) HGV.out.size
  obtain ⟨pv, cv, rfl, -⟩ := hl.src
  have eB : z.doB o = false := by unfold Zs.doB; rw [if_neg k0, if_neg k1, if_neg k2, if_neg k3]
  have eZ : z.doZ o = z := by unfold Zs.doZ; rw [if_neg k0, if_neg k1, if_neg k2, if_neg k3]
  rw [eB, eZ]
  have q0 : (o.call == 0) = false := by simpa using k0
  have q1 : (o.call == 1) = false := by simpa using k1
  have q2 : (o.call == 2) = false := by simpa using k2
  have q3 : (o.call == 3) = false := by simpa using k3
  have HF : Hid (TnPost w b Sb z (.bool false) (.returned (.bool false)) V) := ⟨rfl, Sb, ZV, Turn.of_grow HGV.out hS⟩
  rw [hV] at HF
  clear eB eZ hV Z ZV hS hSV hl k0 k1 k2 k3
  go_enter Try.func9, Try.ntmps9
  go_wp2
  go_ret
  exact HF.out
theorem do_any (b : Nat) (Sb : List Nat) (z : Zs) (o : Opc) (v : Value) (w : World) (Z : ZAt w b Sb z) (S : z.Sound) (hS : Old w Sb) (hl : IntsA w v o.l) : Calls Try.prog 9 #[.pointer (some ⟨b, 0, none⟩), opv o v] w (TnPost w b Sb (z.doZ o) (.bool (z.doB o))) := by
  by_cases k0 : o.call = 0
  · exact do_move b Sb z o v w Z S hS hl k0
  by_cases k1 : o.call = 1
  · exact do_make b Sb z o v w Z S hS hl k1
  by_cases k2 : o.call = 2
  · exact do_write b Sb z o v w Z S hS hl k2
  by_cases k3 : o.call = 3
  · exact do_arr b Sb z o v w Z S hS hl k3
  · exact do_none b Sb z o v w Z hS hl k0 k1 k2 k3
end Go.Proofs.Ytogpgldbbegniaa
