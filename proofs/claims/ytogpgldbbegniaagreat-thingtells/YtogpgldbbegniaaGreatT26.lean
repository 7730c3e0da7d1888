/-
  The places of a card's parts of a moment, plainly: which they are, that they rise, how many there are.
  thing's Parts, and the document's: the places of a card's parts of a moment.
-/
import Derived.Test.YtogpgldbbegniaaGreatT17
import Derived.Test.YtogpgldbbegniaaGreatTgC
import Derived.OwnWalk
import Derived.Maps.AppendAt
namespace Go.Proofs.YtogpgldbbegniaaGreat
open Go.RowKit

theorem plF_mem : ∀ (ps : List Pt) (k : Nat) (m n : Int), n ∈ plF ps k m ↔ ∃ (i : Nat) (q : Pt), n = ((k + i : Nat) : Int) ∧ ps[i]? = some q ∧ q.wn = m
  | [], k, m, n => by simp [plF]
  | q :: r, k, m, n => by
    have ih := plF_mem r (k + 1) m n
    have key : (∃ (i : Nat) (x : Pt), n = ((k + i : Nat) : Int) ∧ (q :: r)[i]? = some x ∧ x.wn = m) ↔ (n = (k : Int) ∧ q.wn = m) ∨ ∃ (i : Nat) (x : Pt), n = ((k + 1 + i : Nat) : Int) ∧ r[i]? = some x ∧ x.wn = m := by
      constructor
      · rintro ⟨i, x, h1, h2, h3⟩
        cases i with
        | zero => left; simp at h2; subst h2; exact ⟨by simpa using h1, h3⟩
        | succ i => right; exact ⟨i, x, by rw [h1]; congr 1; omega, by simpa using h2, h3⟩
      · rintro (⟨h1, h2⟩ | ⟨i, x, h1, h2, h3⟩)
        · exact ⟨0, q, by simpa using h1, rfl, h2⟩
        · exact ⟨i + 1, x, by rw [h1]; congr 1; omega, by simpa using h2, h3⟩
    rw [key, ← ih, show plF (q :: r) k m = if q.wn = m then (k : Int) :: plF r (k + 1) m else plF r (k + 1) m from rfl]
    by_cases hq : q.wn = m
    · rw [if_pos hq]
      simp [hq]
    · rw [if_neg hq]
      simp [hq]
theorem plF_low : ∀ (ps : List Pt) (k : Nat) (m n : Int), n ∈ plF ps k m → (k : Int) ≤ n ∧ n < (k : Int) + ps.length := fun ps k m n h => by
  obtain ⟨i, q, h1, h2, _⟩ := (plF_mem ps k m n).1 h
  have := (List.getElem?_eq_some_iff.1 h2).1
  omega
theorem plF_nodup : ∀ (ps : List Pt) (k : Nat) (m : Int), (plF ps k m).Nodup
  | [], k, m => by simp [plF]
  | q :: r, k, m => by
    unfold plF
    split
    · rw [List.nodup_cons]
      exact ⟨fun h => by have := plF_low _ _ _ _ h; omega, plF_nodup r (k + 1) m⟩
    · exact plF_nodup r (k + 1) m
theorem plF_len : ∀ (ps : List Pt) (k : Nat) (m : Int), (plF ps k m).length ≤ ps.length
  | [], k, m => by simp [plF]
  | q :: r, k, m => by
    unfold plF
    have := plF_len r (k + 1) m
    split
    · simp; omega
    · simp; omega
theorem plF_snoc (m : Int) (q : Pt) : ∀ (ps : List Pt) (k : Nat), plF (ps ++ [q]) k m = if q.wn = m then plF ps k m ++ [((k + ps.length : Nat) : Int)] else plF ps k m
  | [], k => by
    show plF [q] k m = _
    unfold plF
    split <;> simp [plF]
  | x :: r, k => by
    have ih := plF_snoc m q r (k + 1)
    show plF (x :: (r ++ [q])) k m = _
    unfold plF
    rw [ih, show k + 1 + r.length = k + (x :: r).length by simp; omega]
    split <;> split <;> simp
/-- How many parts are of a moment ahead of this one. -/
def cntB (ps : List Pt) (m : Int) : Nat := ps.countP fun q => decide (q.wn < m)
theorem cntB_next : ∀ (ps : List Pt) (k : Nat) (m : Int), cntB ps (m + 1) = cntB ps m + (plF ps k m).length
  | [], k, m => rfl
  | q :: r, k, m => by
    have ih := cntB_next r (k + 1) m
    unfold cntB at ih ⊢
    unfold plF
    rw [List.countP_cons, List.countP_cons, ih]
    by_cases h : q.wn = m
    · rw [if_pos h, if_pos (by simp; omega), if_neg (by simp; omega)]
      simp
      omega
    · rw [if_neg h]
      by_cases h2 : q.wn < m
      · rw [if_pos (by simp; omega), if_pos (by simpa using h2)]
        omega
      · rw [if_neg (by simp; omega), if_neg (by simpa using h2)]
        omega
theorem cntB_all {ps : List Pt} {m : Int} (h : ∀ q ∈ ps, q.wn < m) : cntB ps m = ps.length := by
  unfold cntB
  rw [List.countP_eq_length]
  intro q hq
  simpa using h q hq
theorem cntB_none {ps : List Pt} {m : Int} (h : ∀ q ∈ ps, m ≤ q.wn) : cntB ps m = 0 := by
  unfold cntB
  rw [List.countP_eq_zero]
  intro q hq
  have := h q hq
  simp
  omega
theorem cntB_le (ps : List Pt) (m : Int) : cntB ps m ≤ ps.length := List.countP_le_length
/-- What has been met: the parts of earlier moments, and the first of this one. -/
def Met (ps : List Pt) (m : Int) (l : List Int) (bs : List Bool) : Prop := bs.length = ps.length ∧ ∀ (i : Nat) q, ps[i]? = some q → bs[i]? = some (decide (q.wn < m) || decide ((i : Int) ∈ l))
theorem Met.start {ps : List Pt} {m : Int} (h : ∀ q ∈ ps, m ≤ q.wn) : Met ps m [] (List.replicate ps.length false) := ⟨by simp, fun i q hq => by
  have hi := (List.getElem?_eq_some_iff.1 hq).1
  have := h q (List.mem_of_getElem? hq)
  rw [List.getElem?_replicate, if_pos hi]
  simp
  omega⟩
theorem Met.next {ps : List Pt} {m : Int} {bs : List Bool} (h : Met ps m (plF ps 0 m) bs) : Met ps (m + 1) [] bs := ⟨h.1, fun i q hq => by
  rw [h.2 i q hq]
  have e : ((i : Int) ∈ plF ps 0 m) ↔ q.wn = m := by
    rw [plF_mem]
    constructor
    · rintro ⟨j, x, h1, h2, h3⟩
      obtain rfl : i = j := by omega
      rw [hq] at h2
      injection h2 with h2
      rw [h2]; exact h3
    · intro h3
      exact ⟨i, q, by simp, hq, h3⟩
  by_cases hm : q.wn = m
  · have : q.wn < m + 1 := by omega
    simp [e.2 hm, this]
  · have h2 : ¬ (i : Int) ∈ plF ps 0 m := fun h => hm (e.1 h)
    have : (q.wn < m + 1) ↔ q.wn < m := by omega
    simp [h2, this]⟩
theorem Met.step {ps : List Pt} {m : Int} {l : List Int} {bs : List Bool} {k : Nat} (h : Met ps m l bs) : Met ps m (l ++ [(k : Int)]) (bs.set k true) := ⟨by rw [List.length_set]; exact h.1, fun i q hq => by
  have hi := (List.getElem?_eq_some_iff.1 hq).1
  rw [List.getElem?_set]
  by_cases e : k = i
  · subst e
    rw [if_pos rfl, if_pos (by rw [h.1]; exact hi)]
    simp
  · rw [if_neg e, h.2 i q hq]
    congr 2
    have : ¬ (i : Int) = (k : Int) := by omega
    simp [this]⟩
theorem Met.fresh {ps : List Pt} {m : Int} {l : List Int} {bs : List Bool} {k : Nat} {q : Pt} (h : Met ps m l bs) (hq : ps[k]? = some q) (hm : q.wn = m) (hl : ¬ (k : Int) ∈ l) : bs[k]? = some false := by
  rw [h.2 k q hq]
  simp [hl]
  omega
/-- The one at a place of the list, taken apart. -/
theorem plF_at {ps : List Pt} {m : Int} {p : Nat} {x : Int} (h : (plF ps 0 m)[p]? = some x) : ∃ (k : Nat) (q : Pt), x = (k : Int) ∧ k < ps.length ∧ ps[k]? = some q ∧ q.wn = m ∧ ¬ (k : Int) ∈ (plF ps 0 m).take p ∧ (plF ps 0 m).take (p + 1) = (plF ps 0 m).take p ++ [(k : Int)] := by
  obtain ⟨k, q, h1, h2, h3⟩ := (plF_mem ps 0 m x).1 (List.mem_of_getElem? h)
  have hx : x = (k : Int) := by omega
  subst hx
  have hp := (List.getElem?_eq_some_iff.1 h).1
  refine ⟨k, q, rfl, (List.getElem?_eq_some_iff.1 h2).1, h2, h3, fun hm => ?_, ?_⟩
  · obtain ⟨j, hj⟩ := List.getElem?_of_mem hm
    have hj2 : j < p := by have := (List.getElem?_eq_some_iff.1 hj).1; simp at this; omega
    rw [List.getElem?_take_of_lt hj2] at hj
    have hnd := plF_nodup ps 0 m
    have := (List.getElem?_inj (i := j) (j := p) (by omega) hnd).1 (hj.trans h.symm)
    omega
  · rw [List.take_add_one, h]
    rfl
end Go.Proofs.YtogpgldbbegniaaGreat
namespace Go.Proofs.YtogpgldbbegniaaGreat
open Go.RowKit

theorem Tryz.info3t : (Tryz.prog.info? 3).map (fun i => (i.zero, i.size, i.bytes)) = some (some (.int .i64 0), 1, 8) := by kernel_rfl
theorem ints_oneT (l : List Int) : ∀ u ∈ ints l, u.oneCell' = true := fun u hu => by
  obtain ⟨z, _, rfl⟩ := List.mem_map.1 hu
  rfl
theorem ints_appT (a b : List Int) : ints (a ++ b) = ints a ++ ints b := by simp [ints]
theorem one_newT (U : World) (x : Int) : ∀ j u, (ints [x])[j]? = some u → (U.alloc (.cells #[.int .i64 x] 3)).cell? ((⟨U.heap.size, 0, none⟩ : Addr).add j) = some u := fun j u hu => by
  rw [add_plain, Nat.zero_add, block_cell (alloc_at _ _ _)]
  simpa [ints] using hu
/-- A list of numbers of the call's own. -/
def OwT (w : World) (base : Nat) (v : Value) (l : List Int) : Prop := w.ownsRow base 3 1 v l.length (ints l)
theorem OwT.nil (w : World) (base : Nat) : OwT w base (.slice none 0 0) [] := ⟨rfl, Or.inl ⟨rfl, rfl⟩⟩
theorem OwT.form {w : World} {base : Nat} {v : Value} {l : List Int} (h : OwT w base v l) : ∃ p c, v = .slice p l.length c := by
  rcases h.2 with ⟨e, h0⟩ | ⟨g, cap, cur, e, _⟩
  · exact ⟨none, 0, by rw [e, h0]⟩
  · exact ⟨_, _, e⟩
theorem own_moreT {w' : World} {base n : Nat} {v : Value} {l : List Int} {x : Int} (h : w'.ownsRow base 3 1 v (n + 1) (ints l ++ ints [x])) (hn : n = l.length) : OwT w' base v (l ++ [x]) := by
  unfold OwT
  rw [List.length_append, List.length_singleton, ints_appT, ← hn]
  exact h
theorem ownT_grow {w w' : World} {base e size n : Nat} {v : Value} {xs : List Value} (h : w.ownsRow base e size v n xs) (g : w.grownBy w' none) : w'.ownsRow base e size v n xs := World.ownsRow.kept h g (by cases v.ownBlock <;> simp)
theorem own_lowT {w : World} {base base' e size n : Nat} {v : Value} {xs : List Value} (h : w.ownsRow base e size v n xs) (hb : base' ≤ base) : w.ownsRow base' e size v n xs := by
  refine ⟨h.1, ?_⟩
  rcases h.2 with q | ⟨g, cap, cur, e1, hg, r⟩
  · exact Or.inl q
  · exact Or.inr ⟨g, cap, cur, e1, Nat.le_trans hb hg, r⟩
theorem plF_take {ps : List Pt} {k : Nat} {q : Pt} {m : Int} (hq : ps[k]? = some q) : plF (ps.take (k + 1)) 0 m = if q.wn = m then plF (ps.take k) 0 m ++ [(k : Int)] else plF (ps.take k) 0 m := by
  have hk := (List.getElem?_eq_some_iff.1 hq).1
  rw [List.take_add_one, hq, show (some q).toList = [q] from rfl, plF_snoc, List.length_take, Nat.zero_add, Nat.min_eq_left (by omega)]
theorem one_newT2 (U : World) (o : Obj) (x : Int) : ∀ j u, (ints [x])[j]? = some u → ((U.alloc o).alloc (.cells #[.int .i64 x] 3)).cell? ((⟨U.heap.size + 1, 0, none⟩ : Addr).add j) = some u := by
  have := one_newT (U.alloc o) x
  rwa [World.size_alloc] at this
set_option maxRecDepth 100000 in
set_option maxHeartbeats 4000000 in
theorem tparts_of (bv : Value) (t : Th) (h : Hd) (ps : List Pt) (x m : Int) (w : World) (hx : ¬ x = 0 → ps = []) (hl : ps.length ≤ 4) (HC : ∀ X, w.grownBy X none → Calls Tryz.prog 24 #[bv, thv t] X (CrPost h ps x X)) : Calls Tryz.prog 28 #[bv, thv t, .int .u8 m] w fun e w' => ∃ v, e = .returned (.tuple #[v, .int .i64 x]) ∧ OwT w' w.heap.size v (plF ps 0 m) ∧ w.grownBy w' none := by
  obtain ⟨i0, hi, hz0, hz1, hz2⟩ := info_parts Tryz.info3t
  obtain ⟨W1, hW1⟩ : ∃ W1, W1 = w.alloc (.cells #[.int .i64 t.card, .int .i64 t.owner, .int .u8 t.place, .int .i64 t.stamp, .int .i64 t.hurt, .int .i64 t.m0, .int .i64 t.m1, .int .i64 t.m2, .int .i64 t.m3, .int .i64 t.done, .bool t.fresh] 39) := ⟨_, rfl⟩
  have HG1 : Hid (w.grownBy W1 none) := by rw [hW1]; exact World.grownBy_alloc _ _ none
  have HT : Hid (W1.heap[w.heap.size]? = some (.cells #[.int .i64 t.card, .int .i64 t.owner, .int .u8 t.place, .int .i64 t.stamp, .int .i64 t.hurt, .int .i64 t.m0, .int .i64 t.m1, .int .i64 t.m2, .int .i64 t.m3, .int .i64 t.done, .bool t.fresh] 39 (0, 0))) := by rw [hW1]; exact alloc_at w _ _
  have HC1 := HC W1 HG1.out
  have HX : Hid (¬ x = 0 → ps = []) := hx
  have HL : Hid (ps.length ≤ 4) := hl
  unfold CrPost cv thv at HC1
  unfold thv
  clear HC hx hl
  go_enter Tryz.func28, Tryz.ntmps28
  go_upto_region 1 with fail
  rw [← hW1]
  clear hW1
  obtain ⟨n0, h0⟩ : ∃ n0, n0 = w.heap.size := ⟨_, rfl⟩
  simp only [← h0] at HT ⊢
  have HN0 : Hid (n0 = w.heap.size) := h0
  clear h0
  have x0 := block_cell HT.out 0
  have x1 := block_cell HT.out 1
  have x2 := block_cell HT.out 2
  have x3 := block_cell HT.out 3
  have x4 := block_cell HT.out 4
  have x5 := block_cell HT.out 5
  have x6 := block_cell HT.out 6
  have x7 := block_cell HT.out 7
  have x8 := block_cell HT.out 8
  have x9 := block_cell HT.out 9
  have x10 := block_cell HT.out 10
  go_wp2_with fail
  refine HC1.mono ?_
  rintro e w2 ⟨u, rfl, o2, g2⟩
  have HPs : Hid (PsAt w2 u ps) := o2.at
  obtain ⟨a2, k2, rfl⟩ := o2.at.form
  obtain ⟨W3, hW3⟩ : ∃ W3, W3 = w2.alloc (.cells (ccs h (.slice a2 ps.length k2)) 69) := ⟨_, rfl⟩
  have HG3 : Hid (w.grownBy W3 none) := by rw [hW3]; exact grown_push (grown_trans HG1.out g2) _
  have HP3 : Hid (PsAt W3 (.slice a2 ps.length k2) ps) := by rw [hW3]; exact HPs.out.keep (World.grownBy_alloc _ _ none)
  have HK : Hid (W3.heap[w2.heap.size]? = some (.cells (ccs h (.slice a2 ps.length k2)) 69 (0, 0))) := by rw [hW3]; exact alloc_at _ _ _
  unfold ccs at hW3
  clear HC1 o2 g2 HT HG1 HPs x0 x1 x2 x3 x4 x5 x6 x7 x8 x9 x10
  go_upto_region 2 with fail
  rw [← hW3]
  clear hW3
  obtain ⟨kk, hk⟩ : ∃ kk, kk = w2.heap.size := ⟨_, rfl⟩
  rw [← hk] at HK ⊢
  clear hk
  have q8 := block_cell HK.out 8
  simp only [ccs] at q8
  by_cases hx : x = 0
  case neg =>
    have hps := HX.out hx
    have HE : Hid (OwT W3 n0 (.slice none 0 0) (plF ps 0 m)) := by rw [hps]; exact OwT.nil _ _
    have e1 : (x != 0) = true := by simpa using hx
    clear hx hps HP3
    go_wp2
    go_ret2
    rw [← HN0.out]
    exact ⟨_, rfl, HE.out, HG3.out⟩
  subst hx
  clear HX
  obtain ⟨n, hn⟩ : ∃ n, n = ps.length := ⟨_, rfl⟩
  have HNn : Hid (n = ps.length) := hn
  simp only [← hn] at HP3 HK q8 ⊢
  clear hn
  go_wp2_with fail
  obtain ⟨n3, hn3⟩ : ∃ n3, n3 = W3.heap.size := ⟨_, rfl⟩
  have HN3 : Hid (n3 = W3.heap.size) := hn3
  clear hn3
  go_loopw [10, 11, 12, 25] (fun v _ _ i wr => ∃ k : Nat, k ≤ n ∧ i = .int .i64 (k : Int) ∧ OwT wr n3 v (plF (ps.take k) 0 m) ∧ W3.grownBy wr none) (fun _ _ _ i _ => n - (intOf i).toNat)
  case atStart => exact ⟨0, Nat.zero_le _, rfl, OwT.nil _ _, grown_refl _ _⟩
  case round =>
    obtain ⟨k, hk, rfl, O, G⟩ := hrel
    obtain ⟨U, hU⟩ : ∃ U, U = wr := ⟨_, rfl⟩
    subst hU
    obtain ⟨q, cq, rfl⟩ := O.form
    have q8' := G.cell q8 (by simp)
    by_cases hlt : k < n
    · obtain ⟨g, off, cap, ea, R⟩ := HP3.out.part (by have := HNn.out; omega)
      have ea1 : a2 = some ⟨g, off, none⟩ := by injection ea
      clear ea
      subst ea1
      obtain ⟨pt, hpt⟩ : ∃ pt, ps[k]? = some pt := ⟨_, List.getElem?_eq_getElem (by have := HNn.out; omega)⟩
      obtain ⟨d0, d1, d2, d3, d4, d5, d6, d7⟩ := (R k pt hpt).keep G
      have HO : Hid (U.ownsRow n3 3 1 (.slice q (plF (ps.take k) 0 m).length cq) (plF (ps.take k) 0 m).length (ints (plF (ps.take k) 0 m))) := O
      have HG : Hid (W3.grownBy U none) := G
      have HT := plF_take (m := m) hpt
      have hlen : (plF (ps.take k) 0 m).length ≤ 4 := Nat.le_trans (plF_len _ _ _) (by rw [List.length_take]; have := HL.out; omega)
      have hwk : wrap64 ((k : Int) + 1) = (k : Int) + 1 := by have := HL.out; have := HNn.out; unfold wrap64; omega
      obtain ⟨l, hll⟩ : ∃ l, l = plF (ps.take k) 0 m := ⟨_, rfl⟩
      rw [← hll] at HO hlen HT ⊢
      obtain ⟨j, hj⟩ : ∃ j, j = l.length := ⟨_, rfl⟩
      rw [← hj] at HO hlen ⊢
      have HN : Hid (j = l.length) := hj
      have HLm : Hid (j + 1 ≤ maxLen ∧ (j + 1) * 8 ≤ 140737488355328) := by show _ ∧ _; unfold maxLen; omega
      have HP : Hid (k + 1 ≤ n) := hlt
      have HM : Hid (n - (intOf (.int .i64 ((k : Int) + 1))).toNat < n - (intOf (.int .i64 (k : Int))).toNat) := meas_next hlt
      have hlt' : (k : Int) < (n : Int) := by omega
      have hk0 : (0 : Int) ≤ (k : Int) := by omega
      have HSz : Hid (n3 ≤ U.heap.size) := by show n3 ≤ _; rw [HN3.out]; exact HG.out.size
      have HOL : Hid (∀ y, (Value.slice q j cq).ownBlock = some y → W3.heap.size ≤ y) := fun y e => by have := (World.ownsRow.lt HO.out y e).1; rw [← HN3.out]; exact this
      clear R O G hll hj hlen hk hpt
      by_cases hw : pt.wn = m
      · have HY : Hid (plF (ps.take (k + 1)) 0 m = l ++ [(k : Int)]) := by rw [if_pos hw] at HT; exact HT
        have e2 : (pt.wn == m) = true := by simpa using hw
        clear HT hw
        go_wp2_with (first | (at_builtin; go_loud (refine wpList_append_own _ rfl (.tmp 34) (.tmp 36) 22 rfl n3 3 i0 _ 1 8 Tryz.underlying22 hi hz0 hz1 hz2 rfl (by decide) _ j (ints l) rfl (World.ownsRow.alloc (World.ownsRow.alloc HO.out _) _) ⟨U.heap.size + 1, 0, none⟩ 1 1 (ints [(k : Int)]) rfl rfl (one_newT2 _ _ _) (ints_oneT _) HLm.out.1 (by have := HLm.out.2; omega) (by rw [World.size_alloc, World.size_alloc]; have := HSz.out; omega) ?_; intro v3 w3 o3 g3 _; have HO3 : Hid (OwT w3 n3 v3 (l ++ [(k : Int)])) := own_moreT o3 HN.out; have HG4 : Hid (W3.grownBy w3 none) := grown_own (grown_push (grown_push HG.out _) _) g3 (fun x e => HOL.out x e); clear o3 g3)) | fail)
        go_roundw
        case rel => exact ⟨k + 1, HP.out, by first | rfl | (rw [hwk]; rfl) | go_num, by rw [HY.out]; exact HO3.out, HG4.out⟩
        case measure => first | exact HM.out | (rw [hwk]; exact HM.out)
      · have HY : Hid (plF (ps.take (k + 1)) 0 m = l) := by rw [if_neg hw] at HT; exact HT
        have e2 : (pt.wn == m) = false := by simpa using hw
        clear HT hw
        go_wp2_with fail
        go_roundw
        case rel => exact ⟨k + 1, HP.out, by first | rfl | (rw [hwk]; rfl) | go_num, by rw [HY.out]; unfold OwT; rw [← HN.out]; exact World.ownsRow.alloc HO.out _, grown_push HG.out _⟩
        case measure => first | exact HM.out | (rw [hwk]; exact HM.out)
    · have hkn : k = n := by omega
      have HF : Hid (OwT U n0 (.slice q (plF (ps.take k) 0 m).length cq) (plF ps 0 m) ∧ w.grownBy U none) := ⟨by rw [hkn, HNn.out, List.take_length] at O ⊢; exact own_lowT O (by rw [HN0.out, HN3.out]; exact HG3.out.size), grown_trans HG3.out G⟩
      have hlt' : ¬ (k : Int) < (n : Int) := by omega
      clear O G hkn hk
      go_wp2
      go_ret2
      rw [← HN0.out]
      exact ⟨_, rfl, HF.out⟩
set_option maxRecDepth 100000 in
set_option maxHeartbeats 4000000 in
theorem rparts_of (bv : Value) (t : Th) (h : Hd) (ps : List Pt) (x m : Int) (w : World) (hx : ¬ x = 0 → ps = []) (hl : ps.length ≤ 4) (HC : ∀ X, w.grownBy X none → Calls Tryz.prog 25 #[bv, thv t] X (CrPost h ps x X)) : Calls Tryz.prog 29 #[bv, thv t, .int .u8 m] w fun e w' => ∃ v, e = .returned (.tuple #[v, .int .i64 x]) ∧ OwT w' w.heap.size v (plF ps 0 m) ∧ w.grownBy w' none := by
  obtain ⟨i0, hi, hz0, hz1, hz2⟩ := info_parts Tryz.info3t
  obtain ⟨W1, hW1⟩ : ∃ W1, W1 = w.alloc (.cells #[.int .i64 t.card, .int .i64 t.owner, .int .u8 t.place, .int .i64 t.stamp, .int .i64 t.hurt, .int .i64 t.m0, .int .i64 t.m1, .int .i64 t.m2, .int .i64 t.m3, .int .i64 t.done, .bool t.fresh] 39) := ⟨_, rfl⟩
  have HG1 : Hid (w.grownBy W1 none) := by rw [hW1]; exact World.grownBy_alloc _ _ none
  have HT : Hid (W1.heap[w.heap.size]? = some (.cells #[.int .i64 t.card, .int .i64 t.owner, .int .u8 t.place, .int .i64 t.stamp, .int .i64 t.hurt, .int .i64 t.m0, .int .i64 t.m1, .int .i64 t.m2, .int .i64 t.m3, .int .i64 t.done, .bool t.fresh] 39 (0, 0))) := by rw [hW1]; exact alloc_at w _ _
  have HC1 := HC W1 HG1.out
  have HX : Hid (¬ x = 0 → ps = []) := hx
  have HL : Hid (ps.length ≤ 4) := hl
  unfold CrPost cv thv at HC1
  unfold thv
  clear HC hx hl
  go_enter Tryz.func29, Tryz.ntmps29
  go_upto_region 1 with fail
  rw [← hW1]
  clear hW1
  obtain ⟨n0, h0⟩ : ∃ n0, n0 = w.heap.size := ⟨_, rfl⟩
  simp only [← h0] at HT ⊢
  have HN0 : Hid (n0 = w.heap.size) := h0
  clear h0
  have x0 := block_cell HT.out 0
  have x1 := block_cell HT.out 1
  have x2 := block_cell HT.out 2
  have x3 := block_cell HT.out 3
  have x4 := block_cell HT.out 4
  have x5 := block_cell HT.out 5
  have x6 := block_cell HT.out 6
  have x7 := block_cell HT.out 7
  have x8 := block_cell HT.out 8
  have x9 := block_cell HT.out 9
  have x10 := block_cell HT.out 10
  go_wp2_with fail
  refine HC1.mono ?_
  rintro e w2 ⟨u, rfl, o2, g2⟩
  have HPs : Hid (PsAt w2 u ps) := o2.at
  obtain ⟨a2, k2, rfl⟩ := o2.at.form
  obtain ⟨W3, hW3⟩ : ∃ W3, W3 = w2.alloc (.cells (ccs h (.slice a2 ps.length k2)) 69) := ⟨_, rfl⟩
  have HG3 : Hid (w.grownBy W3 none) := by rw [hW3]; exact grown_push (grown_trans HG1.out g2) _
  have HP3 : Hid (PsAt W3 (.slice a2 ps.length k2) ps) := by rw [hW3]; exact HPs.out.keep (World.grownBy_alloc _ _ none)
  have HK : Hid (W3.heap[w2.heap.size]? = some (.cells (ccs h (.slice a2 ps.length k2)) 69 (0, 0))) := by rw [hW3]; exact alloc_at _ _ _
  unfold ccs at hW3
  clear HC1 o2 g2 HT HG1 HPs x0 x1 x2 x3 x4 x5 x6 x7 x8 x9 x10
  go_upto_region 2 with fail
  rw [← hW3]
  clear hW3
  obtain ⟨kk, hk⟩ : ∃ kk, kk = w2.heap.size := ⟨_, rfl⟩
  rw [← hk] at HK ⊢
  clear hk
  have q8 := block_cell HK.out 8
  simp only [ccs] at q8
  by_cases hx : x = 0
  case neg =>
    have hps := HX.out hx
    have HE : Hid (OwT W3 n0 (.slice none 0 0) (plF ps 0 m)) := by rw [hps]; exact OwT.nil _ _
    have e1 : (x != 0) = true := by simpa using hx
    clear hx hps HP3
    go_wp2
    go_ret2
    rw [← HN0.out]
    exact ⟨_, rfl, HE.out, HG3.out⟩
  subst hx
  clear HX
  obtain ⟨n, hn⟩ : ∃ n, n = ps.length := ⟨_, rfl⟩
  have HNn : Hid (n = ps.length) := hn
  simp only [← hn] at HP3 HK q8 ⊢
  clear hn
  go_wp2_with fail
  obtain ⟨n3, hn3⟩ : ∃ n3, n3 = W3.heap.size := ⟨_, rfl⟩
  have HN3 : Hid (n3 = W3.heap.size) := hn3
  clear hn3
  go_loopw [10, 11] (fun v i wr => ∃ k : Nat, k ≤ n ∧ i = .int .i64 (k : Int) ∧ OwT wr n3 v (plF (ps.take k) 0 m) ∧ W3.grownBy wr none) (fun _ i _ => n - (intOf i).toNat)
  case atStart => exact ⟨0, Nat.zero_le _, rfl, OwT.nil _ _, grown_refl _ _⟩
  case round =>
    obtain ⟨k, hk, rfl, O, G⟩ := hrel
    obtain ⟨U, hU⟩ : ∃ U, U = wr := ⟨_, rfl⟩
    subst hU
    obtain ⟨q, cq, rfl⟩ := O.form
    have q8' := G.cell q8 (by simp)
    by_cases hlt : k < n
    · obtain ⟨g, off, cap, ea, R⟩ := HP3.out.part (by have := HNn.out; omega)
      have ea1 : a2 = some ⟨g, off, none⟩ := by injection ea
      clear ea
      subst ea1
      obtain ⟨pt, hpt⟩ : ∃ pt, ps[k]? = some pt := ⟨_, List.getElem?_eq_getElem (by have := HNn.out; omega)⟩
      obtain ⟨d0, d1, d2, d3, d4, d5, d6, d7⟩ := (R k pt hpt).keep G
      have HO : Hid (U.ownsRow n3 3 1 (.slice q (plF (ps.take k) 0 m).length cq) (plF (ps.take k) 0 m).length (ints (plF (ps.take k) 0 m))) := O
      have HG : Hid (W3.grownBy U none) := G
      have HT := plF_take (m := m) hpt
      have hlen : (plF (ps.take k) 0 m).length ≤ 4 := Nat.le_trans (plF_len _ _ _) (by rw [List.length_take]; have := HL.out; omega)
      have hwk : wrap64 ((k : Int) + 1) = (k : Int) + 1 := by have := HL.out; have := HNn.out; unfold wrap64; omega
      obtain ⟨l, hll⟩ : ∃ l, l = plF (ps.take k) 0 m := ⟨_, rfl⟩
      rw [← hll] at HO hlen HT ⊢
      obtain ⟨j, hj⟩ : ∃ j, j = l.length := ⟨_, rfl⟩
      rw [← hj] at HO hlen ⊢
      have HN : Hid (j = l.length) := hj
      have HLm : Hid (j + 1 ≤ maxLen ∧ (j + 1) * 8 ≤ 140737488355328) := by show _ ∧ _; unfold maxLen; omega
      have HP : Hid (k + 1 ≤ n) := hlt
      have HM : Hid (n - (intOf (.int .i64 ((k : Int) + 1))).toNat < n - (intOf (.int .i64 (k : Int))).toNat) := meas_next hlt
      have hlt' : (k : Int) < (n : Int) := by omega
      have hk0 : (0 : Int) ≤ (k : Int) := by omega
      have HSz : Hid (n3 ≤ U.heap.size) := by show n3 ≤ _; rw [HN3.out]; exact HG.out.size
      have HOL : Hid (∀ y, (Value.slice q j cq).ownBlock = some y → W3.heap.size ≤ y) := fun y e => by have := (World.ownsRow.lt HO.out y e).1; rw [← HN3.out]; exact this
      clear R O G hll hj hlen hk hpt
      by_cases hw : pt.wn = m
      · have HY : Hid (plF (ps.take (k + 1)) 0 m = l ++ [(k : Int)]) := by rw [if_pos hw] at HT; exact HT
        have e2 : (pt.wn == m) = true := by simpa using hw
        clear HT hw
        go_wp2_with (first | (at_builtin; go_loud (refine wpList_append_own _ rfl (.tmp 36) (.tmp 38) 22 rfl n3 3 i0 _ 1 8 Tryz.underlying22 hi hz0 hz1 hz2 rfl (by decide) _ j (ints l) rfl (World.ownsRow.alloc HO.out _) ⟨U.heap.size, 0, none⟩ 1 1 (ints [(k : Int)]) rfl rfl (one_newT _ _) (ints_oneT _) HLm.out.1 (by have := HLm.out.2; omega) (by rw [World.size_alloc]; have := HSz.out; omega) ?_; intro v3 w3 o3 g3 _; have HO3 : Hid (OwT w3 n3 v3 (l ++ [(k : Int)])) := own_moreT o3 HN.out; have HG4 : Hid (W3.grownBy w3 none) := grown_own (grown_push HG.out _) g3 (fun x e => HOL.out x e); clear o3 g3)) | fail)
        go_roundw
        case rel => exact ⟨k + 1, HP.out, by first | rfl | (rw [hwk]; rfl) | go_num, by rw [HY.out]; exact HO3.out, HG4.out⟩
        case measure => first | exact HM.out | (rw [hwk]; exact HM.out)
      · have HY : Hid (plF (ps.take (k + 1)) 0 m = l) := by rw [if_neg hw] at HT; exact HT
        have e2 : (pt.wn == m) = false := by simpa using hw
        clear HT hw
        go_wp2_with fail
        go_roundw
        case rel => exact ⟨k + 1, HP.out, by first | rfl | (rw [hwk]; rfl) | go_num, by rw [HY.out]; unfold OwT; rw [← HN.out]; exact HO.out, HG.out⟩
        case measure => first | exact HM.out | (rw [hwk]; exact HM.out)
    · have hkn : k = n := by omega
      have HF : Hid (OwT U n0 (.slice q (plF (ps.take k) 0 m).length cq) (plF ps 0 m) ∧ w.grownBy U none) := ⟨by rw [hkn, HNn.out, List.take_length] at O ⊢; exact own_lowT O (by rw [HN0.out, HN3.out]; exact HG3.out.size), grown_trans HG3.out G⟩
      have hlt' : ¬ (k : Int) < (n : Int) := by omega
      clear O G hkn hk
      go_wp2
      go_ret2
      rw [← HN0.out]
      exact ⟨_, rfl, HF.out⟩
end Go.Proofs.YtogpgldbbegniaaGreat
