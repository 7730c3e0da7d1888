/-
  The places of a card's parts of a moment, plainly: which they are, that they rise, how many there are.
  thing's Parts, and the document's: the places of a card's parts of a moment.
  The book of chapter 18's examples.
  The examples of chapter 18: awake.
-/
import Derived.Test.YtogpgldbbegniabA16
import Derived.Test.YtogpgldbbegniabA27
import Derived.OwnWalk
import Derived.Maps.AppendAt
import Derived.Test.YtogpgldbbegniabA21
namespace Go.Proofs.Ytogpgldbbegniab
open Go.RowKit

theorem plF_mem : ∀ (ps : List Pt) (k : Nat) (m n : Int), n ∈ plF ps k m ↔ ∃ (i : Nat) (q : Pt), n = ((k + i : Nat) : Int) ∧ ps[i]? = some q ∧ q.wn = m
  | [], k, m, n => by simp [plF]
  | q :: r, k, m, n => by
    have ih := plF_mem r (k + 1) m n
    have key : (∃ (i : Nat) (x : Pt), n = ((k + i : Nat) : Int) ∧ (q :: r)[i]? = some x ∧ x.wn = m) ↔ (n = (k : Int) ∧ q.wn = m) ∨ ∃ (i : Nat) (x : Pt), n = ((k + 1 + i : Nat) : Int) ∧ r[i]? = some x ∧ x.wn = m := by
      constructor
      · rintro ⟨i, x, h1, h2, h3⟩
        cases i with
        | zero => left; simp at h2; subst h2; exact ⟨by simpa using h1, h3⟩
        | succ i => right; exact ⟨i, x, by rw [h1]; congr 1; omega, by simpa using h2, h3⟩
      · rintro (⟨h1, h2⟩ | ⟨i, x, h1, h2, h3⟩)
        · exact ⟨0, q, by simpa using h1, rfl, h2⟩
        · exact ⟨i + 1, x, by rw [h1]; congr 1; omega, by simpa using h2, h3⟩
    rw [key, ← ih, show plF (q :: r) k m = if q.wn = m then (k : Int) :: plF r (k + 1) m else plF r (k + 1) m from rfl]
    by_cases hq : q.wn = m
    · rw [if_pos hq]
      simp [hq]
    · rw [if_neg hq]
      simp [hq]
theorem plF_low : ∀ (ps : List Pt) (k : Nat) (m n : Int), n ∈ plF ps k m → (k : Int) ≤ n ∧ n < (k : Int) + ps.length := fun ps k m n h => by
  obtain ⟨i, q, h1, h2, _⟩ := (plF_mem ps k m n).1 h
  have := (List.getElem?_eq_some_iff.1 h2).1
  omega
theorem plF_nodup : ∀ (ps : List Pt) (k : Nat) (m : Int), (plF ps k m).Nodup
  | [], k, m => by simp [plF]
  | q :: r, k, m => by
    unfold plF
    split
    · rw [List.nodup_cons]
      exact ⟨fun h => by have := plF_low _ _ _ _ h; omega, plF_nodup r (k + 1) m⟩
    · exact plF_nodup r (k + 1) m
theorem plF_len : ∀ (ps : List Pt) (k : Nat) (m : Int), (plF ps k m).length ≤ ps.length
  | [], k, m => by simp [plF]
  | q :: r, k, m => by
    unfold plF
    have := plF_len r (k + 1) m
    split
    · simp; omega
    · simp; omega
theorem plF_snoc (m : Int) (q : Pt) : ∀ (ps : List Pt) (k : Nat), plF (ps ++ [q]) k m = if q.wn = m then plF ps k m ++ [((k + ps.length : Nat) : Int)] else plF ps k m
  | [], k => by
    show plF [q] k m = _
    unfold plF
    split <;> simp [plF]
  | x :: r, k => by
    have ih := plF_snoc m q r (k + 1)
    show plF (x :: (r ++ [q])) k m = _
    unfold plF
    rw [ih, show k + 1 + r.length = k + (x :: r).length by simp; omega]
    split <;> split <;> simp
/-- How many parts are of a moment ahead of this one. -/
def cntB (ps : List Pt) (m : Int) : Nat := ps.countP fun q => decide (q.wn < m)
theorem cntB_next : ∀ (ps : List Pt) (k : Nat) (m : Int), cntB ps (m + 1) = cntB ps m + (plF ps k m).length
  | [], k, m => rfl
  | q :: r, k, m => by
    have ih := cntB_next r (k + 1) m
    unfold cntB at ih ⊢
    unfold plF
    rw [List.countP_cons, List.countP_cons, ih]
    by_cases h : q.wn = m
    · rw [if_pos h, if_pos (by simp; omega), if_neg (by simp; omega)]
      simp
      omega
    · rw [if_neg h]
      by_cases h2 : q.wn < m
      · rw [if_pos (by simp; omega), if_pos (by simpa using h2)]
        omega
      · rw [if_neg (by simp; omega), if_neg (by simpa using h2)]
        omega
theorem cntB_all {ps : List Pt} {m : Int} (h : ∀ q ∈ ps, q.wn < m) : cntB ps m = ps.length := by
  unfold cntB
  rw [List.countP_eq_length]
  intro q hq
  simpa using h q hq
theorem cntB_none {ps : List Pt} {m : Int} (h : ∀ q ∈ ps, m ≤ q.wn) : cntB ps m = 0 := by
  unfold cntB
  rw [List.countP_eq_zero]
  intro q hq
  have := h q hq
  simp
  omega
theorem cntB_le (ps : List Pt) (m : Int) : cntB ps m ≤ ps.length := List.countP_le_length
/-- What has been met: the parts of earlier moments, and the first of this one. -/
def Met (ps : List Pt) (m : Int) (l : List Int) (bs : List Bool) : Prop := bs.length = ps.length ∧ ∀ (i : Nat) q, ps[i]? = some q → bs[i]? = some (decide (q.wn < m) || decide ((i : Int) ∈ l))
theorem Met.start {ps : List Pt} {m : Int} (h : ∀ q ∈ ps, m ≤ q.wn) : Met ps m [] (List.replicate ps.length false) := ⟨by simp, fun i q hq => by
  have hi := (List.getElem?_eq_some_iff.1 hq).1
  have := h q (List.mem_of_getElem? hq)
  rw [List.getElem?_replicate, if_pos hi]
  simp
  omega⟩
theorem Met.next {ps : List Pt} {m : Int} {bs : List Bool} (h : Met ps m (plF ps 0 m) bs) : Met ps (m + 1) [] bs := ⟨h.1, fun i q hq => by
  rw [h.2 i q hq]
  have e : ((i : Int) ∈ plF ps 0 m) ↔ q.wn = m := by
    rw [plF_mem]
    constructor
    · rintro ⟨j, x, h1, h2, h3⟩
      obtain rfl : i = j := by omega
      rw [hq] at h2
      injection h2 with h2
      rw [h2]; exact h3
    · intro h3
      exact ⟨i, q, by simp, hq, h3⟩
  by_cases hm : q.wn = m
  · have : q.wn < m + 1 := by omega
    simp [e.2 hm, this]
  · have h2 : ¬ (i : Int) ∈ plF ps 0 m := fun h => hm (e.1 h)
    have : (q.wn < m + 1) ↔ q.wn < m := by omega
    simp [h2, this]⟩
theorem Met.step {ps : List Pt} {m : Int} {l : List Int} {bs : List Bool} {k : Nat} (h : Met ps m l bs) : Met ps m (l ++ [(k : Int)]) (bs.set k true) := ⟨by rw [List.length_set]; exact h.1, fun i q hq => by
  have hi := (List.getElem?_eq_some_iff.1 hq).1
  rw [List.getElem?_set]
  by_cases e : k = i
  · subst e
    rw [if_pos rfl, if_pos (by rw [h.1]; exact hi)]
    simp
  · rw [if_neg e, h.2 i q hq]
    congr 2
    have : ¬ (i : Int) = (k : Int) := by omega
    simp [this]⟩
theorem Met.fresh {ps : List Pt} {m : Int} {l : List Int} {bs : List Bool} {k : Nat} {q : Pt} (h : Met ps m l bs) (hq : ps[k]? = some q) (hm : q.wn = m) (hl : ¬ (k : Int) ∈ l) : bs[k]? = some false := by
  rw [h.2 k q hq]
  simp [hl]
  omega
/-- The one at a place of the list, taken apart. -/
theorem plF_at {ps : List Pt} {m : Int} {p : Nat} {x : Int} (h : (plF ps 0 m)[p]? = some x) : ∃ (k : Nat) (q : Pt), x = (k : Int) ∧ k < ps.length ∧ ps[k]? = some q ∧ q.wn = m ∧ ¬ (k : Int) ∈ (plF ps 0 m).take p ∧ (plF ps 0 m).take (p + 1) = (plF ps 0 m).take p ++ [(k : Int)] := by
  obtain ⟨k, q, h1, h2, h3⟩ := (plF_mem ps 0 m x).1 (List.mem_of_getElem? h)
  have hx : x = (k : Int) := by omega
  subst hx
  have hp := (List.getElem?_eq_some_iff.1 h).1
  refine ⟨k, q, rfl, (List.getElem?_eq_some_iff.1 h2).1, h2, h3, fun hm => ?_, ?_⟩
  · obtain ⟨j, hj⟩ := List.getElem?_of_mem hm
    have hj2 : j < p := by have := (List.getElem?_eq_some_iff.1 hj).1; simp at this; omega
    rw [List.getElem?_take_of_lt hj2] at hj
    have hnd := plF_nodup ps 0 m
    have := (List.getElem?_inj (i := j) (j := p) (by omega) hnd).1 (hj.trans h.symm)
    omega
  · rw [List.take_add_one, h]
    rfl
end Go.Proofs.Ytogpgldbbegniab
namespace Go.Proofs.Ytogpgldbbegniab
open Go.RowKit

theorem Try.info3t : (Try.prog.info? 3).map (fun i => (i.zero, i.size, i.bytes)) = some (some (.int .i64 0), 1, 8) := by kernel_rfl
theorem ints_oneT (l : List Int) : ∀ u ∈ ints l, u.oneCell' = true := fun u hu => by
  obtain ⟨z, _, rfl⟩ := List.mem_map.1 hu
  rfl
theorem ints_appT (a b : List Int) : ints (a ++ b) = ints a ++ ints b := by simp [ints]
theorem one_newT (U : World) (x : Int) : ∀ j u, (ints [x])[j]? = some u → (U.alloc (.cells #[.int .i64 x] 3)).cell? ((⟨U.heap.size, 0, none⟩ : Addr).add j) = some u := fun j u hu => by
  rw [add_plain, Nat.zero_add, block_cell (alloc_at _ _ _)]
  simpa [ints] using hu
/-- A list of numbers of the call's own. -/
def OwT (w : World) (base : Nat) (v : Value) (l : List Int) : Prop := w.ownsRow base 3 1 v l.length (ints l)
theorem OwT.nil (w : World) (base : Nat) : OwT w base (.slice none 0 0) [] := ⟨rfl, Or.inl ⟨rfl, rfl⟩⟩
theorem OwT.form {w : World} {base : Nat} {v : Value} {l : List Int} (h : OwT w base v l) : ∃ p c, v = .slice p l.length c := by
  rcases h.2 with ⟨e, h0⟩ | ⟨g, cap, cur, e, _⟩
  · exact ⟨none, 0, by rw [e, h0]⟩
  · exact ⟨_, _, e⟩
theorem own_moreT {w' : World} {base n : Nat} {v : Value} {l : List Int} {x : Int} (h : w'.ownsRow base 3 1 v (n + 1) (ints l ++ ints [x])) (hn : n = l.length) : OwT w' base v (l ++ [x]) := by
  unfold OwT
  rw [List.length_append, List.length_singleton, ints_appT, ← hn]
  exact h
theorem ownT_grow {w w' : World} {base e size n : Nat} {v : Value} {xs : List Value} (h : w.ownsRow base e size v n xs) (g : w.grownBy w' none) : w'.ownsRow base e size v n xs := World.ownsRow.kept h g (by cases v.ownBlock <;> simp)
theorem own_lowT {w : World} {base base' e size n : Nat} {v : Value} {xs : List Value} (h : w.ownsRow base e size v n xs) (hb : base' ≤ base) : w.ownsRow base' e size v n xs := by
  refine ⟨h.1, ?_⟩
  rcases h.2 with q | ⟨g, cap, cur, e1, hg, r⟩
  · exact Or.inl q
  · exact Or.inr ⟨g, cap, cur, e1, Nat.le_trans hb hg, r⟩
theorem plF_take {ps : List Pt} {k : Nat} {q : Pt} {m : Int} (hq : ps[k]? = some q) : plF (ps.take (k + 1)) 0 m = if q.wn = m then plF (ps.take k) 0 m ++ [(k : Int)] else plF (ps.take k) 0 m := by
  have hk := (List.getElem?_eq_some_iff.1 hq).1
  rw [List.take_add_one, hq, show (some q).toList = [q] from rfl, plF_snoc, List.length_take, Nat.zero_add, Nat.min_eq_left (by omega)]
theorem one_newT2 (U : World) (o : Obj) (x : Int) : ∀ j u, (ints [x])[j]? = some u → ((U.alloc o).alloc (.cells #[.int .i64 x] 3)).cell? ((⟨U.heap.size + 1, 0, none⟩ : Addr).add j) = some u := by
  have := one_newT (U.alloc o) x
  rwa [World.size_alloc] at this
set_option maxRecDepth 100000 in
set_option maxHeartbeats 4000000 in
theorem tparts_of (bv : Value) (t : Th) (h : Hd) (ps : List Pt) (x m : Int) (w : World) (hx : ¬ x = 0 → ps = []) (hl : ps.length ≤ 4) (HC : ∀ X, w.grownBy X none → Calls Try.prog 8 #[bv, thv t] X (CrPost h ps x X)) : Calls Try.prog 9 #[bv, thv t, .int .u8 m] w fun e w' => ∃ v, e = .returned (.tuple #[v, .int .i64 x]) ∧ OwT w' w.heap.size v (plF ps 0 m) ∧ w.grownBy w' none := by
  obtain ⟨i0, hi, hz0, hz1, hz2⟩ := info_parts Try.info3t
  obtain ⟨W1, hW1⟩ : ∃ W1, W1 = w.alloc (.cells #[.int .i64 t.card, .int .i64 t.owner, .int .u8 t.place, .int .i64 t.stamp, .int .i64 t.hurt, .int .i64 t.m0, .int .i64 t.m1, .int .i64 t.m2, .int .i64 t.m3, .int .i64 t.done, .bool t.fresh] 34) := ⟨_, rfl⟩
  have HG1 : Hid (w.grownBy W1 none) := by rw [hW1]; exact World.grownBy_alloc _ _ none
  have HT : Hid (W1.heap[w.heap.size]? = some (.cells #[.int .i64 t.card, .int .i64 t.owner, .int .u8 t.place, .int .i64 t.stamp, .int .i64 t.hurt, .int .i64 t.m0, .int .i64 t.m1, .int .i64 t.m2, .int .i64 t.m3, .int .i64 t.done, .bool t.fresh] 34 (0, 0))) := by rw [hW1]; exact alloc_at w _ _
  have HC1 := HC W1 HG1.out
  have HX : Hid (¬ x = 0 → ps = []) := hx
  have HL : Hid (ps.length ≤ 4) := hl
  unfold CrPost cv thv at HC1
  unfold thv
  clear HC hx hl
  go_enter Try.func9, Try.ntmps9
  go_upto_region 1 with fail
  rw [← hW1]
  clear hW1
  obtain ⟨n0, h0⟩ : ∃ n0, n0 = w.heap.size := ⟨_, rfl⟩
  simp only [← h0] at HT ⊢
  have HN0 : Hid (n0 = w.heap.size) := h0
  clear h0
  have x0 := block_cell HT.out 0
  have x1 := block_cell HT.out 1
  have x2 := block_cell HT.out 2
  have x3 := block_cell HT.out 3
  have x4 := block_cell HT.out 4
  have x5 := block_cell HT.out 5
  have x6 := block_cell HT.out 6
  have x7 := block_cell HT.out 7
  have x8 := block_cell HT.out 8
  have x9 := block_cell HT.out 9
  have x10 := block_cell HT.out 10
  go_wp2_with fail
  refine HC1.mono ?_
  rintro e w2 ⟨u, rfl, o2, g2⟩
  have HPs : Hid (PsAt w2 u ps) := o2.at
  obtain ⟨a2, k2, rfl⟩ := o2.at.form
  obtain ⟨W3, hW3⟩ : ∃ W3, W3 = w2.alloc (.cells (ccs h (.slice a2 ps.length k2)) 47) := ⟨_, rfl⟩
  have HG3 : Hid (w.grownBy W3 none) := by rw [hW3]; exact grown_push (grown_trans HG1.out g2) _
  have HP3 : Hid (PsAt W3 (.slice a2 ps.length k2) ps) := by rw [hW3]; exact HPs.out.keep (World.grownBy_alloc _ _ none)
  have HK : Hid (W3.heap[w2.heap.size]? = some (.cells (ccs h (.slice a2 ps.length k2)) 47 (0, 0))) := by rw [hW3]; exact alloc_at _ _ _
  unfold ccs at hW3
  clear HC1 o2 g2 HT HG1 HPs x0 x1 x2 x3 x4 x5 x6 x7 x8 x9 x10
  go_upto_region 2 with fail
  rw [← hW3]
  clear hW3
  obtain ⟨kk, hk⟩ : ∃ kk, kk = w2.heap.size := ⟨_, rfl⟩
  rw [← hk] at HK ⊢
  clear hk
  have q8 := block_cell HK.out 8
  simp only [ccs] at q8
  by_cases hx : x = 0
  case neg =>
    have hps := HX.out hx
    have HE : Hid (OwT W3 n0 (.slice none 0 0) (plF ps 0 m)) := by rw [hps]; exact OwT.nil _ _
    have e1 : (x != 0) = true := by simpa using hx
    clear hx hps HP3
    go_wp2
    go_ret2
    rw [← HN0.out]
    exact ⟨_, rfl, HE.out, HG3.out⟩
  subst hx
  clear HX
  obtain ⟨n, hn⟩ : ∃ n, n = ps.length := ⟨_, rfl⟩
  have HNn : Hid (n = ps.length) := hn
  simp only [← hn] at HP3 HK q8 ⊢
  clear hn
  go_wp2_with fail
  obtain ⟨n3, hn3⟩ : ∃ n3, n3 = W3.heap.size := ⟨_, rfl⟩
  have HN3 : Hid (n3 = W3.heap.size) := hn3
  clear hn3
  go_loopw [10, 11, 12, 25] (fun v _ _ i wr => ∃ k : Nat, k ≤ n ∧ i = .int .i64 (k : Int) ∧ OwT wr n3 v (plF (ps.take k) 0 m) ∧ W3.grownBy wr none) (fun _ _ _ i _ => n - (intOf i).toNat)
  case atStart => exact ⟨0, Nat.zero_le _, rfl, OwT.nil _ _, grown_refl _ _⟩
  case round =>
    obtain ⟨k, hk, rfl, O, G⟩ := hrel
    obtain ⟨U, hU⟩ : ∃ U, U = wr := ⟨_, rfl⟩
    subst hU
    obtain ⟨q, cq, rfl⟩ := O.form
    have q8' := G.cell q8 (by simp)
    by_cases hlt : k < n
    · obtain ⟨g, off, cap, ea, R⟩ := HP3.out.part (by have := HNn.out; omega)
      have ea1 : a2 = some ⟨g, off, none⟩ := by injection ea
      clear ea
      subst ea1
      obtain ⟨pt, hpt⟩ : ∃ pt, ps[k]? = some pt := ⟨_, List.getElem?_eq_getElem (by have := HNn.out; omega)⟩
      obtain ⟨d0, d1, d2, d3, d4, d5, d6, d7⟩ := (R k pt hpt).keep G
      have HO : Hid (U.ownsRow n3 3 1 (.slice q (plF (ps.take k) 0 m).length cq) (plF (ps.take k) 0 m).length (ints (plF (ps.take k) 0 m))) := O
      have HG : Hid (W3.grownBy U none) := G
      have HT := plF_take (m := m) hpt
      have hlen : (plF (ps.take k) 0 m).length ≤ 4 := Nat.le_trans (plF_len _ _ _) (by rw [List.length_take]; have := HL.out; omega)
      have hwk : wrap64 ((k : Int) + 1) = (k : Int) + 1 := by have := HL.out; have := HNn.out; unfold wrap64; omega
      obtain ⟨l, hll⟩ : ∃ l, l = plF (ps.take k) 0 m := ⟨_, rfl⟩
      rw [← hll] at HO hlen HT ⊢
      obtain ⟨j, hj⟩ : ∃ j, j = l.length := ⟨_, rfl⟩
      rw [← hj] at HO hlen ⊢
      have HN : Hid (j = l.length) := hj
      have HLm : Hid (j + 1 ≤ maxLen ∧ (j + 1) * 8 ≤ 140737488355328) := by show _ ∧ _; unfold maxLen; omega
      have HP : Hid (k + 1 ≤ n) := hlt
      have HM : Hid (n - (intOf (.int .i64 ((k : Int) + 1))).toNat < n - (intOf (.int .i64 (k : Int))).toNat) := meas_next hlt
      have hlt' : (k : Int) < (n : Int) := by omega
      have hk0 : (0 : Int) ≤ (k : Int) := by omega
      have HSz : Hid (n3 ≤ U.heap.size) := by show n3 ≤ _; rw [HN3.out]; exact HG.out.size
      have HOL : Hid (∀ y, (Value.slice q j cq).ownBlock = some y → W3.heap.size ≤ y) := fun y e => by have := (World.ownsRow.lt HO.out y e).1; rw [← HN3.out]; exact this
      clear R O G hll hj hlen hk hpt
      by_cases hw : pt.wn = m
      · have HY : Hid (plF (ps.take (k + 1)) 0 m = l ++ [(k : Int)]) := by rw [if_pos hw] at HT; exact HT
        have e2 : (pt.wn == m) = true := by simpa using hw
        clear HT hw
        go_wp2_with (first | (at_builtin; go_loud (refine wpList_append_own _ rfl (.tmp 34) (.tmp 36) 52 rfl n3 3 i0 _ 1 8 Try.underlying52 hi hz0 hz1 hz2 rfl (by decide) _ j (ints l) rfl (World.ownsRow.alloc (World.ownsRow.alloc HO.out _) _) ⟨U.heap.size + 1, 0, none⟩ 1 1 (ints [(k : Int)]) rfl rfl (one_newT2 _ _ _) (ints_oneT _) HLm.out.1 (by have := HLm.out.2; omega) (by rw [World.size_alloc, World.size_alloc]; have := HSz.out; omega) ?_; intro v3 w3 o3 g3 _; have HO3 : Hid (OwT w3 n3 v3 (l ++ [(k : Int)])) := own_moreT o3 HN.out; have HG4 : Hid (W3.grownBy w3 none) := grown_own (grown_push (grown_push HG.out _) _) g3 (fun x e => HOL.out x e); clear o3 g3)) | fail)
        go_roundw
        case rel => exact ⟨k + 1, HP.out, by first | rfl | (rw [hwk]; rfl) | go_num, by rw [HY.out]; exact HO3.out, HG4.out⟩
        case measure => first | exact HM.out | (rw [hwk]; exact HM.out)
      · have HY : Hid (plF (ps.take (k + 1)) 0 m = l) := by rw [if_neg hw] at HT; exact HT
        have e2 : (pt.wn == m) = false := by simpa using hw
        clear HT hw
        go_wp2_with fail
        go_roundw
        case rel => exact ⟨k + 1, HP.out, by first | rfl | (rw [hwk]; rfl) | go_num, by rw [HY.out]; unfold OwT; rw [← HN.out]; exact World.ownsRow.alloc HO.out _, grown_push HG.out _⟩
        case measure => first | exact HM.out | (rw [hwk]; exact HM.out)
    · have hkn : k = n := by omega
      have HF : Hid (OwT U n0 (.slice q (plF (ps.take k) 0 m).length cq) (plF ps 0 m) ∧ w.grownBy U none) := ⟨by rw [hkn, HNn.out, List.take_length] at O ⊢; exact own_lowT O (by rw [HN0.out, HN3.out]; exact HG3.out.size), grown_trans HG3.out G⟩
      have hlt' : ¬ (k : Int) < (n : Int) := by omega
      clear O G hkn hk
      go_wp2
      go_ret2
      rw [← HN0.out]
      exact ⟨_, rfl, HF.out⟩
end Go.Proofs.Ytogpgldbbegniab
namespace Go.Proofs.Ytogpgldbbegniab
open Go.RowKit

def tgR : Hd := ⟨⟨#[114, 111, 99, 107]⟩, 2, 1, 1, 2, 3, 2, false⟩
def tgF : Hd := ⟨⟨#[102, 111, 103]⟩, 1, 2, 0, 0, 0, 0, false⟩
def tgU : Mk := ⟨1, ⟨#[117, 112]⟩, 1, 1⟩
def tgD : Mk := ⟨2, ⟨#[100, 111, 119, 110]⟩, -1, -1⟩
def tgES (u v : Value) : List Ent := [⟨tgF, u, []⟩, ⟨tgR, v, []⟩]
def tgP1 : Pl := { plNew with mks := plNew.mks.set 1 tgU }
def tgP2 : Pl := { tgP1 with mks := tgP1.mks.set 2 tgD }
def tgP3 : Pl := { tgP2 with shut := true }
theorem tx_rock : caE plNew [] (tgR.with []) = 0 := by decide +kernel
theorem tx_fog (v : Value) : caE plNew [⟨tgR, v, []⟩] (tgF.with []) = 0 := by
  show (if plNew.shut = true then (7 : Int) else if ¬ cchk (tgF.with []) = 0 then cchk (tgF.with []) else if 0 ≤ pos [tgR.nm] tgF.nm then 5 else if (1 : Nat) = 64 then 14 else 0) = 0
  decide +kernel
theorem tx_ins (u v : Value) : ins [⟨tgR, v, []⟩] ⟨tgF, u, []⟩ = tgES u v := by
  rw [ins_cons, if_neg (by show ¬ ord tgR tgF < 0; decide +kernel)]
  rfl
theorem tx_up : maE plNew tgU = 0 := by decide +kernel
theorem tx_down : maE tgP1 tgD = 0 := by decide +kernel
theorem tx_upP : maP plNew tgU = tgP1 := if_pos tx_up
theorem tx_downP : maP tgP1 tgD = tgP2 := if_pos tx_down
theorem tx_seal (u v : Value) : sealE tgP2 (tgES u v) = 0 := by
  unfold sealE
  rw [if_neg (by decide)]
  simp [tgES, sealL, callsE]
theorem tx_shut (u v : Value) : sealP tgP2 (tgES u v) = tgP3 := if_pos (tx_seal u v)
def tgOk (b : Nat) (k : Nat) : Prop := b < k
theorem tgP3_mkd : MkD tgP3 := ⟨rfl, fun m hm => by
  simp [tgP3, tgP2, tgP1, plNew, List.set] at hm
  rcases hm with h | h | h | h <;> subst h
  · exact Or.inl rfl
  · exact Or.inr ⟨by decide, by decide⟩
  · exact Or.inr ⟨by decide, by decide⟩
  · exact Or.inl rfl⟩
theorem tx_mo : moM tgP3 1 = tgU ∧ moM tgP3 2 = tgD ∧ moM tgP3 3 = Mk.none ∧ moM tgP3 4 = Mk.none := ⟨rfl, rfl, rfl, rfl⟩
set_option maxRecDepth 100000 in
set_option maxHeartbeats 2000000 in
theorem texample_any (w : World) : Calls Try.prog 26 #[] w fun e w' => ∃ u v, e = .returned (.pointer (some ⟨w.heap.size, 0, none⟩)) ∧ Book (tgOk w.heap.size) w' w.heap.size (tgES u v) tgP3 ∧ w.grownBy w' none := by
  have HN := bnew (tgOk w.heap.size) w
  obtain ⟨b, hb⟩ : ∃ b, b = w.heap.size := ⟨_, rfl⟩
  have HBb : Hid (b = w.heap.size) := hb
  rw [← hb] at HN ⊢
  clear hb
  go_enter Try.func26, Try.ntmps26
  go_wp2_with fail
  refine HN.mono ?_
  rintro e w1 ⟨rfl, B1, g1, hz1⟩
  have HG1 : Hid (w.grownBy w1 none) := g1
  have HC1 := bcard (tgOk b) b [] plNew tgR (.slice none 0 0) [] w1 B1 (Nat.lt_irrefl _) (fun k hk => by show b < k; have h1 := HBb.out; rw [hz1] at hk; omega) (Or.inl ⟨rfl, rfl⟩) (by unfold Small; simp)
  rw [tx_rock] at HC1
  unfold cv tgR at HC1
  clear HN B1 g1
  go_wp2_with fail
  refine HC1.mono ?_
  rintro e w2 ⟨v, rfl, B2, g2⟩
  have HG2 : Hid (w.grownBy w2 none) := grown_own HG1.out g2 (fun x e => by cases e; rw [HBb.out]; exact Nat.le_refl _)
  have B2' : Book (tgOk b) w2 b [⟨tgR, v, []⟩] plNew := B2
  have HC2 := bcard (tgOk b) b _ plNew tgF (.slice none 0 0) [] w2 B2' (Nat.lt_irrefl _) (fun k hk => by show b < k; have := B2'.lt; omega) (Or.inl ⟨rfl, rfl⟩) (by unfold Small; simp)
  rw [tx_fog] at HC2
  unfold cv tgF at HC2
  clear HC1 B2 B2' g2 HG1 hz1
  go_wp2_with fail
  refine HC2.mono ?_
  rintro e w3 ⟨u, rfl, B3, g3⟩
  have HG3 : Hid (w.grownBy w3 none) := grown_own HG2.out g3 (fun x e => by cases e; rw [HBb.out]; exact Nat.le_refl _)
  have B3' : Book (tgOk b) w3 b (tgES u v) plNew := by rw [← tx_ins]; exact B3
  have HM1 := bmark (tgOk b) b _ plNew tgU w3 B3' (Nat.lt_irrefl _)
  rw [tx_up, tx_upP] at HM1
  unfold mv tgU at HM1
  clear HC2 B3 B3' g3 HG2
  go_wp2_with fail
  refine HM1.mono ?_
  rintro e w4 ⟨rfl, B4, g4⟩
  have HG4 : Hid (w.grownBy w4 none) := grown_own HG3.out g4 (fun x e => by cases e; rw [HBb.out]; exact Nat.le_refl _)
  have HM2 := bmark (tgOk b) b _ tgP1 tgD w4 B4 (Nat.lt_irrefl _)
  rw [tx_down, tx_downP] at HM2
  unfold mv tgD at HM2
  clear HM1 B4 g4 HG3
  go_wp2_with fail
  refine HM2.mono ?_
  rintro e w5 ⟨rfl, B5, g5⟩
  have HG5 : Hid (w.grownBy w5 none) := grown_own HG4.out g5 (fun x e => by cases e; rw [HBb.out]; exact Nat.le_refl _)
  have HS := bseal (tgOk b) b _ tgP2 w5 B5 (Nat.lt_irrefl _)
  rw [tx_seal, tx_shut] at HS
  clear HM2 B5 g5 HG4
  go_wp2_with fail
  refine HS.mono ?_
  rintro e w6 ⟨rfl, B6, g6⟩
  have HF : Hid (Book (tgOk b) w6 b (tgES u v) tgP3 ∧ w.grownBy w6 none) := ⟨B6, grown_own HG5.out g6 (fun x e => by cases e; rw [HBb.out]; exact Nat.le_refl _)⟩
  clear HS B6 g6
  go_wp2_with fail
  go_ret
  exact ⟨u, v, rfl, HF.out⟩
end Go.Proofs.Ytogpgldbbegniab
namespace Go.Proofs.Ytogpgldbbegniab
open Go.RowKit

theorem tprinted_lit (ok : Nat → Prop) (b : Nat) (es : List Ent) (p : Pl) (t : Th) (w : World) (B : Book ok w b es p) (f : Fe) (x : Int) (hf : ptF (atC p es t.card).1 (atX p es t.card) t = f) (hx : ptE (atX p es t.card) t = x) : Calls Try.prog 27 #[.pointer (some ⟨b, 0, none⟩), thv t] w fun e w' => e = .returned (.tuple #[fev f, .int .i64 x]) ∧ w.grownBy w' none := by
  rw [← hf, ← hx]
  exact tprinted_of _ t _ _ _ w (fun X g => tcard_book ok b es p t X (B.keep g))
theorem marked_lit (ok : Nat → Prop) (b : Nat) (es : List Ent) (p : Pl) (f : Fe) (c0 c1 c2 c3 : Int) (w : World) (B : Book ok w b es p) (r : Fe) (x : Int) (hr : mdF p f c0 c1 c2 c3 = r) (hx : mdE c0 c1 c2 c3 = x) : Calls Try.prog 6 #[.pointer (some ⟨b, 0, none⟩), fev f, .agg #[.int .i64 c0, .int .i64 c1, .int .i64 c2, .int .i64 c3]] w fun e w' => e = .returned (.tuple #[fev r, .int .i64 x]) ∧ w.grownBy w' none := by
  rw [← hr, ← hx]
  exact marked_any ok b es p f c0 c1 c2 c3 w B
set_option maxRecDepth 100000 in
set_option maxHeartbeats 8000000 in
theorem tawake_any (w : World) : Calls Try.prog 10 #[] w fun e w' => e = .returned (.bool true) ∧ w.grownBy w' none := by
  have HE := texample_any w
  obtain ⟨b, hb⟩ : ∃ b, b = w.heap.size := ⟨_, rfl⟩
  rw [← hb] at HE
  clear hb
  have eq1 := eql_fe 1 2 2 2 3
  have eq2 := eql_fe 1 2 2 4 5
  have eq3 := eqg_fe
  go_enter Try.func10, Try.ntmps10
  go_wp2_with fail
  refine HE.mono ?_
  rintro e w1 ⟨u, v, rfl, B1, g1⟩
  have HB1 : Hid (Book (tgOk b) w1 b (tgES u v) tgP3) := B1
  have HG1 : Hid (w.grownBy w1 none) := g1
  have HP := tprinted_lit (tgOk b) b (tgES u v) tgP3 ⟨2, 1, 0, 0, 0, 0, 0, 0, 0, 0, false⟩ w1 B1 ⟨1, 2, 2, 2, 3⟩ 0 (by kernel_rfl) (by kernel_rfl)
  unfold thv fev at HP
  simp only at HP
  clear HE B1 g1
  go_wp2_with fail
  refine HP.mono ?_
  rintro e w2 ⟨rfl, g2⟩
  obtain ⟨W3, hW3⟩ : ∃ W3, W3 = w2.alloc (.cells #[.int .i64 1, .int .u8 2, .int .u16 2, .int .i64 2, .int .i64 3] 30) := ⟨_, rfl⟩
  have HG3 : Hid (w1.grownBy W3 none) := by rw [hW3]; exact grown_push g2 _
  have HF3 : Hid (W3.heap[w2.heap.size]? = some (.cells #[.int .i64 1, .int .u8 2, .int .u16 2, .int .i64 2, .int .i64 3] 30 (0, 0))) := by rw [hW3]; exact alloc_at _ _ _
  have HM := marked_lit (tgOk b) b (tgES u v) tgP3 ⟨1, 2, 2, 2, 3⟩ 2 0 0 0 W3 (HB1.out.keep HG3.out) ⟨1, 2, 2, 4, 5⟩ 0 (by kernel_rfl) (by kernel_rfl)
  unfold fev at HM
  simp only at HM
  clear HP g2 HB1
  go_upto_region 3 with fail
  rw [← hW3]
  clear hW3
  obtain ⟨k1, hk1⟩ : ∃ k1, k1 = w2.heap.size := ⟨_, rfl⟩
  rw [← hk1] at HF3 ⊢
  clear hk1
  have f0 := block_cell HF3.out 0
  have f1 := block_cell HF3.out 1
  have f2 := block_cell HF3.out 2
  have f3 := block_cell HF3.out 3
  have f4 := block_cell HF3.out 4
  go_wp2_with fail
  refine HM.mono ?_
  rintro e w4 ⟨rfl, g4⟩
  obtain ⟨W5, hW5⟩ : ∃ W5, W5 = w4.alloc (.cells #[.int .i64 1, .int .u8 2, .int .u16 2, .int .i64 4, .int .i64 5] 30) := ⟨_, rfl⟩
  have HG5 : Hid (W3.grownBy W5 none) := by rw [hW5]; exact grown_push g4 _
  have HF5 : Hid (W5.heap[w4.heap.size]? = some (.cells #[.int .i64 1, .int .u8 2, .int .u16 2, .int .i64 4, .int .i64 5] 30 (0, 0))) := by rw [hW5]; exact alloc_at _ _ _
  have HF6 : Hid (W5.heap[k1]? = some (.cells #[.int .i64 1, .int .u8 2, .int .u16 2, .int .i64 2, .int .i64 3] 30 (0, 0))) := grown_keep HG5.out HF3.out (by simp)
  clear HM g4 HF3 f0 f1 f2 f3 f4
  go_upto_region 4 with fail
  rw [← hW5]
  clear hW5
  obtain ⟨k2, hk2⟩ : ∃ k2, k2 = w4.heap.size := ⟨_, rfl⟩
  rw [← hk2] at HF5 ⊢
  clear hk2
  have f0 := block_cell HF6.out 0
  have f1 := block_cell HF6.out 1
  have f2 := block_cell HF6.out 2
  have f3 := block_cell HF6.out 3
  have f4 := block_cell HF6.out 4
  have h0 := block_cell HF5.out 0
  have h1 := block_cell HF5.out 1
  have h2 := block_cell HF5.out 2
  have h3 := block_cell HF5.out 3
  have h4 := block_cell HF5.out 4
  go_wp2
  go_ret
  exact ⟨rfl, grown_trans HG1.out (grown_trans HG3.out HG5.out)⟩
end Go.Proofs.Ytogpgldbbegniab
