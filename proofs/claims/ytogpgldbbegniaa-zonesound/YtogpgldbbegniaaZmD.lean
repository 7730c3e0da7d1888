/-
  Memory: a row written over from a place on; copy of rows of several cells; a list, and a list of things, copied into new memory: the program's own.
-/
import Derived.Test.YtogpgldbbegniaaS17
import Derived.Test.YtogpgldbbegniaaS5
import Derived.Laws.CopyOwn
import Derived.Laws.Tables
namespace Go.Proofs.Ytogpgldbbegniaa
open Go.RowKit

def setFrom : List Value → Nat → List Value → List Value
  | xs, _, [] => xs
  | xs, o, v :: vs => setFrom (xs.set o v) (o + 1) vs
theorem setFrom_eq : ∀ (vs xs : List Value) (o : Nat), o + vs.length ≤ xs.length → setFrom xs o vs = xs.take o ++ (vs ++ xs.drop (o + vs.length))
  | [], xs, o, h => by simp [setFrom]
  | v :: vs, xs, o, h => by
    rw [List.length_cons] at h
    show setFrom (xs.set o v) (o + 1) vs = _
    rw [setFrom_eq vs (xs.set o v) (o + 1) (by rw [List.length_set]; omega), List.take_add_one, List.getElem?_set_self (by omega), List.take_set_of_le (by omega), List.drop_set_of_lt (by omega), List.length_cons]
    simp [Nat.add_assoc, Nat.add_comm 1]
theorem setFrom_all {xs vs : List Value} (h : vs.length = xs.length) : setFrom xs 0 vs = vs := by
  rw [setFrom_eq vs xs 0 (by omega), List.take_zero, List.nil_append, List.drop_eq_nil_of_le (by omega), List.append_nil]
theorem own_setCells {base e size g n cap : Nat} : ∀ (vs xs : List Value) (o : Nat) (w : World), w.ownsRow base e size (.slice (some ⟨g, 0, none⟩) n cap) n xs → (w.setCells g o vs).ownsRow base e size (.slice (some ⟨g, 0, none⟩) n cap) n (setFrom xs o vs) ∧ w.grownBy (w.setCells g o vs) (some g)
  | [], xs, o, w, h => ⟨h, grown_refl _ _⟩
  | v :: vs, xs, o, w, h => by
    obtain ⟨h1, h2⟩ := World.ownsRow.stored h o v
    obtain ⟨h3, h4⟩ := own_setCells vs (xs.set o v) (o + 1) _ h1
    exact ⟨h3, grown_trans h2 h4⟩
theorem thcs_take : ∀ (ts : List Th) (j : Nat), (thcs ts).take (j * 11) = thcs (ts.take j)
  | [], j => by simp [thcs]
  | t :: ts, 0 => by simp [thcs]
  | t :: ts, j + 1 => by
    show (thc t ++ thcs ts).take ((j + 1) * 11) = thc t ++ thcs (ts.take j)
    rw [List.take_append, thc_len, List.take_of_length_le (by rw [thc_len]; omega), show (j + 1) * 11 - 11 = j * 11 from by omega, thcs_take ts j]
theorem thcs_drop : ∀ (ts : List Th) (j : Nat), (thcs ts).drop (j * 11) = thcs (ts.drop j)
  | [], j => by simp [thcs]
  | t :: ts, 0 => by simp [thcs]
  | t :: ts, j + 1 => by
    show (thc t ++ thcs ts).drop ((j + 1) * 11) = thcs (ts.drop j)
    rw [List.drop_append, thc_len, List.drop_eq_nil_of_le (by rw [thc_len]; omega), show (j + 1) * 11 - 11 = j * 11 from by omega, thcs_drop ts j, List.nil_append]
theorem thcs_set {ts : List Th} {j : Nat} (t : Th) (h : j < ts.length) : setFrom (thcs ts) (j * 11) (thc t) = thcs (ts.set j t) := by
  rw [setFrom_eq _ _ _ (by rw [thcs_len, thc_len]; omega), thcs_take, thc_len, show j * 11 + 11 = (j + 1) * 11 from by omega, thcs_drop, List.set_eq_take_append_cons_drop, if_pos h, thcs_app]
  rfl
/-- A thing of the list is another one. -/
theorem OwnT.set {w : World} {base g n cap j : Nat} {ts : List Th} (h : OwnT w base (.slice (some ⟨g, 0, none⟩) n cap) ts) (hn : ts.length = n) (hj : j < n) (t : Th) : OwnT (w.setCells g (j * 11) (thc t)) base (.slice (some ⟨g, 0, none⟩) n cap) (ts.set j t) ∧ w.grownBy (w.setCells g (j * 11) (thc t)) (some g) := by
  unfold OwnT at h ⊢
  rw [hn] at h
  obtain ⟨h1, h2⟩ := own_setCells (thc t) (thcs ts) (j * 11) w h
  rw [thcs_set t (by omega)] at h1
  rw [List.length_set, hn]
  exact ⟨h1, h2⟩
theorem own_thereT {w : World} {base g n cap j : Nat} {ts : List Th} (h : OwnT w base (.slice (some ⟨g, 0, none⟩) n cap) ts) (hn : ts.length = n) (hj : j < n) : w.there g (j * 11) 11 := by
  unfold OwnT at h
  rw [hn] at h
  intro k hk
  refine ⟨?_, World.ownsRow.frozenAt h _⟩
  rw [World.ownsRow.cellAt h (j * 11 + k) (by omega), List.getElem?_eq_getElem (by rw [thcs_len]; omega)]
  rfl
/-- copy of rows of k cells. -/
theorem run_copyK {P : Program} (k : Nat) (w : World) (dT sT ty elem : TypeId) (g o dLen dCap : Nat) (a : Addr) (sLen sCap : Nat) (cur : Array Value) (t : TypeId) (cs : List Value)
    (hu : P.underlying dT = some (.slice elem)) (hs : (P.info? elem).map (·.size) = some k)
    (hg : w.heap[g]? = some (.cells cur t (0, 0))) (hn : cs.length = Nat.min sLen dLen * k)
    (hsrc : ∀ j v, cs[j]? = some v → w.cell? (a.add j) = some v) (hfit : o + cs.length ≤ cur.size) (h1 : ∀ v ∈ cs, v.oneCell' = true) :
    (Builtin.copy_ #[dT, sT] ty #[.slice (some ⟨g, o, none⟩) dLen dCap, .slice (some a) sLen sCap]).run P w =
      .ok (goInt (Nat.min sLen dLen)) (w.setRow g (cur.toList.take o ++ cs ++ cur.toList.drop (o + cs.length)).toArray) := by
  have hl := run_loadCells_list (P := P) w a cs hsrc
  have hst := run_storeCells_at P g o t cs 0 cur w hg (by simpa using hfit) h1
  cases hq : P.info? elem with
  | none => simp [hq] at hs
  | some i =>
    have hi : i.size = k := by simpa [hq] using hs
    rw [hn] at hl
    simp [Builtin.copy_, run_underlying hu, Builtin.lenOf, Builtin.firstCells, sizeOf, typeInfo, hq, hi, hl, hst]
theorem run_copyK_none {P : Program} (k : Nat) (w : World) (dT sT ty elem : TypeId) (d a : Option Addr) (dLen dCap sLen sCap : Nat) (hu : P.underlying dT = some (.slice elem)) (hs : (P.info? elem).map (·.size) = some k) (hn : Nat.min sLen dLen = 0) :
    (Builtin.copy_ #[dT, sT] ty #[.slice d dLen dCap, .slice a sLen sCap]).run P w = .ok (goInt 0) w := by
  cases hq : P.info? elem with
  | none => simp [hq] at hs
  | some i =>
    have hn' : min sLen dLen = 0 := hn
    cases d <;> cases a <;> simp [Builtin.copy_, run_underlying hu, Builtin.lenOf, Builtin.firstCells, sizeOf, typeInfo, hq, hn', loadCells, loadCellsFrom, storeCells]
theorem grown_row (w : World) (g : Nat) (cs : Array Value) : w.grownBy (w.setRow g cs) (some g) :=
  ⟨rfl, rfl, rfl, by simp [World.setRow], fun k _ hk => setRow_other w g k cs (fun e => hk (by rw [e]))⟩
theorem wpl_copyK {P : Program} {ops : Array Oper} {rest : List Oper} {o : Oper} {a : Act} {w : World} {Q : Exit → Act → World → Prop} (hgd : o.guard = none) (d s : Operand) (dT sT : TypeId)
    (ho : o.op = .call { callee := .builtin .copy, args := #[d, s], argTypes := #[dT, sT] }) (elem : TypeId) (hu : P.underlying dT = some (.slice elem)) (k : Nat) (hsz : (P.info? elem).map (·.size) = some k)
    (dp sp : Option Addr) (dLen dCap sLen sCap : Nat) (hd : a.eval d = .slice dp dLen dCap) (hs : a.eval s = .slice sp sLen sCap)
    (g off : Nat) (cur : List Value) (t : TypeId) (hg : w.heap[g]? = some (.cells cur.toArray t (0, 0))) (cs : List Value) (hn : cs.length = Nat.min sLen dLen * k) (hk : 0 < k)
    (hpos : 0 < cs.length → dp = some ⟨g, off, none⟩ ∧ ∃ ad, sp = some ad ∧ ∀ j v, cs[j]? = some v → w.cell? (ad.add j) = some v)
    (hfit : off + cs.length ≤ cur.length) (h1 : ∀ v ∈ cs, v.oneCell' = true)
    (h : ∀ w', Hid (w'.heap[g]? = some (.cells (splice cur off cs).toArray t (0, 0))) → Hid (w.grownBy w' (some g)) → wpList P ops Q rest (a.put o.dst (goInt (Nat.min sLen dLen))) w') :
    wpList P ops Q (o :: rest) a w := by
  refine wpList_plain hgd fun K hK => ?_
  by_cases h0 : cs.length = 0
  · obtain rfl : cs = [] := List.eq_nil_of_length_eq_zero h0
    have hz : Nat.min sLen dLen = 0 := by
      simp only [List.length_nil] at hn
      rcases Nat.mul_eq_zero.1 hn.symm with h | h
      · exact h
      · omega
    have hrun := run_copyK_none (P := P) k w dT sT o.type elem dp sp dLen dCap sLen sCap hu hsz hz
    rw [hz] at h
    unfold Oper.wp
    simp [execOp, ho, resolve, invoke, builtin, hd, hs, hrun, Result.andThen]
    exact hK _ _ (h w (show _ = _ by simpa [splice] using hg) (grown_refl _ _))
  · obtain ⟨rfl, ad, rfl, hsrc⟩ := hpos (by omega)
    have hrun := run_copyK (P := P) k w dT sT o.type elem g off dLen dCap ad sLen sCap cur.toArray t cs hu hsz hg hn hsrc (by simpa using hfit) h1
    unfold Oper.wp
    simp [execOp, ho, resolve, invoke, builtin, hd, hs, hrun, Result.andThen]
    exact hK _ _ (h _ (show _ = _ by simpa [splice] using setRow_heap w g _ _ t _ hg) (grown_row _ _ _))
theorem made_blockK {w V : World} {e size N : Nat} {xs : List Value} (h : V.ownsRow w.heap.size e size (.slice (some ⟨w.heap.size, 0, none⟩) N N) N xs) : ∃ Z : List Value, Z.length = N * size ∧ V.heap[w.heap.size]? = some (.cells Z.toArray e (0, 0)) := by
  rcases h.2 with ⟨h', _⟩ | ⟨g, cap, cur, h', hb, hh, hn, hm, hs, ht⟩
  · simp at h'
  · simp at h'
    obtain ⟨rfl, rfl⟩ := h'
    exact ⟨cur.toList, by simp [hs], by simpa using hh⟩
theorem block_ownK {V : World} {g e size N : Nat} {xs : List Value} (h : V.heap[g]? = some (.cells xs.toArray e (0, 0))) (hl : xs.length = N * size) (hN : N ≤ maxLen) : V.ownsRow g e size (.slice (some ⟨g, 0, none⟩) N N) N xs :=
  ⟨hl, Or.inr ⟨g, N, _, rfl, Nat.le_refl _, h, Nat.le_refl _, hN, by simp [hl], by simp [← hl, List.take_of_length_le]⟩⟩
theorem splice_whole {α : Type} {Z A : List α} (h : Z.length = A.length) : splice Z 0 A = A := by
  simp [splice, h]
set_option maxRecDepth 100000 in
set_option maxHeartbeats 2000000 in
theorem ownI_any (v : Value) (l : List Int) (w : World) (h : IntsA w v l) (hb : l.length * 8 ≤ 140737488355328) : Calls Try.prog 73 #[v] w fun e w' => e = .returned (.slice (some ⟨w.heap.size, 0, none⟩) l.length l.length) ∧ OwnI w' w.heap.size (.slice (some ⟨w.heap.size, 0, none⟩) l.length l.length) l ∧ w.grownBy w' none := by
  obtain ⟨i0, hi, hz0, hz1, hz2⟩ := info_parts Try.info3i'
  obtain ⟨p, c, rfl, s1⟩ := h.src
  clear h
  obtain ⟨A, hA⟩ : ∃ A, A = ints l := ⟨_, rfl⟩
  have HA1 : Hid (∀ u ∈ A, u.oneCell' = true) := by rw [hA]; exact ints_one l
  have HlA : Hid (A.length = l.length) := by show A.length = _; rw [hA, length_ints]
  rw [← hA] at s1
  have S1 : Hid (0 < l.length → ∃ ad, p = some ad ∧ ∀ j u, A[j]? = some u → w.cell? (Addr.add ad j) = some u) := s1
  have HQ : Hid (A = ints l) := hA
  have Hbb : Hid (i0.bytes * l.length ≤ 281474976710656) := by show i0.bytes * l.length ≤ _; rw [hz2]; omega
  have Hbm : Hid (l.length ≤ maxLen) := by show l.length ≤ maxLen; unfold maxLen; omega
  clear s1 hb hA
  go_enter Try.func73, Try.ntmps73
  go_wp2_with (first | (at_make; refine wpList_make_full _ rfl _ _ 22 rfl w.heap.size 3 i0 _ 1 Try.underlying22 hi hz0 hz1 .i64 .i64 _ _ l.length rfl rfl rfl rfl Hbb.out Hbm.out (Nat.le_refl _) ?_; intro V o1 gv; obtain ⟨Z, hZ, hV⟩ := made_blockK o1; have HZ : Hid (Z.length = l.length * 1) := hZ; have HV : Hid (V.heap[w.heap.size]? = some (.cells Z.toArray 3 (0, 0))) := hV; have HG : Hid (w.grownBy V none) := gv; clear o1 gv hZ hV) | (refine wpl_copyK rfl (.tmp 7) (.tmp 8) 22 22 rfl 3 Try.underlying22 1 (by kernel_rfl) (some ⟨w.heap.size, 0, none⟩) p l.length l.length l.length c rfl rfl w.heap.size 0 Z 3 HV.out A (by rw [HlA.out, Nat.mul_one]; exact (Nat.min_self _).symm) (by decide) (fun h => by have := HlA.out; obtain ⟨ad, e, f⟩ := S1.out (by omega); exact ⟨rfl, ad, e, fun j u hu => HG.out.cell (f j u hu) (by simp)⟩) (by rw [HlA.out, HZ.out]; omega) HA1.out ?_; intro V2 hV2 hG2) | fail)
  go_ret
  have e := hV2.out
  rw [splice_whole (by rw [HZ.out, HlA.out, Nat.mul_one]), HQ.out] at e
  refine ⟨rfl, ?_, grown_own HG.out hG2.out (fun x e => by cases e; exact Nat.le_refl _)⟩
  exact block_ownK e (by rw [length_ints, Nat.mul_one]) Hbm.out
theorem Try.infoT : (Try.prog.info? 38).map (fun i => (i.zero, i.size, i.bytes)) = some (some (.agg #[.int .i64 0, .int .i64 0, .int .u8 0, .int .i64 0, .int .i64 0, .int .i64 0, .int .i64 0, .int .i64 0, .int .i64 0, .int .i64 0, .bool false]), 11, 88) := by kernel_rfl
theorem ThsAt.src {w : World} {v : Value} {ts : List Th} (h : ThsAt w v ts) : ∃ p c, v = .slice p ts.length c ∧ (0 < ts.length → ∃ ad, p = some ad ∧ ∀ j u, (thcs ts)[j]? = some u → w.cell? (Addr.add ad j) = some u) := by
  obtain ⟨p, c, e, _, h⟩ := h
  refine ⟨p, c, e, fun h0 => ?_⟩
  obtain ⟨g, off, e2, h2⟩ := h h0
  refine ⟨_, e2, fun j u hu => ?_⟩
  have hj : j < ts.length * 11 := by have := (List.getElem?_eq_some_iff.1 hu).1; rwa [thcs_len] at this
  have hq : j / 11 < ts.length := by omega
  have e3 : j = j / 11 * 11 + j % 11 := by omega
  have h4 := h2 (j / 11) ts[j / 11] (List.getElem?_eq_getElem hq) (j % 11) u (by
    rw [← thcs_at (List.getElem?_eq_getElem hq) (j % 11) (by omega), ← e3]
    exact hu)
  rw [add_plain, show off + j = off + j / 11 * 11 + j % 11 from by omega]
  exact h4
set_option maxRecDepth 100000 in
set_option maxHeartbeats 2000000 in
theorem ownT_any (v : Value) (l : List Th) (w : World) (h : ThsAt w v l) (hb : l.length ≤ 2048) : Calls Try.prog 40 #[v] w fun e w' => e = .returned (.slice (some ⟨w.heap.size, 0, none⟩) l.length l.length) ∧ OwnT w' w.heap.size (.slice (some ⟨w.heap.size, 0, none⟩) l.length l.length) l ∧ w.grownBy w' none := by
  obtain ⟨i0, hi, hz0, hz1, hz2⟩ := info_parts Try.infoT
  obtain ⟨p, c, rfl, s1⟩ := h.src
  clear h
  obtain ⟨A, hA⟩ : ∃ A, A = thcs l := ⟨_, rfl⟩
  have HA1 : Hid (∀ u ∈ A, u.oneCell' = true) := by rw [hA]; exact thcs_ones l
  have HlA : Hid (A.length = l.length * 11) := by show A.length = _; rw [hA, thcs_len]
  rw [← hA] at s1
  have S1 : Hid (0 < l.length → ∃ ad, p = some ad ∧ ∀ j u, A[j]? = some u → w.cell? (Addr.add ad j) = some u) := s1
  have HQ : Hid (A = thcs l) := hA
  have Hbb : Hid (i0.bytes * l.length ≤ 281474976710656) := by show i0.bytes * l.length ≤ _; rw [hz2]; omega
  have Hbm : Hid (l.length ≤ maxLen) := by show l.length ≤ maxLen; unfold maxLen; omega
  clear s1 hb hA
  go_enter Try.func40, Try.ntmps40
  go_wp2_with (first | (at_make; refine wpList_make_full _ rfl _ _ 29 rfl w.heap.size 38 i0 _ 11 Try.underlying29 hi hz0 hz1 .i64 .i64 _ _ l.length rfl rfl rfl rfl Hbb.out Hbm.out (Nat.le_refl _) ?_; intro V o1 gv; obtain ⟨Z, hZ, hV⟩ := made_blockK o1; have HZ : Hid (Z.length = l.length * 11) := hZ; have HV : Hid (V.heap[w.heap.size]? = some (.cells Z.toArray 38 (0, 0))) := hV; have HG : Hid (w.grownBy V none) := gv; clear o1 gv hZ hV) | (refine wpl_copyK rfl (.tmp 7) (.tmp 8) 29 29 rfl 38 Try.underlying29 11 (by kernel_rfl) (some ⟨w.heap.size, 0, none⟩) p l.length l.length l.length c rfl rfl w.heap.size 0 Z 38 HV.out A (by rw [HlA.out]; exact congrArg (· * 11) (Nat.min_self _).symm) (by decide) (fun h => by have := HlA.out; obtain ⟨ad, e, f⟩ := S1.out (by omega); exact ⟨rfl, ad, e, fun j u hu => HG.out.cell (f j u hu) (by simp)⟩) (by rw [HlA.out, HZ.out]; omega) HA1.out ?_; intro V2 hV2 hG2) | fail)
  go_ret
  have e := hV2.out
  rw [splice_whole (by rw [HZ.out, HlA.out]), HQ.out] at e
  refine ⟨rfl, ?_, grown_own HG.out hG2.out (fun x e => by cases e; exact Nat.le_refl _)⟩
  exact block_ownK e (thcs_len l) Hbm.out
end Go.Proofs.Ytogpgldbbegniaa
