/-
  insert: a card is laid at its place.
-/
import Derived.Test.YtpoicbefemjckaaB7
import Derived.Laws.CopyOwn
namespace Go.Proofs.Ytpoicbefemjckaa
open Go.RowKit

/-- copy of rows of nine cells. -/
theorem run_copy9 {P : Program} (w : World) (dT sT ty elem : TypeId) (g o dLen dCap : Nat) (a : Addr) (sLen sCap : Nat) (cur : Array Value) (t : TypeId) (cs : List Value)
    (hu : P.underlying dT = some (.slice elem)) (hs : (P.info? elem).map (·.size) = some 9)
    (hg : w.heap[g]? = some (.cells cur t (0, 0))) (hn : cs.length = Nat.min sLen dLen * 9)
    (hsrc : ∀ j v, cs[j]? = some v → w.cell? (a.add j) = some v) (hfit : o + cs.length ≤ cur.size) (h1 : ∀ v ∈ cs, v.oneCell' = true) :
    (Builtin.copy_ #[dT, sT] ty #[.slice (some ⟨g, o, none⟩) dLen dCap, .slice (some a) sLen sCap]).run P w =
      .ok (goInt (Nat.min sLen dLen)) (w.setRow g (cur.toList.take o ++ cs ++ cur.toList.drop (o + cs.length)).toArray) := by
  have hl := run_loadCells_list (P := P) w a cs hsrc
  have hst := run_storeCells_at P g o t cs 0 cur w hg (by simpa using hfit) h1
  cases hq : P.info? elem with
  | none => simp [hq] at hs
  | some i =>
    have hi : i.size = 9 := by simpa [hq] using hs
    rw [hn] at hl
    simp [Builtin.copy_, run_underlying hu, Builtin.lenOf, Builtin.firstCells, sizeOf, typeInfo, hq, hi, hl, hst]
theorem run_copy9_none {P : Program} (w : World) (dT sT ty elem : TypeId) (d a : Option Addr) (dLen dCap sLen sCap : Nat) (hu : P.underlying dT = some (.slice elem)) (hs : (P.info? elem).map (·.size) = some 9) (hn : Nat.min sLen dLen = 0) :
    (Builtin.copy_ #[dT, sT] ty #[.slice d dLen dCap, .slice a sLen sCap]).run P w = .ok (goInt 0) w := by
  cases hq : P.info? elem with
  | none => simp [hq] at hs
  | some i =>
    have hn' : min sLen dLen = 0 := hn
    cases d <;> cases a <;> simp [Builtin.copy_, run_underlying hu, Builtin.lenOf, Builtin.firstCells, sizeOf, typeInfo, hq, hn', loadCells, loadCellsFrom, storeCells]
theorem grown_row (w : World) (g : Nat) (cs : Array Value) : w.grownBy (w.setRow g cs) (some g) :=
  ⟨rfl, rfl, rfl, by simp [World.setRow], fun k _ hk => setRow_other w g k cs (fun e => hk (by rw [e]))⟩
theorem step_copy9 {P : Program} {ops : Array Oper} {o : Oper} {a : Act} {w : World} {K : Act → World → Prop} {Q : Exit → Act → World → Prop} {E : Prop} (hgd : o.guard = none) (d s : Operand) (dT sT : TypeId)
    (ho : o.op = .call { callee := .builtin .copy, args := #[d, s], argTypes := #[dT, sT] }) (elem : TypeId) (hu : P.underlying dT = some (.slice elem)) (hsz : (P.info? elem).map (·.size) = some 9)
    (dp sp : Option Addr) (dLen dCap sLen sCap : Nat) (hd : a.eval d = .slice dp dLen dCap) (hs : a.eval s = .slice sp sLen sCap)
    (g off : Nat) (cur : List Value) (t : TypeId) (hg : w.heap[g]? = some (.cells cur.toArray t (0, 0))) (cs : List Value) (hn : cs.length = Nat.min sLen dLen * 9)
    (hpos : 0 < cs.length → dp = some ⟨g, off, none⟩ ∧ ∃ ad, sp = some ad ∧ ∀ j v, cs[j]? = some v → w.cell? (ad.add j) = some v)
    (hfit : off + cs.length ≤ cur.length) (h1 : ∀ v ∈ cs, v.oneCell' = true)
    (h : ∀ w', Hid (w'.heap[g]? = some (.cells (splice cur off cs).toArray t (0, 0))) → Hid (w.grownBy w' (some g)) → K (a.put o.dst (goInt (Nat.min sLen dLen))) w') :
    if Region.wanted o (yielded ops a.tmps) = true then Oper.wp P o a w K Q else E := by
  have hw : Region.wanted o (yielded ops a.tmps) = true := by simp [Region.wanted, hgd]
  rw [if_pos hw]
  by_cases h0 : cs.length = 0
  · obtain rfl : cs = [] := List.eq_nil_of_length_eq_zero h0
    have hz : Nat.min sLen dLen = 0 := by simp only [List.length_nil] at hn; omega
    have hrun := run_copy9_none (P := P) w dT sT o.type elem dp sp dLen dCap sLen sCap hu hsz hz
    rw [hz] at h
    unfold Oper.wp
    simp [execOp, ho, resolve, invoke, builtin, hd, hs, hrun, Result.andThen]
    exact h w (show _ = _ by simpa [splice] using hg) (grown_refl _ _)
  · obtain ⟨rfl, ad, rfl, hsrc⟩ := hpos (by omega)
    have hrun := run_copy9 (P := P) w dT sT o.type elem g off dLen dCap ad sLen sCap cur.toArray t cs hu hsz hg hn hsrc (by simpa using hfit) h1
    unfold Oper.wp
    simp [execOp, ho, resolve, invoke, builtin, hd, hs, hrun, Result.andThen]
    exact h _ (show _ = _ by simpa [splice] using setRow_heap w g _ _ t _ hg) (grown_row _ _ _)
theorem ecells_one : ∀ (es : List Ent), Slc es → ∀ u ∈ ecells es, u.oneCell' = true
  | [], _, u, h => by simp [ecells] at h
  | e :: r, hs, u, h => by
    rcases List.mem_append.1 h with h | h
    · obtain ⟨a, n, c, hv⟩ := hs e (by simp)
      simp only [cvs, List.mem_cons, List.not_mem_nil, or_false] at h
      rcases h with rfl | rfl | rfl | rfl | rfl | rfl | rfl | rfl | rfl <;> first | rfl | (rw [hv]; rfl)
    · exact ecells_one r (fun x hx => hs x (by simp [hx])) u h
theorem nine_of {α : Type} {X : List α} (h : X.length = 9) : ∃ a b c d e f g i j, X = [a, b, c, d, e, f, g, i, j] := by
  match X, h with
  | [a, b, c, d, e, f, g, i, j], _ => exact ⟨a, b, c, d, e, f, g, i, j, rfl⟩
theorem set_nine (A X B : List Value) (n : Nat) (hA : A.length = n) (hX : X.length = 9) (x0 x1 x2 x3 x4 x5 x6 x7 x8 : Value) : (((((((((A ++ (X ++ B)).set n x0).set (n + 1) x1).set (n + 2) x2).set (n + 3) x3).set (n + 4) x4).set (n + 5) x5).set (n + 6) x6).set (n + 7) x7).set (n + 8) x8 = A ++ ([x0, x1, x2, x3, x4, x5, x6, x7, x8] ++ B) := by
  obtain ⟨a, b, c, d, e, f, g, i, j, rfl⟩ := nine_of hX
  subst hA
  simp [List.set_append_right]
theorem set9_block {w : World} {b : Nat} {A X B : List Value} {t : TypeId} (h : w.heap[b]? = some (.cells (A ++ (X ++ B)).toArray t (0, 0))) (n : Nat) (hA : A.length = n) (hX : X.length = 9) (c : Hd) (v : Value) : (set9 w b n c v).heap[b]? = some (.cells (A ++ (cvs c v ++ B)).toArray t (0, 0)) := by
  have e0 := block_set h (n) (.string c.nm)
  rw [List.setIfInBounds_toArray] at e0
  have e1 := block_set e0 (n + 1) (.int .u8 c.su)
  rw [List.setIfInBounds_toArray] at e1
  have e2 := block_set e1 (n + 2) (.int .u8 c.kd)
  rw [List.setIfInBounds_toArray] at e2
  have e3 := block_set e2 (n + 3) (.int .i64 c.co)
  rw [List.setIfInBounds_toArray] at e3
  have e4 := block_set e3 (n + 4) (.int .i64 c.po)
  rw [List.setIfInBounds_toArray] at e4
  have e5 := block_set e4 (n + 5) (.int .i64 c.he)
  rw [List.setIfInBounds_toArray] at e5
  have e6 := block_set e5 (n + 6) (.int .u16 c.tr)
  rw [List.setIfInBounds_toArray] at e6
  have e7 := block_set e6 (n + 7) (.bool c.tk)
  rw [List.setIfInBounds_toArray] at e7
  have e8 := block_set e7 (n + 8) (v)
  rw [List.setIfInBounds_toArray] at e8
  rw [set_nine A X B n hA hX] at e8
  exact e8
/-- Behind the copy: what stood from place m on stands one place on. -/
theorem splice_cards (es : List Ent) (junk T : List Value) (m : Nat) (hm : m ≤ es.length) (hj : 9 ≤ junk.length) : ∃ X, X.length = 9 ∧ splice (ecells es ++ (junk ++ T)) ((m + 1) * 9) (ecells (es.drop m)) = ecells (es.take m) ++ (X ++ (ecells (es.drop m) ++ (junk.drop 9 ++ T))) := by
  obtain ⟨E1, h1⟩ : ∃ E1, E1 = es.take m := ⟨_, rfl⟩
  obtain ⟨E2, h2⟩ : ∃ E2, E2 = es.drop m := ⟨_, rfl⟩
  have he : es = E1 ++ E2 := by rw [h1, h2, List.take_append_drop]
  have l1 : E1.length = m := by rw [h1, List.length_take]; omega
  rw [← h1, ← h2]
  clear h1 h2
  subst he
  subst l1
  rw [ecells_app]
  refine ⟨(ecells E2 ++ junk).take 9, by rw [List.length_take, List.length_append]; omega, ?_⟩
  unfold splice
  have t1 : (ecells E1 ++ ecells E2 ++ (junk ++ T)).take ((E1.length + 1) * 9) = ecells E1 ++ (ecells E2 ++ junk).take 9 := by
    rw [show ecells E1 ++ ecells E2 ++ (junk ++ T) = ecells E1 ++ ((ecells E2 ++ junk) ++ T) by simp, List.take_append, ecells_len]
    rw [List.take_of_length_le (by rw [ecells_len]; omega)]
    rw [show (E1.length + 1) * 9 - E1.length * 9 = 9 by omega]
    rw [List.take_append_of_le_length (by rw [List.length_append]; omega)]
  have t2 : (ecells E1 ++ ecells E2 ++ (junk ++ T)).drop ((E1.length + 1) * 9 + (ecells E2).length) = junk.drop 9 ++ T := by
    rw [show ecells E1 ++ ecells E2 ++ (junk ++ T) = (ecells E1 ++ ecells E2) ++ (junk ++ T) by simp, List.drop_append, List.drop_of_length_le (by rw [List.length_append, ecells_len, ecells_len]; omega)]
    rw [List.length_append, ecells_len, ecells_len, show (E1.length + 1) * 9 + E2.length * 9 - (E1.length * 9 + E2.length * 9) = 9 by omega]
    rw [List.nil_append, List.drop_append_of_le_length hj]
  rw [t1, t2]
  simp
end Go.Proofs.Ytpoicbefemjckaa
