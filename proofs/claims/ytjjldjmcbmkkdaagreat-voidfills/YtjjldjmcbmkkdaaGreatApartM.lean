/-
  ApartMarks of lists that lie in blocks of their own answers true: each place holds what was written there.
-/
import Derived.Test.YtjjldjmcbmkkdaaGreatApart
import Derived.Laws.StructEq
namespace Go.Proofs.YtjjldjmcbmkkdaaGreat
open Go.RowKit

def RoomM (w : World) (g cap : Nat) : Prop := ∃ cs, w.heap[g]? = some (.cells cs 45 (0, 0)) ∧ cs.size = cap * 4
theorem RoomM.cell {w : World} {g cap : Nat} (h : RoomM w g cap) {i : Nat} (hi : i < cap * 4) : ∃ u, w.cell? ⟨g, i, none⟩ = some u := by
  obtain ⟨cs, h1, h2⟩ := h
  exact ⟨_, by rw [block_cell h1]; exact Array.getElem?_eq_getElem (by omega)⟩
theorem RoomM.free {w : World} {g cap : Nat} (h : RoomM w g cap) (i : Nat) : w.frozen? ⟨g, i, none⟩ = false := by
  obtain ⟨cs, h1, h2⟩ := h
  exact block_free h1 i
theorem RoomM.four {w : World} {g cap m : Nat} (h : RoomM w g cap) (hm : m < cap) : ∃ v0 v1 v2 v3, w.cell? ⟨g, m * 4, none⟩ = some v0 ∧ w.cell? ⟨g, m * 4 + 1, none⟩ = some v1 ∧ w.cell? ⟨g, m * 4 + 2, none⟩ = some v2 ∧ w.cell? ⟨g, m * 4 + 3, none⟩ = some v3 := by
  obtain ⟨v0, e0⟩ := h.cell (i := m * 4) (by omega)
  obtain ⟨v1, e1⟩ := h.cell (i := m * 4 + 1) (by omega)
  obtain ⟨v2, e2⟩ := h.cell (i := m * 4 + 2) (by omega)
  obtain ⟨v3, e3⟩ := h.cell (i := m * 4 + 3) (by omega)
  exact ⟨v0, v1, v2, v3, e0, e1, e2, e3⟩
def mkMM (i k : Int) : Mk := ⟨0, ⟨#[]⟩, wrap64 (wrap64 (-i) - 1), k⟩
theorem eqg_mark (op : BinOp) (x y : Operand) (xs ys : Array Value) (w : World) : (eqGuard op 45 x y (.agg xs) (.agg ys)).run Tryz.prog w = .ok () w := run_eqGuard_agg w op 45 x y xs ys (by kernel_rfl)
theorem neq_mark (a0 a2 a3 : Int) (s : ByteArray) (w : World) : (binOp .neq 45 (.agg #[.int .u8 a0, .string s, .int .i64 a2, .int .i64 a3]) (.agg #[.int .u8 a0, .string s, .int .i64 a2, .int .i64 a3])).run Tryz.prog w = .ok (.bool false) w := by
  have hS : Tryz.prog.underlying 45 = some (.struct (Tryz.prog.fieldsOf 45)) := by kernel_rfl
  have hp : Tryz.prog.stoodInHeld 45 = false := by kernel_rfl
  have u3 := Tryz.underlying3
  have i3 := Tryz.isAgg3
  have z3 := Tryz.sizeOf3
  have u9 := Tryz.underlying9
  have i9 := Tryz.isAgg9
  have z9 := Tryz.sizeOf9
  have u28 := Tryz.underlying43
  have i28 := Tryz.isAgg43
  have z28 := Tryz.sizeOf43
  rw [run_neq_struct, show (10000 : Nat) = 9999 + 1 from rfl, run_equalIn_agg w 9999 45 _ _ hS hp]
  simp only [Program.fieldsOf, Tryz.underlying45]
  go_simp
def Lst.okM (w : World) (x : Lst) : Prop := (x.a = none ∧ x.n = 0 ∧ x.cap = 0) ∨ ∃ g, x.a = some g ∧ x.n ≤ x.cap ∧ lim x.cap ∧ RoomM w g x.cap
/-- The lists, marked so far: those before i, and of list i the first k places. -/
def MkM (w : World) (T : List Lst) (i k : Nat) : Prop := ∀ (j : Nat) (x : Lst) (g : Nat), T[j]? = some x → x.a = some g → ∃ cs, w.heap[g]? = some (.cells cs 45 (0, 0)) ∧ cs.size = x.cap * 4 ∧ ∀ m, m < x.cap → (j < i ∨ (j = i ∧ m < k)) → ∀ (c : Nat) u, (mvs (mkMM j m))[c]? = some u → cs[m * 4 + c]? = some u
theorem MkM.keep {w w' : World} {T : List Lst} {i k : Nat} (M : MkM w T i k) (g : w.grownBy w' none) : MkM w' T i k := fun j x b hj hb => by
  obtain ⟨cs, h1, h2⟩ := M j x b hj hb
  exact ⟨cs, grown_keep g h1 (by simp), h2⟩
theorem mkM_start {w w' : World} {T : List Lst} (D : ∀ x ∈ T, x.okM w) (g : w.grownBy w' none) : MkM w' T 0 0 := fun j x b hj hb => by
  rcases D x (List.mem_of_getElem? hj) with ⟨h, _⟩ | ⟨g', h, _, _, cs, h1, h2⟩
  · rw [h] at hb; cases hb
  · rw [h] at hb
    obtain rfl := Option.some.inj hb
    exact ⟨cs, grown_keep g h1 (by simp), h2, fun m _ h => by omega⟩
theorem MkM.room {w : World} {T : List Lst} {i k j g : Nat} {x : Lst} (M : MkM w T i k) (hj : T[j]? = some x) (hg : x.a = some g) : RoomM w g x.cap := by
  obtain ⟨cs, h1, h2, _⟩ := M j x g hj hg
  exact ⟨cs, h1, h2⟩
theorem MkM.read {w : World} {T : List Lst} {g : Nat} {j : Nat} {x : Lst} (M : MkM w T T.length 0) (hj : T[j]? = some x) (hg : x.a = some g) {m : Nat} (hm : m < x.cap) : M4 w g (m * 4) (mkMM j m) := by
  obtain ⟨cs, h1, h2, h3⟩ := M j x g hj hg
  have hl := (List.getElem?_eq_some_iff.1 hj).1
  have f := h3 m hm (Or.inl hl)
  have e : ∀ c u, (mvs (mkMM j m))[c]? = some u → w.cell? ⟨g, m * 4 + c, none⟩ = some u := fun c u hu => by rw [block_cell h1]; exact f c u hu
  exact ⟨e 0 _ rfl, e 1 _ rfl, e 2 _ rfl, e 3 _ rfl⟩
/-- A mark is written at place m of block g. -/
def putM (w : World) (g o : Nat) (p : Mk) : World := (((w.setCell ⟨g, o, none⟩ (.int .u8 p.mi)).setCell ⟨g, o + 1, none⟩ (.string p.nm)).setCell ⟨g, o + 2, none⟩ (.int .i64 p.po)).setCell ⟨g, o + 3, none⟩ (.int .i64 p.he)
def arrM (cs : Array Value) (o : Nat) (p : Mk) : Array Value := (((cs.setIfInBounds o (.int .u8 p.mi)).setIfInBounds (o + 1) (.string p.nm)).setIfInBounds (o + 2) (.int .i64 p.po)).setIfInBounds (o + 3) (.int .i64 p.he)
theorem putM_block {w : World} {g : Nat} {cs : Array Value} (h : w.heap[g]? = some (.cells cs 45 (0, 0))) (o : Nat) (p : Mk) : (putM w g o p).heap[g]? = some (.cells (arrM cs o p) 45 (0, 0)) :=
  block_set (block_set (block_set (block_set h _ _) _ _) _ _) _ _
theorem putM_grown (w : World) (g o : Nat) (p : Mk) : w.grownBy (putM w g o p) (some g) :=
  grown_trans (grown_trans (grown_trans (grown_set _ _ _ _) (grown_set _ _ _ _)) (grown_set _ _ _ _)) (grown_set _ _ _ _)
theorem arrM_size (cs : Array Value) (o : Nat) (p : Mk) : (arrM cs o p).size = cs.size := by simp [arrM]
theorem arrM_else {cs : Array Value} {o i : Nat} {p : Mk} (h : i < o ∨ o + 4 ≤ i) : (arrM cs o p)[i]? = cs[i]? := by
  unfold arrM
  rw [Array.getElem?_setIfInBounds_ne (by omega), Array.getElem?_setIfInBounds_ne (by omega), Array.getElem?_setIfInBounds_ne (by omega), Array.getElem?_setIfInBounds_ne (by omega)]
theorem arrM_in {cs : Array Value} {o c : Nat} {p : Mk} {u : Value} (h : o + 4 ≤ cs.size) (hu : (mvs p)[c]? = some u) : (arrM cs o p)[o + c]? = some u := by
  have hc : c < 4 := (List.getElem?_eq_some_iff.1 hu).1
  rcases (show c = 0 ∨ c = 1 ∨ c = 2 ∨ c = 3 from by omega) with rfl | rfl | rfl | rfl
  all_goals
    simp only [mvs, List.getElem?_cons_zero, List.getElem?_cons_succ, Option.some.injEq] at hu
    subst hu
    simp [arrM, Array.getElem?_setIfInBounds]
    omega
theorem MkM.step {w : World} {T : List Lst} {i k g : Nat} {x : Lst} (M : MkM w T i k) (hD : Diff T) (hi : T[i]? = some x) (hg : x.a = some g) (hk : k < x.cap) : MkM (putM w g (k * 4) (mkMM i k)) T i (k + 1) := fun j y b hj hb => by
  obtain ⟨cs, h1, h2, h3⟩ := M j y b hj hb
  by_cases e : b = g
  · subst e
    obtain rfl := hD j i y x b hj hi hb hg
    obtain rfl : y = x := Option.some.inj (hj.symm.trans hi)
    refine ⟨arrM cs (k * 4) (mkMM j k), putM_block h1 _ _, by rw [arrM_size]; exact h2, fun m hm h c u hu => ?_⟩
    have hc : c < 4 := (List.getElem?_eq_some_iff.1 hu).1
    by_cases em : m = k
    · subst em
      exact arrM_in (by omega) hu
    · rw [arrM_else (by omega)]
      exact h3 m hm (by omega) c u hu
  · refine ⟨cs, grown_keep (putM_grown w g _ _) h1 (by simpa using e), h2, fun m hm h => h3 m hm ?_⟩
    by_cases ej : j = i
    · subst ej
      obtain rfl : y = x := Option.some.inj (hj.symm.trans hi)
      rw [hg] at hb
      exact absurd (Option.some.inj hb).symm e
    · omega
theorem MkM.next {w : World} {T : List Lst} {i k : Nat} {x : Lst} (M : MkM w T i k) (hi : T[i]? = some x) (hk : x.cap ≤ k) : MkM w T (i + 1) 0 := fun j y b hj hb => by
  obtain ⟨cs, h1, h2, h3⟩ := M j y b hj hb
  refine ⟨cs, h1, h2, fun m hm h => h3 m hm ?_⟩
  by_cases e : j = i
  · subst e
    obtain rfl : y = x := Option.some.inj (hj.symm.trans hi)
    omega
  · omega
theorem Tryz.info38 : (Tryz.prog.info? 38).map (fun i => (i.zero, i.size, i.bytes)) = some (some (.slice none 0 0), 1, 24) := by kernel_rfl
theorem rowM_of_own {w : World} {base : Nat} {v : Value} {T : List Lst} (h : w.ownsRow base 38 1 v T.length (fcells T)) (h0 : 0 < T.length) : ∃ g cap, v = .slice (some ⟨g, 0, none⟩) T.length cap ∧ base ≤ g ∧ (∀ (j : Nat) x, T[j]? = some x → w.cell? ⟨g, j, none⟩ = some x.f) ∧ ∃ cs, w.heap[g]? = some (.cells cs 38 (0, 0)) := by
  obtain ⟨h1, h2⟩ := h
  rcases h2 with ⟨rfl, e⟩ | ⟨g, cap, cur, rfl, hg0, hh, hn, hm, hs, ht⟩
  · omega
  · refine ⟨g, cap, rfl, hg0, fun j x hj => ?_, cur, hh⟩
    have hl := (List.getElem?_eq_some_iff.1 hj).1
    have e : (fcells T)[j]? = some x.f := by unfold fcells; rw [List.getElem?_map, hj]; rfl
    rw [block_cell hh, ← e, ← ht, List.getElem?_take, if_pos (by omega)]
    simp
def S12M (ga k g xc : Nat) (w : World) : Prop := w.cell? ⟨ga, k, none⟩ = some (.slice (some ⟨g, 0, none⟩) xc xc)
theorem S12M.c {ga k g xc : Nat} {w : World} (h : S12M ga k g xc w) : w.cell? ⟨ga, k, none⟩ = some (.slice (some ⟨g, 0, none⟩) xc xc) := h
def S19M (ga k g xc m : Nat) (w : World) : Prop := w.cell? ⟨ga, k, none⟩ = some (.slice (some ⟨g, 0, none⟩) xc xc) ∧ M4 w g (m * 4) (mkMM k m)
theorem S19M.c {ga k g xc m : Nat} {w : World} (h : S19M ga k g xc m w) : w.cell? ⟨ga, k, none⟩ = some (.slice (some ⟨g, 0, none⟩) xc xc) := h.1
theorem S19M.p {ga k g xc m : Nat} {w : World} (h : S19M ga k g xc m w) : M4 w g (m * 4) (mkMM k m) := h.2
end Go.Proofs.YtjjldjmcbmkkdaaGreat
