/-
  ApartParts of lists that lie in blocks of their own answers true: each place holds what was written there.
-/
import Derived.Test.YtbcggjacjfcldaaGreatDoorD25
import Derived.Deep.AppendLies
import Derived.Deep.RegionHeld3
import Derived.Maps.RangeWalk
namespace Go.Proofs.YtbcggjacjfcldaaGreatDoor
open Go.RowKit

/-- Nothing old has turned but the blocks of S. -/
structure Kpt (S : List Nat) (w w' : World) : Prop where
  os : w'.os = w.os
  tape : w'.tape = w.tape
  output : w'.output = w.output
  size : w.heap.size ≤ w'.heap.size
  block : ∀ k, k < w.heap.size → k ∉ S → w'.heap[k]? = w.heap[k]?
theorem Kpt.refl (S : List Nat) (w : World) : Kpt S w w := ⟨rfl, rfl, rfl, Nat.le_refl _, fun _ _ _ => rfl⟩
theorem Kpt.trans {S T : List Nat} {a b c : World} (h : Kpt S a b) (k : Kpt T b c) (hT : ∀ x, x ∈ T → x ∈ S ∨ a.heap.size ≤ x) : Kpt S a c :=
  ⟨k.os.trans h.os, k.tape.trans h.tape, k.output.trans h.output, Nat.le_trans h.size k.size, fun i hi hs => (k.block i (Nat.lt_of_lt_of_le hi h.size) (fun e => by rcases hT i e with h1 | h1; exact hs h1; omega)).trans (h.block i hi hs)⟩
theorem Kpt.of_grown {w w' : World} {r : Option Nat} (h : w.grownBy w' r) : Kpt r.toList w w' :=
  ⟨h.os, h.tape, h.output, h.size, fun k hk hs => h.block k hk (fun e => hs (by rw [← e]; simp))⟩
theorem Kpt.mono {S T : List Nat} {a b : World} (h : Kpt S a b) (hS : ∀ x, x ∈ S → x ∈ T) : Kpt T a b :=
  ⟨h.os, h.tape, h.output, h.size, fun k hk hs => h.block k hk (fun e => hs (hS k e))⟩
theorem Kpt.cell {S : List Nat} {a b : World} (h : Kpt S a b) {p : Addr} {v : Value} (hc : a.cell? p = some v) (hp : p.block ∉ S) : b.cell? p = some v := by
  rw [World.cell?_of_block (h.block p.block (World.block_lt_of_cell? _ _ hc) hp)]; exact hc
theorem Kpt.grow {S : List Nat} {a b c : World} (h : Kpt S a b) (g : b.grownBy c none) : Kpt S a c := h.trans (Kpt.of_grown g) (by simp)
theorem Kpt.new {S : List Nat} {a b c : World} (g : a.grownBy b none) (h : Kpt S b c) (hS : ∀ x, x ∈ S → a.heap.size ≤ x) : a.grownBy c none :=
  ⟨h.os.trans g.os, h.tape.trans g.tape, h.output.trans g.output, Nat.le_trans g.size h.size, fun k hk _ => (h.block k (Nat.lt_of_lt_of_le hk g.size) (fun e => by have := hS k e; omega)).trans (g.block k hk (by simp))⟩
theorem RoomAt.eight {w : World} {g cap m : Nat} (h : RoomAt w g cap) (hm : m < cap) : ∃ v0 v1 v2 v3 v4 v5 v6 v7, w.cell? ⟨g, m * 8, none⟩ = some v0 ∧ w.cell? ⟨g, m * 8 + 1, none⟩ = some v1 ∧ w.cell? ⟨g, m * 8 + 2, none⟩ = some v2 ∧ w.cell? ⟨g, m * 8 + 3, none⟩ = some v3 ∧ w.cell? ⟨g, m * 8 + 4, none⟩ = some v4 ∧ w.cell? ⟨g, m * 8 + 5, none⟩ = some v5 ∧ w.cell? ⟨g, m * 8 + 6, none⟩ = some v6 ∧ w.cell? ⟨g, m * 8 + 7, none⟩ = some v7 := by
  obtain ⟨v0, e0⟩ := h.cell (i := m * 8) (by omega)
  obtain ⟨v1, e1⟩ := h.cell (i := m * 8 + 1) (by omega)
  obtain ⟨v2, e2⟩ := h.cell (i := m * 8 + 2) (by omega)
  obtain ⟨v3, e3⟩ := h.cell (i := m * 8 + 3) (by omega)
  obtain ⟨v4, e4⟩ := h.cell (i := m * 8 + 4) (by omega)
  obtain ⟨v5, e5⟩ := h.cell (i := m * 8 + 5) (by omega)
  obtain ⟨v6, e6⟩ := h.cell (i := m * 8 + 6) (by omega)
  obtain ⟨v7, e7⟩ := h.cell (i := m * 8 + 7) (by omega)
  exact ⟨v0, v1, v2, v3, v4, v5, v6, v7, e0, e1, e2, e3, e4, e5, e6, e7⟩
/-- A list: its block, its length, its room. -/
structure Lst where
  a : Option Nat
  n : Nat
  cap : Nat
def Lst.v (x : Lst) : Value := .slice (x.a.map fun g => ⟨g, 0, none⟩) x.n x.cap
def Lst.f (x : Lst) : Value := .slice (x.a.map fun g => ⟨g, 0, none⟩) x.cap x.cap
def Lst.ok (w : World) (x : Lst) : Prop := (x.a = none ∧ x.n = 0 ∧ x.cap = 0) ∨ ∃ g, x.a = some g ∧ x.n ≤ x.cap ∧ lim x.cap ∧ RoomAt w g x.cap
def blocks (T : List Lst) : List Nat := T.filterMap Lst.a
theorem mem_blocks {T : List Lst} {j g : Nat} {x : Lst} (h : T[j]? = some x) (hg : x.a = some g) : g ∈ blocks T := List.mem_filterMap.2 ⟨x, List.mem_of_getElem? h, hg⟩
/-- No two lie in one block. -/
def Diff (T : List Lst) : Prop := ∀ (i j : Nat) (x y : Lst) (g : Nat), T[i]? = some x → T[j]? = some y → x.a = some g → y.a = some g → i = j
def fcells (T : List Lst) : List Value := T.map Lst.f
theorem fcells_snoc {T : List Lst} {k : Nat} {x : Lst} (h : T[k]? = some x) : fcells (T.take (k + 1)) = fcells (T.take k) ++ [x.f] := by
  rw [List.take_add_one, h]
  simp [fcells]
/-- The lists, marked so far: those before i, and of list i the first k places. -/
def Mkd (w : World) (T : List Lst) (i k : Nat) : Prop := ∀ (j : Nat) (x : Lst) (g : Nat), T[j]? = some x → x.a = some g → ∃ cs, w.heap[g]? = some (.cells cs 109 (0, 0)) ∧ cs.size = x.cap * 8 ∧ ∀ m, m < x.cap → (j < i ∨ (j = i ∧ m < k)) → ∀ (c : Nat) u, (pvs (mkM j m))[c]? = some u → cs[m * 8 + c]? = some u
theorem Mkd.keep {w w' : World} {T : List Lst} {i k : Nat} (M : Mkd w T i k) (g : w.grownBy w' none) : Mkd w' T i k := fun j x b hj hb => by
  obtain ⟨cs, h1, h2⟩ := M j x b hj hb
  exact ⟨cs, grown_keep g h1 (by simp), h2⟩
theorem mk_start {w w' : World} {T : List Lst} (D : ∀ x ∈ T, x.ok w) (g : w.grownBy w' none) : Mkd w' T 0 0 := fun j x b hj hb => by
  rcases D x (List.mem_of_getElem? hj) with ⟨h, _⟩ | ⟨g', h, _, _, cs, h1, h2⟩
  · rw [h] at hb; cases hb
  · rw [h] at hb
    obtain rfl := Option.some.inj hb
    exact ⟨cs, grown_keep g h1 (by simp), h2, fun m _ h => by omega⟩
theorem Mkd.room {w : World} {T : List Lst} {i k j g : Nat} {x : Lst} (M : Mkd w T i k) (hj : T[j]? = some x) (hg : x.a = some g) : RoomAt w g x.cap := by
  obtain ⟨cs, h1, h2, _⟩ := M j x g hj hg
  exact ⟨cs, h1, h2⟩
theorem Mkd.read {w : World} {T : List Lst} {g : Nat} {j : Nat} {x : Lst} (M : Mkd w T T.length 0) (hj : T[j]? = some x) (hg : x.a = some g) {m : Nat} (hm : m < x.cap) : P8 w g (m * 8) (mkM j m) := by
  obtain ⟨cs, h1, h2, h3⟩ := M j x g hj hg
  have hl := (List.getElem?_eq_some_iff.1 hj).1
  have f := h3 m hm (Or.inl hl)
  have e : ∀ c u, (pvs (mkM j m))[c]? = some u → w.cell? ⟨g, m * 8 + c, none⟩ = some u := fun c u hu => by rw [block_cell h1]; exact f c u hu
  exact ⟨e 0 _ rfl, e 1 _ rfl, e 2 _ rfl, e 3 _ rfl, e 4 _ rfl, e 5 _ rfl, e 6 _ rfl, e 7 _ rfl⟩
/-- A part is written at place m of block g. -/
def put8 (w : World) (g o : Nat) (p : Pt) : World := (((((((w.setCell ⟨g, o, none⟩ (.int .u8 p.wn)).setCell ⟨g, o + 1, none⟩ (.int .u8 p.vb)).setCell ⟨g, o + 2, none⟩ (.int .u8 p.wm)).setCell ⟨g, o + 3, none⟩ (.int .i64 p.ct)).setCell ⟨g, o + 4, none⟩ (.int .u8 p.su)).setCell ⟨g, o + 5, none⟩ (.int .u8 p.tr)).setCell ⟨g, o + 6, none⟩ (.int .u8 p.mr)).setCell ⟨g, o + 7, none⟩ (.string p.nm)
def arr8 (cs : Array Value) (o : Nat) (p : Pt) : Array Value := (((((((cs.setIfInBounds o (.int .u8 p.wn)).setIfInBounds (o + 1) (.int .u8 p.vb)).setIfInBounds (o + 2) (.int .u8 p.wm)).setIfInBounds (o + 3) (.int .i64 p.ct)).setIfInBounds (o + 4) (.int .u8 p.su)).setIfInBounds (o + 5) (.int .u8 p.tr)).setIfInBounds (o + 6) (.int .u8 p.mr)).setIfInBounds (o + 7) (.string p.nm)
theorem put8_block {w : World} {g : Nat} {cs : Array Value} (h : w.heap[g]? = some (.cells cs 109 (0, 0))) (o : Nat) (p : Pt) : (put8 w g o p).heap[g]? = some (.cells (arr8 cs o p) 109 (0, 0)) :=
  block_set (block_set (block_set (block_set (block_set (block_set (block_set (block_set h _ _) _ _) _ _) _ _) _ _) _ _) _ _) _ _
theorem put8_grown (w : World) (g o : Nat) (p : Pt) : w.grownBy (put8 w g o p) (some g) :=
  grown_trans (grown_trans (grown_trans (grown_trans (grown_trans (grown_trans (grown_trans (grown_set _ _ _ _) (grown_set _ _ _ _)) (grown_set _ _ _ _)) (grown_set _ _ _ _)) (grown_set _ _ _ _)) (grown_set _ _ _ _)) (grown_set _ _ _ _)) (grown_set _ _ _ _)
theorem arr8_size (cs : Array Value) (o : Nat) (p : Pt) : (arr8 cs o p).size = cs.size := by simp [arr8]
theorem arr8_else {cs : Array Value} {o i : Nat} {p : Pt} (h : i < o ∨ o + 8 ≤ i) : (arr8 cs o p)[i]? = cs[i]? := by
  unfold arr8
  rw [Array.getElem?_setIfInBounds_ne (by omega), Array.getElem?_setIfInBounds_ne (by omega), Array.getElem?_setIfInBounds_ne (by omega), Array.getElem?_setIfInBounds_ne (by omega), Array.getElem?_setIfInBounds_ne (by omega), Array.getElem?_setIfInBounds_ne (by omega), Array.getElem?_setIfInBounds_ne (by omega), Array.getElem?_setIfInBounds_ne (by omega)]
theorem arr8_in {cs : Array Value} {o c : Nat} {p : Pt} {u : Value} (h : o + 8 ≤ cs.size) (hu : (pvs p)[c]? = some u) : (arr8 cs o p)[o + c]? = some u := by
  have hc : c < 8 := (List.getElem?_eq_some_iff.1 hu).1
  rcases (show c = 0 ∨ c = 1 ∨ c = 2 ∨ c = 3 ∨ c = 4 ∨ c = 5 ∨ c = 6 ∨ c = 7 from by omega) with rfl | rfl | rfl | rfl | rfl | rfl | rfl | rfl
  all_goals
    simp only [pvs, List.getElem?_cons_zero, List.getElem?_cons_succ, Option.some.injEq] at hu
    subst hu
    simp [arr8, Array.getElem?_setIfInBounds]
    omega
theorem Mkd.step {w : World} {T : List Lst} {i k g : Nat} {x : Lst} (M : Mkd w T i k) (hD : Diff T) (hi : T[i]? = some x) (hg : x.a = some g) (hk : k < x.cap) : Mkd (put8 w g (k * 8) (mkM i k)) T i (k + 1) := fun j y b hj hb => by
  obtain ⟨cs, h1, h2, h3⟩ := M j y b hj hb
  by_cases e : b = g
  · subst e
    obtain rfl := hD j i y x b hj hi hb hg
    obtain rfl : y = x := Option.some.inj (hj.symm.trans hi)
    refine ⟨arr8 cs (k * 8) (mkM j k), put8_block h1 _ _, by rw [arr8_size]; exact h2, fun m hm h c u hu => ?_⟩
    have hc : c < 8 := (List.getElem?_eq_some_iff.1 hu).1
    by_cases em : m = k
    · subst em
      exact arr8_in (by omega) hu
    · rw [arr8_else (by omega)]
      exact h3 m hm (by omega) c u hu
  · refine ⟨cs, grown_keep (put8_grown w g _ _) h1 (by simpa using e), h2, fun m hm h => h3 m hm ?_⟩
    by_cases ej : j = i
    · subst ej
      obtain rfl : y = x := Option.some.inj (hj.symm.trans hi)
      rw [hg] at hb
      exact absurd (Option.some.inj hb).symm e
    · omega
theorem Mkd.next {w : World} {T : List Lst} {i k : Nat} {x : Lst} (M : Mkd w T i k) (hi : T[i]? = some x) (hk : x.cap ≤ k) : Mkd w T (i + 1) 0 := fun j y b hj hb => by
  obtain ⟨cs, h1, h2, h3⟩ := M j y b hj hb
  refine ⟨cs, h1, h2, fun m hm h => h3 m hm ?_⟩
  by_cases e : j = i
  · subst e
    obtain rfl : y = x := Option.some.inj (hj.symm.trans hi)
    omega
  · omega
theorem Tryz.info53 : (Tryz.prog.info? 53).map (fun i => (i.zero, i.size, i.bytes)) = some (some (.slice none 0 0), 1, 24) := by kernel_rfl
theorem own_above {w : World} {base : Nat} {e : TypeId} {size n : Nat} {v : Value} {xs : List Value} (h : w.ownsRow base e size v n xs) : ∀ x, v.ownBlock = some x → base ≤ x := by
  obtain ⟨h1, h2⟩ := h
  intro x hx
  rcases h2 with ⟨rfl, _⟩ | ⟨g, cap, cur, rfl, hg0, _⟩
  · simp [Value.ownBlock] at hx
  · simp [Value.ownBlock] at hx; omega
theorem row_of_own {w : World} {base : Nat} {v : Value} {T : List Lst} (h : w.ownsRow base 53 1 v T.length (fcells T)) (h0 : 0 < T.length) : ∃ g cap, v = .slice (some ⟨g, 0, none⟩) T.length cap ∧ base ≤ g ∧ (∀ (j : Nat) x, T[j]? = some x → w.cell? ⟨g, j, none⟩ = some x.f) ∧ ∃ cs, w.heap[g]? = some (.cells cs 53 (0, 0)) := by
  obtain ⟨h1, h2⟩ := h
  rcases h2 with ⟨rfl, e⟩ | ⟨g, cap, cur, rfl, hg0, hh, hn, hm, hs, ht⟩
  · omega
  · refine ⟨g, cap, rfl, hg0, fun j x hj => ?_, cur, hh⟩
    have hl := (List.getElem?_eq_some_iff.1 hj).1
    have e : (fcells T)[j]? = some x.f := by unfold fcells; rw [List.getElem?_map, hj]; rfl
    rw [block_cell hh, ← e, ← ht, List.getElem?_take, if_pos (by omega)]
    simp
theorem small_len {n : Nat} (h : n ≤ 4294967296) : n ≤ maxLen := by unfold maxLen; omega
theorem neq_same (p0 p1 p2 p3 p4 p5 p6 : Int) (p7 : ByteArray) (w : World) : (binOp .neq 109 (.agg #[.int .u8 p0, .int .u8 p1, .int .u8 p2, .int .i64 p3, .int .u8 p4, .int .u8 p5, .int .u8 p6, .string p7]) (.agg #[.int .u8 p0, .int .u8 p1, .int .u8 p2, .int .i64 p3, .int .u8 p4, .int .u8 p5, .int .u8 p6, .string p7])).run Tryz.prog w = .ok (.bool false) w := by
  have := neq_part p0 p1 p2 p3 p4 p5 p6 p7 p0 p1 p2 p3 p4 p5 p6 p7
  rw [samep_yes rfl] at this
  exact this _
def S12 (ga k g xc : Nat) (w : World) : Prop := w.cell? ⟨ga, k, none⟩ = some (.slice (some ⟨g, 0, none⟩) xc xc)
theorem S12.c {ga k g xc : Nat} {w : World} (h : S12 ga k g xc w) : w.cell? ⟨ga, k, none⟩ = some (.slice (some ⟨g, 0, none⟩) xc xc) := h
def S19 (ga k g xc m : Nat) (w : World) : Prop := w.cell? ⟨ga, k, none⟩ = some (.slice (some ⟨g, 0, none⟩) xc xc) ∧ P8 w g (m * 8) (mkM k m)
theorem S19.c {ga k g xc m : Nat} {w : World} (h : S19 ga k g xc m w) : w.cell? ⟨ga, k, none⟩ = some (.slice (some ⟨g, 0, none⟩) xc xc) := h.1
theorem S19.p {ga k g xc m : Nat} {w : World} (h : S19 ga k g xc m w) : P8 w g (m * 8) (mkM k m) := h.2
end Go.Proofs.YtbcggjacjfcldaaGreatDoor
