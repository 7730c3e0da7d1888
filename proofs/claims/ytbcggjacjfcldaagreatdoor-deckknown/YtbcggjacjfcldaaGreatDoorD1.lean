/-
  Which decks may be, plainly: number by number; in another order, too.
  Memory, as the proofs of this seat see it: what reading and writing one cell of a block does; that a call touches nothing that was there.
  What the small functions of effect, and of the document's own answer, tell of every number: the class of a verb, what a When wants, which fields are used, the bounds of Count, the layer. Each touches nothing.
-/
import Derived.Test.YtbcggjacjfcldaaGreatDoorD0
import Derived.Test.YtbcggjacjfcldaaGreatDoorProg
import Derived.WalkKit
import Derived.WalkSpells
import Derived.WalkLawsBesides
import Derived.Deep.RegionHeld3
import Derived.BigQuiet
import Derived.OwnWalk
namespace Go.Proofs.YtbcggjacjfcldaaGreatDoor

/-- What is wrong with the number at place i: 6, no card's; 9, a token, or there three times already; 0. -/
def dbad (n : Nat) (tk : Int → Bool) (l : List Int) (i : Nat) : Int := if ¬ (1 ≤ l.getD i 0 ∧ l.getD i 0 ≤ (n : Int)) then 6 else if tk (l.getD i 0) = true ∨ 3 ≤ (l.take i).count (l.getD i 0) then 9 else 0
/-- From place i on: the fault. -/
def dgo (n : Nat) (tk : Int → Bool) (l : List Int) : Nat → Nat → Int × Int
  | 0, _ => (0, 0)
  | f + 1, i => if dbad n tk l i = 0 then dgo n tk l f (i + 1) else (dbad n tk l i, (i : Int))
/-- Check of a sealed book. -/
def dchk (n : Nat) (tk : Int → Bool) (l : List Int) : Int × Int := if l.length < 12 ∨ 40 < l.length then (9, -1) else dgo n tk l l.length 0
theorem dgo_skip {n : Nat} {tk : Int → Bool} {l : List Int} : ∀ (k f i : Nat), (∀ j, i ≤ j → j < i + k → dbad n tk l j = 0) → dgo n tk l (k + f) i = dgo n tk l f (i + k)
  | 0, f, i, _ => by simp
  | k + 1, f, i, h => by
    rw [show k + 1 + f = (k + f) + 1 by omega, dgo, if_pos (h i (Nat.le_refl _) (by omega)), dgo_skip k f (i + 1) (fun j h1 h2 => h j (by omega) (by omega)), show i + 1 + k = i + (k + 1) by omega]
/-- The first place at which something is wrong. -/
theorem dchk_at {n : Nat} {tk : Int → Bool} {l : List Int} {i : Nat} (h1 : 12 ≤ l.length) (h2 : l.length ≤ 40) (hi : i < l.length) (h : ∀ j, j < i → dbad n tk l j = 0) (hb : dbad n tk l i ≠ 0) : dchk n tk l = (dbad n tk l i, (i : Int)) := by
  unfold dchk
  rw [if_neg (by omega), show l.length = i + ((l.length - i - 1) + 1) by omega, dgo_skip i _ 0 (fun j _ hj => h j (by omega)), Nat.zero_add, dgo, if_neg hb]
theorem dchk_ok {n : Nat} {tk : Int → Bool} {l : List Int} (h1 : 12 ≤ l.length) (h2 : l.length ≤ 40) (h : ∀ j, j < l.length → dbad n tk l j = 0) : dchk n tk l = (0, 0) := by
  unfold dchk
  rw [if_neg (by omega), show l.length = l.length + 0 by omega, dgo_skip l.length 0 0 (fun j _ hj => h j (by omega))]
  rfl
theorem cnt_next {l : List Int} {k : Nat} (x : Int) (hk : k < l.length) : (l.take (k + 1)).count x = (l.take k).count x + (if l.getD k 0 = x then 1 else 0) := by
  rw [List.take_add_one, List.getElem?_eq_getElem hk, List.count_append]
  simp [List.getD, hk, List.count_singleton]
theorem cnt_three {l : List Int} (h : ∀ i, i < l.length → (l.take i).count (l.getD i 0) < 3) (x : Int) : l.count x ≤ 3 := by
  have key : ∀ k, k ≤ l.length → (l.take k).count x ≤ 3 := by
    intro k
    induction k with
    | zero => intro _; simp
    | succ k ih =>
      intro hk
      rw [cnt_next x (by omega)]
      by_cases e : l.getD k 0 = x
      · have := h k (by omega)
        rw [e] at this
        rw [if_pos e]
        omega
      · rw [if_neg e]
        exact ih (by omega)
  have := key l.length (Nat.le_refl _)
  rwa [List.take_length] at this
theorem cnt_before {l : List Int} (h : ∀ x, l.count x ≤ 3) {i : Nat} (hi : i < l.length) : (l.take i).count (l.getD i 0) < 3 := by
  have h1 := cnt_next (l := l) (l.getD i 0) hi
  rw [if_pos rfl] at h1
  have h2 : (l.take (i + 1)).count (l.getD i 0) ≤ l.count (l.getD i 0) := List.Sublist.count_le _ (List.take_sublist _ _)
  have h3 := h (l.getD i 0)
  omega
/-- All is well just if each is a card's that is no token, and none stands more than three times. -/
theorem dbad_all {n : Nat} {tk : Int → Bool} {l : List Int} : (∀ j, j < l.length → dbad n tk l j = 0) ↔ (∀ x ∈ l, (1 ≤ x ∧ x ≤ (n : Int)) ∧ tk x = false) ∧ ∀ x, l.count x ≤ 3 := by
  constructor
  · intro h
    have h9 : ∀ j, j < l.length → (1 ≤ l.getD j 0 ∧ l.getD j 0 ≤ (n : Int)) ∧ tk (l.getD j 0) = false ∧ (l.take j).count (l.getD j 0) < 3 := fun j hj => by
      have := h j hj
      unfold dbad at this
      split at this
      · simp at this
      · rename_i h1
        split at this
        · simp at this
        · rename_i h2
          exact ⟨Decidable.not_not.1 h1, by cases hq : tk (l.getD j 0) with
            | false => rfl
            | true => exact absurd (Or.inl hq) h2, by omega⟩
    refine ⟨fun x hx => ?_, cnt_three fun i hi => (h9 i hi).2.2⟩
    obtain ⟨j, hj, rfl⟩ := List.mem_iff_getElem.1 hx
    have := h9 j hj
    rw [show l.getD j 0 = l[j] by simp [List.getD, hj]] at this
    exact ⟨this.1, this.2.1⟩
  · rintro ⟨h1, h2⟩ j hj
    have hm : l.getD j 0 ∈ l := by rw [show l.getD j 0 = l[j] by simp [List.getD, hj]]; exact List.getElem_mem _
    have h3 := cnt_before h2 hj
    unfold dbad
    rw [if_neg (by have := (h1 _ hm).1; omega), if_neg]
    rintro (h4 | h4)
    · rw [(h1 _ hm).2] at h4; cases h4
    · omega
theorem dbad_turned {n : Nat} {tk : Int → Bool} {l m : List Int} (hp : m.Perm l) (h : ∀ j, j < l.length → dbad n tk l j = 0) : ∀ j, j < m.length → dbad n tk m j = 0 := by
  rw [dbad_all] at h ⊢
  exact ⟨fun x hx => h.1 x (hp.mem_iff.1 hx), fun x => by rw [hp.count_eq]; exact h.2 x⟩
/-- A deck that may be, in another order, may be. -/
theorem dchk_turned {n : Nat} {tk : Int → Bool} {l m : List Int} (hp : m.Perm l) (h1 : 12 ≤ l.length) (h2 : l.length ≤ 40) (h : ∀ j, j < l.length → dbad n tk l j = 0) : dchk n tk m = (0, 0) :=
  dchk_ok (by rw [hp.length_eq]; exact h1) (by rw [hp.length_eq]; exact h2) (dbad_turned hp h)
end Go.Proofs.YtbcggjacjfcldaaGreatDoor
namespace Go.Proofs.YtbcggjacjfcldaaGreatDoor
open Go.RowKit

theorem wpl_build {P : Program} {w w1 : World} {ops : Array Oper} {rest : List Oper} {o : Oper} {a : Act} {Q : Exit → Act → World → Prop} (hgd : o.guard = none) (t : TypeId) (parts : Array (Nat × Operand))
    (ho : o.op = .build t parts) (vs : Array (Nat × Value)) (hv : (parts.map fun (i, x) => (i, a.eval x)) = vs) (v : Value) (hrun : (Instr.build t vs).run P w = .ok v w1) (h : wpList P ops Q rest (a.put o.dst v) w1) : wpList P ops Q (o :: rest) a w := by
  refine wpList_plain hgd fun K hK => ?_
  unfold Oper.wp
  simp only [execOp, ho, Sem.run_bind, hv, hrun, Result.andThen_ok]
  exact hK _ _ h
theorem wpl_box {P : Program} {w w1 : World} {ops : Array Oper} {rest : List Oper} {o : Oper} {a : Act} {Q : Exit → Act → World → Prop} (hgd : o.guard = none) (t : TypeId) (x : Operand)
    (ho : o.op = .box t x) (y : Value) (hy : a.eval x = y) (v : Value) (hrun : (Instr.box t y).run P w = .ok v w1) (h : wpList P ops Q rest (a.put o.dst v) w1) : wpList P ops Q (o :: rest) a w := by
  refine wpList_plain hgd fun K hK => ?_
  unfold Oper.wp
  simp only [execOp, ho, Sem.run_bind, hy, hrun, Result.andThen_ok]
  exact hK _ _ h

/-- The numbers of a list, as cells. -/
def ints (l : List Int) : List Value := l.map fun z => Value.int .i64 z
theorem length_ints (l : List Int) : (ints l).length = l.length := by simp [ints]
theorem ints_at (l : List Int) (i : Nat) (h : i < l.length) : (ints l)[i]? = some (.int .i64 (l.getD i 0)) := by
  simp [ints, List.getD, List.getElem?_eq_getElem h]
theorem ints_snoc (l : List Int) (n : Int) : ints (l ++ [n]) = ints l ++ [Value.int .i64 n] := by simp [ints]
theorem ints_take (l : List Int) (n : Nat) : ints (l.take n) = (ints l).take n := by simp [ints, List.map_take]

theorem block_cell {w : World} {b : Nat} {cs : Array Value} {t : TypeId} (h : w.heap[b]? = some (.cells cs t (0, 0))) (i : Nat) : w.cell? ⟨b, i, none⟩ = cs[i]? := by simp [World.cell?, h]
theorem block_free {w : World} {b : Nat} {cs : Array Value} {t : TypeId} (h : w.heap[b]? = some (.cells cs t (0, 0))) (i : Nat) : w.frozen? ⟨b, i, none⟩ = false := by simp [World.frozen?, h]
theorem block_set {w : World} {b : Nat} {cs : Array Value} {t : TypeId} (h : w.heap[b]? = some (.cells cs t (0, 0))) (i : Nat) (v : Value) : (w.setCell ⟨b, i, none⟩ v).heap[b]? = some (.cells (cs.setIfInBounds i v) t (0, 0)) := by
  simp [World.setCell, Array.getElem?_modify, h]
theorem block_lt {w : World} {b : Nat} {o : Obj} (h : w.heap[b]? = some o) : b < w.heap.size := (Array.getElem?_eq_some_iff.1 h).1
theorem grown_refl (w : World) (r : Option Nat) : w.grownBy w r := ⟨rfl, rfl, rfl, Nat.le_refl _, fun _ _ _ => rfl⟩
theorem grown_set (w : World) (b i : Nat) (v : Value) : w.grownBy (w.setCell ⟨b, i, none⟩ v) (some b) :=
  ⟨rfl, rfl, rfl, by simp [World.setCell], fun k _ hk => Below.heap_setCell _ _ _ _ (by simpa using hk)⟩
theorem grown_trans {a b c : World} {r : Option Nat} (h : a.grownBy b r) (k : b.grownBy c r) : a.grownBy c r :=
  ⟨k.os.trans h.os, k.tape.trans h.tape, k.output.trans h.output, Nat.le_trans h.size k.size, fun i hi hr => (k.block i (Nat.lt_of_lt_of_le hi h.size) hr).trans (h.block i hi hr)⟩
theorem grown_keep {a b : World} {r : Option Nat} (h : a.grownBy b r) {k : Nat} {o : Obj} (hk : a.heap[k]? = some o) (hr : some k ≠ r) : b.heap[k]? = some o := by
  rw [h.block k (block_lt hk) hr]; exact hk
theorem grown_drewN (w : World) (n : Nat) (r : Option Nat) : w.grownBy (w.drewN n) r := ⟨rfl, rfl, rfl, Nat.le_refl _, fun _ _ _ => rfl⟩

theorem grown_own {a b c : World} {r : Option Nat} (h : a.grownBy b none) (k : b.grownBy c r) (hr : ∀ x, r = some x → a.heap.size ≤ x) : a.grownBy c none :=
  ⟨k.os.trans h.os, k.tape.trans h.tape, k.output.trans h.output, Nat.le_trans h.size k.size, fun i hi _ => (k.block i (Nat.lt_of_lt_of_le hi h.size) (fun e => by have := hr i e.symm; omega)).trans (h.block i hi (by simp))⟩
theorem getD_lt (l : List Int) (k : Nat) (h : k < l.length) : l.getD k 0 = l[k] := by simp [List.getD, h]
theorem ret_int {k : IntKind} {a b : Int} (h : a = b) : Ending.returned (.int k a) = .returned (.int k b) := by rw [h]
theorem grown_below {w w' : World} (h : w.grownBy w' none) : Below w.heap.size w w' := ⟨h.os, h.tape, h.output, h.size, fun k hk => h.block k hk (by simp)⟩
theorem grown_push {a b : World} (h : a.grownBy b none) (o : Obj) : a.grownBy (b.alloc o) none := grown_own (r := none) h (World.grownBy_alloc _ _ _) (by simp)
theorem alloc_at (w : World) (cs : Array Value) (t : TypeId) : (w.alloc (.cells cs t)).heap[w.heap.size]? = some (.cells cs t (0, 0)) := by
  show (w.heap.push _)[w.heap.size]? = _
  rw [Array.getElem?_push_size]

end Go.Proofs.YtbcggjacjfcldaaGreatDoor
namespace Go.Proofs.YtbcggjacjfcldaaGreatDoor
open Go.RowKit

theorem verb_or (v : Int) : (1 ≤ v ∧ v ≤ 19) ∨ (v < 1 ∨ 19 < v) := by omega
theorem when_or (v : Int) : (1 ≤ v ∧ v ≤ 6) ∨ (v < 1 ∨ 6 < v) := by omega
theorem verb_no {v : Int} (h : v < 1 ∨ 19 < v) : cls v = 0 ∧ uC v = false ∧ uM v = false ∧ uN v = false ∧ lo v = 0 ∧ hi v = 0 ∧ lay v = 0 ∧ abP v = true ∧ (∀ w, uS v w = decide (w = 9)) ∧ ∀ w, uT v w = decide (w = 10) := by
  have hc : cls v = 0 := by
    unfold cls
    rw [if_neg (by omega), if_neg (by omega), if_neg (by omega)]
  have h1 : ¬ v = 1 := by omega
  have h2 : ¬ v = 2 := by omega
  have h3 : ¬ v = 3 := by omega
  have h4 : ¬ v = 4 := by omega
  have h5 : ¬ v = 5 := by omega
  have h6 : ¬ v = 6 := by omega
  have h7 : ¬ v = 7 := by omega
  have h8 : ¬ v = 8 := by omega
  have h9 : ¬ v = 9 := by omega
  have h10 : ¬ v = 10 := by omega
  have h11 : ¬ v = 11 := by omega
  have h12 : ¬ v = 12 := by omega
  have h13 : ¬ v = 13 := by omega
  have h14 : ¬ v = 14 := by omega
  have h15 : ¬ v = 15 := by omega
  have h16 : ¬ v = 16 := by omega
  have h19 : ¬ v = 19 := by omega
  simp [hc, uC, uM, uN, lo, hi, lay, abP, uS, uT, h1, h2, h3, h4, h5, h6, h7, h8, h9, h10, h11, h12, h13, h14, h15, h16, h19]
theorem when_no {v : Int} (h : v < 1 ∨ 6 < v) : wnt v = 0 := by
  unfold wnt
  rw [if_neg (by omega), if_neg (by omega), if_neg (by omega)]
theorem ret_u8 {a b : Int} (h : a = b) : Ending.returned (.int .u8 a) = .returned (.int .u8 b) := by rw [h]
theorem ret_i64 {a b : Int} (h : a = b) : Ending.returned (.int .i64 a) = .returned (.int .i64 b) := by rw [h]
theorem ret_bool {a b : Bool} (h : a = b) : Ending.returned (.bool a) = .returned (.bool b) := by rw [h]
theorem ret_two {a b c d : Int} (h : a = b) (h' : c = d) : Ending.returned (.tuple #[.int .i64 a, .int .i64 c]) = .returned (.tuple #[.int .i64 b, .int .i64 d]) := by rw [h, h']
set_option maxHeartbeats 2000000 in
set_option maxRecDepth 100000 in
theorem classOf_any (v : Int) (w : World) : Calls Tryz.prog 119 #[.int .u8 v] w fun e w' => e = .returned (.int .u8 (cls v)) ∧ w' = w := by
  rcases verb_or v with h | h
  · rcases verb_cases h with rfl | rfl | rfl | rfl | rfl | rfl | rfl | rfl | rfl | rfl | rfl | rfl | rfl | rfl | rfl | rfl | rfl | rfl | rfl
    all_goals
      go_enter Tryz.func119, Tryz.ntmps119
      go_wp2
      go_ret
      exact ⟨ret_u8 (by decide), rfl⟩
  · rw [(verb_no h).1]
    have g1 : (v == 1) = false := by simpa using (show ¬ v = 1 by omega)
    have g2 : (v == 2) = false := by simpa using (show ¬ v = 2 by omega)
    have g3 : (v == 3) = false := by simpa using (show ¬ v = 3 by omega)
    have g4 : (v == 4) = false := by simpa using (show ¬ v = 4 by omega)
    have g5 : (v == 5) = false := by simpa using (show ¬ v = 5 by omega)
    have g6 : (v == 6) = false := by simpa using (show ¬ v = 6 by omega)
    have g7 : (v == 7) = false := by simpa using (show ¬ v = 7 by omega)
    have g8 : (v == 8) = false := by simpa using (show ¬ v = 8 by omega)
    have g9 : (v == 9) = false := by simpa using (show ¬ v = 9 by omega)
    have g10 : (v == 10) = false := by simpa using (show ¬ v = 10 by omega)
    have g11 : (v == 11) = false := by simpa using (show ¬ v = 11 by omega)
    have g12 : (v == 12) = false := by simpa using (show ¬ v = 12 by omega)
    have g13 : (v == 13) = false := by simpa using (show ¬ v = 13 by omega)
    have g14 : (v == 14) = false := by simpa using (show ¬ v = 14 by omega)
    have g15 : (v == 15) = false := by simpa using (show ¬ v = 15 by omega)
    have g16 : (v == 16) = false := by simpa using (show ¬ v = 16 by omega)
    have g17 : (v == 17) = false := by simpa using (show ¬ v = 17 by omega)
    have g18 : (v == 18) = false := by simpa using (show ¬ v = 18 by omega)
    have g19 : (v == 19) = false := by simpa using (show ¬ v = 19 by omega)

    go_enter Tryz.func119, Tryz.ntmps119
    go_wp2
    go_ret
    exact ⟨rfl, rfl⟩
set_option maxHeartbeats 2000000 in
set_option maxRecDepth 100000 in
theorem wantedBy_any (v : Int) (w : World) : Calls Tryz.prog 118 #[.int .u8 v] w fun e w' => e = .returned (.int .u8 (wnt v)) ∧ w' = w := by
  rcases when_or v with h | h
  · rcases six_cases h with rfl | rfl | rfl | rfl | rfl | rfl
    all_goals
      go_enter Tryz.func118, Tryz.ntmps118
      go_wp2
      go_ret
      exact ⟨ret_u8 (by decide), rfl⟩
  · rw [when_no h]
    have g1 : (v == 1) = false := by simpa using (show ¬ v = 1 by omega)
    have g2 : (v == 2) = false := by simpa using (show ¬ v = 2 by omega)
    have g3 : (v == 3) = false := by simpa using (show ¬ v = 3 by omega)
    have g4 : (v == 4) = false := by simpa using (show ¬ v = 4 by omega)
    have g5 : (v == 5) = false := by simpa using (show ¬ v = 5 by omega)
    have g6 : (v == 6) = false := by simpa using (show ¬ v = 6 by omega)

    go_enter Tryz.func118, Tryz.ntmps118
    go_wp2
    go_ret
    exact ⟨rfl, rfl⟩
set_option maxHeartbeats 2000000 in
theorem isWhom_any (v : Int) (w : World) : Calls Tryz.prog 120 #[.int .u8 v] w fun e w' => e = .returned (.bool (isW v)) ∧ w' = w := by
  by_cases h : 1 ≤ v
  · by_cases h' : v ≤ 10
    · go_enter Tryz.func120, Tryz.ntmps120
      go_wp2
      go_ret
      exact ⟨ret_bool (by simp [isW, h, h']), rfl⟩
    · go_enter Tryz.func120, Tryz.ntmps120
      go_wp2
      go_ret
      exact ⟨ret_bool (by simp [isW, h, h']), rfl⟩
  · go_enter Tryz.func120, Tryz.ntmps120
    go_wp2
    go_ret
    exact ⟨ret_bool (by simp [isW]; omega), rfl⟩
set_option maxHeartbeats 2000000 in
set_option maxRecDepth 100000 in
theorem kind_any (v : Int) (w : World) : Calls Tryz.prog 101 #[.int .u8 v] w fun e w' => e = .returned (.int .i64 (cls v)) ∧ w' = w := by
  rcases verb_or v with h | h
  · rcases verb_cases h with rfl | rfl | rfl | rfl | rfl | rfl | rfl | rfl | rfl | rfl | rfl | rfl | rfl | rfl | rfl | rfl | rfl | rfl | rfl
    all_goals
      go_enter Tryz.func101, Tryz.ntmps101
      go_wp2
      go_ret
      exact ⟨ret_i64 (by decide), rfl⟩
  · rw [(verb_no h).1]
    rcases h with h | h

    · have a1 : ¬ 1 ≤ v := by omega
      have a2 : ¬ 10 ≤ v := by omega
      have a3 : ¬ 16 ≤ v := by omega
      go_enter Tryz.func101, Tryz.ntmps101
      go_wp2
      go_ret
      exact ⟨rfl, rfl⟩
    · have a1 : 1 ≤ v := by omega
      have a2 : 10 ≤ v := by omega
      have a3 : 16 ≤ v := by omega
      have b1 : ¬ v ≤ 9 := by omega
      have b2 : ¬ v ≤ 15 := by omega
      have b3 : ¬ v ≤ 19 := by omega
      go_enter Tryz.func101, Tryz.ntmps101
      go_wp2
      go_ret
      exact ⟨rfl, rfl⟩
set_option maxHeartbeats 2000000 in
set_option maxRecDepth 100000 in
theorem wants_any (v : Int) (w : World) : Calls Tryz.prog 102 #[.int .u8 v] w fun e w' => e = .returned (.int .i64 (wnt v)) ∧ w' = w := by
  rcases when_or v with h | h
  · rcases six_cases h with rfl | rfl | rfl | rfl | rfl | rfl
    all_goals
      go_enter Tryz.func102, Tryz.ntmps102
      go_wp2
      go_ret
      exact ⟨ret_i64 (by decide), rfl⟩
  · rw [when_no h]
    rcases h with h | h

    · have a1 : ¬ 1 ≤ v := by omega
      have a2 : (v == 5) = false := by simpa using (show ¬ v = 5 by omega)
      have a3 : (v == 6) = false := by simpa using (show ¬ v = 6 by omega)
      go_enter Tryz.func102, Tryz.ntmps102
      go_wp2
      go_ret
      exact ⟨rfl, rfl⟩
    · have a1 : 1 ≤ v := by omega
      have b1 : ¬ v ≤ 4 := by omega
      have a2 : (v == 5) = false := by simpa using (show ¬ v = 5 by omega)
      have a3 : (v == 6) = false := by simpa using (show ¬ v = 6 by omega)
      go_enter Tryz.func102, Tryz.ntmps102
      go_wp2
      go_ret
      exact ⟨rfl, rfl⟩
set_option maxHeartbeats 2000000 in
set_option maxRecDepth 100000 in
theorem bounds_any (v : Int) (w : World) : Calls Tryz.prog 142 #[.int .u8 v] w fun e w' => e = .returned (.tuple #[.int .i64 (lo v), .int .i64 (hi v)]) ∧ w' = w := by
  rcases verb_or v with h | h
  · rcases verb_cases h with rfl | rfl | rfl | rfl | rfl | rfl | rfl | rfl | rfl | rfl | rfl | rfl | rfl | rfl | rfl | rfl | rfl | rfl | rfl
    all_goals
      go_enter Tryz.func142, Tryz.ntmps142
      go_wp2
      go_ret2
      exact ⟨ret_two (by decide) (by decide), rfl⟩
  · rw [(verb_no h).2.2.2.2.1, (verb_no h).2.2.2.2.2.1]
    have g1 : (v == 1) = false := by simpa using (show ¬ v = 1 by omega)
    have g2 : (v == 2) = false := by simpa using (show ¬ v = 2 by omega)
    have g3 : (v == 3) = false := by simpa using (show ¬ v = 3 by omega)
    have g4 : (v == 4) = false := by simpa using (show ¬ v = 4 by omega)
    have g5 : (v == 5) = false := by simpa using (show ¬ v = 5 by omega)
    have g6 : (v == 6) = false := by simpa using (show ¬ v = 6 by omega)
    have g7 : (v == 7) = false := by simpa using (show ¬ v = 7 by omega)
    have g8 : (v == 8) = false := by simpa using (show ¬ v = 8 by omega)
    have g9 : (v == 9) = false := by simpa using (show ¬ v = 9 by omega)
    have g10 : (v == 10) = false := by simpa using (show ¬ v = 10 by omega)
    have g11 : (v == 11) = false := by simpa using (show ¬ v = 11 by omega)
    have g12 : (v == 12) = false := by simpa using (show ¬ v = 12 by omega)
    have g13 : (v == 13) = false := by simpa using (show ¬ v = 13 by omega)
    have g14 : (v == 14) = false := by simpa using (show ¬ v = 14 by omega)
    have g15 : (v == 15) = false := by simpa using (show ¬ v = 15 by omega)
    have g16 : (v == 16) = false := by simpa using (show ¬ v = 16 by omega)
    have g17 : (v == 17) = false := by simpa using (show ¬ v = 17 by omega)
    have g18 : (v == 18) = false := by simpa using (show ¬ v = 18 by omega)
    have g19 : (v == 19) = false := by simpa using (show ¬ v = 19 by omega)
    go_enter Tryz.func142, Tryz.ntmps142
    go_wp2
    go_ret2
    exact ⟨rfl, rfl⟩
set_option maxHeartbeats 2000000 in
set_option maxRecDepth 100000 in
theorem counts_any (v : Int) (w : World) : Calls Tryz.prog 128 #[.int .u8 v] w fun e w' => e = .returned (.tuple #[.int .i64 (lo v), .int .i64 (hi v)]) ∧ w' = w := by
  rcases verb_or v with h | h
  · rcases verb_cases h with rfl | rfl | rfl | rfl | rfl | rfl | rfl | rfl | rfl | rfl | rfl | rfl | rfl | rfl | rfl | rfl | rfl | rfl | rfl
    all_goals
      go_enter Tryz.func128, Tryz.ntmps128
      go_wp2
      go_ret2
      exact ⟨ret_two (by decide) (by decide), rfl⟩
  · rw [(verb_no h).2.2.2.2.1, (verb_no h).2.2.2.2.2.1]
    have g1 : (v == 1) = false := by simpa using (show ¬ v = 1 by omega)
    have g2 : (v == 2) = false := by simpa using (show ¬ v = 2 by omega)
    have g3 : (v == 3) = false := by simpa using (show ¬ v = 3 by omega)
    have g4 : (v == 4) = false := by simpa using (show ¬ v = 4 by omega)
    have g5 : (v == 5) = false := by simpa using (show ¬ v = 5 by omega)
    have g6 : (v == 6) = false := by simpa using (show ¬ v = 6 by omega)
    have g7 : (v == 7) = false := by simpa using (show ¬ v = 7 by omega)
    have g8 : (v == 8) = false := by simpa using (show ¬ v = 8 by omega)
    have g9 : (v == 9) = false := by simpa using (show ¬ v = 9 by omega)
    have g10 : (v == 10) = false := by simpa using (show ¬ v = 10 by omega)
    have g11 : (v == 11) = false := by simpa using (show ¬ v = 11 by omega)
    have g12 : (v == 12) = false := by simpa using (show ¬ v = 12 by omega)
    have g13 : (v == 13) = false := by simpa using (show ¬ v = 13 by omega)
    have g14 : (v == 14) = false := by simpa using (show ¬ v = 14 by omega)
    have g15 : (v == 15) = false := by simpa using (show ¬ v = 15 by omega)
    have g16 : (v == 16) = false := by simpa using (show ¬ v = 16 by omega)
    have g17 : (v == 17) = false := by simpa using (show ¬ v = 17 by omega)
    have g18 : (v == 18) = false := by simpa using (show ¬ v = 18 by omega)
    have g19 : (v == 19) = false := by simpa using (show ¬ v = 19 by omega)
    go_enter Tryz.func128, Tryz.ntmps128
    go_wp2
    go_ret2
    exact ⟨rfl, rfl⟩
set_option maxHeartbeats 2000000 in
set_option maxRecDepth 100000 in
theorem abP_any (v : Int) (w : World) : Calls Tryz.prog 141 #[.int .u8 v] w fun e w' => e = .returned (.bool (abP v)) ∧ w' = w := by
  rcases verb_or v with h | h
  · rcases verb_cases h with rfl | rfl | rfl | rfl | rfl | rfl | rfl | rfl | rfl | rfl | rfl | rfl | rfl | rfl | rfl | rfl | rfl | rfl | rfl
    all_goals
      go_enter Tryz.func141, Tryz.ntmps141
      go_wp2_with (go_at_call 119; refine (classOf_any _ _).mono ?_; rintro e w1 ⟨rfl, rfl⟩; simp only [cls])
      go_ret
      exact ⟨ret_bool (by decide), rfl⟩
  · rw [(verb_no h).2.2.2.2.2.2.2.1]
    have hc := (verb_no h).1
    have g1 : (v == 1) = false := by simpa using (show ¬ v = 1 by omega)
    have g2 : (v == 2) = false := by simpa using (show ¬ v = 2 by omega)
    have g3 : (v == 3) = false := by simpa using (show ¬ v = 3 by omega)
    have g4 : (v == 4) = false := by simpa using (show ¬ v = 4 by omega)
    have g5 : (v == 5) = false := by simpa using (show ¬ v = 5 by omega)
    have g6 : (v == 6) = false := by simpa using (show ¬ v = 6 by omega)
    have g7 : (v == 7) = false := by simpa using (show ¬ v = 7 by omega)
    have g8 : (v == 8) = false := by simpa using (show ¬ v = 8 by omega)
    have g9 : (v == 9) = false := by simpa using (show ¬ v = 9 by omega)
    have g10 : (v == 10) = false := by simpa using (show ¬ v = 10 by omega)
    have g11 : (v == 11) = false := by simpa using (show ¬ v = 11 by omega)
    have g12 : (v == 12) = false := by simpa using (show ¬ v = 12 by omega)
    have g13 : (v == 13) = false := by simpa using (show ¬ v = 13 by omega)
    have g14 : (v == 14) = false := by simpa using (show ¬ v = 14 by omega)
    have g15 : (v == 15) = false := by simpa using (show ¬ v = 15 by omega)
    have g16 : (v == 16) = false := by simpa using (show ¬ v = 16 by omega)
    have g17 : (v == 17) = false := by simpa using (show ¬ v = 17 by omega)
    have g18 : (v == 18) = false := by simpa using (show ¬ v = 18 by omega)
    have g19 : (v == 19) = false := by simpa using (show ¬ v = 19 by omega)
    go_enter Tryz.func141, Tryz.ntmps141
    go_wp2_with (go_at_call 119; refine (classOf_any _ _).mono ?_; rintro e w1 ⟨rfl, rfl⟩; rw [hc])
    go_ret
    exact ⟨rfl, rfl⟩
end Go.Proofs.YtbcggjacjfcldaaGreatDoor
