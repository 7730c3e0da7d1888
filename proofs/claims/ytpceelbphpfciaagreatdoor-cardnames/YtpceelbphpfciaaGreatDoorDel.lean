/-
  The fields that are used: slices.DeleteFunc over the five fields of effect's fieldsOf leaves just those with the flag, in their order. The library's own text is walked.
-/
import Derived.Test.YtpceelbphpfciaaGreatDoorEq
import Derived.Laws.CopyRow
import Derived.Laws.EntriesVeiled
namespace Go.Proofs.YtpceelbphpfciaaGreatDoor
open Go.RowKit

/-- The function that tells a field's word, and the one that reads it. -/
def tf : Nat → Value
  | 0 => .func (.func 116) #[] #[]
  | 1 => .func (.func 118) #[] #[]
  | 2 => .func (.func 120) #[] #[]
  | 3 => .func (.func 122) #[] #[]
  | _ => .func (.func 124) #[] #[]
def rf : Nat → Value
  | 0 => .func (.func 117) #[] #[]
  | 1 => .func (.func 119) #[] #[]
  | 2 => .func (.func 121) #[] #[]
  | 3 => .func (.func 123) #[] #[]
  | _ => .func (.func 125) #[] #[]
/-- The five fields, in memory. -/
def orig (f : Nat → Bool) : Array Value := #[.bool (f 0), .func (.func 116) #[] #[], .func (.func 117) #[] #[], .bool (f 1), .func (.func 118) #[] #[], .func (.func 119) #[] #[], .bool (f 2), .func (.func 120) #[] #[], .func (.func 121) #[] #[], .bool (f 3), .func (.func 122) #[] #[], .func (.func 123) #[] #[], .bool (f 4), .func (.func 124) #[] #[], .func (.func 125) #[] #[]]
def FAt (w : World) (b : Nat) (f : Nat → Bool) : Prop := w.heap[b]? = some (.cells (orig f) 101 (0, 0))
theorem FAt.keep {w w' : World} {b : Nat} {f : Nat → Bool} (h : FAt w b f) (g : w.grownBy w' none) : FAt w' b f := grown_keep g h (by simp)
set_option maxHeartbeats 1000000 in
theorem unused_any (x : Bool) (y z : Value) (w : World) : Calls Tryz.prog 127 #[.agg #[.bool x, y, z]] w fun e w' => e = .returned (.bool (!x)) ∧ w.grownBy w' none := by
  go_enter Tryz.func127, Tryz.ntmps127
  go_wp2
  go_ret
  exact ⟨rfl, World.grownBy_alloc _ _ _⟩
/-- The first field that is not used. -/
def firstNo (f : Nat → Bool) : Int := if f 0 = false then 0 else if f 1 = false then 1 else if f 2 = false then 2 else if f 3 = false then 3 else if f 4 = false then 4 else -1
set_option maxHeartbeats 4000000 in
set_option maxRecDepth 100000 in
theorem index_any (f : Nat → Bool) (b : Nat) (w : World) (F : FAt w b f) : Calls Tryz.prog 157 #[.slice (some ⟨b, 0, none⟩) 5 5, .func (.func 127) #[] #[]] w fun e w' => e = .returned (.int .i64 (firstNo f)) ∧ w.grownBy w' none := by
  go_enter Tryz.func157, Tryz.ntmps157
  go_wp2_with fail
  go_loopw [8] (fun t wr => ∃ j : Nat, j ≤ 5 ∧ t = .int .i64 j ∧ (∀ m, m < j → f m = true) ∧ w.grownBy wr none) (fun t _ => 5 - (intOf t).toNat)
  case atStart => exact ⟨0, by omega, rfl, fun m hm => absurd hm (by omega), grown_refl _ _⟩
  case round =>
    obtain ⟨j, hj, rfl, ha, G⟩ := hrel
    have F1 := F.keep G
    have HG : Hid (w.grownBy wr none) := G
    have HA : Hid (∀ m, m < j → f m = true) := ha
    clear G ha
    rcases (show j = 0 ∨ j = 1 ∨ j = 2 ∨ j = 3 ∨ j = 4 ∨ j = 5 from by omega) with rfl | rfl | rfl | rfl | rfl | rfl
    · have c0 : wr.cell? ⟨b, 0, none⟩ = some (.bool (f 0)) := block_cell F1 0
      have c1 : wr.cell? ⟨b, 1, none⟩ = some (.func (.func 116) #[] #[]) := block_cell F1 1
      have c2 : wr.cell? ⟨b, 2, none⟩ = some (.func (.func 117) #[] #[]) := block_cell F1 2
      clear F1
      cases hf : f 0 with
      | true =>
        rw [hf] at c0
        go_wp2_with (go_at_call 127; refine (unused_any _ _ _ _).mono ?_; rintro e W1 ⟨rfl, g⟩; simp only [Bool.not_true])
        go_roundw
        case rel => exact ⟨1, by omega, by go_num, fun m hm => by
          rcases (show m < 0 ∨ m = 0 from by omega) with h | rfl
          · exact HA.out m h
          · exact hf, grown_trans HG.out g⟩
        case measure => simp [intOf]
      | false =>
        rw [hf] at c0
        go_wp2_with (go_at_call 127; refine (unused_any _ _ _ _).mono ?_; rintro e W1 ⟨rfl, g⟩; simp only [Bool.not_false])
        go_ret
        exact ⟨ret_i64 (by simp [firstNo, hf]), grown_trans HG.out g⟩
    · have c0 : wr.cell? ⟨b, 3, none⟩ = some (.bool (f 1)) := block_cell F1 3
      have c1 : wr.cell? ⟨b, 4, none⟩ = some (.func (.func 118) #[] #[]) := block_cell F1 4
      have c2 : wr.cell? ⟨b, 5, none⟩ = some (.func (.func 119) #[] #[]) := block_cell F1 5
      clear F1
      cases hf : f 1 with
      | true =>
        rw [hf] at c0
        go_wp2_with (go_at_call 127; refine (unused_any _ _ _ _).mono ?_; rintro e W1 ⟨rfl, g⟩; simp only [Bool.not_true])
        go_roundw
        case rel => exact ⟨2, by omega, by go_num, fun m hm => by
          rcases (show m < 1 ∨ m = 1 from by omega) with h | rfl
          · exact HA.out m h
          · exact hf, grown_trans HG.out g⟩
        case measure => simp [intOf]
      | false =>
        rw [hf] at c0
        go_wp2_with (go_at_call 127; refine (unused_any _ _ _ _).mono ?_; rintro e W1 ⟨rfl, g⟩; simp only [Bool.not_false])
        go_ret
        exact ⟨ret_i64 (by simp [firstNo, hf, HA.out 0 (by omega)]), grown_trans HG.out g⟩
    · have c0 : wr.cell? ⟨b, 6, none⟩ = some (.bool (f 2)) := block_cell F1 6
      have c1 : wr.cell? ⟨b, 7, none⟩ = some (.func (.func 120) #[] #[]) := block_cell F1 7
      have c2 : wr.cell? ⟨b, 8, none⟩ = some (.func (.func 121) #[] #[]) := block_cell F1 8
      clear F1
      cases hf : f 2 with
      | true =>
        rw [hf] at c0
        go_wp2_with (go_at_call 127; refine (unused_any _ _ _ _).mono ?_; rintro e W1 ⟨rfl, g⟩; simp only [Bool.not_true])
        go_roundw
        case rel => exact ⟨3, by omega, by go_num, fun m hm => by
          rcases (show m < 2 ∨ m = 2 from by omega) with h | rfl
          · exact HA.out m h
          · exact hf, grown_trans HG.out g⟩
        case measure => simp [intOf]
      | false =>
        rw [hf] at c0
        go_wp2_with (go_at_call 127; refine (unused_any _ _ _ _).mono ?_; rintro e W1 ⟨rfl, g⟩; simp only [Bool.not_false])
        go_ret
        exact ⟨ret_i64 (by simp [firstNo, hf, HA.out 0 (by omega), HA.out 1 (by omega)]), grown_trans HG.out g⟩
    · have c0 : wr.cell? ⟨b, 9, none⟩ = some (.bool (f 3)) := block_cell F1 9
      have c1 : wr.cell? ⟨b, 10, none⟩ = some (.func (.func 122) #[] #[]) := block_cell F1 10
      have c2 : wr.cell? ⟨b, 11, none⟩ = some (.func (.func 123) #[] #[]) := block_cell F1 11
      clear F1
      cases hf : f 3 with
      | true =>
        rw [hf] at c0
        go_wp2_with (go_at_call 127; refine (unused_any _ _ _ _).mono ?_; rintro e W1 ⟨rfl, g⟩; simp only [Bool.not_true])
        go_roundw
        case rel => exact ⟨4, by omega, by go_num, fun m hm => by
          rcases (show m < 3 ∨ m = 3 from by omega) with h | rfl
          · exact HA.out m h
          · exact hf, grown_trans HG.out g⟩
        case measure => simp [intOf]
      | false =>
        rw [hf] at c0
        go_wp2_with (go_at_call 127; refine (unused_any _ _ _ _).mono ?_; rintro e W1 ⟨rfl, g⟩; simp only [Bool.not_false])
        go_ret
        exact ⟨ret_i64 (by simp [firstNo, hf, HA.out 0 (by omega), HA.out 1 (by omega), HA.out 2 (by omega)]), grown_trans HG.out g⟩
    · have c0 : wr.cell? ⟨b, 12, none⟩ = some (.bool (f 4)) := block_cell F1 12
      have c1 : wr.cell? ⟨b, 13, none⟩ = some (.func (.func 124) #[] #[]) := block_cell F1 13
      have c2 : wr.cell? ⟨b, 14, none⟩ = some (.func (.func 125) #[] #[]) := block_cell F1 14
      clear F1
      cases hf : f 4 with
      | true =>
        rw [hf] at c0
        go_wp2_with (go_at_call 127; refine (unused_any _ _ _ _).mono ?_; rintro e W1 ⟨rfl, g⟩; simp only [Bool.not_true])
        go_roundw
        case rel => exact ⟨5, by omega, by go_num, fun m hm => by
          rcases (show m < 4 ∨ m = 4 from by omega) with h | rfl
          · exact HA.out m h
          · exact hf, grown_trans HG.out g⟩
        case measure => simp [intOf]
      | false =>
        rw [hf] at c0
        go_wp2_with (go_at_call 127; refine (unused_any _ _ _ _).mono ?_; rintro e W1 ⟨rfl, g⟩; simp only [Bool.not_false])
        go_ret
        exact ⟨ret_i64 (by simp [firstNo, hf, HA.out 0 (by omega), HA.out 1 (by omega), HA.out 2 (by omega), HA.out 3 (by omega)]), grown_trans HG.out g⟩
    · go_wp2
      go_ret
      exact ⟨ret_i64 (by simp [firstNo, HA.out 0 (by omega), HA.out 1 (by omega), HA.out 2 (by omega), HA.out 3 (by omega), HA.out 4 (by omega)]), HG.out⟩
/-- The fields with the flag among the first j. -/
def keptL (f : Nat → Bool) (j : Nat) : List Nat := (List.range j).filter f
theorem kept_in {f : Nat → Bool} {j : Nat} (h : f j = true) : keptL f (j + 1) = keptL f j ++ [j] := by simp [keptL, List.range_succ, List.filter_append, h]
theorem kept_out {f : Nat → Bool} {j : Nat} (h : f j = false) : keptL f (j + 1) = keptL f j := by simp [keptL, List.range_succ, List.filter_append, h]
theorem kept_all {f : Nat → Bool} : ∀ j, (∀ m, m < j → f m = true) → keptL f j = List.range j
  | 0, _ => rfl
  | j + 1, h => by rw [kept_in (h j (by omega)), kept_all j (fun m hm => h m (by omega)), List.range_succ]
/-- While it goes: i fields are kept of the first j. -/
structure DelIn (w : World) (b : Nat) (f : Nat → Bool) (i j : Nat) (cs : Array Value) : Prop where
  hb : w.heap[b]? = some (.cells cs 101 (0, 0))
  sz : cs.size = 15
  kept : ∀ m k, (keptL f j)[m]? = some k → cs[3 * m]? = some (.bool true) ∧ cs[3 * m + 1]? = some (tf k) ∧ cs[3 * m + 2]? = some (rf k)
  rest : ∀ m, i ≤ m → m < 5 → cs[3 * m]? = some (.bool (f m)) ∧ cs[3 * m + 1]? = some (tf m) ∧ cs[3 * m + 2]? = some (rf m)
  len : (keptL f j).length = i
theorem DelIn.start {w : World} {b : Nat} {f : Nat → Bool} {i : Nat} (F : FAt w b f) (hi : i < 5) (ha : ∀ m, m < i → f m = true) (hn : f i = false) : DelIn w b f i (i + 1) (orig f) := by
  have ok : ∀ m, m < 5 → (orig f)[3 * m]? = some (.bool (f m)) ∧ (orig f)[3 * m + 1]? = some (tf m) ∧ (orig f)[3 * m + 2]? = some (rf m) := by
    intro m hm
    rcases (show m = 0 ∨ m = 1 ∨ m = 2 ∨ m = 3 ∨ m = 4 from by omega) with rfl | rfl | rfl | rfl | rfl <;> exact ⟨rfl, rfl, rfl⟩
  refine ⟨F, rfl, ?_, fun m _ hm => ok m hm, ?_⟩
  · intro m k hk
    rw [kept_out hn, kept_all i ha] at hk
    have h1 := (List.getElem?_eq_some_iff.1 hk)
    obtain ⟨h1, h2⟩ := h1
    simp at h1 h2
    subst h2
    have := ok m (by omega)
    rw [ha m h1] at this
    exact this
  · rw [kept_out hn, kept_all i ha]; simp
theorem DelIn.keep {w w' : World} {b : Nat} {f : Nat → Bool} {i j : Nat} {cs : Array Value} (D : DelIn w b f i j cs) (g : w.grownBy w' none) : DelIn w' b f i j cs :=
  ⟨grown_keep g D.hb (by simp), D.sz, D.kept, D.rest, D.len⟩
theorem DelIn.out {w : World} {b : Nat} {f : Nat → Bool} {i j : Nat} {cs : Array Value} (D : DelIn w b f i j cs) (h : f j = false) : DelIn w b f i (j + 1) cs :=
  ⟨D.hb, D.sz, by rw [kept_out h]; exact D.kept, D.rest, by rw [kept_out h]; exact D.len⟩
theorem set_three {cs : Array Value} {a : Nat} (h : a + 2 < cs.size) (x y z : Value) (p : Nat) : (((cs.setIfInBounds a x).setIfInBounds (a + 1) y).setIfInBounds (a + 2) z)[p]? = if p = a then some x else if p = a + 1 then some y else if p = a + 2 then some z else cs[p]? := by
  by_cases h0 : p = a
  · subst h0; simp [Array.getElem?_setIfInBounds]; omega
  · by_cases h1 : p = a + 1
    · subst h1; simp [Array.getElem?_setIfInBounds]; omega
    · by_cases h2 : p = a + 2
      · subst h2; simp [Array.getElem?_setIfInBounds]; omega
      · simp [h0, h1, h2, Ne.symm h0, Ne.symm h1, Ne.symm h2]
theorem DelIn.into {w : World} {b : Nat} {f : Nat → Bool} {i j : Nat} {cs : Array Value} (D : DelIn w b f i j cs) (hij : i < j) (hj : j < 5) (h : f j = true) :
    DelIn (((w.setCell ⟨b, 3 * i, none⟩ (.bool true)).setCell ⟨b, 3 * i + 1, none⟩ (tf j)).setCell ⟨b, 3 * i + 2, none⟩ (rf j)) b f (i + 1) (j + 1) (((cs.setIfInBounds (3 * i) (.bool true)).setIfInBounds (3 * i + 1) (tf j)).setIfInBounds (3 * i + 2) (rf j)) := by
  have hz := D.sz
  have e := set_three (cs := cs) (a := 3 * i) (by omega) (.bool true) (tf j) (rf j)
  refine ⟨block_set (block_set (block_set D.hb _ _) _ _) _ _, by simp [hz], ?_, ?_, ?_⟩
  · intro m k hk
    rw [kept_in h] at hk
    have hl := D.len
    rw [e, e, e]
    by_cases hm : m = i
    · subst hm
      rw [List.getElem?_append_right (by omega)] at hk
      rw [hl] at hk
      simp at hk
      subst hk
      simp
    · have hm2 := (List.getElem?_eq_some_iff.1 hk).1
      rw [List.length_append, hl] at hm2
      simp at hm2
      rw [List.getElem?_append_left (by omega)] at hk
      rw [if_neg (by omega), if_neg (by omega), if_neg (by omega), if_neg (by omega), if_neg (by omega), if_neg (by omega), if_neg (by omega), if_neg (by omega), if_neg (by omega)]
      exact D.kept m k hk
  · intro m h1 h2
    rw [e, e, e]
    rw [if_neg (by omega), if_neg (by omega), if_neg (by omega), if_neg (by omega), if_neg (by omega), if_neg (by omega), if_neg (by omega), if_neg (by omega), if_neg (by omega)]
    exact D.rest m (by omega) h2
  · rw [kept_in h, List.length_append, D.len]; rfl
/-- The fields that are left, in memory. -/
structure KAt (w : World) (b : Nat) (ks : List Nat) : Prop where
  lt : b < w.heap.size
  at_ : ∀ m k, ks[m]? = some k → w.cell? ⟨b, 3 * m, none⟩ = some (.bool true) ∧ w.cell? ⟨b, 3 * m + 1, none⟩ = some (tf k) ∧ w.cell? ⟨b, 3 * m + 2, none⟩ = some (rf k)
theorem KAt.keep {w w' : World} {b : Nat} {ks : List Nat} (h : KAt w b ks) (g : w.grownBy w' none) : KAt w' b ks :=
  ⟨Nat.lt_of_lt_of_le h.lt g.size, fun m k hk => ⟨g.cell (h.at_ m k hk).1 (by simp), g.cell (h.at_ m k hk).2.1 (by simp), g.cell (h.at_ m k hk).2.2 (by simp)⟩⟩
/-- What clear lays. -/
def blank : Nat → List Value
  | 0 => []
  | n + 1 => .bool false :: .nilFunc :: .nilFunc :: blank n
theorem blank_one : ∀ n, ∀ v ∈ blank n, v.oneCell' = true
  | 0, _, h => by simp [blank] at h
  | n + 1, v, h => by
    simp only [blank, List.mem_cons] at h
    rcases h with rfl | rfl | rfl | h
    · rfl
    · rfl
    · rfl
    · exact blank_one n v h
theorem blank_length : ∀ n, (blank n).length = 3 * n
  | 0 => rfl
  | n + 1 => by simp [blank, blank_length n]; omega
theorem clear_run {w : World} {b i n : Nat} {cs : Array Value} (hb : w.heap[b]? = some (.cells cs 101 (0, 0))) (hz : cs.size = 15) (hi : i + n = 5) (hn : 0 < n) (c : Nat) (ty : TypeId)
    (he : (Builtin.zeroCells #[.bool false, .nilFunc, .nilFunc] n).toList = blank n) :
    (Builtin.clear_ #[97] ty #[.slice (some ⟨b, 3 * i, none⟩) n c]).run Tryz.prog w = .ok (.tuple #[]) (w.setRow b (cs.toList.take (3 * i) ++ blank n ++ cs.toList.drop (3 * i + 3 * n)).toArray) := by
  have ht : Tryz.prog.underlying 97 = some (.slice 101) := Tryz.underlying97
  have hst := run_storeCells_at (P := Tryz.prog) b (3 * i) 101 (blank n) 0 cs w hb (by rw [blank_length, hz]; omega) (blank_one n)
  simp only [Nat.add_zero, blank_length] at hst
  obtain ⟨m, rfl⟩ : ∃ m, n = m + 1 := ⟨n - 1, by omega⟩
  simp [Builtin.clear_, run_underlying ht, Value.cells, he, hst]
theorem DelIn.clear {w : World} {b : Nat} {f : Nat → Bool} {i : Nat} {cs : Array Value} (D : DelIn w b f i 5 cs) (hi : i < 5) :
    KAt (w.setRow b (cs.toList.take (3 * i) ++ blank (5 - i) ++ cs.toList.drop (3 * i + 3 * (5 - i))).toArray) b (keptL f 5) ∧ w.grownBy (w.setRow b (cs.toList.take (3 * i) ++ blank (5 - i) ++ cs.toList.drop (3 * i + 3 * (5 - i))).toArray) (some b) := by
  have hh := setRow_heap w b cs (cs.toList.take (3 * i) ++ blank (5 - i) ++ cs.toList.drop (3 * i + 3 * (5 - i))).toArray 101 (0, 0) D.hb
  have hz := D.sz
  refine ⟨⟨block_lt hh, fun m k hk => ?_⟩, ⟨rfl, rfl, rfl, by simp, fun k _ hk => setRow_other _ _ _ _ (fun e => hk (by rw [e]))⟩⟩
  have hm := (List.getElem?_eq_some_iff.1 hk).1
  rw [D.len] at hm
  have old : ∀ q, q < 3 * i → (cs.toList.take (3 * i) ++ blank (5 - i) ++ cs.toList.drop (3 * i + 3 * (5 - i))).toArray[q]? = cs[q]? := by
    intro q hq
    have hl : (cs.toList.take (3 * i)).length = 3 * i := by
      rw [List.length_take, Array.length_toList, hz]
      omega
    rw [List.getElem?_toArray, List.append_assoc, List.getElem?_append_left (by omega), List.getElem?_take, if_pos hq, Array.getElem?_toList]
  rw [block_cell hh, block_cell hh, block_cell hh, old _ (by omega), old _ (by omega), old _ (by omega)]
  exact D.kept m k hk
theorem first_all {f : Nat → Bool} (h : ∀ m, m < 5 → f m = true) : firstNo f = -1 := by
  simp [firstNo, h 0 (by omega), h 1 (by omega), h 2 (by omega), h 3 (by omega), h 4 (by omega)]
theorem first_at {f : Nat → Bool} {i : Nat} (hi : i < 5) (h : ∀ m, m < i → f m = true) (hn : f i = false) : firstNo f = i := by
  rcases (show i = 0 ∨ i = 1 ∨ i = 2 ∨ i = 3 ∨ i = 4 from by omega) with rfl | rfl | rfl | rfl | rfl
  · simp [firstNo, hn]
  · simp [firstNo, hn, h 0 (by omega)]
  · simp [firstNo, hn, h 0 (by omega), h 1 (by omega)]
  · simp [firstNo, hn, h 0 (by omega), h 1 (by omega), h 2 (by omega)]
  · simp [firstNo, hn, h 0 (by omega), h 1 (by omega), h 2 (by omega), h 3 (by omega)]
theorem first_or (f : Nat → Bool) : (∀ m, m < 5 → f m = true) ∨ ∃ i, i < 5 ∧ (∀ m, m < i → f m = true) ∧ f i = false := by
  have go : ∀ n, (∀ m, m < n → f m = true) ∨ ∃ i, i < n ∧ (∀ m, m < i → f m = true) ∧ f i = false := by
    intro n
    induction n with
    | zero => exact Or.inl (fun m hm => absurd hm (by omega))
    | succ n ih =>
      rcases ih with h | ⟨i, hi, h1, h2⟩
      · cases hf : f n with
        | true => exact Or.inl (fun m hm => by
            rcases (show m < n ∨ m = n from by omega) with h' | rfl
            · exact h m h'
            · exact hf)
        | false => exact Or.inr ⟨n, by omega, h, hf⟩
      · exact Or.inr ⟨i, by omega, h1, h2⟩
  exact go 5
theorem zeros_1 : (Builtin.zeroCells #[.bool false, .nilFunc, .nilFunc] 1).toList = blank 1 := by kernel_rfl
theorem zeros_2 : (Builtin.zeroCells #[.bool false, .nilFunc, .nilFunc] 2).toList = blank 2 := by kernel_rfl
theorem zeros_3 : (Builtin.zeroCells #[.bool false, .nilFunc, .nilFunc] 3).toList = blank 3 := by kernel_rfl
theorem zeros_4 : (Builtin.zeroCells #[.bool false, .nilFunc, .nilFunc] 4).toList = blank 4 := by kernel_rfl
theorem zeros_5 : (Builtin.zeroCells #[.bool false, .nilFunc, .nilFunc] 5).toList = blank 5 := by kernel_rfl
set_option maxHeartbeats 8000000 in
set_option maxRecDepth 100000 in
theorem delete_any (f : Nat → Bool) (b : Nat) (w : World) (F : FAt w b f) : Calls Tryz.prog 126 #[.slice (some ⟨b, 0, none⟩) 5 5, .func (.func 127) #[] #[]] w fun e w' => e = .returned (.slice (some ⟨b, 0, none⟩) (keptL f 5).length 5) ∧ KAt w' b (keptL f 5) ∧ w.grownBy w' (some b) := by
  rcases first_or f with ha | ⟨i0, hi0, ha, hn⟩
  · have hlen : (keptL f 5).length = 5 := by rw [kept_all 5 ha]; rfl
    rw [hlen]
    have HK : ∀ w', w.grownBy w' none → KAt w' b (keptL f 5) := fun w' g => by
      have F' := F.keep g
      refine ⟨block_lt F', fun m k hk => ?_⟩
      rw [kept_all 5 ha] at hk
      obtain ⟨h1, h2⟩ := List.getElem?_eq_some_iff.1 hk
      simp at h1 h2
      subst h2
      rw [block_cell F', block_cell F', block_cell F']
      rcases (show m = 0 ∨ m = 1 ∨ m = 2 ∨ m = 3 ∨ m = 4 from by omega) with rfl | rfl | rfl | rfl | rfl
      · exact ⟨by rw [← ha 0 (by omega)]; rfl, rfl, rfl⟩
      · exact ⟨by rw [← ha 1 (by omega)]; rfl, rfl, rfl⟩
      · exact ⟨by rw [← ha 2 (by omega)]; rfl, rfl, rfl⟩
      · exact ⟨by rw [← ha 3 (by omega)]; rfl, rfl, rfl⟩
      · exact ⟨by rw [← ha 4 (by omega)]; rfl, rfl, rfl⟩
    have HF : Hid (firstNo f = -1) := first_all ha
    clear ha hlen
    go_enter Tryz.func126, Tryz.ntmps126
    go_wp2_with (go_at_call 157; refine (index_any f b w F).mono ?_; rintro e W1 ⟨rfl, g⟩; rw [HF.out])
    go_ret
    exact ⟨rfl, HK _ g, ⟨g.os, g.tape, g.output, g.size, fun k hk _ => g.block k hk (by simp)⟩⟩
  · have HF : Hid (firstNo f = i0) := first_at hi0 ha hn
    have hne : ((i0 : Int) == -1) = false := by simp
    have HD : Hid (DelIn w b f i0 (i0 + 1) (orig f)) := DelIn.start F hi0 ha hn
    clear ha hn
    go_enter Tryz.func126, Tryz.ntmps126
    go_wp2_with (go_at_call 157; refine (index_any f b w F).mono ?_; rintro e W1 ⟨rfl, g⟩; rw [HF.out])
    have D1 := HD.out.keep g
    have G1 : w.grownBy W1 (some b) := ⟨g.os, g.tape, g.output, g.size, fun k hk _ => g.block k hk (by simp)⟩
    clear HD g F HF
    go_loopw [5, 6] (fun t5 t6 wr => ∃ i j cs, i < j ∧ j ≤ 5 ∧ t5 = .int .i64 (i : Nat) ∧ t6 = .int .i64 (j : Nat) ∧ DelIn wr b f i j cs ∧ w.grownBy wr (some b)) (fun _ t6 _ => 5 - (intOf t6).toNat)
    case atStart => exact ⟨i0, i0 + 1, _, by omega, by omega, rfl, by go_num, D1, G1⟩
    case round =>
      obtain ⟨i, j, cs, hij, hj, rfl, rfl, D, G⟩ := hrel
      clear D1 G1 hne
      have HD : Hid (DelIn wr b f i j cs) := D
      have HG : Hid (w.grownBy wr (some b)) := G
      have hb := D.hb
      have hrest := D.rest
      clear D G
      rcases (show (i = 0 ∧ j = 1) ∨ (i = 0 ∧ j = 2) ∨ (i = 1 ∧ j = 2) ∨ (i = 0 ∧ j = 3) ∨ (i = 1 ∧ j = 3) ∨ (i = 2 ∧ j = 3) ∨ (i = 0 ∧ j = 4) ∨ (i = 1 ∧ j = 4) ∨ (i = 2 ∧ j = 4) ∨ (i = 3 ∧ j = 4) ∨ (i = 0 ∧ j = 5) ∨ (i = 1 ∧ j = 5) ∨ (i = 2 ∧ j = 5) ∨ (i = 3 ∧ j = 5) ∨ (i = 4 ∧ j = 5) from by omega) with ⟨rfl, rfl⟩ | ⟨rfl, rfl⟩ | ⟨rfl, rfl⟩ | ⟨rfl, rfl⟩ | ⟨rfl, rfl⟩ | ⟨rfl, rfl⟩ | ⟨rfl, rfl⟩ | ⟨rfl, rfl⟩ | ⟨rfl, rfl⟩ | ⟨rfl, rfl⟩ | ⟨rfl, rfl⟩ | ⟨rfl, rfl⟩ | ⟨rfl, rfl⟩ | ⟨rfl, rfl⟩ | ⟨rfl, rfl⟩
      · have c0 : wr.cell? ⟨b, 3, none⟩ = some (.bool (f 1)) := (block_cell hb _).trans (hrest 1 (by omega) (by omega)).1
        have c1 : wr.cell? ⟨b, 4, none⟩ = some (.func (.func 118) #[] #[]) := (block_cell hb _).trans (hrest 1 (by omega) (by omega)).2.1
        have c2 : wr.cell? ⟨b, 5, none⟩ = some (.func (.func 119) #[] #[]) := (block_cell hb _).trans (hrest 1 (by omega) (by omega)).2.2
        cases hf : f 1 with
        | false =>
          rw [hf] at c0
          go_wp2_with (first | (go_at_call 127; refine (unused_any _ _ _ _).mono ?_; rintro e W1 ⟨rfl, g⟩; simp only [Bool.not_false]; have cv0 := g.cell (block_cell (alloc_at wr #[.bool false, .func (.func 118) #[] #[], .func (.func 119) #[] #[]] 101) 0) (by simp)) | fail)
          have NG := grown_trans (World.grownBy_alloc wr _ none) g
          go_roundw
          case rel => exact ⟨0, 2, cs, by omega, by omega, rfl, by go_num, (HD.out.keep NG).out hf, grown_trans HG.out ⟨NG.os, NG.tape, NG.output, NG.size, fun k hk _ => NG.block k hk (by simp)⟩⟩
          case measure => simp [intOf]
        | true =>
          rw [hf] at c0
          go_wp2_with (first | (go_at_call 127; refine (unused_any _ _ _ _).mono ?_; rintro e W1 ⟨rfl, g⟩; simp only [Bool.not_true]; have NG := grown_trans (World.grownBy_alloc wr _ none) g; have B0 := alloc_at wr #[.bool true, .func (.func 118) #[] #[], .func (.func 119) #[] #[]] 101; have B1 := grown_keep g B0 (by simp); have v0 : W1.cell? ⟨wr.heap.size, 0, none⟩ = some (.bool true) := block_cell B1 0; have v1 : W1.cell? ⟨wr.heap.size, 1, none⟩ = some (.func (.func 118) #[] #[]) := block_cell B1 1; have v2 : W1.cell? ⟨wr.heap.size, 2, none⟩ = some (.func (.func 119) #[] #[]) := block_cell B1 2; have bb := grown_keep NG hb (by simp); have d0 : W1.cell? ⟨b, 0, none⟩ = some (.bool (f 0)) := (block_cell bb _).trans (hrest 0 (by omega) (by omega)).1; have d1 : W1.cell? ⟨b, 1, none⟩ = some (.func (.func 116) #[] #[]) := (block_cell bb _).trans (hrest 0 (by omega) (by omega)).2.1; have d2 : W1.cell? ⟨b, 2, none⟩ = some (.func (.func 117) #[] #[]) := (block_cell bb _).trans (hrest 0 (by omega) (by omega)).2.2; have f0 : W1.frozen? ⟨b, 0, none⟩ = false := block_free bb _; have f1 : W1.frozen? ⟨b, 1, none⟩ = false := block_free bb _; have f2 : W1.frozen? ⟨b, 2, none⟩ = false := block_free bb _; clear B0 B1 bb) | fail)
          have NI := (HD.out.keep NG).into (by omega) (by omega) hf
          have HI : Hid _ := NI
          have NG2 : w.grownBy _ (some b) := grown_trans (grown_trans HG.out ⟨NG.os, NG.tape, NG.output, NG.size, fun k hk _ => NG.block k hk (by simp)⟩) (grown_trans (grown_trans (grown_set W1 b 0 (.bool true)) (grown_set _ b 1 (.func (.func 118) #[] #[]))) (grown_set _ b 2 (.func (.func 119) #[] #[])))
          have HG2 : Hid _ := NG2
          clear NI NG2
          go_roundw
          case rel => exact ⟨1, 2, _, by omega, by omega, by go_num, by go_num, HI.out, HG2.out⟩
          case measure => simp [intOf]
      · have c0 : wr.cell? ⟨b, 6, none⟩ = some (.bool (f 2)) := (block_cell hb _).trans (hrest 2 (by omega) (by omega)).1
        have c1 : wr.cell? ⟨b, 7, none⟩ = some (.func (.func 120) #[] #[]) := (block_cell hb _).trans (hrest 2 (by omega) (by omega)).2.1
        have c2 : wr.cell? ⟨b, 8, none⟩ = some (.func (.func 121) #[] #[]) := (block_cell hb _).trans (hrest 2 (by omega) (by omega)).2.2
        cases hf : f 2 with
        | false =>
          rw [hf] at c0
          go_wp2_with (first | (go_at_call 127; refine (unused_any _ _ _ _).mono ?_; rintro e W1 ⟨rfl, g⟩; simp only [Bool.not_false]; have cv0 := g.cell (block_cell (alloc_at wr #[.bool false, .func (.func 120) #[] #[], .func (.func 121) #[] #[]] 101) 0) (by simp)) | fail)
          have NG := grown_trans (World.grownBy_alloc wr _ none) g
          go_roundw
          case rel => exact ⟨0, 3, cs, by omega, by omega, rfl, by go_num, (HD.out.keep NG).out hf, grown_trans HG.out ⟨NG.os, NG.tape, NG.output, NG.size, fun k hk _ => NG.block k hk (by simp)⟩⟩
          case measure => simp [intOf]
        | true =>
          rw [hf] at c0
          go_wp2_with (first | (go_at_call 127; refine (unused_any _ _ _ _).mono ?_; rintro e W1 ⟨rfl, g⟩; simp only [Bool.not_true]; have NG := grown_trans (World.grownBy_alloc wr _ none) g; have B0 := alloc_at wr #[.bool true, .func (.func 120) #[] #[], .func (.func 121) #[] #[]] 101; have B1 := grown_keep g B0 (by simp); have v0 : W1.cell? ⟨wr.heap.size, 0, none⟩ = some (.bool true) := block_cell B1 0; have v1 : W1.cell? ⟨wr.heap.size, 1, none⟩ = some (.func (.func 120) #[] #[]) := block_cell B1 1; have v2 : W1.cell? ⟨wr.heap.size, 2, none⟩ = some (.func (.func 121) #[] #[]) := block_cell B1 2; have bb := grown_keep NG hb (by simp); have d0 : W1.cell? ⟨b, 0, none⟩ = some (.bool (f 0)) := (block_cell bb _).trans (hrest 0 (by omega) (by omega)).1; have d1 : W1.cell? ⟨b, 1, none⟩ = some (.func (.func 116) #[] #[]) := (block_cell bb _).trans (hrest 0 (by omega) (by omega)).2.1; have d2 : W1.cell? ⟨b, 2, none⟩ = some (.func (.func 117) #[] #[]) := (block_cell bb _).trans (hrest 0 (by omega) (by omega)).2.2; have f0 : W1.frozen? ⟨b, 0, none⟩ = false := block_free bb _; have f1 : W1.frozen? ⟨b, 1, none⟩ = false := block_free bb _; have f2 : W1.frozen? ⟨b, 2, none⟩ = false := block_free bb _; clear B0 B1 bb) | fail)
          have NI := (HD.out.keep NG).into (by omega) (by omega) hf
          have HI : Hid _ := NI
          have NG2 : w.grownBy _ (some b) := grown_trans (grown_trans HG.out ⟨NG.os, NG.tape, NG.output, NG.size, fun k hk _ => NG.block k hk (by simp)⟩) (grown_trans (grown_trans (grown_set W1 b 0 (.bool true)) (grown_set _ b 1 (.func (.func 120) #[] #[]))) (grown_set _ b 2 (.func (.func 121) #[] #[])))
          have HG2 : Hid _ := NG2
          clear NI NG2
          go_roundw
          case rel => exact ⟨1, 3, _, by omega, by omega, by go_num, by go_num, HI.out, HG2.out⟩
          case measure => simp [intOf]
      · have c0 : wr.cell? ⟨b, 6, none⟩ = some (.bool (f 2)) := (block_cell hb _).trans (hrest 2 (by omega) (by omega)).1
        have c1 : wr.cell? ⟨b, 7, none⟩ = some (.func (.func 120) #[] #[]) := (block_cell hb _).trans (hrest 2 (by omega) (by omega)).2.1
        have c2 : wr.cell? ⟨b, 8, none⟩ = some (.func (.func 121) #[] #[]) := (block_cell hb _).trans (hrest 2 (by omega) (by omega)).2.2
        cases hf : f 2 with
        | false =>
          rw [hf] at c0
          go_wp2_with (first | (go_at_call 127; refine (unused_any _ _ _ _).mono ?_; rintro e W1 ⟨rfl, g⟩; simp only [Bool.not_false]; have cv0 := g.cell (block_cell (alloc_at wr #[.bool false, .func (.func 120) #[] #[], .func (.func 121) #[] #[]] 101) 0) (by simp)) | fail)
          have NG := grown_trans (World.grownBy_alloc wr _ none) g
          go_roundw
          case rel => exact ⟨1, 3, cs, by omega, by omega, rfl, by go_num, (HD.out.keep NG).out hf, grown_trans HG.out ⟨NG.os, NG.tape, NG.output, NG.size, fun k hk _ => NG.block k hk (by simp)⟩⟩
          case measure => simp [intOf]
        | true =>
          rw [hf] at c0
          go_wp2_with (first | (go_at_call 127; refine (unused_any _ _ _ _).mono ?_; rintro e W1 ⟨rfl, g⟩; simp only [Bool.not_true]; have NG := grown_trans (World.grownBy_alloc wr _ none) g; have B0 := alloc_at wr #[.bool true, .func (.func 120) #[] #[], .func (.func 121) #[] #[]] 101; have B1 := grown_keep g B0 (by simp); have v0 : W1.cell? ⟨wr.heap.size, 0, none⟩ = some (.bool true) := block_cell B1 0; have v1 : W1.cell? ⟨wr.heap.size, 1, none⟩ = some (.func (.func 120) #[] #[]) := block_cell B1 1; have v2 : W1.cell? ⟨wr.heap.size, 2, none⟩ = some (.func (.func 121) #[] #[]) := block_cell B1 2; have bb := grown_keep NG hb (by simp); have d0 : W1.cell? ⟨b, 3, none⟩ = some (.bool (f 1)) := (block_cell bb _).trans (hrest 1 (by omega) (by omega)).1; have d1 : W1.cell? ⟨b, 4, none⟩ = some (.func (.func 118) #[] #[]) := (block_cell bb _).trans (hrest 1 (by omega) (by omega)).2.1; have d2 : W1.cell? ⟨b, 5, none⟩ = some (.func (.func 119) #[] #[]) := (block_cell bb _).trans (hrest 1 (by omega) (by omega)).2.2; have f0 : W1.frozen? ⟨b, 3, none⟩ = false := block_free bb _; have f1 : W1.frozen? ⟨b, 4, none⟩ = false := block_free bb _; have f2 : W1.frozen? ⟨b, 5, none⟩ = false := block_free bb _; clear B0 B1 bb) | fail)
          have NI := (HD.out.keep NG).into (by omega) (by omega) hf
          have HI : Hid _ := NI
          have NG2 : w.grownBy _ (some b) := grown_trans (grown_trans HG.out ⟨NG.os, NG.tape, NG.output, NG.size, fun k hk _ => NG.block k hk (by simp)⟩) (grown_trans (grown_trans (grown_set W1 b 3 (.bool true)) (grown_set _ b 4 (.func (.func 120) #[] #[]))) (grown_set _ b 5 (.func (.func 121) #[] #[])))
          have HG2 : Hid _ := NG2
          clear NI NG2
          go_roundw
          case rel => exact ⟨2, 3, _, by omega, by omega, by go_num, by go_num, HI.out, HG2.out⟩
          case measure => simp [intOf]
      · have c0 : wr.cell? ⟨b, 9, none⟩ = some (.bool (f 3)) := (block_cell hb _).trans (hrest 3 (by omega) (by omega)).1
        have c1 : wr.cell? ⟨b, 10, none⟩ = some (.func (.func 122) #[] #[]) := (block_cell hb _).trans (hrest 3 (by omega) (by omega)).2.1
        have c2 : wr.cell? ⟨b, 11, none⟩ = some (.func (.func 123) #[] #[]) := (block_cell hb _).trans (hrest 3 (by omega) (by omega)).2.2
        cases hf : f 3 with
        | false =>
          rw [hf] at c0
          go_wp2_with (first | (go_at_call 127; refine (unused_any _ _ _ _).mono ?_; rintro e W1 ⟨rfl, g⟩; simp only [Bool.not_false]; have cv0 := g.cell (block_cell (alloc_at wr #[.bool false, .func (.func 122) #[] #[], .func (.func 123) #[] #[]] 101) 0) (by simp)) | fail)
          have NG := grown_trans (World.grownBy_alloc wr _ none) g
          go_roundw
          case rel => exact ⟨0, 4, cs, by omega, by omega, rfl, by go_num, (HD.out.keep NG).out hf, grown_trans HG.out ⟨NG.os, NG.tape, NG.output, NG.size, fun k hk _ => NG.block k hk (by simp)⟩⟩
          case measure => simp [intOf]
        | true =>
          rw [hf] at c0
          go_wp2_with (first | (go_at_call 127; refine (unused_any _ _ _ _).mono ?_; rintro e W1 ⟨rfl, g⟩; simp only [Bool.not_true]; have NG := grown_trans (World.grownBy_alloc wr _ none) g; have B0 := alloc_at wr #[.bool true, .func (.func 122) #[] #[], .func (.func 123) #[] #[]] 101; have B1 := grown_keep g B0 (by simp); have v0 : W1.cell? ⟨wr.heap.size, 0, none⟩ = some (.bool true) := block_cell B1 0; have v1 : W1.cell? ⟨wr.heap.size, 1, none⟩ = some (.func (.func 122) #[] #[]) := block_cell B1 1; have v2 : W1.cell? ⟨wr.heap.size, 2, none⟩ = some (.func (.func 123) #[] #[]) := block_cell B1 2; have bb := grown_keep NG hb (by simp); have d0 : W1.cell? ⟨b, 0, none⟩ = some (.bool (f 0)) := (block_cell bb _).trans (hrest 0 (by omega) (by omega)).1; have d1 : W1.cell? ⟨b, 1, none⟩ = some (.func (.func 116) #[] #[]) := (block_cell bb _).trans (hrest 0 (by omega) (by omega)).2.1; have d2 : W1.cell? ⟨b, 2, none⟩ = some (.func (.func 117) #[] #[]) := (block_cell bb _).trans (hrest 0 (by omega) (by omega)).2.2; have f0 : W1.frozen? ⟨b, 0, none⟩ = false := block_free bb _; have f1 : W1.frozen? ⟨b, 1, none⟩ = false := block_free bb _; have f2 : W1.frozen? ⟨b, 2, none⟩ = false := block_free bb _; clear B0 B1 bb) | fail)
          have NI := (HD.out.keep NG).into (by omega) (by omega) hf
          have HI : Hid _ := NI
          have NG2 : w.grownBy _ (some b) := grown_trans (grown_trans HG.out ⟨NG.os, NG.tape, NG.output, NG.size, fun k hk _ => NG.block k hk (by simp)⟩) (grown_trans (grown_trans (grown_set W1 b 0 (.bool true)) (grown_set _ b 1 (.func (.func 122) #[] #[]))) (grown_set _ b 2 (.func (.func 123) #[] #[])))
          have HG2 : Hid _ := NG2
          clear NI NG2
          go_roundw
          case rel => exact ⟨1, 4, _, by omega, by omega, by go_num, by go_num, HI.out, HG2.out⟩
          case measure => simp [intOf]
      · have c0 : wr.cell? ⟨b, 9, none⟩ = some (.bool (f 3)) := (block_cell hb _).trans (hrest 3 (by omega) (by omega)).1
        have c1 : wr.cell? ⟨b, 10, none⟩ = some (.func (.func 122) #[] #[]) := (block_cell hb _).trans (hrest 3 (by omega) (by omega)).2.1
        have c2 : wr.cell? ⟨b, 11, none⟩ = some (.func (.func 123) #[] #[]) := (block_cell hb _).trans (hrest 3 (by omega) (by omega)).2.2
        cases hf : f 3 with
        | false =>
          rw [hf] at c0
          go_wp2_with (first | (go_at_call 127; refine (unused_any _ _ _ _).mono ?_; rintro e W1 ⟨rfl, g⟩; simp only [Bool.not_false]; have cv0 := g.cell (block_cell (alloc_at wr #[.bool false, .func (.func 122) #[] #[], .func (.func 123) #[] #[]] 101) 0) (by simp)) | fail)
          have NG := grown_trans (World.grownBy_alloc wr _ none) g
          go_roundw
          case rel => exact ⟨1, 4, cs, by omega, by omega, rfl, by go_num, (HD.out.keep NG).out hf, grown_trans HG.out ⟨NG.os, NG.tape, NG.output, NG.size, fun k hk _ => NG.block k hk (by simp)⟩⟩
          case measure => simp [intOf]
        | true =>
          rw [hf] at c0
          go_wp2_with (first | (go_at_call 127; refine (unused_any _ _ _ _).mono ?_; rintro e W1 ⟨rfl, g⟩; simp only [Bool.not_true]; have NG := grown_trans (World.grownBy_alloc wr _ none) g; have B0 := alloc_at wr #[.bool true, .func (.func 122) #[] #[], .func (.func 123) #[] #[]] 101; have B1 := grown_keep g B0 (by simp); have v0 : W1.cell? ⟨wr.heap.size, 0, none⟩ = some (.bool true) := block_cell B1 0; have v1 : W1.cell? ⟨wr.heap.size, 1, none⟩ = some (.func (.func 122) #[] #[]) := block_cell B1 1; have v2 : W1.cell? ⟨wr.heap.size, 2, none⟩ = some (.func (.func 123) #[] #[]) := block_cell B1 2; have bb := grown_keep NG hb (by simp); have d0 : W1.cell? ⟨b, 3, none⟩ = some (.bool (f 1)) := (block_cell bb _).trans (hrest 1 (by omega) (by omega)).1; have d1 : W1.cell? ⟨b, 4, none⟩ = some (.func (.func 118) #[] #[]) := (block_cell bb _).trans (hrest 1 (by omega) (by omega)).2.1; have d2 : W1.cell? ⟨b, 5, none⟩ = some (.func (.func 119) #[] #[]) := (block_cell bb _).trans (hrest 1 (by omega) (by omega)).2.2; have f0 : W1.frozen? ⟨b, 3, none⟩ = false := block_free bb _; have f1 : W1.frozen? ⟨b, 4, none⟩ = false := block_free bb _; have f2 : W1.frozen? ⟨b, 5, none⟩ = false := block_free bb _; clear B0 B1 bb) | fail)
          have NI := (HD.out.keep NG).into (by omega) (by omega) hf
          have HI : Hid _ := NI
          have NG2 : w.grownBy _ (some b) := grown_trans (grown_trans HG.out ⟨NG.os, NG.tape, NG.output, NG.size, fun k hk _ => NG.block k hk (by simp)⟩) (grown_trans (grown_trans (grown_set W1 b 3 (.bool true)) (grown_set _ b 4 (.func (.func 122) #[] #[]))) (grown_set _ b 5 (.func (.func 123) #[] #[])))
          have HG2 : Hid _ := NG2
          clear NI NG2
          go_roundw
          case rel => exact ⟨2, 4, _, by omega, by omega, by go_num, by go_num, HI.out, HG2.out⟩
          case measure => simp [intOf]
      · have c0 : wr.cell? ⟨b, 9, none⟩ = some (.bool (f 3)) := (block_cell hb _).trans (hrest 3 (by omega) (by omega)).1
        have c1 : wr.cell? ⟨b, 10, none⟩ = some (.func (.func 122) #[] #[]) := (block_cell hb _).trans (hrest 3 (by omega) (by omega)).2.1
        have c2 : wr.cell? ⟨b, 11, none⟩ = some (.func (.func 123) #[] #[]) := (block_cell hb _).trans (hrest 3 (by omega) (by omega)).2.2
        cases hf : f 3 with
        | false =>
          rw [hf] at c0
          go_wp2_with (first | (go_at_call 127; refine (unused_any _ _ _ _).mono ?_; rintro e W1 ⟨rfl, g⟩; simp only [Bool.not_false]; have cv0 := g.cell (block_cell (alloc_at wr #[.bool false, .func (.func 122) #[] #[], .func (.func 123) #[] #[]] 101) 0) (by simp)) | fail)
          have NG := grown_trans (World.grownBy_alloc wr _ none) g
          go_roundw
          case rel => exact ⟨2, 4, cs, by omega, by omega, rfl, by go_num, (HD.out.keep NG).out hf, grown_trans HG.out ⟨NG.os, NG.tape, NG.output, NG.size, fun k hk _ => NG.block k hk (by simp)⟩⟩
          case measure => simp [intOf]
        | true =>
          rw [hf] at c0
          go_wp2_with (first | (go_at_call 127; refine (unused_any _ _ _ _).mono ?_; rintro e W1 ⟨rfl, g⟩; simp only [Bool.not_true]; have NG := grown_trans (World.grownBy_alloc wr _ none) g; have B0 := alloc_at wr #[.bool true, .func (.func 122) #[] #[], .func (.func 123) #[] #[]] 101; have B1 := grown_keep g B0 (by simp); have v0 : W1.cell? ⟨wr.heap.size, 0, none⟩ = some (.bool true) := block_cell B1 0; have v1 : W1.cell? ⟨wr.heap.size, 1, none⟩ = some (.func (.func 122) #[] #[]) := block_cell B1 1; have v2 : W1.cell? ⟨wr.heap.size, 2, none⟩ = some (.func (.func 123) #[] #[]) := block_cell B1 2; have bb := grown_keep NG hb (by simp); have d0 : W1.cell? ⟨b, 6, none⟩ = some (.bool (f 2)) := (block_cell bb _).trans (hrest 2 (by omega) (by omega)).1; have d1 : W1.cell? ⟨b, 7, none⟩ = some (.func (.func 120) #[] #[]) := (block_cell bb _).trans (hrest 2 (by omega) (by omega)).2.1; have d2 : W1.cell? ⟨b, 8, none⟩ = some (.func (.func 121) #[] #[]) := (block_cell bb _).trans (hrest 2 (by omega) (by omega)).2.2; have f0 : W1.frozen? ⟨b, 6, none⟩ = false := block_free bb _; have f1 : W1.frozen? ⟨b, 7, none⟩ = false := block_free bb _; have f2 : W1.frozen? ⟨b, 8, none⟩ = false := block_free bb _; clear B0 B1 bb) | fail)
          have NI := (HD.out.keep NG).into (by omega) (by omega) hf
          have HI : Hid _ := NI
          have NG2 : w.grownBy _ (some b) := grown_trans (grown_trans HG.out ⟨NG.os, NG.tape, NG.output, NG.size, fun k hk _ => NG.block k hk (by simp)⟩) (grown_trans (grown_trans (grown_set W1 b 6 (.bool true)) (grown_set _ b 7 (.func (.func 122) #[] #[]))) (grown_set _ b 8 (.func (.func 123) #[] #[])))
          have HG2 : Hid _ := NG2
          clear NI NG2
          go_roundw
          case rel => exact ⟨3, 4, _, by omega, by omega, by go_num, by go_num, HI.out, HG2.out⟩
          case measure => simp [intOf]
      · have c0 : wr.cell? ⟨b, 12, none⟩ = some (.bool (f 4)) := (block_cell hb _).trans (hrest 4 (by omega) (by omega)).1
        have c1 : wr.cell? ⟨b, 13, none⟩ = some (.func (.func 124) #[] #[]) := (block_cell hb _).trans (hrest 4 (by omega) (by omega)).2.1
        have c2 : wr.cell? ⟨b, 14, none⟩ = some (.func (.func 125) #[] #[]) := (block_cell hb _).trans (hrest 4 (by omega) (by omega)).2.2
        cases hf : f 4 with
        | false =>
          rw [hf] at c0
          go_wp2_with (first | (go_at_call 127; refine (unused_any _ _ _ _).mono ?_; rintro e W1 ⟨rfl, g⟩; simp only [Bool.not_false]; have cv0 := g.cell (block_cell (alloc_at wr #[.bool false, .func (.func 124) #[] #[], .func (.func 125) #[] #[]] 101) 0) (by simp)) | fail)
          have NG := grown_trans (World.grownBy_alloc wr _ none) g
          go_roundw
          case rel => exact ⟨0, 5, cs, by omega, by omega, rfl, by go_num, (HD.out.keep NG).out hf, grown_trans HG.out ⟨NG.os, NG.tape, NG.output, NG.size, fun k hk _ => NG.block k hk (by simp)⟩⟩
          case measure => simp [intOf]
        | true =>
          rw [hf] at c0
          go_wp2_with (first | (go_at_call 127; refine (unused_any _ _ _ _).mono ?_; rintro e W1 ⟨rfl, g⟩; simp only [Bool.not_true]; have NG := grown_trans (World.grownBy_alloc wr _ none) g; have B0 := alloc_at wr #[.bool true, .func (.func 124) #[] #[], .func (.func 125) #[] #[]] 101; have B1 := grown_keep g B0 (by simp); have v0 : W1.cell? ⟨wr.heap.size, 0, none⟩ = some (.bool true) := block_cell B1 0; have v1 : W1.cell? ⟨wr.heap.size, 1, none⟩ = some (.func (.func 124) #[] #[]) := block_cell B1 1; have v2 : W1.cell? ⟨wr.heap.size, 2, none⟩ = some (.func (.func 125) #[] #[]) := block_cell B1 2; have bb := grown_keep NG hb (by simp); have d0 : W1.cell? ⟨b, 0, none⟩ = some (.bool (f 0)) := (block_cell bb _).trans (hrest 0 (by omega) (by omega)).1; have d1 : W1.cell? ⟨b, 1, none⟩ = some (.func (.func 116) #[] #[]) := (block_cell bb _).trans (hrest 0 (by omega) (by omega)).2.1; have d2 : W1.cell? ⟨b, 2, none⟩ = some (.func (.func 117) #[] #[]) := (block_cell bb _).trans (hrest 0 (by omega) (by omega)).2.2; have f0 : W1.frozen? ⟨b, 0, none⟩ = false := block_free bb _; have f1 : W1.frozen? ⟨b, 1, none⟩ = false := block_free bb _; have f2 : W1.frozen? ⟨b, 2, none⟩ = false := block_free bb _; clear B0 B1 bb) | fail)
          have NI := (HD.out.keep NG).into (by omega) (by omega) hf
          have HI : Hid _ := NI
          have NG2 : w.grownBy _ (some b) := grown_trans (grown_trans HG.out ⟨NG.os, NG.tape, NG.output, NG.size, fun k hk _ => NG.block k hk (by simp)⟩) (grown_trans (grown_trans (grown_set W1 b 0 (.bool true)) (grown_set _ b 1 (.func (.func 124) #[] #[]))) (grown_set _ b 2 (.func (.func 125) #[] #[])))
          have HG2 : Hid _ := NG2
          clear NI NG2
          go_roundw
          case rel => exact ⟨1, 5, _, by omega, by omega, by go_num, by go_num, HI.out, HG2.out⟩
          case measure => simp [intOf]
      · have c0 : wr.cell? ⟨b, 12, none⟩ = some (.bool (f 4)) := (block_cell hb _).trans (hrest 4 (by omega) (by omega)).1
        have c1 : wr.cell? ⟨b, 13, none⟩ = some (.func (.func 124) #[] #[]) := (block_cell hb _).trans (hrest 4 (by omega) (by omega)).2.1
        have c2 : wr.cell? ⟨b, 14, none⟩ = some (.func (.func 125) #[] #[]) := (block_cell hb _).trans (hrest 4 (by omega) (by omega)).2.2
        cases hf : f 4 with
        | false =>
          rw [hf] at c0
          go_wp2_with (first | (go_at_call 127; refine (unused_any _ _ _ _).mono ?_; rintro e W1 ⟨rfl, g⟩; simp only [Bool.not_false]; have cv0 := g.cell (block_cell (alloc_at wr #[.bool false, .func (.func 124) #[] #[], .func (.func 125) #[] #[]] 101) 0) (by simp)) | fail)
          have NG := grown_trans (World.grownBy_alloc wr _ none) g
          go_roundw
          case rel => exact ⟨1, 5, cs, by omega, by omega, rfl, by go_num, (HD.out.keep NG).out hf, grown_trans HG.out ⟨NG.os, NG.tape, NG.output, NG.size, fun k hk _ => NG.block k hk (by simp)⟩⟩
          case measure => simp [intOf]
        | true =>
          rw [hf] at c0
          go_wp2_with (first | (go_at_call 127; refine (unused_any _ _ _ _).mono ?_; rintro e W1 ⟨rfl, g⟩; simp only [Bool.not_true]; have NG := grown_trans (World.grownBy_alloc wr _ none) g; have B0 := alloc_at wr #[.bool true, .func (.func 124) #[] #[], .func (.func 125) #[] #[]] 101; have B1 := grown_keep g B0 (by simp); have v0 : W1.cell? ⟨wr.heap.size, 0, none⟩ = some (.bool true) := block_cell B1 0; have v1 : W1.cell? ⟨wr.heap.size, 1, none⟩ = some (.func (.func 124) #[] #[]) := block_cell B1 1; have v2 : W1.cell? ⟨wr.heap.size, 2, none⟩ = some (.func (.func 125) #[] #[]) := block_cell B1 2; have bb := grown_keep NG hb (by simp); have d0 : W1.cell? ⟨b, 3, none⟩ = some (.bool (f 1)) := (block_cell bb _).trans (hrest 1 (by omega) (by omega)).1; have d1 : W1.cell? ⟨b, 4, none⟩ = some (.func (.func 118) #[] #[]) := (block_cell bb _).trans (hrest 1 (by omega) (by omega)).2.1; have d2 : W1.cell? ⟨b, 5, none⟩ = some (.func (.func 119) #[] #[]) := (block_cell bb _).trans (hrest 1 (by omega) (by omega)).2.2; have f0 : W1.frozen? ⟨b, 3, none⟩ = false := block_free bb _; have f1 : W1.frozen? ⟨b, 4, none⟩ = false := block_free bb _; have f2 : W1.frozen? ⟨b, 5, none⟩ = false := block_free bb _; clear B0 B1 bb) | fail)
          have NI := (HD.out.keep NG).into (by omega) (by omega) hf
          have HI : Hid _ := NI
          have NG2 : w.grownBy _ (some b) := grown_trans (grown_trans HG.out ⟨NG.os, NG.tape, NG.output, NG.size, fun k hk _ => NG.block k hk (by simp)⟩) (grown_trans (grown_trans (grown_set W1 b 3 (.bool true)) (grown_set _ b 4 (.func (.func 124) #[] #[]))) (grown_set _ b 5 (.func (.func 125) #[] #[])))
          have HG2 : Hid _ := NG2
          clear NI NG2
          go_roundw
          case rel => exact ⟨2, 5, _, by omega, by omega, by go_num, by go_num, HI.out, HG2.out⟩
          case measure => simp [intOf]
      · have c0 : wr.cell? ⟨b, 12, none⟩ = some (.bool (f 4)) := (block_cell hb _).trans (hrest 4 (by omega) (by omega)).1
        have c1 : wr.cell? ⟨b, 13, none⟩ = some (.func (.func 124) #[] #[]) := (block_cell hb _).trans (hrest 4 (by omega) (by omega)).2.1
        have c2 : wr.cell? ⟨b, 14, none⟩ = some (.func (.func 125) #[] #[]) := (block_cell hb _).trans (hrest 4 (by omega) (by omega)).2.2
        cases hf : f 4 with
        | false =>
          rw [hf] at c0
          go_wp2_with (first | (go_at_call 127; refine (unused_any _ _ _ _).mono ?_; rintro e W1 ⟨rfl, g⟩; simp only [Bool.not_false]; have cv0 := g.cell (block_cell (alloc_at wr #[.bool false, .func (.func 124) #[] #[], .func (.func 125) #[] #[]] 101) 0) (by simp)) | fail)
          have NG := grown_trans (World.grownBy_alloc wr _ none) g
          go_roundw
          case rel => exact ⟨2, 5, cs, by omega, by omega, rfl, by go_num, (HD.out.keep NG).out hf, grown_trans HG.out ⟨NG.os, NG.tape, NG.output, NG.size, fun k hk _ => NG.block k hk (by simp)⟩⟩
          case measure => simp [intOf]
        | true =>
          rw [hf] at c0
          go_wp2_with (first | (go_at_call 127; refine (unused_any _ _ _ _).mono ?_; rintro e W1 ⟨rfl, g⟩; simp only [Bool.not_true]; have NG := grown_trans (World.grownBy_alloc wr _ none) g; have B0 := alloc_at wr #[.bool true, .func (.func 124) #[] #[], .func (.func 125) #[] #[]] 101; have B1 := grown_keep g B0 (by simp); have v0 : W1.cell? ⟨wr.heap.size, 0, none⟩ = some (.bool true) := block_cell B1 0; have v1 : W1.cell? ⟨wr.heap.size, 1, none⟩ = some (.func (.func 124) #[] #[]) := block_cell B1 1; have v2 : W1.cell? ⟨wr.heap.size, 2, none⟩ = some (.func (.func 125) #[] #[]) := block_cell B1 2; have bb := grown_keep NG hb (by simp); have d0 : W1.cell? ⟨b, 6, none⟩ = some (.bool (f 2)) := (block_cell bb _).trans (hrest 2 (by omega) (by omega)).1; have d1 : W1.cell? ⟨b, 7, none⟩ = some (.func (.func 120) #[] #[]) := (block_cell bb _).trans (hrest 2 (by omega) (by omega)).2.1; have d2 : W1.cell? ⟨b, 8, none⟩ = some (.func (.func 121) #[] #[]) := (block_cell bb _).trans (hrest 2 (by omega) (by omega)).2.2; have f0 : W1.frozen? ⟨b, 6, none⟩ = false := block_free bb _; have f1 : W1.frozen? ⟨b, 7, none⟩ = false := block_free bb _; have f2 : W1.frozen? ⟨b, 8, none⟩ = false := block_free bb _; clear B0 B1 bb) | fail)
          have NI := (HD.out.keep NG).into (by omega) (by omega) hf
          have HI : Hid _ := NI
          have NG2 : w.grownBy _ (some b) := grown_trans (grown_trans HG.out ⟨NG.os, NG.tape, NG.output, NG.size, fun k hk _ => NG.block k hk (by simp)⟩) (grown_trans (grown_trans (grown_set W1 b 6 (.bool true)) (grown_set _ b 7 (.func (.func 124) #[] #[]))) (grown_set _ b 8 (.func (.func 125) #[] #[])))
          have HG2 : Hid _ := NG2
          clear NI NG2
          go_roundw
          case rel => exact ⟨3, 5, _, by omega, by omega, by go_num, by go_num, HI.out, HG2.out⟩
          case measure => simp [intOf]
      · have c0 : wr.cell? ⟨b, 12, none⟩ = some (.bool (f 4)) := (block_cell hb _).trans (hrest 4 (by omega) (by omega)).1
        have c1 : wr.cell? ⟨b, 13, none⟩ = some (.func (.func 124) #[] #[]) := (block_cell hb _).trans (hrest 4 (by omega) (by omega)).2.1
        have c2 : wr.cell? ⟨b, 14, none⟩ = some (.func (.func 125) #[] #[]) := (block_cell hb _).trans (hrest 4 (by omega) (by omega)).2.2
        cases hf : f 4 with
        | false =>
          rw [hf] at c0
          go_wp2_with (first | (go_at_call 127; refine (unused_any _ _ _ _).mono ?_; rintro e W1 ⟨rfl, g⟩; simp only [Bool.not_false]; have cv0 := g.cell (block_cell (alloc_at wr #[.bool false, .func (.func 124) #[] #[], .func (.func 125) #[] #[]] 101) 0) (by simp)) | fail)
          have NG := grown_trans (World.grownBy_alloc wr _ none) g
          go_roundw
          case rel => exact ⟨3, 5, cs, by omega, by omega, rfl, by go_num, (HD.out.keep NG).out hf, grown_trans HG.out ⟨NG.os, NG.tape, NG.output, NG.size, fun k hk _ => NG.block k hk (by simp)⟩⟩
          case measure => simp [intOf]
        | true =>
          rw [hf] at c0
          go_wp2_with (first | (go_at_call 127; refine (unused_any _ _ _ _).mono ?_; rintro e W1 ⟨rfl, g⟩; simp only [Bool.not_true]; have NG := grown_trans (World.grownBy_alloc wr _ none) g; have B0 := alloc_at wr #[.bool true, .func (.func 124) #[] #[], .func (.func 125) #[] #[]] 101; have B1 := grown_keep g B0 (by simp); have v0 : W1.cell? ⟨wr.heap.size, 0, none⟩ = some (.bool true) := block_cell B1 0; have v1 : W1.cell? ⟨wr.heap.size, 1, none⟩ = some (.func (.func 124) #[] #[]) := block_cell B1 1; have v2 : W1.cell? ⟨wr.heap.size, 2, none⟩ = some (.func (.func 125) #[] #[]) := block_cell B1 2; have bb := grown_keep NG hb (by simp); have d0 : W1.cell? ⟨b, 9, none⟩ = some (.bool (f 3)) := (block_cell bb _).trans (hrest 3 (by omega) (by omega)).1; have d1 : W1.cell? ⟨b, 10, none⟩ = some (.func (.func 122) #[] #[]) := (block_cell bb _).trans (hrest 3 (by omega) (by omega)).2.1; have d2 : W1.cell? ⟨b, 11, none⟩ = some (.func (.func 123) #[] #[]) := (block_cell bb _).trans (hrest 3 (by omega) (by omega)).2.2; have f0 : W1.frozen? ⟨b, 9, none⟩ = false := block_free bb _; have f1 : W1.frozen? ⟨b, 10, none⟩ = false := block_free bb _; have f2 : W1.frozen? ⟨b, 11, none⟩ = false := block_free bb _; clear B0 B1 bb) | fail)
          have NI := (HD.out.keep NG).into (by omega) (by omega) hf
          have HI : Hid _ := NI
          have NG2 : w.grownBy _ (some b) := grown_trans (grown_trans HG.out ⟨NG.os, NG.tape, NG.output, NG.size, fun k hk _ => NG.block k hk (by simp)⟩) (grown_trans (grown_trans (grown_set W1 b 9 (.bool true)) (grown_set _ b 10 (.func (.func 124) #[] #[]))) (grown_set _ b 11 (.func (.func 125) #[] #[])))
          have HG2 : Hid _ := NG2
          clear NI NG2
          go_roundw
          case rel => exact ⟨4, 5, _, by omega, by omega, by go_num, by go_num, HI.out, HG2.out⟩
          case measure => simp [intOf]
      · have hcl : ∀ ty, (Builtin.clear_ #[97] ty #[.slice (some ⟨b, 0, none⟩) 5 5]).run Tryz.prog wr = _ := fun ty => clear_run (i := 0) (n := 5) hb HD.out.sz (by omega) (by omega) 5 ty zeros_5
        have HC0 := HD.out.clear (by omega)
        have HC : Hid _ := HC0
        have HL : Hid ((keptL f 5).length = 0) := HD.out.len
        clear hrest hb
        go_wp2
        go_ret
        exact ⟨by rw [HL.out]; rfl, HC.out.1, grown_trans HG.out HC.out.2⟩
      · have hcl : ∀ ty, (Builtin.clear_ #[97] ty #[.slice (some ⟨b, 3, none⟩) 4 4]).run Tryz.prog wr = _ := fun ty => clear_run (i := 1) (n := 4) hb HD.out.sz (by omega) (by omega) 4 ty zeros_4
        have HC0 := HD.out.clear (by omega)
        rw [List.append_assoc] at HC0
        have HC : Hid _ := HC0
        have HL : Hid ((keptL f 5).length = 1) := HD.out.len
        clear hrest hb
        go_wp2
        go_ret
        exact ⟨by rw [HL.out]; rfl, HC.out.1, grown_trans HG.out HC.out.2⟩
      · have hcl : ∀ ty, (Builtin.clear_ #[97] ty #[.slice (some ⟨b, 6, none⟩) 3 3]).run Tryz.prog wr = _ := fun ty => clear_run (i := 2) (n := 3) hb HD.out.sz (by omega) (by omega) 3 ty zeros_3
        have HC0 := HD.out.clear (by omega)
        rw [List.append_assoc] at HC0
        have HC : Hid _ := HC0
        have HL : Hid ((keptL f 5).length = 2) := HD.out.len
        clear hrest hb
        go_wp2
        go_ret
        exact ⟨by rw [HL.out]; rfl, HC.out.1, grown_trans HG.out HC.out.2⟩
      · have hcl : ∀ ty, (Builtin.clear_ #[97] ty #[.slice (some ⟨b, 9, none⟩) 2 2]).run Tryz.prog wr = _ := fun ty => clear_run (i := 3) (n := 2) hb HD.out.sz (by omega) (by omega) 2 ty zeros_2
        have HC0 := HD.out.clear (by omega)
        rw [List.append_assoc] at HC0
        have HC : Hid _ := HC0
        have HL : Hid ((keptL f 5).length = 3) := HD.out.len
        clear hrest hb
        go_wp2
        go_ret
        exact ⟨by rw [HL.out]; rfl, HC.out.1, grown_trans HG.out HC.out.2⟩
      · have hcl : ∀ ty, (Builtin.clear_ #[97] ty #[.slice (some ⟨b, 12, none⟩) 1 1]).run Tryz.prog wr = _ := fun ty => clear_run (i := 4) (n := 1) hb HD.out.sz (by omega) (by omega) 1 ty zeros_1
        have HC0 := HD.out.clear (by omega)
        rw [List.append_assoc] at HC0
        have HC : Hid _ := HC0
        have HL : Hid ((keptL f 5).length = 4) := HD.out.len
        clear hrest hb
        go_wp2
        go_ret
        exact ⟨by rw [HL.out]; rfl, HC.out.1, grown_trans HG.out HC.out.2⟩
end Go.Proofs.YtpceelbphpfciaaGreatDoor
