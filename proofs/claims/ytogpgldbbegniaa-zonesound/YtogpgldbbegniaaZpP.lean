/-
  The law's placed, of sound zones.
-/
import Derived.Test.YtogpgldbbegniaaZpS
import Derived.Deep.CutRange
import Derived.Deep.CutBlock
namespace Go.Proofs.Ytogpgldbbegniaa
open Go.RowKit

/-- How many of the first k on the table are an owner's. -/
def ownK (ts : List Th) (p : Int) (T : List Int) (k : Nat) : Nat := (T.take k).countP fun n => decide ((thAt ts n).owner = p)
theorem ownK_next {ts : List Th} {p : Int} {T : List Int} {k : Nat} {n : Int} (h : T[k]? = some n) : ownK ts p T (k + 1) = ownK ts p T k + (if (thAt ts n).owner = p then 1 else 0) := by
  unfold ownK
  rw [List.take_add_one, h, List.countP_append]
  simp [List.countP_cons]
theorem ownK_le (ts : List Th) (p : Int) (T : List Int) (k : Nat) : ownK ts p T k ≤ T.length := Nat.le_trans List.countP_le_length (by rw [List.length_take]; omega)
/-- The last stamp. -/
def lastK (ts : List Th) (T : List Int) : Nat → Int
  | 0 => 0
  | k + 1 => stOf ts (T.getD k 0)
theorem lastK_lt {z : Zs} (S : z.Sound) {T : List Int} (hT : IsTab z.ts T) {k : Nat} (hk : k < T.length) : lastK z.ts T k < stOf z.ts (T.getD k 0) := by
  have m : T.getD k 0 ∈ T := by rw [getD_lt _ _ hk]; exact List.getElem_mem _
  have t := (hT.1 _).1 m
  cases k with
  | zero =>
    have := (S.each _ (there_mem t.1)).2.2.2.2 t.2
    show 0 < (thAt z.ts (T.getD 0 0)).stamp
    omega
  | succ j =>
    have := (List.pairwise_iff_getElem.1 hT.2) j (j + 1) (by omega) hk (by omega)
    show stOf z.ts (T.getD j 0) < _
    rwa [getD_lt _ _ (by omega), getD_lt _ _ hk]
/-- While the table is counted. -/
structure PlS (w wr : World) (O : Nat) (a c : Int) : Prop where
  g : w.grownBy wr none
  o : wr.heap[O]? = some (.cells #[.int .i64 a, .int .i64 c] 99 (0, 0))
  O : w.heap.size ≤ O
theorem PlS.grow {w wr w2 : World} {O : Nat} {a c : Int} (h : PlS w wr O a c) (g : wr.grownBy w2 none) : PlS w w2 O a c := ⟨grown_trans h.g g, grown_keep g h.o (by simp), h.O⟩
theorem PlS.set0 {w wr : World} {O : Nat} {a c : Int} (h : PlS w wr O a c) (x : Int) : PlS w (wr.setCell ⟨O, 0, none⟩ (.int .i64 x)) O x c := ⟨grown_own h.g (grown_set _ _ _ _) (fun y e => by cases e; exact h.O), zc_set h.o rfl, h.O⟩
theorem PlS.set1 {w wr : World} {O : Nat} {a c : Int} (h : PlS w wr O a c) (x : Int) : PlS w (wr.setCell ⟨O, 1, none⟩ (.int .i64 x)) O a x := ⟨grown_own h.g (grown_set _ _ _ _) (fun y e => by cases e; exact h.O), zc_set h.o rfl, h.O⟩
theorem meas_two {n j : Nat} (h : j < n) : n + 1 - (intOf (.int .i64 ((j : Int) + 1 + 1))).toNat < n + 1 - (intOf (.int .i64 ((j : Int) + 1))).toNat := by simp only [intOf]; omega
theorem two_next (j : Nat) : Value.int .i64 ((j : Int) + 1 + 1) = .int .i64 (((j + 1 : Nat) : Int) + 1) := by rw [Int.natCast_add]; rfl
theorem ownK_full {z : Zs} (S : z.Sound) {T : List Int} (hT : IsTab z.ts T) {p : Int} (hp : p = 0 ∨ p = 1) {k : Nat} (hk : T.length ≤ k) : ownK z.ts p T k ≤ 8 := by
  unfold ownK
  rw [List.take_of_length_le hk, List.countP_eq_length_filter, hT.owned p]
  exact S.tab p hp
theorem cnt_one (n : Int) (l : List Int) : cnt n [l] = l.count n := by simp [cnt]
theorem cnt_two (n : Int) (l m : List Int) : cnt n [l, m] = l.count n + m.count n := by simp [cnt]
theorem count1 {w : World} {base : Nat} {v : Value} {l : List Int} (n : Int) (o : OwnI w base v l) (hl : l.length ≤ 4096) : Calls Try.prog 37 #[.int .i64 n, .slice (some ⟨w.heap.size, 0, none⟩) 1 1] (w.alloc (.cells #[v] 22)) fun e w' => e = .returned (.int .i64 (l.count n : Nat)) ∧ w' = w.alloc (.cells #[v] 22) := by
  have C := count_any n w.heap.size 1 [l] (w.alloc (.cells #[v] 22)) (by simp) (fun x hx => by rw [List.mem_singleton.1 hx]; exact hl) (fun a m h => by
    cases a with
    | zero =>
      cases h
      exact ⟨v, block_cell (alloc_at _ _ _) 0, (OwnI.grow o (World.grownBy_alloc _ _ _)).l.ints⟩
    | succ a => simp at h)
  rw [cnt_one] at C
  exact C
theorem count2 {w : World} {base base' : Nat} {v u : Value} {l m : List Int} (n : Int) (o : OwnI w base v l) (o' : OwnI w base' u m) (hl : l.length ≤ 4096) (hm : m.length ≤ 4096) : Calls Try.prog 37 #[.int .i64 n, .slice (some ⟨w.heap.size, 0, none⟩) 2 2] (w.alloc (.cells #[v, u] 22)) fun e w' => e = .returned (.int .i64 (l.count n + m.count n : Nat)) ∧ w' = w.alloc (.cells #[v, u] 22) := by
  have C := count_any n w.heap.size 2 [l, m] (w.alloc (.cells #[v, u] 22)) (by simp) (fun x hx => by
    simp only [List.mem_cons, List.not_mem_nil, or_false] at hx
    rcases hx with rfl | rfl
    · exact hl
    · exact hm) (fun a q h => by
    cases a with
    | zero =>
      cases h
      exact ⟨v, block_cell (alloc_at _ _ _) 0, (OwnI.grow o (World.grownBy_alloc _ _ _)).l.ints⟩
    | succ a =>
      cases a with
      | zero =>
        cases h
        exact ⟨u, block_cell (alloc_at _ _ _) 1, (OwnI.grow o' (World.grownBy_alloc _ _ _)).l.ints⟩
      | succ a => simp at h)
  rw [cnt_two] at C
  exact C
theorem deck_few {z : Zs} (S : z.Sound) {p : Int} (hp : p = 0 ∨ p = 1) : (z.dk p).length ≤ 2048 ∧ (z.hd p).length ≤ 2048 := by
  have h1 := holds_len (S.dks p hp)
  have h2 := S.hand p hp
  have h3 := numsOf_len z.ts p 1
  have h4 := S.few
  omega
/-- What is counted of a thing, as the law compares it. -/
theorem placed_nums {pl : Int} {A B C D E : Nat} (h : (A = if pl = 1 then 1 else 0) ∧ (B = if pl = 2 then 1 else 0) ∧ (C = if pl = 4 then 1 else 0) ∧ D = 0 ∧ E = 0) : ∃ (cd ch ct : Nat) (x1 x2 x4 : Bool), A = cd ∧ B = ch ∧ C = ct ∧ D + E = 0 ∧ (pl == 1) = x1 ∧ (pl == 2) = x2 ∧ (pl == 4) = x4 ∧ ((cd : Int) == 1) = x1 ∧ ((ch : Int) == 1) = x2 ∧ ((ct : Int) == 1) = x4 ∧ (x1 != x1) = false ∧ (x2 != x2) = false ∧ (x4 != x4) = false ∧ wrap64 ((cd : Int) + (ch : Int)) = (cd : Int) + (ch : Int) ∧ wrap64 ((cd : Int) + (ch : Int) + (ct : Int)) = (cd : Int) + (ch : Int) + (ct : Int) ∧ decide ((cd : Int) + (ch : Int) + (ct : Int) > 1) = false ∧ decide (1 < IntKind.i64.wrap (IntKind.i64.wrap ((cd : Int) + (ch : Int)) + (ct : Int))) = false := by
  obtain ⟨h1, h2, h3, h4, h5⟩ := h
  have hle : A + B + C ≤ 1 := by
    rw [h1, h2, h3]
    by_cases q1 : pl = 1
    · rw [if_pos q1, if_neg (by omega), if_neg (by omega)]; decide
    · by_cases q2 : pl = 2
      · rw [if_neg q1, if_pos q2, if_neg (by omega)]; decide
      · rw [if_neg q1, if_neg q2]; split <;> decide
  refine ⟨A, B, C, pl == 1, pl == 2, pl == 4, rfl, rfl, rfl, by omega, rfl, rfl, rfl, ?_, ?_, ?_, by simp, by simp, by simp, by unfold wrap64; omega, by unfold wrap64; omega, decide_eq_false (by omega), decide_eq_false (by rw [IntKind.wrap_i64, IntKind.wrap_i64]; omega)⟩
  · rw [h1]; by_cases q : pl = 1 <;> simp [q]
  · rw [h2]; by_cases q : pl = 2 <;> simp [q]
  · rw [h3]; by_cases q : pl = 4 <;> simp [q]
theorem placed_at {z : Zs} (S : z.Sound) {j : Nat} (h : j < z.ts.length) : (j : Int) + 1 ≤ (z.ts.length : Int) ∧ there z.ts ((j : Int) + 1) ∧ wrap64 ((j : Int) + 1 + 1) = (j : Int) + 1 + 1 ∧ (¬ (thAt z.ts ((j : Int) + 1)).owner < 0) ∧ (¬ (thAt z.ts ((j : Int) + 1)).owner > 1) := by
  have hth : there z.ts ((j : Int) + 1) := by unfold there; omega
  have ha := (S.each _ (there_mem hth)).2.1
  have hf := S.few
  exact ⟨by omega, hth, by unfold wrap64; omega, by omega, by omega⟩
theorem hand_ten {z : Zs} (S : z.Sound) : ((z.hd 0).length : Int) ≤ 10 ∧ ((z.hd 1).length : Int) ≤ 10 := ⟨by have := S.hand 0 (Or.inl rfl); omega, by have := S.hand 1 (Or.inr rfl); omega⟩
theorem nat_eight {a c : Nat} (h : a ≤ 8 ∧ c ≤ 8) : (a : Int) ≤ 8 ∧ (c : Int) ≤ 8 := ⟨by omega, by omega⟩
theorem not_le_of {n j : Nat} (h : ¬ j < n) : (¬ (j : Int) + 1 ≤ (n : Int)) ∧ decide ((j : Int) + 1 ≤ (n : Int)) = false := ⟨by omega, decide_eq_false (by omega)⟩
set_option maxRecDepth 100000 in
set_option maxHeartbeats 8000000 in
theorem placed_ok (b : Nat) (Sb : List Nat) (z : Zs) (w : World) (Z : ZAt w b Sb z) (S : z.Sound) (hz : z.ts.length ≤ 2048) : Calls Try.prog 10 #[.pointer (some ⟨b, 0, none⟩)] w fun e w' => e = .returned (.bool true) ∧ w.grownBy w' none := by
  have HZ : Hid (ZAt w b Sb z) := Z
  have HSd : Hid z.Sound := S
  have C1 := table_any b Sb z w Z S
  obtain ⟨T, hT⟩ : ∃ T, T = tabF z.ts := ⟨_, rfl⟩
  have HT : Hid (IsTab z.ts T) := by show IsTab z.ts T; rw [hT]; exact S.tab_is
  have HTl : Hid (T.length ≤ 4096) := by show T.length ≤ 4096; rw [hT, (tabF_perm z.ts).length_eq]; have := tabN_len z.ts; omega
  rw [← hT] at C1
  clear Z S hT hz
  go_enter Try.func10, Try.ntmps10
  go_wp2_with fail
  refine C1.mono ?_
  rintro e w1 ⟨v1, rfl, o1, g1⟩
  have HO1 : Hid (OwnI w1 w.heap.size v1 T) := o1
  have HG1 : Hid (w.grownBy w1 none) := g1
  obtain ⟨p1, q1, rfl⟩ := o1.form
  clear o1 g1 C1
  go_upto_region 3 with fail
  have HW : Hid (PlS w (w1.alloc (.cells #[.int .i64 0, .int .i64 0] 99)) w1.heap.size 0 0) := ⟨grown_push HG1.out _, alloc_at _ _ _, HG1.out.size⟩
  have HO2 : Hid (w1.grownBy (w1.alloc (.cells #[.int .i64 0, .int .i64 0] 99)) none) := World.grownBy_alloc _ _ _
  obtain ⟨O, hO⟩ : ∃ O, O = w1.heap.size := ⟨_, rfl⟩
  have HOe : Hid (O = w1.heap.size) := hO
  rw [← hO] at HW ⊢
  clear hO
  obtain ⟨Wa, hWa⟩ : ∃ Wa, Wa = w1.alloc (.cells #[.int .i64 0, .int .i64 0] 99) := ⟨_, rfl⟩
  rw [← hWa] at HW HO2 ⊢
  clear hWa
  go_upto_block 0 with fail
  go_cut [5, 6, 7, 8] from 18 to 60 (fun _ _ _ _ wc => ∃ a c : Nat, (a ≤ 8 ∧ c ≤ 8) ∧ PlS w wc O (a : Int) (c : Int) ∧ OwnI wc w.heap.size (.slice p1 T.length q1) T)
  case first =>
    go_wp2_with fail
    go_loopw [5, 6, 7, 8] (fun la i _ _ wr => ∃ k : Nat, k ≤ T.length ∧ i = .int .i64 (k : Int) ∧ la = .int .i64 (lastK z.ts T k) ∧ PlS w wr O (ownK z.ts 0 T k : Nat) (ownK z.ts 1 T k : Nat) ∧ OwnI wr w.heap.size (.slice p1 T.length q1) T) (fun _ i _ _ _ => T.length - (intOf i).toNat)
    case atStart => exact ⟨0, Nat.zero_le _, rfl, rfl, HW.out, own_grow HO1.out HO2.out⟩
    case round =>
      obtain ⟨k, hk, rfl, rfl, W, OT⟩ := hrel
      have HWr : Hid (PlS w wr O (ownK z.ts 0 T k : Nat) (ownK z.ts 1 T k : Nat)) := W
      have HOT : Hid (OwnI wr w.heap.size (.slice p1 T.length q1) T) := OT
      clear W OT HW HO2 HO1 HG1 HOe
      by_cases hlt : k < T.length
      · obtain ⟨_, _, ev, _, hc⟩ := HOT.out.l.ints
        cases ev
        obtain ⟨tg, toff, rfl, cc⟩ := hc (by omega)
        have y := cc k hlt
        obtain ⟨n, hn⟩ : ∃ n, n = T.getD k 0 := ⟨_, rfl⟩
        have hnT : T[k]? = some n := by rw [hn, getD_lt _ _ hlt]; exact List.getElem?_eq_getElem hlt
        rw [← hn] at y
        have hm := (HT.out.1 n).1 (List.mem_of_getElem? hnT)
        have C2 := thing_yes b Sb z n wr (HZ.out.grow HWr.out.g) HSd.out hm.1
        obtain ⟨t, ht⟩ : ∃ t, t = thAt z.ts n := ⟨_, rfl⟩
        rw [← ht] at C2 hm
        unfold thv at C2
        have HL : Hid (lastK z.ts T k < t.stamp) := by show lastK z.ts T k < t.stamp; rw [ht, hn]; exact lastK_lt HSd.out HT.out hlt
        have HNext : Hid (lastK z.ts T (k + 1) = t.stamp) := by show stOf z.ts (T.getD k 0) = t.stamp; rw [ht, hn]; rfl
        have ha := HSd.out.each t (by rw [ht]; exact there_mem hm.1)
        have HN0 : Hid (ownK z.ts 0 T (k + 1) = ownK z.ts 0 T k + (if t.owner = 0 then 1 else 0)) := by rw [ht]; exact ownK_next hnT
        have HN1 : Hid (ownK z.ts 1 T (k + 1) = ownK z.ts 1 T k + (if t.owner = 1 then 1 else 0)) := by rw [ht]; exact ownK_next hnT
        have hl0 := ownK_le z.ts 0 T k
        have hl1 := ownK_le z.ts 1 T k
        have hlt' : (k : Int) < T.length := by omega
        have hwk : wrap64 ((k : Int) + 1) = (k : Int) + 1 := by have := HTl.out; unfold wrap64; omega
        have HP : Hid (k + 1 ≤ T.length) := hlt
        have HMe : Hid (T.length - (intOf (.int .i64 ((k : Int) + 1))).toNat < T.length - (intOf (.int .i64 (k : Int))).toNat) := meas_next hlt
        obtain ⟨la, hla⟩ : ∃ la, la = lastK z.ts T k := ⟨_, rfl⟩
        rw [← hla] at HL ⊢
        obtain ⟨a, haa⟩ : ∃ a, a = ownK z.ts 0 T k := ⟨_, rfl⟩
        obtain ⟨c, hcc⟩ : ∃ c, c = ownK z.ts 1 T k := ⟨_, rfl⟩
        rw [← haa] at HN0 hl0 HWr
        rw [← hcc] at HN1 hl1 HWr
        have q4 : (t.place != 4) = false := by simp [hm.2]
        have d1 : decide (t.stamp ≤ la) = false := decide_eq_false (by have := HL.out; omega)
        have d2 : decide (t.stamp ≥ z.nx) = false := decide_eq_false (by have := ha.2.2.2.2 hm.2; omega)
        have hwa : wrap64 ((a : Int) + 1) = (a : Int) + 1 := by have := HTl.out; unfold wrap64; omega
        have hwc : wrap64 ((c : Int) + 1) = (c : Int) + 1 := by have := HTl.out; unfold wrap64; omega
        have Hown : Hid (t.owner = 0 ∨ t.owner = 1) := ha.2.1
        clear cc hc hn hnT ht hm ha hla haa hcc hl0 hl1 hk hlt
        go_wp2_with fail
        refine C2.mono ?_
        rintro e w3 ⟨rfl, g3⟩
        have HW3 : Hid (PlS w w3 O (a : Int) (c : Int)) := HWr.out.grow g3
        have HT3 : Hid (OwnI w3 w.heap.size (.slice (some ⟨tg, toff, none⟩) T.length q1) T) := own_grow HOT.out g3
        clear g3 C2 y HWr HOT
        go_upto_region 8 with fail
        obtain ⟨X, hX⟩ : ∃ X, X = w3.heap.size := ⟨_, rfl⟩
        obtain ⟨V, hV⟩ : ∃ V, V = w3.alloc (.cells #[.int .i64 t.card, .int .i64 t.owner, .int .u8 t.place, .int .i64 t.stamp, .int .i64 t.hurt, .int .i64 t.m0, .int .i64 t.m1, .int .i64 t.m2, .int .i64 t.m3, .int .i64 t.done, .bool t.fresh] 38) := ⟨_, rfl⟩
        have HBx : Hid (V.heap[X]? = some (.cells (thc t).toArray 38 (0, 0))) := by show V.heap[X]? = _; rw [hV, hX]; exact alloc_at _ _ _
        have HWV : Hid (PlS w V O (a : Int) (c : Int)) := by show PlS w V O _ _; rw [hV]; exact HW3.out.grow (World.grownBy_alloc _ _ _)
        have HTV : Hid (OwnI V w.heap.size (.slice (some ⟨tg, toff, none⟩) T.length q1) T) := by show OwnI V _ _ _; rw [hV]; exact own_grow HT3.out (World.grownBy_alloc _ _ _)
        rw [← hX, ← hV]
        have C4 : Calls Try.prog 28 #[.pointer (some ⟨b, 0, none⟩)] V.drew fun e w' => e = .returned (.int .i64 z.nx) ∧ w' = V.drew := by
          obtain ⟨vt, d0, d1, h0, h1, Z⟩ := HZ.out.grow (grown_trans HWV.out.g (grown_drew V))
          exact stamp_any b z.nx V.drew Z.cell.2.2.2.2.2 (nx_ne HSd.out)
        clear hX hV HW3 HT3
        refine wp_region_held_drew (S := fun w' => w'.heap[X]? = some (.cells (thc t).toArray 38 (0, 0))) (by kernel_rfl) (grown_keep (grown_drew V) HBx.out (by simp)) (fun hHeld => ?_)
        refine wpAnyH_take (i := 0) (v := ?_) rfl (by kernel_rfl) (by kernel_rfl) (by kernel_rfl) (fun _ _ _ h => h) (Or.inl ⟨by rfl, ?_⟩) (by assumption) ?_
        rotate_left 1
        · (intro w0 hSw; go_simp; try with_reducible rfl)
        simp only [List.getElem_toArray, List.getElem_cons_zero]
        go_frame
        refine wpAnyH_take (i := 1) (v := ?_) rfl (by kernel_rfl) (by kernel_rfl) (by kernel_rfl) (fun _ _ _ h => h) (Or.inl ⟨by rfl, ?_⟩) (by assumption) ?_
        rotate_left 1
        · (intro w0 hSw; go_simp; try with_reducible rfl)
        simp only [List.getElem_toArray, List.getElem_cons_zero, List.getElem_cons_succ]
        go_frame
        refine wpAnyH_take (i := 2) (v := ?_) rfl (by kernel_rfl) (by kernel_rfl) (by kernel_rfl) (fun _ _ _ h => h) (Or.inl ⟨by rfl, ?_⟩) (by assumption) ?_
        rotate_left 1
        · (intro w0 hSw; go_simp; try with_reducible rfl)
        simp only [List.getElem_toArray, List.getElem_cons_zero, List.getElem_cons_succ]
        go_frame
        refine wpAnyH_take (i := 3) (v := ?_) rfl (by kernel_rfl) (by kernel_rfl) (by kernel_rfl) (fun _ _ _ h => h) (Or.inl ⟨by rfl, ?_⟩) (by assumption) ?_
        rotate_left 1
        · (intro w0 hSw; go_simp; try with_reducible rfl)
        simp only [List.getElem_toArray, List.getElem_cons_zero, List.getElem_cons_succ]
        go_frame
        refine wpAnyH_take (i := 4) (v := ?_) rfl (by kernel_rfl) (by kernel_rfl) (by kernel_rfl) (fun _ _ _ h => h) (Or.inl ⟨by rfl, ?_⟩) (by assumption) ?_
        rotate_left 1
        · (intro w0 hSw; obtain ⟨r0, r1, r2, r3, r4, r5, r6, r7, r8, r9, r10⟩ := box_cells hSw; go_simp; try with_reducible rfl)
        simp only [List.getElem_toArray, List.getElem_cons_zero, List.getElem_cons_succ]
        go_frame
        refine wpAnyH_take (i := 5) (v := ?_) rfl (by kernel_rfl) (by kernel_rfl) (by kernel_rfl) (fun _ _ _ h => h) (Or.inl ⟨by rfl, ?_⟩) (by assumption) ?_
        rotate_left 1
        · (intro w0 hSw; go_simp; try with_reducible rfl)
        simp only [List.getElem_toArray, List.getElem_cons_zero, List.getElem_cons_succ]
        go_frame
        refine wpAnyH_take (i := 6) (v := ?_) rfl (by kernel_rfl) (by kernel_rfl) (by kernel_rfl) (fun _ _ _ h => h) (Or.inl ⟨by rfl, ?_⟩) (by assumption) ?_
        rotate_left 1
        · (intro w0 hSw; go_simp; try with_reducible rfl)
        simp only [List.getElem_toArray, List.getElem_cons_zero, List.getElem_cons_succ]
        go_frame
        refine wpAnyH_take (i := 7) (v := ?_) rfl (by kernel_rfl) (by kernel_rfl) (by kernel_rfl) (fun _ _ _ h => h) (Or.inl ⟨by rfl, ?_⟩) (by assumption) ?_
        rotate_left 1
        · (intro w0 hSw; go_simp; try with_reducible rfl)
        simp only [List.getElem_toArray, List.getElem_cons_zero, List.getElem_cons_succ]
        go_frame
        refine wpAnyH_take (i := 8) (v := ?_) rfl (by kernel_rfl) (by kernel_rfl) (by kernel_rfl) (fun _ _ _ h => h) (Or.inl ⟨by rfl, ?_⟩) (by assumption) ?_
        rotate_left 1
        · (intro w0 hSw; go_simp; try with_reducible rfl)
        simp only [List.getElem_toArray, List.getElem_cons_zero, List.getElem_cons_succ]
        go_frame
        refine wpAnyH_take (i := 9) (v := ?_) rfl (by kernel_rfl) (by kernel_rfl) (by kernel_rfl) (fun _ _ _ h => h) (Or.inl ⟨by rfl, ?_⟩) (by assumption) ?_
        rotate_left 1
        · (intro w0 hSw; obtain ⟨r0, r1, r2, r3, r4, r5, r6, r7, r8, r9, r10⟩ := box_cells hSw; go_simp; try with_reducible rfl)
        simp only [List.getElem_toArray, List.getElem_cons_zero, List.getElem_cons_succ]
        go_frame
        refine wpAnyH_take (i := 10) (v := ?_) rfl (by kernel_rfl) (by kernel_rfl) (by kernel_rfl) (fun _ _ _ h => h) (Or.inl ⟨by rfl, ?_⟩) (by assumption) ?_
        rotate_left 1
        · (intro w0 hSw; go_simp; try with_reducible rfl)
        simp only [List.getElem_toArray, List.getElem_cons_zero, List.getElem_cons_succ]
        go_frame
        refine wpAnyH_take (i := 11) (v := ?_) rfl (by kernel_rfl) (by kernel_rfl) (by kernel_rfl) (fun _ _ _ h => h) (Or.inl ⟨by rfl, ?_⟩) (by assumption) ?_
        rotate_left 1
        · (intro w0 hSw; go_simp; try with_reducible rfl)
        simp only [List.getElem_toArray, List.getElem_cons_zero, List.getElem_cons_succ]
        go_frame
        refine wpAnyH_take (i := 12) (v := ?_) rfl (by kernel_rfl) (by kernel_rfl) (by kernel_rfl) (fun _ _ _ h => h) (Or.inl ⟨by rfl, ?_⟩) (by assumption) ?_
        rotate_left 1
        · (intro w0 hSw; go_simp; try with_reducible rfl)
        simp only [List.getElem_toArray, List.getElem_cons_zero, List.getElem_cons_succ]
        go_frame
        refine wpAnyH_take (i := 13) (v := ?_) rfl (by kernel_rfl) (by kernel_rfl) (by kernel_rfl) (fun _ _ _ h => h) (Or.inl ⟨by rfl, ?_⟩) (by assumption) ?_
        rotate_left 1
        · (intro w0 hSw; go_simp; try with_reducible rfl)
        simp only [List.getElem_toArray, List.getElem_cons_zero, List.getElem_cons_succ]
        go_frame
        refine wpAnyH_take (i := 14) (v := ?_) rfl (by kernel_rfl) (by kernel_rfl) (by kernel_rfl) (fun _ _ _ h => h) (Or.inl ⟨by rfl, ?_⟩) (by assumption) ?_
        rotate_left 1
        · (intro w0 hSw; go_simp; try with_reducible rfl)
        simp only [List.getElem_toArray, List.getElem_cons_zero, List.getElem_cons_succ]
        go_frame
        refine wpAnyH_take (i := 15) (v := ?_) rfl (by kernel_rfl) (by kernel_rfl) (by kernel_rfl) (fun _ _ _ h => h) (Or.inl ⟨by rfl, ?_⟩) (by assumption) ?_
        rotate_left 1
        · (intro w0 hSw; obtain ⟨r0, r1, r2, r3, r4, r5, r6, r7, r8, r9, r10⟩ := box_cells hSw; go_simp; try with_reducible rfl)
        simp only [List.getElem_toArray, List.getElem_cons_zero, List.getElem_cons_succ]
        go_frame
        refine wpAnyH_take (i := 16) (v := ?_) rfl (by kernel_rfl) (by kernel_rfl) (by kernel_rfl) (fun _ _ _ h => h) (Or.inl ⟨by rfl, ?_⟩) (by assumption) ?_
        rotate_left 1
        · (intro w0 hSw; go_simp; try with_reducible rfl)
        simp only [List.getElem_toArray, List.getElem_cons_zero, List.getElem_cons_succ]
        go_frame
        refine wpAnyH_ready (rs := [17]) (by kernel_rfl) (by simp) ?_
        refine AllReadyH.cons rfl (fun K hK => ?_) AllReadyH.nil
        simp only [List.getElem_toArray, List.getElem_cons_zero, List.getElem_cons_succ]
        rw [if_pos (by rfl)]
        go_simp
        go_at_call 28
        refine (C4).mono ?_
        rintro e w9 ⟨rfl, h9⟩
        obtain rfl : V.drew = w9 := h9.symm
        clear h9 C4
        refine hK.out _ _ (grown_keep (grown_drew V) HBx.out (by simp)) (fun hHeld2 => ?_)
        clear hK K
        (try go_frame)
        refine wpAnyH_take (i := 18) (v := ?_) rfl (by kernel_rfl) (by kernel_rfl) (by kernel_rfl) (fun _ _ _ h => h) (Or.inl ⟨by rfl, ?_⟩) (by assumption) ?_
        rotate_left 1
        · (intro w0 hSw; go_simp; try with_reducible rfl)
        simp only [List.getElem_toArray, List.getElem_cons_zero, List.getElem_cons_succ]
        go_frame
        refine wpAnyH_take (i := 19) (v := ?_) rfl (by kernel_rfl) (by kernel_rfl) (by kernel_rfl) (fun _ _ _ h => h) (Or.inl ⟨by rfl, ?_⟩) (by assumption) ?_
        rotate_left 1
        · (intro w0 hSw; go_simp; try with_reducible rfl)
        simp only [List.getElem_toArray, List.getElem_cons_zero, List.getElem_cons_succ]
        go_frame
        refine wpAnyH_done (by kernel_rfl) ?_ _
        obtain ⟨U, hU⟩ : ∃ U, U = V.drew := ⟨_, rfl⟩
        have HBu : Hid (U.heap[X]? = some (.cells (thc t).toArray 38 (0, 0))) := by show U.heap[X]? = _; rw [hU]; exact grown_keep (grown_drew V) HBx.out (by simp)
        have HWu : Hid (PlS w U O (a : Int) (c : Int)) := by show PlS w U O _ _; rw [hU]; exact HWV.out.grow (grown_drew V)
        have HTu : Hid (OwnI U w.heap.size (.slice (some ⟨tg, toff, none⟩) T.length q1) T) := by show OwnI U _ _ _; rw [hU]; exact own_grow HTV.out (grown_drew V)
        rw [← hU]
        clear hU hHeld HBx HWV HTV d1 d2 q4
        obtain ⟨r0, r1, r2, r3, r4, r5, r6, r7, r8, r9, r10⟩ := box_cells HBu.out
        have o0 := (block_cell HWu.out.o 0).trans (show _ = some (Value.int .i64 (a : Int)) from rfl)
        have o1 := (block_cell HWu.out.o 1).trans (show _ = some (Value.int .i64 (c : Int)) from rfl)
        have f0 := block_free HWu.out.o 0
        have f1 := block_free HWu.out.o 1
        rcases Hown.out with ho | ho
        · rw [ho] at r1
          have HE : Hid (PlS w (U.setCell ⟨O, 0, none⟩ (.int .i64 ((a : Int) + 1))) O (ownK z.ts 0 T (k + 1) : Nat) (ownK z.ts 1 T (k + 1) : Nat)) := by
            show PlS w _ O _ _
            rw [HN0.out, HN1.out, if_pos ho, if_neg (by omega)]
            exact HWu.out.set0 _
          have HTe : Hid (OwnI (U.setCell ⟨O, 0, none⟩ (.int .i64 ((a : Int) + 1))) w.heap.size (.slice (some ⟨tg, toff, none⟩) T.length q1) T) := own_setc HTu.out HWu.out.o (by decide)
          clear ho Hown HBu HWu HTu
          go_wp2
          rw [hwk]
          exact ⟨⟨k + 1, HP.out, rfl, by rw [HNext.out], HE.out, HTe.out⟩, HMe.out⟩
        · rw [ho] at r1
          have HE : Hid (PlS w (U.setCell ⟨O, 1, none⟩ (.int .i64 ((c : Int) + 1))) O (ownK z.ts 0 T (k + 1) : Nat) (ownK z.ts 1 T (k + 1) : Nat)) := by
            show PlS w _ O _ _
            rw [HN0.out, HN1.out, if_pos ho, if_neg (by omega)]
            exact HWu.out.set1 _
          have HTe : Hid (OwnI (U.setCell ⟨O, 1, none⟩ (.int .i64 ((c : Int) + 1))) w.heap.size (.slice (some ⟨tg, toff, none⟩) T.length q1) T) := own_setc HTu.out HWu.out.o (by decide)
          clear ho Hown HBu HWu HTu
          go_wp2
          rw [hwk]
          exact ⟨⟨k + 1, HP.out, rfl, by rw [HNext.out], HE.out, HTe.out⟩, HMe.out⟩
      · have hlt' : ¬ (k : Int) < T.length := by omega
        have HF : Hid ((ownK z.ts 0 T k ≤ 8 ∧ ownK z.ts 1 T k ≤ 8) ∧ PlS w wr O (ownK z.ts 0 T k : Nat) (ownK z.ts 1 T k : Nat) ∧ OwnI wr w.heap.size (.slice p1 T.length q1) T) := ⟨⟨ownK_full HSd.out HT.out (Or.inl rfl) (by omega), ownK_full HSd.out HT.out (Or.inr rfl) (by omega)⟩, HWr.out, HOT.out⟩
        obtain ⟨la, hla⟩ : ∃ la, la = lastK z.ts T k := ⟨_, rfl⟩
        rw [← hla]
        clear hla hk hlt HWr HOT
        go_wp2_with fail
        go_meet
        case rel => exact ⟨_, _, HF.out⟩
  case rest =>
    obtain ⟨a, c, h8, W, OT⟩ := hcut
    obtain ⟨Wb, hWb⟩ : ∃ Wb, Wb = wc := ⟨_, rfl⟩
    subst hWb
    have HA8 : Hid (a ≤ 8 ∧ c ≤ 8) := h8
    have HWr : Hid (PlS w Wb O (a : Int) (c : Int)) := W
    have HOT : Hid (OwnI Wb w.heap.size (.slice p1 T.length q1) T) := OT
    clear h8 W OT HW HO1 HO2 HG1 HOe
    go_upto_block 2 with fail
    go_cut [9, 10, 11, 12, 13, 14] from 61 to 165 (fun _ _ _ _ _ _ wc => PlS w wc O (a : Int) (c : Int))
    case first =>
      go_wp2_with fail
      go_loopw [9, 10, 11, 12, 13, 14] (fun i _ _ _ _ _ wr => ∃ j : Nat, j ≤ z.ts.length ∧ i = .int .i64 ((j : Int) + 1) ∧ PlS w wr O (a : Int) (c : Int) ∧ OwnI wr w.heap.size (.slice p1 T.length q1) T) (fun i _ _ _ _ _ _ => z.ts.length + 1 - (intOf i).toNat)
      case atStart => exact ⟨0, Nat.zero_le _, rfl, HWr.out, HOT.out⟩
      case round =>
        obtain ⟨j, hj, rfl, W, OT⟩ := hrel
        obtain ⟨Wc, hWc⟩ : ∃ Wc, Wc = wr := ⟨_, rfl⟩
        subst hWc
        have HW : Hid (PlS w Wc O (a : Int) (c : Int)) := W
        have HTr : Hid (OwnI Wc w.heap.size (.slice p1 T.length q1) T) := OT
        clear W OT HWr HOT
        have CL : Calls Try.prog 36 #[.pointer (some ⟨b, 0, none⟩)] Wc fun e w' => e = .returned (.int .i64 (z.ts.length : Int)) ∧ w' = Wc := by
          obtain ⟨vt, d0, d1, h0, h1, Z⟩ := HZ.out.grow HW.out.g
          obtain ⟨pt, ct, rfl, _⟩ := own_slice Z.ts
          exact len_any b z.ts.length ct pt _ _ Z.cell.1 Z.cell.2.2.2.2.2 (nx_ne HSd.out)
        by_cases hlt : j < z.ts.length
        · obtain ⟨hle, hth, hwj, ho1, ho2⟩ := placed_at HSd.out hlt
          have CT := thing_yes b Sb z ((j : Int) + 1) Wc (HZ.out.grow HW.out.g) HSd.out hth
          obtain ⟨t, ht⟩ : ∃ t, t = thAt z.ts ((j : Int) + 1) := ⟨_, rfl⟩
          rw [← ht] at CT ho1 ho2
          unfold thv at CT
          have ha := HSd.out.each t (by rw [ht]; exact there_mem hth)
          have hpl := HSd.out.placed HT.out hth rfl
          rw [← ht] at hpl
          obtain ⟨cd, ch, ct, x1, x2, x4, hcd, hch, hct, hcf, e1, e2, e4, m1, m2, m4, b1, b2, b4, w1', w2', dg, dh⟩ := placed_nums hpl
          have Hcd : Hid ((z.dk t.owner).count ((j : Int) + 1) = cd) := hcd
          have Hch : Hid ((z.hd t.owner).count ((j : Int) + 1) = ch) := hch
          have Hct : Hid (T.count ((j : Int) + 1) = ct) := hct
          have Hcf : Hid ((z.dk (1 - t.owner)).count ((j : Int) + 1) + (z.hd (1 - t.owner)).count ((j : Int) + 1) = 0) := hcf
          have HMs : Hid ((t.place == 1) = x1 ∧ (t.place == 2) = x2 ∧ (t.place == 4) = x4 ∧ ((cd : Int) == 1) = x1 ∧ ((ch : Int) == 1) = x2 ∧ ((ct : Int) == 1) = x4 ∧ (x1 != x1) = false ∧ (x2 != x2) = false ∧ (x4 != x4) = false ∧ wrap64 ((cd : Int) + (ch : Int)) = (cd : Int) + (ch : Int) ∧ wrap64 ((cd : Int) + (ch : Int) + (ct : Int)) = (cd : Int) + (ch : Int) + (ct : Int) ∧ decide ((cd : Int) + (ch : Int) + (ct : Int) > 1) = false ∧ decide (1 < IntKind.i64.wrap (IntKind.i64.wrap ((cd : Int) + (ch : Int)) + (ct : Int))) = false) := ⟨e1, e2, e4, m1, m2, m4, b1, b2, b4, w1', w2', dg, dh⟩
          have Hown : Hid (t.owner = 0 ∨ t.owner = 1) := ha.2.1
          have Hoff : Hid (t.place ≠ 4 → t = t.home t.place) := ha.2.2.2.1
          have Hwj : Hid (wrap64 ((j : Int) + 1 + 1) = (j : Int) + 1 + 1) := hwj
          have HJ : Hid (j + 1 ≤ z.ts.length) := hlt
          have HI : Hid (Value.int .i64 ((j : Int) + 1 + 1) = .int .i64 (((j + 1 : Nat) : Int) + 1)) := two_next j
          have HMe : Hid (z.ts.length + 1 - (intOf (.int .i64 ((j : Int) + 1 + 1))).toNat < z.ts.length + 1 - (intOf (.int .i64 ((j : Int) + 1))).toNat) := meas_two hlt
          clear hth ht ha hpl hj hlt hcd hch hct hcf e1 e2 e4 m1 m2 m4 b1 b2 b4 w1' w2' dg dh hwj
          go_wp2_with fail
          refine CL.mono ?_
          rintro e w9 ⟨rfl, h9⟩
          obtain rfl : Wc = w9 := h9.symm
          clear CL h9
          go_wp2_with fail
          refine CT.mono ?_
          rintro e w3 ⟨rfl, g3⟩
          have HW3 : Hid (PlS w w3 O (a : Int) (c : Int)) := HW.out.grow g3
          have HT3 : Hid (OwnI w3 w.heap.size (.slice p1 T.length q1) T) := own_grow HTr.out g3
          clear g3 CT HW HTr
          obtain ⟨X, hX⟩ : ∃ X, X = w3.heap.size := ⟨_, rfl⟩
          obtain ⟨V, hV⟩ : ∃ V, V = w3.alloc (.cells #[.int .i64 t.card, .int .i64 t.owner, .int .u8 t.place, .int .i64 t.stamp, .int .i64 t.hurt, .int .i64 t.m0, .int .i64 t.m1, .int .i64 t.m2, .int .i64 t.m3, .int .i64 t.done, .bool t.fresh] 38) := ⟨_, rfl⟩
          have HXe : Hid (X = w3.heap.size) := hX
          have HVe : Hid (V = w3.alloc (.cells #[.int .i64 t.card, .int .i64 t.owner, .int .u8 t.place, .int .i64 t.stamp, .int .i64 t.hurt, .int .i64 t.m0, .int .i64 t.m1, .int .i64 t.m2, .int .i64 t.m3, .int .i64 t.done, .bool t.fresh] 38)) := hV
          have HBx : Hid (V.heap[X]? = some (.cells (thc t).toArray 38 (0, 0))) := by show V.heap[X]? = _; rw [hV, hX]; exact alloc_at _ _ _
          have HWV : Hid (PlS w V O (a : Int) (c : Int)) := by show PlS w V O _ _; rw [hV]; exact HW3.out.grow (World.grownBy_alloc _ _ _)
          have HTV : Hid (OwnI V w.heap.size (.slice p1 T.length q1) T) := by show OwnI V _ _ _; rw [hV]; exact own_grow HT3.out (World.grownBy_alloc _ _ _)
          clear hX hV HW3 HT3
          go_upto_region 18 with fail
          rw [← HXe.out, ← HVe.out]
          clear HXe HVe ho1 ho2 hle
          go_cut [12, 13, 14] from 85 to 111 (fun x12 x13 x14 wc => x12 = .int .i64 (cd : Int) ∧ x13 = .int .i64 (ch : Int) ∧ x14 = .int .i64 0 ∧ V.grownBy wc none)
          case first =>
            clear HMs Hoff HMe HI HJ Hwj Hct
            rcases Hown.out with ho | ho
            · have Ho : Hid (t.owner = 0) := ho
              rw [ho] at Hcd Hch Hcf
              have C4 := pDeck_any b Sb z 0 V.drew (HZ.out.grow (grown_trans HWV.out.g (grown_drew V))) HSd.out
              rw [inOf_dk0] at C4
              have Hcf2 : Hid ((z.dk 1).count ((j : Int) + 1) + (z.hd 1).count ((j : Int) + 1) = 0) := Hcf
              clear ho Hown Hcf
              refine wp_region_held_drew (S := fun w' => w'.heap[X]? = some (.cells (thc t).toArray 38 (0, 0))) (by kernel_rfl) (grown_keep (grown_drew V) HBx.out (by simp)) (fun hHeld => ?_)
              refine wpAnyH_take (i := 0) (v := ?_) rfl (by kernel_rfl) (by kernel_rfl) (by kernel_rfl) (fun _ _ _ h => h) (Or.inl ⟨by rfl, ?_⟩) (by assumption) ?_
              rotate_left 1
              · (intro w0 hSw; go_simp; try with_reducible rfl)
              simp only [List.getElem_toArray, List.getElem_cons_zero]
              go_frame
              refine wpAnyH_take (i := 1) (v := ?_) rfl (by kernel_rfl) (by kernel_rfl) (by kernel_rfl) (fun _ _ _ h => h) (Or.inl ⟨by rfl, ?_⟩) (by assumption) ?_
              rotate_left 1
              · (intro w0 hSw; go_simp; try with_reducible rfl)
              simp only [List.getElem_toArray, List.getElem_cons_zero, List.getElem_cons_succ]
              go_frame
              refine wpAnyH_take (i := 2) (v := ?_) rfl (by kernel_rfl) (by kernel_rfl) (by kernel_rfl) (fun _ _ _ h => h) (Or.inl ⟨by rfl, ?_⟩) (by assumption) ?_
              rotate_left 1
              · (intro w0 hSw; go_simp; try with_reducible rfl)
              simp only [List.getElem_toArray, List.getElem_cons_zero, List.getElem_cons_succ]
              go_frame
              refine wpAnyH_take (i := 3) (v := ?_) rfl (by kernel_rfl) (by kernel_rfl) (by kernel_rfl) (fun _ _ _ h => h) (Or.inl ⟨by rfl, ?_⟩) (by assumption) ?_
              rotate_left 1
              · (intro w0 hSw; obtain ⟨r0, r1, r2, r3, r4, r5, r6, r7, r8, r9, r10⟩ := box_cells hSw; rw [Ho.out] at r1; go_simp; try with_reducible rfl)
              simp only [List.getElem_toArray, List.getElem_cons_zero, List.getElem_cons_succ]
              go_frame
              refine wpAnyH_take (i := 7) (v := ?_) rfl (by kernel_rfl) (by kernel_rfl) (by kernel_rfl) (fun _ _ _ h => h) (Or.inl ⟨by rfl, ?_⟩) (by assumption) ?_
              rotate_left 1
              · (intro w0 hSw; go_simp; try with_reducible rfl)
              simp only [List.getElem_toArray, List.getElem_cons_zero, List.getElem_cons_succ]
              go_frame
              refine wpAnyH_take (i := 8) (v := ?_) rfl (by kernel_rfl) (by kernel_rfl) (by kernel_rfl) (fun _ _ _ h => h) (Or.inl ⟨by rfl, ?_⟩) (by assumption) ?_
              rotate_left 1
              · (intro w0 hSw; go_simp; try with_reducible rfl)
              simp only [List.getElem_toArray, List.getElem_cons_zero, List.getElem_cons_succ]
              go_frame
              refine wpAnyH_take (i := 9) (v := ?_) rfl (by kernel_rfl) (by kernel_rfl) (by kernel_rfl) (fun _ _ _ h => h) (Or.inl ⟨by rfl, ?_⟩) (by assumption) ?_
              rotate_left 1
              · (intro w0 hSw; go_simp; try with_reducible rfl)
              simp only [List.getElem_toArray, List.getElem_cons_zero, List.getElem_cons_succ]
              go_frame
              refine wpAnyH_take (i := 10) (v := ?_) rfl (by kernel_rfl) (by kernel_rfl) (by kernel_rfl) (fun _ _ _ h => h) (Or.inl ⟨by rfl, ?_⟩) (by assumption) ?_
              rotate_left 1
              · (intro w0 hSw; obtain ⟨r0, r1, r2, r3, r4, r5, r6, r7, r8, r9, r10⟩ := box_cells hSw; rw [Ho.out] at r1; go_simp; try with_reducible rfl)
              simp only [List.getElem_toArray, List.getElem_cons_zero, List.getElem_cons_succ]
              go_frame
              refine wpAnyH_take (i := 14) (v := ?_) rfl (by kernel_rfl) (by kernel_rfl) (by kernel_rfl) (fun _ _ _ h => h) (Or.inl ⟨by rfl, ?_⟩) (by assumption) ?_
              rotate_left 1
              · (intro w0 hSw; go_simp; try with_reducible rfl)
              simp only [List.getElem_toArray, List.getElem_cons_zero, List.getElem_cons_succ]
              go_frame
              refine wpAnyH_take (i := 15) (v := ?_) rfl (by kernel_rfl) (by kernel_rfl) (by kernel_rfl) (fun _ _ _ h => h) (Or.inl ⟨by rfl, ?_⟩) (by assumption) ?_
              rotate_left 1
              · (intro w0 hSw; go_simp; try with_reducible rfl)
              simp only [List.getElem_toArray, List.getElem_cons_zero, List.getElem_cons_succ]
              go_frame
              refine wpAnyH_take (i := 16) (v := ?_) rfl (by kernel_rfl) (by kernel_rfl) (by kernel_rfl) (fun _ _ _ h => h) (Or.inl ⟨by rfl, ?_⟩) (by assumption) ?_
              rotate_left 1
              · (intro w0 hSw; go_simp; try with_reducible rfl)
              simp only [List.getElem_toArray, List.getElem_cons_zero, List.getElem_cons_succ]
              go_frame
              refine wpAnyH_take (i := 17) (v := ?_) rfl (by kernel_rfl) (by kernel_rfl) (by kernel_rfl) (fun _ _ _ h => h) (Or.inl ⟨by rfl, ?_⟩) (by assumption) ?_
              rotate_left 1
              · (intro w0 hSw; obtain ⟨r0, r1, r2, r3, r4, r5, r6, r7, r8, r9, r10⟩ := box_cells hSw; rw [Ho.out] at r1; go_simp; try with_reducible rfl)
              simp only [List.getElem_toArray, List.getElem_cons_zero, List.getElem_cons_succ]
              go_frame
              refine wpAnyH_take (i := 18) (v := ?_) rfl (by kernel_rfl) (by kernel_rfl) (by kernel_rfl) (fun _ _ _ h => h) (Or.inl ⟨by rfl, ?_⟩) (by assumption) ?_
              rotate_left 1
              · (intro w0 hSw; go_simp; try with_reducible rfl)
              simp only [List.getElem_toArray, List.getElem_cons_zero, List.getElem_cons_succ]
              go_frame
              refine wpAnyH_take (i := 20) (v := ?_) rfl (by kernel_rfl) (by kernel_rfl) (by kernel_rfl) (fun _ _ _ h => h) (Or.inl ⟨by rfl, ?_⟩) (by assumption) ?_
              rotate_left 1
              · (intro w0 hSw; go_simp; try with_reducible rfl)
              simp only [List.getElem_toArray, List.getElem_cons_zero, List.getElem_cons_succ]
              go_frame
              refine wpAnyH_take (i := 21) (v := ?_) rfl (by kernel_rfl) (by kernel_rfl) (by kernel_rfl) (fun _ _ _ h => h) (Or.inl ⟨by rfl, ?_⟩) (by assumption) ?_
              rotate_left 1
              · (intro w0 hSw; go_simp; try with_reducible rfl)
              simp only [List.getElem_toArray, List.getElem_cons_zero, List.getElem_cons_succ]
              go_frame
              refine wpAnyH_take (i := 22) (v := ?_) rfl (by kernel_rfl) (by kernel_rfl) (by kernel_rfl) (fun _ _ _ h => h) (Or.inl ⟨by rfl, ?_⟩) (by assumption) ?_
              rotate_left 1
              · (intro w0 hSw; obtain ⟨r0, r1, r2, r3, r4, r5, r6, r7, r8, r9, r10⟩ := box_cells hSw; rw [Ho.out] at r1; go_simp; try with_reducible rfl)
              simp only [List.getElem_toArray, List.getElem_cons_zero, List.getElem_cons_succ]
              go_frame
              refine wpAnyH_take (i := 23) (v := ?_) rfl (by kernel_rfl) (by kernel_rfl) (by kernel_rfl) (fun _ _ _ h => h) (Or.inl ⟨by rfl, ?_⟩) (by assumption) ?_
              rotate_left 1
              · (intro w0 hSw; go_simp; try with_reducible rfl)
              simp only [List.getElem_toArray, List.getElem_cons_zero, List.getElem_cons_succ]
              go_frame
              refine wpAnyH_ready (rs := [4]) (by kernel_rfl) (by simp) ?_
              refine AllReadyH.cons rfl (fun K hK => ?_) AllReadyH.nil
              simp only [List.getElem_toArray, List.getElem_cons_zero, List.getElem_cons_succ]
              go_simp
              go_at_call 25
              refine (C4).mono ?_
              rintro e w4 ⟨v4, rfl, o9, g9⟩
              have HGw4 : Hid (V.grownBy w4 none) := grown_trans (grown_drew V) g9
              have HOv4 : Hid (OwnI w4 w.heap.size v4 (z.dk 0)) := own_lowK o9 ((grown_trans HWV.out.g (grown_drew V)).size)
              have K4 := count1 ((j : Int) + 1) HOv4.out (Nat.le_trans (deck_few HSd.out (by decide)).1 (by decide))
              rw [Hcd.out] at K4
              obtain ⟨P4, Q4, rfl⟩ := HOv4.out.form
              clear o9 g9 C4
              refine hK.out _ _ (grown_keep (HGw4.out) HBx.out (by simp)) (fun hHeld2 => ?_)
              clear hK K
              (try go_frame)
              refine wpAnyH_ready (rs := [5]) (by kernel_rfl) (by simp) ?_
              refine AllReadyH.cons rfl (fun K9 hK => ?_) AllReadyH.nil
              simp only [List.getElem_toArray, List.getElem_cons_zero, List.getElem_cons_succ]
              go_simp
              refine hK.out _ _ (grown_keep (World.grownBy_alloc _ _ none) (grown_keep (HGw4.out) HBx.out (by simp)) (by simp)) (fun hHeld3 => ?_)
              clear hK K9
              (try go_frame)
              refine wpAnyH_ready (rs := [6]) (by kernel_rfl) (by simp) ?_
              refine AllReadyH.cons rfl (fun K hK => ?_) AllReadyH.nil
              simp only [List.getElem_toArray, List.getElem_cons_zero, List.getElem_cons_succ]
              go_simp
              go_at_call 37
              refine (K4).mono ?_
              rintro e w9 ⟨rfl, h9⟩
              subst h9
              have HGa4 : Hid (V.grownBy (w4.alloc (.cells #[(Value.slice P4 (z.dk 0).length Q4)] 22)) none) := grown_push HGw4.out _
              have C5 := pHand_any b Sb z 0 (w4.alloc (.cells #[(Value.slice P4 (z.dk 0).length Q4)] 22)) (HZ.out.grow (grown_trans HWV.out.g HGa4.out)) HSd.out
              rw [inOf_hd0] at C5
              clear K4
              refine hK.out _ _ (grown_keep (HGa4.out) HBx.out (by simp)) (fun hHeld2 => ?_)
              clear hK K
              (try go_frame)
              refine wpAnyH_ready (rs := [11]) (by kernel_rfl) (by simp) ?_
              refine AllReadyH.cons rfl (fun K hK => ?_) AllReadyH.nil
              simp only [List.getElem_toArray, List.getElem_cons_zero, List.getElem_cons_succ]
              go_simp
              go_at_call 31
              refine (C5).mono ?_
              rintro e w5 ⟨v5, rfl, o9, g9⟩
              have HGw5 : Hid (V.grownBy w5 none) := grown_trans HGa4.out g9
              have HOv5 : Hid (OwnI w5 w.heap.size v5 (z.hd 0)) := own_lowK o9 ((grown_trans HWV.out.g HGa4.out).size)
              have K5 := count1 ((j : Int) + 1) HOv5.out (Nat.le_trans (deck_few HSd.out (by decide)).2 (by decide))
              rw [Hch.out] at K5
              obtain ⟨P5, Q5, rfl⟩ := HOv5.out.form
              clear o9 g9 C5
              refine hK.out _ _ (grown_keep (HGw5.out) HBx.out (by simp)) (fun hHeld2 => ?_)
              clear hK K
              (try go_frame)
              refine wpAnyH_ready (rs := [12]) (by kernel_rfl) (by simp) ?_
              refine AllReadyH.cons rfl (fun K9 hK => ?_) AllReadyH.nil
              simp only [List.getElem_toArray, List.getElem_cons_zero, List.getElem_cons_succ]
              go_simp
              refine hK.out _ _ (grown_keep (World.grownBy_alloc _ _ none) (grown_keep (HGw5.out) HBx.out (by simp)) (by simp)) (fun hHeld3 => ?_)
              clear hK K9
              (try go_frame)
              refine wpAnyH_ready (rs := [13]) (by kernel_rfl) (by simp) ?_
              refine AllReadyH.cons rfl (fun K hK => ?_) AllReadyH.nil
              simp only [List.getElem_toArray, List.getElem_cons_zero, List.getElem_cons_succ]
              go_simp
              go_at_call 37
              refine (K5).mono ?_
              rintro e w9 ⟨rfl, h9⟩
              subst h9
              have HGa5 : Hid (V.grownBy (w5.alloc (.cells #[(Value.slice P5 (z.hd 0).length Q5)] 22)) none) := grown_push HGw5.out _
              have C6 := pDeck_any b Sb z 1 (w5.alloc (.cells #[(Value.slice P5 (z.hd 0).length Q5)] 22)) (HZ.out.grow (grown_trans HWV.out.g HGa5.out)) HSd.out
              rw [inOf_dk1] at C6
              clear K5
              refine hK.out _ _ (grown_keep (HGa5.out) HBx.out (by simp)) (fun hHeld2 => ?_)
              clear hK K
              (try go_frame)
              refine wpAnyH_ready (rs := [19]) (by kernel_rfl) (by simp) ?_
              refine AllReadyH.cons rfl (fun K hK => ?_) AllReadyH.nil
              simp only [List.getElem_toArray, List.getElem_cons_zero, List.getElem_cons_succ]
              go_simp
              go_at_call 25
              refine (C6).mono ?_
              rintro e w6 ⟨v6, rfl, o9, g9⟩
              have HGw6 : Hid (V.grownBy w6 none) := grown_trans HGa5.out g9
              have HOv6 : Hid (OwnI w6 w.heap.size v6 (z.dk 1)) := own_lowK o9 ((grown_trans HWV.out.g HGa5.out).size)
              have C7 := pHand_any b Sb z 1 w6 (HZ.out.grow (grown_trans HWV.out.g HGw6.out)) HSd.out
              rw [inOf_hd1] at C7
              obtain ⟨P6, Q6, rfl⟩ := HOv6.out.form
              clear o9 g9 C6
              refine hK.out _ _ (grown_keep (HGw6.out) HBx.out (by simp)) (fun hHeld2 => ?_)
              clear hK K
              (try go_frame)
              refine wpAnyH_ready (rs := [24]) (by kernel_rfl) (by simp) ?_
              refine AllReadyH.cons rfl (fun K hK => ?_) AllReadyH.nil
              simp only [List.getElem_toArray, List.getElem_cons_zero, List.getElem_cons_succ]
              go_simp
              go_at_call 31
              refine (C7).mono ?_
              rintro e w7 ⟨v7, rfl, o9, g9⟩
              have HGw7 : Hid (V.grownBy w7 none) := grown_trans HGw6.out g9
              have HOv7 : Hid (OwnI w7 w.heap.size v7 (z.hd 1)) := own_lowK o9 ((grown_trans HWV.out.g HGw6.out).size)
              have K7 := count2 ((j : Int) + 1) (OwnI.grow HOv6.out g9) HOv7.out (Nat.le_trans (deck_few HSd.out (by decide)).1 (by decide)) (Nat.le_trans (deck_few HSd.out (by decide)).2 (by decide))
              rw [Hcf2.out] at K7
              obtain ⟨P7, Q7, rfl⟩ := HOv7.out.form
              clear o9 g9 C7
              refine hK.out _ _ (grown_keep (HGw7.out) HBx.out (by simp)) (fun hHeld2 => ?_)
              clear hK K
              (try go_frame)
              refine wpAnyH_ready (rs := [25]) (by kernel_rfl) (by simp) ?_
              refine AllReadyH.cons rfl (fun K9 hK => ?_) AllReadyH.nil
              simp only [List.getElem_toArray, List.getElem_cons_zero, List.getElem_cons_succ]
              go_simp
              refine hK.out _ _ (grown_keep (World.grownBy_alloc _ _ none) (grown_keep (HGw7.out) HBx.out (by simp)) (by simp)) (fun hHeld3 => ?_)
              clear hK K9
              (try go_frame)
              refine wpAnyH_ready (rs := [26]) (by kernel_rfl) (by simp) ?_
              refine AllReadyH.cons rfl (fun K hK => ?_) AllReadyH.nil
              simp only [List.getElem_toArray, List.getElem_cons_zero, List.getElem_cons_succ]
              go_simp
              go_at_call 37
              refine (K7).mono ?_
              rintro e w9 ⟨rfl, h9⟩
              subst h9
              have HGa7 : Hid (V.grownBy (w7.alloc (.cells #[(Value.slice P6 (z.dk 1).length Q6), (Value.slice P7 (z.hd 1).length Q7)] 22)) none) := grown_push HGw7.out _
              clear K7
              refine hK.out _ _ (grown_keep (HGa7.out) HBx.out (by simp)) (fun hHeld2 => ?_)
              clear hK K
              (try go_frame)
              refine wpAnyH_take (i := 27) (v := ?_) rfl (by kernel_rfl) (by kernel_rfl) (by kernel_rfl) (fun _ _ _ h => h) (Or.inl ⟨by rfl, ?_⟩) (by assumption) ?_
              rotate_left 1
              · (intro w0 hSw; go_simp; try with_reducible rfl)
              simp only [List.getElem_toArray, List.getElem_cons_zero, List.getElem_cons_succ]
              go_frame
              refine wpAnyH_take (i := 28) (v := ?_) rfl (by kernel_rfl) (by kernel_rfl) (by kernel_rfl) (fun _ _ _ h => h) (Or.inl ⟨by rfl, ?_⟩) (by assumption) ?_
              rotate_left 1
              · (intro w0 hSw; go_simp; try with_reducible rfl)
              simp only [List.getElem_toArray, List.getElem_cons_zero, List.getElem_cons_succ]
              go_frame
              refine wpAnyH_take (i := 29) (v := ?_) rfl (by kernel_rfl) (by kernel_rfl) (by kernel_rfl) (fun _ _ _ h => h) (Or.inl ⟨by rfl, ?_⟩) (by assumption) ?_
              rotate_left 1
              · (intro w0 hSw; go_simp; try with_reducible rfl)
              simp only [List.getElem_toArray, List.getElem_cons_zero, List.getElem_cons_succ]
              go_frame
              refine wpAnyH_done (by kernel_rfl) ?_ _
              go_wp2_with fail
              go_meet
              case rel => exact ⟨rfl, rfl, rfl, HGa7.out⟩
            · have Ho : Hid (t.owner = 1) := ho
              rw [ho] at Hcd Hch Hcf
              have C4 := pDeck_any b Sb z 1 V.drew (HZ.out.grow (grown_trans HWV.out.g (grown_drew V))) HSd.out
              rw [inOf_dk1] at C4
              have Hcf2 : Hid ((z.dk 0).count ((j : Int) + 1) + (z.hd 0).count ((j : Int) + 1) = 0) := Hcf
              clear ho Hown Hcf
              refine wp_region_held_drew (S := fun w' => w'.heap[X]? = some (.cells (thc t).toArray 38 (0, 0))) (by kernel_rfl) (grown_keep (grown_drew V) HBx.out (by simp)) (fun hHeld => ?_)
              refine wpAnyH_take (i := 0) (v := ?_) rfl (by kernel_rfl) (by kernel_rfl) (by kernel_rfl) (fun _ _ _ h => h) (Or.inl ⟨by rfl, ?_⟩) (by assumption) ?_
              rotate_left 1
              · (intro w0 hSw; go_simp; try with_reducible rfl)
              simp only [List.getElem_toArray, List.getElem_cons_zero]
              go_frame
              refine wpAnyH_take (i := 1) (v := ?_) rfl (by kernel_rfl) (by kernel_rfl) (by kernel_rfl) (fun _ _ _ h => h) (Or.inl ⟨by rfl, ?_⟩) (by assumption) ?_
              rotate_left 1
              · (intro w0 hSw; go_simp; try with_reducible rfl)
              simp only [List.getElem_toArray, List.getElem_cons_zero, List.getElem_cons_succ]
              go_frame
              refine wpAnyH_take (i := 2) (v := ?_) rfl (by kernel_rfl) (by kernel_rfl) (by kernel_rfl) (fun _ _ _ h => h) (Or.inl ⟨by rfl, ?_⟩) (by assumption) ?_
              rotate_left 1
              · (intro w0 hSw; go_simp; try with_reducible rfl)
              simp only [List.getElem_toArray, List.getElem_cons_zero, List.getElem_cons_succ]
              go_frame
              refine wpAnyH_take (i := 3) (v := ?_) rfl (by kernel_rfl) (by kernel_rfl) (by kernel_rfl) (fun _ _ _ h => h) (Or.inl ⟨by rfl, ?_⟩) (by assumption) ?_
              rotate_left 1
              · (intro w0 hSw; obtain ⟨r0, r1, r2, r3, r4, r5, r6, r7, r8, r9, r10⟩ := box_cells hSw; rw [Ho.out] at r1; go_simp; try with_reducible rfl)
              simp only [List.getElem_toArray, List.getElem_cons_zero, List.getElem_cons_succ]
              go_frame
              refine wpAnyH_take (i := 7) (v := ?_) rfl (by kernel_rfl) (by kernel_rfl) (by kernel_rfl) (fun _ _ _ h => h) (Or.inl ⟨by rfl, ?_⟩) (by assumption) ?_
              rotate_left 1
              · (intro w0 hSw; go_simp; try with_reducible rfl)
              simp only [List.getElem_toArray, List.getElem_cons_zero, List.getElem_cons_succ]
              go_frame
              refine wpAnyH_take (i := 8) (v := ?_) rfl (by kernel_rfl) (by kernel_rfl) (by kernel_rfl) (fun _ _ _ h => h) (Or.inl ⟨by rfl, ?_⟩) (by assumption) ?_
              rotate_left 1
              · (intro w0 hSw; go_simp; try with_reducible rfl)
              simp only [List.getElem_toArray, List.getElem_cons_zero, List.getElem_cons_succ]
              go_frame
              refine wpAnyH_take (i := 9) (v := ?_) rfl (by kernel_rfl) (by kernel_rfl) (by kernel_rfl) (fun _ _ _ h => h) (Or.inl ⟨by rfl, ?_⟩) (by assumption) ?_
              rotate_left 1
              · (intro w0 hSw; go_simp; try with_reducible rfl)
              simp only [List.getElem_toArray, List.getElem_cons_zero, List.getElem_cons_succ]
              go_frame
              refine wpAnyH_take (i := 10) (v := ?_) rfl (by kernel_rfl) (by kernel_rfl) (by kernel_rfl) (fun _ _ _ h => h) (Or.inl ⟨by rfl, ?_⟩) (by assumption) ?_
              rotate_left 1
              · (intro w0 hSw; obtain ⟨r0, r1, r2, r3, r4, r5, r6, r7, r8, r9, r10⟩ := box_cells hSw; rw [Ho.out] at r1; go_simp; try with_reducible rfl)
              simp only [List.getElem_toArray, List.getElem_cons_zero, List.getElem_cons_succ]
              go_frame
              refine wpAnyH_take (i := 14) (v := ?_) rfl (by kernel_rfl) (by kernel_rfl) (by kernel_rfl) (fun _ _ _ h => h) (Or.inl ⟨by rfl, ?_⟩) (by assumption) ?_
              rotate_left 1
              · (intro w0 hSw; go_simp; try with_reducible rfl)
              simp only [List.getElem_toArray, List.getElem_cons_zero, List.getElem_cons_succ]
              go_frame
              refine wpAnyH_take (i := 15) (v := ?_) rfl (by kernel_rfl) (by kernel_rfl) (by kernel_rfl) (fun _ _ _ h => h) (Or.inl ⟨by rfl, ?_⟩) (by assumption) ?_
              rotate_left 1
              · (intro w0 hSw; go_simp; try with_reducible rfl)
              simp only [List.getElem_toArray, List.getElem_cons_zero, List.getElem_cons_succ]
              go_frame
              refine wpAnyH_take (i := 16) (v := ?_) rfl (by kernel_rfl) (by kernel_rfl) (by kernel_rfl) (fun _ _ _ h => h) (Or.inl ⟨by rfl, ?_⟩) (by assumption) ?_
              rotate_left 1
              · (intro w0 hSw; go_simp; try with_reducible rfl)
              simp only [List.getElem_toArray, List.getElem_cons_zero, List.getElem_cons_succ]
              go_frame
              refine wpAnyH_take (i := 17) (v := ?_) rfl (by kernel_rfl) (by kernel_rfl) (by kernel_rfl) (fun _ _ _ h => h) (Or.inl ⟨by rfl, ?_⟩) (by assumption) ?_
              rotate_left 1
              · (intro w0 hSw; obtain ⟨r0, r1, r2, r3, r4, r5, r6, r7, r8, r9, r10⟩ := box_cells hSw; rw [Ho.out] at r1; go_simp; try with_reducible rfl)
              simp only [List.getElem_toArray, List.getElem_cons_zero, List.getElem_cons_succ]
              go_frame
              refine wpAnyH_take (i := 18) (v := ?_) rfl (by kernel_rfl) (by kernel_rfl) (by kernel_rfl) (fun _ _ _ h => h) (Or.inl ⟨by rfl, ?_⟩) (by assumption) ?_
              rotate_left 1
              · (intro w0 hSw; go_simp; try with_reducible rfl)
              simp only [List.getElem_toArray, List.getElem_cons_zero, List.getElem_cons_succ]
              go_frame
              refine wpAnyH_take (i := 20) (v := ?_) rfl (by kernel_rfl) (by kernel_rfl) (by kernel_rfl) (fun _ _ _ h => h) (Or.inl ⟨by rfl, ?_⟩) (by assumption) ?_
              rotate_left 1
              · (intro w0 hSw; go_simp; try with_reducible rfl)
              simp only [List.getElem_toArray, List.getElem_cons_zero, List.getElem_cons_succ]
              go_frame
              refine wpAnyH_take (i := 21) (v := ?_) rfl (by kernel_rfl) (by kernel_rfl) (by kernel_rfl) (fun _ _ _ h => h) (Or.inl ⟨by rfl, ?_⟩) (by assumption) ?_
              rotate_left 1
              · (intro w0 hSw; go_simp; try with_reducible rfl)
              simp only [List.getElem_toArray, List.getElem_cons_zero, List.getElem_cons_succ]
              go_frame
              refine wpAnyH_take (i := 22) (v := ?_) rfl (by kernel_rfl) (by kernel_rfl) (by kernel_rfl) (fun _ _ _ h => h) (Or.inl ⟨by rfl, ?_⟩) (by assumption) ?_
              rotate_left 1
              · (intro w0 hSw; obtain ⟨r0, r1, r2, r3, r4, r5, r6, r7, r8, r9, r10⟩ := box_cells hSw; rw [Ho.out] at r1; go_simp; try with_reducible rfl)
              simp only [List.getElem_toArray, List.getElem_cons_zero, List.getElem_cons_succ]
              go_frame
              refine wpAnyH_take (i := 23) (v := ?_) rfl (by kernel_rfl) (by kernel_rfl) (by kernel_rfl) (fun _ _ _ h => h) (Or.inl ⟨by rfl, ?_⟩) (by assumption) ?_
              rotate_left 1
              · (intro w0 hSw; go_simp; try with_reducible rfl)
              simp only [List.getElem_toArray, List.getElem_cons_zero, List.getElem_cons_succ]
              go_frame
              refine wpAnyH_ready (rs := [4]) (by kernel_rfl) (by simp) ?_
              refine AllReadyH.cons rfl (fun K hK => ?_) AllReadyH.nil
              simp only [List.getElem_toArray, List.getElem_cons_zero, List.getElem_cons_succ]
              go_simp
              go_at_call 25
              refine (C4).mono ?_
              rintro e w4 ⟨v4, rfl, o9, g9⟩
              have HGw4 : Hid (V.grownBy w4 none) := grown_trans (grown_drew V) g9
              have HOv4 : Hid (OwnI w4 w.heap.size v4 (z.dk 1)) := own_lowK o9 ((grown_trans HWV.out.g (grown_drew V)).size)
              have K4 := count1 ((j : Int) + 1) HOv4.out (Nat.le_trans (deck_few HSd.out (by decide)).1 (by decide))
              rw [Hcd.out] at K4
              obtain ⟨P4, Q4, rfl⟩ := HOv4.out.form
              clear o9 g9 C4
              refine hK.out _ _ (grown_keep (HGw4.out) HBx.out (by simp)) (fun hHeld2 => ?_)
              clear hK K
              (try go_frame)
              refine wpAnyH_ready (rs := [5]) (by kernel_rfl) (by simp) ?_
              refine AllReadyH.cons rfl (fun K9 hK => ?_) AllReadyH.nil
              simp only [List.getElem_toArray, List.getElem_cons_zero, List.getElem_cons_succ]
              go_simp
              refine hK.out _ _ (grown_keep (World.grownBy_alloc _ _ none) (grown_keep (HGw4.out) HBx.out (by simp)) (by simp)) (fun hHeld3 => ?_)
              clear hK K9
              (try go_frame)
              refine wpAnyH_ready (rs := [6]) (by kernel_rfl) (by simp) ?_
              refine AllReadyH.cons rfl (fun K hK => ?_) AllReadyH.nil
              simp only [List.getElem_toArray, List.getElem_cons_zero, List.getElem_cons_succ]
              go_simp
              go_at_call 37
              refine (K4).mono ?_
              rintro e w9 ⟨rfl, h9⟩
              subst h9
              have HGa4 : Hid (V.grownBy (w4.alloc (.cells #[(Value.slice P4 (z.dk 1).length Q4)] 22)) none) := grown_push HGw4.out _
              have C5 := pHand_any b Sb z 1 (w4.alloc (.cells #[(Value.slice P4 (z.dk 1).length Q4)] 22)) (HZ.out.grow (grown_trans HWV.out.g HGa4.out)) HSd.out
              rw [inOf_hd1] at C5
              clear K4
              refine hK.out _ _ (grown_keep (HGa4.out) HBx.out (by simp)) (fun hHeld2 => ?_)
              clear hK K
              (try go_frame)
              refine wpAnyH_ready (rs := [11]) (by kernel_rfl) (by simp) ?_
              refine AllReadyH.cons rfl (fun K hK => ?_) AllReadyH.nil
              simp only [List.getElem_toArray, List.getElem_cons_zero, List.getElem_cons_succ]
              go_simp
              go_at_call 31
              refine (C5).mono ?_
              rintro e w5 ⟨v5, rfl, o9, g9⟩
              have HGw5 : Hid (V.grownBy w5 none) := grown_trans HGa4.out g9
              have HOv5 : Hid (OwnI w5 w.heap.size v5 (z.hd 1)) := own_lowK o9 ((grown_trans HWV.out.g HGa4.out).size)
              have K5 := count1 ((j : Int) + 1) HOv5.out (Nat.le_trans (deck_few HSd.out (by decide)).2 (by decide))
              rw [Hch.out] at K5
              obtain ⟨P5, Q5, rfl⟩ := HOv5.out.form
              clear o9 g9 C5
              refine hK.out _ _ (grown_keep (HGw5.out) HBx.out (by simp)) (fun hHeld2 => ?_)
              clear hK K
              (try go_frame)
              refine wpAnyH_ready (rs := [12]) (by kernel_rfl) (by simp) ?_
              refine AllReadyH.cons rfl (fun K9 hK => ?_) AllReadyH.nil
              simp only [List.getElem_toArray, List.getElem_cons_zero, List.getElem_cons_succ]
              go_simp
              refine hK.out _ _ (grown_keep (World.grownBy_alloc _ _ none) (grown_keep (HGw5.out) HBx.out (by simp)) (by simp)) (fun hHeld3 => ?_)
              clear hK K9
              (try go_frame)
              refine wpAnyH_ready (rs := [13]) (by kernel_rfl) (by simp) ?_
              refine AllReadyH.cons rfl (fun K hK => ?_) AllReadyH.nil
              simp only [List.getElem_toArray, List.getElem_cons_zero, List.getElem_cons_succ]
              go_simp
              go_at_call 37
              refine (K5).mono ?_
              rintro e w9 ⟨rfl, h9⟩
              subst h9
              have HGa5 : Hid (V.grownBy (w5.alloc (.cells #[(Value.slice P5 (z.hd 1).length Q5)] 22)) none) := grown_push HGw5.out _
              have C6 := pDeck_any b Sb z 0 (w5.alloc (.cells #[(Value.slice P5 (z.hd 1).length Q5)] 22)) (HZ.out.grow (grown_trans HWV.out.g HGa5.out)) HSd.out
              rw [inOf_dk0] at C6
              clear K5
              refine hK.out _ _ (grown_keep (HGa5.out) HBx.out (by simp)) (fun hHeld2 => ?_)
              clear hK K
              (try go_frame)
              refine wpAnyH_ready (rs := [19]) (by kernel_rfl) (by simp) ?_
              refine AllReadyH.cons rfl (fun K hK => ?_) AllReadyH.nil
              simp only [List.getElem_toArray, List.getElem_cons_zero, List.getElem_cons_succ]
              go_simp
              go_at_call 25
              refine (C6).mono ?_
              rintro e w6 ⟨v6, rfl, o9, g9⟩
              have HGw6 : Hid (V.grownBy w6 none) := grown_trans HGa5.out g9
              have HOv6 : Hid (OwnI w6 w.heap.size v6 (z.dk 0)) := own_lowK o9 ((grown_trans HWV.out.g HGa5.out).size)
              have C7 := pHand_any b Sb z 0 w6 (HZ.out.grow (grown_trans HWV.out.g HGw6.out)) HSd.out
              rw [inOf_hd0] at C7
              obtain ⟨P6, Q6, rfl⟩ := HOv6.out.form
              clear o9 g9 C6
              refine hK.out _ _ (grown_keep (HGw6.out) HBx.out (by simp)) (fun hHeld2 => ?_)
              clear hK K
              (try go_frame)
              refine wpAnyH_ready (rs := [24]) (by kernel_rfl) (by simp) ?_
              refine AllReadyH.cons rfl (fun K hK => ?_) AllReadyH.nil
              simp only [List.getElem_toArray, List.getElem_cons_zero, List.getElem_cons_succ]
              go_simp
              go_at_call 31
              refine (C7).mono ?_
              rintro e w7 ⟨v7, rfl, o9, g9⟩
              have HGw7 : Hid (V.grownBy w7 none) := grown_trans HGw6.out g9
              have HOv7 : Hid (OwnI w7 w.heap.size v7 (z.hd 0)) := own_lowK o9 ((grown_trans HWV.out.g HGw6.out).size)
              have K7 := count2 ((j : Int) + 1) (OwnI.grow HOv6.out g9) HOv7.out (Nat.le_trans (deck_few HSd.out (by decide)).1 (by decide)) (Nat.le_trans (deck_few HSd.out (by decide)).2 (by decide))
              rw [Hcf2.out] at K7
              obtain ⟨P7, Q7, rfl⟩ := HOv7.out.form
              clear o9 g9 C7
              refine hK.out _ _ (grown_keep (HGw7.out) HBx.out (by simp)) (fun hHeld2 => ?_)
              clear hK K
              (try go_frame)
              refine wpAnyH_ready (rs := [25]) (by kernel_rfl) (by simp) ?_
              refine AllReadyH.cons rfl (fun K9 hK => ?_) AllReadyH.nil
              simp only [List.getElem_toArray, List.getElem_cons_zero, List.getElem_cons_succ]
              go_simp
              refine hK.out _ _ (grown_keep (World.grownBy_alloc _ _ none) (grown_keep (HGw7.out) HBx.out (by simp)) (by simp)) (fun hHeld3 => ?_)
              clear hK K9
              (try go_frame)
              refine wpAnyH_ready (rs := [26]) (by kernel_rfl) (by simp) ?_
              refine AllReadyH.cons rfl (fun K hK => ?_) AllReadyH.nil
              simp only [List.getElem_toArray, List.getElem_cons_zero, List.getElem_cons_succ]
              go_simp
              go_at_call 37
              refine (K7).mono ?_
              rintro e w9 ⟨rfl, h9⟩
              subst h9
              have HGa7 : Hid (V.grownBy (w7.alloc (.cells #[(Value.slice P6 (z.dk 0).length Q6), (Value.slice P7 (z.hd 0).length Q7)] 22)) none) := grown_push HGw7.out _
              clear K7
              refine hK.out _ _ (grown_keep (HGa7.out) HBx.out (by simp)) (fun hHeld2 => ?_)
              clear hK K
              (try go_frame)
              refine wpAnyH_take (i := 27) (v := ?_) rfl (by kernel_rfl) (by kernel_rfl) (by kernel_rfl) (fun _ _ _ h => h) (Or.inl ⟨by rfl, ?_⟩) (by assumption) ?_
              rotate_left 1
              · (intro w0 hSw; go_simp; try with_reducible rfl)
              simp only [List.getElem_toArray, List.getElem_cons_zero, List.getElem_cons_succ]
              go_frame
              refine wpAnyH_take (i := 28) (v := ?_) rfl (by kernel_rfl) (by kernel_rfl) (by kernel_rfl) (fun _ _ _ h => h) (Or.inl ⟨by rfl, ?_⟩) (by assumption) ?_
              rotate_left 1
              · (intro w0 hSw; go_simp; try with_reducible rfl)
              simp only [List.getElem_toArray, List.getElem_cons_zero, List.getElem_cons_succ]
              go_frame
              refine wpAnyH_take (i := 29) (v := ?_) rfl (by kernel_rfl) (by kernel_rfl) (by kernel_rfl) (fun _ _ _ h => h) (Or.inl ⟨by rfl, ?_⟩) (by assumption) ?_
              rotate_left 1
              · (intro w0 hSw; go_simp; try with_reducible rfl)
              simp only [List.getElem_toArray, List.getElem_cons_zero, List.getElem_cons_succ]
              go_frame
              refine wpAnyH_done (by kernel_rfl) ?_ _
              go_wp2_with fail
              go_meet
              case rel => exact ⟨rfl, rfl, rfl, HGa7.out⟩
          case rest =>
            obtain ⟨rfl, rfl, rfl, g7⟩ := hcut
            obtain ⟨V7, hV7⟩ : ∃ V7, V7 = wc := ⟨_, rfl⟩
            subst hV7
            have HB7 : Hid (V7.heap[X]? = some (.cells (thc t).toArray 38 (0, 0))) := grown_keep g7 HBx.out (by simp)
            have HT7 : Hid (OwnI V7 w.heap.size (.slice p1 T.length q1) T) := own_grow HTV.out g7
            have HW7 : Hid (PlS w V7 O (a : Int) (c : Int)) := HWV.out.grow g7
            clear g7 HBx HTV HWV Hcd Hch Hcf Hown
            go_upto_region 19 with fail
            go_cut [151] from 112 to 150 (fun x151 wc => x151 = .bool false ∧ V7.grownBy wc none)
            case first =>
              obtain ⟨e1, e2, e4, m1, m2, m4, b1, b2, b4, _, _, _, dh⟩ := HMs.out
              have K8 := count1 ((j : Int) + 1) (OwnI.grow HT7.out (grown_drew V7)) HTl.out
              rw [Hct.out] at K8
              have Hdh : Hid (decide (1 < IntKind.i64.wrap (IntKind.i64.wrap ((cd : Int) + (ch : Int)) + (ct : Int))) = false) := dh
              clear HMs Hoff HMe HI HJ Hwj dh
              refine wp_region_held_drew (S := fun w' => w'.heap[X]? = some (.cells (thc t).toArray 38 (0, 0))) (by kernel_rfl) (grown_keep (grown_drew V7) HB7.out (by simp)) (fun hHeld => ?_)
              refine wpAnyH_take (i := 0) (v := ?_) rfl (by kernel_rfl) (by kernel_rfl) (by kernel_rfl) (fun _ _ _ h => h) (Or.inl ⟨by rfl, ?_⟩) (by assumption) ?_
              rotate_left 1
              · (intro w0 hSw; go_simp; try with_reducible rfl)
              simp only [List.getElem_toArray, List.getElem_cons_zero]
              go_frame
              refine wpAnyH_take (i := 1) (v := ?_) rfl (by kernel_rfl) (by kernel_rfl) (by kernel_rfl) (fun _ _ _ h => h) (Or.inl ⟨by rfl, ?_⟩) (by assumption) ?_
              rotate_left 1
              · (intro w0 hSw; go_simp; try with_reducible rfl)
              simp only [List.getElem_toArray, List.getElem_cons_zero, List.getElem_cons_succ]
              go_frame
              refine wpAnyH_take (i := 2) (v := ?_) rfl (by kernel_rfl) (by kernel_rfl) (by kernel_rfl) (fun _ _ _ h => h) (Or.inl ⟨by rfl, ?_⟩) (by assumption) ?_
              rotate_left 1
              · (intro w0 hSw; go_simp; try with_reducible rfl)
              simp only [List.getElem_toArray, List.getElem_cons_zero, List.getElem_cons_succ]
              go_frame
              refine wpAnyH_take (i := 3) (v := ?_) rfl (by kernel_rfl) (by kernel_rfl) (by kernel_rfl) (fun _ _ _ h => h) (Or.inl ⟨by rfl, ?_⟩) (by assumption) ?_
              rotate_left 1
              · (intro w0 hSw; go_simp; try with_reducible rfl)
              simp only [List.getElem_toArray, List.getElem_cons_zero, List.getElem_cons_succ]
              go_frame
              refine wpAnyH_take (i := 4) (v := ?_) rfl (by kernel_rfl) (by kernel_rfl) (by kernel_rfl) (fun _ _ _ h => h) (Or.inl ⟨by rfl, ?_⟩) (by assumption) ?_
              rotate_left 1
              · (intro w0 hSw; go_simp; try with_reducible rfl)
              simp only [List.getElem_toArray, List.getElem_cons_zero, List.getElem_cons_succ]
              go_frame
              refine wpAnyH_take (i := 5) (v := ?_) rfl (by kernel_rfl) (by kernel_rfl) (by kernel_rfl) (fun _ _ _ h => h) (Or.inl ⟨by rfl, ?_⟩) (by assumption) ?_
              rotate_left 1
              · (intro w0 hSw; go_simp; try with_reducible rfl)
              simp only [List.getElem_toArray, List.getElem_cons_zero, List.getElem_cons_succ]
              go_frame
              refine wpAnyH_take (i := 6) (v := ?_) rfl (by kernel_rfl) (by kernel_rfl) (by kernel_rfl) (fun _ _ _ h => h) (Or.inl ⟨by rfl, ?_⟩) (by assumption) ?_
              rotate_left 1
              · (intro w0 hSw; obtain ⟨r0, r1, r2, r3, r4, r5, r6, r7, r8, r9, r10⟩ := box_cells hSw; go_simp; try with_reducible rfl)
              simp only [List.getElem_toArray, List.getElem_cons_zero, List.getElem_cons_succ]
              go_frame
              refine wpAnyH_take (i := 7) (v := ?_) rfl (by kernel_rfl) (by kernel_rfl) (by kernel_rfl) (fun _ _ _ h => h) (Or.inl ⟨by rfl, ?_⟩) (by assumption) ?_
              rotate_left 1
              · (intro w0 hSw; go_simp; try with_reducible rfl)
              simp only [List.getElem_toArray, List.getElem_cons_zero, List.getElem_cons_succ]
              go_frame
              refine wpAnyH_take (i := 8) (v := ?_) rfl (by kernel_rfl) (by kernel_rfl) (by kernel_rfl) (fun _ _ _ h => h) (Or.inl ⟨by rfl, ?_⟩) (by assumption) ?_
              rotate_left 1
              · (intro w0 hSw; go_simp; try with_reducible rfl)
              simp only [List.getElem_toArray, List.getElem_cons_zero, List.getElem_cons_succ]
              go_frame
              refine wpAnyH_take (i := 9) (v := ?_) rfl (by kernel_rfl) (by kernel_rfl) (by kernel_rfl) (fun _ _ _ h => h) (Or.inl ⟨by rfl, ?_⟩) (by assumption) ?_
              rotate_left 1
              · (intro w0 hSw; go_simp; try with_reducible rfl)
              simp only [List.getElem_toArray, List.getElem_cons_zero, List.getElem_cons_succ]
              go_frame
              refine wpAnyH_take (i := 10) (v := ?_) rfl (by kernel_rfl) (by kernel_rfl) (by kernel_rfl) (fun _ _ _ h => h) (Or.inl ⟨by rfl, ?_⟩) (by assumption) ?_
              rotate_left 1
              · (intro w0 hSw; go_simp; try with_reducible rfl)
              simp only [List.getElem_toArray, List.getElem_cons_zero, List.getElem_cons_succ]
              go_frame
              refine wpAnyH_take (i := 11) (v := ?_) rfl (by kernel_rfl) (by kernel_rfl) (by kernel_rfl) (fun _ _ _ h => h) (Or.inl ⟨by rfl, ?_⟩) (by assumption) ?_
              rotate_left 1
              · (intro w0 hSw; go_simp; try with_reducible rfl)
              simp only [List.getElem_toArray, List.getElem_cons_zero, List.getElem_cons_succ]
              go_frame
              refine wpAnyH_take (i := 12) (v := ?_) rfl (by kernel_rfl) (by kernel_rfl) (by kernel_rfl) (fun _ _ _ h => h) (Or.inl ⟨by rfl, ?_⟩) (by assumption) ?_
              rotate_left 1
              · (intro w0 hSw; go_simp; try with_reducible rfl)
              simp only [List.getElem_toArray, List.getElem_cons_zero, List.getElem_cons_succ]
              go_frame
              refine wpAnyH_take (i := 13) (v := ?_) rfl (by kernel_rfl) (by kernel_rfl) (by kernel_rfl) (fun _ _ _ h => h) (Or.inl ⟨by rfl, ?_⟩) (by assumption) ?_
              rotate_left 1
              · (intro w0 hSw; go_simp; try with_reducible rfl)
              simp only [List.getElem_toArray, List.getElem_cons_zero, List.getElem_cons_succ]
              go_frame
              refine wpAnyH_take (i := 14) (v := ?_) rfl (by kernel_rfl) (by kernel_rfl) (by kernel_rfl) (fun _ _ _ h => h) (Or.inl ⟨by rfl, ?_⟩) (by assumption) ?_
              rotate_left 1
              · (intro w0 hSw; obtain ⟨r0, r1, r2, r3, r4, r5, r6, r7, r8, r9, r10⟩ := box_cells hSw; go_simp; try with_reducible rfl)
              simp only [List.getElem_toArray, List.getElem_cons_zero, List.getElem_cons_succ]
              go_frame
              refine wpAnyH_take (i := 15) (v := ?_) rfl (by kernel_rfl) (by kernel_rfl) (by kernel_rfl) (fun _ _ _ h => h) (Or.inl ⟨by rfl, ?_⟩) (by assumption) ?_
              rotate_left 1
              · (intro w0 hSw; go_simp; try with_reducible rfl)
              simp only [List.getElem_toArray, List.getElem_cons_zero, List.getElem_cons_succ]
              go_frame
              refine wpAnyH_take (i := 16) (v := ?_) rfl (by kernel_rfl) (by kernel_rfl) (by kernel_rfl) (fun _ _ _ h => h) (Or.inl ⟨by rfl, ?_⟩) (by assumption) ?_
              rotate_left 1
              · (intro w0 hSw; go_simp; try with_reducible rfl)
              simp only [List.getElem_toArray, List.getElem_cons_zero, List.getElem_cons_succ]
              go_frame
              refine wpAnyH_take (i := 17) (v := ?_) rfl (by kernel_rfl) (by kernel_rfl) (by kernel_rfl) (fun _ _ _ h => h) (Or.inl ⟨by rfl, ?_⟩) (by assumption) ?_
              rotate_left 1
              · (intro w0 hSw; go_simp; try with_reducible rfl)
              simp only [List.getElem_toArray, List.getElem_cons_zero, List.getElem_cons_succ]
              go_frame
              refine wpAnyH_take (i := 18) (v := ?_) rfl (by kernel_rfl) (by kernel_rfl) (by kernel_rfl) (fun _ _ _ h => h) (Or.inl ⟨by rfl, ?_⟩) (by assumption) ?_
              rotate_left 1
              · (intro w0 hSw; go_simp; try with_reducible rfl)
              simp only [List.getElem_toArray, List.getElem_cons_zero, List.getElem_cons_succ]
              go_frame
              refine wpAnyH_take (i := 19) (v := ?_) rfl (by kernel_rfl) (by kernel_rfl) (by kernel_rfl) (fun _ _ _ h => h) (Or.inl ⟨by rfl, ?_⟩) (by assumption) ?_
              rotate_left 1
              · (intro w0 hSw; go_simp; try with_reducible rfl)
              simp only [List.getElem_toArray, List.getElem_cons_zero, List.getElem_cons_succ]
              go_frame
              refine wpAnyH_take (i := 20) (v := ?_) rfl (by kernel_rfl) (by kernel_rfl) (by kernel_rfl) (fun _ _ _ h => h) (Or.inl ⟨by rfl, ?_⟩) (by assumption) ?_
              rotate_left 1
              · (intro w0 hSw; go_simp; try with_reducible rfl)
              simp only [List.getElem_toArray, List.getElem_cons_zero, List.getElem_cons_succ]
              go_frame
              refine wpAnyH_take (i := 24) (v := ?_) rfl (by kernel_rfl) (by kernel_rfl) (by kernel_rfl) (fun _ _ _ h => h) (Or.inl ⟨by rfl, ?_⟩) (by assumption) ?_
              rotate_left 1
              · (intro w0 hSw; go_simp; try with_reducible rfl)
              simp only [List.getElem_toArray, List.getElem_cons_zero, List.getElem_cons_succ]
              go_frame
              refine wpAnyH_take (i := 25) (v := ?_) rfl (by kernel_rfl) (by kernel_rfl) (by kernel_rfl) (fun _ _ _ h => h) (Or.inl ⟨by rfl, ?_⟩) (by assumption) ?_
              rotate_left 1
              · (intro w0 hSw; obtain ⟨r0, r1, r2, r3, r4, r5, r6, r7, r8, r9, r10⟩ := box_cells hSw; go_simp; try with_reducible rfl)
              simp only [List.getElem_toArray, List.getElem_cons_zero, List.getElem_cons_succ]
              go_frame
              refine wpAnyH_take (i := 26) (v := ?_) rfl (by kernel_rfl) (by kernel_rfl) (by kernel_rfl) (fun _ _ _ h => h) (Or.inl ⟨by rfl, ?_⟩) (by assumption) ?_
              rotate_left 1
              · (intro w0 hSw; go_simp; try with_reducible rfl)
              simp only [List.getElem_toArray, List.getElem_cons_zero, List.getElem_cons_succ]
              go_frame
              refine wpAnyH_ready (rs := [21]) (by kernel_rfl) (by simp) ?_
              refine AllReadyH.cons rfl (fun K9 hK => ?_) AllReadyH.nil
              simp only [List.getElem_toArray, List.getElem_cons_zero, List.getElem_cons_succ]
              rw [if_pos (by rfl)]
              go_simp
              refine hK.out _ _ (grown_keep (World.grownBy_alloc _ _ none) (grown_keep (grown_drew V7) HB7.out (by simp)) (by simp)) (fun hHeld3 => ?_)
              clear hK K9
              (try go_frame)
              refine wpAnyH_ready (rs := [22]) (by kernel_rfl) (by simp) ?_
              refine AllReadyH.cons rfl (fun K hK => ?_) AllReadyH.nil
              simp only [List.getElem_toArray, List.getElem_cons_zero, List.getElem_cons_succ]
              rw [if_pos (by rfl)]
              go_simp
              go_at_call 37
              refine (K8).mono ?_
              rintro e w9 ⟨rfl, h9⟩
              subst h9
              have HG8 : Hid (V7.grownBy (V7.drew.alloc (.cells #[(Value.slice p1 T.length q1)] 22)) none) := grown_push (grown_drew V7) _
              clear K8
              refine hK.out _ _ (grown_keep HG8.out HB7.out (by simp)) (fun hHeld2 => ?_)
              clear hK K
              (try go_frame)
              obtain ⟨V8, hV8⟩ : ∃ V8, V8 = (V7.drew.alloc (.cells #[(Value.slice p1 T.length q1)] 22)) := ⟨_, rfl⟩
              rw [← hV8] at HG8 ⊢
              clear hV8
              have HB8 : Hid (V8.heap[X]? = some (.cells (thc t).toArray 38 (0, 0))) := grown_keep HG8.out HB7.out (by simp)
              have K9c := count1 ((j : Int) + 1) (OwnI.grow HT7.out HG8.out) HTl.out
              rw [Hct.out] at K9c
              refine wpAnyH_take (i := 23) (v := ?_) rfl (by kernel_rfl) (by kernel_rfl) (by kernel_rfl) (fun _ _ _ h => h) (Or.inl ⟨by rfl, ?_⟩) (by assumption) ?_
              rotate_left 1
              · (intro w0 hSw; go_simp; try with_reducible rfl)
              simp only [List.getElem_toArray, List.getElem_cons_zero, List.getElem_cons_succ]
              go_frame
              refine wpAnyH_take (i := 27) (v := ?_) rfl (by kernel_rfl) (by kernel_rfl) (by kernel_rfl) (fun _ _ _ h => h) (Or.inl ⟨by rfl, ?_⟩) (by assumption) ?_
              rotate_left 1
              · (intro w0 hSw; go_simp; try with_reducible rfl)
              simp only [List.getElem_toArray, List.getElem_cons_zero, List.getElem_cons_succ]
              go_frame
              refine wpAnyH_take (i := 28) (v := ?_) rfl (by kernel_rfl) (by kernel_rfl) (by kernel_rfl) (fun _ _ _ h => h) (Or.inl ⟨by rfl, ?_⟩) (by assumption) ?_
              rotate_left 1
              · (intro w0 hSw; go_simp; try with_reducible rfl)
              simp only [List.getElem_toArray, List.getElem_cons_zero, List.getElem_cons_succ]
              go_frame
              refine wpAnyH_take (i := 29) (v := ?_) rfl (by kernel_rfl) (by kernel_rfl) (by kernel_rfl) (fun _ _ _ h => h) (Or.inl ⟨by rfl, ?_⟩) (by assumption) ?_
              rotate_left 1
              · (intro w0 hSw; go_simp; try with_reducible rfl)
              simp only [List.getElem_toArray, List.getElem_cons_zero, List.getElem_cons_succ]
              go_frame
              refine wpAnyH_take (i := 30) (v := ?_) rfl (by kernel_rfl) (by kernel_rfl) (by kernel_rfl) (fun _ _ _ h => h) (Or.inl ⟨by rfl, ?_⟩) (by assumption) ?_
              rotate_left 1
              · (intro w0 hSw; go_simp; try with_reducible rfl)
              simp only [List.getElem_toArray, List.getElem_cons_zero, List.getElem_cons_succ]
              go_frame
              refine wpAnyH_take (i := 31) (v := ?_) rfl (by kernel_rfl) (by kernel_rfl) (by kernel_rfl) (fun _ _ _ h => h) (Or.inl ⟨by rfl, ?_⟩) (by assumption) ?_
              rotate_left 1
              · (intro w0 hSw; go_simp; try with_reducible rfl)
              simp only [List.getElem_toArray, List.getElem_cons_zero, List.getElem_cons_succ]
              go_frame
              refine wpAnyH_take (i := 32) (v := ?_) rfl (by kernel_rfl) (by kernel_rfl) (by kernel_rfl) (fun _ _ _ h => h) (Or.inl ⟨by rfl, ?_⟩) (by assumption) ?_
              rotate_left 1
              · (intro w0 hSw; go_simp; try with_reducible rfl)
              simp only [List.getElem_toArray, List.getElem_cons_zero, List.getElem_cons_succ]
              go_frame
              refine wpAnyH_take (i := 33) (v := ?_) rfl (by kernel_rfl) (by kernel_rfl) (by kernel_rfl) (fun _ _ _ h => h) (Or.inl ⟨by rfl, ?_⟩) (by assumption) ?_
              rotate_left 1
              · (intro w0 hSw; go_simp; try with_reducible rfl)
              simp only [List.getElem_toArray, List.getElem_cons_zero, List.getElem_cons_succ]
              go_frame
              refine wpAnyH_take (i := 34) (v := ?_) rfl (by kernel_rfl) (by kernel_rfl) (by kernel_rfl) (fun _ _ _ h => h) (Or.inl ⟨by rfl, ?_⟩) (by assumption) ?_
              rotate_left 1
              · (intro w0 hSw; go_simp; try with_reducible rfl)
              simp only [List.getElem_toArray, List.getElem_cons_zero, List.getElem_cons_succ]
              go_frame
              refine wpAnyH_ready (rs := [35]) (by kernel_rfl) (by simp) ?_
              refine AllReadyH.cons rfl (fun K9 hK => ?_) AllReadyH.nil
              simp only [List.getElem_toArray, List.getElem_cons_zero, List.getElem_cons_succ]
              rw [if_pos (by rfl)]
              go_simp
              refine hK.out _ _ (grown_keep (World.grownBy_alloc _ _ none) HB8.out (by simp)) (fun hHeld3 => ?_)
              clear hK K9
              (try go_frame)
              refine wpAnyH_ready (rs := [36]) (by kernel_rfl) (by simp) ?_
              refine AllReadyH.cons rfl (fun K hK => ?_) AllReadyH.nil
              simp only [List.getElem_toArray, List.getElem_cons_zero, List.getElem_cons_succ]
              rw [if_pos (by rfl)]
              go_simp
              go_at_call 37
              refine (K9c).mono ?_
              rintro e w9 ⟨rfl, h9⟩
              subst h9
              have HG9 : Hid (V7.grownBy (V8.alloc (.cells #[(Value.slice p1 T.length q1)] 22)) none) := grown_push HG8.out _
              clear K9c
              refine hK.out _ _ (grown_keep HG9.out HB7.out (by simp)) (fun hHeld2 => ?_)
              clear hK K
              (try go_frame)
              refine wpAnyH_take (i := 37) (v := ?_) rfl (by kernel_rfl) (by kernel_rfl) (by kernel_rfl) (fun _ _ _ h => h) (Or.inl ⟨by rfl, ?_⟩) (by assumption) ?_
              rotate_left 1
              · (intro w0 hSw; go_simp; try with_reducible rfl)
              simp only [List.getElem_toArray, List.getElem_cons_zero, List.getElem_cons_succ]
              go_frame
              refine wpAnyH_take (i := 38) (v := ?_) rfl (by kernel_rfl) (by kernel_rfl) (by kernel_rfl) (fun _ _ _ h => h) (Or.inl ⟨by rfl, ?_⟩) (by assumption) ?_
              rotate_left 1
              · (intro w0 hSw; go_simp; try with_reducible rfl)
              simp only [List.getElem_toArray, List.getElem_cons_zero, List.getElem_cons_succ]
              go_frame
              refine wpAnyH_take (i := 39) (v := ?_) rfl (by kernel_rfl) (by kernel_rfl) (by kernel_rfl) (fun _ _ _ h => h) (Or.inl ⟨by rfl, ?_⟩) (by assumption) ?_
              rotate_left 1
              · (intro w0 hSw; go_simp; try with_reducible rfl)
              simp only [List.getElem_toArray, List.getElem_cons_zero, List.getElem_cons_succ]
              go_frame
              refine wpAnyH_done (by kernel_rfl) ?_ _
              go_wp2_with fail
              go_meet
              case rel => exact ⟨by rw [Hdh.out], HG9.out⟩
            case rest =>
              obtain ⟨rfl, g9⟩ := hcut
              obtain ⟨V9, hV9⟩ : ∃ V9, V9 = wc := ⟨_, rfl⟩
              subst hV9
              have HB9 : Hid (V9.heap[X]? = some (.cells (thc t).toArray 38 (0, 0))) := grown_keep g9 HB7.out (by simp)
              have HT9 : Hid (OwnI V9 w.heap.size (.slice p1 T.length q1) T) := own_grow HT7.out g9
              have HW9 : Hid (PlS w V9 O (a : Int) (c : Int)) := HW7.out.grow g9
              clear g9 HB7 HT7 HW7 Hct HMs
              obtain ⟨r0, r1, r2, r3, r4, r5, r6, r7, r8, r9, r10⟩ := box_cells HB9.out
              have hnq := neq_th
              have hgq := eqg_th
              by_cases h4 : t.place = 4
              · have q4 : (t.place != 4) = false := by simp [h4]
                clear h4 hnq hgq HB9 Hoff
                go_wp2_with fail
                go_roundw
                case rel => exact ⟨j + 1, HJ.out, by first | exact HI.out | (rw [Hwj.out]; exact HI.out), HW9.out, HT9.out⟩
                case measure => first | exact HMe.out | (rw [Hwj.out]; exact HMe.out)
              · have q4 : (t.place != 4) = true := by simpa using h4
                have hse : samet (⟨t.card, t.owner, t.place, t.stamp, t.hurt, t.m0, t.m1, t.m2, t.m3, t.done, t.fresh⟩ : Th) ⟨t.card, t.owner, t.place, 0, 0, 0, 0, 0, 0, 0, false⟩ = true := samet_yes (Hoff.out h4)
                clear h4 HB9 Hoff
                go_wp2_with fail
                go_roundw
                case rel => exact ⟨j + 1, HJ.out, by first | exact HI.out | (rw [Hwj.out]; exact HI.out), HW9.out, HT9.out⟩
                case measure => first | exact HMe.out | (rw [Hwj.out]; exact HMe.out)
        · obtain ⟨hle, hdl⟩ := not_le_of hlt
          go_wp2_with fail
          refine CL.mono ?_
          rintro e w9 ⟨rfl, h9⟩
          obtain rfl : Wc = w9 := h9.symm
          clear CL h9 hj hlt
          go_wp2_with fail
          go_meet
          case rel => exact HW.out
    case rest =>
      obtain ⟨Wd, hWd⟩ : ∃ Wd, Wd = wc := ⟨_, rfl⟩
      subst hWd
      have HW : Hid (PlS w Wd O (a : Int) (c : Int)) := hcut
      have H0 := pHand_any b Sb z 0 Wd (HZ.out.grow HW.out.g) HSd.out
      rw [inOf_hd0] at H0
      clear hcut HWr HOT
      go_wp2_with fail
      refine H0.mono ?_
      rintro e w5 ⟨v5, rfl, o5, g5⟩
      obtain ⟨p5, q5, rfl⟩ := o5.form
      have HW5 : Hid (PlS w w5 O (a : Int) (c : Int)) := HW.out.grow g5
      have H1 := pHand_any b Sb z 1 w5 (HZ.out.grow HW5.out.g) HSd.out
      rw [inOf_hd1] at H1
      obtain ⟨l0, l1⟩ := hand_ten HSd.out
      clear o5 g5 H0 HW
      go_wp2_with fail
      refine H1.mono ?_
      rintro e w6 ⟨v6, rfl, o6, g6⟩
      obtain ⟨p6, q6, rfl⟩ := o6.form
      have HW6 : Hid (PlS w w6 O (a : Int) (c : Int)) := HW5.out.grow g6
      have o0 := (block_cell HW6.out.o 0).trans (show _ = some (Value.int .i64 (a : Int)) from rfl)
      have o1 := (block_cell HW6.out.o 1).trans (show _ = some (Value.int .i64 (c : Int)) from rfl)
      obtain ⟨a8, c8⟩ := nat_eight HA8.out
      clear o6 g6 H1 HW5
      go_wp2
      go_ret
      exact ⟨rfl, HW6.out.g⟩
end Go.Proofs.Ytogpgldbbegniaa
