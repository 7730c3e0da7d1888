/-
  The law's do: a call.
-/
import Derived.Test.YtogpgldbbegniaaZpC
namespace Go.Proofs.Ytogpgldbbegniaa
open Go.RowKit

/-- A call, as it is handed in. -/
structure Opc where
  call : Int
  n : Int
  tp : Int
  own : Int
  t : Th
  l : List Int
def opv (o : Opc) (v : Value) : Value := .agg #[.int .i64 o.call, .int .i64 o.n, .int .u8 o.tp, .int .i64 o.own, .int .i64 o.t.card, .int .i64 o.t.owner, .int .u8 o.t.place, .int .i64 o.t.stamp, .int .i64 o.t.hurt, .int .i64 o.t.m0, .int .i64 o.t.m1, .int .i64 o.t.m2, .int .i64 o.t.m3, .int .i64 o.t.done, .bool o.t.fresh, v]
def arrB (z : Zs) (p : Int) (l : List Int) : Bool := decide ((p = 0 ∨ p = 1) ∧ srt l = numsOf z.ts p 1)
theorem arrB_iff {z : Zs} {p : Int} {l : List Int} : arrB z p l = true ↔ (p = 0 ∨ p = 1) ∧ Holds z.ts l p 1 := by
  unfold arrB
  rw [decide_eq_true_iff, holds_srt]
/-- Is it taken? -/
def Zs.doB (z : Zs) (o : Opc) : Bool := if o.call = 0 then decide (z.moveE o.n o.tp = 0) else if o.call = 1 then decide (z.makeE o.n o.own = 0) else if o.call = 2 then decide (z.writeE o.n o.t = 0) else if o.call = 3 then arrB z o.own o.l else false
/-- What comes of it. -/
def Zs.doZ (z : Zs) (o : Opc) : Zs := if o.call = 0 then z.move o.n o.tp else if o.call = 1 then z.make o.n o.own else if o.call = 2 then z.write o.n o.t else if o.call = 3 then (if arrB z o.own o.l = true then z.arrange o.own o.l else z) else z
theorem Zs.Sound.doZ {z : Zs} (S : z.Sound) (o : Opc) : (z.doZ o).Sound := by
  unfold Zs.doZ
  split
  · exact S.move _ _
  split
  · exact S.make _ _
  split
  · exact S.write _ _
  split
  · split
    · next h => exact S.arrange (arrB_iff.1 h).2
    · exact S
  · exact S
/-- What is refused has changed nothing. -/
theorem Zs.doZ_no {z : Zs} {o : Opc} (h : z.doB o = false) : z.doZ o = z := by
  unfold Zs.doB at h
  unfold Zs.doZ
  split
  · next q => rw [if_pos q] at h; unfold Zs.move; rw [if_neg (of_decide_eq_false h)]
  next q0 =>
  rw [if_neg q0] at h
  split
  · next q => rw [if_pos q] at h; unfold Zs.make; rw [if_neg (of_decide_eq_false h)]
  next q1 =>
  rw [if_neg q1] at h
  split
  · next q => rw [if_pos q] at h; unfold Zs.write; rw [if_neg (of_decide_eq_false h)]
  next q2 =>
  rw [if_neg q2] at h
  split
  · next q => rw [if_pos q] at h; rw [h]; rfl
  · rfl
set_option maxRecDepth 100000 in
set_option maxHeartbeats 4000000 in
theorem do_move (b : Nat) (Sb : List Nat) (z : Zs) (o : Opc) (v : Value) (w : World) (Z : ZAt w b Sb z) (S : z.Sound) (hS : Old w Sb) (hl : IntsA w v o.l) (hk : o.call = 0) : Calls Try.prog 9 #[.pointer (some ⟨b, 0, none⟩), opv o v] w (TnPost w b Sb (z.doZ o) (.bool (z.doB o))) := by
  unfold opv
  obtain ⟨V, hV⟩ : ∃ V, V = w.alloc (.cells #[.int .i64 o.call, .int .i64 o.n, .int .u8 o.tp, .int .i64 o.own, .int .i64 o.t.card, .int .i64 o.t.owner, .int .u8 o.t.place, .int .i64 o.t.stamp, .int .i64 o.t.hurt, .int .i64 o.t.m0, .int .i64 o.t.m1, .int .i64 o.t.m2, .int .i64 o.t.m3, .int .i64 o.t.done, .bool o.t.fresh, v] 40) := ⟨_, rfl⟩
  have HV : Hid (V = w.alloc (.cells #[.int .i64 o.call, .int .i64 o.n, .int .u8 o.tp, .int .i64 o.own, .int .i64 o.t.card, .int .i64 o.t.owner, .int .u8 o.t.place, .int .i64 o.t.stamp, .int .i64 o.t.hurt, .int .i64 o.t.m0, .int .i64 o.t.m1, .int .i64 o.t.m2, .int .i64 o.t.m3, .int .i64 o.t.done, .bool o.t.fresh, v] 40)) := hV
  have HGV : Hid (w.grownBy V none) := by show w.grownBy V none; rw [hV]; exact World.grownBy_alloc _ _ _
  have HB : Hid (V.heap[w.heap.size]? = some (.cells #[.int .i64 o.call, .int .i64 o.n, .int .u8 o.tp, .int .i64 o.own, .int .i64 o.t.card, .int .i64 o.t.owner, .int .u8 o.t.place, .int .i64 o.t.stamp, .int .i64 o.t.hurt, .int .i64 o.t.m0, .int .i64 o.t.m1, .int .i64 o.t.m2, .int .i64 o.t.m3, .int .i64 o.t.done, .bool o.t.fresh, v] 40 (0, 0))) := by show V.heap[_]? = _; rw [hV]; exact alloc_at _ _ _
  have ZV := Z.grow HGV.out
  have hSV : Old V Sb := fun x hx => Nat.lt_of_lt_of_le (hS x hx) HGV.out.size
  obtain ⟨pv, cv, rfl, -⟩ := hl.src
  have eB : z.doB o = decide (z.moveE o.n o.tp = 0) := by unfold Zs.doB; rw [if_pos hk]
  have eZ : z.doZ o = z.move o.n o.tp := by unfold Zs.doZ; rw [if_pos hk]
  rw [eB, eZ]
  have C := move_any b Sb z o.n o.tp V ZV S hSV
  obtain ⟨x, hx⟩ : ∃ x, x = z.moveE o.n o.tp := ⟨_, rfl⟩
  rw [← hx] at C ⊢
  rw [hV, hk] at C
  rw [hk] at HV HB ⊢
  have hb : (x == 0) = decide (x = 0) := by rw [Bool.eq_iff_iff]; simp
  clear eB eZ hx hV Z ZV S hS hSV hl 
  go_enter Try.func9, Try.ntmps9
  go_wp2_with fail
  refine C.mono ?_
  rintro e w1 ⟨rfl, S1, Z1, T1⟩
  have HF : Hid (TnPost w b Sb (z.move o.n o.tp) (.bool (decide (x = 0))) (.returned (.bool (decide (x = 0)))) w1) := ⟨rfl, S1, Z1, T1.pre (by rw [← HV.out]; exact HGV.out)⟩
  clear Z1 T1 C
  cases hd : decide (x = 0) with
  | true =>
    have HF2 : Hid (TnPost w b Sb (z.move o.n o.tp) (.bool (decide (x = 0))) (.returned (.bool true)) w1) := by
      have q := HF.out
      rw [hd] at q
      show TnPost w b Sb (z.move o.n o.tp) (.bool (decide (x = 0))) (.returned (.bool true)) w1
      rw [hd]
      exact q
    rw [hd] at hb
    clear HF
    go_wp2
    go_ret
    exact HF2.out
  | false =>
    have HF2 : Hid (TnPost w b Sb (z.move o.n o.tp) (.bool (decide (x = 0))) (.returned (.bool false)) w1) := by
      have q := HF.out
      rw [hd] at q
      show TnPost w b Sb (z.move o.n o.tp) (.bool (decide (x = 0))) (.returned (.bool false)) w1
      rw [hd]
      exact q
    rw [hd] at hb
    clear HF
    go_wp2
    go_ret
    exact HF2.out
set_option maxRecDepth 100000 in
set_option maxHeartbeats 4000000 in
theorem do_make (b : Nat) (Sb : List Nat) (z : Zs) (o : Opc) (v : Value) (w : World) (Z : ZAt w b Sb z) (S : z.Sound) (hS : Old w Sb) (hl : IntsA w v o.l) (hk : o.call = 1) : Calls Try.prog 9 #[.pointer (some ⟨b, 0, none⟩), opv o v] w (TnPost w b Sb (z.doZ o) (.bool (z.doB o))) := by
  unfold opv
  obtain ⟨V, hV⟩ : ∃ V, V = w.alloc (.cells #[.int .i64 o.call, .int .i64 o.n, .int .u8 o.tp, .int .i64 o.own, .int .i64 o.t.card, .int .i64 o.t.owner, .int .u8 o.t.place, .int .i64 o.t.stamp, .int .i64 o.t.hurt, .int .i64 o.t.m0, .int .i64 o.t.m1, .int .i64 o.t.m2, .int .i64 o.t.m3, .int .i64 o.t.done, .bool o.t.fresh, v] 40) := ⟨_, rfl⟩
  have HV : Hid (V = w.alloc (.cells #[.int .i64 o.call, .int .i64 o.n, .int .u8 o.tp, .int .i64 o.own, .int .i64 o.t.card, .int .i64 o.t.owner, .int .u8 o.t.place, .int .i64 o.t.stamp, .int .i64 o.t.hurt, .int .i64 o.t.m0, .int .i64 o.t.m1, .int .i64 o.t.m2, .int .i64 o.t.m3, .int .i64 o.t.done, .bool o.t.fresh, v] 40)) := hV
  have HGV : Hid (w.grownBy V none) := by show w.grownBy V none; rw [hV]; exact World.grownBy_alloc _ _ _
  have HB : Hid (V.heap[w.heap.size]? = some (.cells #[.int .i64 o.call, .int .i64 o.n, .int .u8 o.tp, .int .i64 o.own, .int .i64 o.t.card, .int .i64 o.t.owner, .int .u8 o.t.place, .int .i64 o.t.stamp, .int .i64 o.t.hurt, .int .i64 o.t.m0, .int .i64 o.t.m1, .int .i64 o.t.m2, .int .i64 o.t.m3, .int .i64 o.t.done, .bool o.t.fresh, v] 40 (0, 0))) := by show V.heap[_]? = _; rw [hV]; exact alloc_at _ _ _
  have ZV := Z.grow HGV.out
  have hSV : Old V Sb := fun x hx => Nat.lt_of_lt_of_le (hS x hx) HGV.out.size
  obtain ⟨pv, cv, rfl, -⟩ := hl.src
  have hk0 : ¬ o.call = 0 := by omega
  have eB : z.doB o = decide (z.makeE o.n o.own = 0) := by unfold Zs.doB; rw [if_neg hk0, if_pos hk]
  have eZ : z.doZ o = z.make o.n o.own := by unfold Zs.doZ; rw [if_neg hk0, if_pos hk]
  rw [eB, eZ]
  have C := make_any b Sb z o.n o.own V ZV S hSV
  obtain ⟨x, hx⟩ : ∃ x, x = z.makeE o.n o.own := ⟨_, rfl⟩
  rw [← hx] at C ⊢
  rw [hV, hk] at C
  rw [hk] at HV HB ⊢
  have hb : (x == 0) = decide (x = 0) := by rw [Bool.eq_iff_iff]; simp
  clear eB eZ hx hV Z ZV S hS hSV hl hk0
  go_enter Try.func9, Try.ntmps9
  go_wp2_with fail
  refine C.mono ?_
  rintro e w1 ⟨rfl, S1, Z1, T1⟩
  have HF : Hid (TnPost w b Sb (z.make o.n o.own) (.bool (decide (x = 0))) (.returned (.bool (decide (x = 0)))) w1) := ⟨rfl, S1, Z1, T1.pre (by rw [← HV.out]; exact HGV.out)⟩
  clear Z1 T1 C
  cases hd : decide (x = 0) with
  | true =>
    have HF2 : Hid (TnPost w b Sb (z.make o.n o.own) (.bool (decide (x = 0))) (.returned (.bool true)) w1) := by
      have q := HF.out
      rw [hd] at q
      show TnPost w b Sb (z.make o.n o.own) (.bool (decide (x = 0))) (.returned (.bool true)) w1
      rw [hd]
      exact q
    rw [hd] at hb
    clear HF
    go_wp2
    go_ret
    exact HF2.out
  | false =>
    have HF2 : Hid (TnPost w b Sb (z.make o.n o.own) (.bool (decide (x = 0))) (.returned (.bool false)) w1) := by
      have q := HF.out
      rw [hd] at q
      show TnPost w b Sb (z.make o.n o.own) (.bool (decide (x = 0))) (.returned (.bool false)) w1
      rw [hd]
      exact q
    rw [hd] at hb
    clear HF
    go_wp2
    go_ret
    exact HF2.out
set_option maxRecDepth 100000 in
set_option maxHeartbeats 4000000 in
theorem do_write (b : Nat) (Sb : List Nat) (z : Zs) (o : Opc) (v : Value) (w : World) (Z : ZAt w b Sb z) (S : z.Sound) (hS : Old w Sb) (hl : IntsA w v o.l) (hk : o.call = 2) : Calls Try.prog 9 #[.pointer (some ⟨b, 0, none⟩), opv o v] w (TnPost w b Sb (z.doZ o) (.bool (z.doB o))) := by
  unfold opv
  obtain ⟨V, hV⟩ : ∃ V, V = w.alloc (.cells #[.int .i64 o.call, .int .i64 o.n, .int .u8 o.tp, .int .i64 o.own, .int .i64 o.t.card, .int .i64 o.t.owner, .int .u8 o.t.place, .int .i64 o.t.stamp, .int .i64 o.t.hurt, .int .i64 o.t.m0, .int .i64 o.t.m1, .int .i64 o.t.m2, .int .i64 o.t.m3, .int .i64 o.t.done, .bool o.t.fresh, v] 40) := ⟨_, rfl⟩
  have HV : Hid (V = w.alloc (.cells #[.int .i64 o.call, .int .i64 o.n, .int .u8 o.tp, .int .i64 o.own, .int .i64 o.t.card, .int .i64 o.t.owner, .int .u8 o.t.place, .int .i64 o.t.stamp, .int .i64 o.t.hurt, .int .i64 o.t.m0, .int .i64 o.t.m1, .int .i64 o.t.m2, .int .i64 o.t.m3, .int .i64 o.t.done, .bool o.t.fresh, v] 40)) := hV
  have HGV : Hid (w.grownBy V none) := by show w.grownBy V none; rw [hV]; exact World.grownBy_alloc _ _ _
  have HB : Hid (V.heap[w.heap.size]? = some (.cells #[.int .i64 o.call, .int .i64 o.n, .int .u8 o.tp, .int .i64 o.own, .int .i64 o.t.card, .int .i64 o.t.owner, .int .u8 o.t.place, .int .i64 o.t.stamp, .int .i64 o.t.hurt, .int .i64 o.t.m0, .int .i64 o.t.m1, .int .i64 o.t.m2, .int .i64 o.t.m3, .int .i64 o.t.done, .bool o.t.fresh, v] 40 (0, 0))) := by show V.heap[_]? = _; rw [hV]; exact alloc_at _ _ _
  have ZV := Z.grow HGV.out
  have hSV : Old V Sb := fun x hx => Nat.lt_of_lt_of_le (hS x hx) HGV.out.size
  obtain ⟨pv, cv, rfl, -⟩ := hl.src
  have hk0 : ¬ o.call = 0 := by omega
  have hk1 : ¬ o.call = 1 := by omega
  have eB : z.doB o = decide (z.writeE o.n o.t = 0) := by unfold Zs.doB; rw [if_neg hk0, if_neg hk1, if_pos hk]
  have eZ : z.doZ o = z.write o.n o.t := by unfold Zs.doZ; rw [if_neg hk0, if_neg hk1, if_pos hk]
  rw [eB, eZ]
  have C := write_any b Sb z o.n o.t V ZV S hSV
  unfold thv at C
  obtain ⟨x, hx⟩ : ∃ x, x = z.writeE o.n o.t := ⟨_, rfl⟩
  rw [← hx] at C ⊢
  rw [hV, hk] at C
  rw [hk] at HV HB ⊢
  have hb : (x == 0) = decide (x = 0) := by rw [Bool.eq_iff_iff]; simp
  clear eB eZ hx hV Z ZV S hS hSV hl hk0 hk1
  go_enter Try.func9, Try.ntmps9
  go_wp2_with fail
  refine C.mono ?_
  rintro e w1 ⟨rfl, S1, Z1, T1⟩
  have HF : Hid (TnPost w b Sb (z.write o.n o.t) (.bool (decide (x = 0))) (.returned (.bool (decide (x = 0)))) w1) := ⟨rfl, S1, Z1, T1.pre (by rw [← HV.out]; exact HGV.out)⟩
  clear Z1 T1 C
  cases hd : decide (x = 0) with
  | true =>
    have HF2 : Hid (TnPost w b Sb (z.write o.n o.t) (.bool (decide (x = 0))) (.returned (.bool true)) w1) := by
      have q := HF.out
      rw [hd] at q
      show TnPost w b Sb (z.write o.n o.t) (.bool (decide (x = 0))) (.returned (.bool true)) w1
      rw [hd]
      exact q
    rw [hd] at hb
    clear HF
    go_wp2
    go_ret
    exact HF2.out
  | false =>
    have HF2 : Hid (TnPost w b Sb (z.write o.n o.t) (.bool (decide (x = 0))) (.returned (.bool false)) w1) := by
      have q := HF.out
      rw [hd] at q
      show TnPost w b Sb (z.write o.n o.t) (.bool (decide (x = 0))) (.returned (.bool false)) w1
      rw [hd]
      exact q
    rw [hd] at hb
    clear HF
    go_wp2
    go_ret
    exact HF2.out
set_option maxRecDepth 100000 in
set_option maxHeartbeats 4000000 in
theorem do_arr (b : Nat) (Sb : List Nat) (z : Zs) (o : Opc) (v : Value) (w : World) (Z : ZAt w b Sb z) (S : z.Sound) (hS : Old w Sb) (hl : IntsA w v o.l) (hk : o.call = 3) : Calls Try.prog 9 #[.pointer (some ⟨b, 0, none⟩), opv o v] w (TnPost w b Sb (z.doZ o) (.bool (z.doB o))) := by
  unfold opv
  obtain ⟨V, hV⟩ : ∃ V, V = w.alloc (.cells #[.int .i64 o.call, .int .i64 o.n, .int .u8 o.tp, .int .i64 o.own, .int .i64 o.t.card, .int .i64 o.t.owner, .int .u8 o.t.place, .int .i64 o.t.stamp, .int .i64 o.t.hurt, .int .i64 o.t.m0, .int .i64 o.t.m1, .int .i64 o.t.m2, .int .i64 o.t.m3, .int .i64 o.t.done, .bool o.t.fresh, v] 40) := ⟨_, rfl⟩
  have HV : Hid (V = w.alloc (.cells #[.int .i64 o.call, .int .i64 o.n, .int .u8 o.tp, .int .i64 o.own, .int .i64 o.t.card, .int .i64 o.t.owner, .int .u8 o.t.place, .int .i64 o.t.stamp, .int .i64 o.t.hurt, .int .i64 o.t.m0, .int .i64 o.t.m1, .int .i64 o.t.m2, .int .i64 o.t.m3, .int .i64 o.t.done, .bool o.t.fresh, v] 40)) := hV
  have HGV : Hid (w.grownBy V none) := by show w.grownBy V none; rw [hV]; exact World.grownBy_alloc _ _ _
  have HB : Hid (V.heap[w.heap.size]? = some (.cells #[.int .i64 o.call, .int .i64 o.n, .int .u8 o.tp, .int .i64 o.own, .int .i64 o.t.card, .int .i64 o.t.owner, .int .u8 o.t.place, .int .i64 o.t.stamp, .int .i64 o.t.hurt, .int .i64 o.t.m0, .int .i64 o.t.m1, .int .i64 o.t.m2, .int .i64 o.t.m3, .int .i64 o.t.done, .bool o.t.fresh, v] 40 (0, 0))) := by show V.heap[_]? = _; rw [hV]; exact alloc_at _ _ _
  have ZV := Z.grow HGV.out
  have hSV : Old V Sb := fun x hx => Nat.lt_of_lt_of_le (hS x hx) HGV.out.size
  obtain ⟨pv, cv, rfl, -⟩ := hl.src
  have eB : z.doB o = arrB z o.own o.l := by unfold Zs.doB; rw [if_neg (by omega), if_neg (by omega), if_neg (by omega), if_pos hk]
  have eZ : z.doZ o = (if arrB z o.own o.l = true then z.arrange o.own o.l else z) := by unfold Zs.doZ; rw [if_neg (by omega), if_neg (by omega), if_neg (by omega), if_pos hk]
  rw [eB, eZ]
  have C := arrange_any b Sb z o.own _ o.l V ZV S hSV (hl.keep HGV.out)
  have HA : Hid (arrB z o.own o.l = true ↔ (o.own = 0 ∨ o.own = 1) ∧ Holds z.ts o.l o.own 1) := arrB_iff
  rw [hV, hk] at C
  rw [hk] at HV HB ⊢
  obtain ⟨y, hy⟩ : ∃ y, y = (if arrB z o.own o.l = true then z.arrange o.own o.l else z) := ⟨_, rfl⟩
  obtain ⟨a, ha⟩ : ∃ a, a = arrB z o.own o.l := ⟨_, rfl⟩
  have HY : Hid (y = (if arrB z o.own o.l = true then z.arrange o.own o.l else z)) := hy
  rw [← hy, ← ha]
  clear eB eZ hV Z ZV S hS hSV hl hy
  go_enter Try.func9, Try.ntmps9
  go_wp2_with fail
  refine C.mono ?_
  rintro e w1 ⟨ok, rfl, hok, S1, Z1, T1⟩
  obtain rfl : a = ok := by rw [ha, Bool.eq_iff_iff, HA.out, hok]
  have HF : Hid (TnPost w b Sb y (.bool a) (.returned (.bool a)) w1) := ⟨rfl, S1, by rw [HY.out, ← ha]; exact Z1, T1.pre (by rw [← HV.out]; exact HGV.out)⟩
  clear Z1 T1 C hok HA ha
  cases a with
  | true =>
    go_wp2
    go_ret
    exact HF.out
  | false =>
    go_wp2
    go_ret
    exact HF.out
set_option maxRecDepth 100000 in
set_option maxHeartbeats 4000000 in
theorem do_none (b : Nat) (Sb : List Nat) (z : Zs) (o : Opc) (v : Value) (w : World) (Z : ZAt w b Sb z) (hS : Old w Sb) (hl : IntsA w v o.l) (k0 : ¬ o.call = 0) (k1 : ¬ o.call = 1) (k2 : ¬ o.call = 2) (k3 : ¬ o.call = 3) : Calls Try.prog 9 #[.pointer (some ⟨b, 0, none⟩), opv o v] w (TnPost w b Sb (z.doZ o) (.bool (z.doB o))) := by
  unfold opv
  obtain ⟨V, hV⟩ : ∃ V, V = w.alloc (.cells #[.int .i64 o.call, .int .i64 o.n, .int .u8 o.tp, .int .i64 o.own, .int .i64 o.t.card, .int .i64 o.t.owner, .int .u8 o.t.place, .int .i64 o.t.stamp, .int .i64 o.t.hurt, .int .i64 o.t.m0, .int .i64 o.t.m1, .int .i64 o.t.m2, .int .i64 o.t.m3, .int .i64 o.t.done, .bool o.t.fresh, v] 40) := ⟨_, rfl⟩
  have HV : Hid (V = w.alloc (.cells #[.int .i64 o.call, .int .i64 o.n, .int .u8 o.tp, .int .i64 o.own, .int .i64 o.t.card, .int .i64 o.t.owner, .int .u8 o.t.place, .int .i64 o.t.stamp, .int .i64 o.t.hurt, .int .i64 o.t.m0, .int .i64 o.t.m1, .int .i64 o.t.m2, .int .i64 o.t.m3, .int .i64 o.t.done, .bool o.t.fresh, v] 40)) := hV
  have HGV : Hid (w.grownBy V none) := by show w.grownBy V none; rw [hV]; exact World.grownBy_alloc _ _ _
  have HB : Hid (V.heap[w.heap.size]? = some (.cells #[.int .i64 o.call, .int .i64 o.n, .int .u8 o.tp, .int .i64 o.own, .int .i64 o.t.card, .int .i64 o.t.owner, .int .u8 o.t.place, .int .i64 o.t.stamp, .int .i64 o.t.hurt, .int .i64 o.t.m0, .int .i64 o.t.m1, .int .i64 o.t.m2, .int .i64 o.t.m3, .int .i64 o.t.done, .bool o.t.fresh, v] 40 (0, 0))) := by show V.heap[_]? = _; rw [hV]; exact alloc_at _ _ _
  have ZV := Z.grow HGV.out
  have hSV : Old V Sb := fun x hx => Nat.lt_of_lt_of_le (hS x hx) HGV.out.size
  obtain ⟨pv, cv, rfl, -⟩ := hl.src
  have eB : z.doB o = false := by unfold Zs.doB; rw [if_neg k0, if_neg k1, if_neg k2, if_neg k3]
  have eZ : z.doZ o = z := by unfold Zs.doZ; rw [if_neg k0, if_neg k1, if_neg k2, if_neg k3]
  rw [eB, eZ]
  have q0 : (o.call == 0) = false := by simpa using k0
  have q1 : (o.call == 1) = false := by simpa using k1
  have q2 : (o.call == 2) = false := by simpa using k2
  have q3 : (o.call == 3) = false := by simpa using k3
  have HF : Hid (TnPost w b Sb z (.bool false) (.returned (.bool false)) V) := ⟨rfl, Sb, ZV, Turn.of_grow HGV.out hS⟩
  rw [hV] at HF
  clear eB eZ hV Z ZV hS hSV hl k0 k1 k2 k3
  go_enter Try.func9, Try.ntmps9
  go_wp2
  go_ret
  exact HF.out
theorem do_any (b : Nat) (Sb : List Nat) (z : Zs) (o : Opc) (v : Value) (w : World) (Z : ZAt w b Sb z) (S : z.Sound) (hS : Old w Sb) (hl : IntsA w v o.l) : Calls Try.prog 9 #[.pointer (some ⟨b, 0, none⟩), opv o v] w (TnPost w b Sb (z.doZ o) (.bool (z.doB o))) := by
  by_cases k0 : o.call = 0
  · exact do_move b Sb z o v w Z S hS hl k0
  by_cases k1 : o.call = 1
  · exact do_make b Sb z o v w Z S hS hl k1
  by_cases k2 : o.call = 2
  · exact do_write b Sb z o v w Z S hS hl k2
  by_cases k3 : o.call = 3
  · exact do_arr b Sb z o v w Z S hS hl k3
  · exact do_none b Sb z o v w Z hS hl k0 k1 k2 k3
end Go.Proofs.Ytogpgldbbegniaa
