/-
  Zones: room; whether a list holds just an owner's things in a place; Move.
-/
import Derived.Test.YtogpgldbbegniaaZmN
namespace Go.Proofs.Ytogpgldbbegniaa
open Go.RowKit

set_option maxRecDepth 100000 in
set_option maxHeartbeats 4000000 in
theorem tableRoom_any (b : Nat) (vt : Value) (ts : List Th) (p : Int) (w : World) (c0 : w.cell? ⟨b, 0, none⟩ = some vt) (T : ThsAt w vt ts) (hf : ts.length ≤ 2048) : Calls Try.prog 69 #[.pointer (some ⟨b, 0, none⟩), .int .i64 p] w fun e w' => e = .returned (.bool (decide (owned ts p < 8))) ∧ w.grownBy w' none := by
  have C := numbers_any b vt ts p 4 w c0 T hf
  have HL : Hid ((numsOf ts p 4).length = owned ts p) := owned_numsOf ts p
  obtain ⟨l, hl⟩ : ∃ l, l = numsOf ts p 4 := ⟨_, rfl⟩
  rw [← hl] at C HL
  clear c0 T hf hl
  by_cases h : l.length < 8
  · have h' : (l.length : Int) < 8 := by omega
    rw [← HL.out, decide_eq_true h]
    go_enter Try.func69, Try.ntmps69
    go_wp2_with fail
    refine C.mono ?_
    rintro e w1 ⟨v1, rfl, o1, g1⟩
    obtain ⟨p1, q1, rfl⟩ := o1.form
    have HG : Hid (w.grownBy w1 none) := g1
    clear o1 g1 C h
    go_wp2
    go_ret
    exact ⟨rfl, HG.out⟩
  · have h' : ¬ (l.length : Int) < 8 := by omega
    have hq : decide ((l.length : Int) < 8) = false := decide_eq_false h'
    rw [← HL.out, decide_eq_false h]
    go_enter Try.func69, Try.ntmps69
    go_wp2_with fail
    refine C.mono ?_
    rintro e w1 ⟨v1, rfl, o1, g1⟩
    obtain ⟨p1, q1, rfl⟩ := o1.form
    have HG : Hid (w.grownBy w1 none) := g1
    clear o1 g1 C h
    go_wp2
    go_ret
    exact ⟨rfl, HG.out⟩
/-- Is there room for a thing? -/
def Zs.roomB (z : Zs) (n tp : Int) : Bool := if tp = 2 then decide ((thAt z.ts n).place = 2) || decide ((z.hd (thAt z.ts n).owner).length < 10) else if tp = 4 then (decide ((thAt z.ts n).place = 4) || decide (owned z.ts (thAt z.ts n).owner < 8)) && decide (z.nx < 1099511627776) else true
set_option maxRecDepth 100000 in
set_option maxHeartbeats 4000000 in
theorem room_h2 (b : Nat) (Sb : List Nat) (z : Zs) (n : Int) (w : World) (Z : ZAt w b Sb z) (S : z.Sound) (hn : there z.ts n) (hp : (thAt z.ts n).place = 2) : Calls Try.prog 64 #[.pointer (some ⟨b, 0, none⟩), .int .i64 n, .int .u8 2] w fun e w' => e = .returned (.bool true) ∧ w.grownBy w' none := by
  obtain ⟨vt, d0, d1, h0, h1, Z⟩ := Z
  obtain ⟨c0, c1, c2, c3, c4, c5⟩ := Z.cell
  obtain ⟨k, hk⟩ : ∃ k : Nat, n = (k : Int) + 1 := ⟨(n - 1).toNat, by unfold there at hn; omega⟩
  subst hk
  have hlt : k < z.ts.length := by unfold there at hn; omega
  obtain ⟨g, cap, rfl, R⟩ := zg_at Z (k := k) hlt
  obtain ⟨t, ht⟩ : ∃ t, t = thAt z.ts ((k : Int) + 1) := ⟨_, rfl⟩
  rw [← ht] at R
  obtain ⟨e1, e2, e3, e4, e5, e6, e7, e8, e9, e10, e11⟩ := range_cells R
  have hw1 : wrap64 (k : Int) = (k : Int) := by unfold wrap64; have := S.few; omega
  have hlt' : (k : Int) < z.ts.length := by omega
  have hto : t.owner = (thAt z.ts ((k : Int) + 1)).owner := by rw [ht]
  have htp : t.place = (thAt z.ts ((k : Int) + 1)).place := by rw [ht]
  rw [htp, hp] at e3
  obtain ⟨V, hV⟩ : ∃ V, V = w.alloc (.cells #[.int .i64 t.card, .int .i64 t.owner, .int .u8 2, .int .i64 t.stamp, .int .i64 t.hurt, .int .i64 t.m0, .int .i64 t.m1, .int .i64 t.m2, .int .i64 t.m3, .int .i64 t.done, .bool t.fresh] 38) := ⟨_, rfl⟩
  have GV : Hid (w.grownBy V none) := by show w.grownBy V none; rw [hV]; exact World.grownBy_alloc _ _ _
  have x2 : V.cell? ⟨w.heap.size, 2, none⟩ = some (.int .u8 2) := by rw [hV, block_cell (alloc_at _ _ _)]; rfl
  have HV : Hid (V = w.alloc (.cells #[.int .i64 t.card, .int .i64 t.owner, .int .u8 2, .int .i64 t.stamp, .int .i64 t.hurt, .int .i64 t.m0, .int .i64 t.m1, .int .i64 t.m2, .int .i64 t.m3, .int .i64 t.done, .bool t.fresh] 38)) := hV
  clear hp Z S hn R ht hto htp c1 c2 c3 c4 c5 hV
  go_enter Try.func64, Try.ntmps64
  go_upto_region 4 with fail
  rw [← HV.out]
  go_quiet (fail)
  go_wp2
  go_ret
  exact ⟨rfl, grown_trans GV.out (grown_drewN _ _ _)⟩
set_option maxRecDepth 100000 in
set_option maxHeartbeats 4000000 in
theorem room_h0 (b : Nat) (Sb : List Nat) (z : Zs) (n : Int) (w : World) (Z : ZAt w b Sb z) (S : z.Sound) (hn : there z.ts n) (hp : (thAt z.ts n).place ≠ 2) (ho : (thAt z.ts n).owner = 0) (hl : (z.hd 0).length < 10) : Calls Try.prog 64 #[.pointer (some ⟨b, 0, none⟩), .int .i64 n, .int .u8 2] w fun e w' => e = .returned (.bool true) ∧ w.grownBy w' none := by
  obtain ⟨vt, d0, d1, h0, h1, Z⟩ := Z
  obtain ⟨c0, c1, c2, c3, c4, c5⟩ := Z.cell
  obtain ⟨k, hk⟩ : ∃ k : Nat, n = (k : Int) + 1 := ⟨(n - 1).toNat, by unfold there at hn; omega⟩
  subst hk
  have hlt : k < z.ts.length := by unfold there at hn; omega
  obtain ⟨g, cap, rfl, R⟩ := zg_at Z (k := k) hlt
  obtain ⟨t, ht⟩ : ∃ t, t = thAt z.ts ((k : Int) + 1) := ⟨_, rfl⟩
  rw [← ht] at R
  obtain ⟨e1, e2, e3, e4, e5, e6, e7, e8, e9, e10, e11⟩ := range_cells R
  have hw1 : wrap64 (k : Int) = (k : Int) := by unfold wrap64; have := S.few; omega
  have hlt' : (k : Int) < z.ts.length := by omega
  have hto : t.owner = (thAt z.ts ((k : Int) + 1)).owner := by rw [ht]
  have htp : t.place = (thAt z.ts ((k : Int) + 1)).place := by rw [ht]
  rw [hto, ho] at e2
  have q2 : (t.place == 2) = false := by rw [htp]; simpa using hp
  obtain ⟨pd, cd, ev, _⟩ := own_slice Z.oh0
  rw [ev] at c3
  obtain ⟨m, hm⟩ : ∃ m, m = (z.hd 0).length := ⟨_, rfl⟩
  rw [← hm] at c3 hl
  have hl' : (m : Int) < 10 := by omega
  obtain ⟨V, hV⟩ : ∃ V, V = w.alloc (.cells #[.int .i64 t.card, .int .i64 0, .int .u8 t.place, .int .i64 t.stamp, .int .i64 t.hurt, .int .i64 t.m0, .int .i64 t.m1, .int .i64 t.m2, .int .i64 t.m3, .int .i64 t.done, .bool t.fresh] 38) := ⟨_, rfl⟩
  have GV : Hid (w.grownBy V none) := by show w.grownBy V none; rw [hV]; exact World.grownBy_alloc _ _ _
  have x1 : V.cell? ⟨w.heap.size, 1, none⟩ = some (.int .i64 0) := by rw [hV, block_cell (alloc_at _ _ _)]; rfl
  have x2 : V.cell? ⟨w.heap.size, 2, none⟩ = some (.int .u8 t.place) := by rw [hV, block_cell (alloc_at _ _ _)]; rfl
  have x3 : V.cell? ⟨b, 3, none⟩ = some (.slice pd m cd) := GV.out.cell c3 (by simp)
  have HV : Hid (V = w.alloc (.cells #[.int .i64 t.card, .int .i64 0, .int .u8 t.place, .int .i64 t.stamp, .int .i64 t.hurt, .int .i64 t.m0, .int .i64 t.m1, .int .i64 t.m2, .int .i64 t.m3, .int .i64 t.done, .bool t.fresh] 38)) := hV
  clear hp ho hl hm ev Z S hn R ht hto htp hV
  go_enter Try.func64, Try.ntmps64
  go_upto_region 4 with fail
  rw [← HV.out]
  go_quiet (fail)
  go_wp2
  go_ret
  exact ⟨rfl, grown_trans GV.out (grown_drewN _ _ _)⟩
set_option maxRecDepth 100000 in
set_option maxHeartbeats 4000000 in
theorem room_h0f (b : Nat) (Sb : List Nat) (z : Zs) (n : Int) (w : World) (Z : ZAt w b Sb z) (S : z.Sound) (hn : there z.ts n) (hp : (thAt z.ts n).place ≠ 2) (ho : (thAt z.ts n).owner = 0) (hl : ¬ (z.hd 0).length < 10) : Calls Try.prog 64 #[.pointer (some ⟨b, 0, none⟩), .int .i64 n, .int .u8 2] w fun e w' => e = .returned (.bool false) ∧ w.grownBy w' none := by
  obtain ⟨vt, d0, d1, h0, h1, Z⟩ := Z
  obtain ⟨c0, c1, c2, c3, c4, c5⟩ := Z.cell
  obtain ⟨k, hk⟩ : ∃ k : Nat, n = (k : Int) + 1 := ⟨(n - 1).toNat, by unfold there at hn; omega⟩
  subst hk
  have hlt : k < z.ts.length := by unfold there at hn; omega
  obtain ⟨g, cap, rfl, R⟩ := zg_at Z (k := k) hlt
  obtain ⟨t, ht⟩ : ∃ t, t = thAt z.ts ((k : Int) + 1) := ⟨_, rfl⟩
  rw [← ht] at R
  obtain ⟨e1, e2, e3, e4, e5, e6, e7, e8, e9, e10, e11⟩ := range_cells R
  have hw1 : wrap64 (k : Int) = (k : Int) := by unfold wrap64; have := S.few; omega
  have hlt' : (k : Int) < z.ts.length := by omega
  have hto : t.owner = (thAt z.ts ((k : Int) + 1)).owner := by rw [ht]
  have htp : t.place = (thAt z.ts ((k : Int) + 1)).place := by rw [ht]
  rw [hto, ho] at e2
  have q2 : (t.place == 2) = false := by rw [htp]; simpa using hp
  obtain ⟨pd, cd, ev, _⟩ := own_slice Z.oh0
  rw [ev] at c3
  obtain ⟨m, hm⟩ : ∃ m, m = (z.hd 0).length := ⟨_, rfl⟩
  rw [← hm] at c3 hl
  have hl' : ¬ (m : Int) < 10 := by omega
  have hq : decide ((m : Int) < 10) = false := decide_eq_false hl'
  obtain ⟨V, hV⟩ : ∃ V, V = w.alloc (.cells #[.int .i64 t.card, .int .i64 0, .int .u8 t.place, .int .i64 t.stamp, .int .i64 t.hurt, .int .i64 t.m0, .int .i64 t.m1, .int .i64 t.m2, .int .i64 t.m3, .int .i64 t.done, .bool t.fresh] 38) := ⟨_, rfl⟩
  have GV : Hid (w.grownBy V none) := by show w.grownBy V none; rw [hV]; exact World.grownBy_alloc _ _ _
  have x1 : V.cell? ⟨w.heap.size, 1, none⟩ = some (.int .i64 0) := by rw [hV, block_cell (alloc_at _ _ _)]; rfl
  have x2 : V.cell? ⟨w.heap.size, 2, none⟩ = some (.int .u8 t.place) := by rw [hV, block_cell (alloc_at _ _ _)]; rfl
  have x3 : V.cell? ⟨b, 3, none⟩ = some (.slice pd m cd) := GV.out.cell c3 (by simp)
  have HV : Hid (V = w.alloc (.cells #[.int .i64 t.card, .int .i64 0, .int .u8 t.place, .int .i64 t.stamp, .int .i64 t.hurt, .int .i64 t.m0, .int .i64 t.m1, .int .i64 t.m2, .int .i64 t.m3, .int .i64 t.done, .bool t.fresh] 38)) := hV
  clear hp ho hl hm ev Z S hn R ht hto htp hV
  go_enter Try.func64, Try.ntmps64
  go_upto_region 4 with fail
  rw [← HV.out]
  go_quiet (fail)
  go_wp2
  go_ret
  exact ⟨rfl, grown_trans GV.out (grown_drewN _ _ _)⟩
set_option maxRecDepth 100000 in
set_option maxHeartbeats 4000000 in
theorem room_h1 (b : Nat) (Sb : List Nat) (z : Zs) (n : Int) (w : World) (Z : ZAt w b Sb z) (S : z.Sound) (hn : there z.ts n) (hp : (thAt z.ts n).place ≠ 2) (ho : (thAt z.ts n).owner = 1) (hl : (z.hd 1).length < 10) : Calls Try.prog 64 #[.pointer (some ⟨b, 0, none⟩), .int .i64 n, .int .u8 2] w fun e w' => e = .returned (.bool true) ∧ w.grownBy w' none := by
  obtain ⟨vt, d0, d1, h0, h1, Z⟩ := Z
  obtain ⟨c0, c1, c2, c3, c4, c5⟩ := Z.cell
  obtain ⟨k, hk⟩ : ∃ k : Nat, n = (k : Int) + 1 := ⟨(n - 1).toNat, by unfold there at hn; omega⟩
  subst hk
  have hlt : k < z.ts.length := by unfold there at hn; omega
  obtain ⟨g, cap, rfl, R⟩ := zg_at Z (k := k) hlt
  obtain ⟨t, ht⟩ : ∃ t, t = thAt z.ts ((k : Int) + 1) := ⟨_, rfl⟩
  rw [← ht] at R
  obtain ⟨e1, e2, e3, e4, e5, e6, e7, e8, e9, e10, e11⟩ := range_cells R
  have hw1 : wrap64 (k : Int) = (k : Int) := by unfold wrap64; have := S.few; omega
  have hlt' : (k : Int) < z.ts.length := by omega
  have hto : t.owner = (thAt z.ts ((k : Int) + 1)).owner := by rw [ht]
  have htp : t.place = (thAt z.ts ((k : Int) + 1)).place := by rw [ht]
  rw [hto, ho] at e2
  have q2 : (t.place == 2) = false := by rw [htp]; simpa using hp
  obtain ⟨pd, cd, ev, _⟩ := own_slice Z.oh1
  rw [ev] at c4
  obtain ⟨m, hm⟩ : ∃ m, m = (z.hd 1).length := ⟨_, rfl⟩
  rw [← hm] at c4 hl
  have hl' : (m : Int) < 10 := by omega
  obtain ⟨V, hV⟩ : ∃ V, V = w.alloc (.cells #[.int .i64 t.card, .int .i64 1, .int .u8 t.place, .int .i64 t.stamp, .int .i64 t.hurt, .int .i64 t.m0, .int .i64 t.m1, .int .i64 t.m2, .int .i64 t.m3, .int .i64 t.done, .bool t.fresh] 38) := ⟨_, rfl⟩
  have GV : Hid (w.grownBy V none) := by show w.grownBy V none; rw [hV]; exact World.grownBy_alloc _ _ _
  have x1 : V.cell? ⟨w.heap.size, 1, none⟩ = some (.int .i64 1) := by rw [hV, block_cell (alloc_at _ _ _)]; rfl
  have x2 : V.cell? ⟨w.heap.size, 2, none⟩ = some (.int .u8 t.place) := by rw [hV, block_cell (alloc_at _ _ _)]; rfl
  have x3 : V.cell? ⟨b, 4, none⟩ = some (.slice pd m cd) := GV.out.cell c4 (by simp)
  have HV : Hid (V = w.alloc (.cells #[.int .i64 t.card, .int .i64 1, .int .u8 t.place, .int .i64 t.stamp, .int .i64 t.hurt, .int .i64 t.m0, .int .i64 t.m1, .int .i64 t.m2, .int .i64 t.m3, .int .i64 t.done, .bool t.fresh] 38)) := hV
  clear hp ho hl hm ev Z S hn R ht hto htp hV
  go_enter Try.func64, Try.ntmps64
  go_upto_region 4 with fail
  rw [← HV.out]
  go_quiet (fail)
  go_wp2
  go_ret
  exact ⟨rfl, grown_trans GV.out (grown_drewN _ _ _)⟩
set_option maxRecDepth 100000 in
set_option maxHeartbeats 4000000 in
theorem room_h1f (b : Nat) (Sb : List Nat) (z : Zs) (n : Int) (w : World) (Z : ZAt w b Sb z) (S : z.Sound) (hn : there z.ts n) (hp : (thAt z.ts n).place ≠ 2) (ho : (thAt z.ts n).owner = 1) (hl : ¬ (z.hd 1).length < 10) : Calls Try.prog 64 #[.pointer (some ⟨b, 0, none⟩), .int .i64 n, .int .u8 2] w fun e w' => e = .returned (.bool false) ∧ w.grownBy w' none := by
  obtain ⟨vt, d0, d1, h0, h1, Z⟩ := Z
  obtain ⟨c0, c1, c2, c3, c4, c5⟩ := Z.cell
  obtain ⟨k, hk⟩ : ∃ k : Nat, n = (k : Int) + 1 := ⟨(n - 1).toNat, by unfold there at hn; omega⟩
  subst hk
  have hlt : k < z.ts.length := by unfold there at hn; omega
  obtain ⟨g, cap, rfl, R⟩ := zg_at Z (k := k) hlt
  obtain ⟨t, ht⟩ : ∃ t, t = thAt z.ts ((k : Int) + 1) := ⟨_, rfl⟩
  rw [← ht] at R
  obtain ⟨e1, e2, e3, e4, e5, e6, e7, e8, e9, e10, e11⟩ := range_cells R
  have hw1 : wrap64 (k : Int) = (k : Int) := by unfold wrap64; have := S.few; omega
  have hlt' : (k : Int) < z.ts.length := by omega
  have hto : t.owner = (thAt z.ts ((k : Int) + 1)).owner := by rw [ht]
  have htp : t.place = (thAt z.ts ((k : Int) + 1)).place := by rw [ht]
  rw [hto, ho] at e2
  have q2 : (t.place == 2) = false := by rw [htp]; simpa using hp
  obtain ⟨pd, cd, ev, _⟩ := own_slice Z.oh1
  rw [ev] at c4
  obtain ⟨m, hm⟩ : ∃ m, m = (z.hd 1).length := ⟨_, rfl⟩
  rw [← hm] at c4 hl
  have hl' : ¬ (m : Int) < 10 := by omega
  have hq : decide ((m : Int) < 10) = false := decide_eq_false hl'
  obtain ⟨V, hV⟩ : ∃ V, V = w.alloc (.cells #[.int .i64 t.card, .int .i64 1, .int .u8 t.place, .int .i64 t.stamp, .int .i64 t.hurt, .int .i64 t.m0, .int .i64 t.m1, .int .i64 t.m2, .int .i64 t.m3, .int .i64 t.done, .bool t.fresh] 38) := ⟨_, rfl⟩
  have GV : Hid (w.grownBy V none) := by show w.grownBy V none; rw [hV]; exact World.grownBy_alloc _ _ _
  have x1 : V.cell? ⟨w.heap.size, 1, none⟩ = some (.int .i64 1) := by rw [hV, block_cell (alloc_at _ _ _)]; rfl
  have x2 : V.cell? ⟨w.heap.size, 2, none⟩ = some (.int .u8 t.place) := by rw [hV, block_cell (alloc_at _ _ _)]; rfl
  have x3 : V.cell? ⟨b, 4, none⟩ = some (.slice pd m cd) := GV.out.cell c4 (by simp)
  have HV : Hid (V = w.alloc (.cells #[.int .i64 t.card, .int .i64 1, .int .u8 t.place, .int .i64 t.stamp, .int .i64 t.hurt, .int .i64 t.m0, .int .i64 t.m1, .int .i64 t.m2, .int .i64 t.m3, .int .i64 t.done, .bool t.fresh] 38)) := hV
  clear hp ho hl hm ev Z S hn R ht hto htp hV
  go_enter Try.func64, Try.ntmps64
  go_upto_region 4 with fail
  rw [← HV.out]
  go_quiet (fail)
  go_wp2
  go_ret
  exact ⟨rfl, grown_trans GV.out (grown_drewN _ _ _)⟩
set_option maxRecDepth 100000 in
set_option maxHeartbeats 4000000 in
theorem room_t4 (b : Nat) (Sb : List Nat) (z : Zs) (n : Int) (w : World) (Z : ZAt w b Sb z) (S : z.Sound) (hn : there z.ts n) (hp : (thAt z.ts n).place = 4) (hx : z.nx < 1099511627776) : Calls Try.prog 64 #[.pointer (some ⟨b, 0, none⟩), .int .i64 n, .int .u8 4] w fun e w' => e = .returned (.bool true) ∧ w.grownBy w' none := by
  obtain ⟨vt, d0, d1, h0, h1, Z⟩ := Z
  obtain ⟨c0, c1, c2, c3, c4, c5⟩ := Z.cell
  obtain ⟨k, hk⟩ : ∃ k : Nat, n = (k : Int) + 1 := ⟨(n - 1).toNat, by unfold there at hn; omega⟩
  subst hk
  have hlt : k < z.ts.length := by unfold there at hn; omega
  obtain ⟨g, cap, rfl, R⟩ := zg_at Z (k := k) hlt
  obtain ⟨t, ht⟩ : ∃ t, t = thAt z.ts ((k : Int) + 1) := ⟨_, rfl⟩
  rw [← ht] at R
  obtain ⟨e1, e2, e3, e4, e5, e6, e7, e8, e9, e10, e11⟩ := range_cells R
  have hw1 : wrap64 (k : Int) = (k : Int) := by unfold wrap64; have := S.few; omega
  have hlt' : (k : Int) < z.ts.length := by omega
  have hto : t.owner = (thAt z.ts ((k : Int) + 1)).owner := by rw [ht]
  have htp : t.place = (thAt z.ts ((k : Int) + 1)).place := by rw [ht]
  rw [htp, hp] at e3
  have k5 : (w.alloc (.cells #[.int .i64 t.card, .int .i64 t.owner, .int .u8 4, .int .i64 t.stamp, .int .i64 t.hurt, .int .i64 t.m0, .int .i64 t.m1, .int .i64 t.m2, .int .i64 t.m3, .int .i64 t.done, .bool t.fresh] 38)).cell? ⟨b, 5, none⟩ = some (.int .i64 z.nx) := (World.grownBy_alloc _ _ none).cell c5 (by simp)
  clear hp Z S hn R ht hto htp c1 c2 c3 c4 c5
  go_enter Try.func64, Try.ntmps64
  go_wp2
  go_ret
  exact ⟨rfl, World.grownBy_alloc _ _ _⟩
set_option maxRecDepth 100000 in
set_option maxHeartbeats 4000000 in
theorem room_t4f (b : Nat) (Sb : List Nat) (z : Zs) (n : Int) (w : World) (Z : ZAt w b Sb z) (S : z.Sound) (hn : there z.ts n) (hp : (thAt z.ts n).place = 4) (hx : ¬ z.nx < 1099511627776) : Calls Try.prog 64 #[.pointer (some ⟨b, 0, none⟩), .int .i64 n, .int .u8 4] w fun e w' => e = .returned (.bool false) ∧ w.grownBy w' none := by
  obtain ⟨vt, d0, d1, h0, h1, Z⟩ := Z
  obtain ⟨c0, c1, c2, c3, c4, c5⟩ := Z.cell
  obtain ⟨k, hk⟩ : ∃ k : Nat, n = (k : Int) + 1 := ⟨(n - 1).toNat, by unfold there at hn; omega⟩
  subst hk
  have hlt : k < z.ts.length := by unfold there at hn; omega
  obtain ⟨g, cap, rfl, R⟩ := zg_at Z (k := k) hlt
  obtain ⟨t, ht⟩ : ∃ t, t = thAt z.ts ((k : Int) + 1) := ⟨_, rfl⟩
  rw [← ht] at R
  obtain ⟨e1, e2, e3, e4, e5, e6, e7, e8, e9, e10, e11⟩ := range_cells R
  have hw1 : wrap64 (k : Int) = (k : Int) := by unfold wrap64; have := S.few; omega
  have hlt' : (k : Int) < z.ts.length := by omega
  have hto : t.owner = (thAt z.ts ((k : Int) + 1)).owner := by rw [ht]
  have htp : t.place = (thAt z.ts ((k : Int) + 1)).place := by rw [ht]
  have hq : decide (z.nx < 1099511627776) = false := decide_eq_false hx
  rw [htp, hp] at e3
  have k5 : (w.alloc (.cells #[.int .i64 t.card, .int .i64 t.owner, .int .u8 4, .int .i64 t.stamp, .int .i64 t.hurt, .int .i64 t.m0, .int .i64 t.m1, .int .i64 t.m2, .int .i64 t.m3, .int .i64 t.done, .bool t.fresh] 38)).cell? ⟨b, 5, none⟩ = some (.int .i64 z.nx) := (World.grownBy_alloc _ _ none).cell c5 (by simp)
  clear hp Z S hn R ht hto htp c1 c2 c3 c4 c5
  go_enter Try.func64, Try.ntmps64
  go_wp2
  go_ret
  exact ⟨rfl, World.grownBy_alloc _ _ _⟩
set_option maxRecDepth 100000 in
set_option maxHeartbeats 4000000 in
theorem room_t (b : Nat) (Sb : List Nat) (z : Zs) (n : Int) (w : World) (Z : ZAt w b Sb z) (S : z.Sound) (hn : there z.ts n) (hp : (thAt z.ts n).place ≠ 4) (hr : owned z.ts (thAt z.ts n).owner < 8) (hx : z.nx < 1099511627776) : Calls Try.prog 64 #[.pointer (some ⟨b, 0, none⟩), .int .i64 n, .int .u8 4] w fun e w' => e = .returned (.bool true) ∧ w.grownBy w' none := by
  obtain ⟨vt, d0, d1, h0, h1, Z⟩ := Z
  obtain ⟨c0, c1, c2, c3, c4, c5⟩ := Z.cell
  obtain ⟨k, hk⟩ : ∃ k : Nat, n = (k : Int) + 1 := ⟨(n - 1).toNat, by unfold there at hn; omega⟩
  subst hk
  have hlt : k < z.ts.length := by unfold there at hn; omega
  obtain ⟨g, cap, rfl, R⟩ := zg_at Z (k := k) hlt
  obtain ⟨t, ht⟩ : ∃ t, t = thAt z.ts ((k : Int) + 1) := ⟨_, rfl⟩
  rw [← ht] at R
  obtain ⟨e1, e2, e3, e4, e5, e6, e7, e8, e9, e10, e11⟩ := range_cells R
  have hw1 : wrap64 (k : Int) = (k : Int) := by unfold wrap64; have := S.few; omega
  have hlt' : (k : Int) < z.ts.length := by omega
  have hto : t.owner = (thAt z.ts ((k : Int) + 1)).owner := by rw [ht]
  have htp : t.place = (thAt z.ts ((k : Int) + 1)).place := by rw [ht]
  have q4 : (t.place == 4) = false := by rw [htp]; simpa using hp
  obtain ⟨V, hV⟩ : ∃ V, V = w.alloc (.cells #[.int .i64 t.card, .int .i64 t.owner, .int .u8 t.place, .int .i64 t.stamp, .int .i64 t.hurt, .int .i64 t.m0, .int .i64 t.m1, .int .i64 t.m2, .int .i64 t.m3, .int .i64 t.done, .bool t.fresh] 38) := ⟨_, rfl⟩
  have GV : Hid (w.grownBy V none) := by show w.grownBy V none; rw [hV]; exact World.grownBy_alloc _ _ _
  have C := tableRoom_any b _ z.ts t.owner V (GV.out.cell c0 (by simp)) (Z.ts.at.keep GV.out) S.few
  rw [decide_eq_true (by rw [hto]; exact hr)] at C
  have HK : Hid (∀ V2, V.grownBy V2 none → V2.cell? ⟨b, 5, none⟩ = some (.int .i64 z.nx)) := fun V2 g2 => (grown_trans GV.out g2).cell c5 (by simp)
  rw [hV] at C
  have HV : Hid (V = w.alloc (.cells #[.int .i64 t.card, .int .i64 t.owner, .int .u8 t.place, .int .i64 t.stamp, .int .i64 t.hurt, .int .i64 t.m0, .int .i64 t.m1, .int .i64 t.m2, .int .i64 t.m3, .int .i64 t.done, .bool t.fresh] 38)) := hV
  clear hp hr Z S hn R ht hto htp c1 c2 c3 c4 c5
  go_enter Try.func64, Try.ntmps64
  go_wp2_with fail
  refine C.mono ?_
  rintro e V2 ⟨rfl, g2⟩
  rw [← HV.out] at g2
  have k5 := HK.out V2 g2
  have HG : Hid (w.grownBy V2 none) := grown_trans GV.out g2
  clear g2 C
  go_wp2
  go_ret
  exact ⟨rfl, HG.out⟩
set_option maxRecDepth 100000 in
set_option maxHeartbeats 4000000 in
theorem room_tf (b : Nat) (Sb : List Nat) (z : Zs) (n : Int) (w : World) (Z : ZAt w b Sb z) (S : z.Sound) (hn : there z.ts n) (hp : (thAt z.ts n).place ≠ 4) (hr : owned z.ts (thAt z.ts n).owner < 8) (hx : ¬ z.nx < 1099511627776) : Calls Try.prog 64 #[.pointer (some ⟨b, 0, none⟩), .int .i64 n, .int .u8 4] w fun e w' => e = .returned (.bool false) ∧ w.grownBy w' none := by
  obtain ⟨vt, d0, d1, h0, h1, Z⟩ := Z
  obtain ⟨c0, c1, c2, c3, c4, c5⟩ := Z.cell
  obtain ⟨k, hk⟩ : ∃ k : Nat, n = (k : Int) + 1 := ⟨(n - 1).toNat, by unfold there at hn; omega⟩
  subst hk
  have hlt : k < z.ts.length := by unfold there at hn; omega
  obtain ⟨g, cap, rfl, R⟩ := zg_at Z (k := k) hlt
  obtain ⟨t, ht⟩ : ∃ t, t = thAt z.ts ((k : Int) + 1) := ⟨_, rfl⟩
  rw [← ht] at R
  obtain ⟨e1, e2, e3, e4, e5, e6, e7, e8, e9, e10, e11⟩ := range_cells R
  have hw1 : wrap64 (k : Int) = (k : Int) := by unfold wrap64; have := S.few; omega
  have hlt' : (k : Int) < z.ts.length := by omega
  have hto : t.owner = (thAt z.ts ((k : Int) + 1)).owner := by rw [ht]
  have htp : t.place = (thAt z.ts ((k : Int) + 1)).place := by rw [ht]
  have hq : decide (z.nx < 1099511627776) = false := decide_eq_false hx
  have q4 : (t.place == 4) = false := by rw [htp]; simpa using hp
  obtain ⟨V, hV⟩ : ∃ V, V = w.alloc (.cells #[.int .i64 t.card, .int .i64 t.owner, .int .u8 t.place, .int .i64 t.stamp, .int .i64 t.hurt, .int .i64 t.m0, .int .i64 t.m1, .int .i64 t.m2, .int .i64 t.m3, .int .i64 t.done, .bool t.fresh] 38) := ⟨_, rfl⟩
  have GV : Hid (w.grownBy V none) := by show w.grownBy V none; rw [hV]; exact World.grownBy_alloc _ _ _
  have C := tableRoom_any b _ z.ts t.owner V (GV.out.cell c0 (by simp)) (Z.ts.at.keep GV.out) S.few
  rw [decide_eq_true (by rw [hto]; exact hr)] at C
  have HK : Hid (∀ V2, V.grownBy V2 none → V2.cell? ⟨b, 5, none⟩ = some (.int .i64 z.nx)) := fun V2 g2 => (grown_trans GV.out g2).cell c5 (by simp)
  rw [hV] at C
  have HV : Hid (V = w.alloc (.cells #[.int .i64 t.card, .int .i64 t.owner, .int .u8 t.place, .int .i64 t.stamp, .int .i64 t.hurt, .int .i64 t.m0, .int .i64 t.m1, .int .i64 t.m2, .int .i64 t.m3, .int .i64 t.done, .bool t.fresh] 38)) := hV
  clear hp hr Z S hn R ht hto htp c1 c2 c3 c4 c5
  go_enter Try.func64, Try.ntmps64
  go_wp2_with fail
  refine C.mono ?_
  rintro e V2 ⟨rfl, g2⟩
  rw [← HV.out] at g2
  have k5 := HK.out V2 g2
  have HG : Hid (w.grownBy V2 none) := grown_trans GV.out g2
  clear g2 C
  go_wp2
  go_ret
  exact ⟨rfl, HG.out⟩
set_option maxRecDepth 100000 in
set_option maxHeartbeats 4000000 in
theorem room_tx (b : Nat) (Sb : List Nat) (z : Zs) (n : Int) (w : World) (Z : ZAt w b Sb z) (S : z.Sound) (hn : there z.ts n) (hp : (thAt z.ts n).place ≠ 4) (hr : ¬ owned z.ts (thAt z.ts n).owner < 8) : Calls Try.prog 64 #[.pointer (some ⟨b, 0, none⟩), .int .i64 n, .int .u8 4] w fun e w' => e = .returned (.bool false) ∧ w.grownBy w' none := by
  obtain ⟨vt, d0, d1, h0, h1, Z⟩ := Z
  obtain ⟨c0, c1, c2, c3, c4, c5⟩ := Z.cell
  obtain ⟨k, hk⟩ : ∃ k : Nat, n = (k : Int) + 1 := ⟨(n - 1).toNat, by unfold there at hn; omega⟩
  subst hk
  have hlt : k < z.ts.length := by unfold there at hn; omega
  obtain ⟨g, cap, rfl, R⟩ := zg_at Z (k := k) hlt
  obtain ⟨t, ht⟩ : ∃ t, t = thAt z.ts ((k : Int) + 1) := ⟨_, rfl⟩
  rw [← ht] at R
  obtain ⟨e1, e2, e3, e4, e5, e6, e7, e8, e9, e10, e11⟩ := range_cells R
  have hw1 : wrap64 (k : Int) = (k : Int) := by unfold wrap64; have := S.few; omega
  have hlt' : (k : Int) < z.ts.length := by omega
  have hto : t.owner = (thAt z.ts ((k : Int) + 1)).owner := by rw [ht]
  have htp : t.place = (thAt z.ts ((k : Int) + 1)).place := by rw [ht]
  have q4 : (t.place == 4) = false := by rw [htp]; simpa using hp
  obtain ⟨V, hV⟩ : ∃ V, V = w.alloc (.cells #[.int .i64 t.card, .int .i64 t.owner, .int .u8 t.place, .int .i64 t.stamp, .int .i64 t.hurt, .int .i64 t.m0, .int .i64 t.m1, .int .i64 t.m2, .int .i64 t.m3, .int .i64 t.done, .bool t.fresh] 38) := ⟨_, rfl⟩
  have GV : Hid (w.grownBy V none) := by show w.grownBy V none; rw [hV]; exact World.grownBy_alloc _ _ _
  have C := tableRoom_any b _ z.ts t.owner V (GV.out.cell c0 (by simp)) (Z.ts.at.keep GV.out) S.few
  rw [decide_eq_false (by rw [hto]; exact hr)] at C
  have HK : Hid (∀ V2, V.grownBy V2 none → V2.cell? ⟨b, 5, none⟩ = some (.int .i64 z.nx)) := fun V2 g2 => (grown_trans GV.out g2).cell c5 (by simp)
  rw [hV] at C
  have HV : Hid (V = w.alloc (.cells #[.int .i64 t.card, .int .i64 t.owner, .int .u8 t.place, .int .i64 t.stamp, .int .i64 t.hurt, .int .i64 t.m0, .int .i64 t.m1, .int .i64 t.m2, .int .i64 t.m3, .int .i64 t.done, .bool t.fresh] 38)) := hV
  clear hp hr Z S hn R ht hto htp c1 c2 c3 c4 c5
  go_enter Try.func64, Try.ntmps64
  go_wp2_with fail
  refine C.mono ?_
  rintro e V2 ⟨rfl, g2⟩
  rw [← HV.out] at g2
  have k5 := HK.out V2 g2
  have HG : Hid (w.grownBy V2 none) := grown_trans GV.out g2
  clear g2 C
  go_wp2
  go_ret
  exact ⟨rfl, HG.out⟩
set_option maxRecDepth 100000 in
set_option maxHeartbeats 4000000 in
theorem room_else (b : Nat) (Sb : List Nat) (z : Zs) (n : Int) (w : World) (Z : ZAt w b Sb z) (S : z.Sound) (hn : there z.ts n) (tp : Int) (h2 : tp ≠ 2) (h4 : tp ≠ 4) : Calls Try.prog 64 #[.pointer (some ⟨b, 0, none⟩), .int .i64 n, .int .u8 tp] w fun e w' => e = .returned (.bool true) ∧ w.grownBy w' none := by
  obtain ⟨vt, d0, d1, h0, h1, Z⟩ := Z
  obtain ⟨c0, c1, c2, c3, c4, c5⟩ := Z.cell
  obtain ⟨k, hk⟩ : ∃ k : Nat, n = (k : Int) + 1 := ⟨(n - 1).toNat, by unfold there at hn; omega⟩
  subst hk
  have hlt : k < z.ts.length := by unfold there at hn; omega
  obtain ⟨g, cap, rfl, R⟩ := zg_at Z (k := k) hlt
  obtain ⟨t, ht⟩ : ∃ t, t = thAt z.ts ((k : Int) + 1) := ⟨_, rfl⟩
  rw [← ht] at R
  obtain ⟨e1, e2, e3, e4, e5, e6, e7, e8, e9, e10, e11⟩ := range_cells R
  have hw1 : wrap64 (k : Int) = (k : Int) := by unfold wrap64; have := S.few; omega
  have hlt' : (k : Int) < z.ts.length := by omega
  have hto : t.owner = (thAt z.ts ((k : Int) + 1)).owner := by rw [ht]
  have htp : t.place = (thAt z.ts ((k : Int) + 1)).place := by rw [ht]
  have q2 : (tp == 2) = false := by simpa using h2
  have q4 : (tp == 4) = false := by simpa using h4
  clear h2 h4 Z S hn R ht hto htp c1 c2 c3 c4 c5
  go_enter Try.func64, Try.ntmps64
  go_wp2
  go_ret
  exact ⟨rfl, World.grownBy_alloc _ _ _⟩
theorem hasRoom_any (b : Nat) (Sb : List Nat) (z : Zs) (n tp : Int) (w : World) (Z : ZAt w b Sb z) (S : z.Sound) (hn : there z.ts n) : Calls Try.prog 64 #[.pointer (some ⟨b, 0, none⟩), .int .i64 n, .int .u8 tp] w fun e w' => e = .returned (.bool (z.roomB n tp)) ∧ w.grownBy w' none := by
  unfold Zs.roomB
  by_cases h2 : tp = 2
  · rw [if_pos h2]
    subst h2
    by_cases hp : (thAt z.ts n).place = 2
    · rw [decide_eq_true hp, Bool.true_or]
      exact room_h2 b Sb z n w Z S hn hp
    · rw [decide_eq_false hp, Bool.false_or]
      rcases S.own hn with ho | ho
      · rw [ho]
        by_cases hl : (z.hd 0).length < 10
        · rw [decide_eq_true hl]
          exact room_h0 b Sb z n w Z S hn hp ho hl
        · rw [decide_eq_false hl]
          exact room_h0f b Sb z n w Z S hn hp ho hl
      · rw [ho]
        by_cases hl : (z.hd 1).length < 10
        · rw [decide_eq_true hl]
          exact room_h1 b Sb z n w Z S hn hp ho hl
        · rw [decide_eq_false hl]
          exact room_h1f b Sb z n w Z S hn hp ho hl
  · rw [if_neg h2]
    by_cases h4 : tp = 4
    · rw [if_pos h4]
      subst h4
      by_cases hx : z.nx < 1099511627776
      · rw [decide_eq_true hx, Bool.and_true]
        by_cases hp : (thAt z.ts n).place = 4
        · rw [decide_eq_true hp, Bool.true_or]
          exact room_t4 b Sb z n w Z S hn hp hx
        · rw [decide_eq_false hp, Bool.false_or]
          by_cases hr : owned z.ts (thAt z.ts n).owner < 8
          · rw [decide_eq_true hr]
            exact room_t b Sb z n w Z S hn hp hr hx
          · rw [decide_eq_false hr]
            exact room_tx b Sb z n w Z S hn hp hr
      · rw [decide_eq_false hx, Bool.and_false]
        by_cases hp : (thAt z.ts n).place = 4
        · exact room_t4f b Sb z n w Z S hn hp hx
        · by_cases hr : owned z.ts (thAt z.ts n).owner < 8
          · exact room_tf b Sb z n w Z S hn hp hr hx
          · exact room_tx b Sb z n w Z S hn hp hr
    · rw [if_neg h4]
      exact room_else b Sb z n w Z S hn tp h2 h4
end Go.Proofs.Ytogpgldbbegniaa
