/-
  Calls with lists that are written out; awake.
-/
import Derived.Test.YtjjgipklhdofhaaPlAp
namespace Go.Proofs.Ytjjgipklhdofhaa
open Go.RowKit

theorem lit_B {w : World} {g n : Nat} {l : List Int} {cs : Array Value} (h : w.heap[g]? = some (.cells cs 3 (0, 0))) (hcs : cs = (ints l).toArray) (hn : l.length = n) : IntsB w (.slice (some ⟨g, 0, none⟩) n n) l := by
  subst hn
  subst hcs
  refine Or.inr ⟨g, 0, _, rfl, Nat.le_refl _, fun j u hu => ?_⟩
  rw [Nat.zero_add, block_cell h]
  simpa using hu
theorem lit_new (W : World) (cs : Array Value) {l : List Int} {n : Nat} (hcs : cs = (ints l).toArray) (hn : l.length = n) : IntsB (W.alloc (.cells cs 3)) (.slice (some ⟨W.heap.size, 0, none⟩) n n) l := lit_B (alloc_at _ _ _) hcs hn
theorem low_new {W w' : World} {cs : Array Value} {v : Value} {n : Nat} {xs : List Value} (h : w'.ownsRow (W.alloc (.cells cs 3)).heap.size 3 1 v n xs) : w'.ownsRow W.heap.size 3 1 v n xs := own_low h (by rw [World.size_alloc]; omega)
theorem grow_new {W w' : World} {cs : Array Value} (h : (W.alloc (.cells cs 3)).grownBy w' none) : W.grownBy w' none := grown_trans (World.grownBy_alloc _ _ none) h
theorem same_lit {W : World} {u : Value} {b n : Nat} {l : List Int} (cs : Array Value) (hcs : cs = (ints l).toArray) (h : W.ownsRow b 3 1 u n (ints l)) (hn : l.length = n) : Calls Try.prog 14 #[u, .slice (some ⟨W.heap.size, 0, none⟩) n n] (W.alloc (.cells cs 3)) fun e w' => e = .returned (.bool true) ∧ W.grownBy w' none := by
  have hg : W.grownBy (W.alloc (.cells cs 3)) none := World.grownBy_alloc _ _ none
  have hr : (W.alloc (.cells cs 3)).ownsRow W.heap.size 3 1 (.slice (some ⟨W.heap.size, 0, none⟩) n n) n (ints l) := block_own (by rw [← hcs]; exact alloc_at _ _ _) hn (by
    rcases h.2 with ⟨_, h0⟩ | ⟨g, cap, cur, _, _, _, h1, h2, _⟩
    · unfold maxLen; omega
    · omega)
  refine (same_own (own_keepN h hg) hr hn).mono ?_
  rintro e w' ⟨rfl, g1⟩
  exact ⟨rfl, grown_trans hg g1⟩
theorem shuf_lit (W : World) (cs : Array Value) {l m : List Int} {n : Nat} {s t : Int} (hcs : cs = (ints l).toArray) (hn : l.length = n) (hs : isU s) (hb : n ≤ 1000) (he : shuffled l s = (m, t)) : Calls Try.prog 10 #[.slice (some ⟨W.heap.size, 0, none⟩) n n, .int .u64 s] (W.alloc (.cells cs 3)) fun e w' => ∃ u, e = .returned (.tuple #[u, .int .u64 t]) ∧ w'.ownsRow W.heap.size 3 1 u n (ints m) ∧ W.grownBy w' none := by
  have := pshuf_any _ l s _ (lit_new W cs hcs hn).a (by omega) hs
  rw [he, hn] at this
  refine this.mono ?_
  rintro e w' ⟨u, h1, h2, h3⟩
  exact ⟨u, h1, low_new h2, grow_new h3⟩
theorem draw_lit (W : World) (cs : Array Value) {l : List Int} {n : Nat} (hcs : cs = (ints l).toArray) (hn : l.length = n) (hb : n ≤ 1000) : Calls Try.prog 16 #[.slice (some ⟨W.heap.size, 0, none⟩) n n] (W.alloc (.cells cs 3)) fun e w' => ∃ u, e = .returned (.tuple #[.int .i64 (l.headD 0), u, .bool (decide (l ≠ []))]) ∧ w'.ownsRow W.heap.size 3 1 u l.tail.length (ints l.tail) ∧ W.grownBy w' none := by
  refine (pdraw_any _ l _ (lit_new W cs hcs hn) (by omega)).mono ?_
  rintro e w' ⟨u, h1, h2, h3⟩
  exact ⟨u, h1, low_new h2, grow_new h3⟩
theorem wo_lit (W : World) (cs : Array Value) {l m : List Int} {n : Nat} {x : Int} {b : Bool} (hcs : cs = (ints l).toArray) (hn : l.length = n) (hb : n ≤ 1000) (hd : decide (x ∈ l) = b) (hm : (if x ∈ l then l.erase x else []) = m) : Calls Try.prog 18 #[.slice (some ⟨W.heap.size, 0, none⟩) n n, .int .i64 x] (W.alloc (.cells cs 3)) fun e w' => ∃ u, e = .returned (.tuple #[u, .bool b]) ∧ w'.ownsRow W.heap.size 3 1 u m.length (ints m) ∧ W.grownBy w' none := by
  refine (pwithout_any _ l x _ (lit_new W cs hcs hn) (by omega)).mono ?_
  rintro e w' ⟨u, h1, ⟨m', h2, h4⟩, h3⟩
  rw [hm] at h2
  subst h2
  exact ⟨u, by rw [h1, hd], low_new h4, grow_new h3⟩
theorem cut_lit (W : World) (cs : Array Value) {l a b : List Int} {n : Nat} {k r : Int} (hcs : cs = (ints l).toArray) (hn : l.length = n) (hb : n ≤ 1000) (hc : cutP l k = (a, b, r)) : Calls Try.prog 19 #[.slice (some ⟨W.heap.size, 0, none⟩) n n, .int .i64 k] (W.alloc (.cells cs 3)) fun e w' => ∃ u v, e = .returned (.tuple #[u, v, .int .i64 r]) ∧ w'.ownsRow W.heap.size 3 1 u a.length (ints a) ∧ w'.ownsRow W.heap.size 3 1 v b.length (ints b) ∧ W.grownBy w' none := by
  have := pcut_any _ l k _ (lit_new W cs hcs hn) (by omega)
  unfold CuPost at this
  rw [hc] at this
  refine this.mono ?_
  rintro e w' ⟨u, v, h1, ⟨m, h2, _, _, h4, h5⟩, h3⟩
  exact ⟨u, v, h1, low_new h4, low_new (own_low h5 h2), grow_new h3⟩
theorem deal_lit (W : World) (cs : Array Value) {l b : List Int} {hs : List (List Int)} {n : Nat} {h k r : Int} (hcs : cs = (ints l).toArray) (hn : l.length = n) (hb : n ≤ 1000) (hc : dealP l h k = (hs, b, r)) : Calls Try.prog 20 #[.slice (some ⟨W.heap.size, 0, none⟩) n n, .int .i64 h, .int .i64 k] (W.alloc (.cells cs 3)) fun e w' => ∃ u v, e = .returned (.tuple #[u, v, .int .i64 r]) ∧ (∃ vs m base, w'.ownsRow base 22 1 u hs.length vs ∧ HandsAt w' base vs hs m) ∧ w'.ownsRow W.heap.size 3 1 v b.length (ints b) ∧ W.grownBy w' none := by
  have := pdeal_any _ l h k _ (lit_new W cs hcs hn) (by omega)
  unfold DePost at this
  rw [hc] at this
  refine this.mono ?_
  rintro e w' ⟨u, v, h1, ⟨vs, m, h4, h5, h2, _, h6⟩, h3⟩
  exact ⟨u, v, h1, ⟨vs, m, _, h4, h5⟩, low_new (own_low h6 h2), grow_new h3⟩
theorem nx_zero : nx 0 = 16294208416658607535 := by decide +kernel
theorem stp_zero : stp 0 = 11400714819323198485 := by decide +kernel
theorem shuf_five : shuffled [1, 2, 3, 4, 5] 0 = ([3, 4, 2, 5, 1], 8709371129873690708) := by decide +kernel
set_option maxRecDepth 100000 in
set_option maxHeartbeats 2000000 in
theorem awake_any (w : World) : Calls Try.prog 26 #[] w fun e w' => e = .returned (.bool true) ∧ w.grownBy w' none := by
  have C1 := pnext_any 0 (by unfold isU; omega) w
  rw [nx_zero, stp_zero] at C1
  have C2 := shuf_lit w #[.int .i64 1, .int .i64 2, .int .i64 3, .int .i64 4, .int .i64 5] (l := [1, 2, 3, 4, 5]) (n := 5) rfl rfl (s := 0) (by unfold isU; omega) (by omega) shuf_five
  go_enter Try.func26, Try.ntmps26
  go_wp2_with fail
  refine C1.mono ?_
  rintro e W ⟨rfl, h1⟩
  obtain rfl : w = W := h1.symm
  clear C1 h1
  go_wp2_with fail
  refine C2.mono ?_
  rintro e U1 ⟨u, rfl, o1, g1⟩
  obtain ⟨ua, uc, rfl⟩ := own_form o1
  have HG : Hid (w.grownBy U1 none) := g1
  have C3 := same_lit #[.int .i64 3, .int .i64 4, .int .i64 2, .int .i64 5, .int .i64 1] rfl o1 rfl
  clear C2 o1 g1
  go_wp2_with fail
  refine C3.mono ?_
  rintro e U2 ⟨rfl, g2⟩
  have HF : Hid (w.grownBy U2 none) := grown_trans HG.out g2
  clear C3 g2
  go_wp2
  go_ret
  exact ⟨rfl, HF.out⟩
end Go.Proofs.Ytjjgipklhdofhaa
