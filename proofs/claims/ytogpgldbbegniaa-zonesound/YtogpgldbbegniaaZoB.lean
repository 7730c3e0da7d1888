/-
  Zones: From.
-/
import Derived.Test.YtogpgldbbegniaaZoA
import Derived.Test.YtogpgldbbegniaaZmW
namespace Go.Proofs.Ytogpgldbbegniaa
open Go.RowKit

theorem own_geK {w : World} {base e size n : Nat} {v : Value} {xs : List Value} (h : w.ownsRow base e size v n xs) (x : Nat) (hx : v.ownBlock = some x) : base ≤ x := by
  rcases h.2 with ⟨rfl, _⟩ | ⟨g, cap, cur, rfl, hb, _⟩
  · cases hx
  · cases hx
    exact hb
/-- Zones, just made of lists of their own. -/
theorem zg_box {w U : World} {vt d0 d1 h0 h1 : Value} {z : Zs} (g : w.grownBy U none) (ht : OwnT U w.heap.size vt z.ts) (o0 : OwnI U w.heap.size d0 (z.dk 0)) (o1 : OwnI U w.heap.size d1 (z.dk 1)) (k0 : OwnI U w.heap.size h0 (z.hd 0)) (k1 : OwnI U w.heap.size h1 (z.hd 1)) (ap : [d0, d1, h0, h1].Pairwise Apart2) : ∃ S, ZAt (U.alloc (.cells #[vt, d0, d1, h0, h1, .int .i64 z.nx] 93)) U.heap.size S z ∧ (∀ x, x ∈ S → w.heap.size ≤ x) ∧ Old (U.alloc (.cells #[vt, d0, d1, h0, h1, .int .i64 z.nx] 93)) S := by
  have gU : U.grownBy (U.alloc (.cells #[vt, d0, d1, h0, h1, .int .i64 z.nx] 93)) none := World.grownBy_alloc _ _ _
  have key : ∀ v ∈ [vt, d0, d1, h0, h1], ∀ x, v.ownBlock = some x → w.heap.size ≤ x ∧ x < U.heap.size := by
    intro v hv x hx
    simp only [List.mem_cons, List.not_mem_nil, or_false] at hv
    rcases hv with rfl | rfl | rfl | rfl | rfl
    · exact ⟨own_geK ht x hx, own_lt ht x hx⟩
    · exact ⟨own_geK o0 x hx, own_lt o0 x hx⟩
    · exact ⟨own_geK o1 x hx, own_lt o1 x hx⟩
    · exact ⟨own_geK k0 x hx, own_lt k0 x hx⟩
    · exact ⟨own_geK k1 x hx, own_lt k1 x hx⟩
  refine ⟨U.heap.size :: [vt, d0, d1, h0, h1].filterMap Value.ownBlock, ⟨vt, d0, d1, h0, h1, alloc_at _ _ _, own_zero (own_grow ht gU), own_zero (own_grow o0 gU), own_zero (own_grow o1 gU), own_zero (own_grow k0 gU), own_zero (own_grow k1 gU), List.mem_cons_self, fun v hv x hx => List.mem_cons_of_mem _ (List.mem_filterMap.2 ⟨v, hv, hx⟩), ap⟩, ?_, ?_⟩
  · intro x hx
    rcases List.mem_cons.1 hx with rfl | q
    · exact g.size
    · obtain ⟨v, hv, e⟩ := List.mem_filterMap.1 q
      exact (key v hv x e).1
  · intro x hx
    rw [World.size_alloc]
    rcases List.mem_cons.1 hx with rfl | q
    · exact Nat.lt_succ_self _
    · obtain ⟨v, hv, e⟩ := List.mem_filterMap.1 q
      exact Nat.lt_succ_of_lt (key v hv x e).2
def Zs.long (z : Zs) : Prop := 2048 < z.ts.length ∨ (2048 < (z.dk 0).length ∨ 2048 < (z.dk 1).length) ∨ (2048 < (z.hd 0).length ∨ 2048 < (z.hd 1).length)
def FrPost (w : World) (z : Zs) (e : Ending) (w' : World) : Prop := (z.long ∧ e = .returned (.tuple #[.pointer none, .int .i64 3]) ∧ w.grownBy w' none) ∨ (¬ z.long ∧ ¬ z.Sound ∧ e = .returned (.tuple #[.pointer none, .int .i64 2]) ∧ w.grownBy w' none) ∨ (¬ z.long ∧ z.Sound ∧ ∃ b S, e = .returned (.tuple #[.pointer (some ⟨b, 0, none⟩), .int .i64 0]) ∧ ZAt w' b S z ∧ (∀ x, x ∈ S → w.heap.size ≤ x) ∧ Old w' S ∧ w.grownBy w' none)
set_option maxRecDepth 100000 in
set_option maxHeartbeats 4000000 in
theorem from_long0 (vt d0 d1 h0 h1 : Value) (z : Zs) (w : World) (T : ThsAt w vt z.ts) (i0 : IntsA w d0 (z.dk 0)) (i1 : IntsA w d1 (z.dk 1)) (j0 : IntsA w h0 (z.hd 0)) (j1 : IntsA w h1 (z.hd 1)) (h : 2048 < z.ts.length) : Calls Try.prog 12 #[vt, .agg #[d0, d1], .agg #[h0, h1], .int .i64 z.nx] w (FrPost w z) := by
  obtain ⟨pt, ct, rfl, -⟩ := T.src
  obtain ⟨pa, ca, rfl, -⟩ := i0.src
  obtain ⟨pb, cb, rfl, -⟩ := i1.src
  obtain ⟨pc, cc, rfl, -⟩ := j0.src
  obtain ⟨pe, ce, rfl, -⟩ := j1.src
  obtain ⟨na, hna⟩ : ∃ n, n = (z.dk 0).length := ⟨_, rfl⟩
  obtain ⟨nb, hnb⟩ : ∃ n, n = (z.dk 1).length := ⟨_, rfl⟩
  obtain ⟨nc, hnc⟩ : ∃ n, n = (z.hd 0).length := ⟨_, rfl⟩
  obtain ⟨ne, hne⟩ : ∃ n, n = (z.hd 1).length := ⟨_, rfl⟩
  obtain ⟨nt, hnt⟩ : ∃ n, n = z.ts.length := ⟨_, rfl⟩
  rw [← hna] at i0 ⊢
  rw [← hnb] at i1 ⊢
  rw [← hnc] at j0 ⊢
  rw [← hne] at j1 ⊢
  rw [← hnt] at T ⊢
  obtain ⟨X, hX⟩ : ∃ X, X = w.heap.size := ⟨_, rfl⟩
  obtain ⟨V, hV⟩ : ∃ V, V = (w.alloc (.cells #[.slice pa na ca, .slice pb nb cb] 30)).alloc (.cells #[.slice pc nc cc, .slice pe ne ce] 30) := ⟨_, rfl⟩
  have HX : Hid (X = w.heap.size) := hX
  have HV : Hid (V = (w.alloc (.cells #[.slice pa na ca, .slice pb nb cb] 30)).alloc (.cells #[.slice pc nc cc, .slice pe ne ce] 30)) := hV
  have HGV : Hid (w.grownBy V none) := by show w.grownBy V none; rw [hV]; exact grown_push (World.grownBy_alloc _ _ none) _
  have HBx : Hid (V.heap[X]? = some (.cells #[.slice pa na ca, .slice pb nb cb] 30 (0, 0))) := by
    show V.heap[X]? = _
    rw [hV, hX]
    exact grown_keep (World.grownBy_alloc _ _ none) (alloc_at _ _ _) (by simp)
  have HBy : Hid (V.heap[X + 1]? = some (.cells #[.slice pc nc cc, .slice pe ne ce] 30 (0, 0))) := by
    show V.heap[X + 1]? = _
    rw [hV, hX]
    have := alloc_at (w.alloc (.cells #[.slice pa na ca, .slice pb nb cb] 30)) #[.slice pc nc cc, .slice pe ne ce] 30
    rw [World.size_alloc] at this
    exact this
  have x0 := (block_cell HBx.out 0).trans (show _ = some (Value.slice pa na ca) from rfl)
  have x1 := (block_cell HBx.out 1).trans (show _ = some (Value.slice pb nb cb) from rfl)
  have L1 := areLong_any pa pb na nb ca cb V
  have h' : (2048 : Int) < (nt : Int) := by omega
  have HF : Hid (FrPost w z (.returned (.tuple #[.pointer none, .int .i64 3])) V) := Or.inl ⟨Or.inl h, rfl, HGV.out⟩
  rw [hV] at HF
  clear i0 i1 j0 j1 T x0 x1 L1 hX hV h hna hnb hnc hne hnt HBx HBy
  go_enter Try.func12, Try.ntmps12
  go_wp2
  go_ret2
  exact HF.out
set_option maxRecDepth 100000 in
set_option maxHeartbeats 4000000 in
theorem from_long1 (vt d0 d1 h0 h1 : Value) (z : Zs) (w : World) (T : ThsAt w vt z.ts) (i0 : IntsA w d0 (z.dk 0)) (i1 : IntsA w d1 (z.dk 1)) (j0 : IntsA w h0 (z.hd 0)) (j1 : IntsA w h1 (z.hd 1)) (h0_ : ¬ 2048 < z.ts.length) (h : 2048 < (z.dk 0).length ∨ 2048 < (z.dk 1).length) : Calls Try.prog 12 #[vt, .agg #[d0, d1], .agg #[h0, h1], .int .i64 z.nx] w (FrPost w z) := by
  obtain ⟨pt, ct, rfl, -⟩ := T.src
  obtain ⟨pa, ca, rfl, -⟩ := i0.src
  obtain ⟨pb, cb, rfl, -⟩ := i1.src
  obtain ⟨pc, cc, rfl, -⟩ := j0.src
  obtain ⟨pe, ce, rfl, -⟩ := j1.src
  obtain ⟨na, hna⟩ : ∃ n, n = (z.dk 0).length := ⟨_, rfl⟩
  obtain ⟨nb, hnb⟩ : ∃ n, n = (z.dk 1).length := ⟨_, rfl⟩
  obtain ⟨nc, hnc⟩ : ∃ n, n = (z.hd 0).length := ⟨_, rfl⟩
  obtain ⟨ne, hne⟩ : ∃ n, n = (z.hd 1).length := ⟨_, rfl⟩
  obtain ⟨nt, hnt⟩ : ∃ n, n = z.ts.length := ⟨_, rfl⟩
  rw [← hna] at i0 ⊢
  rw [← hnb] at i1 ⊢
  rw [← hnc] at j0 ⊢
  rw [← hne] at j1 ⊢
  rw [← hnt] at T ⊢
  obtain ⟨X, hX⟩ : ∃ X, X = w.heap.size := ⟨_, rfl⟩
  obtain ⟨V, hV⟩ : ∃ V, V = (w.alloc (.cells #[.slice pa na ca, .slice pb nb cb] 30)).alloc (.cells #[.slice pc nc cc, .slice pe ne ce] 30) := ⟨_, rfl⟩
  have HX : Hid (X = w.heap.size) := hX
  have HV : Hid (V = (w.alloc (.cells #[.slice pa na ca, .slice pb nb cb] 30)).alloc (.cells #[.slice pc nc cc, .slice pe ne ce] 30)) := hV
  have HGV : Hid (w.grownBy V none) := by show w.grownBy V none; rw [hV]; exact grown_push (World.grownBy_alloc _ _ none) _
  have HBx : Hid (V.heap[X]? = some (.cells #[.slice pa na ca, .slice pb nb cb] 30 (0, 0))) := by
    show V.heap[X]? = _
    rw [hV, hX]
    exact grown_keep (World.grownBy_alloc _ _ none) (alloc_at _ _ _) (by simp)
  have HBy : Hid (V.heap[X + 1]? = some (.cells #[.slice pc nc cc, .slice pe ne ce] 30 (0, 0))) := by
    show V.heap[X + 1]? = _
    rw [hV, hX]
    have := alloc_at (w.alloc (.cells #[.slice pa na ca, .slice pb nb cb] 30)) #[.slice pc nc cc, .slice pe ne ce] 30
    rw [World.size_alloc] at this
    exact this
  have x0 := (block_cell HBx.out 0).trans (show _ = some (Value.slice pa na ca) from rfl)
  have x1 := (block_cell HBx.out 1).trans (show _ = some (Value.slice pb nb cb) from rfl)
  have L1 := areLong_any pa pb na nb ca cb V
  have h' : ¬ (2048 : Int) < (nt : Int) := by omega
  have hd : decide ((nt : Int) > 2048) = false := decide_eq_false h'
  have HF : Hid (∀ w1, V.grownBy w1 none → FrPost w z (.returned (.tuple #[.pointer none, .int .i64 3])) w1) := fun w1 g => Or.inl ⟨Or.inr (Or.inl h), rfl, grown_trans HGV.out g⟩
  rw [decide_eq_true (by rw [hna, hnb]; exact h)] at L1
  rw [hX] at x0 x1
  rw [hV] at x0 x1 L1 HF
  clear i0 i1 j0 j1 T hX hV h h0_ hna hnb hnc hne hnt HBx HBy
  go_enter Try.func12, Try.ntmps12
  go_wp2_with fail
  refine L1.mono ?_
  rintro e w1 ⟨rfl, g1⟩
  have HF1 : Hid (FrPost w z (.returned (.tuple #[.pointer none, .int .i64 3])) w1) := HF.out w1 g1
  clear HF g1 L1 x0 x1
  go_wp2
  go_ret2
  exact HF1.out
set_option maxRecDepth 100000 in
set_option maxHeartbeats 4000000 in
theorem from_long2 (vt d0 d1 h0 h1 : Value) (z : Zs) (w : World) (T : ThsAt w vt z.ts) (i0 : IntsA w d0 (z.dk 0)) (i1 : IntsA w d1 (z.dk 1)) (j0 : IntsA w h0 (z.hd 0)) (j1 : IntsA w h1 (z.hd 1)) (h0_ : ¬ 2048 < z.ts.length) (h1_ : ¬ (2048 < (z.dk 0).length ∨ 2048 < (z.dk 1).length)) (h2_ : 2048 < (z.hd 0).length ∨ 2048 < (z.hd 1).length) : Calls Try.prog 12 #[vt, .agg #[d0, d1], .agg #[h0, h1], .int .i64 z.nx] w (FrPost w z) := by
  obtain ⟨pt, ct, rfl, -⟩ := T.src
  obtain ⟨pa, ca, rfl, -⟩ := i0.src
  obtain ⟨pb, cb, rfl, -⟩ := i1.src
  obtain ⟨pc, cc, rfl, -⟩ := j0.src
  obtain ⟨pe, ce, rfl, -⟩ := j1.src
  obtain ⟨na, hna⟩ : ∃ n, n = (z.dk 0).length := ⟨_, rfl⟩
  obtain ⟨nb, hnb⟩ : ∃ n, n = (z.dk 1).length := ⟨_, rfl⟩
  obtain ⟨nc, hnc⟩ : ∃ n, n = (z.hd 0).length := ⟨_, rfl⟩
  obtain ⟨ne, hne⟩ : ∃ n, n = (z.hd 1).length := ⟨_, rfl⟩
  obtain ⟨nt, hnt⟩ : ∃ n, n = z.ts.length := ⟨_, rfl⟩
  rw [← hna] at i0 ⊢
  rw [← hnb] at i1 ⊢
  rw [← hnc] at j0 ⊢
  rw [← hne] at j1 ⊢
  rw [← hnt] at T ⊢
  obtain ⟨X, hX⟩ : ∃ X, X = w.heap.size := ⟨_, rfl⟩
  obtain ⟨V, hV⟩ : ∃ V, V = (w.alloc (.cells #[.slice pa na ca, .slice pb nb cb] 30)).alloc (.cells #[.slice pc nc cc, .slice pe ne ce] 30) := ⟨_, rfl⟩
  have HX : Hid (X = w.heap.size) := hX
  have HV : Hid (V = (w.alloc (.cells #[.slice pa na ca, .slice pb nb cb] 30)).alloc (.cells #[.slice pc nc cc, .slice pe ne ce] 30)) := hV
  have HGV : Hid (w.grownBy V none) := by show w.grownBy V none; rw [hV]; exact grown_push (World.grownBy_alloc _ _ none) _
  have HBx : Hid (V.heap[X]? = some (.cells #[.slice pa na ca, .slice pb nb cb] 30 (0, 0))) := by
    show V.heap[X]? = _
    rw [hV, hX]
    exact grown_keep (World.grownBy_alloc _ _ none) (alloc_at _ _ _) (by simp)
  have HBy : Hid (V.heap[X + 1]? = some (.cells #[.slice pc nc cc, .slice pe ne ce] 30 (0, 0))) := by
    show V.heap[X + 1]? = _
    rw [hV, hX]
    have := alloc_at (w.alloc (.cells #[.slice pa na ca, .slice pb nb cb] 30)) #[.slice pc nc cc, .slice pe ne ce] 30
    rw [World.size_alloc] at this
    exact this
  have x0 := (block_cell HBx.out 0).trans (show _ = some (Value.slice pa na ca) from rfl)
  have x1 := (block_cell HBx.out 1).trans (show _ = some (Value.slice pb nb cb) from rfl)
  have L1 := areLong_any pa pb na nb ca cb V
  have h' : ¬ (2048 : Int) < (nt : Int) := by omega
  have hd : decide ((nt : Int) > 2048) = false := decide_eq_false h'
  rw [decide_eq_false (by rw [hna, hnb]; exact h1_)] at L1
  have HL2 : Hid (∀ w1, V.grownBy w1 none → Calls Try.prog 39 #[.agg #[.slice pc nc cc, .slice pe ne ce]] w1 fun e w' => e = .returned (.bool true) ∧ w1.grownBy w' none) := fun w1 _ => by
    have := areLong_any pc pe nc ne cc ce w1
    rw [decide_eq_true (by rw [hnc, hne]; exact h2_)] at this
    exact this
  have HF : Hid (∀ w1, V.grownBy w1 none → FrPost w z (.returned (.tuple #[.pointer none, .int .i64 3])) w1) := fun w1 g => Or.inl ⟨Or.inr (Or.inr h2_), rfl, grown_trans HGV.out g⟩
  rw [hX] at x0 x1
  rw [hV] at x0 x1 L1
  clear i0 i1 j0 j1 T hX hV h0_ h1_ h2_ hna hnb hnc hne hnt
  go_enter Try.func12, Try.ntmps12
  go_wp2_with fail
  refine L1.mono ?_
  rintro e w1 ⟨rfl, g1⟩
  have HG1 : Hid (V.grownBy w1 none) := by show V.grownBy w1 none; rw [HV.out]; exact g1
  have C2 := HL2.out w1 HG1.out
  have y0 : w1.cell? ⟨X + 1, 0, none⟩ = some (.slice pc nc cc) := (block_cell (grown_keep HG1.out HBy.out (by simp)) 0).trans rfl
  have y1 : w1.cell? ⟨X + 1, 1, none⟩ = some (.slice pe ne ce) := (block_cell (grown_keep HG1.out HBy.out (by simp)) 1).trans rfl
  rw [HX.out] at y0 y1
  clear HL2 g1 L1 x0 x1
  go_wp2_with fail
  refine C2.mono ?_
  rintro e w2 ⟨rfl, g2⟩
  have HG2 : Hid (V.grownBy w2 none) := grown_trans HG1.out g2
  clear g2 C2 y0 y1
  have HF1 : Hid (FrPost w z (.returned (.tuple #[.pointer none, .int .i64 3])) w2) := HF.out w2 HG2.out
  clear HF
  go_wp2
  go_ret2
  exact HF1.out
set_option maxRecDepth 100000 in
set_option maxHeartbeats 4000000 in
theorem from_in (vt d0 d1 h0 h1 : Value) (z : Zs) (w : World) (T : ThsAt w vt z.ts) (i0 : IntsA w d0 (z.dk 0)) (i1 : IntsA w d1 (z.dk 1)) (j0 : IntsA w h0 (z.hd 0)) (j1 : IntsA w h1 (z.hd 1)) (h0_ : ¬ 2048 < z.ts.length) (h1_ : ¬ (2048 < (z.dk 0).length ∨ 2048 < (z.dk 1).length)) (h2_ : ¬ (2048 < (z.hd 0).length ∨ 2048 < (z.hd 1).length)) : Calls Try.prog 12 #[vt, .agg #[d0, d1], .agg #[h0, h1], .int .i64 z.nx] w (FrPost w z) := by
  obtain ⟨pt, ct, rfl, -⟩ := T.src
  obtain ⟨pa, ca, rfl, -⟩ := i0.src
  obtain ⟨pb, cb, rfl, -⟩ := i1.src
  obtain ⟨pc, cc, rfl, -⟩ := j0.src
  obtain ⟨pe, ce, rfl, -⟩ := j1.src
  obtain ⟨na, hna⟩ : ∃ n, n = (z.dk 0).length := ⟨_, rfl⟩
  obtain ⟨nb, hnb⟩ : ∃ n, n = (z.dk 1).length := ⟨_, rfl⟩
  obtain ⟨nc, hnc⟩ : ∃ n, n = (z.hd 0).length := ⟨_, rfl⟩
  obtain ⟨ne, hne⟩ : ∃ n, n = (z.hd 1).length := ⟨_, rfl⟩
  obtain ⟨nt, hnt⟩ : ∃ n, n = z.ts.length := ⟨_, rfl⟩
  rw [← hna] at i0 ⊢
  rw [← hnb] at i1 ⊢
  rw [← hnc] at j0 ⊢
  rw [← hne] at j1 ⊢
  rw [← hnt] at T ⊢
  obtain ⟨X, hX⟩ : ∃ X, X = w.heap.size := ⟨_, rfl⟩
  obtain ⟨V, hV⟩ : ∃ V, V = (w.alloc (.cells #[.slice pa na ca, .slice pb nb cb] 30)).alloc (.cells #[.slice pc nc cc, .slice pe ne ce] 30) := ⟨_, rfl⟩
  have HX : Hid (X = w.heap.size) := hX
  have HV : Hid (V = (w.alloc (.cells #[.slice pa na ca, .slice pb nb cb] 30)).alloc (.cells #[.slice pc nc cc, .slice pe ne ce] 30)) := hV
  have HGV : Hid (w.grownBy V none) := by show w.grownBy V none; rw [hV]; exact grown_push (World.grownBy_alloc _ _ none) _
  have HBx : Hid (V.heap[X]? = some (.cells #[.slice pa na ca, .slice pb nb cb] 30 (0, 0))) := by
    show V.heap[X]? = _
    rw [hV, hX]
    exact grown_keep (World.grownBy_alloc _ _ none) (alloc_at _ _ _) (by simp)
  have HBy : Hid (V.heap[X + 1]? = some (.cells #[.slice pc nc cc, .slice pe ne ce] 30 (0, 0))) := by
    show V.heap[X + 1]? = _
    rw [hV, hX]
    have := alloc_at (w.alloc (.cells #[.slice pa na ca, .slice pb nb cb] 30)) #[.slice pc nc cc, .slice pe ne ce] 30
    rw [World.size_alloc] at this
    exact this
  have x0 := (block_cell HBx.out 0).trans (show _ = some (Value.slice pa na ca) from rfl)
  have x1 := (block_cell HBx.out 1).trans (show _ = some (Value.slice pb nb cb) from rfl)
  have L1 := areLong_any pa pb na nb ca cb V
  have h' : ¬ (2048 : Int) < (nt : Int) := by omega
  have hd : decide ((nt : Int) > 2048) = false := decide_eq_false h'
  rw [decide_eq_false (by rw [hna, hnb]; exact h1_)] at L1
  have HL2 : Hid (∀ w1, V.grownBy w1 none → Calls Try.prog 39 #[.agg #[.slice pc nc cc, .slice pe ne ce]] w1 fun e w' => e = .returned (.bool false) ∧ w1.grownBy w' none) := fun w1 _ => by
    have := areLong_any pc pe nc ne cc ce w1
    rw [decide_eq_false (by rw [hnc, hne]; exact h2_)] at this
    exact this
  have HNL : Hid (¬ z.long) := fun q => q.elim h0_ fun q => q.elim h1_ h2_
  have Hf : Hid (z.ts.length ≤ 2048) := by show _ ≤ _; omega
  have HCt : Hid (∀ w1, w.grownBy w1 none → Calls Try.prog 40 #[.slice pt nt ct] w1 fun e w' => e = .returned (.slice (some ⟨w1.heap.size, 0, none⟩) nt nt) ∧ OwnT w' w1.heap.size (.slice (some ⟨w1.heap.size, 0, none⟩) nt nt) z.ts ∧ w1.grownBy w' none) := fun w1 g => by
    have := ownT_any _ z.ts w1 (T.keep g) (by omega)
    rw [← hnt] at this
    exact this
  have HCd : Hid (∀ w1, w.grownBy w1 none → Calls Try.prog 41 #[.agg #[.slice pa na ca, .slice pb nb cb]] w1 (ObPost w1 (z.dk 0) (z.dk 1))) := fun w1 g => ownBoth_any _ _ _ _ w1 (i0.keep g) (i1.keep g) (by omega) (by omega)
  have HCh : Hid (∀ w1, w.grownBy w1 none → Calls Try.prog 41 #[.agg #[.slice pc nc cc, .slice pe ne ce]] w1 (ObPost w1 (z.hd 0) (z.hd 1))) := fun w1 g => ownBoth_any _ _ _ _ w1 (j0.keep g) (j1.keep g) (by omega) (by omega)
  rw [hX] at x0 x1
  rw [hV] at x0 x1 L1
  clear i0 i1 j0 j1 T hX hV h0_ h1_ h2_ hna hnb hnc hne hnt
  go_enter Try.func12, Try.ntmps12
  go_wp2_with fail
  refine L1.mono ?_
  rintro e w1 ⟨rfl, g1⟩
  have HG1 : Hid (V.grownBy w1 none) := by show V.grownBy w1 none; rw [HV.out]; exact g1
  have C2 := HL2.out w1 HG1.out
  have y0 : w1.cell? ⟨X + 1, 0, none⟩ = some (.slice pc nc cc) := (block_cell (grown_keep HG1.out HBy.out (by simp)) 0).trans rfl
  have y1 : w1.cell? ⟨X + 1, 1, none⟩ = some (.slice pe ne ce) := (block_cell (grown_keep HG1.out HBy.out (by simp)) 1).trans rfl
  rw [HX.out] at y0 y1
  clear HL2 g1 L1 x0 x1
  go_wp2_with fail
  refine C2.mono ?_
  rintro e w2 ⟨rfl, g2⟩
  have HG2 : Hid (V.grownBy w2 none) := grown_trans HG1.out g2
  clear g2 C2 y0 y1
  go_upto_region 3 with fail
  rw [← HX.out]
  have C3 := HCt.out w2.drew (grown_trans HGV.out (grown_trans HG2.out (grown_drew w2)))
  refine wp_region_held_drew (S := fun w' => w'.heap[X]? = some (.cells #[.slice pa na ca, .slice pb nb cb] 30 (0, 0)) ∧ w'.heap[X + 1]? = some (.cells #[.slice pc nc cc, .slice pe ne ce] 30 (0, 0))) (by kernel_rfl) (⟨grown_keep (grown_trans HG2.out (grown_drew w2)) HBx.out (by simp), grown_keep (grown_trans HG2.out (grown_drew w2)) HBy.out (by simp)⟩) (fun hHeld => ?_)
  refine wpAnyH_take (i := 0) (v := ?_) rfl (by kernel_rfl) (by kernel_rfl) (by kernel_rfl) (fun _ _ _ h => h) (Or.inl ⟨by rfl, ?_⟩) (by assumption) ?_
  rotate_left 1
  · (intro w0 hSw; go_simp; try with_reducible rfl)
  simp only [List.getElem_toArray, List.getElem_cons_zero]
  go_frame
  refine wpAnyH_take (i := 2) (v := ?_) rfl (by kernel_rfl) (by kernel_rfl) (by kernel_rfl) (fun _ _ _ h => h) (Or.inl ⟨by rfl, ?_⟩) (by assumption) ?_
  rotate_left 1
  · (intro w0 hSw; have r0 := (block_cell hSw.1 0).trans (show _ = some (Value.slice pa na ca) from rfl); have r1 := (block_cell hSw.1 1).trans (show _ = some (Value.slice pb nb cb) from rfl); go_simp; try with_reducible rfl)
  simp only [List.getElem_toArray, List.getElem_cons_zero, List.getElem_cons_succ]
  go_frame
  refine wpAnyH_take (i := 4) (v := ?_) rfl (by kernel_rfl) (by kernel_rfl) (by kernel_rfl) (fun _ _ _ h => h) (Or.inl ⟨by rfl, ?_⟩) (by assumption) ?_
  rotate_left 1
  · (intro w0 hSw; have r0 := (block_cell hSw.2 0).trans (show _ = some (Value.slice pc nc cc) from rfl); have r1 := (block_cell hSw.2 1).trans (show _ = some (Value.slice pe ne ce) from rfl); go_simp; try with_reducible rfl)
  simp only [List.getElem_toArray, List.getElem_cons_zero, List.getElem_cons_succ]
  go_frame
  refine wpAnyH_take (i := 6) (v := ?_) rfl (by kernel_rfl) (by kernel_rfl) (by kernel_rfl) (fun _ _ _ h => h) (Or.inl ⟨by rfl, ?_⟩) (by assumption) ?_
  rotate_left 1
  · (intro w0 hSw; go_simp; try with_reducible rfl)
  simp only [List.getElem_toArray, List.getElem_cons_zero, List.getElem_cons_succ]
  go_frame
  refine wpAnyH_ready (rs := [1]) (by kernel_rfl) (by simp) ?_
  refine AllReadyH.cons rfl (fun K hK => ?_) AllReadyH.nil
  simp only [List.getElem_toArray, List.getElem_cons_zero, List.getElem_cons_succ]
  go_simp
  go_at_call 40
  refine (C3).mono ?_
  rintro e w3 ⟨rfl, o3, g3⟩
  have HG3 : Hid (V.grownBy w3 none) := grown_trans HG2.out (grown_trans (grown_drew w2) g3)
  have HO3 : Hid (OwnT w3 w2.drew.heap.size (.slice (some ⟨w2.drew.heap.size, 0, none⟩) nt nt) z.ts) := o3
  have C4 := HCd.out w3 (grown_trans HGV.out HG3.out)
  have HN3 : Hid (w.heap.size ≤ w2.drew.heap.size) := (grown_trans HGV.out (grown_trans HG2.out (grown_drew w2))).size
  clear o3 g3 C3 HCd HCt
  obtain ⟨tt, htt⟩ : ∃ tt, tt = Value.slice (some ⟨w2.heap.size, 0, none⟩) nt nt := ⟨_, rfl⟩
  have Htt : Hid (tt = Value.slice (some ⟨w2.heap.size, 0, none⟩) nt nt) := htt
  have HTT : Hid (OwnT w3 w.heap.size tt z.ts) := by show OwnT w3 _ tt _; rw [htt]; exact own_lowK HO3.out HN3.out
  clear HO3 htt
  refine hK.out _ _ (⟨grown_keep (HG3.out) HBx.out (by simp), grown_keep (HG3.out) HBy.out (by simp)⟩) (fun hHeld2 => ?_)
  clear hK K
  (try go_frame)
  refine wpAnyH_ready (rs := [3]) (by kernel_rfl) (by simp) ?_
  refine AllReadyH.cons rfl (fun K hK => ?_) AllReadyH.nil
  simp only [List.getElem_toArray, List.getElem_cons_zero, List.getElem_cons_succ]
  go_simp
  go_at_call 41
  refine (C4).mono ?_
  rintro e w4 ⟨a0, a1, rfl, o0, o1, ap, g4⟩
  have HG4 : Hid (V.grownBy w4 none) := grown_trans HG3.out g4
  have HT4 : Hid (OwnT w4 w.heap.size tt z.ts) := own_grow HTT.out g4
  have HO0 : Hid (OwnI w4 w3.heap.size a0 (z.dk 0)) := o0
  have HO1 : Hid (OwnI w4 w3.heap.size a1 (z.dk 1)) := o1
  have HAp : Hid (Apart2 a0 a1) := ap
  have HN4 : Hid (w.heap.size ≤ w3.heap.size) := (grown_trans HGV.out HG3.out).size
  have HN5 : Hid (w3.heap.size ≤ w4.heap.size) := g4.size
  have C5 := HCh.out w4 (grown_trans HGV.out HG4.out)
  clear o0 o1 ap g4 C4 HCh HTT
  refine hK.out _ _ (⟨grown_keep (HG4.out) HBx.out (by simp), grown_keep (HG4.out) HBy.out (by simp)⟩) (fun hHeld2 => ?_)
  clear hK K
  (try go_frame)
  refine wpAnyH_ready (rs := [5]) (by kernel_rfl) (by simp) ?_
  refine AllReadyH.cons rfl (fun K hK => ?_) AllReadyH.nil
  simp only [List.getElem_toArray, List.getElem_cons_zero, List.getElem_cons_succ]
  go_simp
  go_at_call 41
  refine (C5).mono ?_
  rintro e w5 ⟨b0, b1, rfl, o0, o1, ap, g5⟩
  have HG5 : Hid (V.grownBy w5 none) := grown_trans HG4.out g5
  have HB : Hid (∃ S, ZAt (w5.alloc (.cells #[tt, a0, a1, b0, b1, .int .i64 z.nx] 93)) w5.heap.size S z ∧ (∀ x, x ∈ S → w.heap.size ≤ x) ∧ Old (w5.alloc (.cells #[tt, a0, a1, b0, b1, .int .i64 z.nx] 93)) S) := by
    have n5 : w3.heap.size ≤ w4.heap.size := Nat.le_of_lt_succ (Nat.lt_succ_of_le (by have := HN5.out; exact this))
    refine zg_box (grown_trans HGV.out HG5.out) (own_grow HT4.out g5) (own_lowK (own_grow HO0.out g5) HN4.out) (own_lowK (own_grow HO1.out g5) HN4.out) (own_lowK o0 (Nat.le_trans HN4.out n5)) (own_lowK o1 (Nat.le_trans HN4.out n5)) ?_
    have ap4 : ∀ {a v : Value} {l m : List Int}, OwnI w4 w3.heap.size a l → OwnI w5 w4.heap.size v m → Apart2 a v := fun p q x hx hy => by have h1 := own_lt p x hx; have h2 := own_geK q x hy; omega
    refine List.Pairwise.cons ?_ (List.Pairwise.cons ?_ (List.Pairwise.cons ?_ (List.Pairwise.cons ?_ List.Pairwise.nil)))
    · intro v hv
      simp only [List.mem_cons, List.not_mem_nil, or_false] at hv
      rcases hv with rfl | rfl | rfl
      · exact HAp.out
      · exact ap4 HO0.out o0
      · exact ap4 HO0.out o1
    · intro v hv
      simp only [List.mem_cons, List.not_mem_nil, or_false] at hv
      rcases hv with rfl | rfl
      · exact ap4 HO1.out o0
      · exact ap4 HO1.out o1
    · intro v hv
      simp only [List.mem_cons, List.not_mem_nil, or_false] at hv
      rcases hv with rfl
      exact ap
    · intro v hv
      simp at hv
  clear o0 o1 ap g5 C5 HT4 HO0 HO1 HAp
  refine hK.out _ _ (⟨grown_keep (HG5.out) HBx.out (by simp), grown_keep (HG5.out) HBy.out (by simp)⟩) (fun hHeld2 => ?_)
  clear hK K
  (try go_frame)
  refine wpAnyH_take (i := 7) (v := ?_) rfl (by kernel_rfl) (by kernel_rfl) (by kernel_rfl) (fun _ _ _ h => h) (Or.inl ⟨by rfl, ?_⟩) (by assumption) ?_
  rotate_left 1
  · (intro w0 hSw; go_simp; try with_reducible rfl)
  simp only [List.getElem_toArray, List.getElem_cons_zero, List.getElem_cons_succ]
  go_frame
  refine wpAnyH_ready (rs := [8]) (by kernel_rfl) (by simp) ?_
  refine AllReadyH.cons rfl (fun K9 hK => ?_) AllReadyH.nil
  simp only [List.getElem_toArray, List.getElem_cons_zero, List.getElem_cons_succ]
  go_simp
  refine hK.out _ _ (⟨grown_keep (grown_push HG5.out _) HBx.out (by simp), grown_keep (grown_push HG5.out _) HBy.out (by simp)⟩) (fun hHeld3 => ?_)
  clear hK K9
  (try go_frame)
  refine wpAnyH_take (i := 9) (v := ?_) rfl (by kernel_rfl) (by kernel_rfl) (by kernel_rfl) (fun _ _ _ h => h) (Or.inl ⟨by rfl, ?_⟩) (by assumption) ?_
  rotate_left 1
  · (intro w0 hSw; go_simp; try with_reducible rfl)
  simp only [List.getElem_toArray, List.getElem_cons_zero, List.getElem_cons_succ]
  go_frame
  refine wpAnyH_done (by kernel_rfl) ?_ _
  rw [← Htt.out]
  clear hHeld hHeld2 hHeld3
  obtain ⟨Sz, ZA, hn, hold⟩ := HB.out
  have CA := areSound_any w5.heap.size Sz z _ ZA Hf.out
  have HZA : Hid (ZAt (w5.alloc (.cells #[tt, a0, a1, b0, b1, .int .i64 z.nx] 93)) w5.heap.size Sz z) := ZA
  have HN : Hid (∀ x, x ∈ Sz → w.heap.size ≤ x) := hn
  have HOl : Hid (Old (w5.alloc (.cells #[tt, a0, a1, b0, b1, .int .i64 z.nx] 93)) Sz) := hold
  have HG6 : Hid (w.grownBy (w5.alloc (.cells #[tt, a0, a1, b0, b1, .int .i64 z.nx] 93)) none) := grown_push (grown_trans HGV.out HG5.out) _
  clear ZA hn hold HB HG5 HG4 HG3 HG2 HG1 HGV
  go_wp2_with fail
  refine CA.mono ?_
  rintro e w7 ⟨r, rfl, hr, g7⟩
  have HG7 : Hid (w.grownBy w7 none) := grown_trans HG6.out g7
  cases r with
  | false =>
    have HF : Hid (FrPost w z (.returned (.tuple #[.pointer none, .int .i64 2])) w7) := Or.inr (Or.inl ⟨HNL.out, fun q => Bool.noConfusion (hr.2 q), rfl, HG7.out⟩)
    clear hr g7 CA HZA HOl HG6
    go_wp2
    go_ret2
    exact HF.out
  | true =>
    have HF : Hid (FrPost w z (.returned (.tuple #[.pointer (some ⟨w5.heap.size, 0, none⟩), .int .i64 0])) w7) := Or.inr (Or.inr ⟨HNL.out, hr.1 rfl, w5.heap.size, Sz, rfl, HZA.out.grow g7, HN.out, fun x hx => Nat.lt_of_lt_of_le (HOl.out x hx) g7.size, HG7.out⟩)
    clear hr g7 CA HZA HOl HG6
    go_wp2
    go_ret2
    exact HF.out
theorem from_any (vt d0 d1 h0 h1 : Value) (z : Zs) (w : World) (T : ThsAt w vt z.ts) (i0 : IntsA w d0 (z.dk 0)) (i1 : IntsA w d1 (z.dk 1)) (j0 : IntsA w h0 (z.hd 0)) (j1 : IntsA w h1 (z.hd 1)) : Calls Try.prog 12 #[vt, .agg #[d0, d1], .agg #[h0, h1], .int .i64 z.nx] w (FrPost w z) := by
  by_cases q0 : 2048 < z.ts.length
  · exact from_long0 vt d0 d1 h0 h1 z w T i0 i1 j0 j1 q0
  by_cases q1 : 2048 < (z.dk 0).length ∨ 2048 < (z.dk 1).length
  · exact from_long1 vt d0 d1 h0 h1 z w T i0 i1 j0 j1 q0 q1
  by_cases q2 : 2048 < (z.hd 0).length ∨ 2048 < (z.hd 1).length
  · exact from_long2 vt d0 d1 h0 h1 z w T i0 i1 j0 j1 q0 q1 q2
  · exact from_in vt d0 d1 h0 h1 z w T i0 i1 j0 j1 q0 q1 q2
end Go.Proofs.Ytogpgldbbegniaa
