/-
  Zones: Thing.
  Zones in memory: one cell of theirs is another one; what a call may turn, one call behind the other.
  Zones: a list without a number, in new memory: the program's without.
-/
import Derived.Test.YtogpgldbbegniaaS3
import Derived.Test.YtogpgldbbegniaaS0
import Derived.Deep.RegionHeld
namespace Go.Proofs.Ytogpgldbbegniaa
open Go.RowKit

set_option maxRecDepth 100000 in
set_option maxHeartbeats 2000000 in
theorem thing_yes (b : Nat) (Sb : List Nat) (z : Zs) (n : Int) (w : World) (Z : ZAt w b Sb z) (S : z.Sound) (hn : there z.ts n) : Calls Try.prog 35 #[.pointer (some ⟨b, 0, none⟩), .int .i64 n] w fun e w' => e = .returned (.tuple #[thv (thAt z.ts n), .int .i64 0]) ∧ w.grownBy w' none := by
  obtain ⟨vt, d0, d1, h0, h1, Z⟩ := Z
  obtain ⟨c0, _, _, _, _, c5⟩ := Z.cell
  have T := Z.ts.at
  obtain ⟨g, off, cap, rfl, R⟩ := ths_there T hn
  have hs := S.few
  obtain ⟨k, hk⟩ : ∃ k : Nat, n = (k : Int) + 1 := ⟨(n - 1).toNat, by unfold there at hn; omega⟩
  subst hk
  have hlt : k < z.ts.length := by unfold there at hn; omega
  rw [show ((k : Int) + 1 - 1).toNat = k from by omega] at R
  have hb := block_lt Z.blk
  obtain ⟨t, ht⟩ : ∃ t, t = thAt z.ts ((k : Int) + 1) := ⟨_, rfl⟩
  rw [← ht] at R ⊢
  obtain ⟨W, hW⟩ : ∃ W, W = w.alloc (.cells #[.int .i64 0, .int .i64 0, .int .u8 0, .int .i64 0, .int .i64 0, .int .i64 0, .int .i64 0, .int .i64 0, .int .i64 0, .int .i64 0, .bool false] 38) := ⟨_, rfl⟩
  have GW : w.grownBy W none := by rw [hW]; exact World.grownBy_alloc _ _ _
  have c0' := GW.cell c0 (by simp)
  have c5' := GW.cell c5 (by simp)
  obtain ⟨e1, e2, e3, e4, e5, e6, e7, e8, e9, e10, e11⟩ := range_cells (rangeAt_keep R GW)
  have M := made_yes b z.nx W c5' (nx_ne S)
  have HA := has_any b z.ts.length cap (some ⟨g, off, none⟩) ((k : Int) + 1) W c0'
  rw [decide_eq_true (by omega)] at HA
  have hw1 : wrap64 (k : Int) = (k : Int) := by unfold wrap64; omega
  have hlt' : (k : Int) < z.ts.length := by omega
  rw [hW] at c0' M HA e1 e2 e3 e4 e5 e6 e7 e8 e9 e10 e11
  clear c5' GW hW c0 c5 R T Z S hn ht hs
  go_enter Try.func35, Try.ntmps35
  go_wp2_with (first | (go_at_call 61; refine M.mono ?_; rintro e w1 ⟨rfl, h⟩; subst h) | (go_at_call 62; refine HA.mono ?_; rintro e w1 ⟨rfl, h⟩; subst h))
  have q := fun i => block_cell (alloc_at w #[.int .i64 t.card, .int .i64 t.owner, .int .u8 t.place, .int .i64 t.stamp, .int .i64 t.hurt, .int .i64 t.m0, .int .i64 t.m1, .int .i64 t.m2, .int .i64 t.m3, .int .i64 t.done, .bool t.fresh] 38) i
  refine bodyPost_ret (v := .tuple #[thv t, .int .i64 0]) (by simp [results, Try.results35, go_sem, thv, q]) rfl ⟨rfl, World.grownBy_alloc _ _ _⟩
set_option maxRecDepth 100000 in
set_option maxHeartbeats 2000000 in
theorem thing_no (b : Nat) (Sb : List Nat) (z : Zs) (n : Int) (w : World) (Z : ZAt w b Sb z) (S : z.Sound) (hn : ¬ there z.ts n) : Calls Try.prog 35 #[.pointer (some ⟨b, 0, none⟩), .int .i64 n] w fun e w' => e = .returned (.tuple #[thv Th.none, .int .i64 6]) ∧ w.grownBy w' none := by
  obtain ⟨vt, d0, d1, h0, h1, Z⟩ := Z
  obtain ⟨c0, _, _, _, _, c5⟩ := Z.cell
  obtain ⟨pt, ct, rfl, _⟩ := Z.ts.at
  obtain ⟨W, hW⟩ : ∃ W, W = w.alloc (.cells #[.int .i64 0, .int .i64 0, .int .u8 0, .int .i64 0, .int .i64 0, .int .i64 0, .int .i64 0, .int .i64 0, .int .i64 0, .int .i64 0, .bool false] 38) := ⟨_, rfl⟩
  have GW : w.grownBy W none := by rw [hW]; exact World.grownBy_alloc _ _ _
  have c0' := GW.cell c0 (by simp)
  have c5' := GW.cell c5 (by simp)
  have M := made_yes b z.nx W c5' (nx_ne S)
  have HA := has_any b z.ts.length ct pt n W c0'
  have hn2 : ¬ (1 ≤ n ∧ n ≤ (z.ts.length : Int)) := hn
  rw [decide_eq_false hn2] at HA
  rw [hW] at M HA
  clear c5' GW hW c0 c5 Z S hn hn2 c0'
  go_enter Try.func35, Try.ntmps35
  go_wp2_with (first | (go_at_call 61; refine M.mono ?_; rintro e w1 ⟨rfl, h⟩; subst h) | (go_at_call 62; refine HA.mono ?_; rintro e w1 ⟨rfl, h⟩; subst h))
  have q := fun i => block_cell (alloc_at w #[.int .i64 0, .int .i64 0, .int .u8 0, .int .i64 0, .int .i64 0, .int .i64 0, .int .i64 0, .int .i64 0, .int .i64 0, .int .i64 0, .bool false] 38) i
  refine bodyPost_ret (v := .tuple #[thv Th.none, .int .i64 6]) (by simp [results, Try.results35, go_sem, thv, Th.none, q]) rfl ⟨rfl, World.grownBy_alloc _ _ _⟩
theorem thing_any (b : Nat) (Sb : List Nat) (z : Zs) (n : Int) (w : World) (Z : ZAt w b Sb z) (S : z.Sound) : Calls Try.prog 35 #[.pointer (some ⟨b, 0, none⟩), .int .i64 n] w fun e w' => e = .returned (.tuple #[thv (z.thingT n), .int .i64 (z.thingE n)]) ∧ w.grownBy w' none := by
  unfold Zs.thingT Zs.thingE
  by_cases h : 1 ≤ n ∧ n ≤ (z.ts.length : Int)
  · rw [if_pos h, if_pos h]
    exact thing_yes b Sb z n w Z S h
  · rw [if_neg h, if_neg h]
    exact thing_no b Sb z n w Z S h
end Go.Proofs.Ytogpgldbbegniaa
namespace Go.Proofs.Ytogpgldbbegniaa
open Go.RowKit

theorem own_setc {w : World} {base e size n b i : Nat} {T : TypeId} {v u : Value} {xs : List Value} {cs : Array Value} (h : w.ownsRow base e size v n xs) (hb : w.heap[b]? = some (.cells cs T (0, 0))) (hT : T ≠ e) : (w.setCell ⟨b, i, none⟩ u).ownsRow base e size v n xs := by
  refine World.ownsRow.kept h (grown_set w b i u) ?_
  rcases h.2 with ⟨e1, _⟩ | ⟨g, cap, cur, e1, _, hh, _⟩
  · exact Or.inl (by rw [e1]; rfl)
  · refine Or.inr ?_
    rw [e1]
    intro q
    have q2 : g = b := by simpa [Value.ownBlock] using q
    rw [q2, hb] at hh
    simp at hh
    exact hT hh.2
theorem kpt_set (w : World) (b i : Nat) (u : Value) : Kpt [b] w (w.setCell ⟨b, i, none⟩ u) := Kpt.of_grown (grown_set w b i u)
theorem Apart2.symm {x y : Value} (h : Apart2 x y) : Apart2 y x := fun a h1 h2 => h a h2 h1
/-- What a call may turn: S before, S' behind it. -/
structure Turn (w w' : World) (S S' : List Nat) : Prop where
  kpt : Kpt S w w'
  new : ∀ x, x ∈ S' → x ∈ S ∨ w.heap.size ≤ x
  old : ∀ x, x ∈ S' → x < w'.heap.size
theorem Turn.trans {w w1 w2 : World} {S S1 S2 : List Nat} (h : Turn w w1 S S1) (k : Turn w1 w2 S1 S2) : Turn w w2 S S2 :=
  ⟨h.kpt.trans k.kpt h.new, fun x hx => by
    rcases k.new x hx with q | q
    · exact h.new x q
    · exact Or.inr (Nat.le_trans h.kpt.size q), k.old⟩
theorem Turn.grow {w w1 w2 : World} {S S1 : List Nat} (h : Turn w w1 S S1) (g : w1.grownBy w2 none) : Turn w w2 S S1 :=
  ⟨h.kpt.grow g, h.new, fun x hx => Nat.lt_of_lt_of_le (h.old x hx) g.size⟩
theorem Turn.of_grow {w w1 : World} {S : List Nat} (g : w.grownBy w1 none) (h : Old w S) : Turn w w1 S S :=
  ⟨⟨g.os, g.tape, g.output, g.size, fun k hk _ => g.block k hk (by simp)⟩, fun _ hx => Or.inl hx, fun x hx => Nat.lt_of_lt_of_le (h x hx) g.size⟩
theorem Turn.pre {w w1 w2 : World} {S S1 : List Nat} (g : w.grownBy w1 none) (h : Turn w1 w2 S S1) : Turn w w2 S S1 :=
  ⟨⟨h.kpt.os.trans g.os, h.kpt.tape.trans g.tape, h.kpt.output.trans g.output, Nat.le_trans g.size h.kpt.size, fun k hk hs => (h.kpt.block k (Nat.lt_of_lt_of_le hk g.size) hs).trans (g.block k hk (by simp))⟩, fun x hx => by
    rcases h.new x hx with q | q
    · exact Or.inl q
    · exact Or.inr (Nat.le_trans g.size q), h.old⟩
theorem turn_refl {w : World} {S : List Nat} (h : Old w S) : Turn w w S S := ⟨Kpt.refl _ _, fun _ hx => Or.inl hx, h⟩
def tgs (T : TypeId) : Prop := T ≠ 3 ∧ T ≠ 38
theorem zc_set {T : TypeId} {w : World} {b i : Nat} {cs cs' : Array Value} {u : Value} (h : w.heap[b]? = some (.cells cs T (0, 0))) (e : cs.setIfInBounds i u = cs') : (w.setCell ⟨b, i, none⟩ u).heap[b]? = some (.cells cs' T (0, 0)) := by rw [← e]; exact block_set h i u
theorem ZG.set_d0 {T : TypeId} {ex : List Value} {w : World} {b : Nat} {S : List Nat} {z : Zs} {vt d0 d1 h0 h1 : Value} (h : ZG T ex w b S z vt d0 d1 h0 h1) (hT : tgs T) {v : Value} {l : List Int} (O : OwnI w 0 v l) (ad1 : Apart2 v d1) (ah0 : Apart2 v h0) (ah1 : Apart2 v h1) : ZG T ex (w.setCell ⟨b, 1, none⟩ v) b (v.ownBlock.toList ++ S) { z with dk := fun q => if q = 0 then l else z.dk q } vt v d1 h0 h1 := by
  have dif := h.dif
  simp only [List.pairwise_cons, List.mem_cons, List.not_mem_nil, or_false, forall_eq_or_imp, forall_eq] at dif
  obtain ⟨⟨D01, D02, D03⟩, ⟨D12, D13⟩, D23, -⟩ := dif
  refine ⟨zc_set h.blk rfl, own_setc h.ts h.blk hT.2, (show OwnI _ 0 v (if (0 : Int) = 0 then l else z.dk 0) from (by rw [if_pos rfl]; exact own_setc O h.blk hT.1)), (show OwnI _ 0 d1 (if (1 : Int) = 0 then l else z.dk 1) from (by rw [if_neg (by decide)]; exact own_setc h.od1 h.blk hT.1)), own_setc h.oh0 h.blk hT.1, own_setc h.oh1 h.blk hT.1, List.mem_append_right _ h.inb, ?_, ?_⟩
  · intro u hu x hx
    simp only [List.mem_cons, List.not_mem_nil, or_false] at hu
    rcases hu with hu | hu | hu | hu | hu <;> subst hu <;> first | exact List.mem_append_left _ (by rw [hx]; simp) | exact List.mem_append_right _ (h.inS _ (by simp) x hx)
  · simp only [List.pairwise_cons, List.mem_cons, List.not_mem_nil, or_false, forall_eq_or_imp, forall_eq, List.Pairwise.nil, and_true, false_imp_iff, implies_true]
    exact ⟨⟨ad1, ah0, ah1⟩, ⟨D12, D13⟩, D23⟩
theorem ZG.set_d1 {T : TypeId} {ex : List Value} {w : World} {b : Nat} {S : List Nat} {z : Zs} {vt d0 d1 h0 h1 : Value} (h : ZG T ex w b S z vt d0 d1 h0 h1) (hT : tgs T) {v : Value} {l : List Int} (O : OwnI w 0 v l) (ad0 : Apart2 v d0) (ah0 : Apart2 v h0) (ah1 : Apart2 v h1) : ZG T ex (w.setCell ⟨b, 2, none⟩ v) b (v.ownBlock.toList ++ S) { z with dk := fun q => if q = 1 then l else z.dk q } vt d0 v h0 h1 := by
  have dif := h.dif
  simp only [List.pairwise_cons, List.mem_cons, List.not_mem_nil, or_false, forall_eq_or_imp, forall_eq] at dif
  obtain ⟨⟨D01, D02, D03⟩, ⟨D12, D13⟩, D23, -⟩ := dif
  refine ⟨zc_set h.blk rfl, own_setc h.ts h.blk hT.2, (show OwnI _ 0 d0 (if (0 : Int) = 1 then l else z.dk 0) from (by rw [if_neg (by decide)]; exact own_setc h.od0 h.blk hT.1)), (show OwnI _ 0 v (if (1 : Int) = 1 then l else z.dk 1) from (by rw [if_pos rfl]; exact own_setc O h.blk hT.1)), own_setc h.oh0 h.blk hT.1, own_setc h.oh1 h.blk hT.1, List.mem_append_right _ h.inb, ?_, ?_⟩
  · intro u hu x hx
    simp only [List.mem_cons, List.not_mem_nil, or_false] at hu
    rcases hu with hu | hu | hu | hu | hu <;> subst hu <;> first | exact List.mem_append_left _ (by rw [hx]; simp) | exact List.mem_append_right _ (h.inS _ (by simp) x hx)
  · simp only [List.pairwise_cons, List.mem_cons, List.not_mem_nil, or_false, forall_eq_or_imp, forall_eq, List.Pairwise.nil, and_true, false_imp_iff, implies_true]
    exact ⟨⟨ad0.symm, D02, D03⟩, ⟨ah0, ah1⟩, D23⟩
theorem ZG.set_h0 {T : TypeId} {ex : List Value} {w : World} {b : Nat} {S : List Nat} {z : Zs} {vt d0 d1 h0 h1 : Value} (h : ZG T ex w b S z vt d0 d1 h0 h1) (hT : tgs T) {v : Value} {l : List Int} (O : OwnI w 0 v l) (ad0 : Apart2 v d0) (ad1 : Apart2 v d1) (ah1 : Apart2 v h1) : ZG T ex (w.setCell ⟨b, 3, none⟩ v) b (v.ownBlock.toList ++ S) { z with hd := fun q => if q = 0 then l else z.hd q } vt d0 d1 v h1 := by
  have dif := h.dif
  simp only [List.pairwise_cons, List.mem_cons, List.not_mem_nil, or_false, forall_eq_or_imp, forall_eq] at dif
  obtain ⟨⟨D01, D02, D03⟩, ⟨D12, D13⟩, D23, -⟩ := dif
  refine ⟨zc_set h.blk rfl, own_setc h.ts h.blk hT.2, own_setc h.od0 h.blk hT.1, own_setc h.od1 h.blk hT.1, (show OwnI _ 0 v (if (0 : Int) = 0 then l else z.hd 0) from (by rw [if_pos rfl]; exact own_setc O h.blk hT.1)), (show OwnI _ 0 h1 (if (1 : Int) = 0 then l else z.hd 1) from (by rw [if_neg (by decide)]; exact own_setc h.oh1 h.blk hT.1)), List.mem_append_right _ h.inb, ?_, ?_⟩
  · intro u hu x hx
    simp only [List.mem_cons, List.not_mem_nil, or_false] at hu
    rcases hu with hu | hu | hu | hu | hu <;> subst hu <;> first | exact List.mem_append_left _ (by rw [hx]; simp) | exact List.mem_append_right _ (h.inS _ (by simp) x hx)
  · simp only [List.pairwise_cons, List.mem_cons, List.not_mem_nil, or_false, forall_eq_or_imp, forall_eq, List.Pairwise.nil, and_true, false_imp_iff, implies_true]
    exact ⟨⟨D01, ad0.symm, D03⟩, ⟨ad1.symm, D13⟩, ah1⟩
theorem ZG.set_h1 {T : TypeId} {ex : List Value} {w : World} {b : Nat} {S : List Nat} {z : Zs} {vt d0 d1 h0 h1 : Value} (h : ZG T ex w b S z vt d0 d1 h0 h1) (hT : tgs T) {v : Value} {l : List Int} (O : OwnI w 0 v l) (ad0 : Apart2 v d0) (ad1 : Apart2 v d1) (ah0 : Apart2 v h0) : ZG T ex (w.setCell ⟨b, 4, none⟩ v) b (v.ownBlock.toList ++ S) { z with hd := fun q => if q = 1 then l else z.hd q } vt d0 d1 h0 v := by
  have dif := h.dif
  simp only [List.pairwise_cons, List.mem_cons, List.not_mem_nil, or_false, forall_eq_or_imp, forall_eq] at dif
  obtain ⟨⟨D01, D02, D03⟩, ⟨D12, D13⟩, D23, -⟩ := dif
  refine ⟨zc_set h.blk rfl, own_setc h.ts h.blk hT.2, own_setc h.od0 h.blk hT.1, own_setc h.od1 h.blk hT.1, (show OwnI _ 0 h0 (if (0 : Int) = 1 then l else z.hd 0) from (by rw [if_neg (by decide)]; exact own_setc h.oh0 h.blk hT.1)), (show OwnI _ 0 v (if (1 : Int) = 1 then l else z.hd 1) from (by rw [if_pos rfl]; exact own_setc O h.blk hT.1)), List.mem_append_right _ h.inb, ?_, ?_⟩
  · intro u hu x hx
    simp only [List.mem_cons, List.not_mem_nil, or_false] at hu
    rcases hu with hu | hu | hu | hu | hu <;> subst hu <;> first | exact List.mem_append_left _ (by rw [hx]; simp) | exact List.mem_append_right _ (h.inS _ (by simp) x hx)
  · simp only [List.pairwise_cons, List.mem_cons, List.not_mem_nil, or_false, forall_eq_or_imp, forall_eq, List.Pairwise.nil, and_true, false_imp_iff, implies_true]
    exact ⟨⟨D01, D02, ad0.symm⟩, ⟨D12, ad1.symm⟩, ah0.symm⟩
/-- The next stamp is another one. -/
theorem ZG.set_nx {T : TypeId} {ex : List Value} {w : World} {b : Nat} {S : List Nat} {z : Zs} {vt d0 d1 h0 h1 : Value} (h : ZG T ex w b S z vt d0 d1 h0 h1) (hT : tgs T) (m : Int) : ZG T ex (w.setCell ⟨b, 5, none⟩ (.int .i64 m)) b S { z with nx := m } vt d0 d1 h0 h1 :=
  ⟨zc_set h.blk rfl, own_setc h.ts h.blk hT.2, own_setc h.od0 h.blk hT.1, own_setc h.od1 h.blk hT.1, own_setc h.oh0 h.blk hT.1, own_setc h.oh1 h.blk hT.1, h.inb, h.inS, h.dif⟩
/-- The list of things is another one. -/
theorem ZG.set_ts {T : TypeId} {ex : List Value} {w : World} {b : Nat} {S : List Nat} {z : Zs} {vt d0 d1 h0 h1 : Value} (h : ZG T ex w b S z vt d0 d1 h0 h1) (hT : tgs T) {v : Value} {ts : List Th} (O : OwnT w 0 v ts) : ZG T ex (w.setCell ⟨b, 0, none⟩ v) b (v.ownBlock.toList ++ S) { z with ts := ts } v d0 d1 h0 h1 := by
  refine ⟨zc_set h.blk rfl, own_setc O h.blk hT.2, own_setc h.od0 h.blk hT.1, own_setc h.od1 h.blk hT.1, own_setc h.oh0 h.blk hT.1, own_setc h.oh1 h.blk hT.1, List.mem_append_right _ h.inb, ?_, h.dif⟩
  intro u hu x hx
  simp only [List.mem_cons, List.not_mem_nil, or_false] at hu
  rcases hu with hu | hu | hu | hu | hu <;> subst hu <;> first | exact List.mem_append_left _ (by rw [hx]; simp) | exact List.mem_append_right _ (h.inS _ (by simp) x hx)
/-- A row of another type is as it was. -/
theorem own_tag {w w' : World} {base base' e e' size size' n n' g : Nat} {v v' : Value} {xs xs' : List Value} (h : w.ownsRow base e size v n xs) (k : w.ownsRow base' e' size' v' n' xs') (hk : v'.ownBlock = some g) (hne : e ≠ e') (G : w.grownBy w' (some g)) : w'.ownsRow base e size v n xs := by
  refine World.ownsRow.kept h G ?_
  rcases h.2 with ⟨e1, _⟩ | ⟨g1, cap, cur, e1, _, hh, _⟩
  · exact Or.inl (by rw [e1]; rfl)
  · refine Or.inr ?_
    rcases k.2 with ⟨e2, _⟩ | ⟨g2, cap2, cur2, e2, _, hh2, _⟩
    · rw [e2] at hk
      cases hk
    · rw [e2] at hk
      have q2 : g2 = g := by simpa [Value.ownBlock] using hk
      rw [e1]
      intro q
      have q1 : g1 = g := by simpa [Value.ownBlock] using q
      rw [q1] at hh
      rw [q2, hh] at hh2
      simp at hh2
      exact hne hh2.2
/-- A thing of theirs is another one. -/
theorem ZG.set_th {T : TypeId} {ex : List Value} {w : World} {b g n cap j : Nat} {S : List Nat} {z : Zs} {d0 d1 h0 h1 : Value} (h : ZG T ex w b S z (.slice (some ⟨g, 0, none⟩) n cap) d0 d1 h0 h1) (hT : tgs T) (hn : z.ts.length = n) (hj : j < n) (t : Th) : ZG T ex (w.setCells g (j * 11) (thc t)) b S { z with ts := z.ts.set j t } (.slice (some ⟨g, 0, none⟩) n cap) d0 d1 h0 h1 ∧ w.grownBy (w.setCells g (j * 11) (thc t)) (some g) := by
  obtain ⟨O, G⟩ := OwnT.set h.ts hn hj t
  have hbg : some b ≠ some g := by
    intro q
    have q2 : b = g := by simpa using q
    rcases h.ts.2 with ⟨e1, _⟩ | ⟨g1, cap1, cur, e1, _, hh, _⟩
    · cases e1
    · cases e1
      have hb := h.blk
      rw [q2, hh] at hb
      simp at hb
      exact hT.2 hb.2.symm
  exact ⟨⟨grown_keep G h.blk hbg, O, own_tag h.od0 h.ts rfl (by decide) G, own_tag h.od1 h.ts rfl (by decide) G, own_tag h.oh0 h.ts rfl (by decide) G, own_tag h.oh1 h.ts rfl (by decide) G, h.inb, h.inS, h.dif⟩, G⟩
end Go.Proofs.Ytogpgldbbegniaa
namespace Go.Proofs.Ytogpgldbbegniaa
open Go.RowKit

theorem wp_app {P : Program} {w : World} {o : Oper} {a : Act} {K : Act → World → Prop} {Q : Exit → Act → World → Prop} (s x : Operand) (t : TypeId)
    (ho : o.op = .call { callee := .builtin .append, args := #[s, x], argTypes := #[t, t] })
    (base : Nat) (e : TypeId) (i : TypeInfo) (z : Value) (size bytes : Nat) (ht : P.underlying t = some (.slice e)) (hi : P.info? e = some i) (hz : i.zero = some z)
    (hsize : i.size = size) (hby : i.bytes = bytes) (hzs : z.cells.size = size) (hsz : 0 < size)
    (v : Value) (n : Nat) (xs : List Value) (hs : a.eval s = v) (hown : w.ownsRow base e size v n xs)
    (vx : Value) (m : Nat) (ys : List Value) (hx : a.eval x = vx) (hsrc : Src w vx m size ys) (h1 : ∀ u ∈ ys, u.oneCell' = true)
    (h63 : n + m ≤ maxLen) (hbytes : (n + m) * bytes ≤ 140737488355328) (hbase : base ≤ w.heap.size)
    (h : ∀ v' w', w'.ownsRow base e size v' (n + m) (xs ++ ys) → w.grownBy w' v.ownBlock → (v'.ownBlock = v.ownBlock ∨ v'.ownBlock = some w.heap.size) → K (a.put o.dst v') w') : Oper.wp P o a w K Q := by
  obtain ⟨p, c, e1, hl, hc⟩ := hsrc
  subst e1
  by_cases h0 : m = 0
  · subst h0
    have hy : ys = [] := List.length_eq_zero_iff.1 (by omega)
    subst hy
    cases p with
    | none =>
      have hx2 : a.eval x = .slice none 0 c := hx
      have hrun : (Builtin.append_ #[t, t] o.type #[v, .slice none 0 c]).run P w = .ok v w := run_append_owned_none (P := P) (w := w) base t o.type e i size ht hi v n xs hown
      unfold Oper.wp
      simp [execOp, ho, resolve, invoke, builtin, hs, hx2, hrun, Result.andThen]
      exact h v w (by rw [List.append_nil]; exact hown) (grown_refl _ _) (Or.inl rfl)
    | some ad =>
      exact wp_append_at s x t ho base e i z size bytes ht hi hz hsize hby hzs hsz v n xs hs hown ad 0 c [] hx (by simp) (fun j u hu => by simp at hu) h1 h63 hbytes hbase h
  · obtain ⟨ad, e2, hcell⟩ := hc (by omega)
    subst e2
    exact wp_append_at s x t ho base e i z size bytes ht hi hz hsize hby hzs hsz v n xs hs hown ad m c ys hx hl hcell h1 h63 hbytes hbase h
/-- What without answers. -/
def WtPost (w : World) (v : Value) (l : List Int) (n : Int) (e : Ending) (w' : World) : Prop := (n ∈ l ∧ ∃ v', e = .returned v' ∧ OwnI w' w.heap.size v' (l.erase n) ∧ w.grownBy w' none) ∨ (n ∉ l ∧ e = .returned v ∧ w.grownBy w' none)
theorem new_empty (w : World) : (w.alloc (.cells #[] 3)).ownsRow w.heap.size 3 1 (.slice (some ⟨w.heap.size, 0, none⟩) 0 0) 0 [] := ⟨rfl, Or.inr ⟨w.heap.size, 0, #[], rfl, Nat.le_refl _, alloc_at _ _ _, Nat.le_refl _, Nat.zero_le _, rfl, rfl⟩⟩
set_option maxRecDepth 100000 in
set_option maxHeartbeats 4000000 in
theorem without_no (v : Value) (base : Nat) (l : List Int) (x : Int) (w : World) (O : OwnI w base v l) (hx : x ∉ l) (hb : l.length ≤ 2048) : Calls Try.prog 121 #[v, .int .i64 x] w (WtPost w v l x) := by
  obtain ⟨p, cap, rfl, _⟩ := own_slice O
  have HO : Hid (OwnI w base (.slice p l.length cap) l) := O
  have HX : Hid (x ∉ l) := hx
  clear O hx
  go_enter Try.func121, Try.ntmps121
  go_wp2
  go_loopw [5, 6, 9] (fun _ _ i wr => ∃ m : Nat, m ≤ l.length ∧ i = .int .i64 m ∧ wr = w) (fun _ _ i _ => l.length - (intOf i).toNat)
  case atStart => exact ⟨0, Nat.zero_le _, rfl, rfl⟩
  case round =>
    obtain ⟨m, hm, rfl, rfl⟩ := hrel
    by_cases hlt : m < l.length
    · obtain ⟨g, cap', e1, _, _, _, _, hc⟩ := own_cell HO.out (by omega)
      cases e1
      have c1 : wr.cell? ⟨g, m, none⟩ = some (.int .i64 (l.getD m 0)) := by rw [(hc m (by omega)).1]; exact ints_at l m hlt
      obtain ⟨y, hy⟩ : ∃ y, y = l.getD m 0 := ⟨_, rfl⟩
      rw [← hy] at c1
      have e2 : (y == x) = false := by
        have : ¬ y = x := fun e => HX.out (by rw [← e, hy]; exact getD_mem hlt)
        simpa using this
      have hlt' : (m : Int) < (l.length : Int) := by omega
      have hwk : wrap64 ((m : Int) + 1) = (m : Int) + 1 := by unfold wrap64; omega
      have HP : Hid (m + 1 ≤ l.length) := hlt
      have HM : Hid (l.length - (intOf (.int .i64 ((m : Int) + 1))).toNat < l.length - (intOf (.int .i64 (m : Int))).toNat) := meas_next hlt
      clear hc hy
      go_wp2
      go_roundw
      case rel => exact ⟨m + 1, HP.out, by first | rfl | (rw [hwk]; rfl) | go_num, by first | exact trivial | rfl⟩
      case measure => first | exact HM.out | (rw [hwk]; exact HM.out)
    · have hlt' : ¬ (m : Int) < (l.length : Int) := by omega
      have HF : Hid (WtPost wr (.slice p l.length cap) l x (.returned (.slice p l.length cap)) wr) := Or.inr ⟨HX.out, rfl, grown_refl _ _⟩
      go_wp2
      go_ret
      exact HF.out
theorem drop_Src {w : World} {base g n cap k : Nat} {l : List Int} (h : w.ownsRow base 3 1 (.slice (some ⟨g, 0, none⟩) n cap) n (ints l)) (hn : l.length = n) (hk : k ≤ n) : Src w (.slice (some ⟨g, k, none⟩) (n - k) (cap - k)) (n - k) 1 (ints (l.drop k)) :=
  ⟨_, _, rfl, by rw [length_ints, List.length_drop, hn, Nat.mul_one], fun _ => ⟨_, rfl, fun j u hu => by
    have hj : j < n - k := by have := (List.getElem?_eq_some_iff.1 hu).1; rw [length_ints, List.length_drop, hn] at this; exact this
    rw [add_plain, World.ownsRow.cellAt h (k + j) (by omega), ints_at l (k + j) (by omega)]
    rw [ints_at _ j (by rw [List.length_drop]; omega)] at hu
    rw [← hu]
    simp [List.getD]⟩⟩
theorem drop_Src0 {w : World} {l : List Int} {ad : Option Addr} {k n : Nat} (hn : l.length = n) (hk : n = k) : Src w (.slice ad 0 0) 0 1 (ints (l.drop k)) :=
  ⟨_, _, rfl, by rw [length_ints, List.length_drop, hn, hk]; simp, fun h => by omega⟩
theorem take_Src {w : World} {base g n cap k : Nat} {l : List Int} (h : w.ownsRow base 3 1 (.slice (some ⟨g, 0, none⟩) n cap) n (ints l)) (hn : l.length = n) (hk : k ≤ n) : Src w (.slice (some ⟨g, 0, none⟩) k cap) k 1 (ints (l.take k)) :=
  ⟨_, _, rfl, by rw [length_ints, List.length_take, Nat.mul_one]; omega, fun _ => ⟨_, rfl, fun j u hu => by
    have hj : j < k := by have := (List.getElem?_eq_some_iff.1 hu).1; rw [length_ints, List.length_take] at this; omega
    rw [add_plain, Nat.zero_add, World.ownsRow.cellAt h j (by omega), ints_at l j (by omega)]
    rw [ints_at _ j (by rw [List.length_take]; omega)] at hu
    rw [← hu]
    simp [List.getD, hj]⟩⟩
set_option maxRecDepth 100000 in
set_option maxHeartbeats 4000000 in
theorem without_hit (g cap base : Nat) (l : List Int) (x : Int) (k : Nat) (w : World) (O : OwnI w base (.slice (some ⟨g, 0, none⟩) l.length cap) l) (hcap : l.length ≤ cap) (hF : FstI l x k) (hb : l.length ≤ 2048) : Calls Try.prog 121 #[.slice (some ⟨g, 0, none⟩) l.length cap, .int .i64 x] w (WtPost w (.slice (some ⟨g, 0, none⟩) l.length cap) l x) := by
  obtain ⟨i1, hi1, hza1, hzb1, hzc1⟩ := info_parts Try.info3i'
  obtain ⟨n, hn⟩ : ∃ n, n = l.length := ⟨_, rfl⟩
  have HO : Hid (w.ownsRow base 3 1 (.slice (some ⟨g, 0, none⟩) n cap) n (ints l)) := by rw [hn]; exact O
  have HN : Hid (l.length = n) := hn.symm
  have HF : Hid (FstI l x k) := hF
  have hkn : k < n := by rw [hn]; exact hF.1
  rw [← hn] at hcap hb ⊢
  obtain ⟨K, hK⟩ : ∃ K, K = k + 1 := ⟨_, rfl⟩
  have HK : Hid (K = k + 1) := hK
  have hKn : K ≤ n := by omega
  have HE : Hid (l.erase x = l.take k ++ l.drop K) := by rw [hK]; exact hF.erase
  have HLs : Hid (k + (n - K) ≤ maxLen ∧ (k + (n - K)) * 8 ≤ 140737488355328 ∧ 0 + k ≤ maxLen ∧ (0 + k) * 8 ≤ 140737488355328 ∧ (l.take k).length = k ∧ (l.take k ++ l.drop K).length = k + (n - K)) := by
    show _ ∧ _
    unfold maxLen
    refine ⟨by omega, by omega, by omega, by omega, by rw [List.length_take]; omega, by rw [List.length_append, List.length_take, List.length_drop]; omega⟩
  have k0 : ¬ ((k : Int) < 0) := by omega
  have k2 : (k : Int) ≤ (n : Int) := by omega
  have k3 : (n : Int) ≤ (cap : Int) := by omega
  have k4 : (k : Int) ≤ (cap : Int) := by omega
  have k5 : (0 : Int) ≤ (k : Int) := by omega
  have k6 : (K : Int) ≤ (n : Int) := by omega
  have k7 : (K : Int) ≤ (cap : Int) := by omega
  have k8 : (0 : Int) ≤ (K : Int) := by omega
  have Hk9 : Hid ((k : Int) + 1 = (K : Int)) := by show (k : Int) + 1 = (K : Int); omega
  have hwK : IntKind.i64.wrap (K : Int) = (K : Int) := by rw [IntKind.wrap_i64]; omega
  clear O hF hn hK
  go_enter Try.func121, Try.ntmps121
  go_wp2
  go_loopw [5, 6, 9] (fun _ _ i wr => ∃ m : Nat, m ≤ k ∧ i = .int .i64 m ∧ wr = w) (fun _ _ i _ => n - (intOf i).toNat)
  case atStart => exact ⟨0, Nat.zero_le _, rfl, rfl⟩
  case round =>
    obtain ⟨m, hmk, rfl, rfl⟩ := hrel
    have hlt : m < n := by omega
    have hlt' : (m : Int) < (n : Int) := by omega
    obtain ⟨y, hy⟩ : ∃ y, y = l.getD m 0 := ⟨_, rfl⟩
    have c1 : wr.cell? ⟨g, m, none⟩ = some (.int .i64 y) := by rw [hy, World.ownsRow.cellAt HO.out m (by omega)]; exact ints_at l m (by have := HN.out; omega)
    rcases (show m = k ∨ m < k from by omega) with e | hmk'
    · have hd : y = x := by rw [hy, e]; exact HF.out.2.1
      subst e
      subst hd
      have k9 : (m : Int) + 1 = (K : Int) := Hk9.out
      have HD : Hid (wr.grownBy wr.drew none) := grown_drew _
      clear hy hmk Hk9
      by_cases e1 : cap = K
      · subst e1
        have HQ : Hid (n = cap) := by show n = cap; omega
        have e0 : n - cap = 0 := by omega
        have e9 : cap - cap = 0 := by omega
        go_upto_region 5 with fail
        refine wp_region_held_drew (S := fun w' => wr.grownBy w' none) (by kernel_rfl) (grown_drew _) (fun hHeld => ?_)
        refine wpAnyH_take (i := 1) (v := ?_) rfl (by kernel_rfl) (by kernel_rfl) (by kernel_rfl) (fun _ _ _ h => h) (Or.inl ⟨by rfl, ?_⟩) (by assumption) ?_
        rotate_left 1
        · (intro w0 hSw; go_simp; try with_reducible rfl)
        simp only [List.getElem_toArray, List.getElem_cons_zero, List.getElem_cons_succ]
        go_frame
        refine wpAnyH_take (i := 2) (v := ?_) rfl (by kernel_rfl) (by kernel_rfl) (by kernel_rfl) (fun _ _ _ h => h) (Or.inl ⟨by rfl, ?_⟩) (by assumption) ?_
        rotate_left 1
        · (intro w0 hSw; go_simp; try with_reducible rfl)
        simp only [List.getElem_toArray, List.getElem_cons_zero, List.getElem_cons_succ]
        go_frame
        refine wpAnyH_take (i := 3) (v := ?_) rfl (by kernel_rfl) (by kernel_rfl) (by kernel_rfl) (fun _ _ _ h => h) (Or.inl ⟨by rfl, ?_⟩) (by assumption) ?_
        rotate_left 1
        · (intro w0 hSw; go_simp; try with_reducible rfl)
        simp only [List.getElem_toArray, List.getElem_cons_zero, List.getElem_cons_succ]
        go_frame
        refine wpAnyH_take (i := 5) (v := ?_) rfl (by kernel_rfl) (by kernel_rfl) (by kernel_rfl) (fun _ _ _ h => h) (Or.inl ⟨by rfl, ?_⟩) (by assumption) ?_
        rotate_left 1
        · (intro w0 hSw; go_simp; try with_reducible rfl)
        simp only [List.getElem_toArray, List.getElem_cons_zero, List.getElem_cons_succ]
        go_frame
        refine wpAnyH_take (i := 6) (v := ?_) rfl (by kernel_rfl) (by kernel_rfl) (by kernel_rfl) (fun _ _ _ h => h) (Or.inl ⟨by rfl, ?_⟩) (by assumption) ?_
        rotate_left 1
        · (intro w0 hSw; go_simp; try with_reducible rfl)
        simp only [List.getElem_toArray, List.getElem_cons_zero, List.getElem_cons_succ]
        go_frame
        refine wpAnyH_take (i := 7) (v := ?_) rfl (by kernel_rfl) (by kernel_rfl) (by kernel_rfl) (fun _ _ _ h => h) (Or.inl ⟨by rfl, ?_⟩) (by assumption) ?_
        rotate_left 1
        · (intro w0 hSw; go_simp; try with_reducible rfl)
        simp only [List.getElem_toArray, List.getElem_cons_zero, List.getElem_cons_succ]
        go_frame
        refine wpAnyH_take (i := 8) (v := ?_) rfl (by kernel_rfl) (by kernel_rfl) (by kernel_rfl) (fun _ _ _ h => h) (Or.inl ⟨by rfl, ?_⟩) (by assumption) ?_
        rotate_left 1
        · (intro w0 hSw; go_simp; try with_reducible rfl)
        simp only [List.getElem_toArray, List.getElem_cons_zero, List.getElem_cons_succ]
        go_frame
        refine wpAnyH_ready (rs := [0]) (by kernel_rfl) (by simp) ?_
        refine AllReadyH.cons rfl (fun K9 hK => ?_) AllReadyH.nil
        simp only [List.getElem_toArray, List.getElem_cons_zero]
        go_simp
        have HO0 : Hid ((wr.drew.alloc (.cells #[] 3)).ownsRow wr.heap.size 3 1 (.slice (some ⟨wr.heap.size, 0, none⟩) 0 0) 0 []) := new_empty wr.drew
        refine hK.out _ _ (grown_push HD.out _) (fun hHeld3 => ?_)
        clear hK K9
        (try go_frame)
        refine wpAnyH_ready (rs := [4]) (by kernel_rfl) (by simp) ?_
        refine AllReadyH.cons rfl (fun K9 hK => ?_) AllReadyH.nil
        simp only [List.getElem_toArray, List.getElem_cons_zero, List.getElem_cons_succ]
        rw [if_pos (by rfl)]
        refine wp_app (.tmp 17) (.tmp 20) 22 rfl wr.heap.size 3 i1 _ 1 8 Try.underlying22 hi1 hza1 hzb1 hzc1 rfl (by decide) (.slice (some ⟨wr.heap.size, 0, none⟩) 0 0) (0) ([]) rfl (HO0.out) (.slice (some ⟨g, 0, none⟩) m cap) (m) (ints (l.take m)) rfl ((take_Src HO.out HN.out (by omega)).keep (grown_push HD.out _)) (ints_one _) (HLs.out.2.2.1) (HLs.out.2.2.2.1) (by show wr.heap.size ≤ (wr.alloc (.cells #[] 3)).heap.size; rw [World.size_alloc]; omega) ?_
        intro v' w7 o7 g7 l7
        have HO1 : Hid (w7.ownsRow wr.heap.size 3 1 v' m (ints (l.take m))) := by (show w7.ownsRow wr.heap.size 3 1 v' m (ints (l.take m))); rw [Nat.zero_add, List.nil_append] at o7; exact o7
        have HG1 : Hid ((wr.drew.alloc (.cells #[] 3)).grownBy w7 (some wr.heap.size)) := g7
        have HG2 : Hid (wr.grownBy w7 none) := grown_own (grown_push HD.out _) g7 (fun x hx => by cases hx; exact Nat.le_refl _)
        clear o7 g7 l7
        refine hK.out _ _ (HG2.out) (fun hHeld3 => ?_)
        clear hK K9
        (try go_frame)
        refine wpAnyH_ready (rs := [9]) (by kernel_rfl) (by simp) ?_
        refine AllReadyH.cons rfl (fun K9 hK => ?_) AllReadyH.nil
        simp only [List.getElem_toArray, List.getElem_cons_zero, List.getElem_cons_succ]
        rw [if_pos (by rfl)]
        refine wp_app (.tmp 21) (.tmp 25) 22 rfl wr.heap.size 3 i1 _ 1 8 Try.underlying22 hi1 hza1 hzb1 hzc1 rfl (by decide) (v') (m) (ints (l.take m)) rfl (HO1.out) (.slice (some ⟨g, 0, none⟩) 0 0) (0) (ints (l.drop cap)) rfl (drop_Src0 HN.out HQ.out) (ints_one _) (by have := HLs.out.1; omega) (by have := HLs.out.2.1; omega) (HG2.out.size) ?_
        intro v9 w9 o7 g7 l7
        have HO3 : Hid (w9.ownsRow wr.heap.size 3 1 v9 (m + (n - cap)) (ints (l.take m ++ l.drop cap)) ∧ wr.grownBy w9 none) := ⟨by rw [ints_app]; rw [e0]; exact o7, grown_own HG2.out g7 (fun x hx => (World.ownsRow.lt HO1.out x hx).1)⟩
        clear o7 g7 l7
        refine hK.out _ _ (HO3.out.2) (fun hHeld3 => ?_)
        clear hK K9
        (try go_frame)
        refine wpAnyH_take (i := 10) (v := ?_) rfl (by kernel_rfl) (by kernel_rfl) (by kernel_rfl) (fun _ _ _ h => h) (Or.inl ⟨by rfl, ?_⟩) (by assumption) ?_
        rotate_left 1
        · (intro w0 hSw; go_simp; try with_reducible rfl)
        simp only [List.getElem_toArray, List.getElem_cons_zero, List.getElem_cons_succ]
        go_frame
        refine wpAnyH_done (by kernel_rfl) ?_ _
        go_wp2
        go_ret
        exact Or.inl ⟨HF.out.mem, _, rfl, by unfold OwnI; rw [HE.out, HLs.out.2.2.2.2.2]; exact HO3.out.1, HO3.out.2⟩
      · have e2 : ¬ (K = cap) := fun e => e1 e.symm
        go_upto_region 5 with fail
        refine wp_region_held_drew (S := fun w' => wr.grownBy w' none) (by kernel_rfl) (grown_drew _) (fun hHeld => ?_)
        refine wpAnyH_take (i := 1) (v := ?_) rfl (by kernel_rfl) (by kernel_rfl) (by kernel_rfl) (fun _ _ _ h => h) (Or.inl ⟨by rfl, ?_⟩) (by assumption) ?_
        rotate_left 1
        · (intro w0 hSw; go_simp; try with_reducible rfl)
        simp only [List.getElem_toArray, List.getElem_cons_zero, List.getElem_cons_succ]
        go_frame
        refine wpAnyH_take (i := 2) (v := ?_) rfl (by kernel_rfl) (by kernel_rfl) (by kernel_rfl) (fun _ _ _ h => h) (Or.inl ⟨by rfl, ?_⟩) (by assumption) ?_
        rotate_left 1
        · (intro w0 hSw; go_simp; try with_reducible rfl)
        simp only [List.getElem_toArray, List.getElem_cons_zero, List.getElem_cons_succ]
        go_frame
        refine wpAnyH_take (i := 3) (v := ?_) rfl (by kernel_rfl) (by kernel_rfl) (by kernel_rfl) (fun _ _ _ h => h) (Or.inl ⟨by rfl, ?_⟩) (by assumption) ?_
        rotate_left 1
        · (intro w0 hSw; go_simp; try with_reducible rfl)
        simp only [List.getElem_toArray, List.getElem_cons_zero, List.getElem_cons_succ]
        go_frame
        refine wpAnyH_take (i := 5) (v := ?_) rfl (by kernel_rfl) (by kernel_rfl) (by kernel_rfl) (fun _ _ _ h => h) (Or.inl ⟨by rfl, ?_⟩) (by assumption) ?_
        rotate_left 1
        · (intro w0 hSw; go_simp; try with_reducible rfl)
        simp only [List.getElem_toArray, List.getElem_cons_zero, List.getElem_cons_succ]
        go_frame
        refine wpAnyH_take (i := 6) (v := ?_) rfl (by kernel_rfl) (by kernel_rfl) (by kernel_rfl) (fun _ _ _ h => h) (Or.inl ⟨by rfl, ?_⟩) (by assumption) ?_
        rotate_left 1
        · (intro w0 hSw; go_simp; try with_reducible rfl)
        simp only [List.getElem_toArray, List.getElem_cons_zero, List.getElem_cons_succ]
        go_frame
        refine wpAnyH_take (i := 7) (v := ?_) rfl (by kernel_rfl) (by kernel_rfl) (by kernel_rfl) (fun _ _ _ h => h) (Or.inl ⟨by rfl, ?_⟩) (by assumption) ?_
        rotate_left 1
        · (intro w0 hSw; go_simp; try with_reducible rfl)
        simp only [List.getElem_toArray, List.getElem_cons_zero, List.getElem_cons_succ]
        go_frame
        refine wpAnyH_take (i := 8) (v := ?_) rfl (by kernel_rfl) (by kernel_rfl) (by kernel_rfl) (fun _ _ _ h => h) (Or.inl ⟨by rfl, ?_⟩) (by assumption) ?_
        rotate_left 1
        · (intro w0 hSw; go_simp; try with_reducible rfl)
        simp only [List.getElem_toArray, List.getElem_cons_zero, List.getElem_cons_succ]
        go_frame
        refine wpAnyH_ready (rs := [0]) (by kernel_rfl) (by simp) ?_
        refine AllReadyH.cons rfl (fun K9 hK => ?_) AllReadyH.nil
        simp only [List.getElem_toArray, List.getElem_cons_zero]
        go_simp
        have HO0 : Hid ((wr.drew.alloc (.cells #[] 3)).ownsRow wr.heap.size 3 1 (.slice (some ⟨wr.heap.size, 0, none⟩) 0 0) 0 []) := new_empty wr.drew
        refine hK.out _ _ (grown_push HD.out _) (fun hHeld3 => ?_)
        clear hK K9
        (try go_frame)
        refine wpAnyH_ready (rs := [4]) (by kernel_rfl) (by simp) ?_
        refine AllReadyH.cons rfl (fun K9 hK => ?_) AllReadyH.nil
        simp only [List.getElem_toArray, List.getElem_cons_zero, List.getElem_cons_succ]
        rw [if_pos (by rfl)]
        refine wp_app (.tmp 17) (.tmp 20) 22 rfl wr.heap.size 3 i1 _ 1 8 Try.underlying22 hi1 hza1 hzb1 hzc1 rfl (by decide) (.slice (some ⟨wr.heap.size, 0, none⟩) 0 0) (0) ([]) rfl (HO0.out) (.slice (some ⟨g, 0, none⟩) m cap) (m) (ints (l.take m)) rfl ((take_Src HO.out HN.out (by omega)).keep (grown_push HD.out _)) (ints_one _) (HLs.out.2.2.1) (HLs.out.2.2.2.1) (by show wr.heap.size ≤ (wr.alloc (.cells #[] 3)).heap.size; rw [World.size_alloc]; omega) ?_
        intro v' w7 o7 g7 l7
        have HO1 : Hid (w7.ownsRow wr.heap.size 3 1 v' m (ints (l.take m))) := by (show w7.ownsRow wr.heap.size 3 1 v' m (ints (l.take m))); rw [Nat.zero_add, List.nil_append] at o7; exact o7
        have HG1 : Hid ((wr.drew.alloc (.cells #[] 3)).grownBy w7 (some wr.heap.size)) := g7
        have HG2 : Hid (wr.grownBy w7 none) := grown_own (grown_push HD.out _) g7 (fun x hx => by cases hx; exact Nat.le_refl _)
        clear o7 g7 l7
        refine hK.out _ _ (HG2.out) (fun hHeld3 => ?_)
        clear hK K9
        (try go_frame)
        refine wpAnyH_ready (rs := [9]) (by kernel_rfl) (by simp) ?_
        refine AllReadyH.cons rfl (fun K9 hK => ?_) AllReadyH.nil
        simp only [List.getElem_toArray, List.getElem_cons_zero, List.getElem_cons_succ]
        rw [if_pos (by rfl)]
        refine wp_app (.tmp 21) (.tmp 25) 22 rfl wr.heap.size 3 i1 _ 1 8 Try.underlying22 hi1 hza1 hzb1 hzc1 rfl (by decide) (v') (m) (ints (l.take m)) rfl (HO1.out) (.slice (some ⟨g, K, none⟩) (n - K) (cap - K)) (n - K) (ints (l.drop K)) rfl ((drop_Src HO.out HN.out hKn).keep HG2.out) (ints_one _) (HLs.out.1) (HLs.out.2.1) (HG2.out.size) ?_
        intro v9 w9 o7 g7 l7
        have HO3 : Hid (w9.ownsRow wr.heap.size 3 1 v9 (m + (n - K)) (ints (l.take m ++ l.drop K)) ∧ wr.grownBy w9 none) := ⟨by rw [ints_app];  exact o7, grown_own HG2.out g7 (fun x hx => (World.ownsRow.lt HO1.out x hx).1)⟩
        clear o7 g7 l7
        refine hK.out _ _ (HO3.out.2) (fun hHeld3 => ?_)
        clear hK K9
        (try go_frame)
        refine wpAnyH_take (i := 10) (v := ?_) rfl (by kernel_rfl) (by kernel_rfl) (by kernel_rfl) (fun _ _ _ h => h) (Or.inl ⟨by rfl, ?_⟩) (by assumption) ?_
        rotate_left 1
        · (intro w0 hSw; go_simp; try with_reducible rfl)
        simp only [List.getElem_toArray, List.getElem_cons_zero, List.getElem_cons_succ]
        go_frame
        refine wpAnyH_done (by kernel_rfl) ?_ _
        go_wp2
        go_ret
        exact Or.inl ⟨HF.out.mem, _, rfl, by unfold OwnI; rw [HE.out, HLs.out.2.2.2.2.2]; exact HO3.out.1, HO3.out.2⟩
    · have e2 : (y == x) = false := by
        have : ¬ y = x := by rw [hy]; exact HF.out.2.2 m hmk'
        simpa using this
      have hwk : wrap64 ((m : Int) + 1) = (m : Int) + 1 := by unfold wrap64; omega
      have HP : Hid (m + 1 ≤ k) := hmk'
      have HM : Hid (n - (intOf (.int .i64 ((m : Int) + 1))).toNat < n - (intOf (.int .i64 (m : Int))).toNat) := meas_next hlt
      clear hy k0 k2 k4 k5 k6 k7 k8 hwK Hk9
      go_wp2
      go_roundw
      case rel => exact ⟨m + 1, HP.out, by first | rfl | (rw [hwk]; rfl) | go_num, by first | exact trivial | rfl⟩
      case measure => first | exact HM.out | (rw [hwk]; exact HM.out)
theorem without_any (v : Value) (base : Nat) (l : List Int) (x : Int) (w : World) (O : OwnI w base v l) (hb : l.length ≤ 2048) : Calls Try.prog 121 #[v, .int .i64 x] w (WtPost w v l x) := by
  by_cases hx : x ∈ l
  · obtain ⟨k, hF⟩ := first_of hx
    have hpos : 0 < l.length := by have := hF.1; omega
    obtain ⟨g, cap, e1, _, _, hc, _, _⟩ := own_cell O hpos
    subst e1
    exact without_hit g cap base l x k w O hc hF hb
  · exact without_no v base l x w O hx hb
end Go.Proofs.Ytogpgldbbegniaa
