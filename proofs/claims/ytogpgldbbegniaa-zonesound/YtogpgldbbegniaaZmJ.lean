/-
  Zones in memory: one cell of theirs is another one; what a call may turn, one call behind the other.
-/
import Derived.Test.YtogpgldbbegniaaZmI
namespace Go.Proofs.Ytogpgldbbegniaa
open Go.RowKit

theorem own_setc {w : World} {base e size n b i : Nat} {T : TypeId} {v u : Value} {xs : List Value} {cs : Array Value} (h : w.ownsRow base e size v n xs) (hb : w.heap[b]? = some (.cells cs T (0, 0))) (hT : T ≠ e) : (w.setCell ⟨b, i, none⟩ u).ownsRow base e size v n xs := by
  refine World.ownsRow.kept h (grown_set w b i u) ?_
  rcases h.2 with ⟨e1, _⟩ | ⟨g, cap, cur, e1, _, hh, _⟩
  · exact Or.inl (by rw [e1]; rfl)
  · refine Or.inr ?_
    rw [e1]
    intro q
    have q2 : g = b := by simpa [Value.ownBlock] using q
    rw [q2, hb] at hh
    simp at hh
    exact hT hh.2
theorem kpt_set (w : World) (b i : Nat) (u : Value) : Kpt [b] w (w.setCell ⟨b, i, none⟩ u) := Kpt.of_grown (grown_set w b i u)
theorem Apart2.symm {x y : Value} (h : Apart2 x y) : Apart2 y x := fun a h1 h2 => h a h2 h1
/-- What a call may turn: S before, S' behind it. -/
structure Turn (w w' : World) (S S' : List Nat) : Prop where
  kpt : Kpt S w w'
  new : ∀ x, x ∈ S' → x ∈ S ∨ w.heap.size ≤ x
  old : ∀ x, x ∈ S' → x < w'.heap.size
theorem Turn.trans {w w1 w2 : World} {S S1 S2 : List Nat} (h : Turn w w1 S S1) (k : Turn w1 w2 S1 S2) : Turn w w2 S S2 :=
  ⟨h.kpt.trans k.kpt h.new, fun x hx => by
    rcases k.new x hx with q | q
    · exact h.new x q
    · exact Or.inr (Nat.le_trans h.kpt.size q), k.old⟩
theorem Turn.grow {w w1 w2 : World} {S S1 : List Nat} (h : Turn w w1 S S1) (g : w1.grownBy w2 none) : Turn w w2 S S1 :=
  ⟨h.kpt.grow g, h.new, fun x hx => Nat.lt_of_lt_of_le (h.old x hx) g.size⟩
theorem Turn.of_grow {w w1 : World} {S : List Nat} (g : w.grownBy w1 none) (h : Old w S) : Turn w w1 S S :=
  ⟨⟨g.os, g.tape, g.output, g.size, fun k hk _ => g.block k hk (by simp)⟩, fun _ hx => Or.inl hx, fun x hx => Nat.lt_of_lt_of_le (h x hx) g.size⟩
theorem Turn.pre {w w1 w2 : World} {S S1 : List Nat} (g : w.grownBy w1 none) (h : Turn w1 w2 S S1) : Turn w w2 S S1 :=
  ⟨⟨h.kpt.os.trans g.os, h.kpt.tape.trans g.tape, h.kpt.output.trans g.output, Nat.le_trans g.size h.kpt.size, fun k hk hs => (h.kpt.block k (Nat.lt_of_lt_of_le hk g.size) hs).trans (g.block k hk (by simp))⟩, fun x hx => by
    rcases h.new x hx with q | q
    · exact Or.inl q
    · exact Or.inr (Nat.le_trans g.size q), h.old⟩
theorem turn_refl {w : World} {S : List Nat} (h : Old w S) : Turn w w S S := ⟨Kpt.refl _ _, fun _ hx => Or.inl hx, h⟩
def tgs (T : TypeId) : Prop := T ≠ 3 ∧ T ≠ 38
theorem zc_set {T : TypeId} {w : World} {b i : Nat} {cs cs' : Array Value} {u : Value} (h : w.heap[b]? = some (.cells cs T (0, 0))) (e : cs.setIfInBounds i u = cs') : (w.setCell ⟨b, i, none⟩ u).heap[b]? = some (.cells cs' T (0, 0)) := by rw [← e]; exact block_set h i u
theorem ZG.set_d0 {T : TypeId} {ex : List Value} {w : World} {b : Nat} {S : List Nat} {z : Zs} {vt d0 d1 h0 h1 : Value} (h : ZG T ex w b S z vt d0 d1 h0 h1) (hT : tgs T) {v : Value} {l : List Int} (O : OwnI w 0 v l) (ad1 : Apart2 v d1) (ah0 : Apart2 v h0) (ah1 : Apart2 v h1) : ZG T ex (w.setCell ⟨b, 1, none⟩ v) b (v.ownBlock.toList ++ S) { z with dk := fun q => if q = 0 then l else z.dk q } vt v d1 h0 h1 := by
  have dif := h.dif
  simp only [List.pairwise_cons, List.mem_cons, List.not_mem_nil, or_false, forall_eq_or_imp, forall_eq] at dif
  obtain ⟨⟨D01, D02, D03⟩, ⟨D12, D13⟩, D23, -⟩ := dif
  refine ⟨zc_set h.blk rfl, own_setc h.ts h.blk hT.2, (show OwnI _ 0 v (if (0 : Int) = 0 then l else z.dk 0) from (by rw [if_pos rfl]; exact own_setc O h.blk hT.1)), (show OwnI _ 0 d1 (if (1 : Int) = 0 then l else z.dk 1) from (by rw [if_neg (by decide)]; exact own_setc h.od1 h.blk hT.1)), own_setc h.oh0 h.blk hT.1, own_setc h.oh1 h.blk hT.1, List.mem_append_right _ h.inb, ?_, ?_⟩
  · intro u hu x hx
    simp only [List.mem_cons, List.not_mem_nil, or_false] at hu
    rcases hu with hu | hu | hu | hu | hu <;> subst hu <;> first | exact List.mem_append_left _ (by rw [hx]; simp) | exact List.mem_append_right _ (h.inS _ (by simp) x hx)
  · simp only [List.pairwise_cons, List.mem_cons, List.not_mem_nil, or_false, forall_eq_or_imp, forall_eq, List.Pairwise.nil, and_true, false_imp_iff, implies_true]
    exact ⟨⟨ad1, ah0, ah1⟩, ⟨D12, D13⟩, D23⟩
theorem ZG.set_d1 {T : TypeId} {ex : List Value} {w : World} {b : Nat} {S : List Nat} {z : Zs} {vt d0 d1 h0 h1 : Value} (h : ZG T ex w b S z vt d0 d1 h0 h1) (hT : tgs T) {v : Value} {l : List Int} (O : OwnI w 0 v l) (ad0 : Apart2 v d0) (ah0 : Apart2 v h0) (ah1 : Apart2 v h1) : ZG T ex (w.setCell ⟨b, 2, none⟩ v) b (v.ownBlock.toList ++ S) { z with dk := fun q => if q = 1 then l else z.dk q } vt d0 v h0 h1 := by
  have dif := h.dif
  simp only [List.pairwise_cons, List.mem_cons, List.not_mem_nil, or_false, forall_eq_or_imp, forall_eq] at dif
  obtain ⟨⟨D01, D02, D03⟩, ⟨D12, D13⟩, D23, -⟩ := dif
  refine ⟨zc_set h.blk rfl, own_setc h.ts h.blk hT.2, (show OwnI _ 0 d0 (if (0 : Int) = 1 then l else z.dk 0) from (by rw [if_neg (by decide)]; exact own_setc h.od0 h.blk hT.1)), (show OwnI _ 0 v (if (1 : Int) = 1 then l else z.dk 1) from (by rw [if_pos rfl]; exact own_setc O h.blk hT.1)), own_setc h.oh0 h.blk hT.1, own_setc h.oh1 h.blk hT.1, List.mem_append_right _ h.inb, ?_, ?_⟩
  · intro u hu x hx
    simp only [List.mem_cons, List.not_mem_nil, or_false] at hu
    rcases hu with hu | hu | hu | hu | hu <;> subst hu <;> first | exact List.mem_append_left _ (by rw [hx]; simp) | exact List.mem_append_right _ (h.inS _ (by simp) x hx)
  · simp only [List.pairwise_cons, List.mem_cons, List.not_mem_nil, or_false, forall_eq_or_imp, forall_eq, List.Pairwise.nil, and_true, false_imp_iff, implies_true]
    exact ⟨⟨ad0.symm, D02, D03⟩, ⟨ah0, ah1⟩, D23⟩
theorem ZG.set_h0 {T : TypeId} {ex : List Value} {w : World} {b : Nat} {S : List Nat} {z : Zs} {vt d0 d1 h0 h1 : Value} (h : ZG T ex w b S z vt d0 d1 h0 h1) (hT : tgs T) {v : Value} {l : List Int} (O : OwnI w 0 v l) (ad0 : Apart2 v d0) (ad1 : Apart2 v d1) (ah1 : Apart2 v h1) : ZG T ex (w.setCell ⟨b, 3, none⟩ v) b (v.ownBlock.toList ++ S) { z with hd := fun q => if q = 0 then l else z.hd q } vt d0 d1 v h1 := by
  have dif := h.dif
  simp only [List.pairwise_cons, List.mem_cons, List.not_mem_nil, or_false, forall_eq_or_imp, forall_eq] at dif
  obtain ⟨⟨D01, D02, D03⟩, ⟨D12, D13⟩, D23, -⟩ := dif
  refine ⟨zc_set h.blk rfl, own_setc h.ts h.blk hT.2, own_setc h.od0 h.blk hT.1, own_setc h.od1 h.blk hT.1, (show OwnI _ 0 v (if (0 : Int) = 0 then l else z.hd 0) from (by rw [if_pos rfl]; exact own_setc O h.blk hT.1)), (show OwnI _ 0 h1 (if (1 : Int) = 0 then l else z.hd 1) from (by rw [if_neg (by decide)]; exact own_setc h.oh1 h.blk hT.1)), List.mem_append_right _ h.inb, ?_, ?_⟩
  · intro u hu x hx
    simp only [List.mem_cons, List.not_mem_nil, or_false] at hu
    rcases hu with hu | hu | hu | hu | hu <;> subst hu <;> first | exact List.mem_append_left _ (by rw [hx]; simp) | exact List.mem_append_right _ (h.inS _ (by simp) x hx)
  · simp only [List.pairwise_cons, List.mem_cons, List.not_mem_nil, or_false, forall_eq_or_imp, forall_eq, List.Pairwise.nil, and_true, false_imp_iff, implies_true]
    exact ⟨⟨D01, ad0.symm, D03⟩, ⟨ad1.symm, D13⟩, ah1⟩
theorem ZG.set_h1 {T : TypeId} {ex : List Value} {w : World} {b : Nat} {S : List Nat} {z : Zs} {vt d0 d1 h0 h1 : Value} (h : ZG T ex w b S z vt d0 d1 h0 h1) (hT : tgs T) {v : Value} {l : List Int} (O : OwnI w 0 v l) (ad0 : Apart2 v d0) (ad1 : Apart2 v d1) (ah0 : Apart2 v h0) : ZG T ex (w.setCell ⟨b, 4, none⟩ v) b (v.ownBlock.toList ++ S) { z with hd := fun q => if q = 1 then l else z.hd q } vt d0 d1 h0 v := by
  have dif := h.dif
  simp only [List.pairwise_cons, List.mem_cons, List.not_mem_nil, or_false, forall_eq_or_imp, forall_eq] at dif
  obtain ⟨⟨D01, D02, D03⟩, ⟨D12, D13⟩, D23, -⟩ := dif
  refine ⟨zc_set h.blk rfl, own_setc h.ts h.blk hT.2, own_setc h.od0 h.blk hT.1, own_setc h.od1 h.blk hT.1, (show OwnI _ 0 h0 (if (0 : Int) = 1 then l else z.hd 0) from (by rw [if_neg (by decide)]; exact own_setc h.oh0 h.blk hT.1)), (show OwnI _ 0 v (if (1 : Int) = 1 then l else z.hd 1) from (by rw [if_pos rfl]; exact own_setc O h.blk hT.1)), List.mem_append_right _ h.inb, ?_, ?_⟩
  · intro u hu x hx
    simp only [List.mem_cons, List.not_mem_nil, or_false] at hu
    rcases hu with hu | hu | hu | hu | hu <;> subst hu <;> first | exact List.mem_append_left _ (by rw [hx]; simp) | exact List.mem_append_right _ (h.inS _ (by simp) x hx)
  · simp only [List.pairwise_cons, List.mem_cons, List.not_mem_nil, or_false, forall_eq_or_imp, forall_eq, List.Pairwise.nil, and_true, false_imp_iff, implies_true]
    exact ⟨⟨D01, D02, ad0.symm⟩, ⟨D12, ad1.symm⟩, ah0.symm⟩
/-- The next stamp is another one. -/
theorem ZG.set_nx {T : TypeId} {ex : List Value} {w : World} {b : Nat} {S : List Nat} {z : Zs} {vt d0 d1 h0 h1 : Value} (h : ZG T ex w b S z vt d0 d1 h0 h1) (hT : tgs T) (m : Int) : ZG T ex (w.setCell ⟨b, 5, none⟩ (.int .i64 m)) b S { z with nx := m } vt d0 d1 h0 h1 :=
  ⟨zc_set h.blk rfl, own_setc h.ts h.blk hT.2, own_setc h.od0 h.blk hT.1, own_setc h.od1 h.blk hT.1, own_setc h.oh0 h.blk hT.1, own_setc h.oh1 h.blk hT.1, h.inb, h.inS, h.dif⟩
/-- The list of things is another one. -/
theorem ZG.set_ts {T : TypeId} {ex : List Value} {w : World} {b : Nat} {S : List Nat} {z : Zs} {vt d0 d1 h0 h1 : Value} (h : ZG T ex w b S z vt d0 d1 h0 h1) (hT : tgs T) {v : Value} {ts : List Th} (O : OwnT w 0 v ts) : ZG T ex (w.setCell ⟨b, 0, none⟩ v) b (v.ownBlock.toList ++ S) { z with ts := ts } v d0 d1 h0 h1 := by
  refine ⟨zc_set h.blk rfl, own_setc O h.blk hT.2, own_setc h.od0 h.blk hT.1, own_setc h.od1 h.blk hT.1, own_setc h.oh0 h.blk hT.1, own_setc h.oh1 h.blk hT.1, List.mem_append_right _ h.inb, ?_, h.dif⟩
  intro u hu x hx
  simp only [List.mem_cons, List.not_mem_nil, or_false] at hu
  rcases hu with hu | hu | hu | hu | hu <;> subst hu <;> first | exact List.mem_append_left _ (by rw [hx]; simp) | exact List.mem_append_right _ (h.inS _ (by simp) x hx)
/-- A row of another type is as it was. -/
theorem own_tag {w w' : World} {base base' e e' size size' n n' g : Nat} {v v' : Value} {xs xs' : List Value} (h : w.ownsRow base e size v n xs) (k : w.ownsRow base' e' size' v' n' xs') (hk : v'.ownBlock = some g) (hne : e ≠ e') (G : w.grownBy w' (some g)) : w'.ownsRow base e size v n xs := by
  refine World.ownsRow.kept h G ?_
  rcases h.2 with ⟨e1, _⟩ | ⟨g1, cap, cur, e1, _, hh, _⟩
  · exact Or.inl (by rw [e1]; rfl)
  · refine Or.inr ?_
    rcases k.2 with ⟨e2, _⟩ | ⟨g2, cap2, cur2, e2, _, hh2, _⟩
    · rw [e2] at hk
      cases hk
    · rw [e2] at hk
      have q2 : g2 = g := by simpa [Value.ownBlock] using hk
      rw [e1]
      intro q
      have q1 : g1 = g := by simpa [Value.ownBlock] using q
      rw [q1] at hh
      rw [q2, hh] at hh2
      simp at hh2
      exact hne hh2.2
/-- A thing of theirs is another one. -/
theorem ZG.set_th {T : TypeId} {ex : List Value} {w : World} {b g n cap j : Nat} {S : List Nat} {z : Zs} {d0 d1 h0 h1 : Value} (h : ZG T ex w b S z (.slice (some ⟨g, 0, none⟩) n cap) d0 d1 h0 h1) (hT : tgs T) (hn : z.ts.length = n) (hj : j < n) (t : Th) : ZG T ex (w.setCells g (j * 11) (thc t)) b S { z with ts := z.ts.set j t } (.slice (some ⟨g, 0, none⟩) n cap) d0 d1 h0 h1 ∧ w.grownBy (w.setCells g (j * 11) (thc t)) (some g) := by
  obtain ⟨O, G⟩ := OwnT.set h.ts hn hj t
  have hbg : some b ≠ some g := by
    intro q
    have q2 : b = g := by simpa using q
    rcases h.ts.2 with ⟨e1, _⟩ | ⟨g1, cap1, cur, e1, _, hh, _⟩
    · cases e1
    · cases e1
      have hb := h.blk
      rw [q2, hh] at hb
      simp at hb
      exact hT.2 hb.2.symm
  exact ⟨⟨grown_keep G h.blk hbg, O, own_tag h.od0 h.ts rfl (by decide) G, own_tag h.od1 h.ts rfl (by decide) G, own_tag h.oh0 h.ts rfl (by decide) G, own_tag h.oh1 h.ts rfl (by decide) G, h.inb, h.inS, h.dif⟩, G⟩
end Go.Proofs.Ytogpgldbbegniaa
