/-
  Layers, plainly: two Raises, neither of which depends on the other, in either order.
  Layers, plainly: each effect of a layer once, as it comes.
  Layers, plainly: other stamps in the same order.
  Views, plainly: printed features, features behind each layer, with marks; the steps; what was about a thing.
  thing.Marked where it refuses; the document's Marked; what is left of a unit's health.
-/
import Derived.Test.YtmemeloehgemcaaGreatT34
import Derived.Test.YtmemeloehgemcaaGreatT22
import Derived.Test.YtmemeloehgemcaaGreatT25
import Derived.Test.YtmemeloehgemcaaGreatT14
namespace Go.Proofs.YtmemeloehgemcaaGreat
open Go.RowKit Go.Shelf

theorem Tab.one {n : Int} {cd : Int → Hd × List Pt} {ts : List Th} {fs : List Fe} {R : List Rw} {k : Int} {F : List Fe} {a : Se} (h : Tab n cd ts fs R) (ha : a ∈ effL R F k) : listF R [a.s] [] = some [a] := list_eff (L := [a]) (k := k) h.nod (fun e he => by
  rw [List.mem_singleton] at he; subst he; exact ha) (by simp)
end Go.Proofs.YtmemeloehgemcaaGreat
namespace Go.Proofs.YtmemeloehgemcaaGreat
open Go.RowKit Go.Shelf

theorem bit_low (k : Int) : bv (tBit k) &&& ~~~255#16 = 0#16 := by
  rcases eight_or k with h | h
  · rcases h with rfl | rfl | rfl | rfl | rfl | rfl | rfl | rfl <;> decide
  · rw [tBit_no h]; decide
theorem with_check {s : Int} (k : Int) (h : tCheck s = true) : tCheck (tWith s k) = true := by
  rw [check_bv] at h ⊢
  unfold tWith
  rw [bits_or, bv_nat]
  have h1 : bv s &&& ~~~255#16 = 0#16 := by simpa using h
  have h2 := bit_low k
  have e : (bv s ||| bv (tBit k)) &&& ~~~255#16 = 0#16 := by
    apply BitVec.eq_of_getLsbD_eq
    intro i hi
    have a : (bv s &&& ~~~255#16).getLsbD i = false := by rw [h1, BitVec.getLsbD_zero]
    have b : (bv (tBit k) &&& ~~~255#16).getLsbD i = false := by rw [h2, BitVec.getLsbD_zero]
    rw [BitVec.getLsbD_and] at a b
    rw [BitVec.getLsbD_and, BitVec.getLsbD_or, BitVec.getLsbD_zero, Bool.and_or_distrib_right, a, b]
    rfl
  rw [e]; rfl
theorem without_check {s : Int} (k : Int) (h : tCheck s = true) : tCheck (tWithout s k) = true := by
  rw [check_bv] at h ⊢
  unfold tWithout
  rw [bits_andNot, bv_nat]
  have h1 : bv s &&& ~~~255#16 = 0#16 := by simpa using h
  have e : (bv s &&& ~~~bv (tBit k)) &&& ~~~255#16 = 0#16 := by
    apply BitVec.eq_of_getLsbD_eq
    intro i hi
    have a : (bv s &&& ~~~255#16).getLsbD i = false := by rw [h1, BitVec.getLsbD_zero]
    rw [BitVec.getLsbD_and] at a
    rw [BitVec.getLsbD_and, BitVec.getLsbD_and, BitVec.getLsbD_zero, Bool.and_right_comm, a]
    rfl
  rw [e]; rfl
theorem done_good {f : Fe} {p : Pt} {ho : Int} (h1 : isPl f.ho = true) (h2 : tCheck f.tr = true) (h3 : isPl ho = true) : isPl (doneF f p ho).ho = true ∧ tCheck (doneF f p ho).tr = true := by
  unfold doneF
  split
  · exact ⟨h3, h2⟩
  · split
    · exact ⟨h1, h2⟩
    · split
      · exact ⟨h1, with_check _ h2⟩
      · split
        · exact ⟨h1, without_check _ h2⟩
        · split
          · exact ⟨h1, h2⟩
          · split
            · exact ⟨h1, h2⟩
            · exact ⟨h1, h2⟩
theorem apply_good {R : List Rw} {F : List Fe} {e : Se} (he : e.ro < F.length) (hg : Goodf F) : Goodf (applyL R F e) := fun f hf => by
  unfold applyL at hf
  obtain ⟨i, hi, rfl⟩ := List.mem_map.1 hf
  rw [List.mem_range] at hi
  have q := hg (F.getD i Fe.none) (by rw [getD_in hi]; exact List.getElem_mem _)
  have q' := hg (F.getD e.ro Fe.none) (by rw [getD_in he]; exact List.getElem_mem _)
  unfold applyAt
  split
  · exact done_good q.1 q.2 q'.1
  · exact q
theorem Tab.self {n : Int} {cd : Int → Hd × List Pt} {ts : List Th} {fs : List Fe} {R : List Rw} (h : Tab n cd ts fs R) : amgL fs R (pickF R fs) = fs := by
  refine List.ext_getElem? fun j => ?_
  have a := amgU_at (fs := fs) (F := pickF R fs) h.nod h.nu R.length (Nat.le_refl _)
  by_cases q : ∃ i, i < R.length ∧ (R.getD i Rw.none).nu = (j : Int) + 1
  · obtain ⟨i, hi, e⟩ := q
    have e1 := a.1 i hi
    have hb := h.nu _ (List.getElem_mem hi)
    rw [← getD_in (d := Rw.none) hi, e] at hb
    have hj : j < fs.length := by omega
    rw [e, show ((j : Int) + 1 - 1).toNat = j by omega] at e1
    refine e1.trans ?_
    rw [getD_in (show i < (pickF R fs).length by rw [pickF_len]; exact hi)]
    unfold pickF
    rw [List.getElem_map, ← getD_in (d := Rw.none) hi, e, show ((j : Int) + 1 - 1).toNat = j by omega, getD_in hj, List.getElem?_eq_getElem hj]
  · exact a.2 j fun i hi e => q ⟨i, hi, e⟩
theorem up_inj {L : List Se} (h : L.Pairwise befE) {a b : Se} (ha : a ∈ L) (hb : b ∈ L) (h1 : a.ro = b.ro) (h2 : a.s.pl = b.s.pl) : a = b := by
  obtain ⟨i, hi, rfl⟩ := List.getElem_of_mem ha
  obtain ⟨j, hj, rfl⟩ := List.getElem_of_mem hb
  have q := List.pairwise_iff_getElem.1 h
  rcases Nat.lt_trichotomy i j with z | z | z
  · have := q i j hi hj z
    unfold befE at this
    omega
  · subst z; rfl
  · have := q j i hj hi z
    unfold befE at this
    omega
theorem sort_one {L L' : List Se} (hp : L'.Perm L) (h' : L'.Pairwise inS) (h : L.Pairwise befE) : L' = L :=
  hp.eq_of_pairwise (fun a b ha hb h1 h2 => up_inj h (hp.mem_iff.1 ha) hb (by unfold inS at h1 h2; omega) (by unfold inS at h1 h2; omega)) h' (h.imp (fun {a b} q => by unfold befE at q; unfold inS; omega))
theorem idx_is {L : List Se} {p : Nat} (hp : p < L.length) (h : ∀ i, i < p → (L.getD i Se.none).s ≠ (L.getD p Se.none).s) : Lib.idxBy sames (L.map Se.s) (L.getD p Se.none).s = (p : Int) := by
  have g : ∀ j, j < L.length → (L.map Se.s)[j]? = some (L.getD j Se.none).s := fun j hj => by rw [List.getElem?_map, List.getElem?_eq_getElem hj, Option.map_some, getD_in hj]
  suffices H : ∀ (l : List Sd) (x : Sd) (k i : Nat), l[k]? = some x → (∀ j y, j < k → l[j]? = some y → y ≠ x) → Lib.idxByFrom sames x l i = ((i + k : Nat) : Int) by
    have := H (L.map Se.s) (L.getD p Se.none).s p 0 (g p hp) (fun j y hj hy => by
      rw [g j (by omega)] at hy
      cases hy
      exact h j hj)
    unfold Lib.idxBy
    rw [this, Nat.zero_add]
  intro l
  induction l with
  | nil => intro x k i h1; simp at h1
  | cons z l ih =>
    intro x k i h1 h2
    cases k with
    | zero =>
      simp at h1
      subst h1
      unfold Lib.idxByFrom
      rw [if_pos (sames_iff.2 rfl)]
      simp
    | succ k =>
      unfold Lib.idxByFrom
      rw [if_neg (fun q => h2 0 z (by omega) rfl (sames_iff.1 q).symm), ih x k (i + 1) (by simpa using h1) (fun j y hj hy => h2 (j + 1) y (by omega) (by simpa using hy))]
      simp
      omega
theorem up_ne {L : List Se} (h : L.Pairwise befE) : L.Pairwise fun a b => ¬ (a.ro = b.ro ∧ a.s.pl = b.s.pl) := h.imp (fun {a b} q => by unfold befE at q; omega)
structure Onc (m : Int) (cd : Int → Hd × List Pt) (ts : List Th) (fs : List Fe) (R : List Rw) (k : Int) (X : List Fe) (L acc : List Se) : Prop where
  base : Tab m cd ts fs R
  tab : Tab m cd ts X R
  lies : amgL fs R (pickF R X) = X
  mem : ∀ e ∈ L, e ∈ effL R (pickF R fs) k
  up : L.Pairwise befE
  all : allR R fs k = allL R L.length (pickF R X) L acc
theorem Onc.start {m : Int} {cd : Int → Hd × List Pt} {ts : List Th} {fs : List Fe} {R : List Rw} {k : Int} (h : Tab m cd ts fs R) : Onc m cd ts fs R k fs (effL R (pickF R fs) k) [] := ⟨h, h, h.self, fun _ h => h, eff_up _ _ _, rfl⟩
theorem Onc.list {m : Int} {cd : Int → Hd × List Pt} {ts : List Th} {fs : List Fe} {R : List Rw} {k : Int} {X : List Fe} {L acc : List Se} (h : Onc m cd ts fs R k X L acc) : listF R (L.map Se.s) [] = some L := list_eff h.base.nod h.mem (up_ne h.up)
theorem Onc.len {m : Int} {cd : Int → Hd × List Pt} {ts : List Th} {fs : List Fe} {R : List Rw} {k : Int} {X : List Fe} {L acc : List Se} (h : Onc m cd ts fs R k X L acc) : X.length = fs.length := by rw [← h.tab.len, h.base.len]
theorem Onc.lt {m : Int} {cd : Int → Hd × List Pt} {ts : List Th} {fs : List Fe} {R : List Rw} {k : Int} {X : List Fe} {L acc : List Se} (_ : Onc m cd ts fs R k X L acc) (h0 : 0 < L.length) : nextN R (pickF R X) L < L.length := nextN_lt (List.length_pos_iff.1 h0)
theorem Onc.step {m : Int} {cd : Int → Hd × List Pt} {ts : List Th} {fs : List Fe} {R : List Rw} {k : Int} {X : List Fe} {L acc : List Se} (h : Onc m cd ts fs R k X L acc) (h0 : 0 < L.length) : Onc m cd ts fs R k (amgL X R (applyL R (pickF R X) (L.getD (nextN R (pickF R X) L) Se.none))) (L.eraseIdx (nextN R (pickF R X) L)) (acc ++ [L.getD (nextN R (pickF R X) L) Se.none]) := by
  obtain ⟨p, hp⟩ : ∃ p, p = nextN R (pickF R X) L := ⟨_, rfl⟩
  have hlt := h.lt h0
  rw [← hp] at hlt ⊢
  have hx : L.getD p Se.none ∈ L := by rw [getD_in hlt]; exact List.getElem_mem _
  obtain ⟨r1, _⟩ := eff_mem (h.mem _ hx)
  have hl : (applyL R (pickF R X) (L.getD p Se.none)).length = R.length := by rw [applyL_len, pickF_len]
  have hg : Goodf (applyL R (pickF R X) (L.getD p Se.none)) := apply_good (by rw [pickF_len]; exact r1) h.tab.good
  refine ⟨h.base, h.tab.back hl hg, ?_, fun e he => h.mem e (List.mem_of_mem_eraseIdx he), h.up.sublist (List.eraseIdx_sublist _ _), ?_⟩
  · rw [h.tab.pick hl]
    exact (h.base.lay2 (pickF R X) _).symm.trans (by rw [h.lies])
  · rw [h.tab.pick hl, h.all]
    obtain ⟨n, hn⟩ : ∃ n, L.length = n + 1 := ⟨L.length - 1, by omega⟩
    rw [hn, allL_step (List.length_pos_iff.1 h0), List.length_eraseIdx_of_lt hlt, hn, ← hp]
    rfl
theorem allL_pre (R : List Rw) : ∀ (n : Nat) (F : List Fe) (L A : List Se), n = L.length → ∃ B, (allL R n F L A).2 = A ++ B ∧ B.length = L.length
  | 0, F, L, A, h => ⟨[], by simp [allL], by simp [← h]⟩
  | n + 1, F, L, A, h => by
    have h0 : 0 < L.length := by omega
    rw [allL_step (List.length_pos_iff.1 h0)]
    have hlt := nextN_lt (R := R) (F := F) (List.length_pos_iff.1 h0)
    obtain ⟨B, e, hB⟩ := allL_pre R n (applyL R F (L.getD (nextN R F L) Se.none)) (L.eraseIdx (nextN R F L)) (A ++ [L.getD (nextN R F L) Se.none]) (by rw [List.length_eraseIdx_of_lt hlt]; omega)
    exact ⟨L.getD (nextN R F L) Se.none :: B, by rw [e, List.append_assoc, List.singleton_append], by rw [List.length_cons, hB, List.length_eraseIdx_of_lt hlt]; omega⟩
theorem Onc.now {m : Int} {cd : Int → Hd × List Pt} {ts : List Th} {fs : List Fe} {R : List Rw} {k : Int} {X : List Fe} {L acc : List Se} (h : Onc m cd ts fs R k X L acc) (h0 : 0 < L.length) : (allR R fs k).2.getD acc.length Se.none = L.getD (nextN R (pickF R X) L) Se.none := by
  rw [(h.step h0).all]
  obtain ⟨B, e, _⟩ := allL_pre R _ (pickF R (amgL X R (applyL R (pickF R X) (L.getD (nextN R (pickF R X) L) Se.none)))) (L.eraseIdx (nextN R (pickF R X) L)) (acc ++ [L.getD (nextN R (pickF R X) L) Se.none]) rfl
  rw [e, List.append_assoc, List.getD_eq_getElem?_getD, List.getElem?_append_right (Nat.le_refl _), Nat.sub_self]
  rfl
theorem allR_len (R : List Rw) (fs : List Fe) (k : Int) : (allR R fs k).2.length = (effL R (pickF R fs) k).length := by
  obtain ⟨B, e, h⟩ := allL_pre R _ (pickF R fs) (effL R (pickF R fs) k) [] rfl
  unfold allR
  rw [e, List.nil_append, h]
theorem Onc.end {m : Int} {cd : Int → Hd × List Pt} {ts : List Th} {fs : List Fe} {R : List Rw} {k : Int} {X : List Fe} {acc : List Se} (h : Onc m cd ts fs R k X [] acc) : amgL fs R (allR R fs k).1 = X := by
  rw [h.all]
  exact h.lies
theorem Onc.next {m : Int} {cd : Int → Hd × List Pt} {ts : List Th} {fs : List Fe} {R : List Rw} {k : Int} {X : List Fe} {L acc : List Se} {w w' : World} {e : Ending} (h : Onc m cd ts fs R k X L acc) (h0 : 0 < L.length) (q : NextPost w 0 m cd ts X (L.map Se.s) e w') : e = .returned (.tuple #[.int .i64 ((nextN R (pickF R X) L : Nat) : Int), .int .i64 0]) ∧ w.grownBy w' none := by
  obtain ⟨p, e1, g, _, h1⟩ := q
  have h2 := h1 R L rfl h.tab.tab h.list
  rw [if_neg (List.length_pos_iff.1 h0)] at h2
  obtain ⟨L', hp, hs, e2⟩ := h2
  have e3 := sort_one hp hs h.up
  subst e3
  have hlt := h.lt h0
  rw [idx_is hlt (fun i hi e => by
    have z := List.pairwise_iff_getElem.1 h.up i _ (by omega) hlt hi
    rw [getD_in (show i < L'.length by omega), getD_in hlt] at e
    have hx := h.mem _ (List.getElem_mem (show i < L'.length by omega))
    have hy := h.mem _ (List.getElem_mem hlt)
    have f1 := find_eff h.base.nod hx
    have f2 := find_eff h.base.nod hy
    rw [e, f2] at f1
    have f3 := Option.some.inj f1
    rw [f3] at z
    unfold befE at z
    omega)] at e2
  rw [lkE_ok h.tab.tab h.list, e2] at e1
  exact ⟨e1, g⟩
theorem Onc.verb {m : Int} {cd : Int → Hd × List Pt} {ts : List Th} {fs : List Fe} {R : List Rw} {k : Int} {X : List Fe} {L acc : List Se} (h : Onc m cd ts fs R k X L acc) {x : Se} (hx : x ∈ L) : lay x.s.wh.vb = k := by
  obtain ⟨_, _, _, _, _, _, _, q⟩ := eff_mem (h.mem x hx)
  exact q
end Go.Proofs.YtmemeloehgemcaaGreat
namespace Go.Proofs.YtmemeloehgemcaaGreat
open Go.RowKit Go.Shelf

theorem RecT.set1 {α : Type} (R : RecT α) {t t' : α} {d : Nat} {v : Value} (hd : d < R.k) (he : (R.enc t).set d v = R.enc t') : ∀ (l : List α) (i : Nat), l[i]? = some t → (R.cs l).set (i * R.k + d) v = R.cs (l.set i t')
  | [], i, h => by simp at h
  | y :: l, 0, h => by
    simp at h
    subst h
    show (R.enc y ++ R.cs l).set (0 * R.k + d) v = R.enc t' ++ R.cs l
    rw [Nat.zero_mul, Nat.zero_add, List.set_append_left _ _ (by rw [R.hk]; exact hd), he]
  | y :: l, i + 1, h => by
    show (R.enc y ++ R.cs l).set ((i + 1) * R.k + d) v = R.enc y ++ R.cs (l.set i t')
    rw [List.set_append_right _ _ (by rw [R.hk, Nat.succ_mul]; omega), R.hk, show (i + 1) * R.k + d - R.k = i * R.k + d from by rw [Nat.succ_mul]; omega, R.set1 hd he l i (by simpa using h)]
theorem th_store {w : World} {base g n c : Nat} {l : List Th} {i d : Nat} {t t' : Th} {v : Value} (O : thR.Own 60 w base (.slice (some ⟨g, 0, none⟩) n c) l) (hn : l.length = n) (ht : l[i]? = some t) (hd : d < 11) (he : (thc t).set d v = thc t') : thR.Own 60 (w.setCell ⟨g, i * 11 + d, none⟩ v) base (.slice (some ⟨g, 0, none⟩) n c) (l.set i t') ∧ w.grownBy (w.setCell ⟨g, i * 11 + d, none⟩ v) (some g) := by
  unfold RecT.Own at O ⊢
  rw [hn] at O
  obtain ⟨h1, h2⟩ := World.ownsRow.stored O (i * 11 + d) v
  have e := thR.set1 (t := t) (t' := t') (d := d) (v := v) hd he l i ht
  rw [List.length_set, hn]
  refine ⟨?_, h2⟩
  rw [← e]
  exact h1
end Go.Proofs.YtmemeloehgemcaaGreat
namespace Go.Proofs.YtmemeloehgemcaaGreat
open Go.RowKit Go.Shelf

def prtT (pf : Th → Fe) (t : Th) : Fe := if t.place = 4 then pf t else Fe.none
def prtF (pf : Th → Fe) (ts : List Th) : List Fe := ts.map (prtT pf)
theorem prtF_len (pf : Th → Fe) (ts : List Th) : (prtF pf ts).length = ts.length := List.length_map _
def mkE (me : Th → Int) : List Th → Int
  | [] => 0
  | t :: l => if t.place = 4 ∧ me t ≠ 0 then me t else mkE me l
theorem mkE_no {me : Th → Int} {t : Th} {l : List Th} (h : t.place = 4) (h2 : me t ≠ 0) : mkE me (t :: l) = me t := by
  rw [mkE, if_pos ⟨h, h2⟩]
theorem mkE_yes {me : Th → Int} {t : Th} {l : List Th} (h : ¬ (t.place = 4 ∧ me t ≠ 0)) : mkE me (t :: l) = mkE me l := by
  rw [mkE, if_neg h]
def nxtF (R : List Rw) (fs : List Fe) (k : Int) : List Fe := amgL fs R (allR R fs k).1
def clF (R : List Rw) (fs : List Fe) : Nat → List Fe
  | 0 => fs
  | k + 1 => nxtF R (clF R fs k) ((k : Int) + 1)
def apK (R : List Rw) (fs : List Fe) (k : Nat) : List Se := (allR R (clF R fs k) ((k : Int) + 1)).2
def stU (R : List Rw) (fs : List Fe) : Nat → List Se
  | 0 => []
  | k + 1 => stU R fs k ++ apK R fs k
def mkdT (mf : Fe → Th → Fe) (t : Th) (f : Fe) : Fe := if t.place = 4 then mf f t else Fe.none
def mkdL (mf : Fe → Th → Fe) (ts : List Th) (fs : List Fe) : List Fe := List.zipWith (mkdT mf) ts fs
theorem nxtF_len (R : List Rw) (fs : List Fe) (k : Int) : (nxtF R fs k).length = fs.length := amgL_len _ _ _
theorem clF_len (R : List Rw) (fs : List Fe) : ∀ k, (clF R fs k).length = fs.length
  | 0 => rfl
  | k + 1 => (nxtF_len _ _ _).trans (clF_len R fs k)
theorem Onc.run {m : Int} {cd : Int → Hd × List Pt} {ts : List Th} {fs : List Fe} {R : List Rw} {k : Int} : ∀ (n : Nat) (X : List Fe) (L acc : List Se), L.length = n → Onc m cd ts fs R k X L acc → ∃ Y B, Onc m cd ts fs R k Y [] B
  | 0, X, L, acc, h, q => by
    have : L = [] := List.length_eq_zero_iff.1 h
    subst this
    exact ⟨X, acc, q⟩
  | n + 1, X, L, acc, h, q => Onc.run n _ _ _ (by rw [List.length_eraseIdx_of_lt (q.lt (by omega))]; omega) (q.step (by omega))
theorem Tab.next {m : Int} {cd : Int → Hd × List Pt} {ts : List Th} {fs : List Fe} {R : List Rw} (h : Tab m cd ts fs R) (k : Int) : Tab m cd ts (nxtF R fs k) R := by
  obtain ⟨Y, B, q⟩ := Onc.run (k := k) _ _ _ _ rfl (Onc.start h)
  unfold nxtF
  rw [q.end]
  exact q.tab
theorem Tab.cl {m : Int} {cd : Int → Hd × List Pt} {ts : List Th} {fs : List Fe} {R : List Rw} (h : Tab m cd ts fs R) : ∀ k, Tab m cd ts (clF R fs k) R
  | 0 => h
  | k + 1 => (h.cl k).next _
theorem bgE_any {r n : Int} {cd : Int → Hd × List Pt} {ts : List Th} {fs : List Fe} {k : Int} (h : bgE r n cd ts fs k = 0) : r = 0 ∧ ∃ R, Tab n cd ts fs R := by
  obtain ⟨h1, -, R, h2⟩ := bgE_of h
  exact ⟨h1, R, Tab.of h2⟩
def vkE (r n : Int) (cd : Int → Hd × List Pt) (ts : List Th) (fs : List Fe) (me : Th → Int) : Int := if bgE r n cd ts fs 5 = 0 then mkE me ts else bgE r n cd ts fs 5
theorem vkE_no {r n : Int} {cd : Int → Hd × List Pt} {ts : List Th} {fs : List Fe} {me : Th → Int} (h : ¬ bgE r n cd ts fs 5 = 0) : vkE r n cd ts fs me = bgE r n cd ts fs 5 := if_neg h
theorem vkE_yes {r n : Int} {cd : Int → Hd × List Pt} {ts : List Th} {fs : List Fe} {me : Th → Int} (h : bgE r n cd ts fs 5 = 0) : vkE r n cd ts fs me = mkE me ts := if_pos h
theorem vkE_of {r n : Int} {cd : Int → Hd × List Pt} {ts : List Th} {fs : List Fe} {me : Th → Int} (h : vkE r n cd ts fs me = 0) : r = 0 ∧ (∃ R, Tab n cd ts fs R) ∧ mkE me ts = 0 := by
  by_cases q : bgE r n cd ts fs 5 = 0
  · obtain ⟨a, b⟩ := bgE_any q
    exact ⟨a, b, by rw [← vkE_yes q]; exact h⟩
  · rw [vkE_no q] at h
    exact absurd h q
def vqE (e : Int) (b : Bool) (x : Int) : Int := if e = 0 then (if b then 0 else x) else e
def bhL (R : List Rw) (mf : Fe → Th → Fe) (ts : List Th) (fs : List Fe) (k : Int) : List Fe := if k = 6 then mkdL mf ts (clF R fs 5) else clF R fs k.toNat
def vBh (r n : Int) (cd : Int → Hd × List Pt) (ts : List Th) (pf : Th → Fe) (mf : Fe → Th → Fe) (me : Th → Int) (k : Int) : List Fe := if vqE (vkE r n cd ts (prtF pf (ts.take 2048)) me) (decide (0 ≤ k ∧ k ≤ 6)) 2 = 0 then (match tabR n cd ts (prtF pf ts) with | some R => bhL R mf ts (prtF pf ts) k | none => []) else []
def vSt (r n : Int) (cd : Int → Hd × List Pt) (ts : List Th) (pf : Th → Fe) (me : Th → Int) : List Se := if vkE r n cd ts (prtF pf (ts.take 2048)) me = 0 then (match tabR n cd ts (prtF pf ts) with | some R => stU R (prtF pf ts) 5 | none => []) else []
theorem vqE_no {e x : Int} {b : Bool} (h : e ≠ 0) : vqE e b x = e := if_neg h
theorem vqE_ok {x : Int} : vqE 0 true x = 0 := rfl
end Go.Proofs.YtmemeloehgemcaaGreat
namespace Go.Proofs.YtmemeloehgemcaaGreat
open Go.RowKit

set_option maxRecDepth 100000 in
set_option maxHeartbeats 8000000 in
theorem marked_no (ok : Nat → Prop) (b : Nat) (es : List Ent) (p : Pl) (f : Fe) (c0 c1 c2 c3 : Int) (w : World) (B : Book ok w b es p) (hc : okcs c0 c1 c2 c3 = false) : Calls Tryz.prog 39 #[.pointer (some ⟨b, 0, none⟩), fev f, .agg #[.int .i64 c0, .int .i64 c1, .int .i64 c2, .int .i64 c3]] w fun e w' => e = .returned (.tuple #[fev Fe.none, .int .i64 2]) ∧ w.grownBy w' none := by
  obtain ⟨W, hW⟩ : ∃ W, W = ((w.alloc (.cells (fcs f) 64)).alloc (.cells #[.int .i64 c0, .int .i64 c1, .int .i64 c2, .int .i64 c3] 58)).alloc (.cells #[.int .i64 0, .int .u8 0, .int .u16 0, .int .i64 0, .int .i64 0] 64) := ⟨_, rfl⟩
  have HS0 : Hid (MkS w W w.heap.size (w.heap.size + 1 + 1) f.ho f.su f.tr f.po f.he) := by
    rw [hW]
    refine ⟨grown_push (grown_push (World.grownBy_alloc _ _ none) _) _, ?_, ?_, Nat.le_refl _, by omega, by omega⟩
    · exact grown_keep (World.grownBy_alloc _ _ none) (grown_keep (World.grownBy_alloc _ _ none) (alloc_at w _ _) (by simp)) (by simp)
    · exact alloc3_at _ _ _ _ _
  have HA4 : Hid (W.heap[w.heap.size + 1]? = some (.cells #[.int .i64 c0, .int .i64 c1, .int .i64 c2, .int .i64 c3] 58 (0, 0))) := by
    rw [hW]
    exact grown_keep (World.grownBy_alloc _ _ none) (alloc2_at _ _ _ _) (by simp)
  have HIB := tisBook_yes ok b es p W (B.keep HS0.out.g)
  have HML := fun X => tmayLie_any c0 c1 c2 c3 X
  rw [hc] at HML
  unfold fcs at hW
  unfold fev
  clear B hc
  go_enter Tryz.func39, Tryz.ntmps39
  go_upto_region 1 with fail
  rw [← hW]
  clear hW
  obtain ⟨F, hF⟩ : ∃ F, F = w.heap.size := ⟨_, rfl⟩
  rw [← hF] at HS0 HA4 ⊢
  obtain ⟨V, hV⟩ : ∃ V, V = F + 1 := ⟨_, rfl⟩
  simp only [← hV] at HS0 HA4 ⊢
  obtain ⟨R, hR⟩ : ∃ R, R = V + 1 := ⟨_, rfl⟩
  simp only [← hR] at HS0 ⊢
  clear hF hR hV
  go_wp2_with fail
  refine HIB.mono ?_
  rintro e w1 ⟨rfl, g1⟩
  have HS1 : Hid (MkS w w1 F R f.ho f.su f.tr f.po f.he) := HS0.out.grow g1
  have HA1 : Hid (w1.heap[V]? = some (.cells #[.int .i64 c0, .int .i64 c1, .int .i64 c2, .int .i64 c3] 58 (0, 0))) := grown_keep g1 HA4.out (by simp)
  clear HS0 HA4 g1 HIB
  have x0 := block_cell HA1.out 0
  have x1 := block_cell HA1.out 1
  have x2 := block_cell HA1.out 2
  have x3 := block_cell HA1.out 3
  go_wp2_with fail
  refine (HML w1).mono ?_
  rintro e w2 ⟨rfl, g2⟩
  have HS2 : Hid (MkS w w2 F R f.ho f.su f.tr f.po f.he) := HS1.out.grow g2
  clear HS1 HA1 g2 HML x0 x1 x2 x3
  have r0 := block_cell HS2.out.r 0
  have r1 := block_cell HS2.out.r 1
  have r2 := block_cell HS2.out.r 2
  have r3 := block_cell HS2.out.r 3
  have r4 := block_cell HS2.out.r 4
  have rf := fun i => block_free HS2.out.r i
  go_wp2
  refine bodyPost_ret (v := .tuple #[fev Fe.none, .int .i64 2]) (by simp [results, Tryz.results39, go_sem, fev, Fe.none, r0, r1, r2, r3, r4]) rfl ⟨rfl, ?_⟩
  exact grown_own HS2.out.g (((((grown_set _ _ _ _).trans (grown_set _ _ _ _)).trans (grown_set _ _ _ _)).trans (grown_set _ _ _ _)).trans (grown_set _ _ _ _)) (fun y e => by cases e; exact HS2.out.hR)
set_option maxRecDepth 100000 in
set_option maxHeartbeats 8000000 in
theorem marked_nil (v : Value) (f : Fe) (c0 c1 c2 c3 : Int) (w : World) (B : NoBk w v) : Calls Tryz.prog 39 #[v, fev f, .agg #[.int .i64 c0, .int .i64 c1, .int .i64 c2, .int .i64 c3]] w fun e w' => e = .returned (.tuple #[fev Fe.none, .int .i64 1]) ∧ w.grownBy w' none := by
  obtain ⟨W, hW⟩ : ∃ W, W = ((w.alloc (.cells (fcs f) 64)).alloc (.cells #[.int .i64 c0, .int .i64 c1, .int .i64 c2, .int .i64 c3] 58)).alloc (.cells #[.int .i64 0, .int .u8 0, .int .u16 0, .int .i64 0, .int .i64 0] 64) := ⟨_, rfl⟩
  have HS0 : Hid (MkS w W w.heap.size (w.heap.size + 1 + 1) f.ho f.su f.tr f.po f.he) := by
    rw [hW]
    refine ⟨grown_push (grown_push (World.grownBy_alloc _ _ none) _) _, ?_, ?_, Nat.le_refl _, by omega, by omega⟩
    · exact grown_keep (World.grownBy_alloc _ _ none) (grown_keep (World.grownBy_alloc _ _ none) (alloc_at w _ _) (by simp)) (by simp)
    · exact alloc3_at _ _ _ _ _
  have HA4 : Hid (W.heap[w.heap.size + 1]? = some (.cells #[.int .i64 c0, .int .i64 c1, .int .i64 c2, .int .i64 c3] 58 (0, 0))) := by
    rw [hW]
    exact grown_keep (World.grownBy_alloc _ _ none) (alloc2_at _ _ _ _) (by simp)
  have HIB := tisBook_no v W (B.keep HS0.out.g)
  unfold fcs at hW
  unfold fev
  clear B
  go_enter Tryz.func39, Tryz.ntmps39
  go_upto_region 1 with fail
  rw [← hW]
  clear hW
  obtain ⟨F, hF⟩ : ∃ F, F = w.heap.size := ⟨_, rfl⟩
  rw [← hF] at HS0 HA4 ⊢
  obtain ⟨V, hV⟩ : ∃ V, V = F + 1 := ⟨_, rfl⟩
  simp only [← hV] at HS0 HA4 ⊢
  obtain ⟨R, hR⟩ : ∃ R, R = V + 1 := ⟨_, rfl⟩
  simp only [← hR] at HS0 ⊢
  clear hF hR hV
  clear HA4
  go_wp2_with fail
  refine HIB.mono ?_
  rintro e w1 ⟨rfl, g1⟩
  have HS2 : Hid (MkS w w1 F R f.ho f.su f.tr f.po f.he) := HS0.out.grow g1
  clear HS0 g1 HIB
  have r0 := block_cell HS2.out.r 0
  have r1 := block_cell HS2.out.r 1
  have r2 := block_cell HS2.out.r 2
  have r3 := block_cell HS2.out.r 3
  have r4 := block_cell HS2.out.r 4
  have rf := fun i => block_free HS2.out.r i
  go_wp2
  refine bodyPost_ret (v := .tuple #[fev Fe.none, .int .i64 1]) (by simp [results, Tryz.results39, go_sem, fev, Fe.none, r0, r1, r2, r3, r4]) rfl ⟨rfl, ?_⟩
  exact grown_own HS2.out.g (((((grown_set _ _ _ _).trans (grown_set _ _ _ _)).trans (grown_set _ _ _ _)).trans (grown_set _ _ _ _)).trans (grown_set _ _ _ _)) (fun y e => by cases e; exact HS2.out.hR)
end Go.Proofs.YtmemeloehgemcaaGreat
