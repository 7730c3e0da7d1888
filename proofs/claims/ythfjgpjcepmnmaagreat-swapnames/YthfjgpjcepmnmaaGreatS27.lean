/-
  Swaps, plainly: which stand, whom one is about, what it swaps, what an event is behind it, and behind all.
  Layers, plainly: two Raises, neither of which depends on the other, in either order.
  Layers, plainly: each effect of a layer once, as it comes.
-/
import Derived.Test.YthfjgpjcepmnmaaGreatS12
import Derived.Test.YthfjgpjcepmnmaaGreatLpA
import Derived.Test.YthfjgpjcepmnmaaGreatS16
namespace Go.Proofs.YthfjgpjcepmnmaaGreat
open Go.RowKit

structure Hp where
  vb : Int
  on : Int
  ct : Int
  ho : Int
  vn : Bool
  dr : Bool
  deriving DecidableEq
def Hp.none : Hp := ⟨0, 0, 0, 0, false, false⟩
def swRow (nu : Int) (ps : List Pt) : List Sd := (plF ps 0 6).map fun i => ⟨nu, i, ps.getD i.toNat Pt.none⟩
def swMute (fs : List Fe) (r : Rw) : Bool := tHas (fs.getD (r.nu - 1).toNat Fe.none).tr 6
def swOne (fs : List Fe) (r : Rw) : List Sd := if swMute fs r then [] else swRow r.nu r.ps
def swL (R : List Rw) (fs : List Fe) : List Sd := R.flatMap (swOne fs)
def hoN (fs : List Fe) (n : Int) : Int := (fs.getD (n - 1).toNat Fe.none).ho
def thN (ts : List Th) (n : Int) : Th := ts.getD (n - 1).toNat Th.none
def uniB (cd : Int → Hd × List Pt) (t : Th) : Bool := decide (t.place = 4) && decide ((cd t.card).1.kd = 1)
def isPlN (n : Int) : Bool := decide (n = -1) || decide (n = -2)
def abtN (cd : Int → Hd × List Pt) (ts : List Th) (fs : List Fe) (s : Sd) (n : Int) : Bool :=
  if s.wh.wm = 1 then decide (n = -1 - hoN fs s.th)
  else if s.wh.wm = 2 then decide (n = -1 - (1 - hoN fs s.th))
  else if isPlN n then false
  else meantU s.wh (decide (n = s.th)) (uniB cd (thN ts n)) (fs.getD (n - 1).toNat Fe.none) (hoN fs s.th)
def fitN (ts : List Th) (wh : Pt) (h : Hp) : Bool :=
  if ¬ wh.vb = 19 then decide (h.vb = 1)
  else if wh.wm = 1 ∨ wh.wm = 2 then decide (h.vb = 3)
  else decide (h.vb = 6) && decide (wh.ct ≤ (thN ts h.on).m2)
def swpB (cd : Int → Hd × List Pt) (ts : List Th) (fs : List Fe) (s : Sd) (h : Hp) : Bool := abtN cd ts fs s h.on && fitN ts s.wh h
def noHarm (h : Hp) : Bool := decide (h.vb = 1) && decide (h.ct < 1)
def amgB (used : List Sd) (s : Sd) : Bool := used.any fun o => decide (o.th = s.th) && decide (o.pl = s.pl)
def nxtB (cd : Int → Hd × List Pt) (ts : List Th) (fs : List Fe) (h : Hp) (used : List Sd) (s : Sd) : Bool := !amgB used s && swpB cd ts fs s h
def nxtN (cd : Int → Hd × List Pt) (ts : List Th) (fs : List Fe) (L : List Sd) (h : Hp) (used : List Sd) : Option Sd := L.find? (nxtB cd ts fs h used)
def onTb (ts : List Th) (n : Int) : Bool := decide (1 ≤ n) && (decide (n ≤ (ts.length : Int)) && decide ((thN ts n).place = 4))
def hpMay (ts : List Th) (h : Hp) : Bool :=
  if h.vb = 1 then (isPlN h.on || onTb ts h.on) && (decide (-9999 ≤ h.ct) && decide (h.ct ≤ 9999))
  else if h.vb = 6 then onTb ts h.on
  else if h.vb = 3 then isPlN h.on
  else false
def SwGood (cd : Int → Hd × List Pt) : Prop := ∀ c, ∀ p ∈ (cd c).2, p.wn = 6 → 16 ≤ p.vb ∧ p.vb ≤ 19 ∧ (p.vb = 16 ∨ p.vb = 19 → 1 ≤ p.ct ∧ p.ct ≤ 99)
end Go.Proofs.YthfjgpjcepmnmaaGreat
namespace Go.Proofs.YthfjgpjcepmnmaaGreat
open Go.RowKit Go.Shelf

theorem Tab.one {n : Int} {cd : Int → Hd × List Pt} {ts : List Th} {fs : List Fe} {R : List Rw} {k : Int} {F : List Fe} {a : Se} (h : Tab n cd ts fs R) (ha : a ∈ effL R F k) : listF R [a.s] [] = some [a] := list_eff (L := [a]) (k := k) h.nod (fun e he => by
  rw [List.mem_singleton] at he; subst he; exact ha) (by simp)
end Go.Proofs.YthfjgpjcepmnmaaGreat
namespace Go.Proofs.YthfjgpjcepmnmaaGreat
open Go.RowKit Go.Shelf

theorem bit_low (k : Int) : bv (tBit k) &&& ~~~255#16 = 0#16 := by
  rcases eight_or k with h | h
  · rcases h with rfl | rfl | rfl | rfl | rfl | rfl | rfl | rfl <;> decide
  · rw [tBit_no h]; decide
theorem with_check {s : Int} (k : Int) (h : tCheck s = true) : tCheck (tWith s k) = true := by
  rw [check_bv] at h ⊢
  unfold tWith
  rw [bits_or, bv_nat]
  have h1 : bv s &&& ~~~255#16 = 0#16 := by simpa using h
  have h2 := bit_low k
  have e : (bv s ||| bv (tBit k)) &&& ~~~255#16 = 0#16 := by
    apply BitVec.eq_of_getLsbD_eq
    intro i hi
    have a : (bv s &&& ~~~255#16).getLsbD i = false := by rw [h1, BitVec.getLsbD_zero]
    have b : (bv (tBit k) &&& ~~~255#16).getLsbD i = false := by rw [h2, BitVec.getLsbD_zero]
    rw [BitVec.getLsbD_and] at a b
    rw [BitVec.getLsbD_and, BitVec.getLsbD_or, BitVec.getLsbD_zero, Bool.and_or_distrib_right, a, b]
    rfl
  rw [e]; rfl
theorem without_check {s : Int} (k : Int) (h : tCheck s = true) : tCheck (tWithout s k) = true := by
  rw [check_bv] at h ⊢
  unfold tWithout
  rw [bits_andNot, bv_nat]
  have h1 : bv s &&& ~~~255#16 = 0#16 := by simpa using h
  have e : (bv s &&& ~~~bv (tBit k)) &&& ~~~255#16 = 0#16 := by
    apply BitVec.eq_of_getLsbD_eq
    intro i hi
    have a : (bv s &&& ~~~255#16).getLsbD i = false := by rw [h1, BitVec.getLsbD_zero]
    rw [BitVec.getLsbD_and] at a
    rw [BitVec.getLsbD_and, BitVec.getLsbD_and, BitVec.getLsbD_zero, Bool.and_right_comm, a]
    rfl
  rw [e]; rfl
theorem done_good {f : Fe} {p : Pt} {ho : Int} (h1 : isPl f.ho = true) (h2 : tCheck f.tr = true) (h3 : isPl ho = true) : isPl (doneF f p ho).ho = true ∧ tCheck (doneF f p ho).tr = true := by
  unfold doneF
  split
  · exact ⟨h3, h2⟩
  · split
    · exact ⟨h1, h2⟩
    · split
      · exact ⟨h1, with_check _ h2⟩
      · split
        · exact ⟨h1, without_check _ h2⟩
        · split
          · exact ⟨h1, h2⟩
          · split
            · exact ⟨h1, h2⟩
            · exact ⟨h1, h2⟩
theorem apply_good {R : List Rw} {F : List Fe} {e : Se} (he : e.ro < F.length) (hg : Goodf F) : Goodf (applyL R F e) := fun f hf => by
  unfold applyL at hf
  obtain ⟨i, hi, rfl⟩ := List.mem_map.1 hf
  rw [List.mem_range] at hi
  have q := hg (F.getD i Fe.none) (by rw [getD_in hi]; exact List.getElem_mem _)
  have q' := hg (F.getD e.ro Fe.none) (by rw [getD_in he]; exact List.getElem_mem _)
  unfold applyAt
  split
  · exact done_good q.1 q.2 q'.1
  · exact q
theorem Tab.self {n : Int} {cd : Int → Hd × List Pt} {ts : List Th} {fs : List Fe} {R : List Rw} (h : Tab n cd ts fs R) : amgL fs R (pickF R fs) = fs := by
  refine List.ext_getElem? fun j => ?_
  have a := amgU_at (fs := fs) (F := pickF R fs) h.nod h.nu R.length (Nat.le_refl _)
  by_cases q : ∃ i, i < R.length ∧ (R.getD i Rw.none).nu = (j : Int) + 1
  · obtain ⟨i, hi, e⟩ := q
    have e1 := a.1 i hi
    have hb := h.nu _ (List.getElem_mem hi)
    rw [← getD_in (d := Rw.none) hi, e] at hb
    have hj : j < fs.length := by omega
    rw [e, show ((j : Int) + 1 - 1).toNat = j by omega] at e1
    refine e1.trans ?_
    rw [getD_in (show i < (pickF R fs).length by rw [pickF_len]; exact hi)]
    unfold pickF
    rw [List.getElem_map, ← getD_in (d := Rw.none) hi, e, show ((j : Int) + 1 - 1).toNat = j by omega, getD_in hj, List.getElem?_eq_getElem hj]
  · exact a.2 j fun i hi e => q ⟨i, hi, e⟩
theorem up_inj {L : List Se} (h : L.Pairwise befE) {a b : Se} (ha : a ∈ L) (hb : b ∈ L) (h1 : a.ro = b.ro) (h2 : a.s.pl = b.s.pl) : a = b := by
  obtain ⟨i, hi, rfl⟩ := List.getElem_of_mem ha
  obtain ⟨j, hj, rfl⟩ := List.getElem_of_mem hb
  have q := List.pairwise_iff_getElem.1 h
  rcases Nat.lt_trichotomy i j with z | z | z
  · have := q i j hi hj z
    unfold befE at this
    omega
  · subst z; rfl
  · have := q j i hj hi z
    unfold befE at this
    omega
theorem sort_one {L L' : List Se} (hp : L'.Perm L) (h' : L'.Pairwise inS) (h : L.Pairwise befE) : L' = L :=
  hp.eq_of_pairwise (fun a b ha hb h1 h2 => up_inj h (hp.mem_iff.1 ha) hb (by unfold inS at h1 h2; omega) (by unfold inS at h1 h2; omega)) h' (h.imp (fun {a b} q => by unfold befE at q; unfold inS; omega))
theorem idx_is {L : List Se} {p : Nat} (hp : p < L.length) (h : ∀ i, i < p → (L.getD i Se.none).s ≠ (L.getD p Se.none).s) : Lib.idxBy sames (L.map Se.s) (L.getD p Se.none).s = (p : Int) := by
  have g : ∀ j, j < L.length → (L.map Se.s)[j]? = some (L.getD j Se.none).s := fun j hj => by rw [List.getElem?_map, List.getElem?_eq_getElem hj, Option.map_some, getD_in hj]
  suffices H : ∀ (l : List Sd) (x : Sd) (k i : Nat), l[k]? = some x → (∀ j y, j < k → l[j]? = some y → y ≠ x) → Lib.idxByFrom sames x l i = ((i + k : Nat) : Int) by
    have := H (L.map Se.s) (L.getD p Se.none).s p 0 (g p hp) (fun j y hj hy => by
      rw [g j (by omega)] at hy
      cases hy
      exact h j hj)
    unfold Lib.idxBy
    rw [this, Nat.zero_add]
  intro l
  induction l with
  | nil => intro x k i h1; simp at h1
  | cons z l ih =>
    intro x k i h1 h2
    cases k with
    | zero =>
      simp at h1
      subst h1
      unfold Lib.idxByFrom
      rw [if_pos (sames_iff.2 rfl)]
      simp
    | succ k =>
      unfold Lib.idxByFrom
      rw [if_neg (fun q => h2 0 z (by omega) rfl (sames_iff.1 q).symm), ih x k (i + 1) (by simpa using h1) (fun j y hj hy => h2 (j + 1) y (by omega) (by simpa using hy))]
      simp
      omega
theorem up_ne {L : List Se} (h : L.Pairwise befE) : L.Pairwise fun a b => ¬ (a.ro = b.ro ∧ a.s.pl = b.s.pl) := h.imp (fun {a b} q => by unfold befE at q; omega)
structure Onc (m : Int) (cd : Int → Hd × List Pt) (ts : List Th) (fs : List Fe) (R : List Rw) (k : Int) (X : List Fe) (L acc : List Se) : Prop where
  base : Tab m cd ts fs R
  tab : Tab m cd ts X R
  lies : amgL fs R (pickF R X) = X
  mem : ∀ e ∈ L, e ∈ effL R (pickF R fs) k
  up : L.Pairwise befE
  all : allR R fs k = allL R L.length (pickF R X) L acc
theorem Onc.start {m : Int} {cd : Int → Hd × List Pt} {ts : List Th} {fs : List Fe} {R : List Rw} {k : Int} (h : Tab m cd ts fs R) : Onc m cd ts fs R k fs (effL R (pickF R fs) k) [] := ⟨h, h, h.self, fun _ h => h, eff_up _ _ _, rfl⟩
theorem Onc.list {m : Int} {cd : Int → Hd × List Pt} {ts : List Th} {fs : List Fe} {R : List Rw} {k : Int} {X : List Fe} {L acc : List Se} (h : Onc m cd ts fs R k X L acc) : listF R (L.map Se.s) [] = some L := list_eff h.base.nod h.mem (up_ne h.up)
theorem Onc.len {m : Int} {cd : Int → Hd × List Pt} {ts : List Th} {fs : List Fe} {R : List Rw} {k : Int} {X : List Fe} {L acc : List Se} (h : Onc m cd ts fs R k X L acc) : X.length = fs.length := by rw [← h.tab.len, h.base.len]
theorem Onc.lt {m : Int} {cd : Int → Hd × List Pt} {ts : List Th} {fs : List Fe} {R : List Rw} {k : Int} {X : List Fe} {L acc : List Se} (_ : Onc m cd ts fs R k X L acc) (h0 : 0 < L.length) : nextN R (pickF R X) L < L.length := nextN_lt (List.length_pos_iff.1 h0)
theorem Onc.step {m : Int} {cd : Int → Hd × List Pt} {ts : List Th} {fs : List Fe} {R : List Rw} {k : Int} {X : List Fe} {L acc : List Se} (h : Onc m cd ts fs R k X L acc) (h0 : 0 < L.length) : Onc m cd ts fs R k (amgL X R (applyL R (pickF R X) (L.getD (nextN R (pickF R X) L) Se.none))) (L.eraseIdx (nextN R (pickF R X) L)) (acc ++ [L.getD (nextN R (pickF R X) L) Se.none]) := by
  obtain ⟨p, hp⟩ : ∃ p, p = nextN R (pickF R X) L := ⟨_, rfl⟩
  have hlt := h.lt h0
  rw [← hp] at hlt ⊢
  have hx : L.getD p Se.none ∈ L := by rw [getD_in hlt]; exact List.getElem_mem _
  obtain ⟨r1, _⟩ := eff_mem (h.mem _ hx)
  have hl : (applyL R (pickF R X) (L.getD p Se.none)).length = R.length := by rw [applyL_len, pickF_len]
  have hg : Goodf (applyL R (pickF R X) (L.getD p Se.none)) := apply_good (by rw [pickF_len]; exact r1) h.tab.good
  refine ⟨h.base, h.tab.back hl hg, ?_, fun e he => h.mem e (List.mem_of_mem_eraseIdx he), h.up.sublist (List.eraseIdx_sublist _ _), ?_⟩
  · rw [h.tab.pick hl]
    exact (h.base.lay2 (pickF R X) _).symm.trans (by rw [h.lies])
  · rw [h.tab.pick hl, h.all]
    obtain ⟨n, hn⟩ : ∃ n, L.length = n + 1 := ⟨L.length - 1, by omega⟩
    rw [hn, allL_step (List.length_pos_iff.1 h0), List.length_eraseIdx_of_lt hlt, hn, ← hp]
    rfl
theorem allL_pre (R : List Rw) : ∀ (n : Nat) (F : List Fe) (L A : List Se), n = L.length → ∃ B, (allL R n F L A).2 = A ++ B ∧ B.length = L.length
  | 0, F, L, A, h => ⟨[], by simp [allL], by simp [← h]⟩
  | n + 1, F, L, A, h => by
    have h0 : 0 < L.length := by omega
    rw [allL_step (List.length_pos_iff.1 h0)]
    have hlt := nextN_lt (R := R) (F := F) (List.length_pos_iff.1 h0)
    obtain ⟨B, e, hB⟩ := allL_pre R n (applyL R F (L.getD (nextN R F L) Se.none)) (L.eraseIdx (nextN R F L)) (A ++ [L.getD (nextN R F L) Se.none]) (by rw [List.length_eraseIdx_of_lt hlt]; omega)
    exact ⟨L.getD (nextN R F L) Se.none :: B, by rw [e, List.append_assoc, List.singleton_append], by rw [List.length_cons, hB, List.length_eraseIdx_of_lt hlt]; omega⟩
theorem Onc.now {m : Int} {cd : Int → Hd × List Pt} {ts : List Th} {fs : List Fe} {R : List Rw} {k : Int} {X : List Fe} {L acc : List Se} (h : Onc m cd ts fs R k X L acc) (h0 : 0 < L.length) : (allR R fs k).2.getD acc.length Se.none = L.getD (nextN R (pickF R X) L) Se.none := by
  rw [(h.step h0).all]
  obtain ⟨B, e, _⟩ := allL_pre R _ (pickF R (amgL X R (applyL R (pickF R X) (L.getD (nextN R (pickF R X) L) Se.none)))) (L.eraseIdx (nextN R (pickF R X) L)) (acc ++ [L.getD (nextN R (pickF R X) L) Se.none]) rfl
  rw [e, List.append_assoc, List.getD_eq_getElem?_getD, List.getElem?_append_right (Nat.le_refl _), Nat.sub_self]
  rfl
theorem Onc.end {m : Int} {cd : Int → Hd × List Pt} {ts : List Th} {fs : List Fe} {R : List Rw} {k : Int} {X : List Fe} {acc : List Se} (h : Onc m cd ts fs R k X [] acc) : amgL fs R (allR R fs k).1 = X := by
  rw [h.all]
  exact h.lies
theorem Onc.next {m : Int} {cd : Int → Hd × List Pt} {ts : List Th} {fs : List Fe} {R : List Rw} {k : Int} {X : List Fe} {L acc : List Se} {w w' : World} {e : Ending} (h : Onc m cd ts fs R k X L acc) (h0 : 0 < L.length) (q : NextPost w 0 m cd ts X (L.map Se.s) e w') : e = .returned (.tuple #[.int .i64 ((nextN R (pickF R X) L : Nat) : Int), .int .i64 0]) ∧ w.grownBy w' none := by
  obtain ⟨p, e1, g, _, h1⟩ := q
  have h2 := h1 R L rfl h.tab.tab h.list
  rw [if_neg (List.length_pos_iff.1 h0)] at h2
  obtain ⟨L', hp, hs, e2⟩ := h2
  have e3 := sort_one hp hs h.up
  subst e3
  have hlt := h.lt h0
  rw [idx_is hlt (fun i hi e => by
    have z := List.pairwise_iff_getElem.1 h.up i _ (by omega) hlt hi
    rw [getD_in (show i < L'.length by omega), getD_in hlt] at e
    have hx := h.mem _ (List.getElem_mem (show i < L'.length by omega))
    have hy := h.mem _ (List.getElem_mem hlt)
    have f1 := find_eff h.base.nod hx
    have f2 := find_eff h.base.nod hy
    rw [e, f2] at f1
    have f3 := Option.some.inj f1
    rw [f3] at z
    unfold befE at z
    omega)] at e2
  rw [lkE_ok h.tab.tab h.list, e2] at e1
  exact ⟨e1, g⟩
theorem Onc.verb {m : Int} {cd : Int → Hd × List Pt} {ts : List Th} {fs : List Fe} {R : List Rw} {k : Int} {X : List Fe} {L acc : List Se} (h : Onc m cd ts fs R k X L acc) {x : Se} (hx : x ∈ L) : lay x.s.wh.vb = k := by
  obtain ⟨_, _, _, _, _, _, _, q⟩ := eff_mem (h.mem x hx)
  exact q
end Go.Proofs.YthfjgpjcepmnmaaGreat
