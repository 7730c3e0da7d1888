/-
  Views, plainly: the same table under other numbers and stamps has the same features, by the same effects.
  Views, plainly: whom effects are about, step by step; Raises add up; the layers' order.
  View: is a number among numbers; is it a thing on the table; what of a layer was about it.
  View: what of a layer was about a thing.
  View: Why.
  View's laws: the book and things of the chapter's examples.
-/
import Derived.Test.YtmemeloehgemcaaGreatT35
import Derived.Test.YtmemeloehgemcaaGreatT41
import Derived.Test.YtmemeloehgemcaaGreatT37
namespace Go.Proofs.YtmemeloehgemcaaGreat
open Go.RowKit Go.Shelf

def pkA (R : List Rw) (F : List Fe) (k : Int) : List Fe × List Se := allL R (effL R F k).length F (effL R F k) []
def pkF (R : List Rw) (F : List Fe) : Nat → List Fe
  | 0 => F
  | k + 1 => (pkA R (pkF R F k) ((k : Int) + 1)).1
theorem allL_len (R : List Rw) : ∀ (n : Nat) (F : List Fe) (L A : List Se), (allL R n F L A).1.length = F.length
  | 0, F, L, A => rfl
  | n + 1, F, L, A => by
    unfold allL
    split
    · rfl
    · rw [allL_len R n, applyL_len]
theorem pkF_len (R : List Rw) (F : List Fe) : ∀ k, (pkF R F k).length = F.length
  | 0 => rfl
  | k + 1 => (allL_len _ _ _ _ _).trans (pkF_len R F k)
theorem Tab.cl_pick {m : Int} {cd : Int → Hd × List Pt} {ts : List Th} {fs : List Fe} {R : List Rw} (h : Tab m cd ts fs R) : ∀ k, pickF R (clF R fs k) = pkF R (pickF R fs) k ∧ clF R fs k = amgL fs R (pkF R (pickF R fs) k)
  | 0 => ⟨rfl, h.self.symm⟩
  | k + 1 => by
    obtain ⟨h1, h2⟩ := h.cl_pick k
    have e : (allR R (clF R fs k) ((k : Int) + 1)).1 = pkF R (pickF R fs) (k + 1) := by
      show _ = (pkA R (pkF R (pickF R fs) k) ((k : Int) + 1)).1
      unfold allR pkA
      rw [h1]
    have hl : (pkF R (pickF R fs) (k + 1)).length = R.length := by rw [pkF_len, pickF_len]
    constructor
    · show pickF R (amgL (clF R fs k) R (allR R (clF R fs k) ((k : Int) + 1)).1) = _
      rw [e]
      exact (h.cl k).pick hl
    · show amgL (clF R fs k) R (allR R (clF R fs k) ((k : Int) + 1)).1 = _
      rw [e, h2]
      exact h.lay2 _ _
theorem Tab.ap_pick {m : Int} {cd : Int → Hd × List Pt} {ts : List Th} {fs : List Fe} {R : List Rw} (h : Tab m cd ts fs R) (k : Nat) : apK R fs k = (pkA R (pkF R (pickF R fs) k) ((k : Int) + 1)).2 := by
  unfold apK allR pkA
  rw [(h.cl_pick k).1]
structure SmQ (u : Int → Int) (R Q : List Rw) : Prop where
  len : Q.length = R.length
  nu : ∀ i, i < R.length → (Q.getD i Rw.none).nu = u (R.getD i Rw.none).nu
  h : ∀ i, (Q.getD i Rw.none).h = (R.getD i Rw.none).h
  ps : ∀ i, (Q.getD i Rw.none).ps = (R.getD i Rw.none).ps
def reS (u : Int → Int) (s : Sd) : Sd := { s with th := u s.th }
def reE (u : Int → Int) (e : Se) : Se := { e with s := reS u e.s }
theorem reE_wh (u : Int → Int) (e : Se) : (reE u e).s.wh = e.s.wh := rfl
theorem reE_ro (u : Int → Int) (e : Se) : (reE u e).ro = e.ro := rfl
theorem SmQ.isAb {u : Int → Int} {R Q : List Rw} (h : SmQ u R Q) (F : List Fe) (s : Se) (i : Nat) : isAbB Q F (reE u s) i = isAbB R F s i := by unfold isAbB; rw [h.h, reE_wh, reE_ro]
theorem SmQ.about {u : Int → Int} {R Q : List Rw} (h : SmQ u R Q) (F : List Fe) (s : Se) : aboutL Q F (reE u s) = aboutL R F s := by
  unfold aboutL aboutU
  rw [h.len]
  exact List.map_congr_left fun i _ => h.isAb F s i
theorem SmQ.apply {u : Int → Int} {R Q : List Rw} (h : SmQ u R Q) (F : List Fe) (s : Se) : applyL Q F (reE u s) = applyL R F s := by
  unfold applyL
  exact List.map_congr_left fun i _ => by unfold applyAt; rw [h.isAb, reE_wh, reE_ro]
theorem SmQ.dep {u : Int → Int} {R Q : List Rw} (h : SmQ u R Q) (F : List Fe) (s o : Se) : depB Q F (reE u s) (reE u o) = depB R F s o := by unfold depB; rw [h.about, h.apply, h.about]
theorem getD_map {α β : Type} (f : α → β) (l : List α) (i : Nat) (d : α) (e : β) (h : i < l.length) : (l.map f).getD i e = f (l.getD i d) := by
  rw [List.getD_eq_getElem?_getD, List.getD_eq_getElem?_getD, List.getElem?_map, List.getElem?_eq_getElem h]
  rfl
theorem SmQ.next {u : Int → Int} {R Q : List Rw} (h : SmQ u R Q) (F : List Fe) (L : List Se) : nextN Q F (L.map (reE u)) = nextN R F L := by
  unfold nextN
  rw [List.length_map]
  have e : ∀ i ∈ List.range L.length, freeB Q F (L.map (reE u)) i = freeB R F L i := fun i hi => by
    rw [List.mem_range] at hi
    unfold freeB
    rw [List.length_map]
    have q : ∀ j ∈ List.range L.length, (decide (i = j) || !depB Q F ((L.map (reE u)).getD i Se.none) ((L.map (reE u)).getD j Se.none)) = (decide (i = j) || !depB R F (L.getD i Se.none) (L.getD j Se.none)) := fun j hj => by
      rw [List.mem_range] at hj
      rw [getD_map _ _ _ Se.none _ hi, getD_map _ _ _ Se.none _ hj, h.dep]
    rw [Bool.eq_iff_iff, List.all_eq_true, List.all_eq_true]
    exact ⟨fun z j hj => by rw [← q j hj]; exact z j hj, fun z j hj => by rw [q j hj]; exact z j hj⟩
  congr 1
  generalize List.range L.length = l at e
  induction l with
  | nil => rfl
  | cons a l ih =>
    rw [List.find?_cons, List.find?_cons, e a List.mem_cons_self, ih (fun i hi => e i (List.mem_cons_of_mem _ hi))]
theorem eraseIdx_map' {α β : Type} (f : α → β) : ∀ (l : List α) (i : Nat), (l.map f).eraseIdx i = (l.eraseIdx i).map f
  | [], _ => rfl
  | _ :: _, 0 => rfl
  | a :: l, i + 1 => by rw [List.map_cons, List.eraseIdx_cons_succ, List.eraseIdx_cons_succ, List.map_cons, eraseIdx_map' f l i]
theorem SmQ.all {u : Int → Int} {R Q : List Rw} (h : SmQ u R Q) : ∀ (n : Nat) (F : List Fe) (L A : List Se), allL Q n F (L.map (reE u)) (A.map (reE u)) = ((allL R n F L A).1, (allL R n F L A).2.map (reE u))
  | 0, F, L, A => rfl
  | n + 1, F, L, A => by
    by_cases h0 : L = []
    · subst h0
      rfl
    · have hlt : nextN R F L < L.length := nextN_lt h0
      rw [allL_step (by simpa using h0), allL_step h0, h.next, getD_map _ _ _ Se.none _ hlt, h.apply, eraseIdx_map', show A.map (reE u) ++ [reE u (L.getD (nextN R F L) Se.none)] = (A ++ [L.getD (nextN R F L) Se.none]).map (reE u) from by rw [List.map_append]; rfl]
      exact h.all n _ _ _
theorem SmQ.eff {u : Int → Int} {R Q : List Rw} (h : SmQ u R Q) (F : List Fe) (k : Int) : effL Q F k = (effL R F k).map (reE u) := by
  unfold effL effU
  rw [h.len, List.map_flatMap]
  have e : ∀ i ∈ List.range R.length, effR Q F k i = (effR R F k i).map (reE u) := fun i hi => by
    rw [List.mem_range] at hi
    unfold effR
    split
    · rfl
    · unfold effP
      rw [h.ps, List.map_filterMap, h.nu i hi]
      congr 1
      funext j
      split <;> rfl
  generalize List.range R.length = l at e
  induction l with
  | nil => rfl
  | cons a l ih => rw [List.flatMap_cons, List.flatMap_cons, e a List.mem_cons_self, ih (fun i hi => e i (List.mem_cons_of_mem _ hi))]
theorem SmQ.pk {u : Int → Int} {R Q : List Rw} (h : SmQ u R Q) (F : List Fe) (k : Int) : pkA Q F k = ((pkA R F k).1, (pkA R F k).2.map (reE u)) := by
  unfold pkA
  rw [h.eff, List.length_map]
  exact h.all _ F _ []
theorem SmQ.pkF {u : Int → Int} {R Q : List Rw} (h : SmQ u R Q) (F : List Fe) : ∀ k, pkF Q F k = pkF R F k
  | 0 => rfl
  | k + 1 => by
    show (pkA Q (Go.Proofs.YtmemeloehgemcaaGreat.pkF Q F k) ((k : Int) + 1)).1 = (pkA R (Go.Proofs.YtmemeloehgemcaaGreat.pkF R F k) ((k : Int) + 1)).1
    rw [h.pkF F k, h.pk]
theorem SmQ.st {u : Int → Int} {R Q : List Rw} {m : Int} {cd : Int → Hd × List Pt} {ts us : List Th} {fs gs : List Fe} (h : SmQ u R Q) (hR : Tab m cd ts fs R) (hQ : Tab m cd us gs Q) (e : pickF Q gs = pickF R fs) : ∀ k, stU Q gs k = (stU R fs k).map (reE u)
  | 0 => rfl
  | k + 1 => by
    show stU Q gs k ++ apK Q gs k = (stU R fs k ++ apK R fs k).map (reE u)
    rw [h.st hR hQ e k, hQ.ap_pick, hR.ap_pick, e, h.pkF, h.pk, List.map_append]
theorem Tab.cl_at {m : Int} {cd : Int → Hd × List Pt} {ts : List Th} {fs : List Fe} {R : List Rw} (h : Tab m cd ts fs R) {i j : Nat} (hi : i < R.length) (hj : (R.getD i Rw.none).nu = (j : Int) + 1) (k : Nat) : (clF R fs k)[j]? = some ((pkF R (pickF R fs) k).getD i Fe.none) := by
  rw [(h.cl_pick k).2]
  have := (amgU_at (F := pkF R (pickF R fs) k) h.nod h.nu R.length (Nat.le_refl _)).1 i hi
  rw [hj, show ((j : Int) + 1 - 1).toNat = j by omega] at this
  exact this
theorem layF_all {n : Int} {cd : Int → Hd × List Pt} : ∀ (l : List (Th × Fe)) (i : Nat) (acc : List Rw), (∀ x ∈ l, mayBeB n x.1 = true ∧ (x.1.place = 4 → mayLieB x.1 x.2 = true ∧ (cd x.1.card).1.kd ≠ 2)) → acc.length + (tblR cd l i).length ≤ 16 → layF n cd l i acc = some (acc ++ tblR cd l i)
  | [], i, acc, _, _ => by simp [layF, tblR]
  | (t, f) :: r, i, acc, h, hl => by
    obtain ⟨h1, h2⟩ := h (t, f) List.mem_cons_self
    have hr : ∀ x ∈ r, mayBeB n x.1 = true ∧ (x.1.place = 4 → mayLieB x.1 x.2 = true ∧ (cd x.1.card).1.kd ≠ 2) := fun x hx => h x (List.mem_cons_of_mem _ hx)
    unfold layF
    rw [if_neg (by simp only at h1; rw [h1]; simp)]
    by_cases hp : t.place = 4
    · obtain ⟨h3, h4⟩ := h2 hp
      rw [tblR_yes hp] at hl ⊢
      rw [List.length_cons] at hl
      rw [if_neg (by simp [hp]), if_neg (by simp only at h3; rw [h3]; simp; omega), if_neg h4, layF_all r (i + 1) _ hr (by rw [List.length_append, List.length_singleton]; omega), List.append_assoc, List.singleton_append]
    · rw [tblR_no hp] at hl ⊢
      rw [if_pos hp, layF_all r (i + 1) acc hr hl]
theorem layF_may {n : Int} {cd : Int → Hd × List Pt} : ∀ (l : List (Th × Fe)) (i : Nat) (acc A : List Rw), layF n cd l i acc = some A → ∀ x ∈ l, mayBeB n x.1 = true ∧ (x.1.place = 4 → mayLieB x.1 x.2 = true ∧ (cd x.1.card).1.kd ≠ 2)
  | [], i, acc, A, h, x, hx => by cases hx
  | (t, f) :: r, i, acc, A, h, x, hx => by
    unfold layF at h
    split at h
    · cases h
    · rename_i h1
      have h1' : mayBeB n t = true := by cases q : mayBeB n t with | true => rfl | false => exact absurd q h1
      split at h
      · rename_i hp
        rcases List.mem_cons.1 hx with rfl | hx
        · exact ⟨h1', fun z => absurd z hp⟩
        · exact layF_may r _ _ A h x hx
      · split at h
        · cases h
        · rename_i hm
          split at h
          · cases h
          · rename_i hk
            rcases List.mem_cons.1 hx with rfl | hx
            · refine ⟨h1', fun _ => ⟨?_, hk⟩⟩
              cases q : mayLieB t f with
              | true => rfl
              | false => exact absurd (Or.inr q) hm
            · exact layF_may r _ _ A h x hx
theorem Tab.mays {n : Int} {cd : Int → Hd × List Pt} {ts : List Th} {fs : List Fe} {R : List Rw} (h : Tab n cd ts fs R) {j : Nat} {t : Th} {f : Fe} (ht : ts[j]? = some t) (hf : fs[j]? = some f) : mayBeB n t = true ∧ (t.place = 4 → mayLieB t f = true ∧ (cd t.card).1.kd ≠ 2) := by
  have := h.tab
  unfold tabR at this
  split at this
  · split at this
    · rename_i acc ha
      exact layF_may _ _ _ _ ha (t, f) (List.mem_of_getElem? (zip_get.2 ⟨ht, hf⟩))
    · cases this
  · cases this
theorem dif_strict : ∀ l : List Int, (l.Pairwise fun a b => a < b) → dif l = true
  | [], _ => rfl
  | [a], _ => rfl
  | a :: b :: l, h => by
    have h' := List.pairwise_cons.1 h
    have hab := h'.1 b List.mem_cons_self
    unfold dif
    rw [dif_strict (b :: l) h'.2]
    simp only [Bool.and_true, decide_eq_true_eq]
    omega
structure Turned (n : Int) (s : Nat → Nat) (ts us : List Th) : Prop where
  len : us.length = ts.length
  lt : ∀ j, j < ts.length → s j < ts.length
  inj : ∀ i j, i < ts.length → j < ts.length → s i = s j → i = j
  sur : ∀ i, i < ts.length → ∃ j, j < ts.length ∧ s j = i
  pl : ∀ j t u, ts[j]? = some t → us[s j]? = some u → (u.place = 4 ↔ t.place = 4) ∧ mayBeB n u = mayBeB n t ∧ (t.place = 4 → u.card = t.card ∧ u.owner = t.owner ∧ u.m0 = t.m0 ∧ u.m1 = t.m1 ∧ u.m2 = t.m2 ∧ u.m3 = t.m3 ∧ 0 < u.stamp)
  st : ∀ i j t t' u u', ts[i]? = some t → ts[j]? = some t' → us[s i]? = some u → us[s j]? = some u' → t.place = 4 → t'.place = 4 → t.stamp < t'.stamp → u.stamp < u'.stamp
def uOf (s : Nat → Nat) (x : Int) : Int := ((s (x - 1).toNat : Nat) : Int) + 1
def rowT (s : Nat → Nat) (us : List Th) (r : Rw) : Rw := ⟨uOf s r.nu, (us.getD (s (r.nu - 1).toNat) Th.none).stamp, r.h, r.ps⟩
theorem tbl_mem' {cd : Int → Hd × List Pt} : ∀ (l : List (Th × Fe)) (i j : Nat) (t : Th) (f : Fe), l[j]? = some (t, f) → t.place = 4 → (⟨(i : Int) + j + 1, t.stamp, (cd t.card).1, (cd t.card).2⟩ : Rw) ∈ tblR cd l i
  | [], i, j, t, f, h, _ => by simp at h
  | (t', f') :: l, i, 0, t, f, h, h4 => by
    simp at h
    obtain ⟨rfl, rfl⟩ := h
    rw [tblR_yes h4]
    exact List.mem_cons.2 (Or.inl (by simp))
  | (t', f') :: l, i, j + 1, t, f, h, h4 => by
    have := tbl_mem' (cd := cd) l (i + 1) j t f (by simpa using h) h4
    have e : (((i + 1 : Nat) : Int) + j + 1) = ((i : Int) + ((j + 1 : Nat) : Int) + 1) := by omega
    rw [e] at this
    by_cases hp : t'.place = 4
    · rw [tblR_yes hp]; exact List.mem_cons_of_mem _ this
    · rw [tblR_no hp]; exact this
theorem tbl_nodup {cd : Int → Hd × List Pt} (l : List (Th × Fe)) (i : Nat) : (tblR cd l i).Nodup := (tbl_nu (cd := cd) l i).2.imp (fun {a b} q e => by rw [e] at q; omega)
theorem Tab.row {n : Int} {cd : Int → Hd × List Pt} {ts : List Th} {fs : List Fe} {R : List Rw} (h : Tab n cd ts fs R) {r : Rw} (hr : r ∈ R) : ∃ (j : Nat) (t : Th), ts[j]? = some t ∧ t.place = 4 ∧ r = ⟨(j : Int) + 1, t.stamp, (cd t.card).1, (cd t.card).2⟩ := by
  obtain ⟨j, t, f, a, b, c⟩ := tbl_of _ _ _ (h.perm.mem_iff.1 hr)
  exact ⟨j, t, (zip_get.1 a).1, b, by rw [c]; simp⟩
theorem Tab.row_in {n : Int} {cd : Int → Hd × List Pt} {ts : List Th} {fs : List Fe} {R : List Rw} (h : Tab n cd ts fs R) {j : Nat} {t : Th} (ht : ts[j]? = some t) (h4 : t.place = 4) : (⟨(j : Int) + 1, t.stamp, (cd t.card).1, (cd t.card).2⟩ : Rw) ∈ R := by
  have hj : j < ts.length := (List.getElem?_eq_some_iff.1 ht).1
  have := tbl_mem' (cd := cd) (ts.zip fs) 0 j t _ (zip_get.2 ⟨ht, List.getElem?_eq_getElem (show j < fs.length by rw [← h.len]; exact hj)⟩) h4
  rw [show (((0 : Nat) : Int) + j + 1) = (j : Int) + 1 by omega] at this
  exact h.perm.mem_iff.2 this
theorem prt_get (pf : Th → Fe) {ts : List Th} {j : Nat} {t : Th} (h : ts[j]? = some t) : (prtF pf ts)[j]? = some (prtT pf t) := by
  unfold prtF
  rw [List.getElem?_map, h]
  rfl
theorem prt_getD (pf : Th → Fe) {ts : List Th} {j : Nat} {t : Th} (h : ts[j]? = some t) : (prtF pf ts).getD j Fe.none = prtT pf t := by
  rw [List.getD_eq_getElem?_getD, prt_get pf h]
  rfl
theorem prt_on {pf : Th → Fe} {t : Th} (h : t.place = 4) : prtT pf t = pf t := if_pos h
theorem st_inj {Q : List Rw} (h : Q.Pairwise fun a b => a.st < b.st) {a b : Rw} (ha : a ∈ Q) (hb : b ∈ Q) (e : a.st = b.st) : a = b := by
  obtain ⟨i, hi, rfl⟩ := List.getElem_of_mem ha
  obtain ⟨j, hj, rfl⟩ := List.getElem_of_mem hb
  have q := List.pairwise_iff_getElem.1 h
  rcases Nat.lt_trichotomy i j with z | z | z
  · have := q i j hi hj z; omega
  · subst z; rfl
  · have := q j i hj hi z; omega
theorem sort_is {A Q : List Rw} (hp : A.Perm Q) (h : Q.Pairwise fun a b => a.st < b.st) : sortR A = Q := by
  unfold sortR
  have h1 : (A.mergeSort fun a b => decide (a.st ≤ b.st)).Pairwise fun a b => a.st ≤ b.st := (List.pairwise_mergeSort (le := fun a b : Rw => decide (a.st ≤ b.st)) (fun a b c h1 h2 => by simp only [decide_eq_true_eq] at *; omega) (fun a b => by simp only [Bool.or_eq_true, decide_eq_true_eq]; omega) A).imp (fun {a b} q => by simpa using q)
  exact ((List.mergeSort_perm _ _).trans hp).eq_of_pairwise (fun a b ha hb q1 q2 => st_inj h (((List.mergeSort_perm _ _).trans hp).mem_iff.1 ha) hb (by omega)) h1 (h.imp (fun {a b} q => by omega))
theorem toN (j : Nat) : ((j : Int) + 1 - 1).toNat = j := by omega
theorem Turned.get {n : Int} {s : Nat → Nat} {ts us : List Th} (T : Turned n s ts us) {j : Nat} {t : Th} (h : ts[j]? = some t) : ∃ u, us[s j]? = some u := ⟨_, List.getElem?_eq_getElem (by rw [T.len]; exact T.lt j (List.getElem?_eq_some_iff.1 h).1)⟩
set_option maxHeartbeats 1000000 in
theorem Turned.tab {n : Int} {cd : Int → Hd × List Pt} {s : Nat → Nat} {ts us : List Th} {pf : Th → Fe} {R : List Rw} (T : Turned n s ts us) (hpf : ∀ t u : Th, u.card = t.card → u.owner = t.owner → pf u = pf t) (h : Tab n cd ts (prtF pf ts) R) : ∃ Q, Tab n cd us (prtF pf us) Q ∧ SmQ (uOf s) R Q ∧ pickF Q (prtF pf us) = pickF R (prtF pf ts) := by
  have hmem : ∀ r, r ∈ R.map (rowT s us) ↔ r ∈ tblR cd (us.zip (prtF pf us)) 0 := fun r => by
    constructor
    · intro hr
      obtain ⟨r0, hr0, rfl⟩ := List.mem_map.1 hr
      obtain ⟨j, t, a, b, c⟩ := h.row hr0
      obtain ⟨u, hu⟩ := T.get a
      obtain ⟨p1, p2, p3⟩ := T.pl j t u a hu
      have := tbl_mem' (cd := cd) (us.zip (prtF pf us)) 0 (s j) u _ (zip_get.2 ⟨hu, prt_get pf hu⟩) (p1.2 b)
      have e : rowT s us r0 = ⟨((0 : Nat) : Int) + (s j : Nat) + 1, u.stamp, (cd u.card).1, (cd u.card).2⟩ := by
        rw [c]
        unfold rowT uOf
        simp only [toN]
        rw [List.getD_eq_getElem?_getD, hu, (p3 b).1]
        simp
      rw [e]
      exact this
    · intro hr
      obtain ⟨i, u, f, a, b, c⟩ := tbl_of _ _ _ hr
      have hu := (zip_get.1 a).1
      have hi : i < us.length := (List.getElem?_eq_some_iff.1 hu).1
      obtain ⟨j, hj, e⟩ := T.sur i (by rw [← T.len]; exact hi)
      have ht : ts[j]? = some ts[j] := List.getElem?_eq_getElem hj
      rw [← e] at hu
      obtain ⟨p1, p2, p3⟩ := T.pl j _ u ht hu
      have h4 := p1.1 b
      refine List.mem_map.2 ⟨_, h.row_in ht h4, ?_⟩
      rw [c]
      unfold rowT uOf
      simp only [toN]
      rw [List.getD_eq_getElem?_getD, hu, (p3 h4).1, e]
      simp
  have hinj : ∀ a ∈ R, ∀ b ∈ R, uOf s a.nu = uOf s b.nu → a.nu = b.nu := fun a ha b hb e => by
    obtain ⟨j, t, a1, a2, a3⟩ := h.row ha
    obtain ⟨j', t', b1, b2, b3⟩ := h.row hb
    have n1 : a.nu = (j : Int) + 1 := by rw [a3]
    have n2 : b.nu = (j' : Int) + 1 := by rw [b3]
    rw [n1, n2] at e ⊢
    unfold uOf at e
    rw [toN, toN] at e
    rw [T.inj j j' (List.getElem?_eq_some_iff.1 a1).1 (List.getElem?_eq_some_iff.1 b1).1 (by omega)]
  have hnod : (R.map (rowT s us)).Nodup := by
    refine List.Pairwise.map _ (R := fun a b : Rw => uOf s a.nu ≠ uOf s b.nu) (fun a b q e => q (congrArg Rw.nu e)) ?_
    exact List.Pairwise.imp_of_mem (fun {a b} ha hb q e => q (hinj a ha b hb e)) (List.pairwise_map.1 h.nod)
  have hperm : (R.map (rowT s us)).Perm (tblR cd (us.zip (prtF pf us)) 0) := (List.perm_ext_iff_of_nodup hnod (tbl_nodup _ _)).2 hmem
  have hup : (R.map (rowT s us)).Pairwise fun a b => a.st < b.st := by
    refine List.pairwise_map.2 (List.Pairwise.imp_of_mem (fun {a b} ha hb q => ?_) h.up)
    obtain ⟨j, t, a1, a2, a3⟩ := h.row ha
    obtain ⟨j', t', b1, b2, b3⟩ := h.row hb
    obtain ⟨u, hu⟩ := T.get a1
    obtain ⟨u', hu'⟩ := T.get b1
    rw [a3, b3] at q
    have := T.st j j' t t' u u' a1 b1 hu hu' a2 b2 q
    rw [a3, b3]
    unfold rowT
    simp only [toN]
    rw [List.getD_eq_getElem?_getD, List.getD_eq_getElem?_getD, hu, hu']
    exact this
  have hlay : layF n cd (us.zip (prtF pf us)) 0 [] = some (tblR cd (us.zip (prtF pf us)) 0) := by
    rw [layF_all _ _ _ (fun x hx => ?_) (by rw [← hperm.length_eq, List.length_map]; have := h.few; simp; exact this)]
    · rfl
    · obtain ⟨i, hi⟩ := List.getElem?_of_mem hx
      obtain ⟨hu, hf⟩ := zip_get (t := x.1) (f := x.2) |>.1 hi
      obtain ⟨j, hj, e⟩ := T.sur i (by rw [← T.len]; exact (List.getElem?_eq_some_iff.1 hu).1)
      have ht : ts[j]? = some ts[j] := List.getElem?_eq_getElem hj
      rw [prt_get pf hu] at hf
      rw [← e] at hu
      obtain ⟨p1, p2, p3⟩ := T.pl j _ x.1 ht hu
      obtain ⟨q1, q2⟩ := h.mays ht (prt_get pf ht)
      refine ⟨p2.trans q1, fun h4 => ?_⟩
      have h4' := p1.1 h4
      obtain ⟨c1, c2, -, -, -, -, c3⟩ := p3 h4'
      obtain ⟨r1, r2⟩ := q2 h4'
      have e2 : x.2 = pf ts[j] := by
        have := Option.some.inj hf
        rw [← this, prt_on h4, hpf _ _ c1 c2]
      rw [prt_on h4'] at r1
      rw [e2, c1]
      refine ⟨?_, r2⟩
      unfold mayLieB at r1 ⊢
      simp only [Bool.and_eq_true, decide_eq_true_eq] at r1 ⊢
      exact ⟨⟨c3, r1.1.2⟩, r1.2⟩
  have htab : tabR n cd us (prtF pf us) = some (R.map (rowT s us)) := by
    unfold tabR
    rw [if_pos (prtF_len pf us).symm, hlay]
    simp only
    rw [sort_is hperm.symm hup]
    exact if_pos (dif_strict _ (List.pairwise_map.2 hup))
  refine ⟨_, Tab.of htab, ⟨List.length_map _, fun i hi => ?_, fun i => ?_, fun i => ?_⟩, ?_⟩
  · rw [getD_map _ _ _ Rw.none _ hi]; rfl
  · by_cases hi : i < R.length
    · rw [getD_map _ _ _ Rw.none _ hi]; rfl
    · rw [List.getD_eq_getElem?_getD, List.getD_eq_getElem?_getD, List.getElem?_eq_none (by rw [List.length_map]; omega), List.getElem?_eq_none (by omega)]
  · by_cases hi : i < R.length
    · rw [getD_map _ _ _ Rw.none _ hi]; rfl
    · rw [List.getD_eq_getElem?_getD, List.getD_eq_getElem?_getD, List.getElem?_eq_none (by rw [List.length_map]; omega), List.getElem?_eq_none (by omega)]
  · unfold pickF
    rw [List.map_map]
    refine List.map_congr_left fun r hr => ?_
    obtain ⟨j, t, a, b, c⟩ := h.row hr
    obtain ⟨u, hu⟩ := T.get a
    obtain ⟨p1, p2, p3⟩ := T.pl j t u a hu
    show (prtF pf us).getD ((rowT s us r).nu - 1).toNat Fe.none = (prtF pf ts).getD (r.nu - 1).toNat Fe.none
    rw [c]
    unfold rowT uOf
    simp only [toN]
    rw [prt_getD pf hu, prt_getD pf a, prt_on (p1.2 b), prt_on b, hpf _ _ (p3 b).1 (p3 b).2.1]
end Go.Proofs.YtmemeloehgemcaaGreat
namespace Go.Proofs.YtmemeloehgemcaaGreat
open Go.RowKit Go.Shelf

theorem allL_in (R : List Rw) : ∀ (n : Nat) (F : List Fe) (L A : List Se), ∀ e ∈ (allL R n F L A).2, e ∈ A ∨ e ∈ L
  | 0, F, L, A, e, h => Or.inl h
  | n + 1, F, L, A, e, h => by
    by_cases h0 : L = []
    · subst h0
      exact Or.inl h
    · rw [allL_step h0] at h
      have hlt := nextN_lt (R := R) (F := F) h0
      rcases allL_in R n _ _ _ e h with q | q
      · rcases List.mem_append.1 q with q | q
        · exact Or.inl q
        · rw [List.mem_singleton] at q
          subst q
          rw [getD_in hlt]
          exact Or.inr (List.getElem_mem _)
      · exact Or.inr (List.mem_of_mem_eraseIdx q)
theorem ap_eff {R : List Rw} {fs : List Fe} {k : Nat} {e : Se} (h : e ∈ apK R fs k) : e ∈ effL R (pickF R (clF R fs k)) ((k : Int) + 1) := by
  rcases allL_in R _ _ _ _ e h with q | q
  · cases q
  · exact q
end Go.Proofs.YtmemeloehgemcaaGreat
namespace Go.Proofs.YtmemeloehgemcaaGreat
open Go.RowKit Go.Shelf

end Go.Proofs.YtmemeloehgemcaaGreat
namespace Go.Proofs.YtmemeloehgemcaaGreat
open Go.RowKit Go.Shelf

end Go.Proofs.YtmemeloehgemcaaGreat
namespace Go.Proofs.YtmemeloehgemcaaGreat
open Go.RowKit Go.Shelf

end Go.Proofs.YtmemeloehgemcaaGreat
namespace Go.Proofs.YtmemeloehgemcaaGreat
open Go.RowKit Go.Shelf

def vxB : Hd := ⟨⟨#[98, 114, 117, 115, 104]⟩, 5, 3, 0, 0, 0, 0, false⟩
theorem vx_caC : caE plNew [] (exC.with [exCp]) = 0 := by
  show (if plNew.shut = true then (7 : Int) else if ¬ cchk (exC.with [exCp]) = 0 then cchk (exC.with [exCp]) else if 0 ≤ pos [] exC.nm then 5 else if (0 : Nat) = 64 then 14 else 0) = 0
  decide +kernel
theorem vx_inC (vC : Value) : ins [] ⟨exC, vC, [exCp]⟩ = [⟨exC, vC, [exCp]⟩] := by
  rfl
theorem vx_caB (vC : Value) : caE plNew [⟨exC, vC, [exCp]⟩] (vxB.with [exBp]) = 0 := by
  show (if plNew.shut = true then (7 : Int) else if ¬ cchk (vxB.with [exBp]) = 0 then cchk (vxB.with [exBp]) else if 0 ≤ pos [exC.nm] vxB.nm then 5 else if (1 : Nat) = 64 then 14 else 0) = 0
  decide +kernel
theorem vx_inB (vB vC : Value) : ins [⟨exC, vC, [exCp]⟩] ⟨vxB, vB, [exBp]⟩ = [⟨vxB, vB, [exBp]⟩, ⟨exC, vC, [exCp]⟩] := by
  rw [ins_cons, if_neg (by show ¬ ord exC vxB < 0; decide +kernel)]
theorem vx_caE (vB vC : Value) : caE plNew [⟨vxB, vB, [exBp]⟩, ⟨exC, vC, [exCp]⟩] (exE.with []) = 0 := by
  show (if plNew.shut = true then (7 : Int) else if ¬ cchk (exE.with []) = 0 then cchk (exE.with []) else if 0 ≤ pos [vxB.nm, exC.nm] exE.nm then 5 else if (2 : Nat) = 64 then 14 else 0) = 0
  decide +kernel
theorem vx_inE (vE vB vC : Value) : ins [⟨vxB, vB, [exBp]⟩, ⟨exC, vC, [exCp]⟩] ⟨exE, vE, []⟩ = [⟨exE, vE, []⟩, ⟨vxB, vB, [exBp]⟩, ⟨exC, vC, [exCp]⟩] := by
  rw [ins_cons, if_neg (by show ¬ ord vxB exE < 0; decide +kernel)]
def vxES (vE vB vC : Value) : List Ent := [⟨exE, vE, []⟩, ⟨vxB, vB, [exBp]⟩, ⟨exC, vC, [exCp]⟩]
def vxP : Pl := { tgP2 with shut := true }
theorem vx_seal (vE vB vC : Value) : sealE tgP2 (vxES vE vB vC) = 0 := by
  unfold sealE
  rw [if_neg (by decide)]
  simp [vxES, sealL, callsE, callE, exBp, exCp]
theorem vx_shut (vE vB vC : Value) : sealP tgP2 (vxES vE vB vC) = vxP := if_pos (vx_seal vE vB vC)
def vxT : List Th := [⟨3, 0, 4, 1, 0, 0, 0, 0, 0, 0, false⟩, ⟨2, 0, 4, 2, 0, 0, 0, 0, 0, 0, false⟩, ⟨1, 0, 4, 3, 0, 0, 0, 0, 0, 0, false⟩, ⟨1, 1, 4, 4, 0, 0, 0, 0, 0, 0, false⟩]
theorem vx_fN (vE vB vC : Value) : (fndN vxP.shut (pos (names (vxES vE vB vC)) exC.nm) = 3 ∧ fndN vxP.shut (pos (names (vxES vE vB vC)) vxB.nm) = 2) ∧ fndN vxP.shut (pos (names (vxES vE vB vC)) exE.nm) = 1 := by
  show (fndN true (pos [exE.nm, vxB.nm, exC.nm] exC.nm) = 3 ∧ fndN true (pos [exE.nm, vxB.nm, exC.nm] vxB.nm) = 2) ∧ fndN true (pos [exE.nm, vxB.nm, exC.nm] exE.nm) = 1
  decide +kernel
def BpB (w : World) (n b : Nat) : Prop := w.heap[n]? = some (.cells #[.pointer (some ⟨b, 0, none⟩)] 32 (0, 0))
def CdB (w : World) (n a b : Nat) : Prop := w.heap[n]? = some (.cells #[.string ⟨#[99, 114, 111, 119, 110]⟩, .int .u8 6, .int .u8 3, .int .i64 0, .int .i64 0, .int .i64 0, .int .u16 0, .bool false, .slice (some ⟨a, 0, none⟩) 1 1, .string ⟨#[98, 114, 117, 115, 104]⟩, .int .u8 5, .int .u8 3, .int .i64 0, .int .i64 0, .int .i64 0, .int .u16 0, .bool false, .slice (some ⟨b, 0, none⟩) 1 1, .string ⟨#[98, 101, 97, 114]⟩, .int .u8 2, .int .u8 1, .int .i64 0, .int .i64 2, .int .i64 2, .int .u16 0, .bool false, .slice none 0 0] 88 (0, 0))
def PtB (w : World) (n : Nat) (p : Pt) : Prop := w.heap[n]? = some (.cells #[.int .u8 p.wn, .int .u8 p.vb, .int .u8 p.wm, .int .i64 p.ct, .int .u8 p.su, .int .u8 p.tr, .int .u8 p.mr, .string p.nm] 47 (0, 0))
structure VxS (w wr : World) (b n3 a1 a2 nc : Nat) (es : List Ent) (p : Pl) : Prop where
  bk : Book (tgOk b) wr b es p
  bx : BpB wr n3 b
  q1 : PtB wr a1 exCp
  q2 : PtB wr a2 exBp
  cd : CdB wr nc a1 a2
  gr : w.grownBy wr none
  lie : w.heap.size ≤ b ∧ b < n3 ∧ b < a1 ∧ b < a2 ∧ b < nc
theorem VxS.keep {w wr w' : World} {b n3 a1 a2 nc : Nat} {es : List Ent} {p : Pl} (h : VxS w wr b n3 a1 a2 nc es p) (g : wr.grownBy w' none) : VxS w w' b n3 a1 a2 nc es p := ⟨h.bk.keep g, grown_keep g h.bx (by simp), grown_keep g h.q1 (by simp), grown_keep g h.q2 (by simp), grown_keep g h.cd (by simp), grown_trans h.gr g, h.lie⟩
theorem VxS.turn {w wr w' : World} {b n3 a1 a2 nc : Nat} {es es' : List Ent} {p p' : Pl} (h : VxS w wr b n3 a1 a2 nc es p) (g : wr.grownBy w' (some b)) (B : Book (tgOk b) w' b es' p') : VxS w w' b n3 a1 a2 nc es' p' := by
  obtain ⟨l0, l1, l2, l3, l4⟩ := h.lie
  exact ⟨B, grown_keep g h.bx (fun q => by cases q; omega), grown_keep g h.q1 (fun q => by cases q; omega), grown_keep g h.q2 (fun q => by cases q; omega), grown_keep g h.cd (fun q => by cases q; omega), grown_own h.gr g (fun x e => by cases e; exact l0), h.lie⟩
structure VxR (w wr : World) (b S g : Nat) (vE vB vC : Value) : Prop where
  bk : Book (fun k => tgOk b k ∧ k < S) wr b (vxES vE vB vC) vxP
  th : thR.Own 60 wr S (.slice (some ⟨g, 0, none⟩) 4 4) vxT
  gr : w.grownBy wr none
  lie : w.heap.size ≤ b ∧ b < S
theorem VxR.keep {w wr w' : World} {b S g : Nat} {vE vB vC : Value} (h : VxR w wr b S g vE vB vC) (k : wr.grownBy w' none) : VxR w w' b S g vE vB vC := ⟨h.bk.keep k, own_grow h.th k, grown_trans h.gr k, h.lie⟩
set_option maxRecDepth 100000 in
set_option maxHeartbeats 4000000 in
theorem vnumber_any (b n3 : Nat) (es : List Ent) (p : Pl) (ok : Nat → Prop) (s : ByteArray) (w : World) (B : Book ok w b es p) (hx : BpB w n3 b) : Calls Tryz.prog 67 #[.string s, .pointer (some ⟨n3, 0, none⟩)] w fun e w' => e = .returned (.int .i64 (fndN p.shut (pos (names es) s))) ∧ w.grownBy w' none := by
  have C1 := find_yes b es p s w B.lies B.good.slc
  have c0 : w.cell? ⟨n3, 0, none⟩ = some (.pointer (some ⟨b, 0, none⟩)) := (block_cell hx 0).trans rfl
  obtain ⟨x, hxe⟩ : ∃ x, x = fndN p.shut (pos (names es) s) := ⟨_, rfl⟩
  obtain ⟨y, hye⟩ : ∃ y, y = fndE p.shut (pos (names es) s) := ⟨_, rfl⟩
  rw [← hxe, ← hye] at C1
  rw [← hxe]
  clear B hx hxe hye
  go_enter Tryz.func67, Tryz.ntmps67
  go_wp2_with fail
  refine C1.mono ?_
  rintro e1 w1 ⟨rfl, g1⟩
  have HG : Hid (w.grownBy w1 none) := g1
  clear C1 g1 c0
  go_wp2_with fail
  go_ret
  exact ⟨rfl, HG.out⟩
def FnB (w : World) (n6 n3 : Nat) : Prop := w.heap[n6]? = some (.cells #[.func (.func 67) #[] #[.pointer (some ⟨n3, 0, none⟩)]] 135 (0, 0))
set_option maxRecDepth 100000 in
set_option maxHeartbeats 4000000 in
theorem von_any (b n3 n6 : Nat) (es : List Ent) (p : Pl) (ok : Nat → Prop) (s : ByteArray) (ow st x : Int) (w : World) (B : Book ok w b es p) (hx : BpB w n3 b) (hf : FnB w n6 n3) (hn : fndN p.shut (pos (names es) s) = x) : Calls Tryz.prog 68 #[.string s, .int .i64 ow, .int .i64 st, .pointer (some ⟨n6, 0, none⟩)] w fun e w' => e = .returned (thv ⟨x, ow, 4, st, 0, 0, 0, 0, 0, 0, false⟩) ∧ w.grownBy w' none := by
  obtain ⟨W1, hW1⟩ : ∃ W1, W1 = w.alloc (.cells #[.int .i64 0, .int .i64 0, .int .u8 0, .int .i64 0, .int .i64 0, .int .i64 0, .int .i64 0, .int .i64 0, .int .i64 0, .int .i64 0, .bool false] 60) := ⟨_, rfl⟩
  have HG1 : Hid (w.grownBy W1 none) := by rw [hW1]; exact World.grownBy_alloc _ _ none
  have HR1 : Hid (ThB W1 w.heap.size ⟨0, 0, 0, 0, 0, 0, 0, 0, 0, 0, false⟩) := by rw [hW1]; exact alloc_at _ _ _
  have C1 := vnumber_any b n3 es p ok s W1 (B.keep HG1.out) (grown_keep HG1.out hx (by simp))
  rw [hn] at C1
  have f0 : W1.cell? ⟨n6, 0, none⟩ = some (.func (.func 67) #[] #[.pointer (some ⟨n3, 0, none⟩)]) := (block_cell (grown_keep HG1.out hf (by simp)) 0).trans rfl
  unfold thv
  clear B hx hf hn
  go_enter Tryz.func68, Tryz.ntmps68
  go_upto_region 1 with fail
  rw [← hW1]
  clear hW1
  obtain ⟨n0, hn0⟩ : ∃ n0, n0 = w.heap.size := ⟨_, rfl⟩
  have Hn0 : Hid (w.heap.size ≤ n0) := by show _ ≤ _; omega
  simp only [← hn0] at HR1 ⊢
  clear hn0
  go_wp2_with (go_at_call 67; refine C1.mono ?_; rintro e1 w1 ⟨rfl, g1⟩; have HG2 : Hid (W1.grownBy w1 none) := g1; have HR2 : Hid (ThB w1 n0 ⟨0, 0, 0, 0, 0, 0, 0, 0, 0, 0, false⟩) := grown_keep g1 HR1.out (by simp); obtain ⟨r0, r1, r2, r3, r4, r5, r6, r7, r8, r9, r10⟩ := th_box HR2.out; have rf := fun i => block_free HR2.out i; clear C1 g1)
  refine bodyPost_ret (v := .agg #[.int .i64 x, .int .i64 ow, .int .u8 4, .int .i64 st, .int .i64 0, .int .i64 0, .int .i64 0, .int .i64 0, .int .i64 0, .int .i64 0, .bool false]) (by simp [results, Tryz.results68, go_sem, r0, r1, r2, r3, r4, r5, r6, r7, r8, r9, r10]) rfl ⟨rfl, ?_⟩
  have k : ∀ {v : World} (i : Nat) (u : Value), w.grownBy v none → w.grownBy (v.setCell ⟨n0, i, none⟩ u) none := fun i u q => grown_own q (grown_set _ _ _ _) (fun y e => by cases e; exact Hn0.out)
  exact k _ _ (k _ _ (k _ _ (k _ _ (k _ _ (k _ _ (k _ _ (k _ _ (k _ _ (k _ _ (k _ _ (grown_trans HG1.out HG2.out)))))))))))
end Go.Proofs.YtmemeloehgemcaaGreat
