/-
  Layers, plainly: the rows of a table, what they hang on; features picked and laid back; effects found, and listed.
  Layers, plainly: two Raises, neither of which depends on the other, in either order.
  A pair of books, filled alike: CopyCard; what a step keeps.
-/
import Derived.Test.YtmemeloehgemcaaGreatL33
import Derived.Test.YtmemeloehgemcaaGreatL25
import Derived.Test.YtmemeloehgemcaaGreatL13
import Derived.Test.YtmemeloehgemcaaGreatL21
namespace Go.Proofs.YtmemeloehgemcaaGreat
open Go.RowKit Go.Shelf

/-- The rows that things make, from the place i on. -/
def tblR (cd : Int → Hd × List Pt) : List (Th × Fe) → Nat → List Rw
  | [], _ => []
  | (t, _) :: r, i => if t.place = 4 then ⟨(i : Int) + 1, t.stamp, (cd t.card).1, (cd t.card).2⟩ :: tblR cd r (i + 1) else tblR cd r (i + 1)
theorem tblR_no {cd : Int → Hd × List Pt} {t : Th} {f : Fe} {r : List (Th × Fe)} {i : Nat} (h : ¬ t.place = 4) : tblR cd ((t, f) :: r) i = tblR cd r (i + 1) := by
  rw [tblR, if_neg h]
theorem tblR_yes {cd : Int → Hd × List Pt} {t : Th} {f : Fe} {r : List (Th × Fe)} {i : Nat} (h : t.place = 4) : tblR cd ((t, f) :: r) i = ⟨(i : Int) + 1, t.stamp, (cd t.card).1, (cd t.card).2⟩ :: tblR cd r (i + 1) := by
  rw [tblR, if_pos h]
theorem layF_rows {n : Int} {cd : Int → Hd × List Pt} : ∀ (l : List (Th × Fe)) (i : Nat) (acc A : List Rw), layF n cd l i acc = some A → A = acc ++ tblR cd l i ∧ ∀ x ∈ l, x.1.place = 4 → mayLieB x.1 x.2 = true
  | [], i, acc, A, h => by
    simp only [layF, Option.some.injEq] at h
    subst h
    exact ⟨(List.append_nil _).symm, fun x hx => by cases hx⟩
  | (t, f) :: r, i, acc, A, h => by
    unfold layF at h
    split at h
    · cases h
    · split at h
      · rename_i hp
        obtain ⟨e, q⟩ := layF_rows r (i + 1) acc A h
        refine ⟨?_, fun x hx h4 => ?_⟩
        · rw [e, tblR_no hp]
        · rcases List.mem_cons.1 hx with rfl | hx
          · exact absurd h4 hp
          · exact q x hx h4
      · rename_i hp
        have hp' : t.place = 4 := Decidable.of_not_not hp
        split at h
        · cases h
        · rename_i hm
          split at h
          · cases h
          · obtain ⟨e, q⟩ := layF_rows r (i + 1) _ A h
            refine ⟨?_, fun x hx h4 => ?_⟩
            · rw [e, tblR_yes hp', List.append_assoc, List.singleton_append]
            · rcases List.mem_cons.1 hx with rfl | hx
              · have h2 : ¬ mayLieB t f = false := fun q => hm (Or.inr q)
                cases h3 : mayLieB t f with
                | true => rfl
                | false => exact absurd h3 h2
              · exact q x hx h4
/-- What is laid hangs on features just by whether they may lie. -/
theorem layF_same {n : Int} {cd : Int → Hd × List Pt} : ∀ (l l' : List (Th × Fe)) (i : Nat) (acc : List Rw), l.length = l'.length → (∀ (j : Nat) t f t' f', l[j]? = some (t, f) → l'[j]? = some (t', f') → t = t' ∧ (t.place = 4 → mayLieB t f = mayLieB t f')) → layF n cd l i acc = layF n cd l' i acc
  | [], [], _, _, _, _ => rfl
  | [], _ :: _, _, _, h, _ => by cases h
  | _ :: _, [], _, _, h, _ => by cases h
  | (t, f) :: r, (t', f') :: r', i, acc, h, q => by
    obtain ⟨rfl, q0⟩ := q 0 t f t' f' rfl rfl
    have q1 : ∀ (j : Nat) a b c d, r[j]? = some (a, b) → r'[j]? = some (c, d) → a = c ∧ (a.place = 4 → mayLieB a b = mayLieB a d) := fun j a b c d h1 h2 => q (j + 1) a b c d h1 h2
    have hl : r.length = r'.length := by simpa using h
    unfold layF
    rw [layF_same r r' (i + 1) acc hl q1, layF_same r r' (i + 1) _ hl q1]
    by_cases hp : t.place = 4
    · rw [q0 hp]
    · simp only [if_pos hp]
theorem tbl_nu {cd : Int → Hd × List Pt} : ∀ (l : List (Th × Fe)) (i : Nat), (∀ r ∈ tblR cd l i, (i : Int) < r.nu ∧ r.nu ≤ (i : Int) + l.length) ∧ (tblR cd l i).Pairwise fun a b => a.nu < b.nu
  | [], i => ⟨fun r h => (by cases h), List.Pairwise.nil⟩
  | (t, f) :: l, i => by
    obtain ⟨h1, h2⟩ := tbl_nu (cd := cd) l (i + 1)
    simp only [List.length_cons]
    by_cases hp : t.place = 4
    · rw [tblR_yes hp]
      refine ⟨fun r hr => ?_, List.Pairwise.cons (fun r hr => ?_) h2⟩
      · rcases List.mem_cons.1 hr with rfl | hr
        · exact ⟨by show (i : Int) < (i : Int) + 1; omega, by show (i : Int) + 1 ≤ _; omega⟩
        · have := h1 r hr; omega
      · have := h1 r hr
        show (i : Int) + 1 < r.nu
        omega
    · rw [tblR_no hp]
      exact ⟨fun r hr => by have := h1 r hr; omega, h2⟩
theorem tbl_mem {cd : Int → Hd × List Pt} : ∀ (l : List (Th × Fe)) (i j : Nat) (t : Th) (f : Fe), l[j]? = some (t, f) → t.place = 4 → ∃ r ∈ tblR cd l i, r.nu = (i : Int) + j + 1
  | [], i, j, t, f, h, _ => by simp at h
  | (t', f') :: l, i, 0, t, f, h, h4 => by
    simp at h
    obtain ⟨rfl, rfl⟩ := h
    rw [tblR_yes h4]
    exact ⟨_, List.mem_cons_self, by show (i : Int) + 1 = _; omega⟩
  | (t', f') :: l, i, j + 1, t, f, h, h4 => by
    obtain ⟨r, hr, e⟩ := tbl_mem (cd := cd) l (i + 1) j t f (by simpa using h) h4
    refine ⟨r, ?_, by rw [e]; omega⟩
    by_cases hp : t'.place = 4
    · rw [tblR_yes hp]; exact List.mem_cons_of_mem _ hr
    · rw [tblR_no hp]; exact hr
theorem tbl_of {cd : Int → Hd × List Pt} : ∀ (l : List (Th × Fe)) (i : Nat) (r : Rw), r ∈ tblR cd l i → ∃ (j : Nat) (t : Th) (f : Fe), l[j]? = some (t, f) ∧ t.place = 4 ∧ r = ⟨(i : Int) + j + 1, t.stamp, (cd t.card).1, (cd t.card).2⟩
  | [], i, r, h => by cases h
  | (t, f) :: l, i, r, h => by
    by_cases hp : t.place = 4
    · rw [tblR_yes hp] at h
      rcases List.mem_cons.1 h with rfl | h
      · exact ⟨0, t, f, rfl, hp, by simp⟩
      · obtain ⟨j, a, b, h1, h2, h3⟩ := tbl_of l (i + 1) r h
        exact ⟨j + 1, a, b, by simpa using h1, h2, by rw [h3]; simp only [Rw.mk.injEq, and_true]; omega⟩
    · rw [tblR_no hp] at h
      obtain ⟨j, a, b, h1, h2, h3⟩ := tbl_of l (i + 1) r h
      exact ⟨j + 1, a, b, by simpa using h1, h2, by rw [h3]; simp only [Rw.mk.injEq, and_true]; omega⟩
/-- What a table is, plainly. -/
structure Tab (n : Int) (cd : Int → Hd × List Pt) (ts : List Th) (fs : List Fe) (R : List Rw) : Prop where
  tab : tabR n cd ts fs = some R
  len : ts.length = fs.length
  perm : R.Perm (tblR cd (ts.zip fs) 0)
  nod : (R.map Rw.nu).Nodup
  nu : ∀ r ∈ R, 1 ≤ r.nu ∧ r.nu ≤ (fs.length : Int)
  may : ∀ (j : Nat) t f, ts[j]? = some t → fs[j]? = some f → t.place = 4 → mayLieB t f = true
  few : R.length ≤ 16
theorem layF_few {n : Int} {cd : Int → Hd × List Pt} : ∀ (l : List (Th × Fe)) (i : Nat) (acc A : List Rw), acc.length ≤ 16 → layF n cd l i acc = some A → A.length ≤ 16
  | [], i, acc, A, h0, h => by
    simp only [layF, Option.some.injEq] at h
    subst h
    exact h0
  | (t, f) :: r, i, acc, A, h0, h => by
    unfold layF at h
    split at h
    · cases h
    · split at h
      · exact layF_few r (i + 1) acc A h0 h
      · split at h
        · cases h
        · rename_i hm
          split at h
          · cases h
          · exact layF_few r (i + 1) _ A (by rw [List.length_append, List.length_singleton]; have : ¬ acc.length = 16 := fun q => hm (Or.inl q); omega) h
theorem zip_get {ts : List Th} {fs : List Fe} {j : Nat} {t : Th} {f : Fe} : (ts.zip fs)[j]? = some (t, f) ↔ ts[j]? = some t ∧ fs[j]? = some f := by
  rw [List.getElem?_zip_eq_some]
theorem Tab.of {n : Int} {cd : Int → Hd × List Pt} {ts : List Th} {fs : List Fe} {R : List Rw} (h : tabR n cd ts fs = some R) : Tab n cd ts fs R := by
  have h' := h
  unfold tabR at h
  split at h
  · rename_i hl
    split at h
    · rename_i acc ha
      split at h
      · cases h
        obtain ⟨e, q⟩ := layF_rows _ _ _ _ ha
        rw [List.nil_append] at e
        have hp : (sortR acc).Perm (tblR cd (ts.zip fs) 0) := by rw [← e]; exact List.mergeSort_perm _ _
        obtain ⟨n1, n2⟩ := tbl_nu (cd := cd) (ts.zip fs) 0
        refine ⟨h', hl, hp, ?_, fun r hr => ?_, fun j t f a b c => ?_, ?_⟩
        · rw [(hp.map Rw.nu).nodup_iff]
          exact List.Pairwise.map _ (fun a b q => by omega) n2
        · have := n1 r (hp.mem_iff.1 hr)
          rw [List.length_zip] at this
          omega
        · exact q (t, f) (List.mem_of_getElem? (zip_get.2 ⟨a, b⟩)) c
        · rw [hp.length_eq, ← e]; exact layF_few _ _ _ _ (Nat.zero_le _) ha
      · cases h
    · cases h
  · cases h
/-- Another table's rows, of the same things and features that may lie. -/
theorem Tab.turn {n : Int} {cd : Int → Hd × List Pt} {ts : List Th} {fs fs' : List Fe} {R : List Rw} (h : Tab n cd ts fs R) (hl : fs'.length = fs.length) (hm : ∀ (j : Nat) t f, ts[j]? = some t → fs'[j]? = some f → t.place = 4 → mayLieB t f = true) : Tab n cd ts fs' R := by
  refine Tab.of ?_
  have e : layF n cd (ts.zip fs') 0 [] = layF n cd (ts.zip fs) 0 [] := by
    refine layF_same _ _ _ _ (by rw [List.length_zip, List.length_zip, hl]) fun j t f t' f' a b => ?_
    obtain ⟨a1, a2⟩ := zip_get.1 a
    obtain ⟨b1, b2⟩ := zip_get.1 b
    rw [a1] at b1
    cases b1
    exact ⟨rfl, fun h4 => by rw [hm j t f a1 a2 h4, h.may j t f' a1 b2 h4]⟩
  have := h.tab
  unfold tabR at this ⊢
  rw [hl, e]
  exact this
theorem Tab.has {n : Int} {cd : Int → Hd × List Pt} {ts : List Th} {fs : List Fe} {R : List Rw} (h : Tab n cd ts fs R) {j : Nat} {t : Th} (ht : ts[j]? = some t) (h4 : t.place = 4) : ∃ i, i < R.length ∧ (R.getD i Rw.none).nu = (j : Int) + 1 := by
  have hj : j < ts.length := (List.getElem?_eq_some_iff.1 ht).1
  obtain ⟨f, hf⟩ : ∃ f, fs[j]? = some f := ⟨_, List.getElem?_eq_getElem (by rw [← h.len]; exact hj)⟩
  obtain ⟨r, hr, e⟩ := tbl_mem (cd := cd) (ts.zip fs) 0 j t f (zip_get.2 ⟨ht, hf⟩) h4
  obtain ⟨i, hi, e2⟩ := List.getElem_of_mem (h.perm.mem_iff.2 hr)
  exact ⟨i, hi, by rw [getD_in hi, e2, e]; simp⟩
theorem Tab.from {n : Int} {cd : Int → Hd × List Pt} {ts : List Th} {fs : List Fe} {R : List Rw} (h : Tab n cd ts fs R) {r : Rw} (hr : r ∈ R) : ∃ (j : Nat) (t : Th), ts[j]? = some t ∧ t.place = 4 ∧ r.nu = (j : Int) + 1 ∧ r.st = t.stamp := by
  obtain ⟨j, t, f, a, b, c⟩ := tbl_of _ _ _ (h.perm.mem_iff.1 hr)
  exact ⟨j, t, (zip_get.1 a).1, b, by rw [c]; simp, by rw [c]⟩
theorem nu_inj {R : List Rw} (h : (R.map Rw.nu).Nodup) {i k : Nat} (hi : i < R.length) (hk : k < R.length) (e : (R.getD i Rw.none).nu = (R.getD k Rw.none).nu) : i = k := by
  rw [getD_in hi, getD_in hk] at e
  have h' := List.pairwise_iff_getElem.1 h
  rcases Nat.lt_trichotomy i k with q | q | q
  · exact absurd (by rw [List.getElem_map, List.getElem_map]; exact e) (h' i k (by simpa using hi) (by simpa using hk) q)
  · exact q
  · exact absurd (by rw [List.getElem_map, List.getElem_map]; exact e.symm) (h' k i (by simpa using hk) (by simpa using hi) q)
/-- Features laid back: at a row's thing, elsewhere. -/
theorem amgU_at {fs : List Fe} {R : List Rw} {F : List Fe} (hn : (R.map Rw.nu).Nodup) (hb : ∀ r ∈ R, 1 ≤ r.nu ∧ r.nu ≤ (fs.length : Int)) : ∀ m, m ≤ R.length → (∀ i, i < m → (amgU fs R F m)[((R.getD i Rw.none).nu - 1).toNat]? = some (F.getD i Fe.none)) ∧ ∀ j : Nat, (∀ i, i < m → (R.getD i Rw.none).nu ≠ (j : Int) + 1) → (amgU fs R F m)[j]? = fs[j]?
  | 0, _ => ⟨fun i h => absurd h (Nat.not_lt_zero _), fun j _ => rfl⟩
  | m + 1, h => by
    obtain ⟨q1, q2⟩ := amgU_at (F := F) hn hb m (by omega)
    have hbm := hb _ (List.getElem_mem (show m < R.length by omega))
    rw [← getD_in (d := Rw.none) (show m < R.length by omega)] at hbm
    rw [amgU_next]
    refine ⟨fun i hi => ?_, fun j hj => ?_⟩
    · by_cases e : i = m
      · subst e
        rw [List.getElem?_set_self (by rw [amgU_len]; omega)]
      · have hbi := hb _ (List.getElem_mem (show i < R.length by omega))
        rw [← getD_in (d := Rw.none) (show i < R.length by omega)] at hbi
        have hne : (R.getD m Rw.none).nu ≠ (R.getD i Rw.none).nu := fun q => e (nu_inj hn (by omega) (by omega) q.symm)
        rw [List.getElem?_set_ne (by omega)]
        exact q1 i (by omega)
    · rw [List.getElem?_set_ne (by have := hj m (by omega); omega)]
      exact q2 j fun i hi => hj i (by omega)
theorem amgL_len (fs : List Fe) (R : List Rw) (F : List Fe) : (amgL fs R F).length = fs.length := amgU_len fs R F _
theorem pickF_len (R : List Rw) (fs : List Fe) : (pickF R fs).length = R.length := List.length_map _
/-- Features on the table that may lie there. -/
def Goodf (F : List Fe) : Prop := ∀ f ∈ F, isPl f.ho = true ∧ tCheck f.tr = true
theorem Tab.good {n : Int} {cd : Int → Hd × List Pt} {ts : List Th} {fs : List Fe} {R : List Rw} (h : Tab n cd ts fs R) : Goodf (pickF R fs) := fun f hf => by
  unfold pickF at hf
  obtain ⟨r, hr, e⟩ := List.mem_map.1 hf
  obtain ⟨j, t, a, b, c, _⟩ := h.from hr
  have hj : j < ts.length := (List.getElem?_eq_some_iff.1 a).1
  have hj' : j < fs.length := by rw [← h.len]; exact hj
  rw [c, show ((j : Int) + 1 - 1).toNat = j by omega, getD_in hj'] at e
  have := h.may j t _ a (List.getElem?_eq_getElem hj') b
  rw [e] at this
  unfold mayLieB at this
  simp only [Bool.and_eq_true] at this
  exact ⟨this.1.2, this.2⟩
theorem Tab.back {n : Int} {cd : Int → Hd × List Pt} {ts : List Th} {fs : List Fe} {R : List Rw} (h : Tab n cd ts fs R) {F : List Fe} (hF : F.length = R.length) (hg : Goodf F) : Tab n cd ts (amgL fs R F) R := by
  refine h.turn (amgL_len _ _ _) fun j t f a b h4 => ?_
  obtain ⟨i, hi, e⟩ := h.has a h4
  have e1 := (amgU_at (F := F) h.nod h.nu R.length (Nat.le_refl _)).1 i hi
  rw [e, show ((j : Int) + 1 - 1).toNat = j by omega] at e1
  have b' : (amgU fs R F R.length)[j]? = some f := b
  rw [e1] at b'
  cases b'
  have hj : j < ts.length := (List.getElem?_eq_some_iff.1 a).1
  have hs := h.may j t _ a (List.getElem?_eq_getElem (by rw [← h.len]; exact hj)) h4
  obtain ⟨g1, g2⟩ := hg (F.getD i Fe.none) (by rw [getD_in (show i < F.length by omega)]; exact List.getElem_mem _)
  unfold mayLieB at hs ⊢
  simp only [Bool.and_eq_true] at hs ⊢
  exact ⟨⟨hs.1.1, g1⟩, g2⟩
theorem applyL_at {R : List Rw} {F : List Fe} {e : Se} {i : Nat} (h : i < F.length) : (applyL R F e).getD i Fe.none = applyAt R F e i := by
  unfold applyL
  rw [getD_in (by simpa using h)]
  simp
/-- An effect of a table. -/
theorem eff_mem {R : List Rw} {F : List Fe} {k : Int} {e : Se} (h : e ∈ effL R F k) : e.ro < R.length ∧ e.s.th = (R.getD e.ro Rw.none).nu ∧ ∃ j, j < (R.getD e.ro Rw.none).ps.length ∧ e.s.pl = (j : Int) ∧ e.s.wh = (R.getD e.ro Rw.none).ps.getD j Pt.none ∧ e.s.wh.wn = 5 ∧ lay e.s.wh.vb = k := by
  unfold effL effU at h
  rw [List.mem_flatMap] at h
  obtain ⟨i, hi, h⟩ := h
  rw [List.mem_range] at hi
  unfold effR at h
  split at h
  · cases h
  · unfold effP at h
    rw [List.mem_filterMap] at h
    obtain ⟨j, hj, h⟩ := h
    rw [List.mem_range] at hj
    split at h
    · rename_i hc
      cases h
      exact ⟨hi, rfl, j, hj, rfl, rfl, hc.1, hc.2⟩
    · cases h
theorem samep_refl (p : Pt) : samep p p = true := by unfold samep; simp
theorem rowOf_is {R : List Rw} (h : (R.map Rw.nu).Nodup) {i : Nat} (hi : i < R.length) : rowOf R (R.getD i Rw.none).nu = some i := by
  unfold rowOf
  rw [List.findIdx?_eq_some_iff_getElem]
  refine ⟨hi, by rw [getD_in hi]; simp, fun j hj q => ?_⟩
  have e : (R.getD j Rw.none).nu = (R.getD i Rw.none).nu := by rw [getD_in (show j < R.length by omega)]; simpa using q
  exact absurd (nu_inj h (by omega) hi e) (by omega)
theorem find_eff {R : List Rw} {F : List Fe} {k : Int} {e : Se} (hn : (R.map Rw.nu).Nodup) (h : e ∈ effL R F k) : findF R e.s = some e := by
  obtain ⟨h1, h2, j, h3, h4, h5, h6, h7⟩ := eff_mem h
  unfold findF
  rw [h2, rowOf_is hn h1]
  simp only
  rw [if_pos]
  unfold hasSt
  rw [h4, h6, show ((j : Int)).toNat = j by omega, ← h5, samep_refl, decide_eq_true (show (0 : Int) ≤ (j : Int) by omega), decide_eq_true (show (j : Int) < ((R.getD e.ro Rw.none).ps.length : Int) by omega)]
  rfl
theorem clash_no {R : List Rw} {F : List Fe} {k : Int} {a b : Se} (hn : (R.map Rw.nu).Nodup) (ha : a ∈ effL R F k) (hb : b ∈ effL R F k) (h : ¬ (a.ro = b.ro ∧ a.s.pl = b.s.pl)) : clashB a b = false := by
  obtain ⟨a1, a2, _, _, _, _, _, a7⟩ := eff_mem ha
  obtain ⟨b1, b2, _, _, _, _, _, b7⟩ := eff_mem hb
  rw [clash_layer (fun q => h ⟨?_, q.2⟩), a7, b7]
  · simp
  · exact nu_inj hn a1 b1 (by rw [← a2, ← b2]; exact q.1)
theorem listF_ok {R : List Rw} : ∀ (L acc : List Se), (∀ e ∈ L, findF R e.s = some e) → (L.Pairwise fun a b => clashB b a = false) → (∀ a ∈ acc, ∀ b ∈ L, clashB b a = false) → listF R (L.map Se.s) acc = some (acc ++ L)
  | [], acc, _, _, _ => by simp [listF]
  | e :: L, acc, h1, h2, h3 => by
    rw [List.map_cons]
    unfold listF
    rw [h1 e List.mem_cons_self]
    simp only
    rw [if_pos (by
      unfold joinsB
      rw [List.all_eq_true]
      intro o ho
      rw [h3 o ho e List.mem_cons_self]
      rfl)]
    rw [List.pairwise_cons] at h2
    rw [listF_ok L (acc ++ [e]) (fun x hx => h1 x (List.mem_cons_of_mem _ hx)) h2.2 (fun a ha b hb => by
      rcases List.mem_append.1 ha with ha | ha
      · exact h3 a ha b (List.mem_cons_of_mem _ hb)
      · rw [List.mem_singleton] at ha
        subst ha
        exact h2.1 b hb), List.append_assoc, List.singleton_append]
theorem list_eff {R : List Rw} {F : List Fe} {k : Int} {L : List Se} (hn : (R.map Rw.nu).Nodup) (h : ∀ e ∈ L, e ∈ effL R F k) (hp : L.Pairwise fun a b => ¬ (a.ro = b.ro ∧ a.s.pl = b.s.pl)) : listF R (L.map Se.s) [] = some L := by
  have := listF_ok (R := R) L [] (fun e he => find_eff hn (h e he)) (List.Pairwise.imp_of_mem (fun {a b} ha hb q => clash_no hn (h b hb) (h a ha) (fun z => q ⟨z.1.symm, z.2.symm⟩)) hp) (fun a ha => by cases ha)
  simpa using this
end Go.Proofs.YtmemeloehgemcaaGreat
namespace Go.Proofs.YtmemeloehgemcaaGreat
open Go.RowKit Go.Shelf

theorem Tab.one {n : Int} {cd : Int → Hd × List Pt} {ts : List Th} {fs : List Fe} {R : List Rw} {k : Int} {F : List Fe} {a : Se} (h : Tab n cd ts fs R) (ha : a ∈ effL R F k) : listF R [a.s] [] = some [a] := list_eff (L := [a]) (k := k) h.nod (fun e he => by
  rw [List.mem_singleton] at he; subst he; exact ha) (by simp)
end Go.Proofs.YtmemeloehgemcaaGreat
namespace Go.Proofs.YtmemeloehgemcaaGreat
open Go.RowKit

theorem caE_zero {p : Pl} {es : List Ent} {c : Cd} (h0 : caE p es c = 0) : p.shut = false ∧ cchk c = 0 ∧ ¬ c.nm ∈ names es := by
  unfold caE at h0
  split at h0
  · omega
  · rename_i hs
    split at h0
    · exact absurd h0 (by assumption)
    · rename_i hq
      split at h0
      · omega
      · rename_i hz
        exact ⟨by simpa using hs, by simpa using hq, pos_no (Int.not_le.1 hz)⟩
theorem ins_names (es : List Ent) (e : Ent) : (names (ins es e)).Perm (e.h.nm :: names es) := by
  induction es with
  | nil => exact List.Perm.refl _
  | cons y r ih =>
    rw [ins_cons]
    split
    · exact (List.Perm.cons _ ih).trans (List.Perm.swap _ _ _)
    · exact List.Perm.refl _
theorem hp_at {es fs : List Ent} (h : es.map hp = fs.map hp) {m : Nat} {e : Ent} (he : es[m]? = some e) : ∃ f, fs[m]? = some f ∧ f.h = e.h ∧ f.ps = e.ps := by
  have h1 : (es.map hp)[m]? = some (hp e) := by rw [List.getElem?_map, he]; rfl
  rw [h, List.getElem?_map] at h1
  cases hf : fs[m]? with
  | none => rw [hf] at h1; cases h1
  | some f =>
    rw [hf] at h1
    injection h1 with h1
    injection h1 with h1 h2
    exact ⟨f, rfl, h1, h2⟩
theorem Pr.step {ok : Nat → Prop} {w U1 U2 : World} {b r : Nat} {v : Value} {es fs : List Ent} {p p' : Pl} (P : Pr ok w b r v es fs p) (hb : ¬ ok b) (hr : ¬ ok r) (hne : ¬ b = r) (B : Book ok U1 b es p') (g1 : w.grownBy U1 (some b)) (R : RJ U2 r v p') (g2 : U1.grownBy U2 (some r)) (hm : MkD p') (hz : p'.nms[0]? = some ⟨#[]⟩) : Pr ok U2 b r v es fs p' := by
  have nb : ∀ k, ok k → some k ≠ some b := fun k hk e => by injection e with e; exact hb (e ▸ hk)
  have nr : ∀ k, ok k → some k ≠ some r := fun k hk e => by injection e with e; exact hr (e ▸ hk)
  refine ⟨B.keepR g2 (fun e => by injection e with e; exact hne e) nr, R, ?_, ?_, (P.good.keepR g1 nb).keepR g2 nr, P.same, hm, hz⟩
  · exact (P.rl.keepR g1 (fun k hk => nb k (P.own k hk).1)).keepR g2 (fun k hk => nr k (P.own k hk).1)
  · intro k hk
    exact ⟨(P.own k hk).1, Nat.lt_of_lt_of_le (P.own k hk).2 (Nat.le_trans g1.size g2.size)⟩
theorem maP_zero' {p : Pl} (h : p.nms[0]? = some ⟨#[]⟩) (m : Mk) : (maP p m).nms[0]? = some ⟨#[]⟩ := by
  unfold maP
  split <;> exact h
theorem sealP_zero' {p : Pl} (h : p.nms[0]? = some ⟨#[]⟩) (es : List Ent) : (sealP p es).nms[0]? = some ⟨#[]⟩ := by
  unfold sealP
  split <;> exact h
theorem sealP_mkd {p : Pl} (h : MkD p) (es : List Ent) : MkD (sealP p es) := by
  unfold sealP
  split <;> exact h
theorem hp_kd {es fs : List Ent} (h : es.map hp = fs.map hp) (n : Nat) : kdAt es n = kdAt fs n := by
  unfold kdAt
  cases he : es[n]? with
  | none =>
    have h1 : fs[n]? = none := List.getElem?_eq_none (by rw [← hp_len h]; exact List.getElem?_eq_none_iff.1 he)
    rw [h1]
  | some e =>
    obtain ⟨f, hf, h1, _⟩ := hp_at h he
    rw [hf]
    simp only
    rw [h1]
theorem hp_call {es fs : List Ent} (h : es.map hp = fs.map hp) (x : Pt) : callE es x = callE fs x := by
  unfold callE
  rw [hp_names h, hp_kd h]
theorem hp_calls {es fs : List Ent} (h : es.map hp = fs.map hp) : ∀ ps, callsE es ps = callsE fs ps
  | [] => rfl
  | x :: r => by simp only [callsE, hp_call h, hp_calls h r]
theorem hp_sealL {es fs : List Ent} (h : es.map hp = fs.map hp) : ∀ {a b : List Ent}, a.map hp = b.map hp → sealL es a = sealL fs b
  | [], [], _ => rfl
  | [], _ :: _, e => by simp at e
  | _ :: _, [], e => by simp at e
  | x :: r, y :: t, e => by
    rw [List.map_cons, List.map_cons] at e
    injection e with e1 e2
    injection e1 with _ e1
    simp only [sealL, hp_calls h, e1, hp_sealL h e2]
theorem hp_seal {es fs : List Ent} (h : es.map hp = fs.map hp) (p : Pl) : sealE p es = sealE p fs ∧ sealP p es = sealP p fs := by
  have h1 : sealE p es = sealE p fs := by unfold sealE; rw [hp_sealL h h]
  refine ⟨h1, ?_⟩
  unfold sealP
  rw [h1]
theorem plNew_mkd : MkD plNew := ⟨rfl, fun m hm => by simp [plNew] at hm; exact Or.inl hm⟩
set_option maxRecDepth 100000 in
set_option maxHeartbeats 2000000 in
theorem copyCard_any (h : Hd) (v : Value) (ps : List Pt) (w : World) (hp : PsAt w v ps) (hL : Fits ps.length) : Calls Tryz.prog 42 #[cv h v] w fun e w' => ∃ a c, e = .returned (cv h (.slice a ps.length c)) ∧ POwn w' w.heap.size (.slice a ps.length c) ps ∧ w.grownBy w' none := by
  have HP : Hid (PsAt w v ps) := hp
  obtain ⟨nm, su, kd, co, po, he, tr, tk⟩ := h
  obtain ⟨a, c, rfl⟩ := hp.form
  clear hp
  unfold cv
  simp only
  go_enter Tryz.func42, Tryz.ntmps42
  go_wp2_with fail
  refine (copy_any _ ps _ (HP.out.keep (grown_push (World.grownBy_alloc _ _ none) _)) hL.copy).mono ?_
  rintro e w1 ⟨u, rfl, o1, g1⟩
  obtain ⟨a1, c1', rfl⟩ := o1.at.form
  rw [World.size_alloc, World.size_alloc] at o1
  have A2 : CAt w1 w.heap.size ⟨nm, su, kd, co, po, he, tr, tk⟩ (.slice a ps.length c) := by
    refine CAt.keep ?_ g1
    exact CAt.keep (alloc_at w (ccs ⟨nm, su, kd, co, po, he, tr, tk⟩ (.slice a ps.length c)) 88) (World.grownBy_alloc _ _ none)
  have Z2 : CAt w1 (w.heap.size + 1) Hd.none (.slice none 0 0) := by
    refine CAt.keep ?_ g1
    have := alloc_at (w.alloc (.cells (ccs ⟨nm, su, kd, co, po, he, tr, tk⟩ (.slice a ps.length c)) 88)) (ccs Hd.none (.slice none 0 0)) 88
    rw [World.size_alloc] at this
    exact this
  have G2 : w.grownBy w1 none := grown_trans (grown_push (World.grownBy_alloc _ _ none) _) g1
  clear g1
  obtain ⟨c0, c1, c2, c3, c4, c5, c6, c7, c8⟩ := A2.cells
  obtain ⟨z0, z1, z2, z3, z4, z5, z6, z7, z8⟩ := Z2.cells
  have f := A2.free 8
  have e0 := Z2.free 0; have e1 := Z2.free 1; have e2 := Z2.free 2; have e3 := Z2.free 3; have e4 := Z2.free 4; have e5 := Z2.free 5; have e6 := Z2.free 6; have e7 := Z2.free 7; have e8 := Z2.free 8
  simp only [Hd.none] at c0 c1 c2 c3 c4 c5 c6 c7 c8 z0 z1 z2 z3 z4 z5 z6 z7 z8
  have HO : Hid (POwn w1 (w.heap.size + 1 + 1) (.slice a1 ps.length c1') ps) := o1
  have HG : Hid (w.grownBy w1 none) := G2
  clear A2 Z2 G2 o1 HP
  go_wp2
  refine bodyPost_ret (v := .agg #[.string nm, .int .u8 su, .int .u8 kd, .int .i64 co, .int .i64 po, .int .i64 he, .int .u16 tr, .bool tk, .slice a1 ps.length c1']) (by simp [results, Tryz.results42, go_sem, z0, z1, z2, z3, z4, z5, z6, z7, z8]) rfl ⟨a1, c1', rfl, ?_, ?_⟩
  · exact ((HO.out.keep (grown_set _ _ 8 _) (fun x e => by cases e; omega)).keep (row_st9 _ (w.heap.size + 1) _ _ _ _ _ _ _ _ _) (fun x e => by cases e; omega)).big (by omega)
  · exact grown_own (grown_own HG.out (grown_set _ _ 8 _) (fun x e => by cases e; exact Nat.le_refl _)) (row_st9 _ (w.heap.size + 1) _ _ _ _ _ _ _ _ _) (fun x e => by cases e; omega)
/-- A card is added to both. -/
theorem Pr.card {ok : Nat → Prop} {w w1 w2 w3 w4 : World} {b r : Nat} {v : Value} {es fs : List Ent} {p : Pl} {h : Hd} {u u' : Value} {v' : Value} {ps : List Pt} {t : Int} (P : Pr ok w b r v es fs p) (hr : ¬ ok r) (hne : ¬ b = r) (hnew : ∀ k, w.heap.size ≤ k → ok k) (g1 : w.grownBy w1 none) (B2 : Book ok w2 b (if t = 0 then ins es ⟨h, u, ps⟩ else es) p) (g2 : w1.grownBy w2 (some b)) (g3 : w2.grownBy w3 none) (Q1 : RJ w4 r v' p) (Q2 : RL w4 v' (if t = 0 then ins fs ⟨h, u', ps⟩ else fs)) (Q3 : v' = v ∨ ∀ k, v'.ownBlock = some k → w3.heap.size ≤ k ∧ k < w4.heap.size) (Q4 : Good (fun k => (ok k ∧ k < w3.heap.size) ∨ (w3.heap.size ≤ k ∧ some k ≠ v'.ownBlock)) w4 (if t = 0 then ins fs ⟨h, u', ps⟩ else fs)) (Q5 : w3.grownBy w4 (some r)) : ∃ fs', Pr ok w4 b r v' (if t = 0 then ins es ⟨h, u, ps⟩ else es) fs' p := by
  have nr : ∀ k, ok k → some k ≠ some r := fun k hk e => by cases e; exact hr hk
  have s1 : w.heap.size ≤ w3.heap.size := Nat.le_trans g1.size (Nat.le_trans g2.size g3.size)
  have s2 : w3.heap.size ≤ w4.heap.size := Q5.size
  refine ⟨_, (B2.keep g3).keepR Q5 (fun e => by cases e; exact hne rfl) nr, Q1, Q2, ?_, ?_, ?_, P.mkd, P.zero⟩
  · intro k hk
    rcases Q3 with rfl | Q3
    · have := P.own k hk
      exact ⟨this.1, by omega⟩
    · have := Q3 k hk
      exact ⟨hnew k (by omega), this.2⟩
  · exact Q4.mono fun k hk => hk.elim (fun h => h.1) (fun h => hnew k (by omega))
  · by_cases h0 : t = 0
    · rw [if_pos h0, if_pos h0]; exact hp_ins P.same _ _ _ _
    · rw [if_neg h0, if_neg h0]; exact P.same
end Go.Proofs.YtmemeloehgemcaaGreat
