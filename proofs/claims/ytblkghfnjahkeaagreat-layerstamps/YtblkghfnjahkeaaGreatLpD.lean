/-
  Layers, plainly: other stamps in the same order.
-/
import Derived.Test.YtblkghfnjahkeaaGreatR1
namespace Go.Proofs.YtblkghfnjahkeaaGreat
open Go.RowKit Go.Shelf

/-- A thing with another stamp. -/
structure Sh (b : Int) (t u : Th) : Prop where
  card : u.card = t.card
  owner : u.owner = t.owner
  place : u.place = t.place
  stamp : u.stamp = 3 * t.stamp + b
  pos : 1 ≤ t.stamp
def upst (b : Int) (r : Rw) : Rw := { r with st := 3 * r.st + b }
theorem sh_be {b n : Int} {t u : Th} (h : Sh b t u) : mayBeB n u = mayBeB n t := by unfold mayBeB; rw [h.card, h.owner, h.place]
theorem sh_lie {b : Int} {t u : Th} {f : Fe} (hb : 0 ≤ b) (h : Sh b t u) : mayLieB u f = mayLieB t f := by
  unfold mayLieB
  have h1 := h.pos
  rw [h.stamp, decide_eq_true (show 0 < t.stamp by omega), decide_eq_true (show 0 < 3 * t.stamp + b by omega)]
theorem layF_up {b n : Int} {cd : Int → Hd × List Pt} (hb : 0 ≤ b) : ∀ (l l' : List (Th × Fe)) (i : Nat) (acc : List Rw), l.length = l'.length → (∀ (j : Nat) t f t' f', l[j]? = some (t, f) → l'[j]? = some (t', f') → Sh b t t' ∧ f = f') → layF n cd l' i (acc.map (upst b)) = (layF n cd l i acc).map (List.map (upst b))
  | [], [], _, _, _, _ => rfl
  | [], _ :: _, _, _, h, _ => by cases h
  | _ :: _, [], _, _, h, _ => by cases h
  | (t, f) :: r, (t', f') :: r', i, acc, h, q => by
    obtain ⟨s, rfl⟩ := q 0 t f t' f' rfl rfl
    have q1 : ∀ (j : Nat) a b' c d, r[j]? = some (a, b') → r'[j]? = some (c, d) → Sh b a c ∧ b' = d := fun j a b' c d h1 h2 => q (j + 1) a b' c d h1 h2
    have hl : r.length = r'.length := by simpa using h
    have e1 := layF_up (n := n) (cd := cd) hb r r' (i + 1) acc hl q1
    have e2 := layF_up (n := n) (cd := cd) hb r r' (i + 1) (acc ++ [⟨(i : Int) + 1, t.stamp, (cd t.card).1, (cd t.card).2⟩]) hl q1
    rw [List.map_append, List.map_singleton] at e2
    unfold layF
    rw [sh_be s, s.place, sh_lie hb s, s.card, s.stamp, List.length_map, e1]
    have e3 : upst b ⟨(i : Int) + 1, t.stamp, (cd t.card).1, (cd t.card).2⟩ = ⟨(i : Int) + 1, 3 * t.stamp + b, (cd t.card).1, (cd t.card).2⟩ := rfl
    rw [e3] at e2
    rw [e2]
    split
    · rfl
    · split
      · rfl
      · split
        · rfl
        · split
          · rfl
          · rfl
theorem dif_map {b : Int} : ∀ l : List Int, dif (l.map fun x => 3 * x + b) = dif l
  | [] => rfl
  | [a] => rfl
  | a :: c :: l => by
    have e := dif_map (b := b) (c :: l)
    rw [List.map_cons] at e ⊢
    rw [List.map_cons]
    rw [dif_cons, dif_cons, e]
    congr 1
    rw [Bool.eq_iff_iff, decide_eq_true_iff, decide_eq_true_iff]
    omega
theorem stamps_map {b : Int} (R : List Rw) : stampsR (R.map (upst b)) = (stampsR R).map fun x => 3 * x + b := by
  unfold stampsR
  rw [List.map_map, List.map_map]
  rfl
theorem sort_map {b : Int} (acc : List Rw) : sortR (acc.map (upst b)) = (sortR acc).map (upst b) := by
  unfold sortR
  refine (List.map_mergeSort fun x _ y _ => ?_).symm
  show decide (x.st ≤ y.st) = decide (3 * x.st + b ≤ 3 * y.st + b)
  rw [Bool.eq_iff_iff, decide_eq_true_iff, decide_eq_true_iff]
  omega
/-- Things with other stamps. -/
structure Shs (b : Int) (ts us : List Th) : Prop where
  len : us.length = ts.length
  all : ∀ (j : Nat) t u, ts[j]? = some t → us[j]? = some u → Sh b t u
theorem tab_up {b n : Int} {cd : Int → Hd × List Pt} {ts us : List Th} {fs : List Fe} (hb : 0 ≤ b) (h : Shs b ts us) : tabR n cd us fs = (tabR n cd ts fs).map (List.map (upst b)) := by
  have e := layF_up (n := n) (cd := cd) hb (ts.zip fs) (us.zip fs) 0 [] (by rw [List.length_zip, List.length_zip, h.len]) (fun j t f t' f' a c => by
    obtain ⟨a1, a2⟩ := zip_get.1 a
    obtain ⟨c1, c2⟩ := zip_get.1 c
    rw [a2] at c2
    exact ⟨h.all j t t' a1 c1, Option.some.inj c2⟩)
  rw [List.map_nil] at e
  unfold tabR
  rw [h.len, e]
  by_cases hl : ts.length = fs.length
  · rw [if_pos hl, if_pos hl]
    cases layF n cd (ts.zip fs) 0 [] with
    | none => rfl
    | some acc =>
      simp only [Option.map_some]
      rw [sort_map, stamps_map, dif_map]
      split
      · rfl
      · rfl
  · rw [if_neg hl, if_neg hl]; rfl
/-- Rows that differ in their stamps alone. -/
structure SmR (R Q : List Rw) : Prop where
  len : Q.length = R.length
  nu : ∀ i, (Q.getD i Rw.none).nu = (R.getD i Rw.none).nu
  h : ∀ i, (Q.getD i Rw.none).h = (R.getD i Rw.none).h
  ps : ∀ i, (Q.getD i Rw.none).ps = (R.getD i Rw.none).ps
theorem smr_up (b : Int) (R : List Rw) : SmR R (R.map (upst b)) := by
  have e : ∀ i, i < R.length → (R.map (upst b)).getD i Rw.none = upst b (R.getD i Rw.none) := fun i hi => by rw [getD_in (by simpa using hi), getD_in hi, List.getElem_map]
  have z : ∀ i, ¬ i < R.length → (R.map (upst b)).getD i Rw.none = Rw.none ∧ R.getD i Rw.none = Rw.none := fun i hi => by
    rw [List.getD_eq_getElem?_getD, List.getD_eq_getElem?_getD, List.getElem?_eq_none (by rw [List.length_map]; omega), List.getElem?_eq_none (by omega)]
    exact ⟨rfl, rfl⟩
  refine ⟨List.length_map _, fun i => ?_, fun i => ?_, fun i => ?_⟩
  all_goals
    by_cases hi : i < R.length
    · rw [e i hi]; rfl
    · rw [(z i hi).1, (z i hi).2]
theorem SmR.isAb {R Q : List Rw} (h : SmR R Q) : isAbB Q = isAbB R := by funext F s i; unfold isAbB; rw [h.h]
theorem SmR.about {R Q : List Rw} (h : SmR R Q) : aboutL Q = aboutL R := by funext F s; unfold aboutL aboutU; rw [h.len, h.isAb]
theorem SmR.apply {R Q : List Rw} (h : SmR R Q) : applyL Q = applyL R := by funext F s; unfold applyL applyAt; rw [h.isAb]
theorem SmR.dep {R Q : List Rw} (h : SmR R Q) : depB Q = depB R := by funext F s o; unfold depB; rw [h.about, h.apply]
theorem SmR.next {R Q : List Rw} (h : SmR R Q) : nextN Q = nextN R := by funext F L; unfold nextN freeB; rw [h.dep]
theorem SmR.all {R Q : List Rw} (h : SmR R Q) : ∀ (n : Nat) (F : List Fe) (L A : List Se), allL Q n F L A = allL R n F L A
  | 0, F, L, A => rfl
  | n + 1, F, L, A => by unfold allL; rw [h.next, h.apply, h.all n]
theorem SmR.eff {R Q : List Rw} (h : SmR R Q) : effL Q = effL R := by
  funext F k
  unfold effL effU
  rw [h.len]
  have e : effR Q F k = effR R F k := by funext i; unfold effR; rw [h.nu, h.ps]
  rw [e]
theorem pick_range (R : List Rw) (fs : List Fe) : pickF R fs = (List.range R.length).map fun i => fs.getD ((R.getD i Rw.none).nu - 1).toNat Fe.none := (pickU_all R fs).symm
theorem SmR.pick {R Q : List Rw} (h : SmR R Q) (fs : List Fe) : pickF Q fs = pickF R fs := by
  rw [pick_range, pick_range, h.len]
  congr 1
  funext i
  rw [h.nu]
theorem SmR.amg {R Q : List Rw} (h : SmR R Q) (fs F : List Fe) : amgL fs Q F = amgL fs R F := by
  unfold amgL amgU
  rw [h.len]
  congr 1
  funext a i
  rw [h.nu]
theorem SmR.allr {R Q : List Rw} (h : SmR R Q) (fs : List Fe) (k : Int) : allR Q fs k = allR R fs k := by unfold allR; rw [h.all, h.eff, h.pick]
/-- What All tells, in both cases. -/
def allA (r n : Int) (cd : Int → Hd × List Pt) (ts : List Th) (fs : List Fe) (k : Int) : List Fe := if bgE r n cd ts fs k = 0 then (match tabR n cd ts fs with | some R => amgL fs R (allR R fs k).1 | none => []) else []
def allS (r n : Int) (cd : Int → Hd × List Pt) (ts : List Th) (fs : List Fe) (k : Int) : List Sd := if bgE r n cd ts fs k = 0 then (match tabR n cd ts fs with | some R => (allR R fs k).2.map Se.s | none => []) else []
theorem bg_up {b r n : Int} {cd : Int → Hd × List Pt} {ts us : List Th} {fs : List Fe} {k : Int} (hb : 0 ≤ b) (h : Shs b ts us) : bgE r n cd us fs k = bgE r n cd ts fs k := by
  have e : lkE r n cd us fs [] = lkE r n cd ts fs [] := by
    unfold lkE
    rw [tab_up hb h]
    cases tabR n cd ts fs with
    | none => rfl
    | some R => rfl
  unfold bgE
  rw [e]
theorem allA_up {b r n : Int} {cd : Int → Hd × List Pt} {ts us : List Th} {fs : List Fe} {k : Int} (hb : 0 ≤ b) (h : Shs b ts us) : allA r n cd us fs k = allA r n cd ts fs k := by
  unfold allA
  rw [bg_up hb h, tab_up hb h]
  cases tabR n cd ts fs with
  | none => rfl
  | some R => simp only [Option.map_some]; rw [(smr_up b R).amg, (smr_up b R).allr]
theorem allS_up {b r n : Int} {cd : Int → Hd × List Pt} {ts us : List Th} {fs : List Fe} {k : Int} (hb : 0 ≤ b) (h : Shs b ts us) : allS r n cd us fs k = allS r n cd ts fs k := by
  unfold allS
  rw [bg_up hb h, tab_up hb h]
  cases tabR n cd ts fs with
  | none => rfl
  | some R => simp only [Option.map_some]; rw [(smr_up b R).allr]
theorem AllPost.lists {w w' : World} {r n : Int} {cd : Int → Hd × List Pt} {ts : List Th} {fs : List Fe} {k : Int} {e : Ending} (h : AllPost w r n cd ts fs k e w') : ∃ p c p' c', e = .returned (.tuple #[.slice p (allA r n cd ts fs k).length c, .slice p' (allS r n cd ts fs k).length c', .int .i64 (bgE r n cd ts fs k)]) ∧ w.grownBy w' none ∧ feR.At w' (.slice p (allA r n cd ts fs k).length c) (allA r n cd ts fs k) ∧ sdR.At w' (.slice p' (allS r n cd ts fs k).length c') (allS r n cd ts fs k) := by
  obtain ⟨p, m, c, p', m', c', e1, g, z, q⟩ := h
  by_cases h0 : bgE r n cd ts fs k = 0
  · obtain ⟨hr, hk, R, hR⟩ := bgE_of h0
    obtain ⟨o1, o2⟩ := q R hr hk hR
    have a1 : allA r n cd ts fs k = amgL fs R (allR R fs k).1 := by unfold allA; rw [if_pos h0, hR]
    have a2 : allS r n cd ts fs k = (allR R fs k).2.map Se.s := by unfold allS; rw [if_pos h0, hR]
    rw [← a1] at o1
    rw [← a2] at o2
    obtain ⟨x, y, f1⟩ := RecT.Own.form o1
    cases f1
    obtain ⟨x', y', f2⟩ := RecT.Own.form o2
    cases f2
    exact ⟨p, c, p', c', e1, g, RecT.Own.at o1, RecT.Own.at o2⟩
  · obtain ⟨rfl, rfl, rfl, rfl⟩ := z h0
    have a1 : allA r n cd ts fs k = [] := if_neg h0
    have a2 : allS r n cd ts fs k = [] := if_neg h0
    rw [a1, a2]
    exact ⟨none, c, none, c', e1, g, ⟨none, c, rfl, Nat.zero_le _, fun q => absurd q (Nat.lt_irrefl 0)⟩, ⟨none, c', rfl, Nat.zero_le _, fun q => absurd q (Nat.lt_irrefl 0)⟩⟩
/-- One cell of a record is another one. -/
theorem RecT.set1 {α : Type} (R : RecT α) {t t' : α} {d : Nat} {v : Value} (hd : d < R.k) (he : (R.enc t).set d v = R.enc t') : ∀ (l : List α) (i : Nat), l[i]? = some t → (R.cs l).set (i * R.k + d) v = R.cs (l.set i t')
  | [], i, h => by simp at h
  | y :: l, 0, h => by
    simp at h
    subst h
    show (R.enc y ++ R.cs l).set (0 * R.k + d) v = R.enc t' ++ R.cs l
    rw [Nat.zero_mul, Nat.zero_add, List.set_append_left _ _ (by rw [R.hk]; exact hd), he]
  | y :: l, i + 1, h => by
    show (R.enc y ++ R.cs l).set ((i + 1) * R.k + d) v = R.enc y ++ R.cs (l.set i t')
    rw [List.set_append_right _ _ (by rw [R.hk, Nat.succ_mul]; omega), R.hk, show (i + 1) * R.k + d - R.k = i * R.k + d from by rw [Nat.succ_mul]; omega, R.set1 hd he l i (by simpa using h)]
theorem th_store {w : World} {base g n c : Nat} {l : List Th} {i d : Nat} {t t' : Th} {v : Value} (O : thR.Own 86 w base (.slice (some ⟨g, 0, none⟩) n c) l) (hn : l.length = n) (ht : l[i]? = some t) (hd : d < 11) (he : (thc t).set d v = thc t') : thR.Own 86 (w.setCell ⟨g, i * 11 + d, none⟩ v) base (.slice (some ⟨g, 0, none⟩) n c) (l.set i t') ∧ w.grownBy (w.setCell ⟨g, i * 11 + d, none⟩ v) (some g) := by
  unfold RecT.Own at O ⊢
  rw [hn] at O
  obtain ⟨h1, h2⟩ := World.ownsRow.stored O (i * 11 + d) v
  have e := thR.set1 (t := t) (t' := t') (d := d) (v := v) hd he l i ht
  rw [List.length_set, hn]
  refine ⟨?_, h2⟩
  rw [← e]
  exact h1
end Go.Proofs.YtblkghfnjahkeaaGreat
