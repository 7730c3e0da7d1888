/-
  Layers, plainly: other stamps in the same order.
  Views, plainly: printed features, features behind each layer, with marks; the steps; what was about a thing.
  thing.Marked where it refuses; the document's Marked; what is left of a unit's health.
-/
import Derived.Test.YtmemeloehgemcaaGreatV36
import Derived.Test.YtmemeloehgemcaaGreatV26
import Derived.Test.YtmemeloehgemcaaGreatV16
namespace Go.Proofs.YtmemeloehgemcaaGreat
open Go.RowKit Go.Shelf

/-- A thing with another stamp. -/
structure Sh (b : Int) (t u : Th) : Prop where
  card : u.card = t.card
  owner : u.owner = t.owner
  place : u.place = t.place
  stamp : u.stamp = 3 * t.stamp + b
  pos : 1 ≤ t.stamp
def upst (b : Int) (r : Rw) : Rw := { r with st := 3 * r.st + b }
theorem sh_be {b n : Int} {t u : Th} (h : Sh b t u) : mayBeB n u = mayBeB n t := by unfold mayBeB; rw [h.card, h.owner, h.place]
theorem sh_lie {b : Int} {t u : Th} {f : Fe} (hb : 0 ≤ b) (h : Sh b t u) : mayLieB u f = mayLieB t f := by
  unfold mayLieB
  have h1 := h.pos
  rw [h.stamp, decide_eq_true (show 0 < t.stamp by omega), decide_eq_true (show 0 < 3 * t.stamp + b by omega)]
theorem layF_up {b n : Int} {cd : Int → Hd × List Pt} (hb : 0 ≤ b) : ∀ (l l' : List (Th × Fe)) (i : Nat) (acc : List Rw), l.length = l'.length → (∀ (j : Nat) t f t' f', l[j]? = some (t, f) → l'[j]? = some (t', f') → Sh b t t' ∧ f = f') → layF n cd l' i (acc.map (upst b)) = (layF n cd l i acc).map (List.map (upst b))
  | [], [], _, _, _, _ => rfl
  | [], _ :: _, _, _, h, _ => by cases h
  | _ :: _, [], _, _, h, _ => by cases h
  | (t, f) :: r, (t', f') :: r', i, acc, h, q => by
    obtain ⟨s, rfl⟩ := q 0 t f t' f' rfl rfl
    have q1 : ∀ (j : Nat) a b' c d, r[j]? = some (a, b') → r'[j]? = some (c, d) → Sh b a c ∧ b' = d := fun j a b' c d h1 h2 => q (j + 1) a b' c d h1 h2
    have hl : r.length = r'.length := by simpa using h
    have e1 := layF_up (n := n) (cd := cd) hb r r' (i + 1) acc hl q1
    have e2 := layF_up (n := n) (cd := cd) hb r r' (i + 1) (acc ++ [⟨(i : Int) + 1, t.stamp, (cd t.card).1, (cd t.card).2⟩]) hl q1
    rw [List.map_append, List.map_singleton] at e2
    unfold layF
    rw [sh_be s, s.place, sh_lie hb s, s.card, s.stamp, List.length_map, e1]
    have e3 : upst b ⟨(i : Int) + 1, t.stamp, (cd t.card).1, (cd t.card).2⟩ = ⟨(i : Int) + 1, 3 * t.stamp + b, (cd t.card).1, (cd t.card).2⟩ := rfl
    rw [e3] at e2
    rw [e2]
    split
    · rfl
    · split
      · rfl
      · split
        · rfl
        · split
          · rfl
          · rfl
theorem dif_map {b : Int} : ∀ l : List Int, dif (l.map fun x => 3 * x + b) = dif l
  | [] => rfl
  | [a] => rfl
  | a :: c :: l => by
    have e := dif_map (b := b) (c :: l)
    rw [List.map_cons] at e ⊢
    rw [List.map_cons]
    rw [dif_cons, dif_cons, e]
    congr 1
    rw [Bool.eq_iff_iff, decide_eq_true_iff, decide_eq_true_iff]
    omega
theorem stamps_map {b : Int} (R : List Rw) : stampsR (R.map (upst b)) = (stampsR R).map fun x => 3 * x + b := by
  unfold stampsR
  rw [List.map_map, List.map_map]
  rfl
theorem sort_map {b : Int} (acc : List Rw) : sortR (acc.map (upst b)) = (sortR acc).map (upst b) := by
  unfold sortR
  refine (List.map_mergeSort fun x _ y _ => ?_).symm
  show decide (x.st ≤ y.st) = decide (3 * x.st + b ≤ 3 * y.st + b)
  rw [Bool.eq_iff_iff, decide_eq_true_iff, decide_eq_true_iff]
  omega
/-- Things with other stamps. -/
structure Shs (b : Int) (ts us : List Th) : Prop where
  len : us.length = ts.length
  all : ∀ (j : Nat) t u, ts[j]? = some t → us[j]? = some u → Sh b t u
theorem tab_up {b n : Int} {cd : Int → Hd × List Pt} {ts us : List Th} {fs : List Fe} (hb : 0 ≤ b) (h : Shs b ts us) : tabR n cd us fs = (tabR n cd ts fs).map (List.map (upst b)) := by
  have e := layF_up (n := n) (cd := cd) hb (ts.zip fs) (us.zip fs) 0 [] (by rw [List.length_zip, List.length_zip, h.len]) (fun j t f t' f' a c => by
    obtain ⟨a1, a2⟩ := zip_get.1 a
    obtain ⟨c1, c2⟩ := zip_get.1 c
    rw [a2] at c2
    exact ⟨h.all j t t' a1 c1, Option.some.inj c2⟩)
  rw [List.map_nil] at e
  unfold tabR
  rw [h.len, e]
  by_cases hl : ts.length = fs.length
  · rw [if_pos hl, if_pos hl]
    cases layF n cd (ts.zip fs) 0 [] with
    | none => rfl
    | some acc =>
      simp only [Option.map_some]
      rw [sort_map, stamps_map, dif_map]
      split
      · rfl
      · rfl
  · rw [if_neg hl, if_neg hl]; rfl
/-- Rows that differ in their stamps alone. -/
structure SmR (R Q : List Rw) : Prop where
  len : Q.length = R.length
  nu : ∀ i, (Q.getD i Rw.none).nu = (R.getD i Rw.none).nu
  h : ∀ i, (Q.getD i Rw.none).h = (R.getD i Rw.none).h
  ps : ∀ i, (Q.getD i Rw.none).ps = (R.getD i Rw.none).ps
theorem smr_up (b : Int) (R : List Rw) : SmR R (R.map (upst b)) := by
  have e : ∀ i, i < R.length → (R.map (upst b)).getD i Rw.none = upst b (R.getD i Rw.none) := fun i hi => by rw [getD_in (by simpa using hi), getD_in hi, List.getElem_map]
  have z : ∀ i, ¬ i < R.length → (R.map (upst b)).getD i Rw.none = Rw.none ∧ R.getD i Rw.none = Rw.none := fun i hi => by
    rw [List.getD_eq_getElem?_getD, List.getD_eq_getElem?_getD, List.getElem?_eq_none (by rw [List.length_map]; omega), List.getElem?_eq_none (by omega)]
    exact ⟨rfl, rfl⟩
  refine ⟨List.length_map _, fun i => ?_, fun i => ?_, fun i => ?_⟩
  all_goals
    by_cases hi : i < R.length
    · rw [e i hi]; rfl
    · rw [(z i hi).1, (z i hi).2]
theorem SmR.isAb {R Q : List Rw} (h : SmR R Q) : isAbB Q = isAbB R := by funext F s i; unfold isAbB; rw [h.h]
theorem SmR.about {R Q : List Rw} (h : SmR R Q) : aboutL Q = aboutL R := by funext F s; unfold aboutL aboutU; rw [h.len, h.isAb]
theorem SmR.apply {R Q : List Rw} (h : SmR R Q) : applyL Q = applyL R := by funext F s; unfold applyL applyAt; rw [h.isAb]
theorem SmR.dep {R Q : List Rw} (h : SmR R Q) : depB Q = depB R := by funext F s o; unfold depB; rw [h.about, h.apply]
theorem SmR.next {R Q : List Rw} (h : SmR R Q) : nextN Q = nextN R := by funext F L; unfold nextN freeB; rw [h.dep]
theorem SmR.all {R Q : List Rw} (h : SmR R Q) : ∀ (n : Nat) (F : List Fe) (L A : List Se), allL Q n F L A = allL R n F L A
  | 0, F, L, A => rfl
  | n + 1, F, L, A => by unfold allL; rw [h.next, h.apply, h.all n]
theorem SmR.eff {R Q : List Rw} (h : SmR R Q) : effL Q = effL R := by
  funext F k
  unfold effL effU
  rw [h.len]
  have e : effR Q F k = effR R F k := by funext i; unfold effR; rw [h.nu, h.ps]
  rw [e]
theorem pick_range (R : List Rw) (fs : List Fe) : pickF R fs = (List.range R.length).map fun i => fs.getD ((R.getD i Rw.none).nu - 1).toNat Fe.none := (pickU_all R fs).symm
theorem SmR.pick {R Q : List Rw} (h : SmR R Q) (fs : List Fe) : pickF Q fs = pickF R fs := by
  rw [pick_range, pick_range, h.len]
  congr 1
  funext i
  rw [h.nu]
theorem SmR.amg {R Q : List Rw} (h : SmR R Q) (fs F : List Fe) : amgL fs Q F = amgL fs R F := by
  unfold amgL amgU
  rw [h.len]
  congr 1
  funext a i
  rw [h.nu]
theorem SmR.allr {R Q : List Rw} (h : SmR R Q) (fs : List Fe) (k : Int) : allR Q fs k = allR R fs k := by unfold allR; rw [h.all, h.eff, h.pick]
/-- What All tells, in both cases. -/
def allA (r n : Int) (cd : Int → Hd × List Pt) (ts : List Th) (fs : List Fe) (k : Int) : List Fe := if bgE r n cd ts fs k = 0 then (match tabR n cd ts fs with | some R => amgL fs R (allR R fs k).1 | none => []) else []
def allS (r n : Int) (cd : Int → Hd × List Pt) (ts : List Th) (fs : List Fe) (k : Int) : List Sd := if bgE r n cd ts fs k = 0 then (match tabR n cd ts fs with | some R => (allR R fs k).2.map Se.s | none => []) else []
theorem bg_up {b r n : Int} {cd : Int → Hd × List Pt} {ts us : List Th} {fs : List Fe} {k : Int} (hb : 0 ≤ b) (h : Shs b ts us) : bgE r n cd us fs k = bgE r n cd ts fs k := by
  have e : lkE r n cd us fs [] = lkE r n cd ts fs [] := by
    unfold lkE
    rw [tab_up hb h]
    cases tabR n cd ts fs with
    | none => rfl
    | some R => rfl
  unfold bgE
  rw [e]
theorem allA_up {b r n : Int} {cd : Int → Hd × List Pt} {ts us : List Th} {fs : List Fe} {k : Int} (hb : 0 ≤ b) (h : Shs b ts us) : allA r n cd us fs k = allA r n cd ts fs k := by
  unfold allA
  rw [bg_up hb h, tab_up hb h]
  cases tabR n cd ts fs with
  | none => rfl
  | some R => simp only [Option.map_some]; rw [(smr_up b R).amg, (smr_up b R).allr]
theorem allS_up {b r n : Int} {cd : Int → Hd × List Pt} {ts us : List Th} {fs : List Fe} {k : Int} (hb : 0 ≤ b) (h : Shs b ts us) : allS r n cd us fs k = allS r n cd ts fs k := by
  unfold allS
  rw [bg_up hb h, tab_up hb h]
  cases tabR n cd ts fs with
  | none => rfl
  | some R => simp only [Option.map_some]; rw [(smr_up b R).allr]
theorem AllPost.lists {w w' : World} {r n : Int} {cd : Int → Hd × List Pt} {ts : List Th} {fs : List Fe} {k : Int} {e : Ending} (h : AllPost w r n cd ts fs k e w') : ∃ p c p' c', e = .returned (.tuple #[.slice p (allA r n cd ts fs k).length c, .slice p' (allS r n cd ts fs k).length c', .int .i64 (bgE r n cd ts fs k)]) ∧ w.grownBy w' none ∧ feR.At w' (.slice p (allA r n cd ts fs k).length c) (allA r n cd ts fs k) ∧ sdR.At w' (.slice p' (allS r n cd ts fs k).length c') (allS r n cd ts fs k) := by
  obtain ⟨p, m, c, p', m', c', e1, g, z, q⟩ := h
  by_cases h0 : bgE r n cd ts fs k = 0
  · obtain ⟨hr, hk, R, hR⟩ := bgE_of h0
    obtain ⟨o1, o2⟩ := q R hr hk hR
    have a1 : allA r n cd ts fs k = amgL fs R (allR R fs k).1 := by unfold allA; rw [if_pos h0, hR]
    have a2 : allS r n cd ts fs k = (allR R fs k).2.map Se.s := by unfold allS; rw [if_pos h0, hR]
    rw [← a1] at o1
    rw [← a2] at o2
    obtain ⟨x, y, f1⟩ := RecT.Own.form o1
    cases f1
    obtain ⟨x', y', f2⟩ := RecT.Own.form o2
    cases f2
    exact ⟨p, c, p', c', e1, g, RecT.Own.at o1, RecT.Own.at o2⟩
  · obtain ⟨rfl, rfl, rfl, rfl⟩ := z h0
    have a1 : allA r n cd ts fs k = [] := if_neg h0
    have a2 : allS r n cd ts fs k = [] := if_neg h0
    rw [a1, a2]
    exact ⟨none, c, none, c', e1, g, ⟨none, c, rfl, Nat.zero_le _, fun q => absurd q (Nat.lt_irrefl 0)⟩, ⟨none, c', rfl, Nat.zero_le _, fun q => absurd q (Nat.lt_irrefl 0)⟩⟩
/-- One cell of a record is another one. -/
theorem RecT.set1 {α : Type} (R : RecT α) {t t' : α} {d : Nat} {v : Value} (hd : d < R.k) (he : (R.enc t).set d v = R.enc t') : ∀ (l : List α) (i : Nat), l[i]? = some t → (R.cs l).set (i * R.k + d) v = R.cs (l.set i t')
  | [], i, h => by simp at h
  | y :: l, 0, h => by
    simp at h
    subst h
    show (R.enc y ++ R.cs l).set (0 * R.k + d) v = R.enc t' ++ R.cs l
    rw [Nat.zero_mul, Nat.zero_add, List.set_append_left _ _ (by rw [R.hk]; exact hd), he]
  | y :: l, i + 1, h => by
    show (R.enc y ++ R.cs l).set ((i + 1) * R.k + d) v = R.enc y ++ R.cs (l.set i t')
    rw [List.set_append_right _ _ (by rw [R.hk, Nat.succ_mul]; omega), R.hk, show (i + 1) * R.k + d - R.k = i * R.k + d from by rw [Nat.succ_mul]; omega, R.set1 hd he l i (by simpa using h)]
theorem th_store {w : World} {base g n c : Nat} {l : List Th} {i d : Nat} {t t' : Th} {v : Value} (O : thR.Own 60 w base (.slice (some ⟨g, 0, none⟩) n c) l) (hn : l.length = n) (ht : l[i]? = some t) (hd : d < 11) (he : (thc t).set d v = thc t') : thR.Own 60 (w.setCell ⟨g, i * 11 + d, none⟩ v) base (.slice (some ⟨g, 0, none⟩) n c) (l.set i t') ∧ w.grownBy (w.setCell ⟨g, i * 11 + d, none⟩ v) (some g) := by
  unfold RecT.Own at O ⊢
  rw [hn] at O
  obtain ⟨h1, h2⟩ := World.ownsRow.stored O (i * 11 + d) v
  have e := thR.set1 (t := t) (t' := t') (d := d) (v := v) hd he l i ht
  rw [List.length_set, hn]
  refine ⟨?_, h2⟩
  rw [← e]
  exact h1
end Go.Proofs.YtmemeloehgemcaaGreat
namespace Go.Proofs.YtmemeloehgemcaaGreat
open Go.RowKit Go.Shelf

/-- What is printed on what lies on the table. -/
def prtT (pf : Th → Fe) (t : Th) : Fe := if t.place = 4 then pf t else Fe.none
def prtF (pf : Th → Fe) (ts : List Th) : List Fe := ts.map (prtT pf)
theorem prtF_len (pf : Th → Fe) (ts : List Th) : (prtF pf ts).length = ts.length := List.length_map _
/-- What marks are refused. -/
def mkE (me : Th → Int) : List Th → Int
  | [] => 0
  | t :: l => if t.place = 4 ∧ me t ≠ 0 then me t else mkE me l
theorem mkE_no {me : Th → Int} {t : Th} {l : List Th} (h : t.place = 4) (h2 : me t ≠ 0) : mkE me (t :: l) = me t := by
  rw [mkE, if_pos ⟨h, h2⟩]
theorem mkE_yes {me : Th → Int} {t : Th} {l : List Th} (h : ¬ (t.place = 4 ∧ me t ≠ 0)) : mkE me (t :: l) = mkE me l := by
  rw [mkE, if_neg h]
/-- The features behind one layer more. -/
def nxtF (R : List Rw) (fs : List Fe) (k : Int) : List Fe := amgL fs R (allR R fs k).1
def clF (R : List Rw) (fs : List Fe) : Nat → List Fe
  | 0 => fs
  | k + 1 => nxtF R (clF R fs k) ((k : Int) + 1)
/-- The effects of a layer, as they were applied. -/
def apK (R : List Rw) (fs : List Fe) (k : Nat) : List Se := (allR R (clF R fs k) ((k : Int) + 1)).2
def stU (R : List Rw) (fs : List Fe) : Nat → List Se
  | 0 => []
  | k + 1 => stU R fs k ++ apK R fs k
/-- With marks. -/
def mkdT (mf : Fe → Th → Fe) (t : Th) (f : Fe) : Fe := if t.place = 4 then mf f t else Fe.none
def mkdL (mf : Fe → Th → Fe) (ts : List Th) (fs : List Fe) : List Fe := List.zipWith (mkdT mf) ts fs
/-- Those about a thing, by the features by which they were applied. -/
def whyL (R : List Rw) (n : Int) : List Fe → List Se → List Se
  | _, [] => []
  | fs, e :: l => (if n ∈ numL R (aboutL R (pickF R fs) e) then [e] else []) ++ whyL R n (amgL fs R (applyL R (pickF R fs) e)) l
def whU (R : List Rw) (n : Int) (fs : List Fe) : Nat → List Se
  | 0 => []
  | k + 1 => whU R n fs k ++ whyL R n (clF R fs k) (apK R fs k)
theorem nxtF_len (R : List Rw) (fs : List Fe) (k : Int) : (nxtF R fs k).length = fs.length := amgL_len _ _ _
theorem clF_len (R : List Rw) (fs : List Fe) : ∀ k, (clF R fs k).length = fs.length
  | 0 => rfl
  | k + 1 => (nxtF_len _ _ _).trans (clF_len R fs k)
/-- All of a layer's effects, one behind the other. -/
theorem Onc.run {m : Int} {cd : Int → Hd × List Pt} {ts : List Th} {fs : List Fe} {R : List Rw} {k : Int} : ∀ (n : Nat) (X : List Fe) (L acc : List Se), L.length = n → Onc m cd ts fs R k X L acc → ∃ Y B, Onc m cd ts fs R k Y [] B
  | 0, X, L, acc, h, q => by
    have : L = [] := List.length_eq_zero_iff.1 h
    subst this
    exact ⟨X, acc, q⟩
  | n + 1, X, L, acc, h, q => Onc.run n _ _ _ (by rw [List.length_eraseIdx_of_lt (q.lt (by omega))]; omega) (q.step (by omega))
theorem Tab.next {m : Int} {cd : Int → Hd × List Pt} {ts : List Th} {fs : List Fe} {R : List Rw} (h : Tab m cd ts fs R) (k : Int) : Tab m cd ts (nxtF R fs k) R := by
  obtain ⟨Y, B, q⟩ := Onc.run (k := k) _ _ _ _ rfl (Onc.start h)
  unfold nxtF
  rw [q.end]
  exact q.tab
theorem Tab.cl {m : Int} {cd : Int → Hd × List Pt} {ts : List Th} {fs : List Fe} {R : List Rw} (h : Tab m cd ts fs R) : ∀ k, Tab m cd ts (clF R fs k) R
  | 0 => h
  | k + 1 => (h.cl k).next _
theorem bgE_any {r n : Int} {cd : Int → Hd × List Pt} {ts : List Th} {fs : List Fe} {k : Int} (h : bgE r n cd ts fs k = 0) : r = 0 ∧ ∃ R, Tab n cd ts fs R := by
  obtain ⟨h1, -, R, h2⟩ := bgE_of h
  exact ⟨h1, R, Tab.of h2⟩
/-- What is refused of a book and things. -/
def vkE (r n : Int) (cd : Int → Hd × List Pt) (ts : List Th) (fs : List Fe) (me : Th → Int) : Int := if bgE r n cd ts fs 5 = 0 then mkE me ts else bgE r n cd ts fs 5
theorem vkE_no {r n : Int} {cd : Int → Hd × List Pt} {ts : List Th} {fs : List Fe} {me : Th → Int} (h : ¬ bgE r n cd ts fs 5 = 0) : vkE r n cd ts fs me = bgE r n cd ts fs 5 := if_neg h
theorem vkE_yes {r n : Int} {cd : Int → Hd × List Pt} {ts : List Th} {fs : List Fe} {me : Th → Int} (h : bgE r n cd ts fs 5 = 0) : vkE r n cd ts fs me = mkE me ts := if_pos h
theorem vkE_of {r n : Int} {cd : Int → Hd × List Pt} {ts : List Th} {fs : List Fe} {me : Th → Int} (h : vkE r n cd ts fs me = 0) : r = 0 ∧ (∃ R, Tab n cd ts fs R) ∧ mkE me ts = 0 := by
  by_cases q : bgE r n cd ts fs 5 = 0
  · obtain ⟨a, b⟩ := bgE_any q
    exact ⟨a, b, by rw [← vkE_yes q]; exact h⟩
  · rw [vkE_no q] at h
    exact absurd h q
/-- What the calls tell: features behind k, steps, why. -/
def vqE (e : Int) (b : Bool) (x : Int) : Int := if e = 0 then (if b then 0 else x) else e
def bhL (R : List Rw) (mf : Fe → Th → Fe) (ts : List Th) (fs : List Fe) (k : Int) : List Fe := if k = 6 then mkdL mf ts (clF R fs 5) else clF R fs k.toNat
def vBh (r n : Int) (cd : Int → Hd × List Pt) (ts : List Th) (pf : Th → Fe) (mf : Fe → Th → Fe) (me : Th → Int) (k : Int) : List Fe := if vqE (vkE r n cd ts (prtF pf (ts.take 2048)) me) (decide (0 ≤ k ∧ k ≤ 6)) 2 = 0 then (match tabR n cd ts (prtF pf ts) with | some R => bhL R mf ts (prtF pf ts) k | none => []) else []
def vSt (r n : Int) (cd : Int → Hd × List Pt) (ts : List Th) (pf : Th → Fe) (me : Th → Int) : List Se := if vkE r n cd ts (prtF pf (ts.take 2048)) me = 0 then (match tabR n cd ts (prtF pf ts) with | some R => stU R (prtF pf ts) 5 | none => []) else []
def onT (ts : List Th) (n : Int) : Bool := decide (1 ≤ n) && (decide (n ≤ (ts.length : Int)) && decide ((ts.getD (n - 1).toNat Th.none).place = 4))
def vWh (r n : Int) (cd : Int → Hd × List Pt) (ts : List Th) (pf : Th → Fe) (me : Th → Int) (x : Int) : List Se := if vqE (vkE r n cd ts (prtF pf (ts.take 2048)) me) (onT ts x) 6 = 0 then (match tabR n cd ts (prtF pf ts) with | some R => whU R x (prtF pf ts) 5 | none => []) else []
theorem vqE_no {e x : Int} {b : Bool} (h : e ≠ 0) : vqE e b x = e := if_neg h
theorem vqE_bad {x : Int} : vqE 0 false x = x := rfl
theorem vqE_ok {x : Int} : vqE 0 true x = 0 := rfl
theorem vqE_of {e x : Int} {b : Bool} (hx : x ≠ 0) (h : vqE e b x = 0) : e = 0 ∧ b = true := by
  unfold vqE at h
  split at h
  · rename_i h0
    refine ⟨h0, ?_⟩
    cases b with
    | true => rfl
    | false => exact absurd h hx
  · rename_i h0
    exact absurd h h0
end Go.Proofs.YtmemeloehgemcaaGreat
namespace Go.Proofs.YtmemeloehgemcaaGreat
open Go.RowKit

set_option maxRecDepth 100000 in
set_option maxHeartbeats 8000000 in
theorem marked_no (ok : Nat → Prop) (b : Nat) (es : List Ent) (p : Pl) (f : Fe) (c0 c1 c2 c3 : Int) (w : World) (B : Book ok w b es p) (hc : okcs c0 c1 c2 c3 = false) : Calls Tryz.prog 39 #[.pointer (some ⟨b, 0, none⟩), fev f, .agg #[.int .i64 c0, .int .i64 c1, .int .i64 c2, .int .i64 c3]] w fun e w' => e = .returned (.tuple #[fev Fe.none, .int .i64 2]) ∧ w.grownBy w' none := by
  obtain ⟨W, hW⟩ : ∃ W, W = ((w.alloc (.cells (fcs f) 64)).alloc (.cells #[.int .i64 c0, .int .i64 c1, .int .i64 c2, .int .i64 c3] 58)).alloc (.cells #[.int .i64 0, .int .u8 0, .int .u16 0, .int .i64 0, .int .i64 0] 64) := ⟨_, rfl⟩
  have HS0 : Hid (MkS w W w.heap.size (w.heap.size + 1 + 1) f.ho f.su f.tr f.po f.he) := by
    rw [hW]
    refine ⟨grown_push (grown_push (World.grownBy_alloc _ _ none) _) _, ?_, ?_, Nat.le_refl _, by omega, by omega⟩
    · exact grown_keep (World.grownBy_alloc _ _ none) (grown_keep (World.grownBy_alloc _ _ none) (alloc_at w _ _) (by simp)) (by simp)
    · exact alloc3_at _ _ _ _ _
  have HA4 : Hid (W.heap[w.heap.size + 1]? = some (.cells #[.int .i64 c0, .int .i64 c1, .int .i64 c2, .int .i64 c3] 58 (0, 0))) := by
    rw [hW]
    exact grown_keep (World.grownBy_alloc _ _ none) (alloc2_at _ _ _ _) (by simp)
  have HIB := tisBook_yes ok b es p W (B.keep HS0.out.g)
  have HML := fun X => tmayLie_any c0 c1 c2 c3 X
  rw [hc] at HML
  unfold fcs at hW
  unfold fev
  clear B hc
  go_enter Tryz.func39, Tryz.ntmps39
  go_upto_region 1 with fail
  rw [← hW]
  clear hW
  obtain ⟨F, hF⟩ : ∃ F, F = w.heap.size := ⟨_, rfl⟩
  rw [← hF] at HS0 HA4 ⊢
  obtain ⟨V, hV⟩ : ∃ V, V = F + 1 := ⟨_, rfl⟩
  simp only [← hV] at HS0 HA4 ⊢
  obtain ⟨R, hR⟩ : ∃ R, R = V + 1 := ⟨_, rfl⟩
  simp only [← hR] at HS0 ⊢
  clear hF hR hV
  go_wp2_with fail
  refine HIB.mono ?_
  rintro e w1 ⟨rfl, g1⟩
  have HS1 : Hid (MkS w w1 F R f.ho f.su f.tr f.po f.he) := HS0.out.grow g1
  have HA1 : Hid (w1.heap[V]? = some (.cells #[.int .i64 c0, .int .i64 c1, .int .i64 c2, .int .i64 c3] 58 (0, 0))) := grown_keep g1 HA4.out (by simp)
  clear HS0 HA4 g1 HIB
  have x0 := block_cell HA1.out 0
  have x1 := block_cell HA1.out 1
  have x2 := block_cell HA1.out 2
  have x3 := block_cell HA1.out 3
  go_wp2_with fail
  refine (HML w1).mono ?_
  rintro e w2 ⟨rfl, g2⟩
  have HS2 : Hid (MkS w w2 F R f.ho f.su f.tr f.po f.he) := HS1.out.grow g2
  clear HS1 HA1 g2 HML x0 x1 x2 x3
  have r0 := block_cell HS2.out.r 0
  have r1 := block_cell HS2.out.r 1
  have r2 := block_cell HS2.out.r 2
  have r3 := block_cell HS2.out.r 3
  have r4 := block_cell HS2.out.r 4
  have rf := fun i => block_free HS2.out.r i
  go_wp2
  refine bodyPost_ret (v := .tuple #[fev Fe.none, .int .i64 2]) (by simp [results, Tryz.results39, go_sem, fev, Fe.none, r0, r1, r2, r3, r4]) rfl ⟨rfl, ?_⟩
  exact grown_own HS2.out.g (((((grown_set _ _ _ _).trans (grown_set _ _ _ _)).trans (grown_set _ _ _ _)).trans (grown_set _ _ _ _)).trans (grown_set _ _ _ _)) (fun y e => by cases e; exact HS2.out.hR)
set_option maxRecDepth 100000 in
set_option maxHeartbeats 8000000 in
theorem marked_nil (v : Value) (f : Fe) (c0 c1 c2 c3 : Int) (w : World) (B : NoBk w v) : Calls Tryz.prog 39 #[v, fev f, .agg #[.int .i64 c0, .int .i64 c1, .int .i64 c2, .int .i64 c3]] w fun e w' => e = .returned (.tuple #[fev Fe.none, .int .i64 1]) ∧ w.grownBy w' none := by
  obtain ⟨W, hW⟩ : ∃ W, W = ((w.alloc (.cells (fcs f) 64)).alloc (.cells #[.int .i64 c0, .int .i64 c1, .int .i64 c2, .int .i64 c3] 58)).alloc (.cells #[.int .i64 0, .int .u8 0, .int .u16 0, .int .i64 0, .int .i64 0] 64) := ⟨_, rfl⟩
  have HS0 : Hid (MkS w W w.heap.size (w.heap.size + 1 + 1) f.ho f.su f.tr f.po f.he) := by
    rw [hW]
    refine ⟨grown_push (grown_push (World.grownBy_alloc _ _ none) _) _, ?_, ?_, Nat.le_refl _, by omega, by omega⟩
    · exact grown_keep (World.grownBy_alloc _ _ none) (grown_keep (World.grownBy_alloc _ _ none) (alloc_at w _ _) (by simp)) (by simp)
    · exact alloc3_at _ _ _ _ _
  have HA4 : Hid (W.heap[w.heap.size + 1]? = some (.cells #[.int .i64 c0, .int .i64 c1, .int .i64 c2, .int .i64 c3] 58 (0, 0))) := by
    rw [hW]
    exact grown_keep (World.grownBy_alloc _ _ none) (alloc2_at _ _ _ _) (by simp)
  have HIB := tisBook_no v W (B.keep HS0.out.g)
  unfold fcs at hW
  unfold fev
  clear B
  go_enter Tryz.func39, Tryz.ntmps39
  go_upto_region 1 with fail
  rw [← hW]
  clear hW
  obtain ⟨F, hF⟩ : ∃ F, F = w.heap.size := ⟨_, rfl⟩
  rw [← hF] at HS0 HA4 ⊢
  obtain ⟨V, hV⟩ : ∃ V, V = F + 1 := ⟨_, rfl⟩
  simp only [← hV] at HS0 HA4 ⊢
  obtain ⟨R, hR⟩ : ∃ R, R = V + 1 := ⟨_, rfl⟩
  simp only [← hR] at HS0 ⊢
  clear hF hR hV
  clear HA4
  go_wp2_with fail
  refine HIB.mono ?_
  rintro e w1 ⟨rfl, g1⟩
  have HS2 : Hid (MkS w w1 F R f.ho f.su f.tr f.po f.he) := HS0.out.grow g1
  clear HS0 g1 HIB
  have r0 := block_cell HS2.out.r 0
  have r1 := block_cell HS2.out.r 1
  have r2 := block_cell HS2.out.r 2
  have r3 := block_cell HS2.out.r 3
  have r4 := block_cell HS2.out.r 4
  have rf := fun i => block_free HS2.out.r i
  go_wp2
  refine bodyPost_ret (v := .tuple #[fev Fe.none, .int .i64 1]) (by simp [results, Tryz.results39, go_sem, fev, Fe.none, r0, r1, r2, r3, r4]) rfl ⟨rfl, ?_⟩
  exact grown_own HS2.out.g (((((grown_set _ _ _ _).trans (grown_set _ _ _ _)).trans (grown_set _ _ _ _)).trans (grown_set _ _ _ _)).trans (grown_set _ _ _ _)) (fun y e => by cases e; exact HS2.out.hR)
/-- While the document's adds: the marks lie there too. -/
structure RkS (w wr : World) (F V R : Nat) (c0 c1 c2 c3 a b c d e : Int) : Prop where
  s : MkS w wr F R a b c d e
  v : wr.heap[V]? = some (.cells #[.int .i64 c0, .int .i64 c1, .int .i64 c2, .int .i64 c3] 58 (0, 0))
theorem RkS.grow {w wr w2 : World} {F V R : Nat} {c0 c1 c2 c3 a b c d e : Int} (h : RkS w wr F V R c0 c1 c2 c3 a b c d e) (g : wr.grownBy w2 none) : RkS w w2 F V R c0 c1 c2 c3 a b c d e := ⟨h.s.grow g, grown_keep g h.v (by simp)⟩
theorem RkS.ne {w wr : World} {F V R : Nat} {c0 c1 c2 c3 a b c d e : Int} (h : RkS w wr F V R c0 c1 c2 c3 a b c d e) : ¬ V = F := fun q => by
  have x := h.s.f
  have y := h.v
  rw [q, x] at y
  cases y
theorem RkS.set3 {w wr : World} {F V R : Nat} {c0 c1 c2 c3 a b c d e : Int} (h : RkS w wr F V R c0 c1 c2 c3 a b c d e) (x : Int) : RkS w (wr.setCell ⟨F, 3, none⟩ (.int .i64 x)) F V R c0 c1 c2 c3 a b c x e := ⟨h.s.set3 x, grown_keep (grown_set wr F 3 (.int .i64 x)) h.v (fun q => by injection q with q; exact h.ne q)⟩
theorem RkS.set4 {w wr : World} {F V R : Nat} {c0 c1 c2 c3 a b c d e : Int} (h : RkS w wr F V R c0 c1 c2 c3 a b c d e) (x : Int) : RkS w (wr.setCell ⟨F, 4, none⟩ (.int .i64 x)) F V R c0 c1 c2 c3 a b c d x := ⟨h.s.set4 x, grown_keep (grown_set wr F 4 (.int .i64 x)) h.v (fun q => by injection q with q; exact h.ne q)⟩
theorem RkS.drew {w wr : World} {F V R : Nat} {c0 c1 c2 c3 a b c d e : Int} (h : RkS w wr F V R c0 c1 c2 c3 a b c d e) (n : Nat) : RkS w (wr.drewN n) F V R c0 c1 c2 c3 a b c d e := h.grow (grown_drewN wr n none)
end Go.Proofs.YtmemeloehgemcaaGreat
