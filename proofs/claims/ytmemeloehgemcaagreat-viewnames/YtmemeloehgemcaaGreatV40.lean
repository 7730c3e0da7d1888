/-
  Layers, plainly: whom an effect is about, by their numbers; what becomes of each feature.
  Views, plainly: the same table under other numbers and stamps has the same features, by the same effects.
  Views, plainly: whom effects are about, step by step; Raises add up; the layers' order.
  View: is a number among numbers; is it a thing on the table; what of a layer was about it.
  View: what of a layer was about a thing.
-/
import Derived.Test.YtmemeloehgemcaaGreatV34
import Derived.Test.YtmemeloehgemcaaGreatV39
namespace Go.Proofs.YtmemeloehgemcaaGreat
open Go.RowKit Go.Shelf

def stOf (ts : List Th) (x : Int) : Int := (ts.getD (x - 1).toNat Th.none).stamp
theorem Tab.up {n : Int} {cd : Int → Hd × List Pt} {ts : List Th} {fs : List Fe} {R : List Rw} (h : Tab n cd ts fs R) : R.Pairwise fun a b => a.st < b.st := by
  have h' := h.tab
  unfold tabR at h'
  split at h'
  · split at h'
    · split at h'
      · rename_i hd
        cases h'
        have := dif_up (stamps_up (sortR_up _)) hd
        unfold stampsR at this
        rw [List.pairwise_map] at this
        exact this
      · cases h'
    · cases h'
  · cases h'
theorem Tab.thing {n : Int} {cd : Int → Hd × List Pt} {ts : List Th} {fs : List Fe} {R : List Rw} (h : Tab n cd ts fs R) {i : Nat} (hi : i < R.length) : (ts.getD ((R.getD i Rw.none).nu - 1).toNat Th.none).place = 4 ∧ stOf ts (R.getD i Rw.none).nu = (R.getD i Rw.none).st ∧ 0 < (R.getD i Rw.none).st ∧ 1 ≤ (R.getD i Rw.none).nu ∧ (R.getD i Rw.none).nu ≤ (fs.length : Int) := by
  have hr : R.getD i Rw.none ∈ R := by rw [getD_in hi]; exact List.getElem_mem _
  obtain ⟨j, t, ht, h4, hn, hs⟩ := h.from hr
  have hj : j < ts.length := (List.getElem?_eq_some_iff.1 ht).1
  have e : ts.getD j Th.none = t := by rw [List.getD_eq_getElem?_getD, ht]; rfl
  have hm := h.may j t _ ht (List.getElem?_eq_getElem (by rw [← h.len]; exact hj)) h4
  unfold mayLieB at hm
  simp only [Bool.and_eq_true, decide_eq_true_eq] at hm
  unfold stOf
  rw [hn, show ((j : Int) + 1 - 1).toNat = j by omega, e, hs]
  exact ⟨h4, rfl, hm.1.1, by omega, by rw [← h.len]; omega⟩
end Go.Proofs.YtmemeloehgemcaaGreat
namespace Go.Proofs.YtmemeloehgemcaaGreat
open Go.RowKit Go.Shelf

/-- A row, and its thing. -/
theorem Tab.row {n : Int} {cd : Int → Hd × List Pt} {ts : List Th} {fs : List Fe} {R : List Rw} (h : Tab n cd ts fs R) {r : Rw} (hr : r ∈ R) : ∃ (j : Nat) (t : Th), ts[j]? = some t ∧ t.place = 4 ∧ r = ⟨(j : Int) + 1, t.stamp, (cd t.card).1, (cd t.card).2⟩ := by
  obtain ⟨j, t, f, a, b, c⟩ := tbl_of _ _ _ (h.perm.mem_iff.1 hr)
  exact ⟨j, t, (zip_get.1 a).1, b, by rw [c]; simp⟩
end Go.Proofs.YtmemeloehgemcaaGreat
namespace Go.Proofs.YtmemeloehgemcaaGreat
open Go.RowKit Go.Shelf

theorem whyL_cons (R : List Rw) (n : Int) (fs : List Fe) (e : Se) (l : List Se) : whyL R n fs (e :: l) = (if n ∈ numL R (aboutL R (pickF R fs) e) then [e] else []) ++ whyL R n (amgL fs R (applyL R (pickF R fs) e)) l := rfl
theorem why_sub (R : List Rw) (n : Int) : ∀ (l : List Se) (fs : List Fe), (whyL R n fs l).Sublist l
  | [], _ => List.Sublist.refl _
  | e :: l, fs => by
    unfold whyL
    have := why_sub R n l (amgL fs R (applyL R (pickF R fs) e))
    split
    · exact this.cons_cons e
    · exact this.cons e
theorem whU_sub (R : List Rw) (n : Int) (fs : List Fe) : ∀ k, (whU R n fs k).Sublist (stU R fs k)
  | 0 => List.Sublist.refl _
  | k + 1 => (whU_sub R n fs k).append (why_sub R n _ _)
end Go.Proofs.YtmemeloehgemcaaGreat
namespace Go.Proofs.YtmemeloehgemcaaGreat
open Go.RowKit Go.Shelf

theorem vwp_app {P : Program} {w : World} {o : Oper} {a : Act} {K : Act → World → Prop} {Q : Exit → Act → World → Prop} (s x : Operand) (t : TypeId)
    (ho : o.op = .call { callee := .builtin .append, args := #[s, x], argTypes := #[t, t] })
    (base : Nat) (e : TypeId) (i : TypeInfo) (z : Value) (size bytes : Nat) (ht : P.underlying t = some (.slice e)) (hi : P.info? e = some i) (hz : i.zero = some z)
    (hsize : i.size = size) (hby : i.bytes = bytes) (hzs : z.cells.size = size) (hsz : 0 < size)
    (v : Value) (n : Nat) (xs : List Value) (hs : a.eval s = v) (hown : w.ownsRow base e size v n xs)
    (vx : Value) (m : Nat) (ys : List Value) (hx : a.eval x = vx) (hsrc : Src w vx m size ys) (h1 : ∀ u ∈ ys, u.oneCell' = true)
    (h63 : n + m ≤ maxLen) (hbytes : (n + m) * bytes ≤ 140737488355328) (hbase : base ≤ w.heap.size)
    (h : ∀ v' w', w'.ownsRow base e size v' (n + m) (xs ++ ys) → w.grownBy w' v.ownBlock → (v'.ownBlock = v.ownBlock ∨ v'.ownBlock = some w.heap.size) → K (a.put o.dst v') w') : Oper.wp P o a w K Q := by
  obtain ⟨p, c, e1, hl, hc⟩ := hsrc
  subst e1
  by_cases h0 : m = 0
  · subst h0
    have hy : ys = [] := List.length_eq_zero_iff.1 (by omega)
    subst hy
    cases p with
    | none =>
      have hx2 : a.eval x = .slice none 0 c := hx
      have hrun : (Builtin.append_ #[t, t] o.type #[v, .slice none 0 c]).run P w = .ok v w := run_append_owned_none (P := P) (w := w) base t o.type e i size ht hi v n xs hown
      unfold Oper.wp
      simp [execOp, ho, resolve, invoke, builtin, hs, hx2, hrun, Result.andThen]
      exact h v w (by rw [List.append_nil]; exact hown) (grown_refl _ _) (Or.inl rfl)
    | some ad =>
      exact lwp_append_at s x t ho base e i z size bytes ht hi hz hsize hby hzs hsz v n xs hs hown ad 0 c [] hx (by simp) (fun j u hu => by simp at hu) h1 h63 hbytes hbase h
  · obtain ⟨ad, e2, hcell⟩ := hc (by omega)
    subst e2
    exact lwp_append_at s x t ho base e i z size bytes ht hi hz hsize hby hzs hsz v n xs hs hown ad m c ys hx hl hcell h1 h63 hbytes hbase h
theorem ints_in {w : World} {base : Nat} {v : Value} {l : List Int} (h : LOwnI w base v l) {j : Nat} (hj : j < l.length) : ∃ g c, v = .slice (some ⟨g, 0, none⟩) l.length c ∧ w.cell? ⟨g, j, none⟩ = some (.int .i64 (l.getD j 0)) := by
  obtain ⟨g, c, e, _, _, _, _, hc⟩ := own_cell h (by omega)
  refine ⟨g, c, e, (hc j (by omega)).1.trans ?_⟩
  unfold ints
  rw [List.getElem?_map, List.getElem?_eq_getElem hj, Option.map_some, getD_in hj]
theorem mem_at {l : List Int} {x : Int} {j : Nat} (hj : j < l.length) (h : l.getD j 0 = x) : x ∈ l := by rw [← h, getD_in hj]; exact List.getElem_mem _
theorem not_mem {l : List Int} {x : Int} (h : ∀ i, i < l.length → ¬ l.getD i 0 = x) : x ∉ l := fun q => by
  obtain ⟨i, hi, e⟩ := List.getElem_of_mem q
  exact h i hi (by rw [getD_in hi]; exact e)
set_option maxRecDepth 100000 in
set_option maxHeartbeats 4000000 in
theorem vindex_any (v : Value) (base : Nat) (l : List Int) (x : Int) (w : World) (O : LOwnI w base v l) (hb : l.length ≤ 2048) : Calls Tryz.prog 153 #[v, .int .i64 x] w fun e w' => ∃ i : Int, e = .returned (.int .i64 i) ∧ decide (0 ≤ i) = decide (x ∈ l) ∧ w' = w := by
  obtain ⟨p, cap, rfl, _⟩ := own_slice O
  have HO : Hid (LOwnI w base (.slice p l.length cap) l) := O
  have Hb : Hid (l.length ≤ 2048) := hb
  clear O hb
  go_enter Tryz.func153, Tryz.ntmps153
  go_wp2_with fail
  go_loopw [5, 8] (fun _ i wr => ∃ m : Nat, m ≤ l.length ∧ i = .int .i64 (m : Int) ∧ wr = w ∧ Hid (∀ i, i < m → ¬ l.getD i 0 = x)) (fun _ i _ => l.length - (intOf i).toNat)
  case atStart => exact ⟨0, Nat.zero_le _, rfl, rfl, fun i hi => absurd hi (Nat.not_lt_zero _)⟩
  case round =>
    obtain ⟨m, hm, rfl, rfl, HN⟩ := hrel
    by_cases hlt : m < l.length
    · obtain ⟨g, cap', e1, c1⟩ := ints_in HO.out hlt
      cases e1
      obtain ⟨y, hy⟩ : ∃ y, y = l.getD m 0 := ⟨_, rfl⟩
      rw [← hy] at c1
      have hlt' : (m : Int) < l.length := Int.ofNat_lt.2 hlt
      have hwk := wrap_next (k := m) (Nat.le_trans (Nat.le_of_lt hlt) (Nat.le_trans Hb.out (by decide)))
      have Hlt : Hid (m < l.length) := hlt
      have HM : Hid (l.length - (intOf (.int .i64 ((m : Int) + 1))).toNat < l.length - (intOf (.int .i64 (m : Int))).toNat) := meas_k hlt
      by_cases hxy : x = y
      · have e : (x == y) = true := by rw [hxy]; simp
        have HX : Hid (decide (0 ≤ (m : Int)) = decide (x ∈ l)) := by show _ = _; rw [decide_eq_true (by omega), decide_eq_true (mem_at hlt (hy.symm.trans hxy.symm))]
        clear hlt hm hy hxy
        go_wp2_with fail
        go_ret
        exact ⟨_, rfl, HX.out, rfl⟩
      · have e : (x == y) = false := by simpa using hxy
        have HN2 : Hid (∀ i, i < m + 1 → ¬ l.getD i 0 = x) := fun i hi => by
          by_cases q : i = m
          · rw [q, ← hy]; exact fun z => hxy z.symm
          · exact HN.out i (by omega)
        clear hlt hm hy hxy HN
        go_wp2_with fail
        go_roundw
        case rel => exact ⟨m + 1, Hlt.out, by first | rfl | (rw [hwk]; rfl) | go_num, by trivial, HN2⟩
        case measure => first | exact HM.out | (rw [hwk]; exact HM.out)
    · obtain rfl : m = l.length := Nat.le_antisymm hm (Nat.le_of_not_lt hlt)
      have HX : Hid (decide (0 ≤ (-1 : Int)) = decide (x ∈ l)) := by show _ = _; rw [decide_eq_false (by omega), decide_eq_false (not_mem HN.out)]
      clear hm hlt HN
      go_wp2_with fail
      go_ret
      exact ⟨_, rfl, HX.out, rfl⟩
set_option maxRecDepth 100000 in
set_option maxHeartbeats 4000000 in
theorem vcontains_any (v : Value) (base : Nat) (l : List Int) (x : Int) (w : World) (O : LOwnI w base v l) (hb : l.length ≤ 2048) : Calls Tryz.prog 114 #[v, .int .i64 x] w fun e w' => e = .returned (.bool (decide (x ∈ l))) ∧ w' = w := by
  have C := vindex_any v base l x w O hb
  obtain ⟨p, cap, rfl, _⟩ := own_slice O
  clear O hb
  go_enter Tryz.func114, Tryz.ntmps114
  go_wp2_with fail
  refine C.mono ?_
  rintro e1 w1 ⟨i, rfl, h1, rfl⟩
  have H1 : Hid (decide (0 ≤ i) = decide (x ∈ l)) := h1
  clear C h1
  go_wp2_with fail
  go_ret
  exact ⟨by rw [← H1.out]; rfl, rfl⟩
set_option maxRecDepth 100000 in
set_option maxHeartbeats 4000000 in
theorem vonTable_any (bp pt pp : Option Addr) (ct np cp : Nat) (ts : List Th) (x : Int) (w : World) (A : thR.At w (.slice pt ts.length ct) ts) : Calls Tryz.prog 72 #[.agg #[.pointer bp, .slice pt ts.length ct, .slice pp np cp], .int .i64 x] w fun e w' => e = .returned (.bool (onT ts x)) ∧ w.grownBy w' none := by
  obtain ⟨W1, hW1⟩ : ∃ W1, W1 = w.alloc (.cells #[.pointer bp, .slice pt ts.length ct, .slice pp np cp] 144) := ⟨_, rfl⟩
  have HG1 : Hid (w.grownBy W1 none) := by rw [hW1]; exact World.grownBy_alloc _ _ none
  have HS1 : Hid (ScB W1 w.heap.size bp (.slice pt ts.length ct) (.slice pp np cp)) := by rw [hW1]; exact alloc_at _ _ _
  have HA : Hid (thR.At W1 (.slice pt ts.length ct) ts) := A.keep HG1.out
  have HLn : Hid (ts.length ≤ maxLen) := by obtain ⟨_, _, _, q, _⟩ := A; exact q
  clear A
  go_enter Tryz.func72, Tryz.ntmps72
  go_upto_region 1 with fail
  rw [← hW1]
  clear hW1
  obtain ⟨n0, hn0⟩ : ∃ n0, n0 = w.heap.size := ⟨_, rfl⟩
  simp only [← hn0] at HS1 ⊢
  clear hn0
  obtain ⟨s0, s1, s2⟩ := sc_box HS1.out
  by_cases h1 : 1 ≤ x
  · have d1 : decide (1 ≤ x) = true := decide_eq_true h1
    by_cases h2 : x ≤ (ts.length : Int)
    · have d2 : decide (x ≤ (ts.length : Int)) = true := decide_eq_true h2
      obtain ⟨j, hj⟩ : ∃ j : Nat, x = (j : Int) + 1 := ⟨(x - 1).toNat, by omega⟩
      have hjl : j < ts.length := by omega
      obtain ⟨g, off, cap, ee, R⟩ := th_there HA.out hjl
      cases ee
      obtain ⟨t, ht⟩ : ∃ t, t = ts[j] := ⟨_, rfl⟩
      rw [← ht] at R
      obtain ⟨c0, c1, c2, c3, c4, c5, c6, c7, c8, c9, c10⟩ := th_cells R
      have hjl' : (j : Int) < ts.length := Int.ofNat_lt.2 hjl
      have hw1 : wrap64 (x - 1) = (j : Int) := by have := HLn.out; unfold maxLen at this; unfold wrap64; omega
      have hw2 : IntKind.i64.wrap (x - 1) = (j : Int) := by have := HLn.out; unfold maxLen at this; rw [IntWalk.i64_in _ (by omega)]; omega
      have HX : Hid (onT ts x = (t.place == 4)) := by
        show _ = _
        unfold onT
        rw [d1, d2, hj, show ((j : Int) + 1 - 1).toNat = j by omega, getD_in hjl, ← ht, Bool.true_and, Bool.true_and]
        by_cases q : t.place = 4
        · rw [decide_eq_true q, q]; rfl
        · rw [decide_eq_false q]; symm; simpa using q
      clear h1 h2 hj hjl R ht c0 c1 c3 c4 c5 c6 c7 c8 c9 c10
      go_wp2_with fail
      go_ret
      exact ⟨by rw [HX.out]; rfl, HG1.out⟩
    · have d2 : decide (x ≤ (ts.length : Int)) = false := decide_eq_false h2
      have HX : Hid (onT ts x = false) := by show _ = _; unfold onT; rw [d2, Bool.false_and, Bool.and_false]
      clear h1 h2
      go_wp2_with fail
      go_ret
      exact ⟨by rw [HX.out]; rfl, HG1.out⟩
  · have d1 : decide (1 ≤ x) = false := decide_eq_false h1
    have HX : Hid (onT ts x = false) := by show _ = _; unfold onT; rw [d1, Bool.false_and]
    clear h1
    go_wp2_with fail
    go_ret
    exact ⟨by rw [HX.out]; rfl, HG1.out⟩
theorem why_at {R : List Rw} {x : Int} {X : List Fe} {E : List Se} {j : Nat} (hj : j < E.length) : whyL R x X (E.drop j) = (if x ∈ numL R (aboutL R (pickF R X) (E.getD j Se.none)) then [E.getD j Se.none] else []) ++ whyL R x (amgL X R (applyL R (pickF R X) (E.getD j Se.none))) (E.drop (j + 1)) := by
  rw [List.drop_eq_getElem_cons hj, whyL_cons, getD_in hj]
end Go.Proofs.YtmemeloehgemcaaGreat
namespace Go.Proofs.YtmemeloehgemcaaGreat
open Go.RowKit Go.Shelf

/-- What stands while a layer's effects are applied once more. -/
structure AbT (w wr : World) (n0 n1 : Nat) (bp : Option Addr) (vt vp va vb vc : Value) (B : Nat) (v7 v8 : Value) (X : List Fe) (P : List Sd) : Prop where
  sb : ScB wr n0 bp vt vp
  fb : FlB wr n1 va vb vc
  li : DOwn wr B v7 P
  fe : FOwn wr 0 v8 X
  gr : w.grownBy wr none
theorem AbT.keep {w wr wr' : World} {n0 n1 : Nat} {bp : Option Addr} {vt vp va vb vc : Value} {B : Nat} {v7 v8 : Value} {X : List Fe} {P : List Sd} (h : AbT w wr n0 n1 bp vt vp va vb vc B v7 v8 X P) (g : wr.grownBy wr' none) : AbT w wr' n0 n1 bp vt vp va vb vc B v7 v8 X P := ⟨grown_keep g h.sb (by simp), grown_keep g h.fb (by simp), own_grow h.li g, own_grow h.fe g, grown_trans h.gr g⟩
theorem AbT.more {w wr wr' : World} {n0 n1 : Nat} {bp : Option Addr} {vt vp va vb vc : Value} {B : Nat} {v7 v8 v9 : Value} {X : List Fe} {P Q : List Sd} (h : AbT w wr n0 n1 bp vt vp va vb vc B v7 v8 X P) (g : wr.grownBy wr' v7.ownBlock) (hB : w.heap.size ≤ B) (o : DOwn wr' B v9 Q) : AbT w wr' n0 n1 bp vt vp va vb vc B v9 v8 X Q := ⟨grown_keep g h.sb (own_tag h.li h.sb (by decide)), grown_keep g h.fb (own_tag h.li h.fb (by decide)), o, own_other h.fe h.li (by decide) g, grown_own h.gr g (fun x e => Nat.le_trans hB (World.ownsRow.lt h.li x e).1)⟩
theorem AbT.turn {w wr wr' : World} {n0 n1 : Nat} {bp : Option Addr} {vt vp va vb vc : Value} {B B' : Nat} {v7 v8 v9 : Value} {X Y : List Fe} {P : List Sd} (h : AbT w wr n0 n1 bp vt vp va vb vc B v7 v8 X P) (g : wr.grownBy wr' none) (o : FOwn wr' B' v9 Y) : AbT w wr' n0 n1 bp vt vp va vb vc B v7 v9 Y P := ⟨grown_keep g h.sb (by simp), grown_keep g h.fb (by simp), own_grow h.li g, own_big o (Nat.zero_le _), grown_trans h.gr g⟩
theorem onc_at {m : Int} {cd : Int → Hd × List Pt} {ts : List Th} {G : List Fe} {R : List Rw} {k : Int} {X : List Fe} {L acc : List Se} {j : Nat} (h : Onc m cd ts G R k X L acc) (ha : acc.length = j) (hj : j < (allR R G k).2.length) : (allR R G k).2.getD j Se.none ∈ effL R (pickF R G) k ∧ ∃ L' acc', Onc m cd ts G R k (amgL X R (applyL R (pickF R X) ((allR R G k).2.getD j Se.none))) L' acc' ∧ acc'.length = j + 1 := by
  have h0 : 0 < L.length := by
    obtain ⟨B, e1, hB⟩ := allL_pre R _ (pickF R X) L acc rfl
    rw [h.all, e1, List.length_append] at hj
    omega
  have hn := h.now h0
  rw [ha] at hn
  rw [hn]
  refine ⟨h.mem _ (by rw [getD_in (h.lt h0)]; exact List.getElem_mem _), _, _, h.step h0, ?_⟩
  rw [List.length_append, List.length_singleton, ha]
theorem why_step {R : List Rw} {x : Int} {X : List Fe} {E : List Se} {j : Nat} {P Q : List Sd} {e : Se} {b : Bool} (hj : j < E.length) (he : e = E.getD j Se.none) (h : P ++ (whyL R x X (E.drop j)).map Se.s = Q) (hb : b = decide (x ∈ numL R (aboutL R (pickF R X) e))) : (if b then P ++ [e.s] else P) ++ (whyL R x (amgL X R (applyL R (pickF R X) e)) (E.drop (j + 1))).map Se.s = Q := by
  rw [why_at hj, ← he] at h
  rw [← h, hb]
  by_cases q : x ∈ numL R (aboutL R (pickF R X) e)
  · rw [if_pos q, decide_eq_true q]
    simp
  · rw [if_neg q, decide_eq_false q]
    simp
theorem sd_one_more {w : World} {base : Nat} {v : Value} {P : List Sd} {s : Sd} (h : w.ownsRow base 49 10 v (P.length + 1) (sdR.cs P ++ sdc s)) : DOwn w base v (P ++ [s]) := RecT.more h rfl
set_option maxRecDepth 100000 in
set_option maxHeartbeats 4000000 in
theorem vabout_any (bp pt pp pg pa pc : Option Addr) (ct np cp cg na ca nc cc : Nat) (r n : Int) (cd : Int → Hd × List Pt) (ts : List Th) (pf : Th → Fe) (mf : Fe → Th → Fe) (me : Th → Int) (x k : Int) (G : List Fe) (R : List Rw) (BG BE : Nat) (w : World) (I : VIn w (.pointer bp) (.slice pt ts.length ct) r n cd ts pf mf me) (hT : Tab n cd ts G R) (hr : r = 0) (OG : FOwn w BG (.slice pg G.length cg) G) (OE : DOwn w BE (.slice pa na ca) ((allR R G k).2.map Se.s)) : Calls Tryz.prog 73 #[.agg #[.pointer bp, .slice pt ts.length ct, .slice pp np cp], .int .i64 x, .agg #[.slice pg G.length cg, .slice pa na ca, .slice pc nc cc]] w fun e w' => ∃ v, e = .returned v ∧ DOwn w' w.heap.size v ((whyL R x G (allR R G k).2).map Se.s) ∧ w.grownBy w' none := by
  subst hr
  have hE64 : (allR R G k).2.length ≤ 64 := by rw [allR_len]; exact hT.effs (I.few4 rfl) _ _
  obtain ⟨E, hE⟩ : ∃ E, E = (allR R G k).2 := ⟨_, rfl⟩
  have HE : Hid (E = (allR R G k).2 ∧ E.length ≤ 64) := ⟨hE, by rw [hE]; exact hE64⟩
  rw [← hE] at OE ⊢
  have hna : na = E.length := by obtain ⟨a, b, e⟩ := RecT.Own.form OE; injection e with _ e _; rw [e, List.length_map]
  subst hna
  obtain ⟨i0, hi, hz0, hz1, hz2⟩ := info_parts Tryz.linfoD
  obtain ⟨W1, hW1⟩ : ∃ W1, W1 = (w.alloc (.cells #[.pointer bp, .slice pt ts.length ct, .slice pp np cp] 144)).alloc (.cells #[.slice pg G.length cg, .slice pa E.length ca, .slice pc nc cc] 150) := ⟨_, rfl⟩
  have HG1 : Hid (w.grownBy W1 none) := by rw [hW1]; exact grown_push (World.grownBy_alloc _ _ none) _
  have HS1 : Hid (ScB W1 w.heap.size bp (.slice pt ts.length ct) (.slice pp np cp)) := by rw [hW1]; exact alloc_two _ _ _ _ _
  have HF1 : Hid (FlB W1 (w.heap.size + 1) (.slice pg G.length cg) (.slice pa E.length ca) (.slice pc nc cc)) := by rw [hW1]; exact alloc2_b _ _ _ _
  have HI : Hid (VIn w (.pointer bp) (.slice pt ts.length ct) 0 n cd ts pf mf me) := I
  have HT : Hid (Tab n cd ts G R) := hT
  have HOG : Hid (FOwn w BG (.slice pg G.length cg) G) := OG
  have HOE : Hid (sdR.At w (.slice pa E.length ca) (E.map Se.s)) := RecT.Own.at OE
  obtain ⟨Q, hQ⟩ : ∃ Q, Q = (whyL R x G E).map Se.s := ⟨_, rfl⟩
  have HQ : Hid (Q = (whyL R x G E).map Se.s) := hQ
  rw [← hQ]
  clear I hT OG OE hE hE64 hQ
  go_enter Tryz.func73, Tryz.ntmps73
  go_upto_region 1 with fail
  rw [← hW1]
  clear hW1
  obtain ⟨n0, hn0⟩ : ∃ n0, n0 = w.heap.size := ⟨_, rfl⟩
  obtain ⟨n1, hn1⟩ : ∃ n1, n1 = n0 + 1 := ⟨_, rfl⟩
  simp only [← hn0, ← hn1] at HS1 HF1 ⊢
  clear hn0 hn1
  obtain ⟨f0, f1, f2⟩ := fl_box HF1.out
  go_wp2_with fail
  clear f0 f1 f2
  go_loopw [7, 8, 10, 11, 12, 18] (fun x7 x8 _ _ _ y wr => ∃ (j : Nat) (pL : Option Addr) (nL cL : Nat) (pF : Option Addr) (cF : Nat) (P : List Sd) (X : List Fe), j ≤ E.length ∧ y = .int .i64 (j : Int) ∧ x7 = .slice pL nL cL ∧ x8 = .slice pF G.length cF ∧ Hid (AbT w wr n0 n1 bp (.slice pt ts.length ct) (.slice pp np cp) (.slice pg G.length cg) (.slice pa E.length ca) (.slice pc nc cc) w.heap.size (.slice pL nL cL) (.slice pF G.length cF) X P) ∧ Hid (∃ L acc, Onc n cd ts G R k X L acc ∧ acc.length = j) ∧ Hid (P ++ (whyL R x X (E.drop j)).map Se.s = Q ∧ P.length ≤ j)) (fun _ _ _ _ _ y _ => E.length - (intOf y).toNat)
  case atStart => exact ⟨0, none, 0, 0, pg, cg, [], G, Nat.zero_le _, rfl, rfl, rfl, ⟨HS1.out, HF1.out, RecT.Own.nil _ _ _ _, own_grow (own_big HOG.out (Nat.zero_le _)) HG1.out, HG1.out⟩, ⟨_, _, Onc.start HT.out, rfl⟩, HQ.out.symm, Nat.le_refl _⟩
  case round =>
    obtain ⟨j, pL, nL, cL, pF, cF, P, X, hj, rfl, rfl, rfl, HA, HO, HP⟩ := hrel
    obtain ⟨U, hU⟩ : ∃ U, U = wr := ⟨_, rfl⟩
    subst hU
    by_cases hlt : j < E.length
    · obtain ⟨L, acc, hOn, hac⟩ := HO.out
      have hon := onc_at hOn hac (by rw [← HE.out.1]; exact hlt)
      rw [← HE.out.1] at hon
      obtain ⟨e, he⟩ : ∃ e, e = E.getD j Se.none := ⟨_, rfl⟩
      rw [← he] at hon
      have HOn : Hid (Tab n cd ts X R ∧ e ∈ effL R (pickF R G) k ∧ ∃ L' acc', Onc n cd ts G R k (amgL X R (applyL R (pickF R X) e)) L' acc' ∧ acc'.length = j + 1) := ⟨hOn.tab, hon.1, hon.2⟩
      have HXl : Hid (X.length = G.length) := hOn.len
      obtain ⟨gE, oE, cE, eE, hRE⟩ := es_there (HOE.out.keep HA.out.gr) hlt
      cases eE
      rw [← he] at hRE
      obtain ⟨x0, x1, x2, x3, x4, x5, x6, x7, x8, x9⟩ := sd_cells hRE
      obtain ⟨Y, hY⟩ : ∃ Y, Y = U.alloc (.cells #[.int .i64 e.s.th, .int .i64 e.s.pl, .int .u8 e.s.wh.wn, .int .u8 e.s.wh.vb, .int .u8 e.s.wh.wm, .int .i64 e.s.wh.ct, .int .u8 e.s.wh.su, .int .u8 e.s.wh.tr, .int .u8 e.s.wh.mr, .string e.s.wh.nm] 49) := ⟨_, rfl⟩
      have HGY : Hid (U.grownBy Y none) := by rw [hY]; exact World.grownBy_alloc _ _ none
      have HB : Hid (SdB Y U.heap.size e.s) := by rw [hY]; exact alloc_at _ _ _
      have HAY : Hid (AbT w Y n0 n1 bp (.slice pt ts.length ct) (.slice pp np cp) (.slice pg G.length cg) (.slice (some ⟨gE, oE, none⟩) E.length ca) (.slice pc nc cc) w.heap.size (.slice pL nL cL) (.slice pF G.length cF) X P) := HA.out.keep HGY.out
      have HNb : Hid (some U.heap.size ≠ (Value.slice pL nL cL).ownBlock) := fun q => Nat.lt_irrefl _ (World.ownsRow.lt HA.out.li _ q.symm).2
      have hlt' : (j : Int) < E.length := Int.ofNat_lt.2 hlt
      have hwk := wrap_next (k := j) (by have := HE.out.2; omega)
      have Hlt : Hid (j < E.length ∧ e = E.getD j Se.none) := ⟨hlt, he⟩
      have HM : Hid (E.length - (intOf (.int .i64 ((j : Int) + 1))).toNat < E.length - (intOf (.int .i64 (j : Int))).toNat) := meas_k hlt
      clear hlt hj hRE he hon hOn hac HO HA L acc
      go_upto_region 6 with fail
      rw [← hY]
      clear hY x0 x1 x2 x3 x4 x5 x6 x7 x8 x9
      obtain ⟨nb, hnb⟩ : ∃ nb, nb = U.heap.size := ⟨_, rfl⟩
      rw [← hnb] at HB HNb ⊢
      clear hnb
      obtain ⟨s0, s1, s2⟩ := sc_box HAY.out.sb
      obtain ⟨x0, x1, x2, x3, x4, x5, x6, x7, x8, x9⟩ := sd_box HB.out
      have C6 := lAbout_any _ _ (.slice pF G.length cF) 0 n cd ts X e.s Y (HI.out.li Y _ X HAY.out.gr (RecT.Own.at HAY.out.fe) (by rw [← HOn.out.1.len]; exact Nat.le_trans (HI.out.few rfl) (by decide)))
      unfold sdv at C6
      go_wp2_with fail
      refine (C6.mono fun e' w' z => HOn.out.1.abt HOn.out.2.1 z).mono ?_
      rintro e6 w6 ⟨p6, c6, rfl, g6, o6⟩
      obtain ⟨l, hl⟩ : ∃ l, l = numL R (aboutL R (pickF R X) e) := ⟨_, rfl⟩
      rw [← hl] at o6 ⊢
      have hl16 : l.length ≤ 16 := by rw [hl]; exact Nat.le_trans (numU_len _ _ _) HOn.out.1.few
      have C7 := vcontains_any (.slice p6 l.length c6) Y.heap.size l x w6 o6 (by omega)
      obtain ⟨b, hb⟩ : ∃ b, b = decide (x ∈ l) := ⟨_, rfl⟩
      rw [← hb] at C7
      have HSt : Hid ((if b then P ++ [e.s] else P) ++ (whyL R x (amgL X R (applyL R (pickF R X) e)) (E.drop (j + 1))).map Se.s = Q) := why_step Hlt.out.1 Hlt.out.2 HP.out.1 (by rw [hb, hl])
      have HA6 : Hid (AbT w w6 n0 n1 bp (.slice pt ts.length ct) (.slice pp np cp) (.slice pg G.length cg) (.slice (some ⟨gE, oE, none⟩) E.length ca) (.slice pc nc cc) w.heap.size (.slice pL nL cL) (.slice pF G.length cF) X P) := HAY.out.keep g6
      have HB6 : Hid (SdB w6 nb e.s) := grown_keep g6 HB.out (by simp)
      clear C6 g6 o6 hl hl16 hb s0 s1 s2 x0 x1 x2 x3 x4 x5 x6 x7 x8 x9 HAY HB
      go_wp2_with fail
      refine C7.mono ?_
      rintro e7 w7 ⟨rfl, ew7⟩
      rw [ew7]
      clear ew7 w7 C7
      cases b with
      | false =>
        have HSn : Hid (P ++ (whyL R x (amgL X R (applyL R (pickF R X) e)) (E.drop (j + 1))).map Se.s = Q ∧ P.length ≤ j + 1) := ⟨HSt.out, Nat.le_succ_of_le HP.out.2⟩
        go_upto_region 9 with fail
        have C9 := lApply_any _ _ (.slice pF G.length cF) 0 n cd ts X e.s w6 (HI.out.li w6 _ X HA6.out.gr (RecT.Own.at HA6.out.fe) (by rw [← HOn.out.1.len]; exact Nat.le_trans (HI.out.few rfl) (by decide)))
        unfold sdv at C9
        obtain ⟨s0, s1, s2⟩ := sc_box HA6.out.sb
        obtain ⟨x0, x1, x2, x3, x4, x5, x6, x7, x8, x9⟩ := sd_box HB6.out
        go_wp2_with fail
        refine (C9.mono fun e' w' z => HOn.out.1.app HOn.out.2.1 z).mono ?_
        rintro e9 w9 ⟨p9, c9, rfl, g9, o9⟩
        have hlm : (amgL X R (applyL R (pickF R X) e)).length = G.length := by rw [amgL_len]; exact HXl.out
        rw [hlm] at o9 ⊢
        have HA9 : Hid (AbT w w9 n0 n1 bp (.slice pt ts.length ct) (.slice pp np cp) (.slice pg G.length cg) (.slice (some ⟨gE, oE, none⟩) E.length ca) (.slice pc nc cc) w.heap.size (.slice pL nL cL) (.slice p9 G.length c9) (amgL X R (applyL R (pickF R X) e)) P) := HA6.out.turn g9 o9
        clear C9 g9 o9 hlm s0 s1 s2 x0 x1 x2 x3 x4 x5 x6 x7 x8 x9
        go_wp2_with fail
        go_roundw
        case rel => exact ⟨j + 1, pL, nL, cL, p9, c9, P, amgL X R (applyL R (pickF R X) e), Hlt.out.1, by first | rfl | (rw [hwk]; rfl) | go_num, rfl, rfl, HA9, HOn.out.2.2, HSn.out⟩
        case measure => first | exact HM.out | (rw [hwk]; exact HM.out)
      | true =>
        have HSn : Hid ((P ++ [e.s]) ++ (whyL R x (amgL X R (applyL R (pickF R X) e)) (E.drop (j + 1))).map Se.s = Q ∧ (P ++ [e.s]).length ≤ j + 1) := ⟨HSt.out, by rw [List.length_append, List.length_singleton]; exact Nat.succ_le_succ HP.out.2⟩
        have HLn : Hid (P.length + 1 ≤ maxLen ∧ (P.length + 1) * 56 ≤ 140737488355328) := len_smallD (by have := HP.out.2; have := HE.out.2; have := Hlt.out.1; omega)
        obtain ⟨x0, x1, x2, x3, x4, x5, x6, x7, x8, x9⟩ := sd_box HB6.out
        go_upto_region 9 with (at_builtin; refine lwpl_app (by rfl) (.tmp 35) (.tmp 37) 36 rfl w.heap.size 49 i0 _ 10 56 Tryz.underlying36 hi hz0 hz1 hz2 rfl (by decide) _ P.length (sdR.cs P) rfl (World.ownsRow.alloc HA6.out.li _) _ 1 (sdc e.s) rfl (sd_src w6 e.s) (sdc_ones _) HLn.out.1 HLn.out.2 (by rw [World.size_alloc]; exact Nat.le_succ_of_le HA6.out.gr.size) ?_; intro v8 w8 o8 g8 _; have HO8 : Hid _ := o8; have HG8 : Hid _ := g8; clear o8 g8)
        clear x0 x1 x2 x3 x4 x5 x6 x7 x8 x9
        have HO8' : Hid (w8.ownsRow w.heap.size 49 10 v8 (P.length + 1) (sdR.cs P ++ sdc e.s)) := HO8.out
        obtain ⟨p8, c8, ev8, -⟩ := own_slice HO8'.out
        subst ev8
        have HA7 := HA6.out.keep (World.grownBy_alloc w6 (.cells (sdc e.s).toArray 49) none)
        have HA8 : Hid (AbT w w8 n0 n1 bp (.slice pt ts.length ct) (.slice pp np cp) (.slice pg G.length cg) (.slice (some ⟨gE, oE, none⟩) E.length ca) (.slice pc nc cc) w.heap.size (.slice p8 (P.length + 1) c8) (.slice pF G.length cF) X (P ++ [e.s])) := HA7.more HG8.out (Nat.le_refl _) (sd_one_more HO8'.out)
        have HB8 : Hid (SdB w8 nb e.s) := grown_keep HG8.out (grown_keep (World.grownBy_alloc w6 (.cells (sdc e.s).toArray 49) none) HB6.out (by simp)) HNb.out
        clear HA7 HO8 HG8 HO8' HA6 HB6
        have C9 := lApply_any _ _ (.slice pF G.length cF) 0 n cd ts X e.s w8 (HI.out.li w8 _ X HA8.out.gr (RecT.Own.at HA8.out.fe) (by rw [← HOn.out.1.len]; exact Nat.le_trans (HI.out.few rfl) (by decide)))
        unfold sdv at C9
        obtain ⟨s0, s1, s2⟩ := sc_box HA8.out.sb
        obtain ⟨x0, x1, x2, x3, x4, x5, x6, x7, x8, x9⟩ := sd_box HB8.out
        go_wp2_with fail
        refine (C9.mono fun e' w' z => HOn.out.1.app HOn.out.2.1 z).mono ?_
        rintro e9 w9 ⟨p9, c9, rfl, g9, o9⟩
        have hlm : (amgL X R (applyL R (pickF R X) e)).length = G.length := by rw [amgL_len]; exact HXl.out
        rw [hlm] at o9 ⊢
        have HA9 : Hid (AbT w w9 n0 n1 bp (.slice pt ts.length ct) (.slice pp np cp) (.slice pg G.length cg) (.slice (some ⟨gE, oE, none⟩) E.length ca) (.slice pc nc cc) w.heap.size (.slice p8 (P.length + 1) c8) (.slice p9 G.length c9) (amgL X R (applyL R (pickF R X) e)) (P ++ [e.s])) := HA8.out.turn g9 o9
        clear C9 g9 o9 hlm s0 s1 s2 x0 x1 x2 x3 x4 x5 x6 x7 x8 x9
        go_wp2_with fail
        go_roundw
        case rel => exact ⟨j + 1, p8, (P.length + 1), c8, p9, c9, (P ++ [e.s]), amgL X R (applyL R (pickF R X) e), Hlt.out.1, by first | rfl | (rw [hwk]; rfl) | go_num, rfl, rfl, HA9, HOn.out.2.2, HSn.out⟩
        case measure => first | exact HM.out | (rw [hwk]; exact HM.out)
    · obtain rfl : j = E.length := Nat.le_antisymm hj (Nat.le_of_not_lt hlt)
      have HX : Hid (DOwn U w.heap.size (.slice pL nL cL) Q ∧ w.grownBy U none) := ⟨by rw [← HP.out.1, List.drop_length]; show DOwn _ _ _ (P ++ []); rw [List.append_nil]; exact HA.out.li, HA.out.gr⟩
      clear hj hlt
      go_wp2_with fail
      go_ret
      exact ⟨_, rfl, HX.out⟩
end Go.Proofs.YtmemeloehgemcaaGreat
