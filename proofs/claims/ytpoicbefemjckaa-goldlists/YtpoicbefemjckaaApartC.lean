/-
  ApartCards of lists that lie in blocks of their own, their parts in blocks of theirs, answers true.
-/
import Derived.Test.YtpoicbefemjckaaApart
import Derived.Test.YtpoicbefemjckaaSameC
import Derived.Maps.AppendAt
namespace Go.Proofs.Ytpoicbefemjckaa
open Go.RowKit

theorem ecells_split (es : List Ent) {j : Nat} {e : Ent} (he : es[j]? = some e) : ecells es = ecells (es.take j) ++ (cvs e.h e.v ++ ecells (es.drop (j + 1))) := by
  obtain ⟨h1, h2⟩ := List.getElem?_eq_some_iff.1 he
  have h3 : es = es.take j ++ (e :: es.drop (j + 1)) := by
    rw [← h2, ← List.drop_eq_getElem_cons h1, List.take_append_drop]
  conv => lhs; rw [h3]
  rw [ecells_app]
  rfl
theorem set9_row {w : World} {g : Nat} {es : List Ent} {t : TypeId} (h : w.heap[g]? = some (.cells (ecells es).toArray t (0, 0))) {j : Nat} {e : Ent} (he : es[j]? = some e) (x : Ent) : (set9 w g (j * 9) x.h x.v).heap[g]? = some (.cells (ecells (es.set j x)).toArray t (0, 0)) := by
  have h1 := (List.getElem?_eq_some_iff.1 he).1
  rw [ecells_split es he] at h
  have h2 := set9_block h (j * 9) (by rw [ecells_len, List.length_take]; omega) rfl x.h x.v
  have h3 : (es.set j x)[j]? = some x := by rw [List.getElem?_set]; simp [h1]
  rw [h2, ecells_split _ h3, List.take_set_of_le (Nat.le_refl _), List.drop_set_of_lt (Nat.lt_succ_self _)]
/-- Where a card's parts lie, as a list. -/
def lstOf (e : Ent) : Lst := ⟨e.v.ownBlock, e.ps.length, e.ps.length⟩
theorem lst_v {base : Nat} {w : World} {e : Ent} (h : Own8 base w e.v e.ps) : e.v = (lstOf e).v := by
  rcases h with ⟨h1, h2⟩ | ⟨g, h1, _⟩
  · unfold lstOf Lst.v; rw [h1, h2]; rfl
  · unfold lstOf Lst.v; rw [h1]; rfl
theorem lst_ok {base : Nat} {w : World} {e : Ent} (h : Own8 base w e.v e.ps) (h4 : e.ps.length ≤ 4) : (lstOf e).ok w := by
  rcases h with ⟨h1, h2⟩ | ⟨g, h1, h2, _⟩
  · exact Or.inl ⟨by unfold lstOf; rw [h1]; rfl, by unfold lstOf; rw [h2]; rfl, by unfold lstOf; rw [h2]; rfl⟩
  · refine Or.inr ⟨g, by unfold lstOf; rw [h1]; rfl, Nat.le_refl _, by unfold lstOf lim maxLen; simp only; omega, _, h2, ?_⟩
    unfold lstOf
    simp only [List.size_toArray, pcells_len]
abbrev CL := Nat × List Ent
def flat (T : List CL) : List Ent := T.flatMap fun x => x.2
def pre (T : List CL) (i : Nat) : Nat := (flat (T.take i)).length
theorem pre_next {T : List CL} {i : Nat} {x : CL} (h : T[i]? = some x) : pre T (i + 1) = pre T i + x.2.length := by
  unfold pre flat
  rw [List.take_add_one, h]
  simp
theorem pre_all (T : List CL) : pre T T.length = (flat T).length := by unfold pre; rw [List.take_of_length_le (Nat.le_refl _)]
theorem flat_at {T : List CL} {i k : Nat} {x : CL} {e : Ent} (h : T[i]? = some x) (he : x.2[k]? = some e) : (flat T)[pre T i + k]? = some e := by
  obtain ⟨h1, h2⟩ := List.getElem?_eq_some_iff.1 h
  have h3 : T = T.take i ++ (x :: T.drop (i + 1)) := by
    rw [← h2, ← List.drop_eq_getElem_cons h1, List.take_append_drop]
  have h4 : flat T = flat (T.take i) ++ (x.2 ++ flat (T.drop (i + 1))) := by
    conv => lhs; rw [h3]
    simp [flat]
  rw [h4, List.getElem?_append_right (by unfold pre; omega), show pre T i + k - (flat (T.take i)).length = k by unfold pre; omega, List.getElem?_append_left (List.getElem?_eq_some_iff.1 he).1]
  exact he
def pv8 (T : List CL) (n : Nat) : List Value := ((flat T).take n).map fun e => e.v
theorem pv8_snoc {T : List CL} {n : Nat} {e : Ent} (h : (flat T)[n]? = some e) : pv8 T (n + 1) = pv8 T n ++ [e.v] := by
  unfold pv8
  rw [List.take_add_one, h]
  simp
/-- What is written over a card. -/
def mkH (i k : Int) : Hd := ⟨⟨#[]⟩, 0, 0, wrap64 (wrap64 (-i) - 1), k, 0, 0, false⟩
def mkE (i k : Nat) : Ent := ⟨mkH i k, .slice none 0 0, []⟩
/-- The lists, written over so far: those before i, and of list i the first k. -/
def MkC (w : World) (T : List CL) (i k : Nat) : Prop := ∀ (j : Nat) (x : CL), T[j]? = some x → ∃ fs, w.heap[x.1]? = some (.cells (ecells fs).toArray 47 (0, 0)) ∧ fs.length = x.2.length ∧ (∀ e ∈ fs, ∃ a n c, e.v = .slice a n c) ∧ ∀ m, m < x.2.length → (j < i ∨ (j = i ∧ m < k)) → fs[m]? = some (mkE j m)
theorem MkC.keep {w w' : World} {T : List CL} {i k : Nat} (M : MkC w T i k) (g : w.grownBy w' none) : MkC w' T i k := fun j x hj => by
  obtain ⟨fs, h1, h2⟩ := M j x hj
  exact ⟨fs, grown_keep g h1 (by simp), h2⟩
theorem MkC.next {w : World} {T : List CL} {i k : Nat} {x : CL} (M : MkC w T i k) (hi : T[i]? = some x) (hk : x.2.length ≤ k) : MkC w T (i + 1) 0 := fun j y hj => by
  obtain ⟨fs, h1, h2, h5, h3⟩ := M j y hj
  refine ⟨fs, h1, h2, h5, fun m hm h => h3 m hm ?_⟩
  by_cases e : j = i
  · subst e
    obtain rfl : y = x := Option.some.inj (hj.symm.trans hi)
    omega
  · omega
def DiffC (T : List CL) : Prop := ∀ (i j : Nat) (x y : CL), T[i]? = some x → T[j]? = some y → x.1 = y.1 → i = j
theorem MkC.step {w : World} {T : List CL} {i k : Nat} {x : CL} (M : MkC w T i k) (hD : DiffC T) (hi : T[i]? = some x) (hk : k < x.2.length) : MkC (set9 w x.1 (k * 9) (mkH i k) (.slice none 0 0)) T i (k + 1) := fun j y hj => by
  obtain ⟨fs, h1, h2, h5, h3⟩ := M j y hj
  by_cases e : y.1 = x.1
  · obtain rfl := hD j i y x hj hi e
    obtain rfl : y = x := Option.some.inj (hj.symm.trans hi)
    obtain ⟨e0, he0⟩ : ∃ e0, fs[k]? = some e0 := ⟨_, List.getElem?_eq_getElem (by omega)⟩
    refine ⟨fs.set k (mkE j k), set9_row h1 he0 (mkE j k), by simpa using h2, fun q hq => ?_, fun m hm h => ?_⟩
    · rcases List.mem_or_eq_of_mem_set hq with hq | rfl
      · exact h5 q hq
      · exact ⟨_, _, _, rfl⟩
    · rw [List.getElem?_set]
      by_cases em : k = m
      · subst em
        rw [if_pos rfl, if_pos (by omega)]
      · rw [if_neg em]
        exact h3 m hm (by omega)
  · refine ⟨fs, grown_keep (grown_s9 _ _ _ _ _) h1 (fun e' => e (by injection e')), h2, h5, fun m hm h => h3 m hm ?_⟩
    by_cases ej : j = i
    · subst ej
      obtain rfl : y = x := Option.some.inj (hj.symm.trans hi)
      exact absurd rfl e
    · omega
def cblocks (T : List CL) : List Nat := T.map fun x => x.1
theorem mem_cblocks {T : List CL} {j : Nat} {x : CL} (h : T[j]? = some x) : x.1 ∈ cblocks T := List.mem_map.2 ⟨x, List.mem_of_getElem? h, rfl⟩
theorem Kpt.keep {S : List Nat} {a b : World} (h : Kpt S a b) {k : Nat} {o : Obj} (hk : a.heap[k]? = some o) (hs : k ∉ S) : b.heap[k]? = some o := (h.block k (block_lt hk) hs).trans hk
def slc (x : CL) : Value := .slice (some ⟨x.1, 0, none⟩) x.2.length x.2.length
structure ApC (w : World) (gt : Nat) (T : List CL) : Prop where
  rows : ∀ (j : Nat) x, T[j]? = some x → w.cell? ⟨gt, j, none⟩ = some (slc x)
  lies : ∀ x ∈ T, w.heap[x.1]? = some (.cells (ecells x.2).toArray 47 (0, 0))
  own : ∀ x ∈ T, ∀ e ∈ x.2, Own8 0 w e.v e.ps ∧ e.ps.length ≤ 4
  diff : Diff ((flat T).map lstOf)
  difc : DiffC T
  other : ∀ x ∈ T, ¬ x.1 = gt
  small : T.length ≤ 40 ∧ (flat T).length ≤ 40 ∧ ∀ x ∈ T, x.2.length ≤ 40
  some : 0 < (flat T).length
set_option maxRecDepth 100000 in
set_option maxHeartbeats 4000000 in
theorem apartC_any (gt ct : Nat) (T : List CL) (w : World) (A : ApC w gt T) (hgp : gt ∉ blocks ((flat T).map lstOf)) : Calls Try.prog 17 #[.slice (some ⟨gt, 0, none⟩) T.length ct] w fun e w' => e = .returned (.bool true) ∧ Kpt (blocks ((flat T).map lstOf) ++ cblocks T) w w' := by
  obtain ⟨i0, hi, hz0, hz1, hz2⟩ := info_parts Try.info45
  have HA : Hid (ApC w gt T) := A
  have HGT : Hid (gt ∉ blocks ((flat T).map lstOf)) := hgp
  have sT : Small T.length := by have := A.small.1; unfold Small; omega
  have s40 : Small 41 := by unfold Small; decide
  clear A hgp
  go_enter Try.func17, Try.ntmps17
  go_wp2_with fail
  go_loopw [3, 4] (fun v i wr => ∃ (k : Nat) (q : Option Addr) (cp : Nat), k ≤ T.length ∧ i = .int .i64 (k : Int) ∧ v = .slice q (pre T k) cp ∧ wr.ownsRow w.heap.size 45 1 v (pre T k) (pv8 T (pre T k)) ∧ w.grownBy wr none) (fun _ i _ => T.length - (intOf i).toNat)
  case atStart => exact ⟨0, none, 0, Nat.zero_le _, rfl, rfl, World.ownsRow_nil _ _ _ _, grown_refl _ _⟩
  case round =>
    obtain ⟨k, q, cp, hk, rfl, rfl, O, G⟩ := hrel
    rcases (show k < T.length ∨ k = T.length from by omega) with hlt | hke
    · obtain ⟨x, hx⟩ : ∃ x, T[k]? = some x := ⟨_, List.getElem?_eq_getElem hlt⟩
      have HX : Hid (T[k]? = some x) := hx
      have k0 : (0 : Int) ≤ (k : Int) := by omega
      have k1 : (k : Int) < (T.length : Int) := by omega
      have xl : x.2.length ≤ 40 := HA.out.small.2.2 x (List.mem_of_getElem? hx)
      have HPn : Hid (pre T (k + 1) = pre T k + x.2.length) := pre_next hx
      have sx : Small x.2.length := by unfold Small; omega
      obtain ⟨U0, hU0⟩ : ∃ U0, U0 = wr := ⟨_, rfl⟩
      subst hU0
      have HO : Hid (U0.ownsRow w.heap.size 45 1 (.slice q (pre T k) cp) (pre T k) (pv8 T (pre T k))) := O
      have HG : Hid (w.grownBy U0 none) := G
      clear O G hx hk
      go_wp2_with fail
      go_loopw [3, 5] (fun v j wr => ∃ (m : Nat) (q : Option Addr) (cp : Nat), m ≤ x.2.length ∧ j = .int .i64 (m : Int) ∧ v = .slice q (pre T k + m) cp ∧ wr.ownsRow w.heap.size 45 1 v (pre T k + m) (pv8 T (pre T k + m)) ∧ w.grownBy wr none) (fun _ j _ => x.2.length - (intOf j).toNat)
      case atStart => exact ⟨0, q, cp, Nat.zero_le _, rfl, rfl, HO.out, HG.out⟩
      case round =>
        clear HO HG
        obtain ⟨m, q, cp, hm, rfl, rfl, O, G⟩ := hrel
        obtain ⟨U, hU⟩ : ∃ U, U = wr := ⟨_, rfl⟩
        subst hU
        have HG : Hid (w.grownBy U none) := G
        have c0 : U.cell? ⟨gt, k, none⟩ = some (slc x) := G.cell (HA.out.rows k x HX.out) (by simp)
        unfold slc at c0
        rcases (show m < x.2.length ∨ m = x.2.length from by omega) with hml | hme
        · have m0 : (0 : Int) ≤ (m : Int) := by omega
          have m1 : (m : Int) < (x.2.length : Int) := by omega
          obtain ⟨e, he⟩ : ∃ e, x.2[m]? = some e := ⟨_, List.getElem?_eq_getElem hml⟩
          have z8 := (erow_of (grown_keep G (HA.out.lies x (List.mem_of_getElem? HX.out)) (by simp)) he).c8
          have hfl := flat_at HX.out he
          have hsn := pv8_snoc hfl
          have hlen : pre T k + m < 40 + 1 := by have h1 := (List.getElem?_eq_some_iff.1 hfl).1; have h2 := HA.out.small.2.1; omega
          obtain ⟨ea, ec, hev⟩ := (HA.out.own x (List.mem_of_getElem? HX.out) e (List.mem_of_getElem? he)).1.at.form
          rw [hev] at z8 hsn
          obtain ⟨n, hn⟩ : ∃ n, n = pre T k + m := ⟨_, rfl⟩
          rw [← hn] at O hsn hlen ⊢
          have HN : Hid (n = pre T k + m) := hn
          have HSn : Hid (pv8 T (n + 1) = pv8 T n ++ [.slice ea e.ps.length ec]) := hsn
          have hz : w.heap.size ≤ U.heap.size := G.size
          generalize hxs : pv8 T n = xs at O HSn
          have hb := own_above O
          have HXs : Hid (pv8 T n = xs) := hxs
          clear hn hsn hfl he hev G hxs hm
          go_wp2_with (at_builtin; refine wpList_append_own _ rfl (.tmp 27) (.tmp 36) 82 rfl w.heap.size 45 i0 (.slice none 0 0) 1 24 Try.underlying82 hi hz0 hz1 hz2 rfl (by decide) (.slice q n cp) n xs rfl (O.alloc _) ⟨U.heap.size, 0, none⟩ 1 1 [.slice ea e.ps.length ec] rfl rfl (cell_one_new _ _ _) (fun x hx => by simp at hx; subst hx; rfl) (small_len (by omega)) (by omega) (by simp; omega) ?_; intro v' w7 hown' hgrow7 hnil7; clear hnil7; have G7 : Hid (w.grownBy w7 none) := grown_own (grown_push HG.out _) hgrow7 (fun y hy => hb y hy); clear hgrow7)
          have hfm : ∃ q' cp', v' = .slice q' (n + 1) cp' := by
            rcases hown'.2 with ⟨_, h⟩ | ⟨g, cap, cur, h, _⟩
            · omega
            · exact ⟨_, _, h⟩
          obtain ⟨q', cp', rfl⟩ := hfm
          have HO7 : Hid (w7.ownsRow w.heap.size 45 1 (.slice q' (pre T k + (m + 1)) cp') (pre T k + (m + 1)) (pv8 T (pre T k + (m + 1)))) := by
            have h9 := hown'
            rw [← HSn.out, HN.out] at h9
            exact h9
          have HE7 : Hid (n + 1 = pre T k + (m + 1)) := by rw [HN.out]; rfl
          clear hown' O z8 hb hlen c0
          go_roundw
          case rel => exact ⟨m + 1, q', cp', hml, by first | rfl | (rw [sx.wrap hml]; rfl), by rw [HE7.out], by rw [HE7.out]; exact HO7.out, G7.out⟩
          case measure => first | exact meas_next hml | (rw [sx.wrap hml]; exact meas_next hml)
        · have m1 : ¬ (m : Int) < (x.2.length : Int) := by omega
          have HO2 : Hid (U.ownsRow w.heap.size 45 1 (.slice q (pre T (k + 1)) cp) (pre T (k + 1)) (pv8 T (pre T (k + 1)))) := by have h9 := O; rw [hme, ← HPn.out] at h9; exact h9
          have HE2 : Hid (pre T k + m = pre T (k + 1)) := by show pre T k + m = pre T (k + 1); rw [HPn.out, hme]
          clear O hm hme G
          go_wp2_with fail
          go_roundw
          case rel => exact ⟨k + 1, q, cp, hlt, by first | rfl | (rw [sT.wrap hlt]; rfl), by rw [HE2.out], by rw [HE2.out]; exact HO2.out, HG.out⟩
          case measure => first | exact meas_next hlt | (rw [sT.wrap hlt]; exact meas_next hlt)
    · obtain ⟨V, hV⟩ : ∃ V, V = wr := ⟨_, rfl⟩
      subst hV
      have k1 : ¬ (k : Int) < (T.length : Int) := by omega
      have hpa : pre T k = (flat T).length := by rw [hke]; exact pre_all T
      obtain ⟨Ts, hTs⟩ : ∃ Ts, Ts = (flat T).map lstOf := ⟨_, rfl⟩
      have hTl : Ts.length = (flat T).length := by rw [hTs]; simp
      have O2 : V.ownsRow w.heap.size 45 1 (.slice q (flat T).length cp) (flat T).length (pv8 T (flat T).length) := by rw [hpa] at O; exact O
      have hown : ∀ e ∈ flat T, Own8 0 w e.v e.ps ∧ e.ps.length ≤ 4 := fun e he => by
        obtain ⟨x, hx, hex⟩ := List.mem_flatMap.1 he
        exact HA.out.own x hx e hex
      have hrow : ∃ ga, q = some ⟨ga, 0, none⟩ ∧ ∀ (j : Nat) x, Ts[j]? = some x → V.cell? ⟨ga, j, none⟩ = some x.v := by
        rcases O2.2 with ⟨_, h⟩ | ⟨ga, cap, cur, h, _, hh, _, _, _, htk⟩
        · have := HA.out.some; omega
        · injection h with h1 _ _
          refine ⟨ga, h1, fun j x hj => ?_⟩
          rw [hTs, List.getElem?_map] at hj
          cases he : (flat T)[j]? with
          | none => rw [he] at hj; cases hj
          | some e =>
            rw [he] at hj
            obtain rfl : lstOf e = x := Option.some.inj hj
            have hjl := (List.getElem?_eq_some_iff.1 he).1
            have h9 : (pv8 T (flat T).length)[j]? = some e.v := by
              unfold pv8
              rw [List.take_of_length_le (Nat.le_refl _), List.getElem?_map, he]
              rfl
            rw [← lst_v (hown e (List.mem_of_getElem? he)).1, block_cell hh, ← h9, ← htk, List.getElem?_take, if_pos (by omega)]
            simp
      obtain ⟨ga, rfl, hRT⟩ := hrow
      have hDok : ∀ x ∈ Ts, x.ok V := fun x hx => by
        rw [hTs] at hx
        obtain ⟨e, he, rfl⟩ := List.mem_map.1 hx
        exact lst_ok ((hown e he).1.keep G) (hown e he).2
      have HAP := apart_any ga cp Ts V (by rw [hTl]; exact HA.out.some) (by rw [hTl]; exact HA.out.small.2.1) hRT hDok (by rw [hTs]; exact HA.out.diff)
      rw [hTl, ← hpa] at HAP
      have HGv : Hid (w.grownBy V none) := G
      have HTs : Hid (Ts = (flat T).map lstOf) := hTs
      clear O O2 hown hRT hDok hTs hTl G hk hke hpa
      go_wp2_with fail
      refine HAP.mono ?_
      rintro e V1 ⟨rfl, KP⟩
      have HLs : Hid (∀ x ∈ T, V1.heap[x.1]? = some (.cells (ecells x.2).toArray 47 (0, 0))) := fun x hx => by
        have h1 := grown_keep HGv.out (HA.out.lies x hx) (by simp)
        refine KP.keep h1 (fun hb => ?_)
        obtain ⟨y, hy, hya⟩ := List.mem_filterMap.1 hb
        rw [HTs.out] at hy
        obtain ⟨e, he, rfl⟩ := List.mem_map.1 hy
        obtain ⟨z, hz, hez⟩ := List.mem_flatMap.1 he
        rcases (HA.out.own z hz e hez).1 with ⟨h2, _⟩ | ⟨g, h2, h3, _⟩
        · unfold lstOf at hya; simp only at hya; rw [h2] at hya; cases hya
        · unfold lstOf at hya
          simp only at hya
          rw [h2] at hya
          have hgx : g = x.1 := Option.some.inj hya
          have h4 := HA.out.lies x hx
          unfold PB at h3
          rw [hgx, h4] at h3
          injection h3 with h3
          injection h3 with _ h5 _
          exact absurd h5 (by decide)
      have HRw : Hid (∀ (j : Nat) x, T[j]? = some x → V1.cell? ⟨gt, j, none⟩ = some (slc x)) := fun j x hj => KP.cell (HGv.out.cell (HA.out.rows j x hj) (by simp)) (by rw [HTs.out]; exact HGT.out)
      have HK0 : Hid (Kpt (blocks Ts) w V1) := ((Kpt.of_grown HGv.out).mono (by simp)).trans KP (fun _ hx => Or.inl hx)
      have M0 : Hid (MkC V1 T 0 0) := fun j x hj => ⟨x.2, HLs.out x (List.mem_of_getElem? hj), rfl, fun e he => by obtain ⟨a, c, h⟩ := (HA.out.own x (List.mem_of_getElem? hj) e he).1.at.form; exact ⟨a, _, c, h⟩, fun m hm h => by omega⟩
      clear HAP KP HGv HLs k1
      go_wp2_with fail
      go_loopw [6] (fun i wr => ∃ k : Nat, k ≤ T.length ∧ i = .int .i64 (k : Int) ∧ MkC wr T k 0 ∧ Kpt (cblocks T) V1 wr) (fun i _ => T.length - (intOf i).toNat)
      case atStart => exact ⟨0, Nat.zero_le _, rfl, M0.out, Kpt.refl _ _⟩
      case round =>
        clear M0
        obtain ⟨k, hk, rfl, M, K1⟩ := hrel
        obtain ⟨U, hU⟩ : ∃ U, U = wr := ⟨_, rfl⟩
        subst hU
        have HM : Hid (MkC U T k 0) := M
        have HK1 : Hid (Kpt (cblocks T) V1 U) := K1
        clear M K1
        have hgc : Hid (gt ∉ cblocks T) := fun h => by
          obtain ⟨x, hx, e⟩ := List.mem_map.1 h
          exact HA.out.other x hx e
        rcases (show k < T.length ∨ k = T.length from by omega) with hlt | hke
        · obtain ⟨x, hx⟩ : ∃ x, T[k]? = some x := ⟨_, List.getElem?_eq_getElem hlt⟩
          have HX : Hid (T[k]? = some x) := hx
          have k0 : (0 : Int) ≤ (k : Int) := by omega
          have k1 : (k : Int) < (T.length : Int) := by omega
          have xl : x.2.length ≤ 40 := HA.out.small.2.2 x (List.mem_of_getElem? hx)
          have sx : Small x.2.length := by unfold Small; omega
          have c0 : U.cell? ⟨gt, k, none⟩ = some (slc x) := HK1.out.cell (HRw.out k x hx) hgc.out
          unfold slc at c0
          have x0 : (0 : Int) ≤ (x.2.length : Int) := by omega
          clear hx hk xl
          go_upto_region 14 with fail
          refine wp_region_held_drew (S := fun w' => U.grownBy w' none) (by kernel_rfl) (grown_drew _) (fun hHeld => ?_)
          refine wpAnyH_take (i := 0) (v := ?_) rfl (by kernel_rfl) (by kernel_rfl) (by kernel_rfl) (fun _ _ _ h => h) (Or.inl ⟨by rfl, ?_⟩) (by assumption) ?_
          rotate_left 1
          · (intro w0 hSw; go_simp; try with_reducible rfl)
          simp only [List.getElem_toArray, List.getElem_cons_zero]
          go_frame
          refine wpAnyH_take (i := 1) (v := ?_) rfl (by kernel_rfl) (by kernel_rfl) (by kernel_rfl) (fun _ _ _ h => h) (Or.inl ⟨by rfl, ?_⟩) (by assumption) ?_
          rotate_left 1
          · (intro w0 hSw; go_simp; try with_reducible rfl)
          simp only [List.getElem_toArray, List.getElem_cons_zero, List.getElem_cons_succ]
          go_frame
          refine wpAnyH_take (i := 2) (v := ?_) rfl (by kernel_rfl) (by kernel_rfl) (by kernel_rfl) (fun _ _ _ h => h) (Or.inl ⟨by rfl, ?_⟩) (by assumption) ?_
          rotate_left 1
          · (intro w0 hSw; go_simp; try with_reducible rfl)
          simp only [List.getElem_toArray, List.getElem_cons_zero, List.getElem_cons_succ]
          go_frame
          refine wpAnyH_take (i := 3) (v := ?_) rfl (by kernel_rfl) (by kernel_rfl) (by kernel_rfl) (fun _ _ _ h => h) (Or.inl ⟨by rfl, ?_⟩) (by assumption) ?_
          rotate_left 1
          · (intro w0 hSw; have a9 := World.grownBy.cell hSw c0 (by simp); go_simp; try with_reducible rfl)
          simp only [List.getElem_toArray, List.getElem_cons_zero, List.getElem_cons_succ]
          go_frame
          refine wpAnyH_take (i := 4) (v := ?_) rfl (by kernel_rfl) (by kernel_rfl) (by kernel_rfl) (fun _ _ _ h => h) (Or.inl ⟨by rfl, ?_⟩) (by assumption) ?_
          rotate_left 1
          · (intro w0 hSw; go_simp; try with_reducible rfl)
          simp only [List.getElem_toArray, List.getElem_cons_zero, List.getElem_cons_succ]
          go_frame
          refine wpAnyH_take (i := 5) (v := ?_) rfl (by kernel_rfl) (by kernel_rfl) (by kernel_rfl) (fun _ _ _ h => h) (Or.inl ⟨by rfl, ?_⟩) (by assumption) ?_
          rotate_left 1
          · (intro w0 hSw; go_simp; try with_reducible rfl)
          simp only [List.getElem_toArray, List.getElem_cons_zero, List.getElem_cons_succ]
          go_frame
          refine wpAnyH_take (i := 6) (v := ?_) rfl (by kernel_rfl) (by kernel_rfl) (by kernel_rfl) (fun _ _ _ h => h) (Or.inl ⟨by rfl, ?_⟩) (by assumption) ?_
          rotate_left 1
          · (intro w0 hSw; go_simp; try with_reducible rfl)
          simp only [List.getElem_toArray, List.getElem_cons_zero, List.getElem_cons_succ]
          go_frame
          refine wpAnyH_take (i := 7) (v := ?_) rfl (by kernel_rfl) (by kernel_rfl) (by kernel_rfl) (fun _ _ _ h => h) (Or.inl ⟨by rfl, ?_⟩) (by assumption) ?_
          rotate_left 1
          · (intro w0 hSw; have a9 := World.grownBy.cell hSw c0 (by simp); go_simp; try with_reducible rfl)
          simp only [List.getElem_toArray, List.getElem_cons_zero, List.getElem_cons_succ]
          go_frame
          refine wpAnyH_take (i := 8) (v := ?_) rfl (by kernel_rfl) (by kernel_rfl) (by kernel_rfl) (fun _ _ _ h => h) (Or.inl ⟨by rfl, ?_⟩) (by assumption) ?_
          rotate_left 1
          · (intro w0 hSw; go_simp; try with_reducible rfl)
          simp only [List.getElem_toArray, List.getElem_cons_zero, List.getElem_cons_succ]
          go_frame
          refine wpAnyH_take (i := 9) (v := ?_) rfl (by kernel_rfl) (by kernel_rfl) (by kernel_rfl) (fun _ _ _ h => h) (Or.inl ⟨by rfl, ?_⟩) (by assumption) ?_
          rotate_left 1
          · (intro w0 hSw; go_simp; try with_reducible rfl)
          simp only [List.getElem_toArray, List.getElem_cons_zero, List.getElem_cons_succ]
          go_frame
          refine wpAnyH_take (i := 10) (v := ?_) rfl (by kernel_rfl) (by kernel_rfl) (by kernel_rfl) (fun _ _ _ h => h) (Or.inl ⟨by rfl, ?_⟩) (by assumption) ?_
          rotate_left 1
          · (intro w0 hSw; go_simp; try with_reducible rfl)
          simp only [List.getElem_toArray, List.getElem_cons_zero, List.getElem_cons_succ]
          go_frame
          refine wpAnyH_done (by kernel_rfl) ?_ _
          have HM2 : Hid (MkC U.drew T k 0) := HM.out.keep (grown_drew _)
          have HK2 : Hid (Kpt (cblocks T) V1 U.drew) := HK1.out.grow (grown_drew _)
          clear hHeld c0 HM HK1
          go_wp2_with fail
          go_loopw [8] (fun j wr => ∃ m : Nat, m ≤ x.2.length ∧ j = .int .i64 (m : Int) ∧ MkC wr T k m ∧ Kpt (cblocks T) V1 wr) (fun j _ => x.2.length - (intOf j).toNat)
          case atStart => exact ⟨0, Nat.zero_le _, rfl, HM2.out, HK2.out⟩
          case round =>
            clear HM2 HK2
            obtain ⟨m, hm, rfl, M, K1⟩ := hrel
            obtain ⟨U2, hU2⟩ : ∃ U2, U2 = wr := ⟨_, rfl⟩
            subst hU2
            have HM : Hid (MkC U2 T k m) := M
            have HK1 : Hid (Kpt (cblocks T) V1 U2) := K1
            clear M K1
            rcases (show m < x.2.length ∨ m = x.2.length from by omega) with hml | hme
            · have m0 : (0 : Int) ≤ (m : Int) := by omega
              have m1 : (m : Int) < (x.2.length : Int) := by omega
              obtain ⟨fs, hfs, hfl, hfv, _⟩ := HM.out k x HX.out
              obtain ⟨e, he⟩ : ∃ e, fs[m]? = some e := ⟨_, List.getElem?_eq_getElem (by omega)⟩
              obtain ⟨z0, z1, z2, z3, z4, z5, z6, z7, z8⟩ := erow_of hfs he
              have zf := fun i => block_free hfs i
              obtain ⟨ea, en, ec, hev⟩ := hfv e (List.mem_of_getElem? he)
              rw [hev] at z8
              obtain ⟨U9, hU9⟩ : ∃ U9, U9 = set9 U2 x.1 (m * 9) (mkH k m) (.slice none 0 0) := ⟨_, rfl⟩
              have HM9 : Hid (MkC U9 T k (m + 1)) := by rw [hU9]; exact HM.out.step HA.out.difc HX.out hml
              have HK9 : Hid (Kpt (cblocks T) V1 U9) := by rw [hU9]; exact HK1.out.trans (Kpt.of_grown (grown_s9 U2 x.1 (m * 9) (mkH k m) (.slice none 0 0))) (fun y hy => Or.inl (by rw [show y = x.1 from by simpa using hy]; exact mem_cblocks HX.out))
              unfold set9 mkH at hU9
              simp only at hU9
              have HU9 : Hid (U9 = _) := hU9
              clear hU9 hfs hfl hfv he hev hm HM HK1
              go_upto_region 17 with fail
              rw [← HU9.out]
              clear HU9 z0 z1 z2 z3 z4 z5 z6 z7 z8 zf
              go_wp2_with fail
              go_roundw
              case rel => exact ⟨m + 1, hml, by first | rfl | (rw [sx.wrap hml]; rfl), HM9.out, HK9.out⟩
              case measure => first | exact meas_next hml | (rw [sx.wrap hml]; exact meas_next hml)
            · have m1 : ¬ (m : Int) < (x.2.length : Int) := by omega
              have HM3 : Hid (MkC U2 T (k + 1) 0) := HM.out.next HX.out (Nat.le_of_eq hme.symm)
              clear hme hm HM
              go_wp2_with fail
              go_roundw
              case rel => exact ⟨k + 1, hlt, by first | rfl | (rw [sT.wrap hlt]; rfl), HM3.out, HK1.out⟩
              case measure => first | exact meas_next hlt | (rw [sT.wrap hlt]; exact meas_next hlt)
        · have k1 : ¬ (k : Int) < (T.length : Int) := by omega
          have HMa : Hid (∀ (j : Nat) (x : CL), T[j]? = some x → ∃ fs, U.heap[x.1]? = some (.cells (ecells fs).toArray 47 (0, 0)) ∧ ∀ m, m < x.2.length → fs[m]? = some (mkE j m)) := fun j x hj => by
            obtain ⟨fs, h1, _, _, h3⟩ := HM.out j x hj
            exact ⟨fs, h1, fun m hm => h3 m hm (Or.inl (by have := (List.getElem?_eq_some_iff.1 hj).1; omega))⟩
          have HRu : Hid (∀ (j : Nat) x, T[j]? = some x → U.cell? ⟨gt, j, none⟩ = some (slc x)) := fun j x hj => HK1.out.cell (HRw.out j x hj) hgc.out
          have HKf : Hid (Kpt (blocks Ts ++ cblocks T) w U) := (HK0.out.mono (fun x hx => List.mem_append_left _ hx)).trans HK1.out (fun x hx => Or.inl (List.mem_append_right _ hx))
          clear HM HK1 hke hk HRw HK0 hgc
          go_wp2_with fail
          go_loopw [9] (fun i wr => ∃ k : Nat, k ≤ T.length ∧ i = .int .i64 (k : Int) ∧ U.grownBy wr none) (fun i _ => T.length - (intOf i).toNat)
          case atStart => exact ⟨0, Nat.zero_le _, rfl, grown_refl _ _⟩
          case round =>
            obtain ⟨k, hk, rfl, Gk⟩ := hrel
            obtain ⟨Y, hY⟩ : ∃ Y, Y = wr := ⟨_, rfl⟩
            subst hY
            have HGk : Hid (U.grownBy Y none) := Gk
            clear Gk
            rcases (show k < T.length ∨ k = T.length from by omega) with hlt | hke
            · obtain ⟨x, hx⟩ : ∃ x, T[k]? = some x := ⟨_, List.getElem?_eq_getElem hlt⟩
              have HX : Hid (T[k]? = some x) := hx
              have k0 : (0 : Int) ≤ (k : Int) := by omega
              have k1 : (k : Int) < (T.length : Int) := by omega
              have xl : x.2.length ≤ 40 := HA.out.small.2.2 x (List.mem_of_getElem? hx)
              have sx : Small x.2.length := by unfold Small; omega
              have c0 : Y.cell? ⟨gt, k, none⟩ = some (slc x) := HGk.out.cell (HRu.out k x hx) (by simp)
              unfold slc at c0
              have x0 : (0 : Int) ≤ (x.2.length : Int) := by omega
              obtain ⟨fs, hfs, hfm⟩ := HMa.out k x hx
              have HFs : Hid (U.heap[x.1]? = some (.cells (ecells fs).toArray 47 (0, 0))) := hfs
              have HFm : Hid (∀ m, m < x.2.length → fs[m]? = some (mkE k m)) := hfm
              clear hx hk xl hfs hfm
              go_upto_region 22 with fail
              refine wp_region_held_drew (S := fun w' => Y.grownBy w' none) (by kernel_rfl) (grown_drew _) (fun hHeld => ?_)
              refine wpAnyH_take (i := 0) (v := ?_) rfl (by kernel_rfl) (by kernel_rfl) (by kernel_rfl) (fun _ _ _ h => h) (Or.inl ⟨by rfl, ?_⟩) (by assumption) ?_
              rotate_left 1
              · (intro w0 hSw; go_simp; try with_reducible rfl)
              simp only [List.getElem_toArray, List.getElem_cons_zero]
              go_frame
              refine wpAnyH_take (i := 1) (v := ?_) rfl (by kernel_rfl) (by kernel_rfl) (by kernel_rfl) (fun _ _ _ h => h) (Or.inl ⟨by rfl, ?_⟩) (by assumption) ?_
              rotate_left 1
              · (intro w0 hSw; go_simp; try with_reducible rfl)
              simp only [List.getElem_toArray, List.getElem_cons_zero, List.getElem_cons_succ]
              go_frame
              refine wpAnyH_take (i := 2) (v := ?_) rfl (by kernel_rfl) (by kernel_rfl) (by kernel_rfl) (fun _ _ _ h => h) (Or.inl ⟨by rfl, ?_⟩) (by assumption) ?_
              rotate_left 1
              · (intro w0 hSw; go_simp; try with_reducible rfl)
              simp only [List.getElem_toArray, List.getElem_cons_zero, List.getElem_cons_succ]
              go_frame
              refine wpAnyH_take (i := 3) (v := ?_) rfl (by kernel_rfl) (by kernel_rfl) (by kernel_rfl) (fun _ _ _ h => h) (Or.inl ⟨by rfl, ?_⟩) (by assumption) ?_
              rotate_left 1
              · (intro w0 hSw; have a9 := World.grownBy.cell hSw c0 (by simp); go_simp; try with_reducible rfl)
              simp only [List.getElem_toArray, List.getElem_cons_zero, List.getElem_cons_succ]
              go_frame
              refine wpAnyH_take (i := 4) (v := ?_) rfl (by kernel_rfl) (by kernel_rfl) (by kernel_rfl) (fun _ _ _ h => h) (Or.inl ⟨by rfl, ?_⟩) (by assumption) ?_
              rotate_left 1
              · (intro w0 hSw; go_simp; try with_reducible rfl)
              simp only [List.getElem_toArray, List.getElem_cons_zero, List.getElem_cons_succ]
              go_frame
              refine wpAnyH_take (i := 5) (v := ?_) rfl (by kernel_rfl) (by kernel_rfl) (by kernel_rfl) (fun _ _ _ h => h) (Or.inl ⟨by rfl, ?_⟩) (by assumption) ?_
              rotate_left 1
              · (intro w0 hSw; go_simp; try with_reducible rfl)
              simp only [List.getElem_toArray, List.getElem_cons_zero, List.getElem_cons_succ]
              go_frame
              refine wpAnyH_take (i := 6) (v := ?_) rfl (by kernel_rfl) (by kernel_rfl) (by kernel_rfl) (fun _ _ _ h => h) (Or.inl ⟨by rfl, ?_⟩) (by assumption) ?_
              rotate_left 1
              · (intro w0 hSw; go_simp; try with_reducible rfl)
              simp only [List.getElem_toArray, List.getElem_cons_zero, List.getElem_cons_succ]
              go_frame
              refine wpAnyH_take (i := 7) (v := ?_) rfl (by kernel_rfl) (by kernel_rfl) (by kernel_rfl) (fun _ _ _ h => h) (Or.inl ⟨by rfl, ?_⟩) (by assumption) ?_
              rotate_left 1
              · (intro w0 hSw; have a9 := World.grownBy.cell hSw c0 (by simp); go_simp; try with_reducible rfl)
              simp only [List.getElem_toArray, List.getElem_cons_zero, List.getElem_cons_succ]
              go_frame
              refine wpAnyH_take (i := 8) (v := ?_) rfl (by kernel_rfl) (by kernel_rfl) (by kernel_rfl) (fun _ _ _ h => h) (Or.inl ⟨by rfl, ?_⟩) (by assumption) ?_
              rotate_left 1
              · (intro w0 hSw; go_simp; try with_reducible rfl)
              simp only [List.getElem_toArray, List.getElem_cons_zero, List.getElem_cons_succ]
              go_frame
              refine wpAnyH_take (i := 9) (v := ?_) rfl (by kernel_rfl) (by kernel_rfl) (by kernel_rfl) (fun _ _ _ h => h) (Or.inl ⟨by rfl, ?_⟩) (by assumption) ?_
              rotate_left 1
              · (intro w0 hSw; go_simp; try with_reducible rfl)
              simp only [List.getElem_toArray, List.getElem_cons_zero, List.getElem_cons_succ]
              go_frame
              refine wpAnyH_take (i := 10) (v := ?_) rfl (by kernel_rfl) (by kernel_rfl) (by kernel_rfl) (fun _ _ _ h => h) (Or.inl ⟨by rfl, ?_⟩) (by assumption) ?_
              rotate_left 1
              · (intro w0 hSw; go_simp; try with_reducible rfl)
              simp only [List.getElem_toArray, List.getElem_cons_zero, List.getElem_cons_succ]
              go_frame
              refine wpAnyH_done (by kernel_rfl) ?_ _
              have HG2 : Hid (U.grownBy Y.drew none) := grown_trans HGk.out (grown_drew _)
              clear hHeld c0 HGk
              go_wp2_with fail
              go_loopw [11] (fun j wr => ∃ m : Nat, m ≤ x.2.length ∧ j = .int .i64 (m : Int) ∧ U.grownBy wr none) (fun j _ => x.2.length - (intOf j).toNat)
              case atStart => exact ⟨0, Nat.zero_le _, rfl, HG2.out⟩
              case round =>
                clear HG2
                obtain ⟨m, hm, rfl, Gm⟩ := hrel
                obtain ⟨Z, hZ⟩ : ∃ Z, Z = wr := ⟨_, rfl⟩
                subst hZ
                have HGm : Hid (U.grownBy Z none) := Gm
                clear Gm
                rcases (show m < x.2.length ∨ m = x.2.length from by omega) with hml | hme
                · have m0 : (0 : Int) ≤ (m : Int) := by omega
                  have m1 : (m : Int) < (x.2.length : Int) := by omega
                  have D := erow_of (grown_keep HGm.out HFs.out (by simp)) (HFm.out m hml)
                  have d3 : Z.cell? ⟨x.1, m * 9 + 3, none⟩ = some (.int .i64 (wrap64 (wrap64 (-(k : Int)) - 1))) := D.c3
                  have d4 : Z.cell? ⟨x.1, m * 9 + 4, none⟩ = some (.int .i64 (m : Int)) := D.c4
                  clear D hm
                  go_wp2_with fail
                  go_roundw
                  case rel => exact ⟨m + 1, hml, by first | rfl | (rw [sx.wrap hml]; rfl), HGm.out⟩
                  case measure => first | exact meas_next hml | (rw [sx.wrap hml]; exact meas_next hml)
                · have m1 : ¬ (m : Int) < (x.2.length : Int) := by omega
                  clear hme hm
                  go_wp2_with fail
                  go_roundw
                  case rel => exact ⟨k + 1, hlt, by first | rfl | (rw [sT.wrap hlt]; rfl), HGm.out⟩
                  case measure => first | exact meas_next hlt | (rw [sT.wrap hlt]; exact meas_next hlt)
            · have k1 : ¬ (k : Int) < (T.length : Int) := by omega
              clear hke hk
              go_wp2
              go_ret
              refine ⟨rfl, ?_⟩
              rw [← HTs.out]
              exact HKf.out.grow HGk.out
end Go.Proofs.Ytpoicbefemjckaa
