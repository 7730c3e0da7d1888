/-
  WaterCards, walked.
-/
import Derived.Test.YtcldncojpgipcaaApartC
import Derived.Test.YtcldncojpgipcaaApartT
import Derived.Test.YtcldncojpgipcaaApartM
import Derived.Test.YtcldncojpgipcaaWaR
import Derived.Test.YtcldncojpgipcaaSaL
namespace Go.Proofs.Ytcldncojpgipcaa
open Go.RowKit

theorem filterMap_inj {α : Type} {f : α → Option Nat} : ∀ {l : List α}, (l.filterMap f).Nodup → ∀ {i j : Nat} {x y : α} {g : Nat}, l[i]? = some x → l[j]? = some y → f x = some g → f y = some g → i = j
  | [], _, i, j, x, y, g, hi, _, _, _ => by simp at hi
  | a :: r, h, i, j, x, y, g, hi, hj, hx, hy => by
    have hr : (r.filterMap f).Nodup := by
      cases ha : f a with
      | none => simpa [List.filterMap_cons, ha] using h
      | some b => simp only [List.filterMap_cons, ha, List.nodup_cons] at h; exact h.2
    have hno : ∀ {k : Nat} {z : α}, r[k]? = some z → f z = some g → f a = some g → False := fun {k z} hk hz ha => by
      simp only [List.filterMap_cons, ha, List.nodup_cons] at h
      exact h.1 (List.mem_filterMap.2 ⟨z, List.mem_of_getElem? hk, hz⟩)
    cases i with
    | zero =>
      cases j with
      | zero => rfl
      | succ j =>
        obtain rfl : a = x := by simpa using hi
        exact absurd (hno (by simpa using hj) hy hx) id
    | succ i =>
      cases j with
      | zero =>
        obtain rfl : a = y := by simpa using hj
        exact absurd (hno (by simpa using hi) hx hy) id
      | succ j => rw [filterMap_inj hr (i := i) (j := j) (x := x) (y := y) (by simpa using hi) (by simpa using hj) hx hy]
theorem diff_of {es : List Ent} (h : (es.filterMap fun e => e.v.ownBlock).Nodup) : Diff (es.map lstOf) := fun i j x y g hi hj hx hy => by
  rw [List.getElem?_map] at hi hj
  cases hi' : es[i]? with
  | none => rw [hi'] at hi; cases hi
  | some a =>
    cases hj' : es[j]? with
    | none => rw [hj'] at hj; cases hj
    | some b =>
      rw [hi'] at hi
      rw [hj'] at hj
      obtain rfl : lstOf a = x := Option.some.inj hi
      obtain rfl : lstOf b = y := Option.some.inj hj
      exact filterMap_inj h hi' hj' hx hy
theorem blocks_mem {es : List Ent} {b : Nat} (h : b ∈ blocks (es.map lstOf)) : ∃ e ∈ es, e.v.ownBlock = some b := by
  obtain ⟨y, hy, hb⟩ := List.mem_filterMap.1 h
  obtain ⟨e, he, rfl⟩ := List.mem_map.1 hy
  exact ⟨e, he, hb⟩
theorem sameTraits_two (g g' : Nat) (w : World) (h : w.heap[g]? = some (.cells tCells 61 (0, 0))) (h' : w.heap[g']? = some (.cells tCells 61 (0, 0))) : Calls Try.prog 10 #[.slice (some ⟨g, 0, none⟩) 2 2, .slice (some ⟨g', 0, none⟩) 2 2] w fun e w' => e = .returned (.bool true) ∧ w.grownBy w' none := by
  refine sameTraits_eq g g' 2 2 [4, 5] w (fun j x hx => ?_) (fun j x hx => ?_) (by decide)
  · rw [block_cell h]
    rcases j with _ | _ | j
    · obtain rfl : (4 : Int) = x := by simpa using hx
      rfl
    · obtain rfl : (5 : Int) = x := by simpa using hx
      rfl
    · simp at hx
  · rw [block_cell h']
    rcases j with _ | _ | j
    · obtain rfl : (4 : Int) = x := by simpa using hx
      rfl
    · obtain rfl : (5 : Int) = x := by simpa using hx
      rfl
    · simp at hx
set_option maxHeartbeats 1000000 in
theorem sameMarks_none (w : World) : Calls Try.prog 12 #[.slice none 0 0, .slice none 0 0] w fun e w' => e = .returned (.bool true) ∧ w.grownBy w' none := by
  go_enter Try.func12, Try.ntmps12
  go_wp2_with fail
  go_loopw [5] (fun x5 wr => x5 = .int .i64 0 ∧ w.grownBy wr none) (fun _ _ => 0)
  case atStart => exact ⟨rfl, grown_refl _ _⟩
  case round =>
    obtain ⟨rfl, G⟩ := hrel
    go_wp2
    go_ret
    exact ⟨rfl, G⟩
set_option maxRecDepth 100000 in
set_option maxHeartbeats 4000000 in
theorem cards_wa (w : World) : Calls Try.prog 3 #[] w fun e w' => e = .returned (.bool true) ∧ w.grownBy w' none := by
  have s2 : Small 2 := by unfold Small; decide
  go_enter Try.func3, Try.ntmps3
  go_wp2_with fail
  go_loopw [1] (fun i wr => ∃ k : Nat, k ≤ 2 ∧ i = .int .i64 (k : Int) ∧ w.grownBy wr none) (fun i _ => 2 - (intOf i).toNat)
  case atStart => exact ⟨0, Nat.zero_le _, rfl, grown_refl _ _⟩
  case round =>
    obtain ⟨k, hk, rfl, G⟩ := hrel
    obtain ⟨U, hU⟩ : ∃ U, U = wr := ⟨_, rfl⟩
    subst hU
    have HG : Hid (w.grownBy U none) := G
    clear G
    rcases (show k < 2 ∨ k = 2 from by omega) with hlt | hke
    · have k1 : (k : Int) < 2 := by omega
      go_wp2_with fail
      refine (list_wa0 U).mono ?_
      rintro e V1 ⟨es, rfl, L1, B1, O1, g1⟩
      obtain ⟨g, hg⟩ : ∃ g, g = U.heap.size + 1 := ⟨_, rfl⟩
      rw [← hg] at B1 ⊢
      have HL1 : Hid (LIs es 6) := L1
      have HB1 : Hid (V1.heap[g]? = some (.cells (ecells es).toArray 60 (0, 0))) := B1
      have HO1 : Hid (LOwn (U.heap.size + 2) V1 es) := O1
      have HG1 : Hid (U.grownBy V1 none) := g1
      have HgU : Hid (U.heap.size + 1 = g) := hg.symm
      clear L1 B1 O1 g1 hg
      go_wp2_with fail
      refine (traits_wa V1).mono ?_
      rintro e V2 ⟨rfl, hV2⟩
      obtain ⟨t, ht⟩ : ∃ t, t = V1.heap.size := ⟨_, rfl⟩
      have HT2 : Hid (V2.heap[t]? = some (.cells tCells 61 (0, 0))) := by rw [hV2, ht]; exact alloc_at _ _ _
      have HG2 : Hid (V1.grownBy V2 none) := by rw [hV2]; exact World.grownBy_alloc _ _ none
      have HS2 : Hid (V2.heap.size = t + 1) := by show V2.heap.size = t + 1; rw [hV2, World.size_alloc, ht]
      have Hgt : Hid (g < t) := by rw [ht]; exact block_lt HB1.out
      have Het : Hid (∀ e ∈ es, ∀ b, e.v.ownBlock = some b → U.heap.size + 2 ≤ b ∧ b < t) := fun e he b hb => by have h9 := (HO1.out.own e he).block b hb; rw [ht]; exact h9
      have HtU : Hid (U.heap.size ≤ t) := by rw [ht]; exact HG1.out.size
      rw [← ht]
      clear hV2 ht
      go_wp2_with fail
      refine (marks_wa V2).mono ?_
      rintro e V3 ⟨rfl, hV3⟩
      obtain rfl : V2 = V3 := hV3.symm
      go_wp2_with fail
      refine (rlist11 V2).mono ?_
      rintro e V4 ⟨rg, rs, rfl, RL, RB, RP, rlow, g4⟩
      have HG4 : Hid (V2.grownBy V4 none) := g4
      have HSC := sameCards_any g rg 6 6 es rs V4 (grown_keep g4 (grown_keep HG2.out HB1.out (by simp)) (by simp)) RB (fun e he => ((HO1.out.own e he).at.keep HG2.out).keep g4) (fun e he => (RP e he).at) (fun e he => HL1.out.four he) (by rw [HL1.out.len (Nat.le_refl _)]; decide) (HL1.out.trans RL.symm)
      rw [HL1.out.len (Nat.le_refl _), RL.len (Nat.le_refl _)] at HSC
      clear RL RB RP rlow g4
      go_wp2_with fail
      refine HSC.mono ?_
      rintro e V5 ⟨rfl, g5⟩
      have HG5 : Hid (V2.grownBy V5 none) := grown_trans HG4.out g5
      clear HSC g5 HG4
      go_wp2_with fail
      refine (rtraits11 V5).mono ?_
      rintro e V6 ⟨rfl, hV6⟩
      have hT6 : V6.heap[V5.heap.size]? = some (.cells tCells 61 (0, 0)) := by rw [hV6]; exact alloc_at _ _ _
      have g6 : V5.grownBy V6 none := by rw [hV6]; exact World.grownBy_alloc _ _ none
      have HST := sameTraits_two t V5.heap.size V6 (grown_keep g6 (grown_keep HG5.out HT2.out (by simp)) (by simp)) hT6
      have HG6 : Hid (V2.grownBy V6 none) := grown_trans HG5.out g6
      clear hV6 hT6 g6
      go_wp2_with fail
      refine HST.mono ?_
      rintro e V7 ⟨rfl, g7⟩
      have HG7 : Hid (V2.grownBy V7 none) := grown_trans HG6.out g7
      clear HST g7 HG6 HG5
      go_wp2_with fail
      refine (rmarks11 V7).mono ?_
      rintro e V8 ⟨rfl, hV8⟩
      obtain rfl : V7 = V8 := hV8.symm
      go_wp2_with fail
      refine (sameMarks_none V7).mono ?_
      rintro e V9 ⟨rfl, g9⟩
      have HG9 : Hid (V2.grownBy V9 none) := grown_trans HG7.out g9
      clear g9 HG7
      go_wp2_with fail
      refine (number_wa V9).mono ?_
      rintro e V10 ⟨rfl, g10⟩
      go_wp2_with fail
      refine (rnumber11 V10).mono ?_
      rintro e V11 ⟨rfl, g11⟩
      have HG11 : Hid (V2.grownBy V11 none) := grown_trans HG9.out (grown_trans g10 g11)
      clear g10 g11 HG9
      go_wp2_with fail
      refine (list_wa0 V11).mono ?_
      rintro e V12 ⟨fs, rfl, L2, B2, O2, g12⟩
      have HG12 : Hid (V2.grownBy V12 none) := grown_trans HG11.out g12
      have ht11 : t + 1 ≤ V11.heap.size := by have h9 := HG11.out.size; rw [HS2.out] at h9; exact h9
      obtain ⟨f, hf⟩ : ∃ f, f = V11.heap.size + 1 := ⟨_, rfl⟩
      rw [← hf] at B2 ⊢
      obtain ⟨V13, hV13⟩ : ∃ V13, V13 = V12.alloc (.cells #[.slice (some ⟨g, 0, none⟩) 6 6, .slice (some ⟨f, 0, none⟩) 6 6] 22) := ⟨_, rfl⟩
      obtain ⟨q, hq⟩ : ∃ q, q = V12.heap.size := ⟨_, rfl⟩
      have g13 : V12.grownBy V13 none := by rw [hV13]; exact World.grownBy_alloc _ _ none
      have hQ : V13.heap[q]? = some (.cells #[.slice (some ⟨g, 0, none⟩) 6 6, .slice (some ⟨f, 0, none⟩) 6 6] 22 (0, 0)) := by rw [hV13, hq]; exact alloc_at _ _ _
      have hqs : V13.heap.size = q + 1 := by rw [hV13, World.size_alloc, hq]
      have fq : f < q := by rw [hq]; exact block_lt B2
      have G213 := grown_trans HG12.out g13
      have hLen1 := HL1.out.len (Nat.le_refl _)
      have hLen2 := L2.len (Nat.le_refl _)
      have Hft : ∀ e ∈ fs, ∀ b, e.v.ownBlock = some b → t + 3 ≤ b ∧ b < q := fun e he b hb => by have h9 := (O2.own e he).block b hb; rw [← hq] at h9; omega
      have hA : ApC V13 q [(g, es), (f, fs)] := by
        refine ⟨fun j x hj => ?_, fun x hx => ?_, fun x hx e he => ?_, ?_, ?_, fun x hx => ?_, ⟨by simp, by simp [flat, hLen1, hLen2], fun x hx => ?_⟩, by simp [flat, hLen1, hLen2]⟩
        · rcases j with _ | _ | j
          · obtain rfl : (g, es) = x := by simpa using hj
            unfold slc
            rw [block_cell hQ, hLen1]
            rfl
          · obtain rfl : (f, fs) = x := by simpa using hj
            unfold slc
            rw [block_cell hQ, hLen2]
            rfl
          · simp at hj
        · simp only [List.mem_cons, List.not_mem_nil, or_false] at hx
          rcases hx with rfl | rfl
          · exact grown_keep G213 (grown_keep HG2.out HB1.out (by simp)) (by simp)
          · exact grown_keep g13 B2 (by simp)
        · simp only [List.mem_cons, List.not_mem_nil, or_false] at hx
          rcases hx with rfl | rfl
          · exact ⟨(((HO1.out.own e he).low (Nat.zero_le _)).keep HG2.out).keep G213, HL1.out.four he⟩
          · exact ⟨((O2.own e he).low (Nat.zero_le _)).keep g13, L2.four he⟩
        · refine diff_of ?_
          show ((es ++ (fs ++ [])).filterMap fun (e : Ent) => e.v.ownBlock).Nodup
          rw [List.append_nil, List.filterMap_append, List.nodup_append]
          refine ⟨HO1.out.nod, O2.nod, fun a ha b hb hab => ?_⟩
          obtain ⟨e, he, hea⟩ := List.mem_filterMap.1 ha
          obtain ⟨e', he', heb⟩ := List.mem_filterMap.1 hb
          have h1 := Het.out e he a hea
          have h2 := Hft e' he' b heb
          omega
        · intro i j x y hi hj hxy
          have gf : ¬ g = f := by have := Hgt.out; omega
          rcases i with _ | _ | i
          · rcases j with _ | _ | j
            · rfl
            · obtain rfl : (g, es) = x := by simpa using hi
              obtain rfl : (f, fs) = y := by simpa using hj
              exact absurd hxy gf
            · simp at hj
          · rcases j with _ | _ | j
            · obtain rfl : (f, fs) = x := by simpa using hi
              obtain rfl : (g, es) = y := by simpa using hj
              exact absurd hxy.symm gf
            · rfl
            · simp at hj
          · simp at hi
        · simp only [List.mem_cons, List.not_mem_nil, or_false] at hx
          have := Hgt.out
          rcases hx with rfl | rfl
          · simp only; omega
          · simp only; omega
        · simp only [List.mem_cons, List.not_mem_nil, or_false] at hx
          rcases hx with rfl | rfl
          · simp only; omega
          · simp only; omega
      have hgU : U.heap.size + 1 = g := HgU.out
      have hbl : ∀ b, b ∈ blocks ((flat [(g, es), (f, fs)]).map lstOf) ++ cblocks [(g, es), (f, fs)] → U.heap.size ≤ b ∧ ¬ b = t ∧ b < q := fun b hb => by
        have := Hgt.out
        rcases List.mem_append.1 hb with hb | hb
        · obtain ⟨e, he, heb⟩ := blocks_mem hb
          have he' : e ∈ es ∨ e ∈ fs := by simpa [flat] using he
          rcases he' with he' | he'
          · have := Het.out e he' b heb; omega
          · have := Hft e he' b heb; omega
        · have hb' : b = g ∨ b = f := by simpa [cblocks] using hb
          rcases hb' with rfl | rfl <;> omega
      have HAC := apartC_any q 2 [(g, es), (f, fs)] V13 hA (fun hb => by have := hbl q (List.mem_append_left _ hb); omega)
      have HBl : Hid (∀ b, b ∈ blocks ((flat [(g, es), (f, fs)]).map lstOf) ++ cblocks [(g, es), (f, fs)] → U.heap.size ≤ b ∧ ¬ b = t ∧ b < q) := hbl
      have HG13 : Hid (V2.grownBy V13 none) := G213
      have HUG : Hid (U.grownBy V2 none) := grown_trans HG1.out HG2.out
      rw [show [(g, es), (f, fs)].length = 2 from rfl] at HAC
      clear hgU HgU hA hbl hLen1 hLen2 Hft L2 B2 O2 g12 g13 hQ hqs fq hf G213 HL1 HB1 HO1 HG1 HG2 HS2 Hgt Het HG11 HG12 ht11
      have HV13 : Hid (V13 = V12.alloc (.cells #[.slice (some ⟨g, 0, none⟩) 6 6, .slice (some ⟨f, 0, none⟩) 6 6] 22)) := hV13
      have Hq : Hid (q = V12.heap.size) := hq
      clear hV13 hq
      go_wp2_with fail
      rw [← HV13.out, ← Hq.out]
      clear HV13 Hq
      refine HAC.mono ?_
      rintro e V14 ⟨rfl, K14⟩
      have HU14 : Hid (U.grownBy V14 none) := Kpt.new (grown_trans HUG.out HG13.out) K14 (fun b hb => (HBl.out b hb).1)
      have HT14 : Hid (V14.heap[t]? = some (.cells tCells 61 (0, 0))) := K14.keep (grown_keep HG13.out HT2.out (by simp)) (fun hb => (HBl.out t hb).2.1 rfl)
      clear K14 HAC HBl HG13 HUG HT2
      go_wp2_with fail
      refine (traits_wa V14).mono ?_
      rintro e V15 ⟨rfl, hV15⟩
      obtain ⟨t2, ht2⟩ : ∃ t2, t2 = V14.heap.size := ⟨_, rfl⟩
      have hT15 : V15.heap[t2]? = some (.cells tCells 61 (0, 0)) := by rw [hV15, ht2]; exact alloc_at _ _ _
      have g15 : V14.grownBy V15 none := by rw [hV15]; exact World.grownBy_alloc _ _ none
      obtain ⟨V16, hV16⟩ : ∃ V16, V16 = V15.alloc (.cells #[.slice (some ⟨t, 0, none⟩) 2 2, .slice (some ⟨t2, 0, none⟩) 2 2] 24) := ⟨_, rfl⟩
      obtain ⟨q2, hq2⟩ : ∃ q2, q2 = V15.heap.size := ⟨_, rfl⟩
      have hQ2 : V16.heap[q2]? = some (.cells #[.slice (some ⟨t, 0, none⟩) 2 2, .slice (some ⟨t2, 0, none⟩) 2 2] 24 (0, 0)) := by rw [hV16, hq2]; exact alloc_at _ _ _
      have g16 : V15.grownBy V16 none := by rw [hV16]; exact World.grownBy_alloc _ _ none
      have tt : t < t2 := by rw [ht2]; exact block_lt HT14.out
      have HAT := apartT_any q2 2 [⟨some t, 2, 2⟩, ⟨some t2, 2, 2⟩] V16 (by simp) (by simp) (fun j x hj => by
          rcases j with _ | _ | j
          · obtain rfl : (⟨some t, 2, 2⟩ : Lst) = x := by simpa using hj
            rw [block_cell hQ2]; rfl
          · obtain rfl : (⟨some t2, 2, 2⟩ : Lst) = x := by simpa using hj
            rw [block_cell hQ2]; rfl
          · simp at hj) (fun x hx => by
          simp only [List.mem_cons, List.not_mem_nil, or_false] at hx
          rcases hx with rfl | rfl
          · exact Or.inr ⟨t, rfl, Nat.le_refl _, by unfold lim maxLen; simp only; omega, _, grown_keep g16 (grown_keep g15 HT14.out (by simp)) (by simp), rfl⟩
          · exact Or.inr ⟨t2, rfl, Nat.le_refl _, by unfold lim maxLen; simp only; omega, _, grown_keep g16 hT15 (by simp), rfl⟩) (fun i j x y b hi hj hx hy => by
          rcases i with _ | _ | i
          · rcases j with _ | _ | j
            · rfl
            · obtain rfl : (⟨some t, 2, 2⟩ : Lst) = x := by simpa using hi
              obtain rfl : (⟨some t2, 2, 2⟩ : Lst) = y := by simpa using hj
              have h1 : t = b := Option.some.inj hx
              have h2 : t2 = b := Option.some.inj hy
              omega
            · simp at hj
          · rcases j with _ | _ | j
            · obtain rfl : (⟨some t2, 2, 2⟩ : Lst) = x := by simpa using hi
              obtain rfl : (⟨some t, 2, 2⟩ : Lst) = y := by simpa using hj
              have h1 : t2 = b := Option.some.inj hx
              have h2 : t = b := Option.some.inj hy
              omega
            · rfl
            · simp at hj
          · simp at hi)
      have HU16 : Hid (U.grownBy V16 none) := grown_trans HU14.out (grown_trans g15 g16)
      have HtU2 : Hid (U.heap.size ≤ t ∧ U.heap.size ≤ t2) := ⟨HtU.out, by have := HtU.out; show U.heap.size ≤ t2; omega⟩
      rw [show [(⟨some t, 2, 2⟩ : Lst), ⟨some t2, 2, 2⟩].length = 2 from rfl] at HAT
      have HV16 : Hid (V16 = V15.alloc (.cells #[.slice (some ⟨t, 0, none⟩) 2 2, .slice (some ⟨t2, 0, none⟩) 2 2] 24)) := hV16
      have Hq2 : Hid (q2 = V15.heap.size) := hq2
      rw [← ht2]
      clear hV15 ht2 hT15 g15 hV16 hq2 hQ2 g16 tt HU14 HT14 HtU
      go_wp2_with fail
      rw [← HV16.out, ← Hq2.out]
      clear HV16 Hq2
      refine HAT.mono ?_
      rintro e V17 ⟨rfl, K17⟩
      have HU17 : Hid (U.grownBy V17 none) := Kpt.new HU16.out K17 (fun b hb => by
        have hb' : b = t ∨ b = t2 := by simpa [blocks] using hb
        have h9 := HtU2.out
        rcases hb' with rfl | rfl
        · exact h9.1
        · exact h9.2)
      clear K17 HAT HU16 HtU2
      go_wp2_with fail
      refine (marks_wa V17).mono ?_
      rintro e V18 ⟨rfl, hV18⟩
      obtain rfl : V17 = V18 := hV18.symm
      obtain ⟨V19, hV19⟩ : ∃ V19, V19 = V17.alloc (.cells #[.slice none 0 0, .slice none 0 0] 26) := ⟨_, rfl⟩
      obtain ⟨q3, hq3⟩ : ∃ q3, q3 = V17.heap.size := ⟨_, rfl⟩
      have hQ3 : V19.heap[q3]? = some (.cells #[.slice none 0 0, .slice none 0 0] 26 (0, 0)) := by rw [hV19, hq3]; exact alloc_at _ _ _
      have HU19 : Hid (U.grownBy V19 none) := by rw [hV19]; exact grown_push HU17.out _
      have HAM := apartM_any q3 2 [⟨none, 0, 0⟩, ⟨none, 0, 0⟩] V19 (by decide) (by decide) (fun j x hj => by
          rcases j with _ | _ | j
          · obtain rfl : (⟨none, 0, 0⟩ : Lst) = x := by simpa using hj
            rw [block_cell hQ3]; rfl
          · obtain rfl : (⟨none, 0, 0⟩ : Lst) = x := by simpa using hj
            rw [block_cell hQ3]; rfl
          · simp at hj) (fun x hx => by
          simp only [List.mem_cons, List.not_mem_nil, or_false] at hx
          rcases hx with rfl | rfl
          · exact Or.inl ⟨rfl, rfl, rfl⟩
          · exact Or.inl ⟨rfl, rfl, rfl⟩) (fun i j x y b hi hj hx hy => by
          rcases i with _ | _ | i
          · obtain rfl : (⟨none, 0, 0⟩ : Lst) = x := by simpa using hi
            cases hx
          · obtain rfl : (⟨none, 0, 0⟩ : Lst) = x := by simpa using hi
            cases hx
          · simp at hi)
      rw [show [(⟨none, 0, 0⟩ : Lst), ⟨none, 0, 0⟩].length = 2 from rfl] at HAM
      have HV19 : Hid (V19 = V17.alloc (.cells #[.slice none 0 0, .slice none 0 0] 26)) := hV19
      have Hq3 : Hid (q3 = V17.heap.size) := hq3
      clear hV19 hq3 hQ3 HU17 hV18
      go_wp2_with fail
      rw [← HV19.out, ← Hq3.out]
      clear HV19 Hq3
      refine HAM.mono ?_
      rintro e V20 ⟨rfl, K20⟩
      have HU20 : Hid (U.grownBy V20 none) := Kpt.new HU19.out K20 (fun b hb => by simp [blocks] at hb)
      clear K20 HAM HU19
      go_wp2_with fail
      go_roundw
      case rel => exact ⟨k + 1, hlt, by first | rfl | (rw [s2.wrap hlt]; rfl), grown_trans HG.out HU20.out⟩
      case measure => first | exact meas_next hlt | (rw [s2.wrap hlt]; exact meas_next hlt)
    · have k1 : ¬ (k : Int) < 2 := by omega
      clear hke hk
      go_wp2_with fail
      refine (lives_wa U).mono ?_
      rintro e V1 ⟨rfl, g1⟩
      go_wp2
      go_ret
      exact ⟨rfl, grown_trans HG.out g1⟩
end Go.Proofs.Ytcldncojpgipcaa
