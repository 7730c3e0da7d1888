/-
  Layers: which effect comes next.
-/
import Derived.Test.YtmemeloehgemcaaGreatLyG
import Derived.WalkMore
namespace Go.Proofs.YtmemeloehgemcaaGreat
open Go.RowKit

theorem freeB_no {R : List Rw} {F : List Fe} {L : List Se} {i j : Nat} (hj : j < L.length) (hij : i ≠ j) (h : depB R F (L.getD i Se.none) (L.getD j Se.none) = true) : freeB R F L i = false := by
  unfold freeB
  rw [List.all_eq_false]
  exact ⟨j, List.mem_range.2 hj, by rw [h]; simpa using hij⟩
theorem freeB_yes {R : List Rw} {F : List Fe} {L : List Se} {i : Nat} (h : ∀ j, j < L.length → i = j ∨ depB R F (L.getD i Se.none) (L.getD j Se.none) = false) : freeB R F L i = true := by
  unfold freeB
  rw [List.all_eq_true]
  intro j hj
  rcases h j (List.mem_range.1 hj) with e | e
  · simp [e]
  · rw [e]
    simp
theorem find_range {p : Nat → Bool} : ∀ (n k : Nat), k < n → (∀ i, i < k → p i = false) → p k = true → (List.range n).find? p = some k
  | n + 1, k, hk, hn, hp => by
    rw [List.range_succ, List.find?_append]
    by_cases h : k < n
    · rw [find_range n k h hn hp]
      rfl
    · have : k = n := by omega
      subst this
      rw [List.find?_eq_none.2 (fun x hx => by rw [hn x (List.mem_range.1 hx)]; simp)]
      simp [hp]
theorem nextN_at {R : List Rw} {F : List Fe} {L : List Se} {k : Nat} (hk : k < L.length) (hn : ∀ i, i < k → freeB R F L i = false) (hp : freeB R F L k = true) : nextN R F L = k := by
  unfold nextN
  rw [find_range _ k hk hn hp]
  rfl
theorem nextN_none {R : List Rw} {F : List Fe} {L : List Se} (hn : ∀ i, i < L.length → freeB R F L i = false) : nextN R F L = 0 := by
  unfold nextN
  rw [List.find?_eq_none.2 (fun x hx => by rw [hn x (List.mem_range.1 hx)]; simp)]
  rfl
theorem nextN_lt {R : List Rw} {F : List Fe} {L : List Se} (h : L ≠ []) : nextN R F L < L.length := by
  have h0 : 0 < L.length := List.length_pos_iff.2 h
  unfold nextN
  cases hf : (List.range L.length).find? (freeB R F L) with
  | none => exact h0
  | some k => exact List.mem_range.1 (List.mem_of_find?_eq_some hf)
theorem getD_in {α : Type} {l : List α} {i : Nat} {d : α} (h : i < l.length) : l.getD i d = l[i] := by rw [List.getD_eq_getElem?_getD, List.getElem?_eq_getElem h]; rfl
theorem SeAt.there {w : World} {v : Value} {L : List Se} (h : seR.At w v L) {i : Nat} (hi : i < L.length) : ∃ g off cap, v = .slice (some ⟨g, off, none⟩) L.length cap ∧ w.rangeAt g (off + i * 11) (sec (L.getD i Se.none)) := by
  rw [getD_in hi]
  exact RecT.At.there h hi
set_option maxRecDepth 100000 in
set_option maxHeartbeats 4000000 in
theorem lnext_any (vr vf v : Value) (X : List Rv) (F : List Fe) (L : List Se) (w : World) (T : TbAt w vr vf X F) (A : seR.At w v L) (hr : ∀ i, i < L.length → (L.getD i Se.none).ro < X.length) (hl : L.length ≤ 4096) : Calls Tryz.prog 61 #[tbv vr vf, v] w fun e' w' => e' = .returned (.int .i64 (nextN (rws X) F L : Int)) ∧ w.grownBy w' none := by
  obtain ⟨pr, cr, rfl⟩ := T.rows.form
  obtain ⟨pf, cf, rfl⟩ := T.fs.form
  obtain ⟨pl, cl, rfl⟩ := A.form
  obtain ⟨W1, hW1⟩ : ∃ W1, W1 = w.alloc (.cells #[.slice pr X.length cr, .slice pf F.length cf] 118) := ⟨_, rfl⟩
  have HG1 : Hid (w.grownBy W1 none) := by rw [hW1]; exact World.grownBy_alloc _ _ none
  have HB : Hid (TbB W1 w.heap.size (.slice pr X.length cr) (.slice pf F.length cf)) := by rw [hW1]; exact alloc_at w _ _
  have HT : Hid (TbAt W1 (.slice pr X.length cr) (.slice pf F.length cf) X F) := T.keep HG1.out
  have HA : Hid (seR.At W1 (.slice pl L.length cl) L) := A.keep HG1.out
  have Hr : Hid (∀ i, i < L.length → (L.getD i Se.none).ro < X.length) := hr
  have Hl : Hid (L.length ≤ 4096) := hl
  unfold tbv
  clear T A hr hl
  go_enter Tryz.func61, Tryz.ntmps61
  go_wp2_with fail
  rw [← hW1]
  clear hW1
  obtain ⟨n0, h0⟩ : ∃ n0, n0 = w.heap.size := ⟨_, rfl⟩
  simp only [← h0] at HB ⊢
  clear h0
  go_step3
  go_wp2_with fail
  go_step3
  go_wp2_with fail
  go_loopw [11] (fun i wr => ∃ k : Nat, k ≤ L.length ∧ i = .int .i64 (k : Int) ∧ (∀ i, i < k → freeB (rws X) F L i = false) ∧ W1.grownBy wr none) (fun i _ => L.length - (intOf i).toNat)
  case atStart => exact ⟨0, Nat.zero_le _, rfl, fun i hi => absurd hi (Nat.not_lt_zero _), grown_refl _ _⟩
  case round =>
    obtain ⟨k, hk, rfl, hfree, G⟩ := hrel
    obtain ⟨U, hU⟩ : ∃ U, U = wr := ⟨_, rfl⟩
    subst hU
    have HF : Hid (∀ i, i < k → freeB (rws X) F L i = false) := hfree
    have HG : Hid (W1.grownBy U none) := G
    clear hfree G
    by_cases hlt : k < L.length
    · obtain ⟨g, off, cap, e1, R⟩ := SeAt.there (HA.out.keep HG.out) hlt
      cases e1
      obtain ⟨e, he⟩ : ∃ e, e = L.getD k Se.none := ⟨_, rfl⟩
      have He : Hid (e = L.getD k Se.none) := he
      rw [← he] at R
      obtain ⟨c0, c1, c2, c3, c4, c5, c6, c7, c8, c9, c10⟩ := se_cells R
      obtain ⟨V, hV⟩ : ∃ V, V = U.alloc (.cells #[.int .i64 e.s.th, .int .i64 e.s.pl, .int .u8 e.s.wh.wn, .int .u8 e.s.wh.vb, .int .u8 e.s.wh.wm, .int .i64 e.s.wh.ct, .int .u8 e.s.wh.su, .int .u8 e.s.wh.tr, .int .u8 e.s.wh.mr, .string e.s.wh.nm, .int .i64 (e.ro : Int)] 123) := ⟨_, rfl⟩
      have HGV : Hid (U.grownBy V none) := by rw [hV]; exact World.grownBy_alloc _ _ none
      have HBe : Hid (SeB V U.heap.size e) := by rw [hV]; exact alloc_at _ _ _
      have hlt' : (k : Int) < L.length := by omega
      have Hlt : Hid (k < L.length) := hlt
      have hwk : wrap64 ((k : Int) + 1) = (k : Int) + 1 := by unfold wrap64; have := Hl.out; omega
      have HM : Hid (L.length - (intOf (.int .i64 ((k : Int) + 1))).toNat < L.length - (intOf (.int .i64 (k : Int))).toNat) := meas_k hlt
      clear he R hlt hk
      go_upto_region 4 with fail
      rw [← hV]
      obtain ⟨nb, hnb⟩ : ∃ nb, nb = U.heap.size := ⟨_, rfl⟩
      rw [← hnb] at HBe ⊢
      clear hV hnb c0 c1 c2 c3 c4 c5 c6 c7 c8 c9 c10
      go_wp2_with fail
      go_loopw [18] (fun i wr => ∃ m : Nat, m ≤ L.length ∧ i = .int .i64 (m : Int) ∧ (∀ j, j < m → k = j ∨ depB (rws X) F (L.getD k Se.none) (L.getD j Se.none) = false) ∧ V.grownBy wr none) (fun i _ => L.length - (intOf i).toNat)
      case atStart => exact ⟨0, Nat.zero_le _, rfl, fun i hi => absurd hi (Nat.not_lt_zero _), grown_refl _ _⟩
      case round =>
        obtain ⟨m, hm, rfl, hfr, G⟩ := hrel
        obtain ⟨Y, hY⟩ : ∃ Y, Y = wr := ⟨_, rfl⟩
        subst hY
        have HFr : Hid (∀ j, j < m → k = j ∨ depB (rws X) F (L.getD k Se.none) (L.getD j Se.none) = false) := hfr
        have HGY : Hid (V.grownBy Y none) := G
        have HGY1 : Hid (W1.grownBy Y none) := grown_trans (grown_trans HG.out HGV.out) G
        clear hfr G
        by_cases hml : m < L.length
        · obtain ⟨g2, off2, cap2, e2, R⟩ := SeAt.there (HA.out.keep HGY1.out) hml
          cases e2
          obtain ⟨o, ho⟩ : ∃ o, o = L.getD m Se.none := ⟨_, rfl⟩
          have Ho : Hid (o = L.getD m Se.none) := ho
          rw [← ho] at R
          obtain ⟨c0, c1, c2, c3, c4, c5, c6, c7, c8, c9, c10⟩ := se_cells R
          obtain ⟨Z, hZ⟩ : ∃ Z, Z = Y.alloc (.cells #[.int .i64 o.s.th, .int .i64 o.s.pl, .int .u8 o.s.wh.wn, .int .u8 o.s.wh.vb, .int .u8 o.s.wh.wm, .int .i64 o.s.wh.ct, .int .u8 o.s.wh.su, .int .u8 o.s.wh.tr, .int .u8 o.s.wh.mr, .string o.s.wh.nm, .int .i64 (o.ro : Int)] 123) := ⟨_, rfl⟩
          have HGZ : Hid (Y.grownBy Z none) := by rw [hZ]; exact World.grownBy_alloc _ _ none
          have HGZ1 : Hid (W1.grownBy Z none) := grown_trans HGY1.out HGZ.out
          have HBo : Hid (SeB Z Y.heap.size o) := by rw [hZ]; exact alloc_at _ _ _
          have HBe2 : Hid (SeB Z nb e) := grown_keep (grown_trans HGY.out HGZ.out) HBe.out (by simp)
          have hml' : (m : Int) < L.length := by omega
          have Hml : Hid (m < L.length) := hml
          have hwm : wrap64 ((m : Int) + 1) = (m : Int) + 1 := by unfold wrap64; have := Hl.out; omega
          have HMm : Hid (L.length - (intOf (.int .i64 ((m : Int) + 1))).toNat < L.length - (intOf (.int .i64 (m : Int))).toNat) := meas_k hml
          clear ho R hml hm
          go_upto_region 7 with fail
          rw [← hZ]
          obtain ⟨nc, hnc⟩ : ∃ nc, nc = Y.heap.size := ⟨_, rfl⟩
          rw [← hnc] at HBo ⊢
          clear hZ hnc c0 c1 c2 c3 c4 c5 c6 c7 c8 c9 c10
          by_cases hkm : k = m
          · have ek : ((k : Int) != (m : Int)) = false := by rw [hkm]; simp
            have HF2 : Hid (∀ j, j < m + 1 → k = j ∨ depB (rws X) F (L.getD k Se.none) (L.getD j Se.none) = false) := fun j hj => by
              by_cases q : j = m
              · exact Or.inl (hkm.trans q.symm)
              · exact HFr.out j (by omega)
            clear hkm
            go_wp2_with fail
            go_roundw
            case rel => exact ⟨m + 1, Hml.out, by first | rfl | (rw [hwm]; rfl) | go_num, HF2.out, grown_trans HGY.out HGZ.out⟩
            case measure => first | exact HMm.out | (rw [hwm]; exact HMm.out)
          · have ek : ((k : Int) != (m : Int)) = true := by simp; omega
            have HC := ldepends_any _ _ X F e o Z (HT.out.keep HGZ1.out) (by rw [He.out]; exact Hr.out k Hlt.out) (by rw [Ho.out]; exact Hr.out m Hml.out)
            obtain ⟨d, hd⟩ : ∃ d, d = depB (rws X) F e o := ⟨_, rfl⟩
            have Hd : Hid (d = depB (rws X) F (L.getD k Se.none) (L.getD m Se.none)) := by show _ = _; rw [hd, He.out, Ho.out]
            have Hkm : Hid (¬ k = m) := hkm
            rw [← hd] at HC
            unfold tbv sev at HC
            obtain ⟨a0, a1⟩ := tb_box (show TbB Z n0 _ _ from grown_keep HGZ1.out HB.out (by simp))
            obtain ⟨s0, s1, s2, s3, s4, s5, s6, s7, s8, s9, s10⟩ := se_box HBe2.out
            obtain ⟨o0, o1, o2, o3, o4, o5, o6, o7, o8, o9, o10⟩ := se_box HBo.out
            clear hd hkm
            cases d with
            | true =>
              have HX : Hid (∀ i, i < k + 1 → freeB (rws X) F L i = false) := fun i hi => by
                by_cases q : i = k
                · rw [q]; exact freeB_no Hml.out Hkm.out Hd.out.symm
                · exact HF.out i (by omega)
              go_wp2_with (go_at_call 63; refine HC.mono ?_; rintro e5 w5 ⟨rfl, g5⟩; have HG5 : Hid (Z.grownBy w5 none) := g5; clear HC g5 a0 a1 s0 s1 s2 s3 s4 s5 s6 s7 s8 s9 s10 o0 o1 o2 o3 o4 o5 o6 o7 o8 o9 o10)
              go_roundw
              case rel => exact ⟨k + 1, Hlt.out, by first | rfl | (rw [hwk]; rfl) | go_num, HX.out, grown_trans HGZ1.out HG5.out⟩
              case measure => first | exact HM.out | (rw [hwk]; exact HM.out)
            | false =>
              have HF2 : Hid (∀ j, j < m + 1 → k = j ∨ depB (rws X) F (L.getD k Se.none) (L.getD j Se.none) = false) := fun j hj => by
                by_cases q : j = m
                · rw [q]; exact Or.inr Hd.out.symm
                · exact HFr.out j (by omega)
              go_wp2_with (go_at_call 63; refine HC.mono ?_; rintro e5 w5 ⟨rfl, g5⟩; have HG5 : Hid (Z.grownBy w5 none) := g5; clear HC g5 a0 a1 s0 s1 s2 s3 s4 s5 s6 s7 s8 s9 s10 o0 o1 o2 o3 o4 o5 o6 o7 o8 o9 o10)
              refine ⟨⟨m + 1, Hml.out, by first | rfl | (rw [hwm]; rfl) | go_num, HF2.out, grown_trans HGY.out (grown_trans HGZ.out HG5.out)⟩, ?_⟩
              first | exact HMm.out | (rw [hwm]; exact HMm.out)
        · obtain rfl : m = L.length := by omega
          have HX : Hid (nextN (rws X) F L = k) := nextN_at Hlt.out HF.out (freeB_yes HFr.out)
          clear hml hm
          go_wp2_with fail
          try rw [Exit.noGoto_ret]
          go_ret
          exact ⟨by rw [HX.out]; rfl, grown_trans HG1.out HGY1.out⟩
    · obtain rfl : k = L.length := by omega
      have HX : Hid (nextN (rws X) F L = 0) := nextN_none HF.out
      clear hlt hk
      go_wp2_with fail
      try rw [Exit.noGoto_ret]
      go_ret
      exact ⟨by rw [HX.out]; rfl, grown_trans HG1.out HG.out⟩
end Go.Proofs.YtmemeloehgemcaaGreat
