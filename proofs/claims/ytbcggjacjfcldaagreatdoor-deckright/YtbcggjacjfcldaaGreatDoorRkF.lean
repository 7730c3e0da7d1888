/-
  The document's own Parse of a deck's text, of every book and text.
-/
import Derived.Test.YtbcggjacjfcldaaGreatDoorA3
import Derived.Test.YtbcggjacjfcldaaGreatDoorD23
import Derived.Test.YtbcggjacjfcldaaGreatDoorD27
import Derived.Maps.AppendAt
namespace Go.Proofs.YtbcggjacjfcldaaGreatDoor
open Go.RowKit
theorem tw_of {l : List UInt8} {K : Nat} (hK : K ≤ l.length) (h : ∀ j x, j < K → l[j]? = some x → x ≠ 10) (he : K < l.length → l[K]? = some 10) : l.takeWhile (· != 10) = l.take K := by
  have hall : ∀ c ∈ l.take K, (c != 10) = true := fun c hc => by
    obtain ⟨j, hj, e⟩ := List.mem_iff_getElem.1 hc
    rw [List.length_take] at hj
    have := h j c (by omega) (by rw [← e, List.getElem_take, List.getElem?_eq_getElem (by omega)])
    simpa using this
  rcases Nat.lt_or_ge K l.length with h1 | h1
  · have h2 := he h1
    have e : l = l.take K ++ 10 :: l.drop (K + 1) := by
      have h3 : l[K] = 10 := by rw [List.getElem?_eq_getElem h1] at h2; exact Option.some.inj h2
      rw [← h3, ← List.drop_eq_getElem_cons h1, List.take_append_drop]
    conv => lhs; rw [e]
    exact take_line hall
  · rw [List.take_of_length_le h1]
    rw [List.take_of_length_le h1] at hall
    have := List.takeWhile_append_of_pos (l₁ := l) (l₂ := []) hall
    simpa using this
theorem ba_ext {a b : ByteArray} (h : a.data.toList = b.data.toList) : a = b := by
  rcases a with ⟨⟨x⟩⟩
  rcases b with ⟨⟨y⟩⟩
  simp only at h
  rw [h]
/-- The document's line, and the program's cut. -/
theorem cut_of {s : ByteArray} {K : Nat} (hK : K ≤ s.size) (h : ∀ j x, j < K → s.data.toList[j]? = some x → x ≠ 10) (he : K < s.size → s.data.toList[K]? = some 10) : s.extract 0 K = cutA 10 s ∧ (cutM 10 s = !decide (K = s.size)) ∧ s.extract (K + 1) s.size = cutR 10 s := by
  have hsl : s.data.toList.length = s.size := rfl
  have ht := tw_of (l := s.data.toList) (by rw [hsl]; exact hK) h (by rw [hsl]; exact he)
  obtain ⟨c1, c2, c3⟩ := cut_ten s.data.toList
  have hl : (s.data.toList.take K).length = K := by rw [List.length_take, hsl]; omega
  refine ⟨ba_ext ?_, ?_, ba_ext ?_⟩
  · rw [ext_take, ← ht]
    exact c1.symm
  · show (cutL 10 s.data.toList).2.2 = _
    rw [c2, ht, hl, hsl]
    congr 1
    by_cases e : K = s.size
    · rw [e]
    · rw [decide_eq_false e, decide_eq_false (fun q => e q.symm)]
  · rw [ext_drop]
    show _ = (cutL 10 s.data.toList).2.1
    rw [c3, ht, hl]
theorem own_low {w : World} {base base' n : Nat} {v : Value} {xs : List Value} (h : w.ownsRow base 3 1 v n xs) (hb : base' ≤ base) : w.ownsRow base' 3 1 v n xs := by
  obtain ⟨h1, h2⟩ := h
  refine ⟨h1, ?_⟩
  rcases h2 with h2 | ⟨g, cap, cur, e, h3, h4⟩
  · exact Or.inl h2
  · exact Or.inr ⟨g, cap, cur, e, Nat.le_trans hb h3, h4⟩
theorem own_blk {w : World} {base n : Nat} {v : Value} {xs : List Value} (h : w.ownsRow base 3 1 v n xs) : ∀ x, v.ownBlock = some x → base ≤ x := by
  intro x hx
  rcases h.2 with ⟨rfl, _⟩ | ⟨g, cap, cur, rfl, h3, _⟩
  · simp [Value.ownBlock] at hx
  · simp [Value.ownBlock] at hx
    omega
theorem own_kp {w w' : World} {base n : Nat} {v : Value} {xs : List Value} (h : w.ownsRow base 3 1 v n xs) (g : w.grownBy w' none) : w'.ownsRow base 3 1 v n xs := World.ownsRow.kept h g (Classical.em _)
theorem own_fm {w : World} {base n : Nat} {v : Value} {xs : List Value} (h : w.ownsRow base 3 1 v n xs) : ∃ a c, v = .slice a n c := by
  rcases h.2 with ⟨rfl, h0⟩ | ⟨g, cap, cur, rfl, _⟩
  · exact ⟨none, 0, by rw [h0]⟩
  · exact ⟨_, _, rfl⟩
theorem Tryz.info3r : (Tryz.prog.info? 3).map (fun i => (i.zero, i.size, i.bytes)) = some (some (.int .i64 0), 1, 8) := by kernel_rfl
theorem one_newI (w : World) (x : Value) : ∀ j u, [x][j]? = some u → (w.alloc (.cells #[x] 3)).cell? ((⟨w.heap.size, 0, none⟩ : Addr).add j) = some u := fun j u hu => by
  rcases j with _ | j
  · rw [add_plain, block_cell (alloc_at w _ _)]
    simpa using hu
  · simp at hu
set_option maxHeartbeats 4000000 in
set_option maxRecDepth 100000 in
theorem rparse_open (ok : Nat → Prop) (r : Nat) (v : Value) (p : Pl) (fs : List Ent) (s : ByteArray) (w : World) (B : RB ok w r v p fs) (hp : p.shut = false) : Calls Tryz.prog 13 #[.pointer (some ⟨r, 0, none⟩), .string s] w fun e w' => e = .returned (.tuple #[.slice none 0 0, .agg #[.int .i64 2, .int .i64 (-1)]]) ∧ w.grownBy w' none := by
  obtain ⟨W1, hW1⟩ : ∃ W1, W1 = w.alloc (.cells #[.int .i64 0, .int .i64 0] 34) := ⟨_, rfl⟩
  have HG1 : Hid (w.grownBy W1 none) := by rw [hW1]; exact World.grownBy_alloc _ _ none
  have HF1 : Hid (FAt W1 w.heap.size 0 0) := by rw [hW1]; exact alloc_at w _ _
  have HR := rfirst_no r v p hp W1 (B.rj.keep HG1.out)
  clear B hp
  go_enter Tryz.func13, Tryz.ntmps13
  go_upto_region 1 with fail
  rw [← hW1]
  clear hW1
  go_wp2_with fail
  refine HR.mono ?_
  rintro e w2 ⟨rfl, g2⟩
  obtain ⟨W3, hW3⟩ : ∃ W3, W3 = w2.alloc (.cells #[.int .i64 2, .int .i64 (-1)] 34) := ⟨_, rfl⟩
  have HG3 : Hid (w.grownBy W3 none) := by rw [hW3]; exact grown_push (grown_trans HG1.out g2) _
  have HF3 : Hid (FAt W3 w.heap.size 0 0 ∧ FAt W3 w2.heap.size 2 (-1)) := ⟨by rw [hW3]; exact (HF1.out.keep g2).keep (World.grownBy_alloc _ _ none), by rw [hW3]; exact alloc_at w2 _ _⟩
  clear HR g2 HG1 HF1
  go_upto_region 2 with fail
  rw [← hW3]
  clear hW3
  obtain ⟨q2, hq2⟩ : ∃ q2, q2 = w2.heap.size := ⟨_, rfl⟩
  rw [← hq2] at HF3 ⊢
  clear hq2
  obtain ⟨rr, hrr⟩ : ∃ rr, rr = w.heap.size := ⟨_, rfl⟩
  rw [← hrr] at HF3 ⊢
  have HRr : Hid (rr = w.heap.size) := hrr
  clear hrr
  have c0 := HF3.out.1.c0
  have c1 := HF3.out.1.c1
  have f0 := HF3.out.1.free 0
  have f1 := HF3.out.1.free 1
  have d0 := HF3.out.2.c0
  have d1 := HF3.out.2.c1
  go_upto_region 3 with fail
  go_region
  all_goals (go_wp2; refine bodyPost_ret (v := .tuple #[.slice none 0 0, .agg #[.int .i64 2, .int .i64 (-1)]]) (by simp [results, Tryz.results13, go_sem, c0, c1]) rfl ⟨rfl, ?_⟩; exact ret_f2 (grown_trans HG3.out (grown_drewN _ 1 none)) _ _ (by rw [HRr.out]; exact Nat.le_refl _))
set_option maxHeartbeats 8000000 in
set_option maxRecDepth 100000 in
theorem rparse_run (ok : Nat → Prop) (r : Nat) (v : Value) (p : Pl) (fs : List Ent) (s0 : ByteArray) (w : World) (B : RB ok w r v p fs) (hp : p.shut = true) (hs : s0.size ≤ 140737488355328) : Calls Tryz.prog 13 #[.pointer (some ⟨r, 0, none⟩), .string s0] w (PaPost (dpar (names fs) (s0.size + 1) s0.data.toList 0 0 []) w) := by
  obtain ⟨i0, hi, hz0, hz1, hz2⟩ := info_parts Tryz.info3r
  obtain ⟨W1, hW1⟩ : ∃ W1, W1 = w.alloc (.cells #[.int .i64 0, .int .i64 0] 34) := ⟨_, rfl⟩
  have HG1 : Hid (w.grownBy W1 none) := by rw [hW1]; exact World.grownBy_alloc _ _ none
  have HF1 : Hid (FAt W1 w.heap.size 0 0) := by rw [hW1]; exact alloc_at w _ _
  have HR := rfirst_yes r v p hp W1 (B.rj.keep HG1.out)
  have HB : Hid (RB ok w r v p fs) := B
  have HP : Hid (p.shut = true) := hp
  have H0 := PaIn.start (names fs) s0
  obtain ⟨D, hD⟩ : ∃ D, D = dpar (names fs) (s0.size + 1) s0.data.toList 0 0 [] := ⟨_, rfl⟩
  rw [← hD] at H0 ⊢
  have HS0 : Hid (s0.size ≤ 140737488355328) := hs
  have HP0 : Hid (PaIn (names fs) s0.size D s0 0 0 []) := H0
  clear B hp hs H0 hD
  go_enter Tryz.func13, Tryz.ntmps13
  go_upto_region 1 with fail
  rw [← hW1]
  clear hW1
  go_wp2_with fail
  refine HR.mono ?_
  rintro e w2 ⟨rfl, g2⟩
  obtain ⟨W3, hW3⟩ : ∃ W3, W3 = w2.alloc (.cells #[.int .i64 0, .int .i64 (0)] 34) := ⟨_, rfl⟩
  have HG3 : Hid (w.grownBy W3 none) := by rw [hW3]; exact grown_push (grown_trans HG1.out g2) _
  have HF3 : Hid (FAt W3 w.heap.size 0 0 ∧ FAt W3 w2.heap.size 0 (0)) := ⟨by rw [hW3]; exact (HF1.out.keep g2).keep (World.grownBy_alloc _ _ none), by rw [hW3]; exact alloc_at w2 _ _⟩
  clear HR g2 HG1 HF1
  go_upto_region 2 with fail
  rw [← hW3]
  clear hW3
  obtain ⟨q2, hq2⟩ : ∃ q2, q2 = w2.heap.size := ⟨_, rfl⟩
  rw [← hq2] at HF3 ⊢
  clear hq2
  obtain ⟨rr, hrr⟩ : ∃ rr, rr = w.heap.size := ⟨_, rfl⟩
  rw [← hrr] at HF3 ⊢
  have HRr : Hid (rr = w.heap.size) := hrr
  clear hrr
  have c0 := HF3.out.1.c0
  have c1 := HF3.out.1.c1
  have f0 := HF3.out.1.free 0
  have f1 := HF3.out.1.free 1
  have d0 := HF3.out.2.c0
  have d1 := HF3.out.2.c1
  have HFo : Hid (FAt W3 rr 0 0) := HF3.out.1
  clear f0 f1 c0 c1 HF3
  go_wp2_with fail
  clear d0 d1
  go_loopw [1, 7, 8, 9, 10, 11, 12, 13, 14, 15, 16] (fun x1 x7 x8 x9 _ _ _ _ _ _ _ wr => ∃ (s : ByteArray) (va : Option Addr) (m vc i : Nat) (last : Int) (out : List Int), x1 = .string s ∧ x7 = .slice va m vc ∧ x8 = .int .i64 last ∧ x9 = .int .i64 (i : Int) ∧ Hid (out.length = m) ∧ Hid (w.grownBy wr none ∧ FAt wr rr 0 0 ∧ wr.ownsRow (rr + 1) 3 1 (.slice va m vc) m (ints out) ∧ PaIn (names fs) s0.size D s i last out)) (fun x1 _ _ _ _ _ _ _ _ _ _ _ => strLen x1)
  case atStart => exact ⟨s0, none, 0, 0, 0, 0, [], rfl, rfl, rfl, rfl, rfl, HG3.out, HFo.out, ⟨rfl, Or.inl ⟨rfl, rfl⟩⟩, HP0.out⟩
  case round =>
    obtain ⟨s, va, m, vc, i, last, out, rfl, rfl, rfl, rfl, HM, HI⟩ := hrel
    clear HG3 HFo HP0
    by_cases h0 : s.size = 0
    · have hz : ¬ (0 : Int) < (s.size : Int) := by omega
      have HX : Hid (D = .inr out) := HI.out.2.2.2.done h0
      have c0 := HI.out.2.1.c0
      have c1 := HI.out.2.1.c1
      have f0 := HI.out.2.1.free 0
      have f1 := HI.out.2.1.free 1
      have HF : Hid (w.grownBy wr none ∧ wr.ownsRow (rr + 1) 3 1 (.slice va m vc) m (ints out)) := ⟨HI.out.1, HI.out.2.2.1⟩
      clear h0 HI
      go_wp2
      refine bodyPost_ret (v := .tuple #[.slice va m vc, .agg #[.int .i64 0, .int .i64 0]]) (by simp [results, Tryz.results13, go_sem, c0, c1]) rfl (PaPost.list (l := out) (ret_f2 HF.out.1 _ _ (by rw [HRr.out]; exact Nat.le_refl _)) HX.out ?_)
      rw [HM.out]
      exact own_low (World.ownsRow.kept HF.out.2 (grown_put2 wr rr 0 0) (Or.inr (fun e => by have h1 := own_blk HF.out.2 rr (by rw [← e]); omega))) (by rw [HRr.out]; omega)
    · have hz : (0 : Int) < (s.size : Int) := by omega
      have HLn : Hid (LnIn (names fs) s0.size D s i last out) := HI.out.2.2.2.line h0
      have hss : i + s.size ≤ 140737488355328 := by have h1 := HI.out.2.2.2.sz; have h2 := HS0.out; omega
      have HSs : Hid (i + s.size ≤ 140737488355328 ∧ 0 < s.size) := ⟨hss, by omega⟩
      have HL40 : Hid (out.length ≤ 40) := HI.out.2.2.2.le
      have hsm : Small s.size := by unfold Small; omega
      obtain ⟨wz, hwz⟩ : ∃ wz, wz = wr := ⟨_, rfl⟩
      subst hwz
      clear h0 hss
      go_wp2_with fail
      go_loopw [10] (fun x wr => wr = wz ∧ ∃ K : Nat, K ≤ s.size ∧ x = .int .i64 (K : Int) ∧ Hid (∀ j x, j < K → s.data.toList[j]? = some x → x ≠ 10)) (fun x _ => s.size - (intOf x).toNat)
      case atStart => exact ⟨rfl, 0, Nat.zero_le _, rfl, fun j x hj => absurd hj (by omega)⟩
      case round =>
        obtain ⟨hwr, K, hK, rfl, HA⟩ := hrel
        subst hwr
        rcases (show K = s.size ∨ K < s.size from by omega) with e | hlt
        · obtain ⟨hA, hM, _⟩ := cut_of hK HA.out (fun h => absurd h (by omega))
          have HX : Hid (D = .inl (260, (i : Int))) := HLn.out.noend (by rw [hM, e]; simp)
          subst e
          have HRl := rline_any s (by have h2 := HSs.out; omega) wr
          have k1 : (0 : Int) ≤ (s.size : Int) := by omega
          have c0 := HI.out.2.1.c0
          have c1 := HI.out.2.1.c1
          have f0 := HI.out.2.1.free 0
          have f1 := HI.out.2.1.free 1
          have HGo : Hid (w.grownBy wr none) := HI.out.1
          have HFa : Hid (FAt wr rr 0 0) := HI.out.2.1
          clear hA hM HA c0 c1 f0 f1 HI HLn hK
          go_wp2_with fail
          refine HRl.mono ?_
          intro e w5 Q5
          obtain ⟨T, nm, okb, rfl, -, -, g5⟩ := Q5
          have HI5 : Hid (w.grownBy w5 none ∧ FAt w5 rr 0 0) := ⟨grown_trans HGo.out g5, HFa.out.keep g5⟩
          have c0 := HI5.out.2.c0
          have c1 := HI5.out.2.c1
          have f0 := HI5.out.2.free 0
          have f1 := HI5.out.2.free 1
          have HGp : Hid (w.grownBy w5 none) := HI5.out.1
          clear g5 HRl HI5
          cases okb with
          | true =>
            go_wp2
            refine bodyPost_ret (v := .tuple #[.slice none 0 0, .agg #[.int .i64 260, .int .i64 (i : Int)]]) (by simp [results, Tryz.results13, go_sem, c0, c1]) rfl (PaPost.fault (ret_f2 HGp.out _ _ (by rw [HRr.out]; exact Nat.le_refl _)) HX.out)
          | false =>
            go_wp2
            refine bodyPost_ret (v := .tuple #[.slice none 0 0, .agg #[.int .i64 260, .int .i64 (i : Int)]]) (by simp [results, Tryz.results13, go_sem, c0, c1]) rfl (PaPost.fault (ret_f2 HGp.out _ _ (by rw [HRr.out]; exact Nat.le_refl _)) HX.out)
        · have hlt' : (K : Int) < (s.size : Int) := by omega
          have k1 : (0 : Int) ≤ (K : Int) := by omega
          have k2 : (K : Int) ≤ (s.size : Int) := by omega
          have BI : Hid (s.data.toList[K]? = some s[K]) := byte_at s K hlt
          by_cases hten : s[K] = 10
          · have hq1 : ((s[K].toNat : Int) != 10) = false := by rw [hten]; rfl
            have hq2 : ((s[K].toNat : Int) == 10) = true := by rw [hten]; rfl
            have heq : ((K : Int) == (s.size : Int)) = false := by simp; omega
            obtain ⟨hA, hM, hR⟩ := cut_of hK HA.out (fun _ => by rw [BI.out, hten])
            have HE : Hid (s.extract 0 K = cutA 10 s ∧ cutM 10 s = true ∧ s.extract (K + 1) s.size = cutR 10 s) := ⟨hA, by rw [hM, decide_eq_false (by omega)]; rfl, hR⟩
            have HRl := rline_any (s.extract 0 K) (by have h1 : (s.extract 0 K).size ≤ s.size := by rw [ByteArray.size_extract]; omega
                                                      have h2 := HSs.out; omega) wr
            clear hA hM hR HA BI hten
            go_wp2_with fail
            refine HRl.mono ?_
            intro e w5 Q5
            obtain ⟨T, nm, okb, rfl, hok, hlp, g5⟩ := Q5
            have HI5 : Hid (w.grownBy w5 none ∧ FAt w5 rr 0 0 ∧ w5.ownsRow (rr + 1) 3 1 (.slice va m vc) m (ints out)) := ⟨grown_trans HI.out.1 g5, HI.out.2.1.keep g5, own_kp HI.out.2.2.1 g5⟩
            rw [HE.out.1] at hok hlp
            have HOk : Hid (okb = (lineP (cutA 10 s).data.toList).isSome) := hok
            have HLp : Hid (∀ k x, lineP (cutA 10 s).data.toList = some (k, x) → T = (k : Int) ∧ nm = ⟨x.toArray⟩) := hlp
            clear g5 HRl HI hok hlp
            cases hlq : lineP (cutA 10 s).data.toList with
            | none =>
              have hob : okb = false := by rw [HOk.out, hlq]; rfl
              have HX : Hid (D = .inl (260, (i : Int))) := HLn.out.none hlq
              have c0 := HI5.out.2.1.c0
              have c1 := HI5.out.2.1.c1
              have f0 := HI5.out.2.1.free 0
              have f1 := HI5.out.2.1.free 1
              have HGo : Hid (w.grownBy w5 none) := HI5.out.1
              subst hob
              clear HI5 HLn HE HOk HLp hlq
              go_wp2
              refine bodyPost_ret (v := .tuple #[.slice none 0 0, .agg #[.int .i64 260, .int .i64 (i : Int)]]) (by simp [results, Tryz.results13, go_sem, c0, c1]) rfl (PaPost.fault (ret_f2 HGo.out _ _ (by rw [HRr.out]; exact Nat.le_refl _)) HX.out)
            | some kx =>
              obtain ⟨k, x⟩ := kx
              have hob : okb = true := by rw [HOk.out, hlq]; rfl
              obtain ⟨hT, hnm⟩ := HLp.out k x hlq
              have hk := lineP_some hlq
              have HKk : Hid (1 ≤ k ∧ k ≤ 40) := ⟨hk.2.1, hk.2.2.1⟩
              subst hob
              subst hT
              subst hnm
              have HQ : Hid (lineP (cutA 10 s).data.toList = some (k, x) ∧ cutM 10 s = true) := ⟨hlq, HE.out.2.1⟩
              have B5 := HB.out.keep HI5.out.1
              have HFd := rfind_any r v p fs ⟨x.toArray⟩ w5 B5.rj B5.rl B5.len
              rw [HP.out] at HFd
              have hpl := pos_low (names fs) ⟨x.toArray⟩
              obtain ⟨q, hq⟩ : ∃ q, q = pos (names fs) ⟨x.toArray⟩ := ⟨_, rfl⟩
              rw [← hq] at HFd hpl
              have HQp : Hid (q = pos (names fs) ⟨x.toArray⟩) := hq
              obtain ⟨nb, hnb⟩ : ∃ nb : ByteArray, nb = ⟨x.toArray⟩ := ⟨_, rfl⟩
              rw [← hnb] at HFd ⊢
              clear hq hlq hk B5 HOk HLp hnb
              by_cases hq0 : q < 0
              · rw [show fndN true q = 0 from if_neg (fun h => by omega), show fndE true q = 6 from if_neg (fun h => by omega)] at HFd
                have HX : Hid (D = .inl (6, (i : Int))) := HLn.out.miss k x HQ.out.1 HQ.out.2 (by rw [← HQp.out]; exact hq0)
                have c0 := HI5.out.2.1.c0
                have c1 := HI5.out.2.1.c1
                have f0 := HI5.out.2.1.free 0
                have f1 := HI5.out.2.1.free 1
                have HGo : Hid (w.grownBy w5 none) := HI5.out.1
                clear hq0 hpl HLn HI5
                go_wp2_with fail
                refine HFd.mono ?_
                rintro e w6 ⟨rfl, hw⟩
                obtain rfl : w5 = w6 := hw.symm
                clear HFd
                go_wp2
                refine bodyPost_ret (v := .tuple #[.slice none 0 0, .agg #[.int .i64 6, .int .i64 (i : Int)]]) (by simp [results, Tryz.results13, go_sem, c0, c1]) rfl (PaPost.fault (ret_f2 HGo.out _ _ (by rw [HRr.out]; exact Nat.le_refl _)) HX.out)
              · rw [show fndN true q = q + 1 from if_pos ⟨rfl, by omega⟩, show fndE true q = 0 from if_pos ⟨rfl, by omega⟩] at HFd
                obtain ⟨n, hn⟩ : ∃ n, n = q + 1 := ⟨_, rfl⟩
                rw [← hn] at HFd
                have HN : Hid (n = pos (names fs) ⟨x.toArray⟩ + 1 ∧ 0 ≤ pos (names fs) ⟨x.toArray⟩) := ⟨by rw [hn, HQp.out], by rw [← HQp.out]; omega⟩
                clear hq0 hpl hn HQp
                go_wp2_with fail
                refine HFd.mono ?_
                rintro e w6 ⟨rfl, hw⟩
                obtain rfl : w5 = w6 := hw.symm
                clear HFd
                by_cases hnl : n = last
                · have hnb2 : (n == last) = true := by simpa using hnl
                  have HX : Hid (D = .inl (260, (i : Int))) := HLn.out.same k x HQ.out.1 HQ.out.2 (by have := HN.out.2; omega) (by rw [← HN.out.1]; exact hnl)
                  have c0 := HI5.out.2.1.c0
                  have c1 := HI5.out.2.1.c1
                  have f0 := HI5.out.2.1.free 0
                  have f1 := HI5.out.2.1.free 1
                  have HGo : Hid (w.grownBy w5 none) := HI5.out.1
                  clear HI5 HLn hnl
                  go_wp2
                  refine bodyPost_ret (v := .tuple #[.slice none 0 0, .agg #[.int .i64 260, .int .i64 (i : Int)]]) (by simp [results, Tryz.results13, go_sem, c0, c1]) rfl (PaPost.fault (ret_f2 HGo.out _ _ (by rw [HRr.out]; exact Nat.le_refl _)) HX.out)
                · have hnb2 : (n == last) = false := by simpa using hnl
                  have HNl : Hid (¬ pos (names fs) ⟨x.toArray⟩ + 1 = last) := by show ¬ _; rw [← HN.out.1]; exact hnl
                  have hm40 : (m : Int) ≤ 40 := by have h1 := HM.out; have h2 := HL40.out; omega
                  have hk40 : (k : Int) ≤ 40 := by have := HKk.out; omega
                  have hm0 : (0 : Int) ≤ (m : Int) := by omega
                  have hkk0 : (0 : Int) ≤ (k : Int) := by omega
                  clear hnl
                  by_cases hfull : 40 < m + k
                  · have hf2 : (40 : Int) < (m : Int) + (k : Int) := by omega
                    have HX : Hid (D = .inl (9, -1)) := HLn.out.full k x HQ.out.1 HQ.out.2 (by have := HN.out.2; omega) HNl.out (by rw [HM.out]; exact hfull)
                    have c0 := HI5.out.2.1.c0
                    have c1 := HI5.out.2.1.c1
                    have f0 := HI5.out.2.1.free 0
                    have f1 := HI5.out.2.1.free 1
                    have HGo : Hid (w.grownBy w5 none) := HI5.out.1
                    clear HI5 HLn hfull
                    go_wp2
                    refine bodyPost_ret (v := .tuple #[.slice none 0 0, .agg #[.int .i64 9, .int .i64 (-1)]]) (by simp [results, Tryz.results13, go_sem, c0, c1]) rfl (PaPost.fault (ret_f2 HGo.out _ _ (by rw [HRr.out]; exact Nat.le_refl _)) HX.out)
                  · have hf2 : ¬ (40 : Int) < (m : Int) + (k : Int) := by omega
                    have HFl : Hid (m + k ≤ 40) := by show m + k ≤ 40; omega
                    obtain ⟨wy, hwy⟩ : ∃ wy, wy = wr := ⟨_, rfl⟩
                    subst hwy
                    clear hfull
                    go_wp2_with fail
                    go_loopw [7, 16] (fun x7 x16 wr => ∃ (j m2 : Nat) (vb : Option Addr) (vd : Nat), j ≤ k ∧ x16 = .int .i64 (j : Int) ∧ x7 = .slice vb m2 vd ∧ Hid (m2 = m + j) ∧ Hid (w.grownBy wr none ∧ FAt wr rr 0 0 ∧ wr.ownsRow (rr + 1) 3 1 (.slice vb m2 vd) m2 (ints (out ++ List.replicate j n)))) (fun _ x16 _ => k - (intOf x16).toNat)
                    case atStart => exact ⟨0, m, va, vc, Nat.zero_le _, rfl, rfl, rfl, HI5.out.1, HI5.out.2.1, by simpa using HI5.out.2.2⟩
                    case round =>
                      obtain ⟨j, m2, vb, vd, hjk, rfl, rfl, HM2, HJ⟩ := hrel
                      clear HI5
                      rcases (show j = k ∨ j < k from by omega) with e | hlt3
                      · have hlt3' : ¬ (j : Int) < (k : Int) := by omega
                        have HFin : Hid (PaIn (names fs) s0.size D (s.extract (K + 1) s.size) (i + 1) n (out ++ List.replicate k n) ∧ (s.extract (K + 1) s.size).size < s.size ∧ (out ++ List.replicate k n).length = m2) := by
                          have h1 := HLn.out.next k x HQ.out.1 HQ.out.2 (by have := HN.out.2; omega) HNl.out (by have h1 := HFl.out; have h2 := HM.out; omega)
                          have h2 := HLn.out.short HQ.out.2
                          rw [← HN.out.1, ← HE.out.2.2] at h1
                          rw [← HE.out.2.2] at h2
                          exact ⟨h1, h2, by rw [List.length_append, List.length_replicate, HM.out, HM2.out, e]⟩
                        have HJk : Hid (w.grownBy wr none ∧ FAt wr rr 0 0 ∧ wr.ownsRow (rr + 1) 3 1 (.slice vb m2 vd) m2 (ints (out ++ List.replicate k n))) := by rw [← e]; exact HJ.out
                        have HWi : Hid (wrap64 ((i : Int) + 1) = ((i + 1 : Nat) : Int)) := by show _ = _; unfold wrap64; have := HSs.out; omega
                        have kk1 : (0 : Int) ≤ (K : Int) + 1 := by omega
                        have kk3 : (K : Int) < 140737488355328 := by have := HSs.out; omega
                        have kk2 : (K : Int) + 1 ≤ (s.size : Int) := by omega
                        clear e HJ HLn HQ HNl
                        go_wp2_with fail
                        exact ⟨⟨s.extract (K + 1) s.size, vb, m2, vd, i + 1, n, out ++ List.replicate k n, rfl, rfl, rfl, by first | rfl | (rw [HWi.out]), HFin.out.2.2, HJk.out.1, HJk.out.2.1, HJk.out.2.2, HFin.out.1⟩, HFin.out.2.1⟩
                      · have hlt3' : (j : Int) < (k : Int) := by omega
                        have HO : Hid (wr.ownsRow (rr + 1) 3 1 (.slice vb m2 vd) m2 (ints (out ++ List.replicate j n))) := HJ.out.2.2
                        have HGF : Hid (w.grownBy wr none ∧ FAt wr rr 0 0) := ⟨HJ.out.1, HJ.out.2.1⟩
                        have HB1 : Hid (m2 + 1 ≤ maxLen ∧ (m2 + 1) * 8 ≤ 140737488355328) := ⟨by unfold maxLen; have h1 := HM2.out; have h2 := HFl.out; omega, by have h1 := HM2.out; have h2 := HFl.out; omega⟩
                        have hrw : rr < wr.heap.size := block_lt HGF.out.2
                        have HRw : Hid (rr + 1 ≤ (wr.alloc (.cells #[.int .i64 n] 3)).heap.size) := by show rr + 1 ≤ _; rw [World.size_alloc]; omega
                        have HC2 : Hid (m2 + 1 = m + (j + 1)) := by show _ = _; rw [HM2.out]; omega
                        have hsk : Small k := by unfold Small; have := HKk.out; omega
                        clear HJ HLn HQ HNl hrw
                        go_wp2_with (at_builtin; refine wpList_append_own_at _ rfl (.tmp 85) (.tmp 87) 26 rfl (rr + 1) 3 i0 (.int .i64 0) 1 8 Tryz.underlying26 hi hz0 hz1 hz2 rfl (by decide) (.slice vb m2 vd) m2 (ints (out ++ List.replicate j n)) rfl (World.ownsRow.alloc HO.out _) ⟨wr.heap.size, 0, none⟩ 1 1 [.int .i64 n] rfl rfl (one_newI wr _) (fun x hx => by simp at hx; subst hx; rfl) HB1.out.1 HB1.out.2 HRw.out ?_; intro v1 V o1 g1 _ _; obtain ⟨vb2, vd2, rfl⟩ := own_fm o1; have HO1 : Hid (V.ownsRow (rr + 1) 3 1 (.slice vb2 (m2 + 1) vd2) (m2 + 1) (ints (out ++ List.replicate j n) ++ [.int .i64 n])) := o1; have HG1' : Hid ((wr.alloc (.cells #[.int .i64 n] 3)).grownBy V (Value.slice vb m2 vd).ownBlock) := g1; clear o1 g1)
                        go_roundw
                        case rel =>
                          have hb2 := own_blk HO.out
                          refine ⟨j + 1, m2 + 1, vb2, vd2, hlt3, by first | rfl | (rw [hsk.wrap hlt3]; rfl), rfl, HC2, ?_, ?_, ?_⟩
                          · exact grown_own (grown_push HGF.out.1 _) HG1'.out (fun x e => by have h1 := hb2 x e; have h2 := HRr.out; omega)
                          · exact (HGF.out.2.keep (World.grownBy_alloc _ _ none)).keepR HG1'.out (fun e => by have h1 := hb2 rr e.symm; omega)
                          · have := HO1.out
                            rw [show ints (out ++ List.replicate j n) ++ [Value.int .i64 n] = ints (out ++ List.replicate (j + 1) n) from by rw [List.replicate_succ', ← List.append_assoc]; simp [ints]] at this
                            exact this
                        case measure => first | exact meas_next hlt3 | (rw [hsk.wrap hlt3]; exact meas_next hlt3)
          · have hq1 : ((s[K].toNat : Int) != 10) = true := by
              simp only [bne_iff_ne]
              exact fun e => hten (UInt8.toNat_inj.1 (by have : s[K].toNat = 10 := by omega
                                                         rw [this]; rfl))
            have hq2 : ((s[K].toNat : Int) == 10) = false := by simpa using hq1
            have HA2 : Hid (∀ j x, j < K + 1 → s.data.toList[j]? = some x → x ≠ 10) := by
              show ∀ j x, j < K + 1 → s.data.toList[j]? = some x → x ≠ 10
              intro j x h1 h2
              rcases (show j < K ∨ j = K from by omega) with h3 | h3
              · exact HA.out j x h3 h2
              · subst h3
                rw [BI.out] at h2
                cases h2
                exact hten
            clear HA BI hten
            go_wp2_with fail
            go_roundw
            case rel => exact ⟨by first | rfl | trivial, K + 1, hlt, by first | rfl | (rw [hsm.wrap hlt]; rfl), HA2⟩
            case measure => first | exact meas_next hlt | (rw [hsm.wrap hlt]; exact meas_next hlt)
theorem rkparse_any (ok : Nat → Prop) (r : Nat) (v : Value) (p : Pl) (fs : List Ent) (s : ByteArray) (w : World) (B : RB ok w r v p fs) (hs : s.size ≤ 140737488355328) : Calls Tryz.prog 13 #[.pointer (some ⟨r, 0, none⟩), .string s] w (PaPost (paD p fs s.data.toList) w) := by
  unfold paD
  cases hp : p.shut with
  | false => exact (rparse_open ok r v p fs s w B hp).mono fun e w' h => by rw [h.1]; exact PaPost.fault h.2 rfl
  | true =>
    rw [if_pos rfl]
    exact rparse_run ok r v p fs s w B hp hs
end Go.Proofs.YtbcggjacjfcldaaGreatDoor
