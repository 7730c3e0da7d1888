/-
  card.Check of every card.
  card.Copy: a card in memory of its own.
  A book in memory: 64 cards of nine cells, then what else it holds; what is read of it.
  book.New; what is a book and what is none; the list of its cards, how many there are, whether it is sealed.
-/
import Derived.Test.YtmemeloehgemcaaGreatV3
import Derived.Deep.Cut
import Derived.Deep.CutRange
import Derived.Deep.CutBlock
import Derived.Maps.RangeWalk
namespace Go.Proofs.YtmemeloehgemcaaGreat
open Go.RowKit

theorem kName_yes {k : Int} (h : 1 ≤ k ∧ k ≤ 3) : ((kName k).toList == []) = false := by
  rcases (show k = 1 ∨ k = 2 ∨ k = 3 by omega) with rfl | rfl | rfl <;> rw [Lib.toList_data] <;> rfl
theorem kName_no {k : Int} (h : ¬ (1 ≤ k ∧ k ≤ 3)) : ((kName k).toList == []) = true := by
  have h1 : ¬ k = 1 := by omega
  have h2 : ¬ k = 2 := by omega
  have h3 : ¬ k = 3 := by omega
  rw [Lib.toList_data]
  simp [kName, h1, h2, h3]
theorem sB_yes {k : Int} (h : 1 ≤ k ∧ k ≤ 6) : sB k = true := by simp [sB, h]
theorem sB_no {k : Int} (h : ¬ (1 ≤ k ∧ k ≤ 6)) : sB k = false := by simp only [sB]; by_cases a : 1 ≤ k <;> by_cases b : k ≤ 6 <;> simp [a, b]; exact absurd ⟨a, b⟩ h
theorem wI_yes {k m : Int} (h : 0 ≤ k ∧ k ≤ m) : wI k m = true := by simp [wI, h]
theorem wI_no {k m : Int} (h : ¬ (0 ≤ k ∧ k ≤ m)) : wI k m = false := by simp only [wI]; by_cases a : 0 ≤ k <;> by_cases b : k ≤ m <;> simp [a, b]; exact absurd ⟨a, b⟩ h
def Two (c : Cd) : Prop := ¬ (1 ≤ c.su ∧ c.su ≤ 6) ∨ ¬ (1 ≤ c.kd ∧ c.kd ≤ 3)
def Thr (c : Cd) : Prop := ¬ (0 ≤ c.co ∧ c.co ≤ 10) ∨ ¬ (0 ≤ c.po ∧ c.po ≤ 99) ∨ ¬ (0 ≤ c.he ∧ c.he ≤ 99)
def Fit (c : Cd) : Prop := forceOk c = false ∨ tCheck c.tr = false ∨ (c.kd = 2 ∧ c.tk = true)
theorem cchk_name {c : Cd} (h : nameOk c.nm.data.toList = false) : cchk c = 4 := if_pos h
theorem cchk_two {c : Cd} (n1 : ¬ nameOk c.nm.data.toList = false) (h : Two c) : cchk c = 8 := (if_neg n1).trans (if_pos h)
theorem cchk_thr {c : Cd} (n1 : ¬ nameOk c.nm.data.toList = false) (n2 : ¬ Two c) (h : Thr c) : cchk c = 2 := (if_neg n1).trans ((if_neg n2).trans (if_pos h))
theorem cchk_fit {c : Cd} (n1 : ¬ nameOk c.nm.data.toList = false) (n2 : ¬ Two c) (n3 : ¬ Thr c) (h : Fit c) : cchk c = 8 := (if_neg n1).trans ((if_neg n2).trans ((if_neg n3).trans (if_pos h)))
theorem cchk_long {c : Cd} (n1 : ¬ nameOk c.nm.data.toList = false) (n2 : ¬ Two c) (n3 : ¬ Thr c) (n4 : ¬ Fit c) (h : 4 < c.ps.length) : cchk c = 3 := (if_neg n1).trans ((if_neg n2).trans ((if_neg n3).trans ((if_neg n4).trans (if_pos h))))
theorem cchk_parts {c : Cd} (n1 : ¬ nameOk c.nm.data.toList = false) (n2 : ¬ Two c) (n3 : ¬ Thr c) (n4 : ¬ Fit c) (n5 : ¬ 4 < c.ps.length) : cchk c = chkPs c.kd c.ps := (if_neg n1).trans ((if_neg n2).trans ((if_neg n3).trans ((if_neg n4).trans (if_neg n5))))
set_option maxRecDepth 100000 in
set_option maxHeartbeats 8000000 in
theorem ccheck_any (h : Hd) (v : Value) (ps : List Pt) (w : World) (hp : PsAt w v ps) (hm : Small ps.length) : Calls Tryz.prog 80 #[cv h v] w fun e w' => e = .returned (.int .i64 (cchk (h.with ps))) ∧ w.grownBy w' none := by
  obtain ⟨nm, su, kd, co, po, he, tr, tk⟩ := h
  have HP : Hid (PsAt w v ps) := hp
  obtain ⟨a, c, rfl⟩ := hp.form
  clear hp
  obtain ⟨C, hC⟩ : ∃ C, C = Hd.with ⟨nm, su, kd, co, po, he, tr, tk⟩ ps := ⟨_, rfl⟩
  rw [← hC]
  have E1 : nm = C.nm := by rw [hC]; rfl
  have E2 : su = C.su := by rw [hC]; rfl
  have E3 : kd = C.kd := by rw [hC]; rfl
  have E4 : co = C.co := by rw [hC]; rfl
  have E5 : po = C.po := by rw [hC]; rfl
  have E6 : he = C.he := by rw [hC]; rfl
  have E7 : tr = C.tr := by rw [hC]; rfl
  have E8 : tk = C.tk := by rw [hC]; rfl
  have E9 : ps = C.ps := by rw [hC]; rfl
  have HC : Hid (C = Hd.with ⟨nm, su, kd, co, po, he, tr, tk⟩ ps) := hC
  have H1 : Hid (nm = C.nm ∧ su = C.su ∧ kd = C.kd ∧ co = C.co ∧ po = C.po ∧ he = C.he ∧ tr = C.tr ∧ tk = C.tk ∧ ps = C.ps) := ⟨E1, E2, E3, E4, E5, E6, E7, E8, E9⟩
  obtain ⟨res, hres⟩ : ∃ res, cchk C = res := ⟨_, rfl⟩
  have HR : Hid (cchk C = res) := hres
  rw [hres]
  clear hC E1 E2 E3 E4 E5 E6 E7 E8 E9 hres
  unfold cv
  simp only
  go_enter Tryz.func80, Tryz.ntmps80
  go_wp2_with fail
  refine (is_any nm _).mono ?_
  rintro e w9 ⟨rfl, rfl⟩
  cases h1 : nameOk nm.data.toList with
  | false =>
    go_wp2
    go_ret
    exact ⟨ret_int (by rw [← HR.out]; exact (cchk_name (by rw [← H1.out.1]; exact h1)).symm), World.grownBy_alloc _ _ none⟩
  | true =>
    have n1 : Hid (¬ nameOk C.nm.data.toList = false) := by unfold Hid; rw [← H1.out.1, h1]; simp
    clear h1
    go_wp2_with fail
    refine (csuit_any su _).mono ?_
    rintro e w9 ⟨rfl, rfl⟩
    by_cases hs : 1 ≤ su ∧ su ≤ 6
    case neg =>
      rw [sB_no hs]
      have T : Hid (Two C) := Or.inl (by rw [← H1.out.2.1]; exact hs)
      clear hs
      go_wp2
      go_ret
      exact ⟨ret_int (by rw [← HR.out]; exact (cchk_two n1.out T.out).symm), World.grownBy_alloc _ _ none⟩
    rw [sB_yes hs]
    have HS : Hid (1 ≤ C.su ∧ C.su ≤ 6) := by unfold Hid; rw [← H1.out.2.1]; exact hs
    clear hs
    go_wp2_with fail
    refine (kword_any kd _).mono ?_
    rintro e w9 ⟨rfl, rfl⟩
    by_cases hk : 1 ≤ kd ∧ kd ≤ 3
    case neg =>
      have kn := kName_no hk
      have T : Hid (Two C) := Or.inr (by rw [← H1.out.2.2.1]; exact hk)
      clear hk
      go_wp2
      go_ret
      exact ⟨ret_int (by rw [← HR.out]; exact (cchk_two n1.out T.out).symm), World.grownBy_alloc _ _ none⟩
    have kn := kName_yes hk
    have n2 : Hid (¬ Two C) := by unfold Hid Two; simp only [not_or, Decidable.not_not]; exact ⟨HS.out, by rw [← H1.out.2.2.1]; exact hk⟩
    clear hk HS
    go_wp2_with fail
    refine (cwithin_any co 10 _).mono ?_
    rintro e w9 ⟨rfl, rfl⟩
    by_cases hx : 0 ≤ co ∧ co ≤ 10
    case neg =>
      rw [wI_no hx]
      have T : Hid (Thr C) := Or.inl (by rw [← H1.out.2.2.2.1]; exact hx)
      clear hx
      go_wp2
      go_ret
      exact ⟨ret_int (by rw [← HR.out]; exact (cchk_thr n1.out n2.out T.out).symm), World.grownBy_alloc _ _ none⟩
    rw [wI_yes hx]
    have Xco : Hid (0 ≤ C.co ∧ C.co ≤ 10) := by unfold Hid; rw [← H1.out.2.2.2.1]; exact hx
    clear hx
    go_wp2_with fail
    refine (cwithin_any po 99 _).mono ?_
    rintro e w9 ⟨rfl, rfl⟩
    by_cases hx : 0 ≤ po ∧ po ≤ 99
    case neg =>
      rw [wI_no hx]
      have T : Hid (Thr C) := Or.inr (Or.inl (by rw [← H1.out.2.2.2.2.1]; exact hx))
      clear hx
      go_wp2
      go_ret
      exact ⟨ret_int (by rw [← HR.out]; exact (cchk_thr n1.out n2.out T.out).symm), World.grownBy_alloc _ _ none⟩
    rw [wI_yes hx]
    have Xpo : Hid (0 ≤ C.po ∧ C.po ≤ 99) := by unfold Hid; rw [← H1.out.2.2.2.2.1]; exact hx
    clear hx
    go_wp2_with fail
    refine (cwithin_any he 99 _).mono ?_
    rintro e w9 ⟨rfl, rfl⟩
    by_cases hx : 0 ≤ he ∧ he ≤ 99
    case neg =>
      rw [wI_no hx]
      have T : Hid (Thr C) := Or.inr (Or.inr (by rw [← H1.out.2.2.2.2.2.1]; exact hx))
      clear hx
      go_wp2
      go_ret
      exact ⟨ret_int (by rw [← HR.out]; exact (cchk_thr n1.out n2.out T.out).symm), World.grownBy_alloc _ _ none⟩
    rw [wI_yes hx]
    have Xhe : Hid (0 ≤ C.he ∧ C.he ≤ 99) := by unfold Hid; rw [← H1.out.2.2.2.2.2.1]; exact hx
    clear hx
    have n3 : Hid (¬ Thr C) := by unfold Hid Thr; simp only [not_or, Decidable.not_not]; exact ⟨Xco.out, Xpo.out, Xhe.out⟩
    clear Xco Xpo Xhe
    go_wp2_with fail
    refine (force_any ⟨nm, su, kd, co, po, he, tr, tk⟩ _ _).mono ?_
    rintro e w1 ⟨rfl, g1⟩
    simp only
    have C1 : Hid (CAt w1 w.heap.size ⟨nm, su, kd, co, po, he, tr, tk⟩ (.slice a ps.length c)) := CAt.keep (alloc_at w (ccs ⟨nm, su, kd, co, po, he, tr, tk⟩ (.slice a ps.length c)) 88) g1
    have G1 : Hid (w.grownBy w1 none) := grown_trans (World.grownBy_alloc _ _ none) g1
    clear g1
    obtain ⟨c0, c1, c2, c3, c4, c5, c6, c7, c8⟩ := C1.out.cells
    simp only at c0 c1 c2 c3 c4 c5 c6 c7 c8
    have F : Hid (forceOk C = fOk kd po he) := by unfold Hid; rw [fOk_is, ← H1.out.2.2.1, ← H1.out.2.2.2.2.1, ← H1.out.2.2.2.2.2.1]
    cases hf : fOk kd po he with
    | false =>
      have T : Hid (Fit C) := Or.inl (F.out.trans hf)
      go_wp2
      go_ret
      exact ⟨ret_int (by rw [← HR.out]; exact (cchk_fit n1.out n2.out n3.out T.out).symm), G1.out⟩
    | true =>
      have F1 : Hid (¬ forceOk C = false) := by unfold Hid; rw [F.out, hf]; simp
      clear hf F
      go_wp2_with fail
      refine (tcheck_any tr _).mono ?_
      rintro e w9 ⟨rfl, h9⟩
      obtain rfl : w1 = w9 := h9.symm
      cases ht : tCheck tr with
      | false =>
        have T : Hid (Fit C) := Or.inr (Or.inl (by rw [← H1.out.2.2.2.2.2.2.1]; exact ht))
        go_wp2
        go_ret
        exact ⟨ret_int (by rw [← HR.out]; exact (cchk_fit n1.out n2.out n3.out T.out).symm), G1.out⟩
      | true =>
        have F2 : Hid (¬ tCheck C.tr = false) := by unfold Hid; rw [← H1.out.2.2.2.2.2.2.1, ht]; simp
        clear ht
        by_cases hk2 : kd = 2
        · cases htk : tk with
          | true =>
            have T : Hid (Fit C) := Or.inr (Or.inr ⟨by rw [← H1.out.2.2.1]; exact hk2, by rw [← H1.out.2.2.2.2.2.2.2.1]; exact htk⟩)
            rw [htk] at c7
            rw [hk2] at c2
            go_wp2
            go_ret
            exact ⟨ret_int (by rw [← HR.out]; exact (cchk_fit n1.out n2.out n3.out T.out).symm), G1.out⟩
          | false =>
            have n4 : Hid (¬ Fit C) := by
              unfold Hid Fit
              rintro (h | h | ⟨_, h⟩)
              · exact F1.out h
              · exact F2.out h
              · rw [← H1.out.2.2.2.2.2.2.2.1, htk] at h
                cases h
            rw [htk] at c7
            rw [hk2] at c2
            clear F1 F2
            by_cases hl : 4 < ps.length
            · have hl' : (4 : Int) < (ps.length : Int) := by omega
              have T : Hid (4 < C.ps.length) := by unfold Hid; rw [← H1.out.2.2.2.2.2.2.2.2]; exact hl
              clear hl
              go_wp2
              go_ret
              exact ⟨ret_int (by rw [← HR.out]; exact (cchk_long n1.out n2.out n3.out n4.out T.out).symm), G1.out⟩
            · have hl' : ¬ (4 : Int) < (ps.length : Int) := by omega
              have T : Hid (¬ 4 < C.ps.length) := by unfold Hid; rw [← H1.out.2.2.2.2.2.2.2.2]; exact hl
              clear hl
              go_wp2_with fail
              refine (checkParts_any ⟨nm, su, 2, co, po, he, tr, false⟩ _ ps _ (HP.out.keep G1.out) hm).mono ?_
              rintro e w3 ⟨rfl, g3⟩
              have E : chkPs 2 ps = res := by rw [← hk2, ← HR.out, cchk_parts n1.out n2.out n3.out n4.out T.out, ← H1.out.2.2.1, ← H1.out.2.2.2.2.2.2.2.2]
              simp only
              rw [E]
              clear E
              go_wp2
              go_ret
              exact ⟨rfl, grown_trans G1.out g3⟩
        · have k9 := beqi_no hk2
          have n4 : Hid (¬ Fit C) := by
            unfold Hid Fit
            rintro (h | h | ⟨h, _⟩)
            · exact F1.out h
            · exact F2.out h
            · rw [← H1.out.2.2.1] at h
              exact hk2 h
          clear F1 F2 hk2
          by_cases hl : 4 < ps.length
          · have hl' : (4 : Int) < (ps.length : Int) := by omega
            have T : Hid (4 < C.ps.length) := by unfold Hid; rw [← H1.out.2.2.2.2.2.2.2.2]; exact hl
            clear hl
            go_wp2
            go_ret
            exact ⟨ret_int (by rw [← HR.out]; exact (cchk_long n1.out n2.out n3.out n4.out T.out).symm), G1.out⟩
          · have hl' : ¬ (4 : Int) < (ps.length : Int) := by omega
            have T : Hid (¬ 4 < C.ps.length) := by unfold Hid; rw [← H1.out.2.2.2.2.2.2.2.2]; exact hl
            clear hl
            go_wp2_with fail
            refine (checkParts_any ⟨nm, su, kd, co, po, he, tr, tk⟩ _ ps _ (HP.out.keep G1.out) hm).mono ?_
            rintro e w3 ⟨rfl, g3⟩
            have E : chkPs kd ps = res := by rw [← HR.out, cchk_parts n1.out n2.out n3.out n4.out T.out, ← H1.out.2.2.1, ← H1.out.2.2.2.2.2.2.2.2]
            simp only
            rw [E]
            clear E
            go_wp2
            go_ret
            exact ⟨rfl, grown_trans G1.out g3⟩
end Go.Proofs.YtmemeloehgemcaaGreat
namespace Go.Proofs.YtmemeloehgemcaaGreat
open Go.RowKit

theorem CAt.keepR {w w' : World} {b : Nat} {h : Hd} {v : Value} {r : Option Nat} (k : CAt w b h v) (g : w.grownBy w' r) (hr : some b ≠ r) : CAt w' b h v := grown_keep g k hr
set_option maxRecDepth 100000 in
set_option maxHeartbeats 1000000 in
theorem ccopy_any (h : Hd) (v : Value) (ps : List Pt) (w : World) (hp : PsAt w v ps) (hb : ps.length * 40 ≤ 140737488355328) : Calls Tryz.prog 105 #[cv h v] w fun e w' => ∃ u, e = .returned (cv h u) ∧ POwn w' w.heap.size u ps ∧ w.grownBy w' none := by
  obtain ⟨i0, hi, hz0, hz1, hz2⟩ := info_of Tryz.info47
  obtain ⟨W2, hW2⟩ : ∃ W2, W2 = (w.alloc (.cells (ccs h v) 88)).alloc (.cells (ccs Hd.none (.slice none 0 0)) 88) := ⟨_, rfl⟩
  have G2 : w.grownBy W2 none := by rw [hW2]; exact grown_push (World.grownBy_alloc _ _ none) _
  have A2 : CAt W2 w.heap.size h v := by rw [hW2]; exact CAt.keep (alloc_at w _ _) (World.grownBy_alloc _ _ none)
  have Z2 : CAt W2 (w.heap.size + 1) Hd.none (.slice none 0 0) := by
    have := alloc_at (w.alloc (.cells (ccs h v) 88)) (ccs Hd.none (.slice none 0 0)) 88
    rw [World.size_alloc] at this
    rw [hW2]
    exact this
  have HA2 : Hid (CAt W2 w.heap.size h v) := A2
  have HZ2 : Hid (CAt W2 (w.heap.size + 1) Hd.none (.slice none 0 0)) := Z2
  have HG2 : Hid (w.grownBy W2 none) := G2
  have hs2 : w.heap.size + 2 ≤ W2.heap.size := by have := block_lt Z2; omega
  have HB : Hid (ps.length * 40 ≤ 140737488355328) := hb
  unfold ccs Hd.none at hW2
  clear G2 A2 Z2 hb
  rcases hp with ⟨rfl, rfl⟩ | ⟨ad, cap, rfl, hc, hcell⟩
  · unfold cv
    go_enter Tryz.func105, Tryz.ntmps105
    go_upto_region 1 with fail
    rw [← hW2]
    clear hW2
    obtain ⟨c0, c1, c2, c3, c4, c5, c6, c7, c8⟩ := HA2.out.cells
    have cf := fun i => HA2.out.free i
    obtain ⟨z0, z1, z2, z3, z4, z5, z6, z7, z8⟩ := HZ2.out.cells
    have zf := fun i => HZ2.out.free i
    simp only [Hd.none] at z0 z1 z2 z3 z4 z5 z6 z7 z8
    go_wp2_with fail
    refine bodyPost_ret (v := cv h (.slice none 0 0)) (by simp [results, Tryz.results105, go_sem, z0, z1, z2, z3, z4, z5, z6, z7, z8, cv]) rfl ⟨.slice none 0 0, rfl, POwn.nil _ _, ?_⟩
    exact grown_own (grown_own HG2.out (grown_set _ _ 8 _) (fun x e => by cases e; exact Nat.le_refl _)) (row_st9 _ (w.heap.size + 1) _ _ _ _ _ _ _ _ _) (fun x e => by cases e; omega)
  · have HS : Hid (∀ j u, (pcells ps)[j]? = some u → W2.cell? (ad.add j) = some u) := fun j u hu => HG2.out.cell (hcell j u hu) (by simp)
    clear hcell hc
    unfold cv
    go_enter Tryz.func105, Tryz.ntmps105
    go_upto_region 1 with fail
    rw [← hW2]
    clear hW2
    obtain ⟨c0, c1, c2, c3, c4, c5, c6, c7, c8⟩ := HA2.out.cells
    go_upto_region 2 with (at_builtin; refine wpList_append_own_at _ rfl (.const (.slice none 0 0)) (.tmp 4) 86 rfl W2.heap.size 47 i0 _ 8 40 Tryz.underlying86 hi hz0 hz1 hz2 rfl (by decide) _ 0 [] rfl (POwn.nil W2 _) ad ps.length cap (pcells ps) rfl (pcells_len ps) HS.out (pcells_one ps) (by have := HB.out; unfold maxLen; omega) (by rw [Nat.zero_add]; exact HB.out) (Nat.le_refl _) ?_; intro v5 w5 o5 g5 _ _; rw [Nat.zero_add, List.nil_append] at o5; have O5 : POwn w5 W2.heap.size v5 ps := o5; obtain ⟨a5, k5, rfl⟩ := O5.at.form; have HO5 : Hid (POwn w5 W2.heap.size (.slice a5 ps.length k5) ps) := O5; have A5 := HA2.out.keep g5; have Z5 := HZ2.out.keep g5; have af := fun i => A5.free i; have a8 := A5.cells.2.2.2.2.2.2.2.2; have HA5 : Hid (CAt w5 w.heap.size h (.slice (some ad) ps.length cap)) := A5; have HZ5 : Hid (CAt w5 (w.heap.size + 1) Hd.none (.slice none 0 0)) := Z5; have HG5 : Hid (w.grownBy w5 none) := grown_trans HG2.out g5; clear O5 A5 Z5 o5 c0 c1 c2 c3 c4 c5 c6 c7 c8)
    have A6 : CAt (w5.setCell ⟨w.heap.size, 8, none⟩ (.slice a5 ps.length k5)) w.heap.size h (.slice a5 ps.length k5) := block_set HA5.out 8 _
    have Z6 : CAt (w5.setCell ⟨w.heap.size, 8, none⟩ (.slice a5 ps.length k5)) (w.heap.size + 1) Hd.none (.slice none 0 0) := HZ5.out.keepR (grown_set _ _ _ _) (by simp)
    have HO6 : Hid (POwn (w5.setCell ⟨w.heap.size, 8, none⟩ (.slice a5 ps.length k5)) W2.heap.size (.slice a5 ps.length k5) ps) := HO5.out.keep (grown_set _ _ _ _) (fun x e => by cases e; omega)
    have HG6 : Hid (w.grownBy (w5.setCell ⟨w.heap.size, 8, none⟩ (.slice a5 ps.length k5)) none) := grown_own HG5.out (grown_set _ _ _ _) (fun x e => by cases e; exact Nat.le_refl _)
    clear HA5 HZ5 HO5 HG5 af a8
    obtain ⟨W6, hW6⟩ : ∃ W6, W6 = w5.setCell ⟨w.heap.size, 8, none⟩ (.slice a5 ps.length k5) := ⟨_, rfl⟩
    rw [← hW6] at A6 Z6 HO6 HG6 ⊢
    clear hW6
    obtain ⟨c0, c1, c2, c3, c4, c5, c6, c7, c8⟩ := A6.cells
    obtain ⟨z0, z1, z2, z3, z4, z5, z6, z7, z8⟩ := Z6.cells
    have zf := fun i => Z6.free i
    simp only [Hd.none] at z0 z1 z2 z3 z4 z5 z6 z7 z8
    have HF : Hid (POwn (((((((((W6.setCell ⟨w.heap.size + 1, 0, none⟩ (.string h.nm)).setCell ⟨w.heap.size + 1, 1, none⟩ (.int .u8 h.su)).setCell ⟨w.heap.size + 1, 2, none⟩ (.int .u8 h.kd)).setCell ⟨w.heap.size + 1, 3, none⟩ (.int .i64 h.co)).setCell ⟨w.heap.size + 1, 4, none⟩ (.int .i64 h.po)).setCell ⟨w.heap.size + 1, 5, none⟩ (.int .i64 h.he)).setCell ⟨w.heap.size + 1, 6, none⟩ (.int .u16 h.tr)).setCell ⟨w.heap.size + 1, 7, none⟩ (.bool h.tk)).setCell ⟨w.heap.size + 1, 8, none⟩ (.slice a5 ps.length k5)) w.heap.size (.slice a5 ps.length k5) ps) := (HO6.out.keep (row_st9 _ (w.heap.size + 1) _ _ _ _ _ _ _ _ _) (fun x e => by cases e; omega)).big (by omega)
    clear A6 Z6 HO6
    go_wp2
    refine bodyPost_ret (v := cv h (.slice a5 ps.length k5)) (by simp [results, Tryz.results105, go_sem, z0, z1, z2, z3, z4, z5, z6, z7, z8, cv]) rfl ⟨.slice a5 ps.length k5, rfl, HF.out, ?_⟩
    exact grown_own HG6.out (row_st9 _ (w.heap.size + 1) _ _ _ _ _ _ _ _ _) (fun x e => by cases e; omega)
end Go.Proofs.YtmemeloehgemcaaGreat
namespace Go.Proofs.YtmemeloehgemcaaGreat
open Go.RowKit

/-- A mark's four fields. -/
structure Mk where
  mi : Int
  nm : ByteArray
  po : Int
  he : Int
def Mk.none : Mk := ⟨0, ⟨#[]⟩, 0, 0⟩
def mvs (m : Mk) : List Value := [.int .u8 m.mi, .string m.nm, .int .i64 m.po, .int .i64 m.he]
def mv (m : Mk) : Value := .agg #[.int .u8 m.mi, .string m.nm, .int .i64 m.po, .int .i64 m.he]
def mcells : List Mk → List Value
  | [] => []
  | m :: r => mvs m ++ mcells r
theorem mcells_len : ∀ ms : List Mk, (mcells ms).length = ms.length * 4
  | [] => rfl
  | m :: r => by simp only [mcells, List.length_append, mcells_len r, List.length_cons]; simp only [mvs, List.length_cons, List.length_nil]; omega
theorem mcells_at : ∀ (ms : List Mk) (j : Nat) (m : Mk), ms[j]? = some m → ∀ k, k < 4 → (mcells ms)[j * 4 + k]? = (mvs m)[k]?
  | [], j, m, h, k, _ => by simp at h
  | q :: r, 0, m, h, k, hk => by
    obtain rfl : q = m := by simpa using h
    simp only [mcells, Nat.zero_mul, Nat.zero_add]
    exact List.getElem?_append_left (by simpa [mvs] using hk)
  | q :: r, j + 1, m, h, k, hk => by
    have ih := mcells_at r j m (by simpa using h) k hk
    simp only [mcells]
    rw [List.getElem?_append_right (by simp [mvs]; omega), ← ih]
    congr 1
    simp [mvs]
    omega
/-- A card of a book: its head, the slice of its parts, the parts. -/
structure Ent where
  h : Hd
  v : Value
  ps : List Pt
def Ent.cd (e : Ent) : Cd := e.h.with e.ps
def cvs (h : Hd) (v : Value) : List Value := [.string h.nm, .int .u8 h.su, .int .u8 h.kd, .int .i64 h.co, .int .i64 h.po, .int .i64 h.he, .int .u16 h.tr, .bool h.tk, v]
def ecells : List Ent → List Value
  | [] => []
  | e :: r => cvs e.h e.v ++ ecells r
theorem ecells_len : ∀ es : List Ent, (ecells es).length = es.length * 9
  | [] => rfl
  | e :: r => by simp only [ecells, List.length_append, ecells_len r, List.length_cons]; simp only [cvs, List.length_cons, List.length_nil]; omega
theorem ecells_app : ∀ a b : List Ent, ecells (a ++ b) = ecells a ++ ecells b
  | [], b => rfl
  | e :: r, b => by simp only [List.cons_append, ecells, ecells_app r b, List.append_assoc]
theorem ecells_at : ∀ (es : List Ent) (j : Nat) (e : Ent), es[j]? = some e → ∀ k, k < 9 → (ecells es)[j * 9 + k]? = (cvs e.h e.v)[k]?
  | [], j, e, h, k, _ => by simp at h
  | q :: r, 0, e, h, k, hk => by
    obtain rfl : q = e := by simpa using h
    simp only [ecells, Nat.zero_mul, Nat.zero_add]
    exact List.getElem?_append_left (by simpa [cvs] using hk)
  | q :: r, j + 1, e, h, k, hk => by
    have ih := ecells_at r j e (by simpa using h) k hk
    simp only [ecells]
    rw [List.getElem?_append_right (by simp [cvs]; omega), ← ih]
    congr 1
    simp [cvs]
    omega
/-- What a book holds beside its cards. -/
structure Pl where
  shut : Bool
  nms : List ByteArray
  mks : List Mk
def plc (n : Nat) (p : Pl) : List Value := .bool true :: .bool p.shut :: .int .i64 (n : Int) :: (p.nms.map Value.string ++ mcells p.mks)
def bcells (es : List Ent) (junk : List Value) (p : Pl) : List Value := ecells es ++ (junk ++ plc es.length p)
structure BkJ (w : World) (b : Nat) (es : List Ent) (junk : List Value) (p : Pl) : Prop where
  lies : w.heap[b]? = some (.cells (bcells es junk p).toArray 97 (0, 0))
  fit : es.length * 9 + junk.length = 576
  nine : p.nms.length = 9
  five : p.mks.length = 5
def BkIn (w : World) (b : Nat) (es : List Ent) (p : Pl) : Prop := ∃ junk, BkJ w b es junk p
theorem BkJ.cell {w : World} {b : Nat} {es : List Ent} {junk : List Value} {p : Pl} (h : BkJ w b es junk p) (i : Nat) : w.cell? ⟨b, i, none⟩ = (bcells es junk p)[i]? := by
  rw [block_cell h.lies i]; simp
theorem BkJ.tail {w : World} {b : Nat} {es : List Ent} {junk : List Value} {p : Pl} (h : BkJ w b es junk p) (i : Nat) : w.cell? ⟨b, 576 + i, none⟩ = (plc es.length p)[i]? := by
  rw [h.cell]
  unfold bcells
  rw [List.getElem?_append_right (by rw [ecells_len]; have := h.fit; omega), List.getElem?_append_right (by rw [ecells_len]; have := h.fit; omega)]
  congr 1
  rw [ecells_len]
  have := h.fit
  omega
/-- The nine cells of one card. -/
structure C9 (w : World) (g o : Nat) (h : Hd) (v : Value) : Prop where
  c0 : w.cell? ⟨g, o, none⟩ = some (.string h.nm)
  c1 : w.cell? ⟨g, o + 1, none⟩ = some (.int .u8 h.su)
  c2 : w.cell? ⟨g, o + 2, none⟩ = some (.int .u8 h.kd)
  c3 : w.cell? ⟨g, o + 3, none⟩ = some (.int .i64 h.co)
  c4 : w.cell? ⟨g, o + 4, none⟩ = some (.int .i64 h.po)
  c5 : w.cell? ⟨g, o + 5, none⟩ = some (.int .i64 h.he)
  c6 : w.cell? ⟨g, o + 6, none⟩ = some (.int .u16 h.tr)
  c7 : w.cell? ⟨g, o + 7, none⟩ = some (.bool h.tk)
  c8 : w.cell? ⟨g, o + 8, none⟩ = some v
theorem C9.keep {w w' : World} {g o : Nat} {h : Hd} {v : Value} (k : C9 w g o h v) (hg : w.grownBy w' none) : C9 w' g o h v :=
  ⟨hg.cell k.c0 (by simp), hg.cell k.c1 (by simp), hg.cell k.c2 (by simp), hg.cell k.c3 (by simp), hg.cell k.c4 (by simp), hg.cell k.c5 (by simp), hg.cell k.c6 (by simp), hg.cell k.c7 (by simp), hg.cell k.c8 (by simp)⟩
/-- A row of cards in memory. -/
def EsAt (w : World) (g o : Nat) (es : List Ent) : Prop := ∀ (j : Nat) e, es[j]? = some e → C9 w g (o + j * 9) e.h e.v
theorem EsAt.keep {w w' : World} {g o : Nat} {es : List Ent} (h : EsAt w g o es) (k : w.grownBy w' none) : EsAt w' g o es := fun j e he => (h j e he).keep k
theorem BkJ.row {w : World} {b : Nat} {es : List Ent} {junk : List Value} {p : Pl} (h : BkJ w b es junk p) : EsAt w b 0 es := fun j e he => by
  have hj : j < es.length := (List.getElem?_eq_some_iff.1 he).1
  have at_ : ∀ k u, k < 9 → (cvs e.h e.v)[k]? = some u → w.cell? ⟨b, 0 + j * 9 + k, none⟩ = some u := fun k u hk hu => by
    rw [Nat.zero_add, h.cell]
    unfold bcells
    rw [List.getElem?_append_left (by rw [ecells_len]; omega), ecells_at es j e he k hk]
    exact hu
  exact ⟨at_ 0 _ (by omega) rfl, at_ 1 _ (by omega) rfl, at_ 2 _ (by omega) rfl, at_ 3 _ (by omega) rfl, at_ 4 _ (by omega) rfl, at_ 5 _ (by omega) rfl, at_ 6 _ (by omega) rfl, at_ 7 _ (by omega) rfl, at_ 8 _ (by omega) rfl⟩
/-- What the small fields read. -/
structure Flags (w : World) (b : Nat) (n : Nat) (p : Pl) : Prop where
  made : w.cell? ⟨b, 576, none⟩ = some (.bool true)
  shut : w.cell? ⟨b, 577, none⟩ = some (.bool p.shut)
  count : w.cell? ⟨b, 578, none⟩ = some (.int .i64 (n : Int))
theorem BkJ.flags {w : World} {b : Nat} {es : List Ent} {junk : List Value} {p : Pl} (h : BkJ w b es junk p) : Flags w b es.length p :=
  ⟨h.tail 0, h.tail 1, h.tail 2⟩
theorem BkJ.name {w : World} {b : Nat} {es : List Ent} {junk : List Value} {p : Pl} (h : BkJ w b es junk p) {t : Nat} {s : ByteArray} (ht : p.nms[t]? = some s) : w.cell? ⟨b, 579 + t, none⟩ = some (.string s) := by
  have hl : t < p.nms.length := (List.getElem?_eq_some_iff.1 ht).1
  have := h.tail (3 + t)
  rw [show 576 + (3 + t) = 579 + t by omega] at this
  rw [this]
  unfold plc
  rw [show 3 + t = t + 1 + 1 + 1 by omega, List.getElem?_cons_succ, List.getElem?_cons_succ, List.getElem?_cons_succ, List.getElem?_append_left (by simpa using hl), List.getElem?_map, ht]
  rfl
/-- The four cells of one mark. -/
structure M4 (w : World) (g o : Nat) (m : Mk) : Prop where
  c0 : w.cell? ⟨g, o, none⟩ = some (.int .u8 m.mi)
  c1 : w.cell? ⟨g, o + 1, none⟩ = some (.string m.nm)
  c2 : w.cell? ⟨g, o + 2, none⟩ = some (.int .i64 m.po)
  c3 : w.cell? ⟨g, o + 3, none⟩ = some (.int .i64 m.he)
theorem M4.keep {w w' : World} {g o : Nat} {m : Mk} (k : M4 w g o m) (hg : w.grownBy w' none) : M4 w' g o m :=
  ⟨hg.cell k.c0 (by simp), hg.cell k.c1 (by simp), hg.cell k.c2 (by simp), hg.cell k.c3 (by simp)⟩
theorem BkJ.mark {w : World} {b : Nat} {es : List Ent} {junk : List Value} {p : Pl} (h : BkJ w b es junk p) {t : Nat} {m : Mk} (ht : p.mks[t]? = some m) : M4 w b (588 + t * 4) m := by
  have hl : t < p.mks.length := (List.getElem?_eq_some_iff.1 ht).1
  have at_ : ∀ k u, k < 4 → (mvs m)[k]? = some u → w.cell? ⟨b, 588 + t * 4 + k, none⟩ = some u := fun k u hk hu => by
    have := h.tail (12 + (t * 4 + k))
    rw [show 576 + (12 + (t * 4 + k)) = 588 + t * 4 + k by omega] at this
    rw [this]
    unfold plc
    rw [show 12 + (t * 4 + k) = 9 + (t * 4 + k) + 1 + 1 + 1 by omega, List.getElem?_cons_succ, List.getElem?_cons_succ, List.getElem?_cons_succ, List.getElem?_append_right (by simp [h.nine]), List.length_map, h.nine]
    rw [show 9 + (t * 4 + k) - 9 = t * 4 + k by omega, mcells_at _ _ _ ht k hk]
    exact hu
  exact ⟨at_ 0 _ (by omega) rfl, at_ 1 _ (by omega) rfl, at_ 2 _ (by omega) rfl, at_ 3 _ (by omega) rfl⟩
theorem BkJ.free {w : World} {b : Nat} {es : List Ent} {junk : List Value} {p : Pl} (h : BkJ w b es junk p) (i : Nat) : w.frozen? ⟨b, i, none⟩ = false := block_free h.lies i
theorem BkJ.keepR {w w' : World} {b : Nat} {es : List Ent} {junk : List Value} {p : Pl} {r : Option Nat} (h : BkJ w b es junk p) (g : w.grownBy w' r) (hr : some b ≠ r) : BkJ w' b es junk p := ⟨grown_keep g h.lies hr, h.fit, h.nine, h.five⟩
theorem BkJ.keep {w w' : World} {b : Nat} {es : List Ent} {junk : List Value} {p : Pl} (h : BkJ w b es junk p) (g : w.grownBy w' none) : BkJ w' b es junk p := h.keepR g (by simp)
theorem BkIn.keepR {w w' : World} {b : Nat} {es : List Ent} {p : Pl} {r : Option Nat} (h : BkIn w b es p) (g : w.grownBy w' r) (hr : some b ≠ r) : BkIn w' b es p := h.imp fun _ k => k.keepR g hr
theorem BkIn.keep {w w' : World} {b : Nat} {es : List Ent} {p : Pl} (h : BkIn w b es p) (g : w.grownBy w' none) : BkIn w' b es p := h.keepR g (by simp)
theorem BkIn.len {w : World} {b : Nat} {es : List Ent} {p : Pl} (h : BkIn w b es p) : es.length ≤ 64 := by obtain ⟨j, h⟩ := h; have := h.fit; omega
theorem BkIn.row {w : World} {b : Nat} {es : List Ent} {p : Pl} (h : BkIn w b es p) : EsAt w b 0 es := by obtain ⟨j, h⟩ := h; exact h.row
theorem BkIn.flags {w : World} {b : Nat} {es : List Ent} {p : Pl} (h : BkIn w b es p) : Flags w b es.length p := by obtain ⟨j, h⟩ := h; exact h.flags

/-- The parts of a card lie where they may. -/
def PsOk (ok : Nat → Prop) (w : World) (v : Value) (ps : List Pt) : Prop := PsAt w v ps ∧ ∀ g o n c, v = .slice (some ⟨g, o, none⟩) n c → 0 < n → ok g
theorem PsOk.keep {ok : Nat → Prop} {w w' : World} {v : Value} {ps : List Pt} (h : PsOk ok w v ps) (g : w.grownBy w' none) : PsOk ok w' v ps := ⟨h.1.keep g, h.2⟩
theorem PsOk.mono {ok ok' : Nat → Prop} {w : World} {v : Value} {ps : List Pt} (h : PsOk ok w v ps) (k : ∀ i, ok i → ok' i) : PsOk ok' w v ps := ⟨h.1, fun g o n c e hn => k g (h.2 g o n c e hn)⟩
theorem PsOk.keepR {ok : Nat → Prop} {w w' : World} {v : Value} {ps : List Pt} {r : Option Nat} (h : PsOk ok w v ps) (g : w.grownBy w' r) (hr : ∀ k, ok k → some k ≠ r) : PsOk ok w' v ps := by
  refine ⟨?_, h.2⟩
  by_cases h0 : 0 < ps.length
  · obtain ⟨b, o, cap, ev, _⟩ := h.1.part h0
    have hb := h.2 b o _ _ ev h0
    rcases h.1 with ⟨_, hn⟩ | ⟨ad, cap', e, hc, k⟩
    · rw [hn] at h0; simp at h0
    · rw [ev] at e
      injection e with e1 _ _
      injection e1 with e1
      subst e1
      refine Or.inr ⟨_, cap', by rw [ev]; congr, hc, fun j u hu => g.cell (k j u hu) (by rw [add_plain]; exact hr b hb)⟩
  · obtain rfl : ps = [] := List.eq_nil_of_length_eq_zero (by omega)
    obtain ⟨a, cap, rfl⟩ := h.1.form
    exact PsAt.nil h.1 w'
def Good (ok : Nat → Prop) (w : World) (es : List Ent) : Prop := ∀ e ∈ es, PsOk ok w e.v e.ps
theorem Good.keep {ok : Nat → Prop} {w w' : World} {es : List Ent} (h : Good ok w es) (g : w.grownBy w' none) : Good ok w' es := fun e he => (h e he).keep g
theorem Good.keepR {ok : Nat → Prop} {w w' : World} {es : List Ent} {r : Option Nat} (h : Good ok w es) (g : w.grownBy w' r) (hr : ∀ k, ok k → some k ≠ r) : Good ok w' es := fun e he => (h e he).keepR g hr
theorem Good.mono {ok ok' : Nat → Prop} {w : World} {es : List Ent} (h : Good ok w es) (k : ∀ i, ok i → ok' i) : Good ok' w es := fun e he => (h e he).mono k
end Go.Proofs.YtmemeloehgemcaaGreat
namespace Go.Proofs.YtmemeloehgemcaaGreat
open Go.RowKit

def plNew : Pl := ⟨false, List.replicate 9 ⟨#[]⟩, List.replicate 5 Mk.none⟩
def noCard : List Value := cvs Hd.none (.slice none 0 0)
def noCards : Nat → List Value
  | 0 => []
  | n + 1 => noCard ++ noCards n
def plA : Array Value := (plc 0 plNew).toArray
def bkA : Array Value := (bcells [] (noCards 64) plNew).toArray
theorem run_buildPl (w : World) : (Instr.build 95 #[(0, .bool true)]).run Tryz.prog w = .ok (.agg plA) w := by kernel_rfl
theorem run_buildBk (w : World) : (Instr.build 97 #[(1, .agg plA)]).run Tryz.prog w = .ok (.agg bkA) w := by kernel_rfl
theorem run_boxBk (cs : Array Value) (w : World) : (Instr.box 97 (.agg cs)).run Tryz.prog w = .ok (.pointer (some ⟨w.heap.size, 0, none⟩)) (w.alloc (.cells cs 97)) := rfl
set_option maxRecDepth 100000 in
theorem new_any (w : World) : Calls Tryz.prog 22 #[] w fun e w' => e = .returned (.pointer (some ⟨w.heap.size, 0, none⟩)) ∧ BkIn w' w.heap.size [] plNew ∧ w.grownBy w' none ∧ w'.heap.size = w.heap.size + 1 := by
  go_enter Tryz.func22, Tryz.ntmps22
  go_wp2_with (first | (refine wpl_build ?g 95 #[(0, .const (.bool true))] ?ho #[(0, .bool true)] ?hv (.agg plA) (run_buildPl _) ?_; (case g => rfl); (case ho => rfl); (case hv => simp [Act.eval])) | (refine wpl_build ?g 97 #[(1, .tmp 1)] ?ho #[(1, .agg plA)] ?hv (.agg bkA) (run_buildBk _) ?_; (case g => rfl); (case ho => rfl); (case hv => simp [Act.eval])) | (refine wpl_box ?g 97 (.tmp 2) ?ho (.agg bkA) ?hv _ (run_boxBk bkA _) ?_; (case g => rfl); (case ho => rfl); (case hv => simp [Act.eval])) | fail)
  go_ret
  refine ⟨rfl, ⟨noCards 64, ?_, rfl, rfl, rfl⟩, World.grownBy_alloc w _ none, by simp⟩
  exact alloc_at w bkA 97

/-- What is no book: nil, or one that nobody made. -/
def NoBk (w : World) (v : Value) : Prop := v = .pointer none ∨ ∃ b, v = .pointer (some ⟨b, 0, none⟩) ∧ w.cell? ⟨b, 576, none⟩ = some (.bool false)
theorem NoBk.keep {w w' : World} {v : Value} (h : NoBk w v) (g : w.grownBy w' none) : NoBk w' v := by
  rcases h with h | ⟨b, e, h⟩
  · exact Or.inl h
  · exact Or.inr ⟨b, e, g.cell h (by simp)⟩
theorem isBook_yes (b : Nat) (n : Nat) (p : Pl) (w : World) (F : Flags w b n p) : Calls Tryz.prog 60 #[.pointer (some ⟨b, 0, none⟩)] w fun e w' => e = .returned (.bool true) ∧ w' = w := by
  have c := F.made
  go_enter Tryz.func60, Tryz.ntmps60
  go_wp2
  go_ret
  exact ⟨rfl, rfl⟩
theorem isBook_no (v : Value) (w : World) (h : NoBk w v) : Calls Tryz.prog 60 #[v] w fun e w' => e = .returned (.bool false) ∧ w' = w := by
  rcases h with rfl | ⟨b, rfl, c⟩
  · go_enter Tryz.func60, Tryz.ntmps60
    go_wp2
    go_ret
    exact ⟨rfl, rfl⟩
  · go_enter Tryz.func60, Tryz.ntmps60
    go_wp2
    go_ret
    exact ⟨rfl, rfl⟩
theorem refusal_yes (b : Nat) (n : Nat) (p : Pl) (w : World) (F : Flags w b n p) : Calls Tryz.prog 79 #[.pointer (some ⟨b, 0, none⟩)] w fun e w' => e = .returned (.int .i64 (if p.shut then 7 else 0)) ∧ w' = w := by
  have c := F.shut
  have HF : Hid (Flags w b n p) := F
  cases hs : p.shut
  all_goals
    rw [hs] at c
    go_enter Tryz.func79, Tryz.ntmps79
    go_wp2_with (first | (go_at_call 60; refine (isBook_yes b n p _ HF.out).mono ?_; rintro e w1 ⟨rfl, h1⟩; obtain rfl : w = w1 := h1.symm) | fail)
    go_ret
    exact ⟨rfl, rfl⟩
theorem refusal_no (v : Value) (w : World) (h : NoBk w v) : Calls Tryz.prog 79 #[v] w fun e w' => e = .returned (.int .i64 1) ∧ w' = w := by
  go_enter Tryz.func79, Tryz.ntmps79
  go_wp2_with (first | (go_at_call 60; refine (isBook_no _ _ h).mono ?_; rintro e w1 ⟨rfl, h1⟩; obtain rfl : w = w1 := h1.symm) | fail)
  go_ret
  exact ⟨rfl, rfl⟩
theorem list_yes (b : Nat) (n : Nat) (hn : n ≤ 64) (p : Pl) (w : World) (F : Flags w b n p) : Calls Tryz.prog 95 #[.pointer (some ⟨b, 0, none⟩)] w fun e w' => e = .returned (.slice (some ⟨b, 0, none⟩) n 64) ∧ w.grownBy w' none ∧ w'.heap.size = w.heap.size := by
  have c := F.count
  have HF : Hid (Flags w b n p) := F
  have h0 : (0 : Int) ≤ (n : Int) := by omega
  have h1 : (n : Int) ≤ 64 := by omega
  go_enter Tryz.func95, Tryz.ntmps95
  go_wp2_with (first | (go_at_call 60; refine (isBook_yes b n p _ HF.out).mono ?_; rintro e w1 ⟨rfl, h1⟩; obtain rfl : w = w1 := h1.symm) | fail)
  go_quiet (fail)
  go_wp2
  go_ret
  exact ⟨rfl, grown_drewN _ _ _, rfl⟩
theorem list_no' (v : Value) (w : World) (h : NoBk w v) : Calls Tryz.prog 95 #[v] w fun e w' => e = .returned (.slice none 0 0) ∧ w' = w := by
  go_enter Tryz.func95, Tryz.ntmps95
  go_wp2_with (first | (go_at_call 60; refine (isBook_no _ _ h).mono ?_; rintro e w1 ⟨rfl, h1⟩; obtain rfl : w = w1 := h1.symm) | fail)
  go_ret
  exact ⟨rfl, rfl⟩
theorem sealed_yes (b : Nat) (n : Nat) (p : Pl) (w : World) (F : Flags w b n p) : Calls Tryz.prog 48 #[.pointer (some ⟨b, 0, none⟩)] w fun e w' => e = .returned (.bool p.shut) ∧ w' = w := by
  have c := F.shut
  have HF : Hid (Flags w b n p) := F
  go_enter Tryz.func48, Tryz.ntmps48
  go_wp2_with (first | (go_at_call 60; refine (isBook_yes b n p _ HF.out).mono ?_; rintro e w1 ⟨rfl, h1⟩; obtain rfl : w = w1 := h1.symm) | fail)
  go_ret
  exact ⟨rfl, rfl⟩
theorem sealed_no (v : Value) (w : World) (h : NoBk w v) : Calls Tryz.prog 48 #[v] w fun e w' => e = .returned (.bool false) ∧ w' = w := by
  go_enter Tryz.func48, Tryz.ntmps48
  go_wp2_with (first | (go_at_call 60; refine (isBook_no _ _ h).mono ?_; rintro e w1 ⟨rfl, h1⟩; obtain rfl : w = w1 := h1.symm) | fail)
  go_ret
  exact ⟨rfl, rfl⟩
theorem len_yes (b : Nat) (n : Nat) (hn : n ≤ 64) (p : Pl) (w : World) (F : Flags w b n p) : Calls Tryz.prog 166 #[.pointer (some ⟨b, 0, none⟩)] w fun e w' => e = .returned (.int .i64 n) ∧ w.grownBy w' none ∧ w'.heap.size = w.heap.size := by
  go_enter Tryz.func166, Tryz.ntmps166
  go_wp2_with (first | (go_at_call 95; refine (list_yes b n hn p _ F).mono ?_; rintro e w1 ⟨rfl, g1, s1⟩) | fail)
  go_ret
  exact ⟨rfl, g1, s1⟩
theorem len_no (v : Value) (w : World) (h : NoBk w v) : Calls Tryz.prog 166 #[v] w fun e w' => e = .returned (.int .i64 0) ∧ w' = w := by
  go_enter Tryz.func166, Tryz.ntmps166
  go_wp2_with (first | (go_at_call 95; refine (list_no' _ _ h).mono ?_; rintro e w1 ⟨rfl, h1⟩; obtain rfl : w = w1 := h1.symm) | fail)
  go_ret
  exact ⟨rfl, rfl⟩
end Go.Proofs.YtmemeloehgemcaaGreat
