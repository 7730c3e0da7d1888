/-
  card.Check of every card, and what it asks: isSuit, kindWord, within, forceFits, trait.Check, mayHave, checkParts.
  card.Check of every card.
-/
import Derived.Test.YthfjgpjcepmnmaaGreatS4
import Derived.Test.YthfjgpjcepmnmaaGreatS0
namespace Go.Proofs.YthfjgpjcepmnmaaGreat
open Go.RowKit

def sB (k : Int) : Bool := decide (1 ≤ k) && decide (k ≤ 6)
def wI (n m : Int) : Bool := decide (0 ≤ n) && decide (n ≤ m)
def kName (k : Int) : ByteArray := if k = 1 then ⟨#[117, 110, 105, 116]⟩ else if k = 2 then ⟨#[115, 112, 101, 108, 108]⟩ else if k = 3 then ⟨#[114, 101, 108, 105, 99]⟩ else ⟨#[]⟩
theorem csuit_any (k : Int) (w : World) : Calls Tryz.prog 184 #[.int .u8 k] w fun e w' => e = .returned (.bool (sB k)) ∧ w' = w := by
  by_cases h : 1 ≤ k
  · have h' : (1 : Int) ≤ k := h
    have e : sB k = decide (k ≤ 6) := by simp [sB, h]
    rw [e]
    clear e
    go_enter Tryz.func184, Tryz.ntmps184
    go_wp2
    go_ret
    exact ⟨rfl, rfl⟩
  · have e : sB k = false := by simp [sB, h]
    rw [e]
    clear e
    go_enter Tryz.func184, Tryz.ntmps184
    go_wp2
    go_ret
    exact ⟨rfl, rfl⟩
theorem cwithin_any (n m : Int) (w : World) : Calls Tryz.prog 186 #[.int .i64 n, .int .i64 m] w fun e w' => e = .returned (.bool (wI n m)) ∧ w' = w := by
  by_cases h : 0 ≤ n
  · have e : wI n m = decide (n ≤ m) := by simp [wI, h]
    rw [e]
    clear e
    go_enter Tryz.func186, Tryz.ntmps186
    go_wp2
    go_ret
    exact ⟨rfl, rfl⟩
  · have e : wI n m = false := by simp [wI, h]
    rw [e]
    clear e
    go_enter Tryz.func186, Tryz.ntmps186
    go_wp2
    go_ret
    exact ⟨rfl, rfl⟩
theorem kword_any (k : Int) (w : World) : Calls Tryz.prog 185 #[.int .u8 k] w fun e w' => e = .returned (.string (kName k)) ∧ w' = w := by
  by_cases h1 : k = 1
  · subst h1
    go_enter Tryz.func185, Tryz.ntmps185
    go_wp2
    go_ret
    exact ⟨rfl, rfl⟩
  by_cases h2 : k = 2
  · subst h2
    go_enter Tryz.func185, Tryz.ntmps185
    go_wp2
    go_ret
    exact ⟨rfl, rfl⟩
  by_cases h3 : k = 3
  · subst h3
    go_enter Tryz.func185, Tryz.ntmps185
    go_wp2
    go_ret
    exact ⟨rfl, rfl⟩
  have e : kName k = ⟨#[]⟩ := by simp [kName, h1, h2, h3]
  have k1 := beqi_no h1
  have k2 := beqi_no h2
  have k3 := beqi_no h3
  rw [e]
  clear e h1 h2 h3
  go_enter Tryz.func185, Tryz.ntmps185
  go_wp2
  go_ret
  exact ⟨rfl, rfl⟩
theorem tcheck_any (s : Int) (w : World) : Calls Tryz.prog 188 #[.int .u16 s] w fun e w' => e = .returned (.bool (tCheck s)) ∧ w' = w := by
  unfold tCheck
  go_enter Tryz.func188, Tryz.ntmps188
  go_wp2
  go_ret
  exact ⟨rfl, rfl⟩
theorem mayH_any (kd wn : Int) (w : World) : Calls Tryz.prog 252 #[.int .u8 kd, .int .u8 wn] w fun e w' => e = .returned (.bool (mayH kd wn)) ∧ w' = w := by
  by_cases h2 : kd = 2
  · subst h2
    have e : mayH 2 wn = (wn == 1) := by simp [mayH]; by_cases h : wn = 1 <;> simp [h]
    rw [e]
    clear e
    go_enter Tryz.func252, Tryz.ntmps252
    go_wp2
    go_ret
    exact ⟨rfl, rfl⟩
  by_cases h3 : kd = 3
  · subst h3
    have e : mayH 3 wn = (wn != 4) := by simp [mayH]; by_cases h : wn = 4 <;> simp [h]
    rw [e]
    clear e h2
    go_enter Tryz.func252, Tryz.ntmps252
    go_wp2
    go_ret
    exact ⟨rfl, rfl⟩
  have e : mayH kd wn = true := by simp [mayH, h2, h3]
  have k2 := beqi_no h2
  have k3 := beqi_no h3
  rw [e]
  clear e h2 h3
  go_enter Tryz.func252, Tryz.ntmps252
  go_wp2
  go_ret
  exact ⟨rfl, rfl⟩
def Hd.with (h : Hd) (ps : List Pt) : Cd := ⟨h.nm, h.su, h.kd, h.co, h.po, h.he, h.tr, h.tk, ps⟩
def Cd.hd (c : Cd) : Hd := ⟨c.nm, c.su, c.kd, c.co, c.po, c.he, c.tr, c.tk⟩
def fOk (kd po he : Int) : Bool := if kd = 1 then he != 0 else (po == 0) && (he == 0)
theorem fOk_is (c : Cd) : forceOk c = fOk c.kd c.po c.he := by
  unfold forceOk fOk
  by_cases h : c.kd = 1
  · rw [if_pos h, if_pos h]
    by_cases k : c.he = 0 <;> simp [k]
  · rw [if_neg h, if_neg h]
    by_cases k : c.he = 0 <;> by_cases j : c.po = 0 <;> simp [k, j]
set_option maxRecDepth 100000 in
set_option maxHeartbeats 2000000 in
theorem force_any (h : Hd) (v : Value) (w : World) : Calls Tryz.prog 187 #[cv h v] w fun e w' => e = .returned (.bool (fOk h.kd h.po h.he)) ∧ w.grownBy w' none := by
  obtain ⟨nm, su, kd, co, po, he, tr, tk⟩ := h
  unfold cv
  simp only
  by_cases h1 : kd = 1
  · subst h1
    simp only [fOk, if_true]
    go_enter Tryz.func187, Tryz.ntmps187
    go_wp2
    go_ret
    exact ⟨rfl, World.grownBy_alloc _ _ none⟩
  · have k1 := beqi_no h1
    simp only [fOk, if_neg h1]
    clear h1
    by_cases h2 : po = 0
    · subst h2
      simp only [beq_self_eq_true, Bool.true_and]
      go_enter Tryz.func187, Tryz.ntmps187
      go_wp2
      go_ret
      exact ⟨rfl, World.grownBy_alloc _ _ none⟩
    · have k2 := beqi_no h2
      rw [k2, Bool.false_and]
      go_enter Tryz.func187, Tryz.ntmps187
      go_wp2
      go_ret
      exact ⟨rfl, World.grownBy_alloc _ _ none⟩
theorem chkPs_cons {kd : Int} {ps : List Pt} {k : Nat} {p : Pt} (h : ps[k]? = some p) : chkPs kd (ps.drop k) = if ¬ chk p = 0 then chk p else if mayH kd p.wn = false then 8 else chkPs kd (ps.drop (k + 1)) := by
  obtain ⟨hk, e⟩ := List.getElem?_eq_some_iff.1 h
  rw [List.drop_eq_getElem_cons hk, e]
  rfl
def ResIs (kd : Int) (ps : List Pt) (k : Nat) (r : Int) : Prop := chkPs kd (ps.drop k) = r
set_option maxRecDepth 100000 in
set_option maxHeartbeats 4000000 in
theorem checkParts_any (h : Hd) (v : Value) (ps : List Pt) (w : World) (hp : PsAt w v ps) (hm : Small ps.length) : Calls Tryz.prog 189 #[cv h v] w fun e w' => e = .returned (.int .i64 (chkPs h.kd ps)) ∧ w.grownBy w' none := by
  obtain ⟨nm, su, kd, co, po, he, tr, tk⟩ := h
  by_cases h0 : ps.length = 0
  · obtain rfl := List.eq_nil_of_length_eq_zero h0
    obtain ⟨a, c, rfl⟩ := hp.form
    clear hp hm h0
    unfold cv
    simp only [List.length_nil, chkPs]
    go_enter Tryz.func189, Tryz.ntmps189
    go_wp2_with fail
    go_loopw [9] (fun i wr => i = .int .i64 0 ∧ w.grownBy wr none) (fun i _ => 0)
    case atStart => exact ⟨rfl, World.grownBy_alloc _ _ none⟩
    case round =>
      obtain ⟨rfl, G⟩ := hrel
      go_wp2
      go_ret
      exact ⟨rfl, G⟩
  · obtain ⟨g, o, c, rfl, PA⟩ := hp.part (by omega)
    have HA : Hid (∀ j p, ps[j]? = some p → P8 w g (o + j * 8) p) := PA
    have HR : Hid (ResIs kd ps 0 (chkPs kd ps)) := rfl
    obtain ⟨res, hres⟩ : ∃ res, chkPs kd ps = res := ⟨_, rfl⟩
    have HR : Hid (ResIs kd ps 0 res) := hres
    simp only
    rw [hres]
    clear hp PA h0 hres
    unfold cv
    simp only
    go_enter Tryz.func189, Tryz.ntmps189
    go_wp2_with fail
    go_loopw [9] (fun i wr => ∃ k : Nat, k ≤ ps.length ∧ i = .int .i64 k ∧ ResIs kd ps k res ∧ CAt wr w.heap.size ⟨nm, su, kd, co, po, he, tr, tk⟩ (.slice (some ⟨g, o, none⟩) ps.length c) ∧ w.grownBy wr none) (fun i _ => ps.length - (intOf i).toNat)
    case atStart => exact ⟨0, Nat.zero_le _, rfl, HR.out, alloc_at w (ccs ⟨nm, su, kd, co, po, he, tr, tk⟩ _) 54, World.grownBy_alloc _ _ none⟩
    case round =>
      obtain ⟨k, hk, rfl, R, C, G⟩ := hrel
      have HG : Hid (w.grownBy wr none) := G
      have HC : Hid (CAt wr w.heap.size ⟨nm, su, kd, co, po, he, tr, tk⟩ (.slice (some ⟨g, o, none⟩) ps.length c)) := C
      have HQ : Hid (ResIs kd ps k res) := R
      clear G C R HR
      rcases (show k = ps.length ∨ k < ps.length from by omega) with rfl | hlt
      · have e : (0 : Int) = res := by
          have := HQ.out
          unfold ResIs at this
          rw [List.drop_length] at this
          exact this
        clear HQ HC hk hm
        subst e
        go_wp2
        go_ret
        exact ⟨rfl, HG.out⟩
      · have hlt' : (k : Int) < (ps.length : Int) := by omega
        have hk0 : (0 : Int) ≤ (k : Int) := by omega
        have hw := hm.wrap hlt
        obtain ⟨p, hp⟩ : ∃ p, ps[k]? = some p := ⟨_, List.getElem?_eq_getElem hlt⟩
        obtain ⟨c0, c1, c2, c3, c4, c5, c6, c7⟩ := (HA.out k p hp).keep HG.out
        have HP : Hid (chkPs kd (ps.drop k) = if ¬ chk p = 0 then chk p else if mayH kd p.wn = false then 8 else chkPs kd (ps.drop (k + 1))) := chkPs_cons hp
        clear hp
        by_cases hz : chk p = 0
        case neg =>
          have hz' : (chk p == 0) = false := beqi_no hz
          have e : chk p = res := by
            have := HP.out
            rw [if_pos hz] at this
            rw [← this]
            exact HQ.out
          clear HP HQ hz
          subst e
          obtain ⟨p0, p1, p2, p3, p4, p5, p6, p7⟩ := p
          simp only at c0 c1 c2 c3 c4 c5 c6 c7
          go_wp2_with (first | (go_at_call 251; refine (check_any ⟨p0, p1, p2, p3, p4, p5, p6, p7⟩ _).mono ?_; rintro e w1 ⟨rfl, g1⟩) | fail)
          go_ret
          exact ⟨rfl, grown_trans HG.out (grown_trans (World.grownBy_alloc _ _ none) g1)⟩
        cases hy : mayH kd p.wn with
        | false =>
          have e : (8 : Int) = res := by
            have := HP.out
            rw [if_neg (by simpa using hz), if_pos hy] at this
            rw [← this]
            exact HQ.out
          clear HP HQ
          subst e
          obtain ⟨p0, p1, p2, p3, p4, p5, p6, p7⟩ := p
          simp only at c0 c1 c2 c3 c4 c5 c6 c7 hy
          go_wp2_with (first | (go_at_call 251; refine (check_any ⟨p0, p1, p2, p3, p4, p5, p6, p7⟩ _).mono ?_; rintro e w1 ⟨rfl, g1⟩; rw [hz]; have k2 := block_cell (grown_keep g1 (HC.out.keep (World.grownBy_alloc _ _ none)) (by simp)) 2; have k0 := (PAt.new wr ⟨p0, p1, p2, p3, p4, p5, p6, p7⟩).keep g1; have k0 := block_cell k0 0; simp only [ccs, List.getElem?_toArray, List.getElem?_cons_zero, List.getElem?_cons_succ] at k2 k0) | (go_at_call 252; refine (mayH_any kd p0 _).mono ?_; rintro e w2 ⟨rfl, rfl⟩; rw [hy]) | fail)
          go_ret
          exact ⟨rfl, grown_trans HG.out (grown_trans (World.grownBy_alloc _ _ none) g1)⟩
        | true =>
          have HN : Hid (ResIs kd ps (k + 1) res) := by
            have := HP.out
            rw [if_neg (by simpa using hz), if_neg (by rw [hy]; simp)] at this
            unfold Hid ResIs
            rw [← this]
            exact HQ.out
          clear HP HQ
          obtain ⟨p0, p1, p2, p3, p4, p5, p6, p7⟩ := p
          simp only at c0 c1 c2 c3 c4 c5 c6 c7 hy
          go_wp2_with (first | (go_at_call 251; refine (check_any ⟨p0, p1, p2, p3, p4, p5, p6, p7⟩ _).mono ?_; rintro e w1 ⟨rfl, g1⟩; rw [hz]; have C1 : Hid (CAt w1 w.heap.size ⟨nm, su, kd, co, po, he, tr, tk⟩ (.slice (some ⟨g, o, none⟩) ps.length c)) := (HC.out.keep (World.grownBy_alloc _ _ none)).keep g1; have k2 := block_cell C1.out 2; have k0 := (PAt.new wr ⟨p0, p1, p2, p3, p4, p5, p6, p7⟩).keep g1; have k0 := block_cell k0 0; simp only [ccs, List.getElem?_toArray, List.getElem?_cons_zero, List.getElem?_cons_succ] at k2 k0) | (go_at_call 252; refine (mayH_any kd p0 _).mono ?_; rintro e w2 ⟨rfl, h9⟩; obtain rfl : w1 = w2 := h9.symm; rw [hy]) | fail)
          go_roundw
          case rel => exact ⟨k + 1, hlt, by go_num, HN.out, C1.out, grown_trans HG.out (grown_trans (World.grownBy_alloc _ _ none) g1)⟩
          case measure => rw [hw]; exact meas_next hlt
end Go.Proofs.YthfjgpjcepmnmaaGreat
namespace Go.Proofs.YthfjgpjcepmnmaaGreat
open Go.RowKit

theorem kName_yes {k : Int} (h : 1 ≤ k ∧ k ≤ 3) : ((kName k).toList == []) = false := by
  rcases (show k = 1 ∨ k = 2 ∨ k = 3 by omega) with rfl | rfl | rfl <;> rw [Lib.toList_data] <;> rfl
theorem kName_no {k : Int} (h : ¬ (1 ≤ k ∧ k ≤ 3)) : ((kName k).toList == []) = true := by
  have h1 : ¬ k = 1 := by omega
  have h2 : ¬ k = 2 := by omega
  have h3 : ¬ k = 3 := by omega
  rw [Lib.toList_data]
  simp [kName, h1, h2, h3]
theorem sB_yes {k : Int} (h : 1 ≤ k ∧ k ≤ 6) : sB k = true := by simp [sB, h]
theorem sB_no {k : Int} (h : ¬ (1 ≤ k ∧ k ≤ 6)) : sB k = false := by simp only [sB]; by_cases a : 1 ≤ k <;> by_cases b : k ≤ 6 <;> simp [a, b]; exact absurd ⟨a, b⟩ h
theorem wI_yes {k m : Int} (h : 0 ≤ k ∧ k ≤ m) : wI k m = true := by simp [wI, h]
theorem wI_no {k m : Int} (h : ¬ (0 ≤ k ∧ k ≤ m)) : wI k m = false := by simp only [wI]; by_cases a : 0 ≤ k <;> by_cases b : k ≤ m <;> simp [a, b]; exact absurd ⟨a, b⟩ h
def Two (c : Cd) : Prop := ¬ (1 ≤ c.su ∧ c.su ≤ 6) ∨ ¬ (1 ≤ c.kd ∧ c.kd ≤ 3)
def Thr (c : Cd) : Prop := ¬ (0 ≤ c.co ∧ c.co ≤ 10) ∨ ¬ (0 ≤ c.po ∧ c.po ≤ 99) ∨ ¬ (0 ≤ c.he ∧ c.he ≤ 99)
def Fit (c : Cd) : Prop := forceOk c = false ∨ tCheck c.tr = false ∨ (c.kd = 2 ∧ c.tk = true)
theorem cchk_name {c : Cd} (h : nameOk c.nm.data.toList = false) : cchk c = 4 := if_pos h
theorem cchk_two {c : Cd} (n1 : ¬ nameOk c.nm.data.toList = false) (h : Two c) : cchk c = 8 := (if_neg n1).trans (if_pos h)
theorem cchk_thr {c : Cd} (n1 : ¬ nameOk c.nm.data.toList = false) (n2 : ¬ Two c) (h : Thr c) : cchk c = 2 := (if_neg n1).trans ((if_neg n2).trans (if_pos h))
theorem cchk_fit {c : Cd} (n1 : ¬ nameOk c.nm.data.toList = false) (n2 : ¬ Two c) (n3 : ¬ Thr c) (h : Fit c) : cchk c = 8 := (if_neg n1).trans ((if_neg n2).trans ((if_neg n3).trans (if_pos h)))
theorem cchk_long {c : Cd} (n1 : ¬ nameOk c.nm.data.toList = false) (n2 : ¬ Two c) (n3 : ¬ Thr c) (n4 : ¬ Fit c) (h : 4 < c.ps.length) : cchk c = 3 := (if_neg n1).trans ((if_neg n2).trans ((if_neg n3).trans ((if_neg n4).trans (if_pos h))))
theorem cchk_parts {c : Cd} (n1 : ¬ nameOk c.nm.data.toList = false) (n2 : ¬ Two c) (n3 : ¬ Thr c) (n4 : ¬ Fit c) (n5 : ¬ 4 < c.ps.length) : cchk c = chkPs c.kd c.ps := (if_neg n1).trans ((if_neg n2).trans ((if_neg n3).trans ((if_neg n4).trans (if_neg n5))))
set_option maxRecDepth 100000 in
set_option maxHeartbeats 8000000 in
theorem ccheck_any (h : Hd) (v : Value) (ps : List Pt) (w : World) (hp : PsAt w v ps) (hm : Small ps.length) : Calls Tryz.prog 122 #[cv h v] w fun e w' => e = .returned (.int .i64 (cchk (h.with ps))) ∧ w.grownBy w' none := by
  obtain ⟨nm, su, kd, co, po, he, tr, tk⟩ := h
  have HP : Hid (PsAt w v ps) := hp
  obtain ⟨a, c, rfl⟩ := hp.form
  clear hp
  obtain ⟨C, hC⟩ : ∃ C, C = Hd.with ⟨nm, su, kd, co, po, he, tr, tk⟩ ps := ⟨_, rfl⟩
  rw [← hC]
  have E1 : nm = C.nm := by rw [hC]; rfl
  have E2 : su = C.su := by rw [hC]; rfl
  have E3 : kd = C.kd := by rw [hC]; rfl
  have E4 : co = C.co := by rw [hC]; rfl
  have E5 : po = C.po := by rw [hC]; rfl
  have E6 : he = C.he := by rw [hC]; rfl
  have E7 : tr = C.tr := by rw [hC]; rfl
  have E8 : tk = C.tk := by rw [hC]; rfl
  have E9 : ps = C.ps := by rw [hC]; rfl
  have HC : Hid (C = Hd.with ⟨nm, su, kd, co, po, he, tr, tk⟩ ps) := hC
  have H1 : Hid (nm = C.nm ∧ su = C.su ∧ kd = C.kd ∧ co = C.co ∧ po = C.po ∧ he = C.he ∧ tr = C.tr ∧ tk = C.tk ∧ ps = C.ps) := ⟨E1, E2, E3, E4, E5, E6, E7, E8, E9⟩
  obtain ⟨res, hres⟩ : ∃ res, cchk C = res := ⟨_, rfl⟩
  have HR : Hid (cchk C = res) := hres
  rw [hres]
  clear hC E1 E2 E3 E4 E5 E6 E7 E8 E9 hres
  unfold cv
  simp only
  go_enter Tryz.func122, Tryz.ntmps122
  go_wp2_with fail
  refine (is_any nm _).mono ?_
  rintro e w9 ⟨rfl, rfl⟩
  cases h1 : nameOk nm.data.toList with
  | false =>
    go_wp2
    go_ret
    exact ⟨ret_int (by rw [← HR.out]; exact (cchk_name (by rw [← H1.out.1]; exact h1)).symm), World.grownBy_alloc _ _ none⟩
  | true =>
    have n1 : Hid (¬ nameOk C.nm.data.toList = false) := by unfold Hid; rw [← H1.out.1, h1]; simp
    clear h1
    go_wp2_with fail
    refine (csuit_any su _).mono ?_
    rintro e w9 ⟨rfl, rfl⟩
    by_cases hs : 1 ≤ su ∧ su ≤ 6
    case neg =>
      rw [sB_no hs]
      have T : Hid (Two C) := Or.inl (by rw [← H1.out.2.1]; exact hs)
      clear hs
      go_wp2
      go_ret
      exact ⟨ret_int (by rw [← HR.out]; exact (cchk_two n1.out T.out).symm), World.grownBy_alloc _ _ none⟩
    rw [sB_yes hs]
    have HS : Hid (1 ≤ C.su ∧ C.su ≤ 6) := by unfold Hid; rw [← H1.out.2.1]; exact hs
    clear hs
    go_wp2_with fail
    refine (kword_any kd _).mono ?_
    rintro e w9 ⟨rfl, rfl⟩
    by_cases hk : 1 ≤ kd ∧ kd ≤ 3
    case neg =>
      have kn := kName_no hk
      have T : Hid (Two C) := Or.inr (by rw [← H1.out.2.2.1]; exact hk)
      clear hk
      go_wp2
      go_ret
      exact ⟨ret_int (by rw [← HR.out]; exact (cchk_two n1.out T.out).symm), World.grownBy_alloc _ _ none⟩
    have kn := kName_yes hk
    have n2 : Hid (¬ Two C) := by unfold Hid Two; simp only [not_or, Decidable.not_not]; exact ⟨HS.out, by rw [← H1.out.2.2.1]; exact hk⟩
    clear hk HS
    go_wp2_with fail
    refine (cwithin_any co 10 _).mono ?_
    rintro e w9 ⟨rfl, rfl⟩
    by_cases hx : 0 ≤ co ∧ co ≤ 10
    case neg =>
      rw [wI_no hx]
      have T : Hid (Thr C) := Or.inl (by rw [← H1.out.2.2.2.1]; exact hx)
      clear hx
      go_wp2
      go_ret
      exact ⟨ret_int (by rw [← HR.out]; exact (cchk_thr n1.out n2.out T.out).symm), World.grownBy_alloc _ _ none⟩
    rw [wI_yes hx]
    have Xco : Hid (0 ≤ C.co ∧ C.co ≤ 10) := by unfold Hid; rw [← H1.out.2.2.2.1]; exact hx
    clear hx
    go_wp2_with fail
    refine (cwithin_any po 99 _).mono ?_
    rintro e w9 ⟨rfl, rfl⟩
    by_cases hx : 0 ≤ po ∧ po ≤ 99
    case neg =>
      rw [wI_no hx]
      have T : Hid (Thr C) := Or.inr (Or.inl (by rw [← H1.out.2.2.2.2.1]; exact hx))
      clear hx
      go_wp2
      go_ret
      exact ⟨ret_int (by rw [← HR.out]; exact (cchk_thr n1.out n2.out T.out).symm), World.grownBy_alloc _ _ none⟩
    rw [wI_yes hx]
    have Xpo : Hid (0 ≤ C.po ∧ C.po ≤ 99) := by unfold Hid; rw [← H1.out.2.2.2.2.1]; exact hx
    clear hx
    go_wp2_with fail
    refine (cwithin_any he 99 _).mono ?_
    rintro e w9 ⟨rfl, rfl⟩
    by_cases hx : 0 ≤ he ∧ he ≤ 99
    case neg =>
      rw [wI_no hx]
      have T : Hid (Thr C) := Or.inr (Or.inr (by rw [← H1.out.2.2.2.2.2.1]; exact hx))
      clear hx
      go_wp2
      go_ret
      exact ⟨ret_int (by rw [← HR.out]; exact (cchk_thr n1.out n2.out T.out).symm), World.grownBy_alloc _ _ none⟩
    rw [wI_yes hx]
    have Xhe : Hid (0 ≤ C.he ∧ C.he ≤ 99) := by unfold Hid; rw [← H1.out.2.2.2.2.2.1]; exact hx
    clear hx
    have n3 : Hid (¬ Thr C) := by unfold Hid Thr; simp only [not_or, Decidable.not_not]; exact ⟨Xco.out, Xpo.out, Xhe.out⟩
    clear Xco Xpo Xhe
    go_wp2_with fail
    refine (force_any ⟨nm, su, kd, co, po, he, tr, tk⟩ _ _).mono ?_
    rintro e w1 ⟨rfl, g1⟩
    simp only
    have C1 : Hid (CAt w1 w.heap.size ⟨nm, su, kd, co, po, he, tr, tk⟩ (.slice a ps.length c)) := CAt.keep (alloc_at w (ccs ⟨nm, su, kd, co, po, he, tr, tk⟩ (.slice a ps.length c)) 54) g1
    have G1 : Hid (w.grownBy w1 none) := grown_trans (World.grownBy_alloc _ _ none) g1
    clear g1
    obtain ⟨c0, c1, c2, c3, c4, c5, c6, c7, c8⟩ := C1.out.cells
    simp only at c0 c1 c2 c3 c4 c5 c6 c7 c8
    have F : Hid (forceOk C = fOk kd po he) := by unfold Hid; rw [fOk_is, ← H1.out.2.2.1, ← H1.out.2.2.2.2.1, ← H1.out.2.2.2.2.2.1]
    cases hf : fOk kd po he with
    | false =>
      have T : Hid (Fit C) := Or.inl (F.out.trans hf)
      go_wp2
      go_ret
      exact ⟨ret_int (by rw [← HR.out]; exact (cchk_fit n1.out n2.out n3.out T.out).symm), G1.out⟩
    | true =>
      have F1 : Hid (¬ forceOk C = false) := by unfold Hid; rw [F.out, hf]; simp
      clear hf F
      go_wp2_with fail
      refine (tcheck_any tr _).mono ?_
      rintro e w9 ⟨rfl, h9⟩
      obtain rfl : w1 = w9 := h9.symm
      cases ht : tCheck tr with
      | false =>
        have T : Hid (Fit C) := Or.inr (Or.inl (by rw [← H1.out.2.2.2.2.2.2.1]; exact ht))
        go_wp2
        go_ret
        exact ⟨ret_int (by rw [← HR.out]; exact (cchk_fit n1.out n2.out n3.out T.out).symm), G1.out⟩
      | true =>
        have F2 : Hid (¬ tCheck C.tr = false) := by unfold Hid; rw [← H1.out.2.2.2.2.2.2.1, ht]; simp
        clear ht
        by_cases hk2 : kd = 2
        · cases htk : tk with
          | true =>
            have T : Hid (Fit C) := Or.inr (Or.inr ⟨by rw [← H1.out.2.2.1]; exact hk2, by rw [← H1.out.2.2.2.2.2.2.2.1]; exact htk⟩)
            rw [htk] at c7
            rw [hk2] at c2
            go_wp2
            go_ret
            exact ⟨ret_int (by rw [← HR.out]; exact (cchk_fit n1.out n2.out n3.out T.out).symm), G1.out⟩
          | false =>
            have n4 : Hid (¬ Fit C) := by
              unfold Hid Fit
              rintro (h | h | ⟨_, h⟩)
              · exact F1.out h
              · exact F2.out h
              · rw [← H1.out.2.2.2.2.2.2.2.1, htk] at h
                cases h
            rw [htk] at c7
            rw [hk2] at c2
            clear F1 F2
            by_cases hl : 4 < ps.length
            · have hl' : (4 : Int) < (ps.length : Int) := by omega
              have T : Hid (4 < C.ps.length) := by unfold Hid; rw [← H1.out.2.2.2.2.2.2.2.2]; exact hl
              clear hl
              go_wp2
              go_ret
              exact ⟨ret_int (by rw [← HR.out]; exact (cchk_long n1.out n2.out n3.out n4.out T.out).symm), G1.out⟩
            · have hl' : ¬ (4 : Int) < (ps.length : Int) := by omega
              have T : Hid (¬ 4 < C.ps.length) := by unfold Hid; rw [← H1.out.2.2.2.2.2.2.2.2]; exact hl
              clear hl
              go_wp2_with fail
              refine (checkParts_any ⟨nm, su, 2, co, po, he, tr, false⟩ _ ps _ (HP.out.keep G1.out) hm).mono ?_
              rintro e w3 ⟨rfl, g3⟩
              have E : chkPs 2 ps = res := by rw [← hk2, ← HR.out, cchk_parts n1.out n2.out n3.out n4.out T.out, ← H1.out.2.2.1, ← H1.out.2.2.2.2.2.2.2.2]
              simp only
              rw [E]
              clear E
              go_wp2
              go_ret
              exact ⟨rfl, grown_trans G1.out g3⟩
        · have k9 := beqi_no hk2
          have n4 : Hid (¬ Fit C) := by
            unfold Hid Fit
            rintro (h | h | ⟨h, _⟩)
            · exact F1.out h
            · exact F2.out h
            · rw [← H1.out.2.2.1] at h
              exact hk2 h
          clear F1 F2 hk2
          by_cases hl : 4 < ps.length
          · have hl' : (4 : Int) < (ps.length : Int) := by omega
            have T : Hid (4 < C.ps.length) := by unfold Hid; rw [← H1.out.2.2.2.2.2.2.2.2]; exact hl
            clear hl
            go_wp2
            go_ret
            exact ⟨ret_int (by rw [← HR.out]; exact (cchk_long n1.out n2.out n3.out n4.out T.out).symm), G1.out⟩
          · have hl' : ¬ (4 : Int) < (ps.length : Int) := by omega
            have T : Hid (¬ 4 < C.ps.length) := by unfold Hid; rw [← H1.out.2.2.2.2.2.2.2.2]; exact hl
            clear hl
            go_wp2_with fail
            refine (checkParts_any ⟨nm, su, kd, co, po, he, tr, tk⟩ _ ps _ (HP.out.keep G1.out) hm).mono ?_
            rintro e w3 ⟨rfl, g3⟩
            have E : chkPs kd ps = res := by rw [← HR.out, cchk_parts n1.out n2.out n3.out n4.out T.out, ← H1.out.2.2.1, ← H1.out.2.2.2.2.2.2.2.2]
            simp only
            rw [E]
            clear E
            go_wp2
            go_ret
            exact ⟨rfl, grown_trans G1.out g3⟩
end Go.Proofs.YthfjgpjcepmnmaaGreat
