/-
  card.Check of every card, and what it asks: isSuit, kindWord, within, forceFits, trait.Check, mayHave, checkParts.
-/
import Derived.Test.YtmemeloehgemcaaGreatK4
import Derived.Test.YtmemeloehgemcaaGreatK0
namespace Go.Proofs.YtmemeloehgemcaaGreat
open Go.RowKit

def sB (k : Int) : Bool := decide (1 ≤ k) && decide (k ≤ 6)
def wI (n m : Int) : Bool := decide (0 ≤ n) && decide (n ≤ m)
def kName (k : Int) : ByteArray := if k = 1 then ⟨#[117, 110, 105, 116]⟩ else if k = 2 then ⟨#[115, 112, 101, 108, 108]⟩ else if k = 3 then ⟨#[114, 101, 108, 105, 99]⟩ else ⟨#[]⟩
theorem csuit_any (k : Int) (w : World) : Calls Tryz.prog 115 #[.int .u8 k] w fun e w' => e = .returned (.bool (sB k)) ∧ w' = w := by
  by_cases h : 1 ≤ k
  · have h' : (1 : Int) ≤ k := h
    have e : sB k = decide (k ≤ 6) := by simp [sB, h]
    rw [e]
    clear e
    go_enter Tryz.func115, Tryz.ntmps115
    go_wp2
    go_ret
    exact ⟨rfl, rfl⟩
  · have e : sB k = false := by simp [sB, h]
    rw [e]
    clear e
    go_enter Tryz.func115, Tryz.ntmps115
    go_wp2
    go_ret
    exact ⟨rfl, rfl⟩
theorem cwithin_any (n m : Int) (w : World) : Calls Tryz.prog 117 #[.int .i64 n, .int .i64 m] w fun e w' => e = .returned (.bool (wI n m)) ∧ w' = w := by
  by_cases h : 0 ≤ n
  · have e : wI n m = decide (n ≤ m) := by simp [wI, h]
    rw [e]
    clear e
    go_enter Tryz.func117, Tryz.ntmps117
    go_wp2
    go_ret
    exact ⟨rfl, rfl⟩
  · have e : wI n m = false := by simp [wI, h]
    rw [e]
    clear e
    go_enter Tryz.func117, Tryz.ntmps117
    go_wp2
    go_ret
    exact ⟨rfl, rfl⟩
theorem kword_any (k : Int) (w : World) : Calls Tryz.prog 116 #[.int .u8 k] w fun e w' => e = .returned (.string (kName k)) ∧ w' = w := by
  by_cases h1 : k = 1
  · subst h1
    go_enter Tryz.func116, Tryz.ntmps116
    go_wp2
    go_ret
    exact ⟨rfl, rfl⟩
  by_cases h2 : k = 2
  · subst h2
    go_enter Tryz.func116, Tryz.ntmps116
    go_wp2
    go_ret
    exact ⟨rfl, rfl⟩
  by_cases h3 : k = 3
  · subst h3
    go_enter Tryz.func116, Tryz.ntmps116
    go_wp2
    go_ret
    exact ⟨rfl, rfl⟩
  have e : kName k = ⟨#[]⟩ := by simp [kName, h1, h2, h3]
  have k1 := beqi_no h1
  have k2 := beqi_no h2
  have k3 := beqi_no h3
  rw [e]
  clear e h1 h2 h3
  go_enter Tryz.func116, Tryz.ntmps116
  go_wp2
  go_ret
  exact ⟨rfl, rfl⟩
theorem tcheck_any (s : Int) (w : World) : Calls Tryz.prog 119 #[.int .u16 s] w fun e w' => e = .returned (.bool (tCheck s)) ∧ w' = w := by
  unfold tCheck
  go_enter Tryz.func119, Tryz.ntmps119
  go_wp2
  go_ret
  exact ⟨rfl, rfl⟩
theorem mayH_any (kd wn : Int) (w : World) : Calls Tryz.prog 155 #[.int .u8 kd, .int .u8 wn] w fun e w' => e = .returned (.bool (mayH kd wn)) ∧ w' = w := by
  by_cases h2 : kd = 2
  · subst h2
    have e : mayH 2 wn = (wn == 1) := by simp [mayH]; by_cases h : wn = 1 <;> simp [h]
    rw [e]
    clear e
    go_enter Tryz.func155, Tryz.ntmps155
    go_wp2
    go_ret
    exact ⟨rfl, rfl⟩
  by_cases h3 : kd = 3
  · subst h3
    have e : mayH 3 wn = (wn != 4) := by simp [mayH]; by_cases h : wn = 4 <;> simp [h]
    rw [e]
    clear e h2
    go_enter Tryz.func155, Tryz.ntmps155
    go_wp2
    go_ret
    exact ⟨rfl, rfl⟩
  have e : mayH kd wn = true := by simp [mayH, h2, h3]
  have k2 := beqi_no h2
  have k3 := beqi_no h3
  rw [e]
  clear e h2 h3
  go_enter Tryz.func155, Tryz.ntmps155
  go_wp2
  go_ret
  exact ⟨rfl, rfl⟩
def Hd.with (h : Hd) (ps : List Pt) : Cd := ⟨h.nm, h.su, h.kd, h.co, h.po, h.he, h.tr, h.tk, ps⟩
def Cd.hd (c : Cd) : Hd := ⟨c.nm, c.su, c.kd, c.co, c.po, c.he, c.tr, c.tk⟩
def fOk (kd po he : Int) : Bool := if kd = 1 then he != 0 else (po == 0) && (he == 0)
theorem fOk_is (c : Cd) : forceOk c = fOk c.kd c.po c.he := by
  unfold forceOk fOk
  by_cases h : c.kd = 1
  · rw [if_pos h, if_pos h]
    by_cases k : c.he = 0 <;> simp [k]
  · rw [if_neg h, if_neg h]
    by_cases k : c.he = 0 <;> by_cases j : c.po = 0 <;> simp [k, j]
set_option maxRecDepth 100000 in
set_option maxHeartbeats 2000000 in
theorem force_any (h : Hd) (v : Value) (w : World) : Calls Tryz.prog 118 #[cv h v] w fun e w' => e = .returned (.bool (fOk h.kd h.po h.he)) ∧ w.grownBy w' none := by
  obtain ⟨nm, su, kd, co, po, he, tr, tk⟩ := h
  unfold cv
  simp only
  by_cases h1 : kd = 1
  · subst h1
    simp only [fOk, if_true]
    go_enter Tryz.func118, Tryz.ntmps118
    go_wp2
    go_ret
    exact ⟨rfl, World.grownBy_alloc _ _ none⟩
  · have k1 := beqi_no h1
    simp only [fOk, if_neg h1]
    clear h1
    by_cases h2 : po = 0
    · subst h2
      simp only [beq_self_eq_true, Bool.true_and]
      go_enter Tryz.func118, Tryz.ntmps118
      go_wp2
      go_ret
      exact ⟨rfl, World.grownBy_alloc _ _ none⟩
    · have k2 := beqi_no h2
      rw [k2, Bool.false_and]
      go_enter Tryz.func118, Tryz.ntmps118
      go_wp2
      go_ret
      exact ⟨rfl, World.grownBy_alloc _ _ none⟩
theorem chkPs_cons {kd : Int} {ps : List Pt} {k : Nat} {p : Pt} (h : ps[k]? = some p) : chkPs kd (ps.drop k) = if ¬ chk p = 0 then chk p else if mayH kd p.wn = false then 8 else chkPs kd (ps.drop (k + 1)) := by
  obtain ⟨hk, e⟩ := List.getElem?_eq_some_iff.1 h
  rw [List.drop_eq_getElem_cons hk, e]
  rfl
def ResIs (kd : Int) (ps : List Pt) (k : Nat) (r : Int) : Prop := chkPs kd (ps.drop k) = r
set_option maxRecDepth 100000 in
set_option maxHeartbeats 4000000 in
theorem checkParts_any (h : Hd) (v : Value) (ps : List Pt) (w : World) (hp : PsAt w v ps) (hm : Small ps.length) : Calls Tryz.prog 120 #[cv h v] w fun e w' => e = .returned (.int .i64 (chkPs h.kd ps)) ∧ w.grownBy w' none := by
  obtain ⟨nm, su, kd, co, po, he, tr, tk⟩ := h
  by_cases h0 : ps.length = 0
  · obtain rfl := List.eq_nil_of_length_eq_zero h0
    obtain ⟨a, c, rfl⟩ := hp.form
    clear hp hm h0
    unfold cv
    simp only [List.length_nil, chkPs]
    go_enter Tryz.func120, Tryz.ntmps120
    go_wp2_with fail
    go_loopw [9] (fun i wr => i = .int .i64 0 ∧ w.grownBy wr none) (fun i _ => 0)
    case atStart => exact ⟨rfl, World.grownBy_alloc _ _ none⟩
    case round =>
      obtain ⟨rfl, G⟩ := hrel
      go_wp2
      go_ret
      exact ⟨rfl, G⟩
  · obtain ⟨g, o, c, rfl, PA⟩ := hp.part (by omega)
    have HA : Hid (∀ j p, ps[j]? = some p → P8 w g (o + j * 8) p) := PA
    have HR : Hid (ResIs kd ps 0 (chkPs kd ps)) := rfl
    obtain ⟨res, hres⟩ : ∃ res, chkPs kd ps = res := ⟨_, rfl⟩
    have HR : Hid (ResIs kd ps 0 res) := hres
    simp only
    rw [hres]
    clear hp PA h0 hres
    unfold cv
    simp only
    go_enter Tryz.func120, Tryz.ntmps120
    go_wp2_with fail
    go_loopw [9] (fun i wr => ∃ k : Nat, k ≤ ps.length ∧ i = .int .i64 k ∧ ResIs kd ps k res ∧ CAt wr w.heap.size ⟨nm, su, kd, co, po, he, tr, tk⟩ (.slice (some ⟨g, o, none⟩) ps.length c) ∧ w.grownBy wr none) (fun i _ => ps.length - (intOf i).toNat)
    case atStart => exact ⟨0, Nat.zero_le _, rfl, HR.out, alloc_at w (ccs ⟨nm, su, kd, co, po, he, tr, tk⟩ _) 88, World.grownBy_alloc _ _ none⟩
    case round =>
      obtain ⟨k, hk, rfl, R, C, G⟩ := hrel
      have HG : Hid (w.grownBy wr none) := G
      have HC : Hid (CAt wr w.heap.size ⟨nm, su, kd, co, po, he, tr, tk⟩ (.slice (some ⟨g, o, none⟩) ps.length c)) := C
      have HQ : Hid (ResIs kd ps k res) := R
      clear G C R HR
      rcases (show k = ps.length ∨ k < ps.length from by omega) with rfl | hlt
      · have e : (0 : Int) = res := by
          have := HQ.out
          unfold ResIs at this
          rw [List.drop_length] at this
          exact this
        clear HQ HC hk hm
        subst e
        go_wp2
        go_ret
        exact ⟨rfl, HG.out⟩
      · have hlt' : (k : Int) < (ps.length : Int) := by omega
        have hk0 : (0 : Int) ≤ (k : Int) := by omega
        have hw := hm.wrap hlt
        obtain ⟨p, hp⟩ : ∃ p, ps[k]? = some p := ⟨_, List.getElem?_eq_getElem hlt⟩
        obtain ⟨c0, c1, c2, c3, c4, c5, c6, c7⟩ := (HA.out k p hp).keep HG.out
        have HP : Hid (chkPs kd (ps.drop k) = if ¬ chk p = 0 then chk p else if mayH kd p.wn = false then 8 else chkPs kd (ps.drop (k + 1))) := chkPs_cons hp
        clear hp
        by_cases hz : chk p = 0
        case neg =>
          have hz' : (chk p == 0) = false := beqi_no hz
          have e : chk p = res := by
            have := HP.out
            rw [if_pos hz] at this
            rw [← this]
            exact HQ.out
          clear HP HQ hz
          subst e
          obtain ⟨p0, p1, p2, p3, p4, p5, p6, p7⟩ := p
          simp only at c0 c1 c2 c3 c4 c5 c6 c7
          go_wp2_with (first | (go_at_call 154; refine (check_any ⟨p0, p1, p2, p3, p4, p5, p6, p7⟩ _).mono ?_; rintro e w1 ⟨rfl, g1⟩) | fail)
          go_ret
          exact ⟨rfl, grown_trans HG.out (grown_trans (World.grownBy_alloc _ _ none) g1)⟩
        cases hy : mayH kd p.wn with
        | false =>
          have e : (8 : Int) = res := by
            have := HP.out
            rw [if_neg (by simpa using hz), if_pos hy] at this
            rw [← this]
            exact HQ.out
          clear HP HQ
          subst e
          obtain ⟨p0, p1, p2, p3, p4, p5, p6, p7⟩ := p
          simp only at c0 c1 c2 c3 c4 c5 c6 c7 hy
          go_wp2_with (first | (go_at_call 154; refine (check_any ⟨p0, p1, p2, p3, p4, p5, p6, p7⟩ _).mono ?_; rintro e w1 ⟨rfl, g1⟩; rw [hz]; have k2 := block_cell (grown_keep g1 (HC.out.keep (World.grownBy_alloc _ _ none)) (by simp)) 2; have k0 := (PAt.new wr ⟨p0, p1, p2, p3, p4, p5, p6, p7⟩).keep g1; have k0 := block_cell k0 0; simp only [ccs, List.getElem?_toArray, List.getElem?_cons_zero, List.getElem?_cons_succ] at k2 k0) | (go_at_call 155; refine (mayH_any kd p0 _).mono ?_; rintro e w2 ⟨rfl, rfl⟩; rw [hy]) | fail)
          go_ret
          exact ⟨rfl, grown_trans HG.out (grown_trans (World.grownBy_alloc _ _ none) g1)⟩
        | true =>
          have HN : Hid (ResIs kd ps (k + 1) res) := by
            have := HP.out
            rw [if_neg (by simpa using hz), if_neg (by rw [hy]; simp)] at this
            unfold Hid ResIs
            rw [← this]
            exact HQ.out
          clear HP HQ
          obtain ⟨p0, p1, p2, p3, p4, p5, p6, p7⟩ := p
          simp only at c0 c1 c2 c3 c4 c5 c6 c7 hy
          go_wp2_with (first | (go_at_call 154; refine (check_any ⟨p0, p1, p2, p3, p4, p5, p6, p7⟩ _).mono ?_; rintro e w1 ⟨rfl, g1⟩; rw [hz]; have C1 : Hid (CAt w1 w.heap.size ⟨nm, su, kd, co, po, he, tr, tk⟩ (.slice (some ⟨g, o, none⟩) ps.length c)) := (HC.out.keep (World.grownBy_alloc _ _ none)).keep g1; have k2 := block_cell C1.out 2; have k0 := (PAt.new wr ⟨p0, p1, p2, p3, p4, p5, p6, p7⟩).keep g1; have k0 := block_cell k0 0; simp only [ccs, List.getElem?_toArray, List.getElem?_cons_zero, List.getElem?_cons_succ] at k2 k0) | (go_at_call 155; refine (mayH_any kd p0 _).mono ?_; rintro e w2 ⟨rfl, h9⟩; obtain rfl : w1 = w2 := h9.symm; rw [hy]) | fail)
          go_roundw
          case rel => exact ⟨k + 1, hlt, by go_num, HN.out, C1.out, grown_trans HG.out (grown_trans (World.grownBy_alloc _ _ none) g1)⟩
          case measure => rw [hw]; exact meas_next hlt
end Go.Proofs.YtmemeloehgemcaaGreat
