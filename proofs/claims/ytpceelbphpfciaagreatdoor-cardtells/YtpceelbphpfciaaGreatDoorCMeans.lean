/-
  card.Means: has one of a card's parts When Played and Whom It?
-/
import Derived.Test.YtpceelbphpfciaaGreatDoorCChk
namespace Go.Proofs.YtpceelbphpfciaaGreatDoor
open Go.RowKit

def mn1 (p : Pt) : Bool := (p.wn == 1) && (p.wm == 3)
def cmeans (ps : List Pt) : Bool := ps.any mn1
theorem means1_any (p : Pt) (w : World) : Calls Tryz.prog 46 #[pv p] w fun e w' => e = .returned (.bool (mn1 p)) ∧ w.grownBy w' none := by
  obtain ⟨p0, p1, p2, p3, p4, p5, p6, p7⟩ := p
  unfold pv mn1
  simp only
  by_cases h : p0 = 1
  · subst h
    simp only [beq_self_eq_true, Bool.true_and]
    go_enter Tryz.func46, Tryz.ntmps46
    go_wp2
    go_ret
    exact ⟨rfl, World.grownBy_alloc _ _ none⟩
  · have k := beqi_no h
    rw [k, Bool.false_and]
    go_enter Tryz.func46, Tryz.ntmps46
    go_wp2
    go_ret
    exact ⟨rfl, World.grownBy_alloc _ _ none⟩
theorem any_drop {ps : List Pt} {k : Nat} {p : Pt} (h : ps[k]? = some p) : cmeans (ps.drop k) = (mn1 p || cmeans (ps.drop (k + 1))) := by
  obtain ⟨hk, e⟩ := List.getElem?_eq_some_iff.1 h
  rw [List.drop_eq_getElem_cons hk, e]
  rfl
def AnyIs (ps : List Pt) (k : Nat) (r : Bool) : Prop := cmeans (ps.drop k) = r
set_option maxRecDepth 100000 in
set_option maxHeartbeats 2000000 in
/-- slices.IndexFunc with that test: -1, if there is none. -/
theorem indexF_any (v : Value) (ps : List Pt) (w : World) (hp : PsAt w v ps) (hm : Small ps.length) : Calls Tryz.prog 87 #[v, .func (.func 46) #[] #[]] w fun e w' => (∃ i : Int, e = .returned (.int .i64 i) ∧ decide (0 ≤ i) = cmeans ps) ∧ w.grownBy w' none := by
  by_cases h0 : ps.length = 0
  · obtain rfl := List.eq_nil_of_length_eq_zero h0
    obtain ⟨a, c, rfl⟩ := hp.form
    clear hp hm h0
    simp only [List.length_nil]
    go_enter Tryz.func87, Tryz.ntmps87
    go_wp2_with fail
    go_loopw [8] (fun i wr => i = .int .i64 0 ∧ wr = w) (fun _ _ => 0)
    case atStart => exact ⟨rfl, rfl⟩
    case round =>
      obtain ⟨rfl, rfl⟩ := hrel
      go_wp2
      go_ret
      exact ⟨⟨_, rfl, rfl⟩, grown_refl _ _⟩
  · obtain ⟨g, o, c, rfl, PA⟩ := hp.part (by omega)
    have HA : Hid (∀ j p, ps[j]? = some p → P8 w g (o + j * 8) p) := PA
    have HR : Hid (AnyIs ps 0 (cmeans ps)) := rfl
    obtain ⟨res, hres⟩ : ∃ res, cmeans ps = res := ⟨_, rfl⟩
    have HR : Hid (AnyIs ps 0 res) := hres
    rw [hres]
    clear hp PA h0 hres
    go_enter Tryz.func87, Tryz.ntmps87
    go_wp2_with fail
    go_loopw [8] (fun i wr => ∃ k : Nat, k ≤ ps.length ∧ i = .int .i64 k ∧ AnyIs ps k res ∧ w.grownBy wr none) (fun i _ => ps.length - (intOf i).toNat)
    case atStart => exact ⟨0, Nat.zero_le _, rfl, HR.out, grown_refl _ _⟩
    case round =>
      obtain ⟨k, hk, rfl, R, G⟩ := hrel
      have HG : Hid (w.grownBy wr none) := G
      have HQ : Hid (AnyIs ps k res) := R
      clear G R HR
      rcases (show k = ps.length ∨ k < ps.length from by omega) with rfl | hlt
      · have e : res = false := by
          have := HQ.out
          unfold AnyIs at this
          rw [List.drop_length] at this
          exact this.symm
        clear HQ hk hm
        subst e
        go_wp2
        go_ret
        exact ⟨⟨_, rfl, rfl⟩, HG.out⟩
      · have hlt' : (k : Int) < (ps.length : Int) := by omega
        have hk0 : (0 : Int) ≤ (k : Int) := by omega
        have hw := hm.wrap hlt
        obtain ⟨p, hp⟩ : ∃ p, ps[k]? = some p := ⟨_, List.getElem?_eq_getElem hlt⟩
        obtain ⟨c0, c1, c2, c3, c4, c5, c6, c7⟩ := (HA.out k p hp).keep HG.out
        have HD : Hid (cmeans (ps.drop k) = (mn1 p || cmeans (ps.drop (k + 1)))) := any_drop hp
        clear hp
        cases hy : mn1 p with
        | true =>
          have e : res = true := by
            have := HQ.out
            unfold AnyIs at this
            rw [HD.out, hy] at this
            simpa using this.symm
          clear HD HQ
          subst e
          obtain ⟨p0, p1, p2, p3, p4, p5, p6, p7⟩ := p
          simp only at c0 c1 c2 c3 c4 c5 c6 c7
          go_wp2_with (first | (go_at_call 46; refine (means1_any ⟨p0, p1, p2, p3, p4, p5, p6, p7⟩ _).mono ?_; rintro e w1 ⟨rfl, g1⟩; rw [hy]) | fail)
          go_ret
          exact ⟨⟨_, rfl, decide_eq_true hk0⟩, grown_trans HG.out g1⟩
        | false =>
          have HN : Hid (AnyIs ps (k + 1) res) := by
            have := HQ.out
            unfold AnyIs at this
            rw [HD.out, hy] at this
            simpa [Hid, AnyIs] using this
          clear HD HQ
          obtain ⟨p0, p1, p2, p3, p4, p5, p6, p7⟩ := p
          simp only at c0 c1 c2 c3 c4 c5 c6 c7
          go_wp2_with (first | (go_at_call 46; refine (means1_any ⟨p0, p1, p2, p3, p4, p5, p6, p7⟩ _).mono ?_; rintro e w1 ⟨rfl, g1⟩; rw [hy]) | fail)
          go_roundw
          case rel => exact ⟨k + 1, hlt, by rw [hw]; rfl, HN.out, grown_trans HG.out g1⟩
          case measure => rw [hw]; exact meas_next hlt
set_option maxHeartbeats 2000000 in
theorem contains_any (v : Value) (ps : List Pt) (w : World) (hp : PsAt w v ps) (hm : Small ps.length) : Calls Tryz.prog 45 #[v, .func (.func 46) #[] #[]] w fun e w' => e = .returned (.bool (cmeans ps)) ∧ w.grownBy w' none := by
  have c := indexF_any v ps w hp hm
  clear hp hm
  go_enter Tryz.func45, Tryz.ntmps45
  go_wp2_with (first | (go_at_call 87; refine c.mono ?_; rintro e w1 ⟨⟨i, rfl, hi⟩, g1⟩; have HI : Hid (decide (0 ≤ i) = cmeans ps) := hi; clear hi) | fail)
  go_ret
  exact ⟨ret_bool HI.out, g1⟩
set_option maxRecDepth 100000 in
set_option maxHeartbeats 2000000 in
theorem means_any (h : Hd) (v : Value) (ps : List Pt) (w : World) (hp : PsAt w v ps) (hm : Small ps.length) : Calls Tryz.prog 15 #[cv h v] w fun e w' => e = .returned (.bool (cmeans ps)) ∧ w.grownBy w' none := by
  have HP : Hid (PsAt w v ps) := hp
  obtain ⟨a, c, rfl⟩ := hp.form
  obtain ⟨nm, su, kd, co, po, he, tr, tk⟩ := h
  clear hp
  unfold cv
  simp only
  go_enter Tryz.func15, Tryz.ntmps15
  go_wp2_with (first | (go_at_call 45; refine (contains_any _ ps _ (HP.out.keep (World.grownBy_alloc _ _ none)) hm).mono ?_; rintro e w1 ⟨rfl, g1⟩) | fail)
  go_ret
  exact ⟨rfl, grown_trans (World.grownBy_alloc _ _ none) g1⟩
end Go.Proofs.YtpceelbphpfciaaGreatDoor
