/-
  The document's own test of a card's name, its bounds, its numbers.
  The document's own Check of every card.
  What the document's own answers tell of a number's digits, and of a set of traits: Has, With, List.
-/
import Derived.Test.YtpceelbphpfciaaGreatDoorRChk2
import Derived.Test.YtpceelbphpfciaaGreatDoorRName
import Derived.Test.YtpceelbphpfciaaGreatDoorCCheck
import Derived.Test.YtpceelbphpfciaaGreatDoorTset
import Derived.Deep.QuietTactic
namespace Go.Proofs.YtpceelbphpfciaaGreatDoor
open Go.RowKit

set_option maxHeartbeats 2000000 in
theorem m_rname_any (s : ByteArray) (w : World) : Calls Tryz.prog 51 #[.string s] w fun e w' => e = .returned (.bool (nameOk s.data.toList)) ∧ w' = w := by
  have HL : Hid (s.data.toList.length = s.size) := (Lib.size_eq s).symm
  by_cases h0 : s.size = 0
  · have hb : (s.size : Int) < 1 := by omega
    rw [show s.data.toList = [] from List.eq_nil_of_length_eq_zero (by rw [HL.out]; exact h0)]
    clear h0
    go_enter Tryz.func51, Tryz.ntmps51
    go_wp2
    go_ret
    exact ⟨rfl, rfl⟩
  · have hb : ¬ (s.size : Int) < 1 := by omega
    by_cases h1 : 20 < s.size
    · have hb1 : (20 : Int) < (s.size : Int) := by omega
      rw [name_no_len (by rw [HL.out]; exact h1)]
      clear h0 h1
      go_enter Tryz.func51, Tryz.ntmps51
      go_wp2
      go_ret
      exact ⟨rfl, rfl⟩
    · have hb1 : ¬ (20 : Int) < (s.size : Int) := by omega
      have hp : 0 < s.size := by omega
      have B0 : Hid (s.data.toList[0]? = some s[0]) := byte_at s 0 hp
      have H1 : Hid (s.data.toList.length ≤ 20) := by rw [Hid, HL.out]; omega
      clear h0 h1
      by_cases hc : s[0] = 45
      · have hq : ((s[0].toNat : Int) == 45) = true := by simp [hc]
        rw [name_no_first B0.out (by rw [hc]; rfl)]
        clear hc
        go_enter Tryz.func51, Tryz.ntmps51
        go_wp2
        go_ret
        exact ⟨rfl, rfl⟩
      · have hq : ((s[0].toNat : Int) == 45) = false := by
          have : ¬ (s[0].toNat : Int) = 45 := fun e => hc (UInt8.toNat_inj.1 (by simpa using (by omega : s[0].toNat = 45)))
          simpa using this
        have HC : Hid (¬ s[0] = 45) := hc
        clear hc
        go_enter Tryz.func51, Tryz.ntmps51
        go_wp2
        go_loopw [3] (fun t wr => wr = w ∧ ∃ i : Nat, i ≤ s.size ∧ t = .int .i64 i ∧ ∀ j x, j < i → s.data.toList[j]? = some x → okb x = true) (fun t _ => s.size - (intOf t).toNat)
        case atStart => exact ⟨rfl, 0, Nat.zero_le _, rfl, fun j x hj => absurd hj (by omega)⟩
        case round =>
          obtain ⟨rfl, i, hi, rfl, ha⟩ := hrel
          have HA : Hid (∀ j x, j < i → s.data.toList[j]? = some x → okb x = true) := ha
          clear ha
          by_cases hl : i < s.size
          · have hl' : (i : Int) < (s.size : Int) := by omega
            have BI : Hid (s.data.toList[i]? = some s[i]) := byte_at s i hl
            by_cases a : (s[i].toNat : Int) < 97
            · by_cases hd : s[i] = 45
              · have hq : ((s[i].toNat : Int) != 45) = false := by simp [hd]
                have HN : Hid (okb s[i] = true) := by simp [Hid, okb, hd]
                clear hd
                go_wp2
                go_roundw
                case rel => exact ⟨trivial, i + 1, by omega, by go_num, fun j x hj hx => by
                  rcases (show j < i ∨ j = i from by omega) with h' | rfl
                  · exact HA.out j x h' hx
                  · rw [BI.out] at hx; cases hx; exact HN.out⟩
                case measure => simp [intOf]; omega
              · have hq : ((s[i].toNat : Int) != 45) = true := by
                  have : ¬ (s[i].toNat : Int) = 45 := fun e => hd (UInt8.toNat_inj.1 (by simpa using (by omega : s[i].toNat = 45)))
                  exact bne_no this
                have HN : Hid (okb s[i] = false) := by
                  have : ¬ 97 ≤ s[i].toNat := by omega
                  simp [Hid, okb, letter, this, hd]
                clear hd
                go_wp2
                go_ret
                exact ⟨ret_bool (name_no_at BI.out HN.out).symm, rfl⟩
            · by_cases a' : (122 : Int) < (s[i].toNat : Int)
              · have hd : ¬ s[i] = 45 := by
                  intro h
                  rw [h] at a'
                  exact absurd a' (by decide)
                have hq : ((s[i].toNat : Int) != 45) = true := bne_no (by omega)
                have HN : Hid (okb s[i] = false) := by
                  have : ¬ s[i].toNat ≤ 122 := by omega
                  simp [Hid, okb, letter, this, hd]
                clear hd
                go_wp2
                go_ret
                exact ⟨ret_bool (name_no_at BI.out HN.out).symm, rfl⟩
              · have HN : Hid (okb s[i] = true) := by
                  have h1 : 97 ≤ s[i].toNat := by omega
                  have h2 : s[i].toNat ≤ 122 := by omega
                  simp [Hid, okb, letter, h1, h2]
                go_wp2
                go_roundw
                case rel => exact ⟨trivial, i + 1, by omega, by go_num, fun j x hj hx => by
                  rcases (show j < i ∨ j = i from by omega) with h' | rfl
                  · exact HA.out j x h' hx
                  · rw [BI.out] at hx; cases hx; exact HN.out⟩
                case measure => simp [intOf]; omega
          · have hl' : ¬ (i : Int) < (s.size : Int) := by omega
            have HY : Hid (nameOk s.data.toList = true) := by
              have ALL : ∀ (j : Nat) x, s.data.toList[j]? = some x → okb x = true := fun j x hx => HA.out j x (by
                have := (List.getElem?_eq_some_iff.1 hx).1
                rw [HL.out] at this
                omega) hx
              have L0 : letter s[0] = true := by
                have := ALL 0 _ B0.out
                simpa [okb, HC.out] using this
              exact name_yes B0.out L0 H1.out ALL
            go_wp2
            go_ret
            exact ⟨ret_bool HY.out.symm, rfl⟩

def wB (n a b : Int) : Bool := decide (a ≤ n) && decide (n ≤ b)
theorem r6within_any (n a b : Int) (w : World) : Calls Tryz.prog 52 #[.int .i64 n, .int .i64 a, .int .i64 b] w fun e w' => e = .returned (.bool (wB n a b)) ∧ w' = w := by
  by_cases h : a ≤ n
  · have e : wB n a b = decide (n ≤ b) := by simp [wB, h]
    rw [e]
    clear e
    go_enter Tryz.func52, Tryz.ntmps52
    go_wp2
    go_ret
    exact ⟨rfl, rfl⟩
  · have e : wB n a b = false := by simp [wB, h]
    rw [e]
    clear e
    go_enter Tryz.func52, Tryz.ntmps52
    go_wp2
    go_ret
    exact ⟨rfl, rfl⟩
theorem r4check_any (s : Int) (w : World) : Calls Tryz.prog 53 #[.int .u16 s] w fun e w' => e = .returned (.bool (decide (s < 256))) ∧ w' = w := by
  go_enter Tryz.func53, Tryz.ntmps53
  go_wp2
  go_ret
  exact ⟨rfl, rfl⟩
end Go.Proofs.YtpceelbphpfciaaGreatDoor
namespace Go.Proofs.YtpceelbphpfciaaGreatDoor
open Go.RowKit

theorem wB_yes {k a b : Int} (h : a ≤ k ∧ k ≤ b) : wB k a b = true := by simp [wB, h]
theorem wB_no {k a b : Int} (h : ¬ (a ≤ k ∧ k ≤ b)) : wB k a b = false := by simp only [wB]; by_cases x : a ≤ k <;> by_cases y : k ≤ b <;> simp [x, y]; exact absurd ⟨x, y⟩ h
theorem wrap_u8i {k : Int} (h : 0 ≤ k ∧ k ≤ 255) : IntKind.i64.wrap k = k := by
  rw [IntKind.wrap_i64]
  omega
set_option maxRecDepth 100000 in
set_option maxHeartbeats 8000000 in
theorem r6check_any (h : Hd) (v : Value) (ps : List Pt) (w : World) (hp : PsAt w v ps) (hm : Small ps.length) (hwf : (h.with ps).wf) : Calls Tryz.prog 17 #[cv h v] w fun e w' => e = .returned (.int .i64 (cchk (h.with ps))) ∧ w.grownBy w' none := by
  obtain ⟨nm, su, kd, co, po, he, tr, tk⟩ := h
  have HP : Hid (PsAt w v ps) := hp
  have HWP : Hid (∀ p ∈ ps, p.wf) := hwf.ps
  have HTR : Hid (tCheck tr = decide (tr < 256)) := check_is tr hwf.tr.1 (by have : tr ≤ 65535 := hwf.tr.2; omega)
  have ws : IntKind.i64.wrap su = su := wrap_u8i hwf.su
  have wk : IntKind.i64.wrap kd = kd := wrap_u8i hwf.kd
  obtain ⟨a, c, rfl⟩ := hp.form
  clear hp hwf
  obtain ⟨C, hC⟩ : ∃ C, C = Hd.with ⟨nm, su, kd, co, po, he, tr, tk⟩ ps := ⟨_, rfl⟩
  rw [← hC]
  have H1 : Hid (nm = C.nm ∧ su = C.su ∧ kd = C.kd ∧ co = C.co ∧ po = C.po ∧ he = C.he ∧ tr = C.tr ∧ tk = C.tk ∧ ps = C.ps) := by rw [hC]; exact ⟨rfl, rfl, rfl, rfl, rfl, rfl, rfl, rfl, rfl⟩
  obtain ⟨res, hres⟩ : ∃ res, cchk C = res := ⟨_, rfl⟩
  have HR : Hid (cchk C = res) := hres
  rw [hres]
  clear hC hres
  unfold cv
  simp only
  go_enter Tryz.func17, Tryz.ntmps17
  go_wp2_with fail
  refine (m_rname_any nm _).mono ?_
  rintro e w9 ⟨rfl, rfl⟩
  cases h1 : nameOk nm.data.toList with
  | false =>
    go_wp2
    go_ret
    exact ⟨ret_int (by rw [← HR.out]; exact (cchk_name (by rw [← H1.out.1]; exact h1)).symm), World.grownBy_alloc _ _ none⟩
  | true =>
    have n1 : Hid (¬ nameOk C.nm.data.toList = false) := by unfold Hid; rw [← H1.out.1, h1]; simp
    clear h1
    go_wp2_with fail
    refine (r6within_any su 1 6 _).mono ?_
    rintro e w9 ⟨rfl, rfl⟩
    by_cases hx : 1 ≤ su ∧ su ≤ 6
    case neg =>
      rw [wB_no hx]
      have T : Hid (Two C) := Or.inl (by rw [← H1.out.2.1]; exact hx)
      clear hx
      go_wp2
      go_ret
      exact ⟨ret_int (by rw [← HR.out]; exact (cchk_two n1.out T.out).symm), World.grownBy_alloc _ _ none⟩
    rw [wB_yes hx]
    have XS : Hid (1 ≤ C.su ∧ C.su ≤ 6) := by unfold Hid; rw [← H1.out.2.1]; exact hx
    clear hx
    go_wp2_with fail
    refine (r6within_any kd 1 3 _).mono ?_
    rintro e w9 ⟨rfl, rfl⟩
    by_cases hx : 1 ≤ kd ∧ kd ≤ 3
    case neg =>
      rw [wB_no hx]
      have T : Hid (Two C) := Or.inr (by rw [← H1.out.2.2.1]; exact hx)
      clear hx
      go_wp2
      go_ret
      exact ⟨ret_int (by rw [← HR.out]; exact (cchk_two n1.out T.out).symm), World.grownBy_alloc _ _ none⟩
    rw [wB_yes hx]
    have n2 : Hid (¬ Two C) := by unfold Hid Two; simp only [not_or, Decidable.not_not]; exact ⟨XS.out, by rw [← H1.out.2.2.1]; exact hx⟩
    have hk3 : Hid (kd = 1 ∨ kd = 2 ∨ kd = 3) := by unfold Hid; omega
    clear hx XS
    go_wp2_with fail
    refine (r6within_any co 0 10 _).mono ?_
    rintro e w9 ⟨rfl, rfl⟩
    by_cases hx : 0 ≤ co ∧ co ≤ 10
    case neg =>
      rw [wB_no hx]
      have T : Hid (Thr C) := Or.inl (by rw [← H1.out.2.2.2.1]; exact hx)
      clear hx
      go_wp2
      go_ret
      exact ⟨ret_int (by rw [← HR.out]; exact (cchk_thr n1.out n2.out T.out).symm), World.grownBy_alloc _ _ none⟩
    rw [wB_yes hx]
    have Xco : Hid (0 ≤ C.co ∧ C.co ≤ 10) := by unfold Hid; rw [← H1.out.2.2.2.1]; exact hx
    clear hx
    go_wp2_with fail
    refine (r6within_any po 0 99 _).mono ?_
    rintro e w9 ⟨rfl, rfl⟩
    by_cases hx : 0 ≤ po ∧ po ≤ 99
    case neg =>
      rw [wB_no hx]
      have T : Hid (Thr C) := Or.inr (Or.inl (by rw [← H1.out.2.2.2.2.1]; exact hx))
      clear hx
      go_wp2
      go_ret
      exact ⟨ret_int (by rw [← HR.out]; exact (cchk_thr n1.out n2.out T.out).symm), World.grownBy_alloc _ _ none⟩
    rw [wB_yes hx]
    have Xpo : Hid (0 ≤ C.po ∧ C.po ≤ 99) := by unfold Hid; rw [← H1.out.2.2.2.2.1]; exact hx
    clear hx
    go_wp2_with fail
    refine (r6within_any he 0 99 _).mono ?_
    rintro e w9 ⟨rfl, rfl⟩
    by_cases hx : 0 ≤ he ∧ he ≤ 99
    case neg =>
      rw [wB_no hx]
      have T : Hid (Thr C) := Or.inr (Or.inr (by rw [← H1.out.2.2.2.2.2.1]; exact hx))
      clear hx
      go_wp2
      go_ret
      exact ⟨ret_int (by rw [← HR.out]; exact (cchk_thr n1.out n2.out T.out).symm), World.grownBy_alloc _ _ none⟩
    rw [wB_yes hx]
    have Xhe : Hid (0 ≤ C.he ∧ C.he ≤ 99) := by unfold Hid; rw [← H1.out.2.2.2.2.2.1]; exact hx
    clear hx
    have n3 : Hid (¬ Thr C) := by unfold Hid Thr; simp only [not_or, Decidable.not_not]; exact ⟨Xco.out, Xpo.out, Xhe.out⟩
    clear Xco Xpo Xhe
    have F : Hid (forceOk C = fOk kd po he) := by unfold Hid; rw [fOk_is, ← H1.out.2.2.1, ← H1.out.2.2.2.2.1, ← H1.out.2.2.2.2.2.1]
    rcases hk3.out with e | e | e
    · subst e
      have F' : Hid (forceOk C = fOk 1 po he) := F.out
      by_cases h0 : he = 0
      · subst h0
        have T : Hid (Fit C) := Or.inl (by rw [F'.out]; simp [fOk])
        clear F F'
        go_wp2
        go_ret
        exact ⟨ret_int (by rw [← HR.out]; exact (cchk_fit n1.out n2.out n3.out T.out).symm), World.grownBy_alloc _ _ none⟩
      have k0 := beqi_no h0
      have F1 : Hid (¬ forceOk C = false) := by unfold Hid; rw [F'.out]; simp [fOk, h0]
      clear F F' h0
      go_wp2_with fail
      refine (r4check_any tr _).mono ?_
      rintro e w9 ⟨rfl, rfl⟩
      rw [← HTR.out]
      cases ht : tCheck tr with
      | false =>
        have T : Hid (Fit C) := Or.inr (Or.inl (by rw [← H1.out.2.2.2.2.2.2.1]; exact ht))
        go_wp2
        go_ret
        exact ⟨ret_int (by rw [← HR.out]; exact (cchk_fit n1.out n2.out n3.out T.out).symm), World.grownBy_alloc _ _ none⟩
      | true =>
        have F2 : Hid (¬ tCheck C.tr = false) := by unfold Hid; rw [← H1.out.2.2.2.2.2.2.1, ht]; simp
        clear ht
        have n4 : Hid (¬ Fit C) := by
          unfold Hid Fit
          rintro (h | h | ⟨h, _⟩)
          · exact F1.out h
          · exact F2.out h
          · rw [← H1.out.2.2.1] at h; cases h
        clear F1 F2
        by_cases hl : 4 < ps.length
        · have hl' : (4 : Int) < (ps.length : Int) := by omega
          have T : Hid (4 < C.ps.length) := by unfold Hid; rw [← H1.out.2.2.2.2.2.2.2.2]; exact hl
          clear hl
          go_wp2
          go_ret
          exact ⟨ret_int (by rw [← HR.out]; exact (cchk_long n1.out n2.out n3.out n4.out T.out).symm), World.grownBy_alloc _ _ none⟩
        · have hl' : ¬ (4 : Int) < (ps.length : Int) := by omega
          have T : Hid (¬ 4 < C.ps.length) := by unfold Hid; rw [← H1.out.2.2.2.2.2.2.2.2]; exact hl
          have HE : Hid (ResIs 1 ps 0 res) := by
            unfold Hid ResIs
            rw [List.drop_zero, ← HR.out, cchk_parts n1.out n2.out n3.out n4.out T.out, ← H1.out.2.2.1, ← H1.out.2.2.2.2.2.2.2.2]
          clear hl T n1 n2 n3 n4
          go_wp2_with fail
          go_loopw [4] (fun i wr => ∃ k : Nat, k ≤ ps.length ∧ i = .int .i64 k ∧ ResIs 1 ps k res ∧ CAt wr w.heap.size ⟨nm, su, 1, co, po, he, tr, tk⟩ (.slice a ps.length c) ∧ w.grownBy wr none) (fun i _ => ps.length - (intOf i).toNat)
          case atStart => exact ⟨0, Nat.zero_le _, rfl, HE.out, alloc_at w (ccs ⟨nm, su, 1, co, po, he, tr, tk⟩ _) 40, World.grownBy_alloc _ _ none⟩
          case round =>
            obtain ⟨k, hk, rfl, R, CC, G⟩ := hrel
            have HG : Hid (w.grownBy wr none) := G
            have HC : Hid (CAt wr w.heap.size ⟨nm, su, 1, co, po, he, tr, tk⟩ (.slice a ps.length c)) := CC
            have HQ : Hid (ResIs 1 ps k res) := R
            clear G CC R HE
            obtain ⟨c0, c1, c2, c3, c4, c5, c6, c7, c8⟩ := HC.out.cells
            simp only at c0 c1 c2 c3 c4 c5 c6 c7 c8
            rcases (show k = ps.length ∨ k < ps.length from by omega) with rfl | hlt
            · have e : (0 : Int) = res := by
                have := HQ.out
                unfold ResIs at this
                rw [List.drop_length] at this
                exact this
              clear HQ hk hm
              subst e
              go_wp2
              go_ret
              exact ⟨rfl, HG.out⟩
            · have hlt' : (k : Int) < (ps.length : Int) := by omega
              have hk0 : (0 : Int) ≤ (k : Int) := by omega
              have hw := hm.wrap hlt
              obtain ⟨g, o, c', ev, PA⟩ := HP.out.part (by omega)
              injection ev with e1 _ e3
              subst e1
              subst e3
              obtain ⟨p, hp⟩ : ∃ p, ps[k]? = some p := ⟨_, List.getElem?_eq_getElem hlt⟩
              have HPW : Hid p.wf := HWP.out p (List.mem_of_getElem? hp)
              have D := (PA k p hp).keep HG.out
              have HX : Hid (chkPs 1 (ps.drop k) = if ¬ chk p = 0 then chk p else if mayH 1 p.wn = false then 8 else chkPs 1 (ps.drop (k + 1))) := chkPs_cons hp
              clear hp PA
              obtain ⟨p0, p1, p2, p3, p4, p5, p6, p7⟩ := p
              have HD : Hid (P8 wr g (o + k * 8) ⟨p0, p1, p2, p3, p4, p5, p6, p7⟩) := D
              obtain ⟨d0, d1, d2, d3, d4, d5, d6, d7⟩ := D
              simp only at d0 d1 d2 d3 d4 d5 d6 d7
              by_cases hz : chk ⟨p0, p1, p2, p3, p4, p5, p6, p7⟩ = 0
              case neg =>
                have hz' : (chk ⟨p0, p1, p2, p3, p4, p5, p6, p7⟩ == 0) = false := beqi_no hz
                have e : chk ⟨p0, p1, p2, p3, p4, p5, p6, p7⟩ = res := by
                  have := HX.out
                  rw [if_pos hz] at this
                  rw [← this]
                  exact HQ.out
                have HE : Hid (chk ⟨p0, p1, p2, p3, p4, p5, p6, p7⟩ = res) := e
                clear HX HQ hz e
                go_wp2_with (first | (go_at_call 54; refine (rcheck_any ⟨p0, p1, p2, p3, p4, p5, p6, p7⟩ HPW.out _).mono ?_; rintro e w1 ⟨rfl, g1⟩; obtain ⟨c0, c1, c2, c3, c4, c5, c6, c7, c8⟩ := (HC.out.keep g1).cells; simp only at c0 c1 c2 c3 c4 c5 c6 c7 c8; obtain ⟨d0, d1, d2, d3, d4, d5, d6, d7⟩ := HD.out.keep g1; simp only at d0 d1 d2 d3 d4 d5 d6 d7) | fail)
                go_ret
                exact ⟨ret_int HE.out, grown_trans HG.out g1⟩
              have hy : mayH 1 p0 = true := rfl
              have HN : Hid (ResIs 1 ps (k + 1) res) := by
                have := HX.out
                rw [if_neg (by simpa using hz), if_neg (by simp only; rw [hy]; simp)] at this
                unfold Hid ResIs
                rw [← this]
                exact HQ.out
              clear HX HQ
              go_wp2_with (first | (go_at_call 54; refine (rcheck_any ⟨p0, p1, p2, p3, p4, p5, p6, p7⟩ HPW.out _).mono ?_; rintro e w1 ⟨rfl, g1⟩; rw [hz]; obtain ⟨c0, c1, c2, c3, c4, c5, c6, c7, c8⟩ := (HC.out.keep g1).cells; simp only at c0 c1 c2 c3 c4 c5 c6 c7 c8; obtain ⟨d0, d1, d2, d3, d4, d5, d6, d7⟩ := HD.out.keep g1; simp only at d0 d1 d2 d3 d4 d5 d6 d7) | fail)
              go_roundw
              case rel => exact ⟨k + 1, hlt, (by first | rfl | (rw [hw]; rfl)), HN.out, HC.out.keep g1, grown_trans HG.out g1⟩
              case measure => first | exact meas_next hlt | (rw [hw]; exact meas_next hlt)
    · subst e
      have F' : Hid (forceOk C = fOk 2 po he) := F.out
      by_cases h5 : po = 0
      case neg =>
        have k5 := beqi_no h5
        have T : Hid (Fit C) := Or.inl (by rw [F'.out]; simp [fOk, h5])
        clear F F'
        clear h5
        go_wp2
        go_ret
        exact ⟨ret_int (by rw [← HR.out]; exact (cchk_fit n1.out n2.out n3.out T.out).symm), World.grownBy_alloc _ _ none⟩
      by_cases h0 : he = 0
      case neg =>
        have k0 := beqi_no h0
        have T : Hid (Fit C) := Or.inl (by rw [F'.out]; simp [fOk, h0])
        clear F F'
        clear h0
        subst h5
        go_wp2
        go_ret
        exact ⟨ret_int (by rw [← HR.out]; exact (cchk_fit n1.out n2.out n3.out T.out).symm), World.grownBy_alloc _ _ none⟩
      have F1 : Hid (¬ forceOk C = false) := by unfold Hid; rw [F'.out]; simp [fOk, h0, h5]
      clear F F'
      subst h5
      subst h0
      go_wp2_with fail
      refine (r4check_any tr _).mono ?_
      rintro e w9 ⟨rfl, rfl⟩
      rw [← HTR.out]
      cases ht : tCheck tr with
      | false =>
        have T : Hid (Fit C) := Or.inr (Or.inl (by rw [← H1.out.2.2.2.2.2.2.1]; exact ht))
        go_wp2
        go_ret
        exact ⟨ret_int (by rw [← HR.out]; exact (cchk_fit n1.out n2.out n3.out T.out).symm), World.grownBy_alloc _ _ none⟩
      | true =>
        have F2 : Hid (¬ tCheck C.tr = false) := by unfold Hid; rw [← H1.out.2.2.2.2.2.2.1, ht]; simp
        clear ht
        cases htk : tk with
        | true =>
          have T : Hid (Fit C) := Or.inr (Or.inr ⟨by rw [← H1.out.2.2.1], by rw [← H1.out.2.2.2.2.2.2.2.1]; exact htk⟩)
          subst htk
          go_wp2
          go_ret
          exact ⟨ret_int (by rw [← HR.out]; exact (cchk_fit n1.out n2.out n3.out T.out).symm), World.grownBy_alloc _ _ none⟩
        | false =>
          have n4 : Hid (¬ Fit C) := by
            unfold Hid Fit
            rintro (h | h | ⟨_, h⟩)
            · exact F1.out h
            · exact F2.out h
            · rw [← H1.out.2.2.2.2.2.2.2.1, htk] at h; cases h
          clear F1 F2
          subst htk
          by_cases hl : 4 < ps.length
          · have hl' : (4 : Int) < (ps.length : Int) := by omega
            have T : Hid (4 < C.ps.length) := by unfold Hid; rw [← H1.out.2.2.2.2.2.2.2.2]; exact hl
            clear hl
            go_wp2
            go_ret
            exact ⟨ret_int (by rw [← HR.out]; exact (cchk_long n1.out n2.out n3.out n4.out T.out).symm), World.grownBy_alloc _ _ none⟩
          · have hl' : ¬ (4 : Int) < (ps.length : Int) := by omega
            have T : Hid (¬ 4 < C.ps.length) := by unfold Hid; rw [← H1.out.2.2.2.2.2.2.2.2]; exact hl
            have HE : Hid (ResIs 2 ps 0 res) := by
              unfold Hid ResIs
              rw [List.drop_zero, ← HR.out, cchk_parts n1.out n2.out n3.out n4.out T.out, ← H1.out.2.2.1, ← H1.out.2.2.2.2.2.2.2.2]
            clear hl T n1 n2 n3 n4
            go_wp2_with fail
            go_loopw [4] (fun i wr => ∃ k : Nat, k ≤ ps.length ∧ i = .int .i64 k ∧ ResIs 2 ps k res ∧ CAt wr w.heap.size ⟨nm, su, 2, co, 0, 0, tr, false⟩ (.slice a ps.length c) ∧ w.grownBy wr none) (fun i _ => ps.length - (intOf i).toNat)
            case atStart => exact ⟨0, Nat.zero_le _, rfl, HE.out, alloc_at w (ccs ⟨nm, su, 2, co, 0, 0, tr, false⟩ _) 40, World.grownBy_alloc _ _ none⟩
            case round =>
              obtain ⟨k, hk, rfl, R, CC, G⟩ := hrel
              have HG : Hid (w.grownBy wr none) := G
              have HC : Hid (CAt wr w.heap.size ⟨nm, su, 2, co, 0, 0, tr, false⟩ (.slice a ps.length c)) := CC
              have HQ : Hid (ResIs 2 ps k res) := R
              clear G CC R HE
              obtain ⟨c0, c1, c2, c3, c4, c5, c6, c7, c8⟩ := HC.out.cells
              simp only at c0 c1 c2 c3 c4 c5 c6 c7 c8
              rcases (show k = ps.length ∨ k < ps.length from by omega) with rfl | hlt
              · have e : (0 : Int) = res := by
                  have := HQ.out
                  unfold ResIs at this
                  rw [List.drop_length] at this
                  exact this
                clear HQ hk hm
                subst e
                go_wp2
                go_ret
                exact ⟨rfl, HG.out⟩
              · have hlt' : (k : Int) < (ps.length : Int) := by omega
                have hk0 : (0 : Int) ≤ (k : Int) := by omega
                have hw := hm.wrap hlt
                obtain ⟨g, o, c', ev, PA⟩ := HP.out.part (by omega)
                injection ev with e1 _ e3
                subst e1
                subst e3
                obtain ⟨p, hp⟩ : ∃ p, ps[k]? = some p := ⟨_, List.getElem?_eq_getElem hlt⟩
                have HPW : Hid p.wf := HWP.out p (List.mem_of_getElem? hp)
                have D := (PA k p hp).keep HG.out
                have HX : Hid (chkPs 2 (ps.drop k) = if ¬ chk p = 0 then chk p else if mayH 2 p.wn = false then 8 else chkPs 2 (ps.drop (k + 1))) := chkPs_cons hp
                clear hp PA
                obtain ⟨p0, p1, p2, p3, p4, p5, p6, p7⟩ := p
                have HD : Hid (P8 wr g (o + k * 8) ⟨p0, p1, p2, p3, p4, p5, p6, p7⟩) := D
                obtain ⟨d0, d1, d2, d3, d4, d5, d6, d7⟩ := D
                simp only at d0 d1 d2 d3 d4 d5 d6 d7
                by_cases hz : chk ⟨p0, p1, p2, p3, p4, p5, p6, p7⟩ = 0
                case neg =>
                  have hz' : (chk ⟨p0, p1, p2, p3, p4, p5, p6, p7⟩ == 0) = false := beqi_no hz
                  have e : chk ⟨p0, p1, p2, p3, p4, p5, p6, p7⟩ = res := by
                    have := HX.out
                    rw [if_pos hz] at this
                    rw [← this]
                    exact HQ.out
                  have HE : Hid (chk ⟨p0, p1, p2, p3, p4, p5, p6, p7⟩ = res) := e
                  clear HX HQ hz e
                  go_wp2_with (first | (go_at_call 54; refine (rcheck_any ⟨p0, p1, p2, p3, p4, p5, p6, p7⟩ HPW.out _).mono ?_; rintro e w1 ⟨rfl, g1⟩; obtain ⟨c0, c1, c2, c3, c4, c5, c6, c7, c8⟩ := (HC.out.keep g1).cells; simp only at c0 c1 c2 c3 c4 c5 c6 c7 c8; obtain ⟨d0, d1, d2, d3, d4, d5, d6, d7⟩ := HD.out.keep g1; simp only at d0 d1 d2 d3 d4 d5 d6 d7) | fail)
                  go_ret
                  exact ⟨ret_int HE.out, grown_trans HG.out g1⟩
                by_cases hv : p0 = 1
                · have k0 : (p0 == 1) = true := by simp [hv]
                  have k1 : (p0 != 1) = false := by simp [hv]
                  have hy : mayH 2 p0 = true := by simp [mayH, hv]
                  clear hv
                  have HN : Hid (ResIs 2 ps (k + 1) res) := by
                    have := HX.out
                    rw [if_neg (by simpa using hz), if_neg (by simp only; rw [hy]; simp)] at this
                    unfold Hid ResIs
                    rw [← this]
                    exact HQ.out
                  clear HX HQ
                  go_wp2_with (first | (go_at_call 54; refine (rcheck_any ⟨p0, p1, p2, p3, p4, p5, p6, p7⟩ HPW.out _).mono ?_; rintro e w1 ⟨rfl, g1⟩; rw [hz]; obtain ⟨c0, c1, c2, c3, c4, c5, c6, c7, c8⟩ := (HC.out.keep g1).cells; simp only at c0 c1 c2 c3 c4 c5 c6 c7 c8; obtain ⟨d0, d1, d2, d3, d4, d5, d6, d7⟩ := HD.out.keep g1; simp only at d0 d1 d2 d3 d4 d5 d6 d7) | fail)
                  go_roundw
                  case rel => exact ⟨k + 1, hlt, (by first | rfl | (rw [hw]; rfl)), HN.out, HC.out.keep g1, grown_trans HG.out g1⟩
                  case measure => first | exact meas_next hlt | (rw [hw]; exact meas_next hlt)
                · have k0 := beqi_no hv
                  have k1 : (p0 != 1) = true := by simpa using hv
                  have hy : mayH 2 p0 = false := by simp [mayH, hv]
                  clear hv
                  have e : (8 : Int) = res := by
                    have := HX.out
                    rw [if_neg (by simpa using hz), if_pos (by simp only; exact hy)] at this
                    rw [← this]
                    exact HQ.out
                  clear HX HQ
                  subst e
                  go_wp2_with (first | (go_at_call 54; refine (rcheck_any ⟨p0, p1, p2, p3, p4, p5, p6, p7⟩ HPW.out _).mono ?_; rintro e w1 ⟨rfl, g1⟩; rw [hz]; obtain ⟨c0, c1, c2, c3, c4, c5, c6, c7, c8⟩ := (HC.out.keep g1).cells; simp only at c0 c1 c2 c3 c4 c5 c6 c7 c8; obtain ⟨d0, d1, d2, d3, d4, d5, d6, d7⟩ := HD.out.keep g1; simp only at d0 d1 d2 d3 d4 d5 d6 d7) | fail)
                  go_ret
                  exact ⟨rfl, grown_trans HG.out g1⟩
    · subst e
      have F' : Hid (forceOk C = fOk 3 po he) := F.out
      by_cases h5 : po = 0
      case neg =>
        have k5 := beqi_no h5
        have T : Hid (Fit C) := Or.inl (by rw [F'.out]; simp [fOk, h5])
        clear F F'
        clear h5
        go_wp2
        go_ret
        exact ⟨ret_int (by rw [← HR.out]; exact (cchk_fit n1.out n2.out n3.out T.out).symm), World.grownBy_alloc _ _ none⟩
      by_cases h0 : he = 0
      case neg =>
        have k0 := beqi_no h0
        have T : Hid (Fit C) := Or.inl (by rw [F'.out]; simp [fOk, h0])
        clear F F'
        clear h0
        subst h5
        go_wp2
        go_ret
        exact ⟨ret_int (by rw [← HR.out]; exact (cchk_fit n1.out n2.out n3.out T.out).symm), World.grownBy_alloc _ _ none⟩
      have F1 : Hid (¬ forceOk C = false) := by unfold Hid; rw [F'.out]; simp [fOk, h0, h5]
      clear F F'
      subst h5
      subst h0
      go_wp2_with fail
      refine (r4check_any tr _).mono ?_
      rintro e w9 ⟨rfl, rfl⟩
      rw [← HTR.out]
      cases ht : tCheck tr with
      | false =>
        have T : Hid (Fit C) := Or.inr (Or.inl (by rw [← H1.out.2.2.2.2.2.2.1]; exact ht))
        go_wp2
        go_ret
        exact ⟨ret_int (by rw [← HR.out]; exact (cchk_fit n1.out n2.out n3.out T.out).symm), World.grownBy_alloc _ _ none⟩
      | true =>
        have F2 : Hid (¬ tCheck C.tr = false) := by unfold Hid; rw [← H1.out.2.2.2.2.2.2.1, ht]; simp
        clear ht
        have n4 : Hid (¬ Fit C) := by
          unfold Hid Fit
          rintro (h | h | ⟨h, _⟩)
          · exact F1.out h
          · exact F2.out h
          · rw [← H1.out.2.2.1] at h; cases h
        clear F1 F2
        by_cases hl : 4 < ps.length
        · have hl' : (4 : Int) < (ps.length : Int) := by omega
          have T : Hid (4 < C.ps.length) := by unfold Hid; rw [← H1.out.2.2.2.2.2.2.2.2]; exact hl
          clear hl
          go_wp2
          go_ret
          exact ⟨ret_int (by rw [← HR.out]; exact (cchk_long n1.out n2.out n3.out n4.out T.out).symm), World.grownBy_alloc _ _ none⟩
        · have hl' : ¬ (4 : Int) < (ps.length : Int) := by omega
          have T : Hid (¬ 4 < C.ps.length) := by unfold Hid; rw [← H1.out.2.2.2.2.2.2.2.2]; exact hl
          have HE : Hid (ResIs 3 ps 0 res) := by
            unfold Hid ResIs
            rw [List.drop_zero, ← HR.out, cchk_parts n1.out n2.out n3.out n4.out T.out, ← H1.out.2.2.1, ← H1.out.2.2.2.2.2.2.2.2]
          clear hl T n1 n2 n3 n4
          go_wp2_with fail
          go_loopw [4] (fun i wr => ∃ k : Nat, k ≤ ps.length ∧ i = .int .i64 k ∧ ResIs 3 ps k res ∧ CAt wr w.heap.size ⟨nm, su, 3, co, 0, 0, tr, tk⟩ (.slice a ps.length c) ∧ w.grownBy wr none) (fun i _ => ps.length - (intOf i).toNat)
          case atStart => exact ⟨0, Nat.zero_le _, rfl, HE.out, alloc_at w (ccs ⟨nm, su, 3, co, 0, 0, tr, tk⟩ _) 40, World.grownBy_alloc _ _ none⟩
          case round =>
            obtain ⟨k, hk, rfl, R, CC, G⟩ := hrel
            have HG : Hid (w.grownBy wr none) := G
            have HC : Hid (CAt wr w.heap.size ⟨nm, su, 3, co, 0, 0, tr, tk⟩ (.slice a ps.length c)) := CC
            have HQ : Hid (ResIs 3 ps k res) := R
            clear G CC R HE
            obtain ⟨c0, c1, c2, c3, c4, c5, c6, c7, c8⟩ := HC.out.cells
            simp only at c0 c1 c2 c3 c4 c5 c6 c7 c8
            rcases (show k = ps.length ∨ k < ps.length from by omega) with rfl | hlt
            · have e : (0 : Int) = res := by
                have := HQ.out
                unfold ResIs at this
                rw [List.drop_length] at this
                exact this
              clear HQ hk hm
              subst e
              go_wp2
              go_ret
              exact ⟨rfl, HG.out⟩
            · have hlt' : (k : Int) < (ps.length : Int) := by omega
              have hk0 : (0 : Int) ≤ (k : Int) := by omega
              have hw := hm.wrap hlt
              obtain ⟨g, o, c', ev, PA⟩ := HP.out.part (by omega)
              injection ev with e1 _ e3
              subst e1
              subst e3
              obtain ⟨p, hp⟩ : ∃ p, ps[k]? = some p := ⟨_, List.getElem?_eq_getElem hlt⟩
              have HPW : Hid p.wf := HWP.out p (List.mem_of_getElem? hp)
              have D := (PA k p hp).keep HG.out
              have HX : Hid (chkPs 3 (ps.drop k) = if ¬ chk p = 0 then chk p else if mayH 3 p.wn = false then 8 else chkPs 3 (ps.drop (k + 1))) := chkPs_cons hp
              clear hp PA
              obtain ⟨p0, p1, p2, p3, p4, p5, p6, p7⟩ := p
              have HD : Hid (P8 wr g (o + k * 8) ⟨p0, p1, p2, p3, p4, p5, p6, p7⟩) := D
              obtain ⟨d0, d1, d2, d3, d4, d5, d6, d7⟩ := D
              simp only at d0 d1 d2 d3 d4 d5 d6 d7
              by_cases hz : chk ⟨p0, p1, p2, p3, p4, p5, p6, p7⟩ = 0
              case neg =>
                have hz' : (chk ⟨p0, p1, p2, p3, p4, p5, p6, p7⟩ == 0) = false := beqi_no hz
                have e : chk ⟨p0, p1, p2, p3, p4, p5, p6, p7⟩ = res := by
                  have := HX.out
                  rw [if_pos hz] at this
                  rw [← this]
                  exact HQ.out
                have HE : Hid (chk ⟨p0, p1, p2, p3, p4, p5, p6, p7⟩ = res) := e
                clear HX HQ hz e
                go_wp2_with (first | (go_at_call 54; refine (rcheck_any ⟨p0, p1, p2, p3, p4, p5, p6, p7⟩ HPW.out _).mono ?_; rintro e w1 ⟨rfl, g1⟩; obtain ⟨c0, c1, c2, c3, c4, c5, c6, c7, c8⟩ := (HC.out.keep g1).cells; simp only at c0 c1 c2 c3 c4 c5 c6 c7 c8; obtain ⟨d0, d1, d2, d3, d4, d5, d6, d7⟩ := HD.out.keep g1; simp only at d0 d1 d2 d3 d4 d5 d6 d7) | fail)
                go_ret
                exact ⟨ret_int HE.out, grown_trans HG.out g1⟩
              by_cases hv : p0 = 4
              · have k0 : (p0 == 4) = true := by simp [hv]
                have k1 : (p0 != 4) = false := by simp [hv]
                have hy : mayH 3 p0 = false := by simp [mayH, hv]
                clear hv
                have e : (8 : Int) = res := by
                  have := HX.out
                  rw [if_neg (by simpa using hz), if_pos (by simp only; exact hy)] at this
                  rw [← this]
                  exact HQ.out
                clear HX HQ
                subst e
                go_wp2_with (first | (go_at_call 54; refine (rcheck_any ⟨p0, p1, p2, p3, p4, p5, p6, p7⟩ HPW.out _).mono ?_; rintro e w1 ⟨rfl, g1⟩; rw [hz]; obtain ⟨c0, c1, c2, c3, c4, c5, c6, c7, c8⟩ := (HC.out.keep g1).cells; simp only at c0 c1 c2 c3 c4 c5 c6 c7 c8; obtain ⟨d0, d1, d2, d3, d4, d5, d6, d7⟩ := HD.out.keep g1; simp only at d0 d1 d2 d3 d4 d5 d6 d7) | fail)
                go_ret
                exact ⟨rfl, grown_trans HG.out g1⟩
              · have k0 := beqi_no hv
                have k1 : (p0 != 4) = true := by simpa using hv
                have hy : mayH 3 p0 = true := by simp [mayH, hv]
                clear hv
                have HN : Hid (ResIs 3 ps (k + 1) res) := by
                  have := HX.out
                  rw [if_neg (by simpa using hz), if_neg (by simp only; rw [hy]; simp)] at this
                  unfold Hid ResIs
                  rw [← this]
                  exact HQ.out
                clear HX HQ
                go_wp2_with (first | (go_at_call 54; refine (rcheck_any ⟨p0, p1, p2, p3, p4, p5, p6, p7⟩ HPW.out _).mono ?_; rintro e w1 ⟨rfl, g1⟩; rw [hz]; obtain ⟨c0, c1, c2, c3, c4, c5, c6, c7, c8⟩ := (HC.out.keep g1).cells; simp only at c0 c1 c2 c3 c4 c5 c6 c7 c8; obtain ⟨d0, d1, d2, d3, d4, d5, d6, d7⟩ := HD.out.keep g1; simp only at d0 d1 d2 d3 d4 d5 d6 d7) | fail)
                go_roundw
                case rel => exact ⟨k + 1, hlt, (by first | rfl | (rw [hw]; rfl)), HN.out, HC.out.keep g1, grown_trans HG.out g1⟩
                case measure => first | exact meas_next hlt | (rw [hw]; exact meas_next hlt)
end Go.Proofs.YtpceelbphpfciaaGreatDoor
namespace Go.Proofs.YtpceelbphpfciaaGreatDoor
open Go.RowKit

theorem dig6_one {n : Int} (h : 0 ≤ n ∧ n ≤ 9) (w : World) : Calls Tryz.prog 48 #[.int .i64 n] w fun e w' => e = .returned (.string ⟨(Lib.itoa n).toArray⟩) ∧ w' = w := by
  rcases (show n = 0 ∨ n = 1 ∨ n = 2 ∨ n = 3 ∨ n = 4 ∨ n = 5 ∨ n = 6 ∨ n = 7 ∨ n = 8 ∨ n = 9 from by omega) with rfl | rfl | rfl | rfl | rfl | rfl | rfl | rfl | rfl | rfl
  all_goals
    go_enter Tryz.func48, Tryz.ntmps48
    go_wp2
    go_ret
    exact ⟨ret_str (by decide +kernel), rfl⟩
set_option maxHeartbeats 2000000 in
theorem dig6_two {n : Int} (h : 10 ≤ n ∧ n ≤ 99) (w : World) : Calls Tryz.prog 48 #[.int .i64 n] w fun e w' => e = .returned (.string ⟨(Lib.itoa n).toArray⟩) ∧ ∃ m, w' = w.drewN m := by
  have h1 : ¬ n < 10 := by omega
  have D1 : Int.tdiv n 10 = n / 10 := Int.tdiv_eq_ediv_of_nonneg (by omega)
  have D2 : Int.tmod n 10 = n % 10 := Int.tmod_eq_emod_of_nonneg (by omega)
  have q1 : 0 ≤ Int.tdiv n 10 ∧ Int.tdiv n 10 ≤ 9 := by rw [D1]; omega
  have E : Hid (Lib.itoa n = Lib.itoa (Int.tdiv n 10) ++ Lib.itoa (n % 10)) := by
    have := itoa_two ⟨(n - 10).toNat, by omega⟩
    rw [show ((n - 10).toNat : Int) + 10 = n by omega, D2] at this
    exact this
  have L1 := (itoa_facts (n := Int.tdiv n 10) (by omega)).2.2.1
  have L : ¬ 9223372036854775807 < (Lib.itoa (Int.tdiv n 10)).length + 1 := by omega
  have C1 := fun w => dig6_one q1 w
  have W1 : wrap64 (Int.tdiv n 10) = Int.tdiv n 10 := by
    have a := q1.1
    have b := q1.2
    unfold wrap64
    omega
  have hn0 : 0 ≤ n := by omega
  have hj : n % 10 = 0 ∨ n % 10 = 1 ∨ n % 10 = 2 ∨ n % 10 = 3 ∨ n % 10 = 4 ∨ n % 10 = 5 ∨ n % 10 = 6 ∨ n % 10 = 7 ∨ n % 10 = 8 ∨ n % 10 = 9 := by omega
  clear D1 q1 L1 h
  rcases hj with hj | hj | hj | hj | hj | hj | hj | hj | hj | hj
  · rw [hj] at D2 E
    have HJ : Hid (Lib.itoa 0 = [48]) := by unfold Hid; decide +kernel
    go_enter Tryz.func48, Tryz.ntmps48
    go_wp2_with fail
    go_quiet ((go_at_call 48; exact Calls.quiet_of_same (C1 _)))
    go_wp2
    go_ret
    exact ⟨ret_str (by rw [E.out, HJ.out]; exact ByteArray.ext (by simp)), _, rfl⟩
  · rw [hj] at D2 E
    have HJ : Hid (Lib.itoa 1 = [49]) := by unfold Hid; decide +kernel
    go_enter Tryz.func48, Tryz.ntmps48
    go_wp2_with fail
    go_quiet ((go_at_call 48; exact Calls.quiet_of_same (C1 _)))
    go_wp2
    go_ret
    exact ⟨ret_str (by rw [E.out, HJ.out]; exact ByteArray.ext (by simp)), _, rfl⟩
  · rw [hj] at D2 E
    have HJ : Hid (Lib.itoa 2 = [50]) := by unfold Hid; decide +kernel
    go_enter Tryz.func48, Tryz.ntmps48
    go_wp2_with fail
    go_quiet ((go_at_call 48; exact Calls.quiet_of_same (C1 _)))
    go_wp2
    go_ret
    exact ⟨ret_str (by rw [E.out, HJ.out]; exact ByteArray.ext (by simp)), _, rfl⟩
  · rw [hj] at D2 E
    have HJ : Hid (Lib.itoa 3 = [51]) := by unfold Hid; decide +kernel
    go_enter Tryz.func48, Tryz.ntmps48
    go_wp2_with fail
    go_quiet ((go_at_call 48; exact Calls.quiet_of_same (C1 _)))
    go_wp2
    go_ret
    exact ⟨ret_str (by rw [E.out, HJ.out]; exact ByteArray.ext (by simp)), _, rfl⟩
  · rw [hj] at D2 E
    have HJ : Hid (Lib.itoa 4 = [52]) := by unfold Hid; decide +kernel
    go_enter Tryz.func48, Tryz.ntmps48
    go_wp2_with fail
    go_quiet ((go_at_call 48; exact Calls.quiet_of_same (C1 _)))
    go_wp2
    go_ret
    exact ⟨ret_str (by rw [E.out, HJ.out]; exact ByteArray.ext (by simp)), _, rfl⟩
  · rw [hj] at D2 E
    have HJ : Hid (Lib.itoa 5 = [53]) := by unfold Hid; decide +kernel
    go_enter Tryz.func48, Tryz.ntmps48
    go_wp2_with fail
    go_quiet ((go_at_call 48; exact Calls.quiet_of_same (C1 _)))
    go_wp2
    go_ret
    exact ⟨ret_str (by rw [E.out, HJ.out]; exact ByteArray.ext (by simp)), _, rfl⟩
  · rw [hj] at D2 E
    have HJ : Hid (Lib.itoa 6 = [54]) := by unfold Hid; decide +kernel
    go_enter Tryz.func48, Tryz.ntmps48
    go_wp2_with fail
    go_quiet ((go_at_call 48; exact Calls.quiet_of_same (C1 _)))
    go_wp2
    go_ret
    exact ⟨ret_str (by rw [E.out, HJ.out]; exact ByteArray.ext (by simp)), _, rfl⟩
  · rw [hj] at D2 E
    have HJ : Hid (Lib.itoa 7 = [55]) := by unfold Hid; decide +kernel
    go_enter Tryz.func48, Tryz.ntmps48
    go_wp2_with fail
    go_quiet ((go_at_call 48; exact Calls.quiet_of_same (C1 _)))
    go_wp2
    go_ret
    exact ⟨ret_str (by rw [E.out, HJ.out]; exact ByteArray.ext (by simp)), _, rfl⟩
  · rw [hj] at D2 E
    have HJ : Hid (Lib.itoa 8 = [56]) := by unfold Hid; decide +kernel
    go_enter Tryz.func48, Tryz.ntmps48
    go_wp2_with fail
    go_quiet ((go_at_call 48; exact Calls.quiet_of_same (C1 _)))
    go_wp2
    go_ret
    exact ⟨ret_str (by rw [E.out, HJ.out]; exact ByteArray.ext (by simp)), _, rfl⟩
  · rw [hj] at D2 E
    have HJ : Hid (Lib.itoa 9 = [57]) := by unfold Hid; decide +kernel
    go_enter Tryz.func48, Tryz.ntmps48
    go_wp2_with fail
    go_quiet ((go_at_call 48; exact Calls.quiet_of_same (C1 _)))
    go_wp2
    go_ret
    exact ⟨ret_str (by rw [E.out, HJ.out]; exact ByteArray.ext (by simp)), _, rfl⟩
theorem dig6_any {n : Int} (h : 0 ≤ n ∧ n ≤ 99) (w : World) : Calls Tryz.prog 48 #[.int .i64 n] w fun e w' => e = .returned (.string ⟨(Lib.itoa n).toArray⟩) ∧ ∃ m, w' = w.drewN m := by
  by_cases h9 : n ≤ 9
  · refine (dig6_one ⟨h.1, h9⟩ w).mono ?_
    rintro e w' ⟨rfl, rfl⟩
    exact ⟨rfl, 0, rfl⟩
  · exact dig6_two ⟨by omega, h.2⟩ w
theorem bit6_any {k : Int} (h : 1 ≤ k ∧ k ≤ 8) (w : World) : Calls Tryz.prog 136 #[.int .u8 k] w fun e w' => e = .returned (.int .u16 (tBit k)) ∧ w' = w := by
  rcases eight_cases h with rfl | rfl | rfl | rfl | rfl | rfl | rfl | rfl
  all_goals
    go_enter Tryz.func136, Tryz.ntmps136
    go_wp2
    go_ret
    exact ⟨rfl, rfl⟩
set_option maxHeartbeats 1000000 in
theorem has6_any (s : Int) {k : Int} (h : 1 ≤ k ∧ k ≤ 8) (w : World) : Calls Tryz.prog 88 #[.int .u16 s, .int .u8 k] w fun e w' => e = .returned (.bool (tHas s k)) ∧ w' = w := by
  go_enter Tryz.func88, Tryz.ntmps88
  go_wp2_with fail
  refine (bit6_any h _).mono ?_
  rintro e w1 ⟨rfl, rfl⟩
  go_wp2
  go_ret
  exact ⟨rfl, rfl⟩
set_option maxHeartbeats 1000000 in
theorem with6_any (s : Int) {k : Int} (h : 1 ≤ k ∧ k ≤ 8) (w : World) : Calls Tryz.prog 99 #[.int .u16 s, .int .u8 k] w fun e w' => e = .returned (.int .u16 (tWith s k)) ∧ w' = w := by
  go_enter Tryz.func99, Tryz.ntmps99
  go_wp2_with fail
  refine (bit6_any h _).mono ?_
  rintro e w1 ⟨rfl, rfl⟩
  go_wp2
  go_ret
  exact ⟨rfl, rfl⟩
set_option maxRecDepth 100000 in
set_option maxHeartbeats 2000000 in
theorem list6_any (s : Int) (w : World) : Calls Tryz.prog 49 #[.int .u16 s] w fun e w' => ∃ v, e = .returned v ∧ Own w' w.heap.size 26 v (u8s (tList s)) ∧ w.grownBy w' none := by
  obtain ⟨i0, hi, hz0, hz1, hz2⟩ := info_parts Tryz.info26
  go_enter Tryz.func49, Tryz.ntmps49
  go_wp2_with fail
  go_loopw [3, 4] (fun v t wr => ∃ (k : Nat), k ≤ 8 ∧ t = .int .u8 ((k : Int) + 1) ∧ Own wr w.heap.size 26 v (u8s (tUpto s k)) ∧ w.grownBy wr none)
    (fun _ t _ => 9 - (intOf t).toNat)
  case atStart => exact ⟨0, Nat.zero_le _, rfl, Own.nil _ _ _, grown_refl _ _⟩
  case round =>
    obtain ⟨k, hk, rfl, O, G⟩ := hrel
    by_cases h8 : k = 8
    · subst h8
      go_wp2
      go_ret
      exact ⟨_, rfl, O, G⟩
    · have h1 : (k : Int) + 1 ≤ 8 := by omega
      have hw : IntKind.u8.wrap ((k : Int) + 1 + 1) = (k : Int) + 1 + 1 := by rw [IntKind.wrap_u8]; omega
      go_wp2_with fail
      refine (has6_any _ (by omega) _).mono ?_
      rintro e w1 ⟨rfl, rfl⟩
      cases hh : tHas s ((k : Int) + 1) with
      | false =>
        rw [← upto_out s k hh] at O
        go_wp2
        go_roundw
        case rel => exact ⟨k + 1, by omega, by go_num, O, G⟩
        case measure => simp [intOf]; omega
      | true =>
        obtain ⟨q, cp, ev⟩ := O.form
        rw [length_u8s] at ev
        subst ev
        have hl := upto_len s k
        have hsz := G.size
        have O1 : World.ownsRow w1 w.heap.size 26 1 (.slice q (tUpto s k).length cp) (tUpto s k).length (u8s (tUpto s k)) := own_u8 O
        have HO : Hid (Own w1 w.heap.size 26 (.slice q (tUpto s k).length cp) (u8s (tUpto s k))) := O
        clear O
        go_wp2_with (at_builtin; refine wpList_append_own_at _ rfl (.tmp 12) (.tmp 14) 78 rfl w.heap.size 26 i0 (.int .u8 0) 1 1 Tryz.underlying78 hi hz0 hz1 hz2 rfl (by decide) _ _ _ rfl (World.ownsRow.alloc O1 _) ⟨w1.heap.size, 0, none⟩ 1 1 [.int .u8 ((k : Int) + 1)] rfl rfl (cell_one_new _ _ _) (fun x hx => by simp at hx; subst hx; rfl) (by unfold maxLen; omega) (by omega) (by simp; omega) ?_; intro v' w3 hown' hgrow3 hnil3 hlie3)
        go_roundw
        case rel => exact ⟨k + 1, by omega, by go_num, by rw [upto_in s k hh, u8s_snoc]; exact own_snoc hown' (length_u8s _).symm, grown_own (grown_push G _) hgrow3 (fun x hx => HO.out.block x hx)⟩
        case measure => simp [intOf]; omega
end Go.Proofs.YtpceelbphpfciaaGreatDoor
