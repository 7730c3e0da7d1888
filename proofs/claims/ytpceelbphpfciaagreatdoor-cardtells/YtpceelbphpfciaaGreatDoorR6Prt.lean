/-
  What the document's own Print tells of every card: the same text, or the same error.
-/
import Derived.Test.YtpceelbphpfciaaGreatDoorRB
import Derived.Test.YtpceelbphpfciaaGreatDoorRPrt
import Derived.Test.YtpceelbphpfciaaGreatDoorCPrint
import Derived.Deep.CutRange
import Derived.Deep.CutBlock
namespace Go.Proofs.YtpceelbphpfciaaGreatDoor
open Go.RowKit

theorem join_flat : ∀ (l : List (List UInt8)) (x : List UInt8), Lib.join (x :: l) [32] = x ++ (l.map fun y => 32 :: y).flatten
  | [], x => by simp [Lib.join_one]
  | y :: r, x => by
    rw [join_cons2, join_flat r y]
    simp
def txt1 (c : Cd) : List UInt8 := c.nm.data.toList ++ 32 :: at1 suitW c.su
def txtF (c : Cd) : List UInt8 := if c.kd = 1 then 32 :: (Lib.itoa c.po ++ 47 :: Lib.itoa c.he) else []
def txt2 (c : Cd) : List UInt8 := txt1 c ++ (32 :: at1 kindW c.kd ++ (32 :: Lib.itoa c.co ++ txtF c))
def txt3 (c : Cd) : List UInt8 := txt2 c ++ (if c.tk then 32 :: tokW else [])
def txtT (l : List Int) : List UInt8 := (l.map fun t => 32 :: 43 :: at1 traitW t).flatten
theorem join_txt (c : Cd) : Lib.join (cheads c) [32] = txt3 c ++ txtT (tList c.tr) := by
  have e : cheads c = c.nm.data.toList :: ([at1 suitW c.su, at1 kindW c.kd, Lib.itoa c.co] ++ (forceW c ++ (tokenW c ++ traitsW c))) := rfl
  rw [e, join_flat]
  unfold txt3 txt2 txt1 txtF txtT forceW tokenW traitsW
  by_cases h : c.kd = 1
  · cases c.tk <;> simp [h, Function.comp_def]
  · cases c.tk <;> simp [h, Function.comp_def]
theorem txtT_snoc {l : List Int} {k : Nat} {t : Int} (h : l[k]? = some t) : txtT (l.take (k + 1)) = txtT (l.take k) ++ 32 :: 43 :: at1 traitW t := by
  rw [List.take_add_one, h]
  simp [txtT]
theorem txtT_len (l : List Int) (k : Nat) : (txtT (l.take k)).length ≤ (txtT l).length := by
  have e : txtT l = txtT (l.take k) ++ txtT (l.drop k) := by
    unfold txtT
    rw [← List.flatten_append, ← List.map_append, List.take_append_drop]
  rw [e, List.length_append]
  omega
theorem tail_app : ∀ a b : List Pt, tailT (a ++ b) = tailT a ++ tailT b
  | [], b => rfl
  | p :: r, b => by simp only [List.cons_append, tailT, tail_app r b, List.append_assoc]
theorem tail_snoc {ps : List Pt} {k : Nat} {p : Pt} (h : ps[k]? = some p) : tailT (ps.take (k + 1)) = tailT (ps.take k) ++ 32 :: 124 :: 32 :: prt p := by
  rw [List.take_add_one, h, tail_app]
  simp [tailT]
theorem tail_take (ps : List Pt) (k : Nat) : (tailT (ps.take k)).length ≤ (tailT ps).length := by
  have e : tailT ps = tailT (ps.take k) ++ tailT (ps.drop k) := by rw [← tail_app, List.take_append_drop]
  rw [e, List.length_append]
  omega
theorem len2 {c : Cd} (M : CMay c) : (txt3 c).length + (txtT (tList c.tr)).length + (tailT c.ps).length ≤ 512 := by
  have := cprt_len M
  rw [cprt_is, join_txt, List.length_append, List.length_append] at this
  omega
set_option maxRecDepth 100000 in
set_option maxHeartbeats 1000000 in
theorem r6print_bad (c : Cd) (v : Value) (w : World) (hp : PsAt w v c.ps) (hm : Small c.ps.length) (hwf : c.wf) (hz : ¬ cchk c = 0) : Calls Tryz.prog 16 #[cv c.hd v] w fun e w' => e = .returned (.tuple #[.string ⟨#[]⟩, .int .i64 (cchk c)]) ∧ w.grownBy w' none := by
  have HP : Hid (PsAt w v c.ps) := hp
  have HW : Hid (c.wf) := hwf
  obtain ⟨a, cap, rfl⟩ := hp.form
  obtain ⟨er, her⟩ : ∃ er, er = cchk c := ⟨_, rfl⟩
  rw [← her] at hz ⊢
  have hz' : (er == 0) = false := by simpa using hz
  have hz2 : (er != 0) = true := by simpa using hz
  have HE : Hid (er = cchk c) := her
  clear hp hwf hz her
  unfold cv
  go_enter Tryz.func16, Tryz.ntmps16
  go_wp2_with fail
  refine (r6check_any c.hd _ c.ps _ (HP.out.keep (World.grownBy_alloc _ _ none)) hm HW.out).mono ?_
  rintro e w1 ⟨rfl, g1⟩
  rw [with_hd, ← HE.out]
  have G1 : Hid (w.grownBy w1 none) := grown_trans (World.grownBy_alloc _ _ none) g1
  clear g1
  go_wp2
  go_ret2
  exact ⟨rfl, G1.out⟩
set_option maxRecDepth 100000 in
set_option maxHeartbeats 800000 in
theorem r6print_good (c : Cd) (v : Value) (w : World) (hp : PsAt w v c.ps) (hm : Small c.ps.length) (hwf : c.wf) (hz : cchk c = 0) : Calls Tryz.prog 16 #[cv c.hd v] w fun e w' => e = .returned (.tuple #[.string ⟨(cprt c).toArray⟩, .int .i64 0]) ∧ w.grownBy w' none := by
  have HP : Hid (PsAt w v c.ps) := hp
  have HW : Hid (c.wf) := hwf
  have HM : Hid (CMay c) := cmay_of hz
  have HZ : Hid (cchk c = 0) := hz
  have hnl : c.nm.size ≤ 512 := by have := (name_facts (cmay_of hz).nm).2; rw [Lib.size_eq]; omega
  have hsl := (suit_back (cmay_of hz).su).2.2
  obtain ⟨a, cap, rfl⟩ := hp.form
  clear hp hwf hz
  unfold cv
  go_enter Tryz.func16, Tryz.ntmps16
  go_wp2_with fail
  refine (r6check_any c.hd _ c.ps _ (HP.out.keep (World.grownBy_alloc _ _ none)) hm HW.out).mono ?_
  rintro e w1 ⟨rfl, g1⟩
  rw [with_hd, HZ.out]
  have HC1 : Hid (CAt w1 w.heap.size c.hd (.slice a c.ps.length cap)) := CAt.keep (alloc_at w (ccs c.hd (.slice a c.ps.length cap)) 40) g1
  have G1 : Hid (w.grownBy w1 none) := grown_trans (World.grownBy_alloc _ _ none) g1
  clear g1
  obtain ⟨c0, c1, c2, c3, c4, c5, c6, c7, c8⟩ := HC1.out.cells
  go_upto_region 4 with fail
  go_cut [5] from 16 to 22 (fun v5 wx => v5 = .string ⟨(txt1 c).toArray⟩ ∧ w.grownBy wx none ∧ CAt wx w.heap.size c.hd (.slice a c.ps.length cap))
  case first =>
    have s1 : ¬ 9223372036854775807 < c.hd.nm.size + 1 := by show ¬ _ < c.nm.size + 1; omega
    have s2 : ¬ 9223372036854775807 < c.hd.nm.size + 1 + (at1 suitW c.hd.su).length := by show ¬ _ < c.nm.size + 1 + (at1 suitW c.su).length; omega
    go_quiet ((go_at_call 47; exact Calls.quiet_of_same (rsname_any (k := c.hd.su) HM.out.su _)))
    go_wp2_with fail
    go_meet
    case rel => exact ⟨congrArg Value.string (by rw [ba_app, ba_app]; simp [txt1, Cd.hd]), grown_trans G1.out (grown_drewN _ _ _), HC1.out.keep (grown_drewN _ _ _)⟩
  case rest =>
  obtain ⟨rfl, G2, C2⟩ := hcut
  obtain ⟨W2, hW2⟩ : ∃ W2, W2 = wc := ⟨_, rfl⟩
  subst hW2
  have HC2 : Hid (CAt W2 w.heap.size c.hd (.slice a c.ps.length cap)) := C2
  have HG2 : Hid (w.grownBy W2 none) := G2
  clear G2 C2 G1 HC1 c0 c1 c2 c3 c4 c5 c6 c7 c8
  obtain ⟨c0, c1, c2, c3, c4, c5, c6, c7, c8⟩ := HC2.out.cells
  go_upto_block 0 with fail
  go_cut [5] from 23 to 58 (fun v5 wx => v5 = .string ⟨(txt2 c).toArray⟩ ∧ w.grownBy wx none ∧ CAt wx w.heap.size c.hd (.slice a c.ps.length cap))
  case first =>
    have l1 : (txt1 c).length ≤ 100 := by
      have := (name_facts HM.out.nm).2
      unfold txt1
      simp only [List.length_append, List.length_cons]
      omega
    have lc := (itoa_facts (n := c.hd.co) (by have := HM.out.co; show -99 ≤ c.co ∧ c.co ≤ 99; omega)).2.2.1
    have lp := (itoa_facts (n := c.hd.po) (by have := HM.out.po; show -99 ≤ c.po ∧ c.po ≤ 99; omega)).2.2.1
    have lh := (itoa_facts (n := c.hd.he) (by have := HM.out.he; show -99 ≤ c.he ∧ c.he ≤ 99; omega)).2.2.1
    have Dc := fun W => dig6_any (n := c.hd.co) (by have := HM.out.co; show 0 ≤ c.co ∧ c.co ≤ 99; omega) W
    have Dp := fun W => dig6_any (n := c.hd.po) HM.out.po W
    have Dh := fun W => dig6_any (n := c.hd.he) HM.out.he W
    have hk : c.hd.kd = 1 ∨ c.hd.kd = 2 ∨ c.hd.kd = 3 := by have := HM.out.kd; show c.kd = 1 ∨ c.kd = 2 ∨ c.kd = 3; omega
    clear hnl hsl
    rcases hk with ek | ek | ek
    · have HK : Hid (c.kd = 1) := ek
      have s1 : ¬ 9223372036854775807 < (txt1 c).length + 6 := by omega
      have s2 : ¬ 9223372036854775807 < (txt1 c).length + 6 + (Lib.itoa c.hd.co).length := by omega
      have s3 : ¬ 9223372036854775807 < (txt1 c).length + 6 + (Lib.itoa c.hd.co).length + 1 := by omega
      have s4 : ¬ 9223372036854775807 < (txt1 c).length + 6 + (Lib.itoa c.hd.co).length + 1 + (Lib.itoa c.hd.po).length := by omega
      have s5 : ¬ 9223372036854775807 < (txt1 c).length + 6 + (Lib.itoa c.hd.co).length + 1 + (Lib.itoa c.hd.po).length + 1 := by omega
      have s6 : ¬ 9223372036854775807 < (txt1 c).length + 6 + (Lib.itoa c.hd.co).length + 1 + (Lib.itoa c.hd.po).length + 1 + (Lib.itoa c.hd.he).length := by omega
      have k1 : (c.hd.kd == 1) = true := by rw [ek]; rfl
      clear ek l1 lc lp lh
      go_wp2_with fail
      go_quiet ((go_at_call 48; first | with_reducible exact Calls.quiet_of (Dc _) | with_reducible exact Calls.quiet_of (Dp _) | with_reducible exact Calls.quiet_of (Dh _)))
      go_wp2_with fail
      go_meet
      case rel => exact ⟨congrArg Value.string (by
        rw [ba_app, ba_app, ba_app, ba_app, ba_app, ba_app]
        simp [txt2, txtF, HK.out, Cd.hd, at1, kindW]), grown_trans HG2.out (grown_drewN _ _ _), HC2.out.keep (grown_drewN _ _ _)⟩
    · have HK : Hid (c.kd = 2) := ek
      have s1 : ¬ 9223372036854775807 < (txt1 c).length + 7 := by omega
      have s2 : ¬ 9223372036854775807 < (txt1 c).length + 7 + (Lib.itoa c.hd.co).length := by omega
      have k1 : (c.hd.kd == 1) = false := by rw [ek]; rfl
      have k2 : (c.hd.kd == 2) = true := by rw [ek]; rfl
      clear ek l1 lc lp lh
      go_wp2_with (go_at_call 48; refine (Dc _).mono ?_; rintro e w3 ⟨rfl, m3, rfl⟩)
      go_meet
      case rel => exact ⟨congrArg Value.string (by
        rw [ba_app, ba_app]
        simp [txt2, txtF, HK.out, Cd.hd, at1, kindW]), grown_trans HG2.out (grown_drewN _ _ _), HC2.out.keep (grown_drewN _ _ _)⟩
    · have HK : Hid (c.kd = 3) := ek
      have s1 : ¬ 9223372036854775807 < (txt1 c).length + 7 := by omega
      have s2 : ¬ 9223372036854775807 < (txt1 c).length + 7 + (Lib.itoa c.hd.co).length := by omega
      have k1 : (c.hd.kd == 1) = false := by rw [ek]; rfl
      have k2 : (c.hd.kd == 2) = false := by rw [ek]; rfl
      have k3 : (c.hd.kd == 3) = true := by rw [ek]; rfl
      clear ek l1 lc lp lh
      go_wp2_with (go_at_call 48; refine (Dc _).mono ?_; rintro e w3 ⟨rfl, m3, rfl⟩)
      go_meet
      case rel => exact ⟨congrArg Value.string (by
        rw [ba_app, ba_app]
        simp [txt2, txtF, HK.out, Cd.hd, at1, kindW]), grown_trans HG2.out (grown_drewN _ _ _), HC2.out.keep (grown_drewN _ _ _)⟩
  case rest =>
  obtain ⟨rfl, G3, C3⟩ := hcut
  obtain ⟨W3, hW3⟩ : ∃ W3, W3 = wc := ⟨_, rfl⟩
  subst hW3
  have HC3 : Hid (CAt W3 w.heap.size c.hd (.slice a c.ps.length cap)) := C3
  have HG3 : Hid (w.grownBy W3 none) := G3
  clear G3 C3 HG2 HC2 c0 c1 c2 c3 c4 c5 c6 c7 c8
  obtain ⟨c0, c1, c2, c3, c4, c5, c6, c7, c8⟩ := HC3.out.cells
  go_upto_if 60 with fail
  go_cut [5] from 61 to 62 (fun v5 wx => v5 = .string ⟨(txt3 c).toArray⟩ ∧ wx = W3)
  case first =>
    have l2 : (txt3 c).length ≤ 512 := by have := len2 HM.out; omega
    have l3 : (txt2 c).length ≤ (txt3 c).length := by unfold txt3; rw [List.length_append]; omega
    have s1 : ¬ 9223372036854775807 < (txt2 c).length + 6 := by omega
    clear l2 l3 hnl hsl
    go_wp2_with fail
    · rename_i ht
      go_meet
      case rel => exact ⟨congrArg Value.string (by
        have ht' : c.tk = true := ht
        rw [ba_app]
        simp [txt3, ht', tokW]), rfl⟩
    · rename_i ht
      go_meet
      case rel => exact ⟨congrArg Value.string (by
        have ht' : c.tk = false := ht
        simp [txt3, ht']), rfl⟩
  case rest =>
  obtain ⟨rfl, e4⟩ := hcut
  subst e4
  obtain ⟨W4, hW4⟩ : ∃ W4, W4 = wc := ⟨_, rfl⟩
  subst hW4
  go_wp2_with fail
  refine (list6_any c.hd.tr _).mono ?_
  rintro e w5 ⟨vl, rfl, o5, g5⟩
  have HC5 : Hid (CAt w5 w.heap.size c.hd (.slice a c.ps.length cap)) := HC3.out.keep g5
  have HG5 : Hid (w.grownBy w5 none) := grown_trans HG3.out g5
  have HT : Hid (∀ t ∈ tList c.hd.tr, 1 ≤ t ∧ t ≤ 8) := fun t h => list_mem h
  have HJ : Hid (Lib.join (cheads c) [32] = txt3 c ++ txtT (tList c.hd.tr)) := join_txt c
  have HLEN : Hid ((txt3 c).length + (txtT (tList c.hd.tr)).length + (tailT c.ps).length ≤ 512) := len2 HM.out
  have HO5 : Hid (Own w5 W4.heap.size 26 vl (u8s (tList c.hd.tr))) := o5
  have HN8 : Hid ((tList c.hd.tr).length ≤ 1000) := by have h8 : (tList c.hd.tr).length ≤ 8 := upto_len _ 8; unfold Hid; omega
  obtain ⟨la, lk, rfl⟩ := o5.form
  rw [length_u8s] at HO5 ⊢
  clear g5 HC3 HG3 c0 c1 c2 c3 c4 c5 c6 c7 c8 o5 hnl hsl
  go_upto_block 1 with fail
  go_cut [5, 6, 7] from 63 to 79 (fun v5 _ v7 wx => v5 = .string ⟨(Lib.join (cheads c) [32]).toArray⟩ ∧ (∃ j, v7 = .int .i64 j) ∧ w.grownBy wx none ∧ CAt wx w.heap.size c.hd (.slice a c.ps.length cap))
  case first =>
    obtain ⟨l, hl⟩ : ∃ l, l = tList c.hd.tr := ⟨_, rfl⟩
    rw [← hl] at HO5 HT HJ HLEN HN8 ⊢
    clear hl
    rcases HO5.out.at with ⟨ev, el⟩ | ⟨g, cap2, ev, _, _, _, hc⟩
    · obtain rfl : l = [] := by
        cases l with
        | nil => rfl
        | cons x r => simp [u8s] at el
      injection ev with e1 _ e3
      subst e1
      subst e3
      clear el HO5
      simp only [List.length_nil]
      go_wp2_with fail
      go_loopw [5, 7] (fun v5 v7 wr => v5 = .string ⟨(txt3 c).toArray⟩ ∧ v7 = .int .i64 0 ∧ wr = w5) (fun _ _ _ => 0)
      case atStart => exact ⟨rfl, rfl, rfl⟩
      case round =>
        obtain ⟨rfl, rfl, rfl⟩ := hrel
        go_wp2_with fail
        go_meet
        case rel => exact ⟨congrArg Value.string (by rw [HJ.out]; simp [txtT]), ⟨_, rfl⟩, HG5.out, HC5.out⟩
    · rw [length_u8s] at ev
      injection ev with e1 _ e3
      subst e1
      subst e3
      have HCE : Hid (∀ (j : Nat) t, l[j]? = some t → w5.cell? ⟨g, j, none⟩ = some (.int .u8 t)) := fun j t ht => (hc j (.int .u8 t) (by rw [u8s, List.getElem?_map, ht]; rfl)).1
      have hl8 : l.length ≤ 1000 := HN8.out
      clear hc HO5
      go_wp2_with fail
      go_loopw [5, 7] (fun v5 v7 wr => ∃ k : Nat, k ≤ l.length ∧ v5 = .string ⟨(txt3 c ++ txtT (l.take k)).toArray⟩ ∧ v7 = .int .i64 k ∧ w5.grownBy wr none) (fun _ v7 _ => l.length - (intOf v7).toNat)
      case atStart => exact ⟨0, Nat.zero_le _, by simp [txtT], rfl, grown_refl _ _⟩
      case round =>
        obtain ⟨k, hk, rfl, rfl, G⟩ := hrel
        have HG : Hid (w5.grownBy wr none) := G
        clear G
        rcases (show k = l.length ∨ k < l.length from by omega) with rfl | hlt
        · clear hk
          go_wp2_with fail
          go_meet
          case rel => exact ⟨congrArg Value.string (by rw [HJ.out, List.take_length]), ⟨_, rfl⟩, grown_trans HG5.out HG.out, HC5.out.keep HG.out⟩
        · have hlt' : (k : Int) < (l.length : Int) := by omega
          have hk0 : (0 : Int) ≤ (k : Int) := by omega
          have hw : wrap64 ((k : Int) + 1) = (k : Int) + 1 := by unfold wrap64; omega
          obtain ⟨t, ht⟩ : ∃ t, l[k]? = some t := ⟨_, List.getElem?_eq_getElem hlt⟩
          have ck := HG.out.cell (HCE.out k t ht) (by simp)
          have htb := HT.out t (List.mem_of_getElem? ht)
          have HS : Hid (txtT (l.take (k + 1)) = txtT (l.take k) ++ 32 :: 43 :: at1 traitW t) := txtT_snoc ht
          have CN := fun W => rtname_any t W
          rw [tName_at htb] at CN
          have hs := (trait_back htb).2.2
          have hll := txtT_len l k
          have hlen := HLEN.out
          obtain ⟨T, hT⟩ : ∃ T : List UInt8, T = txt3 c ++ txtT (l.take k) := ⟨_, rfl⟩
          have hTl : T.length ≤ 512 := by rw [hT, List.length_append]; omega
          have s1 : ¬ 9223372036854775807 < T.length + 2 := by omega
          have s2 : ¬ 9223372036854775807 < T.length + 2 + (at1 traitW t).length := by omega
          rw [← hT]
          have HTT : Hid (T = txt3 c ++ txtT (l.take k)) := hT
          clear hT hTl hll hlen hs htb ht
          go_wp2_with (go_at_call 50; refine (CN _).mono ?_; rintro e w6 ⟨rfl, g6⟩)
          go_roundw
          case rel => exact ⟨k + 1, hlt, congrArg Value.string (by
            rw [HS.out, ba_app, ba_app, ← List.append_assoc, ← HTT.out]
            simp), by go_num, grown_trans HG.out g6⟩
          case measure => first | exact meas_next hlt | (rw [hw]; exact meas_next hlt)
  case rest =>
  obtain ⟨rfl, ⟨j7, rfl⟩, G6, C6⟩ := hcut
  obtain ⟨W6, hW6⟩ : ∃ W6, W6 = wc := ⟨_, rfl⟩
  subst hW6
  have HC6 : Hid (CAt W6 w.heap.size c.hd (.slice a c.ps.length cap)) := C6
  have HG6 : Hid (w.grownBy W6 none) := G6
  have HJ2 : Hid ((Lib.join (cheads c) [32]).length + (tailT c.ps).length ≤ 512) := by
    unfold Hid
    rw [HJ.out, List.length_append]
    exact HLEN.out
  have HFIN : Hid (cprt c = Lib.join (cheads c) [32] ++ tailT c.ps) := cprt_is c
  obtain ⟨J, hJ⟩ : ∃ J, J = Lib.join (cheads c) [32] := ⟨_, rfl⟩
  rw [← hJ] at HJ2 HFIN ⊢
  clear G6 C6 HC5 HG5 HO5 HLEN HJ HN8 HT hJ
  by_cases h0 : c.ps.length = 0
  · have HE : Hid (cprt c = J) := by
      unfold Hid
      rw [HFIN.out, List.eq_nil_of_length_eq_zero h0]
      simp [tailT]
    obtain ⟨c0, c1, c2, c3, c4, c5, c6, c7, c8⟩ := HC6.out.cells
    rw [h0] at c8
    go_wp2_with fail
    go_loopw [5, 8] (fun v5 v8 wr => v5 = .string ⟨J.toArray⟩ ∧ v8 = .int .i64 0 ∧ wr = W6) (fun _ _ _ => 0)
    case atStart => exact ⟨rfl, rfl, rfl⟩
    case round =>
      obtain ⟨rfl, rfl, rfl⟩ := hrel
      go_wp2
      go_ret2
      exact ⟨ret_txt (by rw [HE.out]), HG6.out⟩
  · obtain ⟨g, o, cap2, ev, PA⟩ := HP.out.part (by omega)
    injection ev with e1 _ e3
    subst e1
    subst e3
    have HA : Hid (∀ j p, c.ps[j]? = some p → P8 w g (o + j * 8) p) := PA
    clear PA h0
    go_wp2_with fail
    go_loopw [5, 8] (fun v5 v8 wr => ∃ k : Nat, k ≤ c.ps.length ∧ v5 = .string ⟨(J ++ tailT (c.ps.take k)).toArray⟩ ∧ v8 = .int .i64 k ∧ CAt wr w.heap.size c.hd (.slice (some ⟨g, o, none⟩) c.ps.length cap) ∧ w.grownBy wr none) (fun _ v8 _ => c.ps.length - (intOf v8).toNat)
    case atStart => exact ⟨0, Nat.zero_le _, by simp [tailT], rfl, HC6.out, HG6.out⟩
    case round =>
      obtain ⟨k, hk, rfl, rfl, C, G⟩ := hrel
      have HG : Hid (w.grownBy wr none) := G
      have HC : Hid (CAt wr w.heap.size c.hd (.slice (some ⟨g, o, none⟩) c.ps.length cap)) := C
      clear G C HC6 HG6
      have z8 := HC.out.cells.2.2.2.2.2.2.2.2
      rcases (show k = c.ps.length ∨ k < c.ps.length from by omega) with rfl | hlt
      · have HE : Hid (cprt c = J ++ tailT (c.ps.take c.ps.length)) := by unfold Hid; rw [List.take_length]; exact HFIN.out
        clear hk
        go_wp2
        go_ret2
        exact ⟨ret_txt (by rw [HE.out]), HG.out⟩
      · have hlt' : (k : Int) < (c.ps.length : Int) := by omega
        have hk0 : (0 : Int) ≤ (k : Int) := by omega
        have hw := hm.wrap hlt
        obtain ⟨p, hp⟩ : ∃ p, c.ps[k]? = some p := ⟨_, List.getElem?_eq_getElem hlt⟩
        obtain ⟨c0, c1, c2, c3, c4, c5, c6, c7⟩ := (HA.out k p hp).keep HG.out
        have hpc : chk p = 0 := HM.out.ps p (List.mem_of_getElem? hp)
        have eB : prB p = ⟨(prt p).toArray⟩ := by unfold prB; rw [if_pos hpc]
        have CP := fun W => rprint_any p (HW.out.ps p (List.mem_of_getElem? hp)) W
        rw [eB, hpc] at CP
        have HS : Hid (tailT (c.ps.take (k + 1)) = tailT (c.ps.take k) ++ 32 :: 124 :: 32 :: prt p) := tail_snoc hp
        have hl1 := tail_take c.ps k
        have hl2 := tail_take c.ps (k + 1)
        rw [HS.out, List.length_append] at hl2
        simp only [List.length_cons] at hl2
        have hlen := HJ2.out
        obtain ⟨T, hT⟩ : ∃ T : List UInt8, T = J ++ tailT (c.ps.take k) := ⟨_, rfl⟩
        have hTl : T.length + (3 + (prt p).length) ≤ 512 := by rw [hT, List.length_append]; omega
        have s1 : ¬ 9223372036854775807 < T.length + 3 := by omega
        have s2 : ¬ 9223372036854775807 < T.length + 3 + (prt p).length := by omega
        rw [← hT]
        have HTT : Hid (T = J ++ tailT (c.ps.take k)) := hT
        clear hT hTl hl1 hl2 hlen hpc eB hp
        obtain ⟨p0, p1, p2, p3, p4, p5, p6, p7⟩ := p
        simp only at c0 c1 c2 c3 c4 c5 c6 c7
        have CP' : Hid (∀ W, Calls Tryz.prog 33 #[pv ⟨p0, p1, p2, p3, p4, p5, p6, p7⟩] W fun e w' => e = .returned (.tuple #[.string ⟨(prt ⟨p0, p1, p2, p3, p4, p5, p6, p7⟩).toArray⟩, .int .i64 0]) ∧ W.grownBy w' none) := CP
        clear CP
        go_wp2_with fail
        refine Calls.mono (CP'.out _) ?_
        rintro e w7 ⟨rfl, g7⟩
        go_wp2_with fail
        go_roundw
        case rel => exact ⟨k + 1, hlt, congrArg Value.string (by
          rw [HS.out, ba_app, ba_app, ← List.append_assoc, ← HTT.out]
          simp), by first | (rw [hw]; rfl) | go_num, HC.out.keep g7, grown_trans HG.out g7⟩
        case measure => first | exact meas_next hlt | (rw [hw]; exact meas_next hlt)
theorem r6print_any (c : Cd) (v : Value) (w : World) (hp : PsAt w v c.ps) (hm : Small c.ps.length) (hwf : c.wf) : Calls Tryz.prog 16 #[cv c.hd v] w fun e w' => e = .returned (.tuple #[.string (cprB c), .int .i64 (cchk c)]) ∧ w.grownBy w' none := by
  unfold cprB
  by_cases hz : cchk c = 0
  · rw [if_pos hz]
    have := r6print_good c v w hp hm hwf hz
    rwa [← hz] at this
  · rw [if_neg hz]
    exact r6print_bad c v w hp hm hwf hz
end Go.Proofs.YtpceelbphpfciaaGreatDoor
