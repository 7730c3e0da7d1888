/-
  CardBack, and some of the chapter's examples: there and back.
-/
import Derived.Test.YtpceelbphpfciaaGreatDoorCParse
import Derived.Test.YtpceelbphpfciaaGreatDoorCSame
import Derived.Test.YtpceelbphpfciaaGreatDoorRPure
namespace Go.Proofs.YtpceelbphpfciaaGreatDoor
open Go.RowKit

def rockC : Cd := ⟨⟨#[114, 111, 99, 107]⟩, 2, 1, 1, 1, 1, 0, false, []⟩
def rock2 : Cd := ⟨⟨#[114, 111, 99, 107]⟩, 2, 1, 1, 1, 1, 2, true, []⟩
theorem rock_chk : cchk rockC = 0 := by decide +kernel
theorem rock2_chk : cchk rock2 = 0 := by decide +kernel
theorem rock_txt : cprt rockC = [114, 111, 99, 107, 32, 101, 97, 114, 116, 104, 32, 117, 110, 105, 116, 32, 49, 32, 49, 47, 49] := by decide +kernel
theorem rock2_txt : cprt rock2 = [114, 111, 99, 107, 32, 101, 97, 114, 116, 104, 32, 117, 110, 105, 116, 32, 49, 32, 49, 47, 49, 32, 116, 111, 107, 101, 110, 32, 43, 103, 117, 97, 114, 100] := by decide +kernel
theorem rock2_back : cparse [114, 111, 99, 107, 32, 101, 97, 114, 116, 104, 32, 117, 110, 105, 116, 32, 49, 32, 49, 47, 49, 32, 116, 111, 107, 101, 110, 32, 43, 103, 117, 97, 114, 100] = (rock2, 0) := by
  rw [← rock2_txt]
  exact cparse_prt (wf_of rock2_chk ⟨by decide, by decide⟩) rock2_chk
theorem rock_any (w : World) : Calls Tryz.prog 25 #[] w fun e w' => e = .returned (.agg #[.string ⟨#[114, 111, 99, 107]⟩, .int .u8 2, .int .u8 1, .int .i64 1, .int .i64 1, .int .i64 1, .int .u16 0, .bool false, .slice none 0 0]) ∧ w.grownBy w' none := by
  go_enter Tryz.func25, Tryz.ntmps25
  go_wp2
  refine bodyPost_ret (v := .agg #[.string ⟨#[114, 111, 99, 107]⟩, .int .u8 2, .int .u8 1, .int .i64 1, .int .i64 1, .int .i64 1, .int .u16 0, .bool false, .slice none 0 0]) (by simp [results, Tryz.results25, go_sem]) rfl ⟨rfl, ?_⟩
  exact World.grownBy_alloc _ _ _
theorem nil_at (w : World) : PsAt w (.slice none 0 0) [] := Or.inl ⟨rfl, rfl⟩
theorem small_nil : Small ([] : List Pt).length := by unfold Small; simp
theorem rock_print (w : World) (L : LaidAt w) : Calls Tryz.prog 13 #[.agg #[.string ⟨#[114, 111, 99, 107]⟩, .int .u8 2, .int .u8 1, .int .i64 1, .int .i64 1, .int .i64 1, .int .u16 0, .bool false, .slice none 0 0]] w fun e w' => e = .returned (.tuple #[.string ⟨#[114, 111, 99, 107, 32, 101, 97, 114, 116, 104, 32, 117, 110, 105, 116, 32, 49, 32, 49, 47, 49]⟩, .int .i64 0]) ∧ w.grownBy w' none := by
  have := cprint_any rockC (.slice none 0 0) w L (nil_at w) small_nil
  have e : cprB rockC = ⟨#[114, 111, 99, 107, 32, 101, 97, 114, 116, 104, 32, 117, 110, 105, 116, 32, 49, 32, 49, 47, 49]⟩ := by unfold cprB; rw [if_pos rock_chk, rock_txt]
  rw [rock_chk, e] at this
  exact this
theorem rock_check (w : World) : Calls Tryz.prog 12 #[.agg #[.string ⟨#[114, 111, 99, 107]⟩, .int .u8 2, .int .u8 1, .int .i64 1, .int .i64 1, .int .i64 1, .int .u16 0, .bool false, .slice none 0 0]] w fun e w' => e = .returned (.int .i64 0) ∧ w.grownBy w' none := by
  have := ccheck_any rockC.hd (.slice none 0 0) [] w (nil_at w) small_nil
  have e : cchk (rockC.hd.with []) = 0 := rock_chk
  rw [e] at this
  exact this
theorem rock2_parse (w : World) (L : LaidAt w) : Calls Tryz.prog 23 #[.string ⟨#[114, 111, 99, 107, 32, 101, 97, 114, 116, 104, 32, 117, 110, 105, 116, 32, 49, 32, 49, 47, 49, 32, 116, 111, 107, 101, 110, 32, 43, 103, 117, 97, 114, 100]⟩] w fun e w' => (∃ a n k, e = .returned (.tuple #[.agg #[.string ⟨#[114, 111, 99, 107]⟩, .int .u8 2, .int .u8 1, .int .i64 1, .int .i64 1, .int .i64 1, .int .u16 2, .bool true, .slice a n k], .int .i64 0])) ∧ w.grownBy w' none := by
  refine (cparse_any ⟨#[114, 111, 99, 107, 32, 101, 97, 114, 116, 104, 32, 117, 110, 105, 116, 32, 49, 32, 49, 47, 49, 32, 116, 111, 107, 101, 110, 32, 43, 103, 117, 97, 114, 100]⟩ w L).mono ?_
  rintro e w' ⟨⟨u, he, O⟩, g⟩
  have e2 : cparse (⟨#[114, 111, 99, 107, 32, 101, 97, 114, 116, 104, 32, 117, 110, 105, 116, 32, 49, 32, 49, 47, 49, 32, 116, 111, 107, 101, 110, 32, 43, 103, 117, 97, 114, 100]⟩ : ByteArray).data.toList = (rock2, 0) := rock2_back
  rw [e2] at he O
  obtain ⟨a, k, rfl⟩ := O.at.form
  exact ⟨⟨a, _, k, he⟩, g⟩
set_option maxHeartbeats 1000000 in
set_option maxRecDepth 100000 in
theorem awake_any (w : World) (L : LaidAt w) : Calls Tryz.prog 27 #[] w fun e w' => e = .returned (.bool true) ∧ w.grownBy w' none := by
  have HL : Hid (LaidAt w) := L
  clear L
  go_enter Tryz.func27, Tryz.ntmps27
  go_wp2_with fail
  refine (rock_any _).mono ?_
  rintro e w1 ⟨rfl, g1⟩
  have G1 : Hid (w.grownBy (w1.alloc (.cells #[.string ⟨#[114, 111, 99, 107]⟩, .int .u8 2, .int .u8 1, .int .i64 1, .int .i64 1, .int .i64 1, .int .u16 0, .bool false, .slice none 0 0] 40)) none) := grown_push g1 _
  have C1 : CAt (w1.alloc (.cells #[.string ⟨#[114, 111, 99, 107]⟩, .int .u8 2, .int .u8 1, .int .i64 1, .int .i64 1, .int .i64 1, .int .u16 0, .bool false, .slice none 0 0] 40)) w1.heap.size rockC.hd (.slice none 0 0) := alloc_at w1 _ _
  have HC1 : Hid (CAt (w1.alloc (.cells #[.string ⟨#[114, 111, 99, 107]⟩, .int .u8 2, .int .u8 1, .int .i64 1, .int .i64 1, .int .i64 1, .int .u16 0, .bool false, .slice none 0 0] 40)) w1.heap.size rockC.hd (.slice none 0 0)) := C1
  clear C1 g1
  go_wp2_with fail
  refine (rock_print _ (HL.out.keep G1.out)).mono ?_
  rintro e w2 ⟨rfl, g2⟩
  have G2 : Hid (w.grownBy w2 none) := grown_trans G1.out g2
  have HC2 : Hid (CAt w2 w1.heap.size rockC.hd (.slice none 0 0)) := HC1.out.keep g2
  clear g2 G1 HC1
  go_wp2_with fail
  refine (rock2_parse _ (HL.out.keep G2.out)).mono ?_
  rintro e w3 ⟨⟨a, n, k, rfl⟩, g3⟩
  have G4 : Hid (w.grownBy (w3.alloc (.cells #[.string ⟨#[114, 111, 99, 107]⟩, .int .u8 2, .int .u8 1, .int .i64 1, .int .i64 1, .int .i64 1, .int .u16 2, .bool true, .slice a n k] 40)) none) := grown_push (grown_trans G2.out g3) _
  have HC4 : Hid (CAt (w3.alloc (.cells #[.string ⟨#[114, 111, 99, 107]⟩, .int .u8 2, .int .u8 1, .int .i64 1, .int .i64 1, .int .i64 1, .int .u16 2, .bool true, .slice a n k] 40)) w1.heap.size rockC.hd (.slice none 0 0)) := (HC2.out.keep g3).keep (World.grownBy_alloc _ _ none)
  have HD4 : Hid (CAt (w3.alloc (.cells #[.string ⟨#[114, 111, 99, 107]⟩, .int .u8 2, .int .u8 1, .int .i64 1, .int .i64 1, .int .i64 1, .int .u16 2, .bool true, .slice a n k] 40)) w3.heap.size rock2.hd (.slice a n k)) := alloc_at w3 _ _
  clear g3 G2 HC2
  obtain ⟨c0, c1, c2, c3, c4, c5, c6, c7, c8⟩ := HC4.out.cells
  simp only [rockC, Cd.hd] at c0 c1 c2 c3 c4 c5 c6 c7 c8
  go_wp2_with fail
  refine (rock_check _).mono ?_
  rintro e w5 ⟨rfl, g5⟩
  have G5 : Hid (w.grownBy w5 none) := grown_trans G4.out g5
  obtain ⟨d0, d1, d2, d3, d4, d5, d6, d7, d8⟩ := (HD4.out.keep g5).cells
  simp only [rock2, Cd.hd] at d0 d1 d2 d3 d4 d5 d6 d7 d8
  clear g5 G4 HC4 HD4 c0 c1 c2 c3 c4 c5 c6 c7 c8
  go_wp2
  go_ret
  exact ⟨rfl, G5.out⟩
theorem ba_back (s : ByteArray) : (⟨s.data.toList.toArray⟩ : ByteArray) = s := by
  obtain ⟨⟨l⟩⟩ := s
  rfl
theorem same_is {a b : Hd} {p q : List Pt} : (sameHd a b && samePs p q) = true ↔ a.with p = b.with q := by
  constructor
  · intro h
    rw [Bool.and_eq_true] at h
    rw [samePs_yes h.2, hd_ext h.1]
  · intro h
    have e1 : a = b := congrArg Cd.hd h
    have e2 : p = q := congrArg Cd.ps h
    subst e1
    subst e2
    rw [sameHd_refl, samePs_refl]
    rfl
set_option maxHeartbeats 2000000 in
set_option maxRecDepth 100000 in
theorem back_any (h d : Hd) (vh vd : Value) (lh ld : List Pt) (s : ByteArray) (w : World) (L : LaidAt w) (Ph : PsAt w vh lh) (Pd : PsAt w vd ld) (Fh : Small lh.length) (Fd : Small ld.length) (Wh : (h.with lh).wf) (Wd : (d.with ld).wf) : Calls Tryz.prog 7 #[cv h vh, cv d vd, .string s] w fun e w' => e = .returned (.bool true) ∧ w.grownBy w' none := by
  have HL : Hid (LaidAt w) := L
  have HPh : Hid (PsAt w vh lh) := Ph
  have HPd : Hid (PsAt w vd ld) := Pd
  have HFh : Hid (Small lh.length) := Fh
  have HFd : Hid (Small ld.length) := Fd
  have HWh : Hid ((h.with lh).wf) := Wh
  have HWd : Hid ((d.with ld).wf) := Wd
  obtain ⟨uh, kh, rfl⟩ := Ph.form
  obtain ⟨ud, kd, rfl⟩ := Pd.form
  clear L Ph Pd Fh Fd Wh Wd
  have HG0 : Hid (w.grownBy ((w.alloc (.cells (ccs h (.slice uh lh.length kh)) 40)).alloc (.cells (ccs d (.slice ud ld.length kd)) 40)) none) := grown_push (World.grownBy_alloc _ _ none) _
  have HCh : Hid (CAt ((w.alloc (.cells (ccs h (.slice uh lh.length kh)) 40)).alloc (.cells (ccs d (.slice ud ld.length kd)) 40)) w.heap.size h (.slice uh lh.length kh)) := CAt.keep (alloc_at w _ _) (World.grownBy_alloc _ _ none)
  have HCd : Hid (CAt ((w.alloc (.cells (ccs h (.slice uh lh.length kh)) 40)).alloc (.cells (ccs d (.slice ud ld.length kd)) 40)) (w.heap.size + 1) d (.slice ud ld.length kd)) := by
    have := alloc_at (w.alloc (.cells (ccs h (.slice uh lh.length kh)) 40)) (ccs d (.slice ud ld.length kd)) 40
    rw [World.size_alloc] at this
    exact this
  obtain ⟨W0, hW0⟩ : ∃ W0, W0 = ((w.alloc (.cells (ccs h (.slice uh lh.length kh)) 40)).alloc (.cells (ccs d (.slice ud ld.length kd)) 40)) := ⟨_, rfl⟩
  rw [← hW0] at HG0 HCh HCd
  unfold ccs at hW0
  unfold cv
  go_enter Tryz.func7, Tryz.ntmps7
  go_upto_region 1 with fail
  rw [← hW0]
  clear hW0
  obtain ⟨c0, c1, c2, c3, c4, c5, c6, c7, c8⟩ := HCh.out.cells
  go_wp2_with fail
  refine (cprint_any (h.with lh) (.slice uh lh.length kh) _ (HL.out.keep HG0.out) (HPh.out.keep HG0.out) HFh.out).mono ?_
  rintro e w1 ⟨rfl, g1⟩
  have HG1 : Hid (w.grownBy w1 none) := grown_trans HG0.out g1
  have HCh1 : Hid (CAt w1 w.heap.size h (.slice uh lh.length kh)) := HCh.out.keep g1
  have HCd1 : Hid (CAt w1 (w.heap.size + 1) d (.slice ud ld.length kd)) := HCd.out.keep g1
  clear g1 HG0 HCh HCd c0 c1 c2 c3 c4 c5 c6 c7 c8
  obtain ⟨c0, c1, c2, c3, c4, c5, c6, c7, c8⟩ := HCd1.out.cells
  go_wp2_with fail
  refine (cprint_any (d.with ld) (.slice ud ld.length kd) _ (HL.out.keep HG1.out) (HPd.out.keep HG1.out) HFd.out).mono ?_
  rintro e w2 ⟨rfl, g2⟩
  have HG2 : Hid (w.grownBy w2 none) := grown_trans HG1.out g2
  have HCh2 : Hid (CAt w2 w.heap.size h (.slice uh lh.length kh)) := HCh1.out.keep g2
  have HCd2 : Hid (CAt w2 (w.heap.size + 1) d (.slice ud ld.length kd)) := HCd1.out.keep g2
  clear g2 HG1 HCh1 HCd1 c0 c1 c2 c3 c4 c5 c6 c7 c8
  obtain ⟨er2, her2⟩ : ∃ er2, er2 = cchk (d.with ld) := ⟨_, rfl⟩
  rw [← her2]
  obtain ⟨ty, hty⟩ : ∃ ty, ty = cprB (d.with ld) := ⟨_, rfl⟩
  rw [← hty]
  have HER2 : Hid (er2 = cchk (d.with ld)) := her2
  have HTY : Hid (ty = cprB (d.with ld)) := hty
  clear her2 hty
  by_cases hc : cchk (h.with lh) = 0
  · have eB : cprB (h.with lh) = ⟨(cprt (h.with lh)).toArray⟩ := by unfold cprB; rw [if_pos hc]
    have HBK : Hid (cparse (cprt (h.with lh)) = (h.with lh, 0)) := cparse_prt HWh.out hc
    have hlen : ¬ (512 : Int) < ((⟨(cprt (h.with lh)).toArray⟩ : ByteArray).size : Int) := by
      have := cprt_len (cmay_of hc)
      rw [Lib.size_eq]
      simp
      omega
    rw [hc, eB]
    have HHC : Hid (cchk (h.with lh) = 0) := hc
    obtain ⟨tx, htx⟩ : ∃ tx : ByteArray, tx = ⟨(cprt (h.with lh)).toArray⟩ := ⟨_, rfl⟩
    have HTX : Hid (tx.data.toList = cprt (h.with lh)) := by unfold Hid; rw [htx]
    rw [← htx] at hlen ⊢
    clear eB hc htx
    go_wp2_with fail
    refine (cparse_any tx _ (HL.out.keep HG2.out)).mono ?_
    rintro e w3 ⟨⟨u, rfl, O3⟩, g3⟩
    rw [HTX.out, HBK.out] at O3 ⊢
    obtain ⟨a3, k3, rfl⟩ := O3.at.form
    change POwn w3 _ (.slice a3 lh.length k3) lh at O3
    have HG3 : Hid (w.grownBy (w3.alloc (.cells (ccs h (.slice a3 lh.length k3)) 40)) none) := grown_push (grown_trans HG2.out g3) _
    have HCb3 : Hid (CAt (w3.alloc (.cells (ccs h (.slice a3 lh.length k3)) 40)) w3.heap.size h (.slice a3 lh.length k3)) := alloc_at w3 _ _
    have HO3 : Hid (POwn (w3.alloc (.cells (ccs h (.slice a3 lh.length k3)) 40)) 0 (.slice a3 lh.length k3) lh) := (O3.big (Nat.zero_le _)).keep (World.grownBy_alloc _ _ none) (by simp)
    have HCh3 : Hid (CAt (w3.alloc (.cells (ccs h (.slice a3 lh.length k3)) 40)) w.heap.size h (.slice uh lh.length kh)) := (HCh2.out.keep g3).keep (World.grownBy_alloc _ _ none)
    have HCd3 : Hid (CAt (w3.alloc (.cells (ccs h (.slice a3 lh.length k3)) 40)) (w.heap.size + 1) d (.slice ud ld.length kd)) := (HCd2.out.keep g3).keep (World.grownBy_alloc _ _ none)
    obtain ⟨W3, hW3⟩ : ∃ W3, W3 = w3.alloc (.cells (ccs h (.slice a3 lh.length k3)) 40) := ⟨_, rfl⟩
    rw [← hW3] at HG3 HCb3 HO3 HCh3 HCd3
    obtain ⟨q, hq⟩ : ∃ q, q = w3.heap.size := ⟨_, rfl⟩
    rw [← hq] at HCb3
    unfold ccs at hW3
    clear g3 O3 HG2 HCh2 HCd2
    simp only [cv, Cd.hd, Hd.with]
    go_upto_region 5 with fail
    rw [← hW3, ← hq]
    clear hW3 hq
    obtain ⟨c0, c1, c2, c3, c4, c5, c6, c7, c8⟩ := HCb3.out.cells
    obtain ⟨d0, d1, d2, d3, d4, d5, d6, d7, d8⟩ := HCh3.out.cells
    go_wp2_with fail
    refine (sameCard_any h h (.slice a3 lh.length k3) (.slice uh lh.length kh) lh lh _ HO3.out.at (HPh.out.keep HG3.out) HFh.out).mono ?_
    rintro e w4 ⟨rfl, g4⟩
    rw [sameHd_refl, samePs_refl]
    have HG4 : Hid (w.grownBy w4 none) := grown_trans HG3.out g4
    have HCh4 : Hid (CAt w4 w.heap.size h (.slice uh lh.length kh)) := HCh3.out.keep g4
    have HCd4 : Hid (CAt w4 (w.heap.size + 1) d (.slice ud ld.length kd)) := HCd3.out.keep g4
    clear g4 HG3 HCb3 HO3 HCh3 HCd3 c0 c1 c2 c3 c4 c5 c6 c7 c8 d0 d1 d2 d3 d4 d5 d6 d7 d8
    by_cases hd : er2 = 0
    · have hd' : cchk (d.with ld) = 0 := HER2.out ▸ hd
      have eD : cprB (d.with ld) = ⟨(cprt (d.with ld)).toArray⟩ := by unfold cprB; rw [if_pos hd']
      have HEQ : Hid ((tx.toList == ty.toList) = (sameHd h d && samePs lh ld)) := by
        unfold Hid
        rw [HTY.out, eD, Lib.toList_data, Lib.toList_data, HTX.out]
        rw [Bool.eq_iff_iff, same_is]
        constructor
        · intro hx
          exact cprt_inj HWh.out HWd.out HHC.out hd' (by simpa using hx)
        · intro hx
          rw [hx]
          simp
      subst hd
      obtain ⟨bb, hbb⟩ : ∃ bb, bb = (tx.toList == ty.toList) := ⟨_, rfl⟩
      have hbb' : (tx.toList == ty.toList) = bb := hbb.symm
      rw [hbb'] at HEQ
      clear hd' eD hbb
      obtain ⟨c0, c1, c2, c3, c4, c5, c6, c7, c8⟩ := HCh4.out.cells
      obtain ⟨d0, d1, d2, d3, d4, d5, d6, d7, d8⟩ := HCd4.out.cells
      go_wp2_with fail
      refine (sameCard_any h d (.slice uh lh.length kh) (.slice ud ld.length kd) lh ld _ (HPh.out.keep HG4.out) (HPd.out.keep HG4.out) HFh.out).mono ?_
      rintro e w5 ⟨rfl, g5⟩
      rw [← HEQ.out]
      have HG5 : Hid (w.grownBy w5 none) := grown_trans HG4.out g5
      clear g5 HG4 HCh4 HCd4 c0 c1 c2 c3 c4 c5 c6 c7 c8 d0 d1 d2 d3 d4 d5 d6 d7 d8 HEQ
      go_wp2_with fail
      refine (cparse_any s _ (HL.out.keep HG5.out)).mono ?_
      rintro e w7 ⟨⟨u, rfl, O7⟩, g7⟩
      obtain ⟨a7, k7, rfl⟩ := O7.at.form
      by_cases hz : (cparse s.data.toList).2 = 0
      · have hy := cparse_yes hz
        have eB : cprB (cparse s.data.toList).1 = s := by
          unfold cprB
          rw [if_pos hy.1, hy.2]
        have hsm : Small (cparse s.data.toList).1.ps.length := by
          have := (cmay_of hy.1).len
          unfold Small
          omega
        rw [hz]
        have HZC : Hid (cchk (cparse s.data.toList).1 = 0) := hy.1
        generalize (cparse s.data.toList).1 = z at O7 eB hsm HZC ⊢
        have HB : Hid (cprB z = s) := eB
        have HSM : Hid (Small z.ps.length) := hsm
        have G7 : Hid (w.grownBy (w7.alloc (.cells (ccs z.hd (.slice a7 z.ps.length k7)) 40)) none) := grown_push (grown_trans HG5.out g7) _
        have HC7 : Hid (CAt (w7.alloc (.cells (ccs z.hd (.slice a7 z.ps.length k7)) 40)) w7.heap.size z.hd (.slice a7 z.ps.length k7)) := alloc_at w7 _ _
        have HO7 : Hid (POwn (w7.alloc (.cells (ccs z.hd (.slice a7 z.ps.length k7)) 40)) 0 (.slice a7 z.ps.length k7) z.ps) := (O7.big (Nat.zero_le _)).keep (World.grownBy_alloc _ _ none) (by simp)
        unfold ccs at G7 HC7 HO7
        clear hz hy eB hsm O7 g7
        simp only [cv]
        go_upto_region 12 with fail
        go_wp2_with fail
        refine (cprint_any z (.slice a7 z.ps.length k7) _ (HL.out.keep G7.out) HO7.out.at HSM.out).mono ?_
        rintro e w8 ⟨rfl, g8⟩
        have G8 : Hid (w.grownBy w8 none) := grown_trans G7.out g8
        have HC8 : Hid (CAt w8 w7.heap.size z.hd (.slice a7 z.ps.length k7)) := HC7.out.keep g8
        have HO8 : Hid (POwn w8 0 (.slice a7 z.ps.length k7) z.ps) := HO7.out.keep g8 (by simp)
        rw [HB.out, HZC.out]
        clear g8 G7 HC7 HO7
        obtain ⟨c0, c1, c2, c3, c4, c5, c6, c7, c8⟩ := HC8.out.cells
        go_wp2_with fail
        refine (ccheck_any z.hd (.slice a7 z.ps.length k7) z.ps _ HO8.out.at HSM.out).mono ?_
        rintro e w9 ⟨rfl, g9⟩
        rw [with_hd, HZC.out]
        have G9 : Hid (w.grownBy w9 none) := grown_trans G8.out g9
        clear g9 G8 HC8 HO8 c0 c1 c2 c3 c4 c5 c6 c7 c8
        go_wp2_with fail
        refine (awake_any _ (HL.out.keep G9.out)).mono ?_
        rintro e w10 ⟨rfl, g10⟩
        go_wp2
        go_ret
        exact ⟨rfl, grown_trans G9.out g10⟩
      · have G7 : Hid (w.grownBy (w7.alloc (.cells (ccs (cparse s.data.toList).1.hd (.slice a7 (cparse s.data.toList).1.ps.length k7)) 40)) none) := grown_push (grown_trans HG5.out g7) _
        unfold ccs at G7
        generalize (cparse s.data.toList).1.ps.length = n7 at G7 ⊢
        generalize (cparse s.data.toList).1.hd = z7 at G7 ⊢
        generalize (cparse s.data.toList).2 = er at hz ⊢
        have hn : (er != 0) = true := by simpa using hz
        have hn2 : (er == 0) = false := by simpa using hz
        clear hz O7 g7
        simp only [cv]
        go_wp2_with fail
        refine (awake_any _ (HL.out.keep G7.out)).mono ?_
        rintro e w10 ⟨rfl, g10⟩
        go_wp2
        go_ret
        exact ⟨rfl, grown_trans G7.out g10⟩
    · have hn : (er2 == 0) = false := by simpa using hd
      clear hd HCh4 HCd4
      go_wp2_with fail
      refine (cparse_any s _ (HL.out.keep HG4.out)).mono ?_
      rintro e w7 ⟨⟨u, rfl, O7⟩, g7⟩
      obtain ⟨a7, k7, rfl⟩ := O7.at.form
      by_cases hz : (cparse s.data.toList).2 = 0
      · have hy := cparse_yes hz
        have eB : cprB (cparse s.data.toList).1 = s := by
          unfold cprB
          rw [if_pos hy.1, hy.2]
        have hsm : Small (cparse s.data.toList).1.ps.length := by
          have := (cmay_of hy.1).len
          unfold Small
          omega
        rw [hz]
        have HZC : Hid (cchk (cparse s.data.toList).1 = 0) := hy.1
        generalize (cparse s.data.toList).1 = z at O7 eB hsm HZC ⊢
        have HB : Hid (cprB z = s) := eB
        have HSM : Hid (Small z.ps.length) := hsm
        have G7 : Hid (w.grownBy (w7.alloc (.cells (ccs z.hd (.slice a7 z.ps.length k7)) 40)) none) := grown_push (grown_trans HG4.out g7) _
        have HC7 : Hid (CAt (w7.alloc (.cells (ccs z.hd (.slice a7 z.ps.length k7)) 40)) w7.heap.size z.hd (.slice a7 z.ps.length k7)) := alloc_at w7 _ _
        have HO7 : Hid (POwn (w7.alloc (.cells (ccs z.hd (.slice a7 z.ps.length k7)) 40)) 0 (.slice a7 z.ps.length k7) z.ps) := (O7.big (Nat.zero_le _)).keep (World.grownBy_alloc _ _ none) (by simp)
        unfold ccs at G7 HC7 HO7
        clear hz hy eB hsm O7 g7
        simp only [cv]
        go_upto_region 12 with fail
        go_wp2_with fail
        refine (cprint_any z (.slice a7 z.ps.length k7) _ (HL.out.keep G7.out) HO7.out.at HSM.out).mono ?_
        rintro e w8 ⟨rfl, g8⟩
        have G8 : Hid (w.grownBy w8 none) := grown_trans G7.out g8
        have HC8 : Hid (CAt w8 w7.heap.size z.hd (.slice a7 z.ps.length k7)) := HC7.out.keep g8
        have HO8 : Hid (POwn w8 0 (.slice a7 z.ps.length k7) z.ps) := HO7.out.keep g8 (by simp)
        rw [HB.out, HZC.out]
        clear g8 G7 HC7 HO7
        obtain ⟨c0, c1, c2, c3, c4, c5, c6, c7, c8⟩ := HC8.out.cells
        go_wp2_with fail
        refine (ccheck_any z.hd (.slice a7 z.ps.length k7) z.ps _ HO8.out.at HSM.out).mono ?_
        rintro e w9 ⟨rfl, g9⟩
        rw [with_hd, HZC.out]
        have G9 : Hid (w.grownBy w9 none) := grown_trans G8.out g9
        clear g9 G8 HC8 HO8 c0 c1 c2 c3 c4 c5 c6 c7 c8
        go_wp2_with fail
        refine (awake_any _ (HL.out.keep G9.out)).mono ?_
        rintro e w10 ⟨rfl, g10⟩
        go_wp2
        go_ret
        exact ⟨rfl, grown_trans G9.out g10⟩
      · have G7 : Hid (w.grownBy (w7.alloc (.cells (ccs (cparse s.data.toList).1.hd (.slice a7 (cparse s.data.toList).1.ps.length k7)) 40)) none) := grown_push (grown_trans HG4.out g7) _
        unfold ccs at G7
        generalize (cparse s.data.toList).1.ps.length = n7 at G7 ⊢
        generalize (cparse s.data.toList).1.hd = z7 at G7 ⊢
        generalize (cparse s.data.toList).2 = er at hz ⊢
        have hn : (er != 0) = true := by simpa using hz
        have hn2 : (er == 0) = false := by simpa using hz
        clear hz O7 g7
        simp only [cv]
        go_wp2_with fail
        refine (awake_any _ (HL.out.keep G7.out)).mono ?_
        rintro e w10 ⟨rfl, g10⟩
        go_wp2
        go_ret
        exact ⟨rfl, grown_trans G7.out g10⟩
  · obtain ⟨er1, her1⟩ : ∃ er1, er1 = cchk (h.with lh) := ⟨_, rfl⟩
    rw [← her1] at hc ⊢
    have hn : (er1 == 0) = false := by simpa using hc
    obtain ⟨tx, htx⟩ : ∃ tx, tx = cprB (h.with lh) := ⟨_, rfl⟩
    rw [← htx]
    clear hc her1 htx HCh2 HCd2
    go_wp2_with fail
    refine (cparse_any s _ (HL.out.keep HG2.out)).mono ?_
    rintro e w7 ⟨⟨u, rfl, O7⟩, g7⟩
    obtain ⟨a7, k7, rfl⟩ := O7.at.form
    by_cases hz : (cparse s.data.toList).2 = 0
    · have hy := cparse_yes hz
      have eB : cprB (cparse s.data.toList).1 = s := by
        unfold cprB
        rw [if_pos hy.1, hy.2]
      have hsm : Small (cparse s.data.toList).1.ps.length := by
        have := (cmay_of hy.1).len
        unfold Small
        omega
      rw [hz]
      have HZC : Hid (cchk (cparse s.data.toList).1 = 0) := hy.1
      generalize (cparse s.data.toList).1 = z at O7 eB hsm HZC ⊢
      have HB : Hid (cprB z = s) := eB
      have HSM : Hid (Small z.ps.length) := hsm
      have G7 : Hid (w.grownBy (w7.alloc (.cells (ccs z.hd (.slice a7 z.ps.length k7)) 40)) none) := grown_push (grown_trans HG2.out g7) _
      have HC7 : Hid (CAt (w7.alloc (.cells (ccs z.hd (.slice a7 z.ps.length k7)) 40)) w7.heap.size z.hd (.slice a7 z.ps.length k7)) := alloc_at w7 _ _
      have HO7 : Hid (POwn (w7.alloc (.cells (ccs z.hd (.slice a7 z.ps.length k7)) 40)) 0 (.slice a7 z.ps.length k7) z.ps) := (O7.big (Nat.zero_le _)).keep (World.grownBy_alloc _ _ none) (by simp)
      unfold ccs at G7 HC7 HO7
      clear hz hy eB hsm O7 g7
      simp only [cv]
      go_upto_region 12 with fail
      go_wp2_with fail
      refine (cprint_any z (.slice a7 z.ps.length k7) _ (HL.out.keep G7.out) HO7.out.at HSM.out).mono ?_
      rintro e w8 ⟨rfl, g8⟩
      have G8 : Hid (w.grownBy w8 none) := grown_trans G7.out g8
      have HC8 : Hid (CAt w8 w7.heap.size z.hd (.slice a7 z.ps.length k7)) := HC7.out.keep g8
      have HO8 : Hid (POwn w8 0 (.slice a7 z.ps.length k7) z.ps) := HO7.out.keep g8 (by simp)
      rw [HB.out, HZC.out]
      clear g8 G7 HC7 HO7
      obtain ⟨c0, c1, c2, c3, c4, c5, c6, c7, c8⟩ := HC8.out.cells
      go_wp2_with fail
      refine (ccheck_any z.hd (.slice a7 z.ps.length k7) z.ps _ HO8.out.at HSM.out).mono ?_
      rintro e w9 ⟨rfl, g9⟩
      rw [with_hd, HZC.out]
      have G9 : Hid (w.grownBy w9 none) := grown_trans G8.out g9
      clear g9 G8 HC8 HO8 c0 c1 c2 c3 c4 c5 c6 c7 c8
      go_wp2_with fail
      refine (awake_any _ (HL.out.keep G9.out)).mono ?_
      rintro e w10 ⟨rfl, g10⟩
      go_wp2
      go_ret
      exact ⟨rfl, grown_trans G9.out g10⟩
    · have G7 : Hid (w.grownBy (w7.alloc (.cells (ccs (cparse s.data.toList).1.hd (.slice a7 (cparse s.data.toList).1.ps.length k7)) 40)) none) := grown_push (grown_trans HG2.out g7) _
      unfold ccs at G7
      generalize (cparse s.data.toList).1.ps.length = n7 at G7 ⊢
      generalize (cparse s.data.toList).1.hd = z7 at G7 ⊢
      generalize (cparse s.data.toList).2 = er at hz ⊢
      have hn : (er != 0) = true := by simpa using hz
      have hn2 : (er == 0) = false := by simpa using hz
      clear hz O7 g7
      simp only [cv]
      go_wp2_with fail
      refine (awake_any _ (HL.out.keep G7.out)).mono ?_
      rintro e w10 ⟨rfl, g10⟩
      go_wp2
      go_ret
      exact ⟨rfl, grown_trans G7.out g10⟩
end Go.Proofs.YtpceelbphpfciaaGreatDoor
