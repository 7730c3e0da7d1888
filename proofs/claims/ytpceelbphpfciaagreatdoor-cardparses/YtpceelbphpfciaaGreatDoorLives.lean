/-
  The chapter's two examples that every law asks: printed, lives.
-/
import Derived.Test.YtpceelbphpfciaaGreatDoorParse
namespace Go.Proofs.YtpceelbphpfciaaGreatDoor
open Go.RowKit

/-- A numeral below 100, by its digits. -/
def itd (n : Int) : List UInt8 := if n < 0 then 45 :: dgl n.natAbs else dgl n.toNat
theorem itd_itoa {n : Int} (h : -99 ≤ n ∧ n ≤ 99) : Lib.itoa n = itd n := by
  unfold Lib.itoa itd
  split
  · rw [dec_dgl (by omega)]
  · rw [dec_dgl (by omega)]
def tellD (p : Pt) : Nat → List UInt8
  | 0 => itd p.ct
  | 1 => at1 suitW p.su
  | 2 => at1 traitW p.tr
  | 3 => itd p.mr
  | _ => p.nm.data.toList
def prtD (p : Pt) : List UInt8 := Lib.join (heads p ++ (kinds p.vb p.wm).map (tellD p)) [32]
theorem prt_D {p : Pt} (h : chk p = 0) : prt p = prtD p := by
  have M := may_of h
  unfold prt prtD wordsOf
  have e : (kinds p.vb p.wm).map (tell p) = (kinds p.vb p.wm).map (tellD p) := by
    refine List.map_congr_left fun k hk => ?_
    have hh := kinds_has hk
    have h4 := kinds_le hk
    rcases (show k = 0 ∨ k = 1 ∨ k = 2 ∨ k = 3 ∨ k = 4 from by omega) with rfl | rfl | rfl | rfl | rfl
    · have := M.ct
      rw [hh.1 rfl] at this
      exact itd_itoa this
    · rfl
    · rfl
    · have := M.mr
      rw [hh.2.2.2.1 rfl] at this
      simp only [if_true] at this
      exact itd_itoa (by omega)
    · rfl
  rw [e]
theorem prB_D {p : Pt} (h : chk p = 0) : prB p = ⟨(prtD p).toArray⟩ := by
  unfold prB
  rw [if_pos h, prt_D h]
set_option maxHeartbeats 2000000 in
set_option maxRecDepth 100000 in
theorem printed_any (p : Pt) (w : World) (L : LaidAt w) : Calls Tryz.prog 34 #[pv p] w fun e w' => e = .returned (.string (prB p)) ∧ w.grownBy w' none := by
  have hc := print_any p (w.alloc (.cells #[.int .u8 p.wn, .int .u8 p.vb, .int .u8 p.wm, .int .i64 p.ct, .int .u8 p.su, .int .u8 p.tr, .int .u8 p.mr, .string p.nm] 29)) (L.keep (World.grownBy_alloc _ _ _))
  clear L
  by_cases h : chk p = 0
  · rw [h] at hc
    obtain ⟨t, ht⟩ : ∃ t, t = prB p := ⟨_, rfl⟩
    rw [← ht] at hc ⊢
    clear ht h
    unfold pv at hc ⊢
    go_enter Tryz.func34, Tryz.ntmps34
    go_wp2_with (go_at_call 30; refine hc.mono ?_; rintro e w1 ⟨rfl, g1⟩)
    go_ret
    exact ⟨rfl, grown_trans (World.grownBy_alloc _ _ _) g1⟩
  · have e : prB p = ⟨#[]⟩ := if_neg h
    rw [e] at hc ⊢
    have hn : (chk p != 0) = true := by simpa using h
    have hb : (chk p == 0) = false := by simpa using h
    obtain ⟨c, hcc⟩ : ∃ c, c = chk p := ⟨_, rfl⟩
    rw [← hcc] at hn hb hc
    clear hcc h e
    unfold pv at hc ⊢
    go_enter Tryz.func34, Tryz.ntmps34
    go_wp2_with (go_at_call 30; refine hc.mono ?_; rintro e w1 ⟨rfl, g1⟩)
    go_ret
    exact ⟨rfl, grown_trans (World.grownBy_alloc _ _ _) g1⟩
def p1 : Pt := ⟨5, 12, 10, 0, 0, 1, 0, ⟨#[]⟩⟩
def p2 : Pt := ⟨1, 1, 3, 3, 0, 0, 0, ⟨#[]⟩⟩
theorem p1_ok : chk p1 = 0 ∧ prtD p1 = [97, 108, 119, 97, 121, 115, 32, 103, 114, 97, 110, 116, 32, 119, 105, 116, 104, 32, 102, 97, 115, 116] := by decide +kernel
theorem p2_ok : chk p2 = 0 ∧ prtD p2 = [112, 108, 97, 121, 101, 100, 32, 104, 97, 114, 109, 32, 105, 116, 32, 51] := by decide +kernel
theorem lv1 : parse (⟨#[97, 108, 119, 97, 121, 115, 32, 103, 114, 97, 110, 116, 32, 119, 105, 116, 104, 32, 102, 97, 115, 116]⟩ : ByteArray).data.toList = (p1, 0) := by
  have h := parse_prt p1_ok.1
  rw [prt_D p1_ok.1, p1_ok.2] at h
  exact h
theorem lv2 : prB p2 = ⟨#[112, 108, 97, 121, 101, 100, 32, 104, 97, 114, 109, 32, 105, 116, 32, 51]⟩ := by rw [prB_D p2_ok.1, p2_ok.2]
set_option maxHeartbeats 4000000 in
set_option maxRecDepth 100000 in
theorem lives_any (w : World) (L : LaidAt w) : Calls Tryz.prog 10 #[] w fun e w' => e = .returned (.bool true) ∧ w.grownBy w' none := by
  have HL : Hid (LaidAt w) := L
  have he := eql_part
  have hg := eqg_part
  clear L
  go_enter Tryz.func10, Tryz.ntmps10
  go_wp2_with fail
  refine (parse_any _ _ HL.out).mono ?_
  rintro e w1 ⟨rfl, g1⟩
  rw [lv1]
  simp only [pe, pv, p1]
  have A1 := PAt.new w1 p1
  have G1 := grown_push g1 (.cells #[.int .u8 p1.wn, .int .u8 p1.vb, .int .u8 p1.wm, .int .i64 p1.ct, .int .u8 p1.su, .int .u8 p1.tr, .int .u8 p1.mr, .string p1.nm] 29)
  go_wp2_with fail
  refine (printed_any p2 _ (HL.out.keep G1)).mono ?_
  rintro e w2 ⟨rfl, g2⟩
  rw [lv2]
  have A2 := A1.keep g2
  obtain ⟨c0, c1, c2, c3, c4, c5, c6, c7⟩ := A2.cells
  simp only [p1] at c0 c1 c2 c3 c4 c5 c6 c7
  have hsp : samep ⟨5, 12, 10, 0, 0, 1, 0, ⟨#[]⟩⟩ ⟨5, 12, 10, 0, 0, 1, 0, ⟨#[]⟩⟩ = true := by decide
  clear A1 A2
  go_wp2
  go_ret
  exact ⟨rfl, grown_trans G1 g2⟩
end Go.Proofs.YtpceelbphpfciaaGreatDoor
