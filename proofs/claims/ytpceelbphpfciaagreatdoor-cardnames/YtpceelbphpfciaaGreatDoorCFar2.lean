/-
  readForce and readFurther: one word of a card's text behind the first four.
-/
import Derived.Test.YtpceelbphpfciaaGreatDoorCFar
namespace Go.Proofs.YtpceelbphpfciaaGreatDoor
open Go.RowKit

theorem rn_split {x : Lib.NumEnd Int} {e : Ending} (h : rnE x e) : ∃ v b, e = .returned (.tuple #[.int .i64 v, .bool b]) ∧ ((b = true ∧ x = .ok v) ∨ (b = false ∧ ∀ a, x ≠ .ok a)) := by
  cases x with
  | ok a => exact ⟨a, true, h, Or.inl ⟨rfl, rfl⟩⟩
  | _ =>
    obtain ⟨v, he⟩ := h
    exact ⟨v, false, he, Or.inr ⟨rfl, by simp⟩⟩
theorem cut_len (s sep : List UInt8) : (Lib.cut s sep).1.length ≤ s.length ∧ (Lib.cut s sep).2.1.length ≤ s.length := by
  unfold Lib.cut
  split
  · simp only [List.length_take, List.length_drop]
    omega
  · simp
set_option maxHeartbeats 2000000 in
set_option maxRecDepth 100000 in
theorem rforce_any (s : ByteArray) (hs : s.size ≤ 600) (q : Nat) (hq : 7 < q) (h : Hd) (v : Value) (w : World) (L : LaidAt w) (A : CAt w q h v) : Calls Tryz.prog 166 #[.pointer (some ⟨q, 0, none⟩), .string s] w fun e w' => (∃ x y b, e = .returned (.bool b) ∧ CAt w' q { h with po := x, he := y } v ∧ ((b = true ∧ Lib.atoiAll (Lib.cut s.data.toList [47]).1 = .ok x ∧ Lib.atoiAll (Lib.cut s.data.toList [47]).2.1 = .ok y) ∨ (b = false ∧ ((∀ a, Lib.atoiAll (Lib.cut s.data.toList [47]).1 ≠ .ok a) ∨ ∀ a, Lib.atoiAll (Lib.cut s.data.toList [47]).2.1 ≠ .ok a)))) ∧ w.grownBy w' (some q) := by
  have c := cut_any s ⟨#[47]⟩ (by omega) w L
  have hl := cut_len s.data.toList [47]
  have hz := Lib.size_eq s
  obtain ⟨ta, hta⟩ : ∃ ta, ta = (Lib.cut s.data.toList [47]).1 := ⟨_, rfl⟩
  obtain ⟨tb, htb⟩ : ∃ tb, tb = (Lib.cut s.data.toList [47]).2.1 := ⟨_, rfl⟩
  obtain ⟨tc, htc⟩ : ∃ tc, tc = (Lib.cut s.data.toList [47]).2.2 := ⟨_, rfl⟩
  have c : Calls Tryz.prog 96 #[.string s, .string ⟨#[47]⟩] w fun e w' => e = .returned (.tuple #[.string ⟨ta.toArray⟩, .string ⟨tb.toArray⟩, .bool tc]) ∧ w.grownBy w' none := by rw [hta, htb, htc]; exact c
  rw [← hta, ← htb] at hl ⊢
  have la : (⟨ta.toArray⟩ : ByteArray).size ≤ 1000 := by rw [Lib.size_eq]; simp; omega
  have lb : (⟨tb.toArray⟩ : ByteArray).size ≤ 1000 := by rw [Lib.size_eq]; simp; omega
  have CA := fun W (LW : LaidAt W) => rnum_any ⟨ta.toArray⟩ la W LW
  have CB := fun W (LW : LaidAt W) => rnum_any ⟨tb.toArray⟩ lb W LW
  simp only at CA CB
  have HA : Hid (CAt w q h v) := A
  have HL : Hid (LaidAt w) := L
  have HCA : Hid (∀ W, LaidAt W → Calls Tryz.prog 139 #[.string ⟨ta.toArray⟩] W fun e w' => rnE (Lib.atoiAll ta) e ∧ W.grownBy w' none) := CA
  have HCB : Hid (∀ W, LaidAt W → Calls Tryz.prog 139 #[.string ⟨tb.toArray⟩] W fun e w' => rnE (Lib.atoiAll tb) e ∧ W.grownBy w' none) := CB
  clear A L CA CB hta htb htc hl hz la lb hs
  go_enter Tryz.func166, Tryz.ntmps166
  go_wp2_with (first | (go_at_call 96; refine c.mono ?_; rintro e w1 ⟨rfl, g1⟩) | fail)
  refine Calls.mono (HCA.out _ (HL.out.keep g1)) ?_
  rintro e w2 ⟨he, g2⟩
  obtain ⟨x, b1, rfl, R1⟩ := rn_split he
  have A2 := (HA.out.keep g1).keep g2
  have L2 := (HL.out.keep g1).keep g2
  have f4 := A2.free 4
  obtain ⟨c0, c1, c2, c3, c4, c5, c6, c7, c8⟩ := A2.cells
  have A3 := A2.po x
  have L3 := L2.set hq 4 (.int .i64 x)
  have G3 : w.grownBy (w2.setCell ⟨q, 4, none⟩ (.int .i64 x)) (some q) := grown_trans (grown_some (grown_trans g1 g2) q) (grown_set _ _ _ _)
  have HA3 : Hid (CAt (w2.setCell ⟨q, 4, none⟩ (.int .i64 x)) q { h with po := x } v) := A3
  have HL3 : Hid (LaidAt (w2.setCell ⟨q, 4, none⟩ (.int .i64 x))) := L3
  have HG3 : Hid (w.grownBy (w2.setCell ⟨q, 4, none⟩ (.int .i64 x)) (some q)) := G3
  have HR1 : Hid ((b1 = true ∧ Lib.atoiAll ta = .ok x) ∨ (b1 = false ∧ ∀ a, Lib.atoiAll ta ≠ .ok a)) := R1
  clear A2 L2 A3 L3 G3 g1 g2 he R1
  go_wp2_with fail
  refine Calls.mono (HCB.out _ HL3.out) ?_
  rintro e w5 ⟨he, g5⟩
  obtain ⟨y, b2, rfl, R2⟩ := rn_split he
  have A5 := HA3.out.keep g5
  have f5 := A5.free 5
  obtain ⟨d0, d1, d2, d3, d4, d5, d6, d7, d8⟩ := A5.cells
  have HA6 : Hid (CAt (w5.setCell ⟨q, 5, none⟩ (.int .i64 y)) q { h with po := x, he := y } v) := A5.he y
  have HG6 : Hid (w.grownBy (w5.setCell ⟨q, 5, none⟩ (.int .i64 y)) (some q)) := grown_trans (grown_trans HG3.out (grown_some g5 q)) (grown_set _ _ _ _)
  have HR2 : Hid ((b2 = true ∧ Lib.atoiAll tb = .ok y) ∨ (b2 = false ∧ ∀ a, Lib.atoiAll tb ≠ .ok a)) := R2
  clear A5 he R2 HA3 HL3 HG3 g5 c0 c1 c2 c3 c4 c5 c6 c7 c8 f4
  cases b1 with
  | false =>
    go_wp2
    go_ret
    refine ⟨⟨x, y, false, rfl, HA6.out, Or.inr ⟨rfl, Or.inl ?_⟩⟩, HG6.out⟩
    rcases HR1.out with ⟨e, _⟩ | ⟨_, e⟩
    · cases e
    · exact e
  | true =>
    have e1 : Lib.atoiAll ta = .ok x := by
      rcases HR1.out with ⟨_, e⟩ | ⟨e, _⟩
      · exact e
      · cases e
    have HE : Hid (Lib.atoiAll ta = .ok x) := e1
    clear e1 HR1
    go_wp2
    go_ret
    refine ⟨⟨x, y, b2, rfl, HA6.out, ?_⟩, HG6.out⟩
    rcases HR2.out with ⟨e, e2⟩ | ⟨e, e2⟩
    · exact Or.inl ⟨e, HE.out, e2⟩
    · exact Or.inr ⟨e, Or.inr e2⟩
/-- What one word has made of the card. -/
def fE (o : Option Cd) (q : Nat) (v : Value) (e : Ending) (w : World) : Prop := match o with
  | some d => e = .returned (.bool true) ∧ CAt w q d.hd v
  | none => e = .returned (.bool false) ∧ ∃ h, CAt w q h v
theorem fE_yes {o : Option Cd} {q : Nat} {v : Value} {w : World} {d : Cd} {h : Hd} (ho : o = some d) (hd : d.hd = h) (A : CAt w q h v) : fE o q v (.returned (.bool true)) w := by rw [ho]; exact ⟨rfl, by rw [hd]; exact A⟩
theorem fE_no {o : Option Cd} {q : Nat} {v : Value} {w : World} {h : Hd} (ho : o = none) (A : CAt w q h v) : fE o q v (.returned (.bool false)) w := by rw [ho]; exact ⟨rfl, h, A⟩
set_option maxHeartbeats 2000000 in
set_option maxRecDepth 100000 in
theorem further_any (s : ByteArray) (hs : s.size ≤ 600) (q : Nat) (hq : 7 < q) (h : Hd) (v : Value) (w : World) (L : LaidAt w) (A : CAt w q h v) : Calls Tryz.prog 142 #[.pointer (some ⟨q, 0, none⟩), .string s] w fun e w' => fE (far1 s.data.toList (h.with [])) q v e w' ∧ w.grownBy w' (some q) := by
  have hd := Lib.toList_data s
  by_cases h1 : s.data.toList = tokW
  · have k1 : (s.toList == [116, 111, 107, 101, 110]) = true := by rw [hd, h1]; rfl
    have f7 := A.free 7
    have c7 := A.cells.2.2.2.2.2.2.2.1
    have R : far1 s.data.toList (h.with []) = some { h.with [] with tk := true } := by rw [h1]; exact far1_tok _
    have HA : Hid (CAt w q h v) := A
    have HR : Hid (far1 s.data.toList (h.with []) = some { h.with [] with tk := true }) := R
    clear h1 hd A L R
    go_enter Tryz.func142, Tryz.ntmps142
    go_wp2
    go_ret
    exact ⟨fE_yes HR.out rfl (HA.out.tk true), grown_set _ _ _ _⟩
  have k1 : (s.toList == [116, 111, 107, 101, 110]) = false := by rw [hd]; simpa [tokW] using h1
  have cp := cutPrefix_any s ⟨#[43]⟩ w
  simp only at cp
  cases hp : Lib.hasPrefix s.data.toList [43] with
  | true =>
    have et : Lib.trimPrefix s.data.toList [43] = s.data.toList.drop 1 := by unfold Lib.trimPrefix; rw [if_pos hp]; rfl
    rw [et, hp] at cp
    obtain ⟨t, ht⟩ : ∃ t : ByteArray, t = ⟨(s.data.toList.drop 1).toArray⟩ := ⟨_, rfl⟩
    rw [← ht] at cp
    have ex : t.data.toList = s.data.toList.drop 1 := by rw [ht]
    have ct := rtrait_any t q h v w L A
    have R : far1 s.data.toList (h.with []) = if idx traitW t.data.toList = 0 then none else some { h.with [] with tr := tWith h.tr (idx traitW t.data.toList) } := by
      unfold far1
      rw [if_neg h1, if_pos hp, ex]
      rfl
    obtain ⟨m, hm⟩ : ∃ m, m = idx traitW t.data.toList := ⟨_, rfl⟩
    rw [← hm] at ct R
    clear et hp h1 hd A L hs ex ht hm
    by_cases hz : m = 0
    · rw [if_pos hz] at R
      have HR : Hid (far1 s.data.toList (h.with []) = none) := R
      rw [show (!decide (m = 0)) = false by simp [hz]] at ct
      clear R hz
      go_enter Tryz.func142, Tryz.ntmps142
      go_wp2_with (first | (go_at_call 164; refine cp.mono ?_; rintro e w1 ⟨rfl, h9⟩; obtain rfl : w = w1 := h9.symm) | (go_at_call 165; refine ct.mono ?_; rintro e w1 ⟨rfl, A1, g1⟩) | fail)
      go_ret
      exact ⟨fE_no HR.out A1, g1⟩
    · rw [if_neg hz] at R
      have HR : Hid (far1 s.data.toList (h.with []) = some { h.with [] with tr := tWith h.tr m }) := R
      rw [show (!decide (m = 0)) = true by simp [hz]] at ct
      clear R hz
      go_enter Tryz.func142, Tryz.ntmps142
      go_wp2_with (first | (go_at_call 164; refine cp.mono ?_; rintro e w1 ⟨rfl, h9⟩; obtain rfl : w = w1 := h9.symm) | (go_at_call 165; refine ct.mono ?_; rintro e w1 ⟨rfl, A1, g1⟩) | fail)
      go_ret
      exact ⟨fE_yes HR.out rfl A1, g1⟩
  | false =>
    have et : Lib.trimPrefix s.data.toList [43] = s.data.toList := by unfold Lib.trimPrefix; rw [if_neg (by rw [hp]; simp)]
    rw [et, hp] at cp
    obtain ⟨t, ht⟩ : ∃ t : ByteArray, t = ⟨s.data.toList.toArray⟩ := ⟨_, rfl⟩
    rw [← ht] at cp
    have cf := rforce_any s hs q hq h v w L A
    have HF : Hid (far1 s.data.toList (h.with []) = match Lib.atoiAll (Lib.cut s.data.toList [47]).1, Lib.atoiAll (Lib.cut s.data.toList [47]).2.1 with
        | .ok a, .ok b => some { h.with [] with po := a, he := b }
        | _, _ => none) := by
      unfold Hid far1
      rw [if_neg h1, if_neg (by rw [hp]; simp)]
      rfl
    clear et hp h1 hd A L hs ht
    go_enter Tryz.func142, Tryz.ntmps142
    go_wp2_with (first | (go_at_call 164; refine cp.mono ?_; rintro e w1 ⟨rfl, h9⟩; obtain rfl : w = w1 := h9.symm) | (go_at_call 166; refine cf.mono ?_; rintro e w1 ⟨⟨x, y, b, rfl, A1, R⟩, g1⟩; have HR : Hid ((b = true ∧ Lib.atoiAll (Lib.cut s.data.toList [47]).1 = .ok x ∧ Lib.atoiAll (Lib.cut s.data.toList [47]).2.1 = .ok y) ∨ (b = false ∧ ((∀ a, Lib.atoiAll (Lib.cut s.data.toList [47]).1 ≠ .ok a) ∨ ∀ a, Lib.atoiAll (Lib.cut s.data.toList [47]).2.1 ≠ .ok a))) := R; clear R) | fail)
    go_ret
    refine ⟨?_, g1⟩
    rcases HR.out with ⟨rfl, e1, e2⟩ | ⟨rfl, e⟩
    · exact fE_yes (d := { h.with [] with po := x, he := y }) (by rw [HF.out, e1, e2]) rfl A1
    · refine fE_no (by
        rw [HF.out]
        split
        · rename_i a b ha hb
          rcases e with e | e
          · exact absurd ha (e a)
          · exact absurd hb (e b)
        · rfl) A1
end Go.Proofs.YtpceelbphpfciaaGreatDoor
