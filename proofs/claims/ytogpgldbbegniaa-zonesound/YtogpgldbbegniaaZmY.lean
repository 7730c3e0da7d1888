/-
  Zones: are an owner's lists sound?
-/
import Derived.Test.YtogpgldbbegniaaZmX
namespace Go.Proofs.Ytogpgldbbegniaa
open Go.RowKit

/-- An owner's part of what is sound. -/
def Zs.part (z : Zs) (p : Int) : Prop := Holds z.ts (z.dk p) p 1 ∧ Holds z.ts (z.hd p) p 2 ∧ (z.hd p).length ≤ 10 ∧ owned z.ts p ≤ 8
def IsPost (w : World) (z : Zs) (p : Int) (e : Ending) (w' : World) : Prop := ∃ r : Bool, e = .returned (.bool r) ∧ (r = true ↔ z.part p) ∧ w.grownBy w' none
theorem is_no {w w' : World} {z : Zs} {p : Int} (h : ¬ z.part p) (g : w.grownBy w' none) : IsPost w z p (.returned (.bool false)) w' := ⟨false, rfl, ⟨fun q => (by cases q), fun q => absurd q h⟩, g⟩
theorem is_yes {w w' : World} {z : Zs} {p : Int} (h : z.part p) (g : w.grownBy w' none) : IsPost w z p (.returned (.bool true)) w' := ⟨true, rfl, ⟨fun _ => h, fun _ => rfl⟩, g⟩
set_option maxRecDepth 100000 in
set_option maxHeartbeats 4000000 in
theorem isSound0 (b : Nat) (Sb : List Nat) (z : Zs) (w : World) (Z : ZAt w b Sb z) (hf : z.ts.length ≤ 2048) : Calls Try.prog 76 #[.pointer (some ⟨b, 0, none⟩), .int .i64 0] w (IsPost w z 0) := by
  obtain ⟨vt, d0, d1, h0, h1, Z⟩ := Z
  obtain ⟨pd, cd, ed⟩ := Z.od0.form
  subst ed
  obtain ⟨ph, ch, eh⟩ := Z.oh0.form
  subst eh
  obtain ⟨c0, c1, c2, c3, c4, c5⟩ := Z.cell
  have C1 := holdsJust_any b vt _ z.ts (z.dk 0) 0 1 w c0 Z.ts.at hf (own_small Z.od0)
  have H2 : Hid (∀ w1, w.grownBy w1 none → Calls Try.prog 72 #[.pointer (some ⟨b, 0, none⟩), .slice ph (z.hd 0).length ch, .int .i64 0, .int .u8 2] w1 (HjPost w1 z.ts (z.hd 0) 0 2)) := fun w1 g => holdsJust_any b vt _ z.ts (z.hd 0) 0 2 w1 (g.cell c0 (by simp)) (Z.ts.at.keep g) hf ((own_small Z.oh0).keep g)
  have H3 : Hid (∀ w1, w.grownBy w1 none → Calls Try.prog 96 #[.pointer (some ⟨b, 0, none⟩), .int .i64 0, .int .u8 4] w1 fun e w' => ∃ v, e = .returned v ∧ OwnI w' w1.heap.size v (numsOf z.ts 0 4) ∧ w1.grownBy w' none) := fun w1 g => numbers_any b vt z.ts 0 4 w1 (g.cell c0 (by simp)) (Z.ts.at.keep g) hf
  have HL : Hid ((numsOf z.ts 0 4).length = owned z.ts 0) := owned_numsOf z.ts 0
  have HC : Hid (w.cell? ⟨b, 3, none⟩ = some (.slice ph (z.hd 0).length ch)) := c3
  obtain ⟨m, hm⟩ : ∃ m, m = (z.hd 0).length := ⟨_, rfl⟩
  have HM : Hid (m = (z.hd 0).length) := hm
  obtain ⟨l, hl⟩ : ∃ l, l = numsOf z.ts 0 4 := ⟨_, rfl⟩
  rw [← hl] at H3 HL
  rw [← hm] at H2 HC
  clear c0 c2 c4 c5 Z hf hm hl
  go_enter Try.func76, Try.ntmps76
  go_wp2_with fail
  refine C1.mono ?_
  rintro e w1 ⟨r1, rfl, k1, g1⟩
  have HG1 : Hid (w.grownBy w1 none) := g1
  have HK1 : Hid (r1 = true ↔ Holds z.ts (z.dk 0) 0 1) := k1
  clear g1 k1 C1
  cases r1 with
  | false =>
    have HF : Hid (IsPost w z 0 (.returned (.bool false)) w1) := is_no (fun q => by have := HK1.out.2 q.1; cases this) HG1.out
    clear H2 H3 c1 c3
    go_wp2
    go_ret
    exact HF.out
  | true =>
    have HK1' : Hid (Holds z.ts (z.dk 0) 0 1) := HK1.out.1 rfl
    have C2 := H2.out w1 HG1.out
    have x1 : w1.cell? ⟨b, 3, none⟩ = some (.slice ph m ch) := HG1.out.cell HC.out (by simp)
    clear HK1 H2 c1 c3
    go_wp2_with fail
    refine C2.mono ?_
    rintro e w2 ⟨r2, rfl, k2, g2⟩
    have HG2 : Hid (w.grownBy w2 none) := grown_trans HG1.out g2
    have HK2 : Hid (r2 = true ↔ Holds z.ts (z.hd 0) 0 2) := k2
    clear g2 k2 C2 x1
    cases r2 with
    | false =>
      have HF : Hid (IsPost w z 0 (.returned (.bool false)) w2) := is_no (fun q => by have := HK2.out.2 q.2.1; cases this) HG2.out
      clear H3
      go_wp2
      go_ret
      exact HF.out
    | true =>
      have HK2' : Hid (Holds z.ts (z.hd 0) 0 2) := HK2.out.1 rfl
      have x2 : w2.cell? ⟨b, 3, none⟩ = some (.slice ph m ch) := HG2.out.cell HC.out (by simp)
      clear HK2
      by_cases hm : m ≤ 10
      · have hm' : (m : Int) ≤ 10 := by omega
        have C3 := H3.out w2 HG2.out
        have HM' : Hid ((z.hd 0).length ≤ 10) := by show (z.hd 0).length ≤ 10; rw [← HM.out]; exact hm
        clear H3 hm
        go_wp2_with fail
        refine C3.mono ?_
        rintro e w3 ⟨v3, rfl, o3, g3⟩
        obtain ⟨p3, q3, rfl⟩ := o3.form
        have HG3 : Hid (w.grownBy w3 none) := grown_trans HG2.out g3
        clear g3 o3 C3 x2
        by_cases hn : l.length ≤ 8
        · have hn' : (l.length : Int) ≤ 8 := by omega
          have HF : Hid (IsPost w z 0 (.returned (.bool true)) w3) := is_yes ⟨HK1'.out, HK2'.out, HM'.out, by rw [← HL.out]; exact hn⟩ HG3.out
          clear hn
          go_wp2
          go_ret
          exact HF.out
        · have hn' : ¬ (l.length : Int) ≤ 8 := by omega
          have hq : decide ((l.length : Int) ≤ 8) = false := decide_eq_false hn'
          have HF : Hid (IsPost w z 0 (.returned (.bool false)) w3) := is_no (fun q => hn (by rw [HL.out]; exact q.2.2.2)) HG3.out
          clear hn
          go_wp2
          go_ret
          exact HF.out
      · have hm' : ¬ (m : Int) ≤ 10 := by omega
        have hq : decide ((m : Int) ≤ 10) = false := decide_eq_false hm'
        have HF : Hid (IsPost w z 0 (.returned (.bool false)) w2) := is_no (fun q => hm (by rw [HM.out]; exact q.2.2.1)) HG2.out
        clear H3 hm
        go_wp2
        go_ret
        exact HF.out
set_option maxRecDepth 100000 in
set_option maxHeartbeats 4000000 in
theorem isSound1 (b : Nat) (Sb : List Nat) (z : Zs) (w : World) (Z : ZAt w b Sb z) (hf : z.ts.length ≤ 2048) : Calls Try.prog 76 #[.pointer (some ⟨b, 0, none⟩), .int .i64 1] w (IsPost w z 1) := by
  obtain ⟨vt, d0, d1, h0, h1, Z⟩ := Z
  obtain ⟨pd, cd, ed⟩ := Z.od1.form
  subst ed
  obtain ⟨ph, ch, eh⟩ := Z.oh1.form
  subst eh
  obtain ⟨c0, c1, c2, c3, c4, c5⟩ := Z.cell
  have C1 := holdsJust_any b vt _ z.ts (z.dk 1) 1 1 w c0 Z.ts.at hf (own_small Z.od1)
  have H2 : Hid (∀ w1, w.grownBy w1 none → Calls Try.prog 72 #[.pointer (some ⟨b, 0, none⟩), .slice ph (z.hd 1).length ch, .int .i64 1, .int .u8 2] w1 (HjPost w1 z.ts (z.hd 1) 1 2)) := fun w1 g => holdsJust_any b vt _ z.ts (z.hd 1) 1 2 w1 (g.cell c0 (by simp)) (Z.ts.at.keep g) hf ((own_small Z.oh1).keep g)
  have H3 : Hid (∀ w1, w.grownBy w1 none → Calls Try.prog 96 #[.pointer (some ⟨b, 0, none⟩), .int .i64 1, .int .u8 4] w1 fun e w' => ∃ v, e = .returned v ∧ OwnI w' w1.heap.size v (numsOf z.ts 1 4) ∧ w1.grownBy w' none) := fun w1 g => numbers_any b vt z.ts 1 4 w1 (g.cell c0 (by simp)) (Z.ts.at.keep g) hf
  have HL : Hid ((numsOf z.ts 1 4).length = owned z.ts 1) := owned_numsOf z.ts 1
  have HC : Hid (w.cell? ⟨b, 4, none⟩ = some (.slice ph (z.hd 1).length ch)) := c4
  obtain ⟨m, hm⟩ : ∃ m, m = (z.hd 1).length := ⟨_, rfl⟩
  have HM : Hid (m = (z.hd 1).length) := hm
  obtain ⟨l, hl⟩ : ∃ l, l = numsOf z.ts 1 4 := ⟨_, rfl⟩
  rw [← hl] at H3 HL
  rw [← hm] at H2 HC
  clear c0 c1 c3 c5 Z hf hm hl
  go_enter Try.func76, Try.ntmps76
  go_wp2_with fail
  refine C1.mono ?_
  rintro e w1 ⟨r1, rfl, k1, g1⟩
  have HG1 : Hid (w.grownBy w1 none) := g1
  have HK1 : Hid (r1 = true ↔ Holds z.ts (z.dk 1) 1 1) := k1
  clear g1 k1 C1
  cases r1 with
  | false =>
    have HF : Hid (IsPost w z 1 (.returned (.bool false)) w1) := is_no (fun q => by have := HK1.out.2 q.1; cases this) HG1.out
    clear H2 H3 c2 c4
    go_wp2
    go_ret
    exact HF.out
  | true =>
    have HK1' : Hid (Holds z.ts (z.dk 1) 1 1) := HK1.out.1 rfl
    have C2 := H2.out w1 HG1.out
    have x1 : w1.cell? ⟨b, 4, none⟩ = some (.slice ph m ch) := HG1.out.cell HC.out (by simp)
    clear HK1 H2 c2 c4
    go_wp2_with fail
    refine C2.mono ?_
    rintro e w2 ⟨r2, rfl, k2, g2⟩
    have HG2 : Hid (w.grownBy w2 none) := grown_trans HG1.out g2
    have HK2 : Hid (r2 = true ↔ Holds z.ts (z.hd 1) 1 2) := k2
    clear g2 k2 C2 x1
    cases r2 with
    | false =>
      have HF : Hid (IsPost w z 1 (.returned (.bool false)) w2) := is_no (fun q => by have := HK2.out.2 q.2.1; cases this) HG2.out
      clear H3
      go_wp2
      go_ret
      exact HF.out
    | true =>
      have HK2' : Hid (Holds z.ts (z.hd 1) 1 2) := HK2.out.1 rfl
      have x2 : w2.cell? ⟨b, 4, none⟩ = some (.slice ph m ch) := HG2.out.cell HC.out (by simp)
      clear HK2
      by_cases hm : m ≤ 10
      · have hm' : (m : Int) ≤ 10 := by omega
        have C3 := H3.out w2 HG2.out
        have HM' : Hid ((z.hd 1).length ≤ 10) := by show (z.hd 1).length ≤ 10; rw [← HM.out]; exact hm
        clear H3 hm
        go_wp2_with fail
        refine C3.mono ?_
        rintro e w3 ⟨v3, rfl, o3, g3⟩
        obtain ⟨p3, q3, rfl⟩ := o3.form
        have HG3 : Hid (w.grownBy w3 none) := grown_trans HG2.out g3
        clear g3 o3 C3 x2
        by_cases hn : l.length ≤ 8
        · have hn' : (l.length : Int) ≤ 8 := by omega
          have HF : Hid (IsPost w z 1 (.returned (.bool true)) w3) := is_yes ⟨HK1'.out, HK2'.out, HM'.out, by rw [← HL.out]; exact hn⟩ HG3.out
          clear hn
          go_wp2
          go_ret
          exact HF.out
        · have hn' : ¬ (l.length : Int) ≤ 8 := by omega
          have hq : decide ((l.length : Int) ≤ 8) = false := decide_eq_false hn'
          have HF : Hid (IsPost w z 1 (.returned (.bool false)) w3) := is_no (fun q => hn (by rw [HL.out]; exact q.2.2.2)) HG3.out
          clear hn
          go_wp2
          go_ret
          exact HF.out
      · have hm' : ¬ (m : Int) ≤ 10 := by omega
        have hq : decide ((m : Int) ≤ 10) = false := decide_eq_false hm'
        have HF : Hid (IsPost w z 1 (.returned (.bool false)) w2) := is_no (fun q => hm (by rw [HM.out]; exact q.2.2.1)) HG2.out
        clear H3 hm
        go_wp2
        go_ret
        exact HF.out
end Go.Proofs.Ytogpgldbbegniaa
