/-
  CardParses: of every text the card, or the error, that the document's own Parse tells; each answer is new memory.
-/
import Derived.Test.YtpceelbphpfciaaGreatDoorR6Parse
import Derived.Test.YtpceelbphpfciaaGreatDoorApart
import Derived.Test.YtpceelbphpfciaaGreatDoorCSame
namespace Go.Proofs.YtpceelbphpfciaaGreatDoor
open Go.RowKit

/-- A list that the call has made itself, as one of those that lie apart. -/
theorem own_lst {w : World} {base : Nat} {v : Value} {ps : List Pt} (h : POwn w base v ps) : ∃ x : Lst, v = .slice (x.a.map fun g => ⟨g, 0, none⟩) x.n x.cap ∧ x.ok w ∧ ∀ g, x.a = some g → base ≤ g ∧ g < w.heap.size := by
  obtain ⟨_, ⟨rfl, _⟩ | ⟨g, cap, cur, rfl, hb, hh, hn, hc, hz, _⟩⟩ := h
  · exact ⟨⟨none, 0, 0⟩, rfl, Or.inl ⟨rfl, rfl, rfl⟩, fun g e => by cases e⟩
  · exact ⟨⟨some g, _, cap⟩, rfl, Or.inr ⟨g, rfl, hn, hc, cur, hh, hz⟩, fun g' e => by cases e; exact ⟨hb, block_lt hh⟩⟩
theorem Lst.ok.keep {w w' : World} {x : Lst} {r : Option Nat} (h : x.ok w) (g : w.grownBy w' r) (hr : ∀ b, x.a = some b → some b ≠ r) : x.ok w' := by
  rcases h with h | ⟨b, h1, h2, h3, h4⟩
  · exact Or.inl h
  · exact Or.inr ⟨b, h1, h2, h3, h4.keep g (hr b h1)⟩
theorem two_cells {w : World} {x y : Lst} : ∀ (j : Nat) z, [x, y][j]? = some z → (w.alloc (.cells #[.slice (x.a.map fun g => ⟨g, 0, none⟩) x.n x.cap, .slice (y.a.map fun g => ⟨g, 0, none⟩) y.n y.cap] 38)).cell? ⟨w.heap.size, j, none⟩ = some z.v := fun j z hj => by
  rw [block_cell (alloc_at w _ _)]
  match j, hj with
  | 0, hj => obtain rfl := Option.some.inj hj; rfl
  | 1, hj => obtain rfl := Option.some.inj hj; rfl
theorem two_diff {x y : Lst} (h : ∀ g, x.a = some g → y.a = some g → False) : Diff [x, y] := fun i j a b g hi hj ha hb => by
  match i, j, hi, hj with
  | 0, 0, _, _ => rfl
  | 1, 1, _, _ => rfl
  | 0, 1, hi, hj =>
    obtain rfl := Option.some.inj hi
    obtain rfl := Option.some.inj hj
    exact (h g ha hb).elim
  | 1, 0, hi, hj =>
    obtain rfl := Option.some.inj hi
    obtain rfl := Option.some.inj hj
    exact (h g hb ha).elim
set_option maxRecDepth 100000 in
set_option maxHeartbeats 1000000 in
theorem pars_any (s : ByteArray) (w : World) (L : LaidAt w) : Calls Tryz.prog 5 #[.string s] w fun e w' => e = .returned (.bool true) ∧ w.grownBy w' none := by
  have HL : Hid (LaidAt w) := L
  have C1 := fun W LW => cparse_any s W LW
  have C2 := fun W => r6parse_any s W
  have hsm : Small (cparse s.data.toList).1.ps.length := by
    by_cases hz : (cparse s.data.toList).2 = 0
    · have := (cmay_of (cparse_yes hz).1).len
      unfold Small
      omega
    · rw [cparse_no hz]
      unfold Small
      simp [Cd.none]
  generalize cparse s.data.toList = res at C1 C2 hsm
  obtain ⟨c, er⟩ := res
  simp only at hsm
  have HC1 : Hid (∀ W, LaidAt W → Calls Tryz.prog 23 #[.string s] W fun e w' => pC W.heap.size (c, er) e w' ∧ W.grownBy w' none) := C1
  have HC2 : Hid (∀ W, Calls Tryz.prog 24 #[.string s] W fun e w' => pC W.heap.size (c, er) e w' ∧ W.grownBy w' none) := C2
  have HSM : Hid (Small c.ps.length) := hsm
  clear L C1 C2 hsm
  go_enter Tryz.func5, Tryz.ntmps5
  go_wp2_with fail
  refine Calls.mono (HC1.out _ HL.out) ?_
  rintro e w1 ⟨⟨u1, rfl, O1⟩, g1⟩
  obtain ⟨x1, rfl, K1, B1⟩ := own_lst O1
  have HA1 : Hid (CAt (w1.alloc (.cells (ccs c.hd (.slice (x1.a.map fun g => ⟨g, 0, none⟩) x1.n x1.cap)) 40)) w1.heap.size c.hd (.slice (x1.a.map fun g => ⟨g, 0, none⟩) x1.n x1.cap)) := alloc_at w1 _ _
  have HG1 : Hid (w.grownBy (w1.alloc (.cells (ccs c.hd (.slice (x1.a.map fun g => ⟨g, 0, none⟩) x1.n x1.cap)) 40)) none) := grown_push g1 _
  have HO1 : Hid (POwn (w1.alloc (.cells (ccs c.hd (.slice (x1.a.map fun g => ⟨g, 0, none⟩) x1.n x1.cap)) 40)) w.heap.size (.slice (x1.a.map fun g => ⟨g, 0, none⟩) x1.n x1.cap) c.ps) := O1.keep (World.grownBy_alloc _ _ none) (by simp)
  have HK1 : Hid (x1.ok (w1.alloc (.cells (ccs c.hd (.slice (x1.a.map fun g => ⟨g, 0, none⟩) x1.n x1.cap)) 40))) := K1.keep (World.grownBy_alloc _ _ none) (by simp)
  have HB1 : Hid (∀ g, x1.a = some g → w.heap.size ≤ g ∧ g < w1.heap.size) := B1
  have HQW : Hid (w.heap.size ≤ w1.heap.size) := g1.size
  unfold ccs at HA1 HG1 HO1 HK1
  clear O1 K1 B1 g1
  simp only [cv]
  go_wp2_with fail
  refine Calls.mono (HC1.out _ (HL.out.keep HG1.out)) ?_
  rintro e w2 ⟨⟨u2, rfl, O2⟩, g2⟩
  rw [World.size_alloc] at O2
  obtain ⟨x2, rfl, K2, B2⟩ := own_lst O2
  have HG2 : Hid (w.grownBy (w2.alloc (.cells (ccs c.hd (.slice (x2.a.map fun g => ⟨g, 0, none⟩) x2.n x2.cap)) 40)) none) := grown_push (grown_trans HG1.out g2) _
  have gg := grown_push g2 (.cells (ccs c.hd (.slice (x2.a.map fun g => ⟨g, 0, none⟩) x2.n x2.cap)) 40)
  have HA2 : Hid (CAt (w2.alloc (.cells (ccs c.hd (.slice (x2.a.map fun g => ⟨g, 0, none⟩) x2.n x2.cap)) 40)) w1.heap.size c.hd (.slice (x1.a.map fun g => ⟨g, 0, none⟩) x1.n x1.cap)) := HA1.out.keep gg
  have HD2 : Hid (CAt (w2.alloc (.cells (ccs c.hd (.slice (x2.a.map fun g => ⟨g, 0, none⟩) x2.n x2.cap)) 40)) w2.heap.size c.hd (.slice (x2.a.map fun g => ⟨g, 0, none⟩) x2.n x2.cap)) := alloc_at w2 _ _
  have HO2 : Hid (POwn (w2.alloc (.cells (ccs c.hd (.slice (x2.a.map fun g => ⟨g, 0, none⟩) x2.n x2.cap)) 40)) w.heap.size (.slice (x1.a.map fun g => ⟨g, 0, none⟩) x1.n x1.cap) c.ps) := HO1.out.keep gg (by simp)
  have HP2 : Hid (POwn (w2.alloc (.cells (ccs c.hd (.slice (x2.a.map fun g => ⟨g, 0, none⟩) x2.n x2.cap)) 40)) (w1.heap.size + 1) (.slice (x2.a.map fun g => ⟨g, 0, none⟩) x2.n x2.cap) c.ps) := O2.keep (World.grownBy_alloc _ _ none) (by simp)
  have HK2 : Hid (x1.ok (w2.alloc (.cells (ccs c.hd (.slice (x2.a.map fun g => ⟨g, 0, none⟩) x2.n x2.cap)) 40))) := HK1.out.keep gg (by simp)
  have HJ2 : Hid (x2.ok (w2.alloc (.cells (ccs c.hd (.slice (x2.a.map fun g => ⟨g, 0, none⟩) x2.n x2.cap)) 40))) := K2.keep (World.grownBy_alloc _ _ none) (by simp)
  have HB2 : Hid (∀ g, x2.a = some g → w1.heap.size + 1 ≤ g ∧ g < w2.heap.size) := B2
  unfold ccs at HA2 HD2 HO2 HP2 HK2 HJ2 HG2
  clear O2 K2 B2 g2 gg HA1 HG1 HO1 HK1
  simp only [cv]
  go_wp2_with fail
  refine Calls.mono (HC2.out _) ?_
  rintro e w3 ⟨⟨u3, rfl, O3⟩, g3⟩
  obtain ⟨a3, k3, rfl⟩ := O3.at.form
  have gg := grown_push g3 (.cells (ccs c.hd (.slice a3 c.ps.length k3)) 40)
  have HG3 : Hid (w.grownBy (w3.alloc (.cells (ccs c.hd (.slice a3 c.ps.length k3)) 40)) none) := grown_trans HG2.out gg
  have HA3 : Hid (CAt (w3.alloc (.cells (ccs c.hd (.slice a3 c.ps.length k3)) 40)) w1.heap.size c.hd (.slice (x1.a.map fun g => ⟨g, 0, none⟩) x1.n x1.cap)) := HA2.out.keep gg
  have HD3 : Hid (CAt (w3.alloc (.cells (ccs c.hd (.slice a3 c.ps.length k3)) 40)) w2.heap.size c.hd (.slice (x2.a.map fun g => ⟨g, 0, none⟩) x2.n x2.cap)) := HD2.out.keep gg
  have HE3 : Hid (CAt (w3.alloc (.cells (ccs c.hd (.slice a3 c.ps.length k3)) 40)) w3.heap.size c.hd (.slice a3 c.ps.length k3)) := alloc_at w3 _ _
  have HO3 : Hid (POwn (w3.alloc (.cells (ccs c.hd (.slice a3 c.ps.length k3)) 40)) w.heap.size (.slice (x1.a.map fun g => ⟨g, 0, none⟩) x1.n x1.cap) c.ps) := HO2.out.keep gg (by simp)
  have HP3 : Hid (POwn (w3.alloc (.cells (ccs c.hd (.slice a3 c.ps.length k3)) 40)) (w1.heap.size + 1) (.slice (x2.a.map fun g => ⟨g, 0, none⟩) x2.n x2.cap) c.ps) := HP2.out.keep gg (by simp)
  have HQ3 : Hid (POwn (w3.alloc (.cells (ccs c.hd (.slice a3 c.ps.length k3)) 40)) 0 (.slice a3 c.ps.length k3) c.ps) := (O3.big (Nat.zero_le _)).keep (World.grownBy_alloc _ _ none) (by simp)
  have HK3 : Hid (x1.ok (w3.alloc (.cells (ccs c.hd (.slice a3 c.ps.length k3)) 40))) := HK2.out.keep gg (by simp)
  have HJ3 : Hid (x2.ok (w3.alloc (.cells (ccs c.hd (.slice a3 c.ps.length k3)) 40))) := HJ2.out.keep gg (by simp)
  clear O3 g3 gg HA2 HD2 HO2 HP2 HK2 HJ2 HG2
  obtain ⟨W3, hW3⟩ : ∃ W3, W3 = w3.alloc (.cells (ccs c.hd (.slice a3 c.ps.length k3)) 40) := ⟨_, rfl⟩
  rw [← hW3] at HG3 HA3 HD3 HE3 HO3 HP3 HQ3 HK3 HJ3
  unfold ccs at hW3
  simp only [cv]
  go_upto_region 4 with fail
  rw [← hW3]
  obtain ⟨q1, hq1⟩ : ∃ q1, q1 = w1.heap.size := ⟨_, rfl⟩
  obtain ⟨q2, hq2⟩ : ∃ q2, q2 = w2.heap.size := ⟨_, rfl⟩
  obtain ⟨q3, hq3⟩ : ∃ q3, q3 = w3.heap.size := ⟨_, rfl⟩
  rw [← hq1] at HA3 HP3 HB1 HB2 HQW
  rw [← hq2] at HD3 HB2
  rw [← hq3] at HE3
  rw [← hq1, ← hq2, ← hq3]
  clear hW3 hq1 hq2 hq3
  obtain ⟨c0, c1, c2, c3, c4, c5, c6, c7, c8⟩ := HA3.out.cells
  obtain ⟨d0, d1, d2, d3, d4, d5, d6, d7, d8⟩ := HE3.out.cells
  go_wp2_with fail
  refine (sameCard_any c.hd c.hd (.slice (x1.a.map fun g => ⟨g, 0, none⟩) x1.n x1.cap) (.slice a3 c.ps.length k3) c.ps c.ps _ HO3.out.at HQ3.out.at HSM.out).mono ?_
  rintro e w4 ⟨rfl, g4⟩
  rw [sameHd_refl, samePs_refl]
  have HG4 : Hid (w.grownBy w4 none) := grown_trans HG3.out g4
  have HA4 : Hid (CAt w4 q1 c.hd (.slice (x1.a.map fun g => ⟨g, 0, none⟩) x1.n x1.cap)) := HA3.out.keep g4
  have HD4 : Hid (CAt w4 q2 c.hd (.slice (x2.a.map fun g => ⟨g, 0, none⟩) x2.n x2.cap)) := HD3.out.keep g4
  have HE4 : Hid (CAt w4 q3 c.hd (.slice a3 c.ps.length k3)) := HE3.out.keep g4
  have HP4 : Hid (POwn w4 (q1 + 1) (.slice (x2.a.map fun g => ⟨g, 0, none⟩) x2.n x2.cap) c.ps) := HP3.out.keep g4 (by simp)
  have HQ4 : Hid (POwn w4 0 (.slice a3 c.ps.length k3) c.ps) := HQ3.out.keep g4 (by simp)
  have HK4 : Hid (x1.ok w4) := HK3.out.keep g4 (by simp)
  have HJ4 : Hid (x2.ok w4) := HJ3.out.keep g4 (by simp)
  clear g4 HG3 HA3 HD3 HE3 HO3 HP3 HQ3 HK3 HJ3 c0 c1 c2 c3 c4 c5 c6 c7 c8 d0 d1 d2 d3 d4 d5 d6 d7 d8
  obtain ⟨c0, c1, c2, c3, c4, c5, c6, c7, c8⟩ := HD4.out.cells
  obtain ⟨d0, d1, d2, d3, d4, d5, d6, d7, d8⟩ := HE4.out.cells
  go_wp2_with fail
  refine (sameCard_any c.hd c.hd (.slice (x2.a.map fun g => ⟨g, 0, none⟩) x2.n x2.cap) (.slice a3 c.ps.length k3) c.ps c.ps _ HP4.out.at HQ4.out.at HSM.out).mono ?_
  rintro e w5 ⟨rfl, g5⟩
  rw [sameHd_refl, samePs_refl]
  have HG5 : Hid (w.grownBy w5 none) := grown_trans HG4.out g5
  have c8 := (HA4.out.keep g5).cells.2.2.2.2.2.2.2.2
  have d8 := (HD4.out.keep g5).cells.2.2.2.2.2.2.2.2
  have HK5 : Hid (x1.ok w5) := HK4.out.keep g5 (by simp)
  have HJ5 : Hid (x2.ok w5) := HJ4.out.keep g5 (by simp)
  clear g5 HG4 HA4 HD4 HE4 HP4 HQ4 HK4 HJ4 c0 c1 c2 c3 c4 c5 c6 c7 d0 d1 d2 d3 d4 d5 d6 d7
  go_wp2_with fail
  refine (apart_any w5.heap.size 2 [x1, x2] _ (by simp) (by simp) two_cells (fun x hx => by
    simp only [List.mem_cons, List.not_mem_nil, or_false] at hx
    rcases hx with rfl | rfl
    · exact HK5.out.keep (World.grownBy_alloc _ _ none) (by simp)
    · exact HJ5.out.keep (World.grownBy_alloc _ _ none) (by simp)) (two_diff (fun g h1 h2 => by
    have a1 := HB1.out g h1
    have a2 := HB2.out g h2
    omega))).mono ?_
  rintro e w6 ⟨rfl, k6⟩
  have HG6 : Hid (w.grownBy w6 none) := Kpt.new (grown_push HG5.out _) k6 (fun x hx => by
    obtain ⟨y, hy, e⟩ := List.mem_filterMap.1 hx
    simp only [List.mem_cons, List.not_mem_nil, or_false] at hy
    rcases hy with rfl | rfl
    · exact (HB1.out x e).1
    · have a2 := HB2.out x e
      have a3 := HG5.out.size
      have a4 := HQW.out
      omega)
  clear k6
  go_wp2
  go_ret
  exact ⟨rfl, HG6.out⟩
end Go.Proofs.YtpceelbphpfciaaGreatDoor
