/-
  EffectParses, walked: of every text Parse tells what the document's own Parse tells.
-/
import Derived.Test.YtpceelbphpfciaaGreatDoorRParse
namespace Go.Proofs.YtpceelbphpfciaaGreatDoor
open Go.RowKit

set_option maxHeartbeats 4000000 in
set_option maxRecDepth 100000 in
theorem parses_any (s : ByteArray) (w : World) (L : LaidAt w) : Calls Tryz.prog 3 #[.string s] w fun e w' => e = .returned (.bool true) ∧ w.grownBy w' none := by
  have c1 := parse_any s w L
  have c2 := fun W => rparse_any s W
  rw [← parse_same] at c2
  obtain ⟨p, f, hpf⟩ : ∃ p f, parse s.data.toList = (p, f) := ⟨_, _, rfl⟩
  rw [hpf] at c1 c2
  obtain ⟨p0, p1, p2, p3, p4, p5, p6, p7⟩ := p
  have he := eql_part p0 p1 p2 p3 p4 p5 p6 p7 p0 p1 p2 p3 p4 p5 p6 p7
  have hg := eqg_part
  rw [samep_yes rfl] at he
  have C1 : Hid (Calls Tryz.prog 8 #[.string s] w fun e w' => e = .returned (pe (⟨p0, p1, p2, p3, p4, p5, p6, p7⟩, f)) ∧ w.grownBy w' none) := c1
  have C2 : Hid (∀ W, Calls Tryz.prog 9 #[.string s] W fun e w' => e = .returned (pe (⟨p0, p1, p2, p3, p4, p5, p6, p7⟩, f)) ∧ W.grownBy w' none) := c2
  have HL : Hid (LaidAt w) := L
  clear hpf c1 c2 L
  go_enter Tryz.func3, Tryz.ntmps3
  go_wp2_with fail
  refine Calls.mono C1.out ?_
  rintro e w1 ⟨rfl, g1⟩
  unfold pe pv
  go_wp2_with fail
  refine Calls.mono (C2.out _) ?_
  rintro e w2 ⟨rfl, g2⟩
  unfold pe pv
  have A2 : PAt w2 w1.heap.size ⟨p0, p1, p2, p3, p4, p5, p6, p7⟩ := (PAt.new w1 ⟨p0, p1, p2, p3, p4, p5, p6, p7⟩).keep g2
  have G2 : Hid (w.grownBy w2 none) := grown_trans (grown_push g1 _) g2
  clear g1 g2
  have A3 := A2.keep (World.grownBy_alloc w2 (.cells #[.int .u8 p0, .int .u8 p1, .int .u8 p2, .int .i64 p3, .int .u8 p4, .int .u8 p5, .int .u8 p6, .string p7] 29) none)
  have B3 := PAt.new w2 ⟨p0, p1, p2, p3, p4, p5, p6, p7⟩
  have HA3 : Hid (PAt _ w1.heap.size ⟨p0, p1, p2, p3, p4, p5, p6, p7⟩) := A3
  have HB3 : Hid (PAt _ w2.heap.size ⟨p0, p1, p2, p3, p4, p5, p6, p7⟩) := B3
  clear A2 A3 B3
  go_wp2_with fail
  refine (lives_any _ (HL.out.keep (grown_push G2.out _))).mono ?_
  rintro e w4 ⟨rfl, g4⟩
  obtain ⟨c0, c1, c2, c3, c4, c5, c6, c7⟩ := (HA3.out.keep g4).cells
  obtain ⟨d0, d1, d2, d3, d4, d5, d6, d7⟩ := (HB3.out.keep g4).cells
  simp only at c0 c1 c2 c3 c4 c5 c6 c7 d0 d1 d2 d3 d4 d5 d6 d7
  have G4 : Hid (w.grownBy w4 none) := grown_trans (grown_push G2.out _) g4
  clear g4 HA3 HB3
  go_wp2
  go_ret
  exact ⟨rfl, G4.out⟩
end Go.Proofs.YtpceelbphpfciaaGreatDoor
