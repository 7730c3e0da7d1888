/-
  The document's Fills.
-/
import Derived.Test.YtknlcjhcamhfmaaGreatDoorJ34
namespace Go.Proofs.YtknlcjhcamhfmaaGreatDoor
open Go.RowKit

set_option maxRecDepth 100000 in
set_option maxHeartbeats 16000000 in
theorem fills_any (w : World) : Calls Tryz.prog 60 #[] w fun e w' => ∃ g, e = .returned (.slice (some ⟨g, 0, none⟩) 6 6) ∧ FlAt w.heap.size w' g ∧ w.heap.size ≤ g ∧ w.grownBy w' none := by
  have HG0 : Hid (w.grownBy w none) := grown_refl _ _
  go_enter Tryz.func60, Tryz.ntmps60
  go_wp2_with fail
  refine (Ai.rlist_std w).mono ?_
  rintro e V0a ⟨g0, es0, rfl, A9⟩
  have gg : w.grownBy V0a none := A9.gr
  have HG1 : Hid (w.grownBy V0a none) := grown_trans HG0.out gg
  have HC0 : Hid (FdC w.heap.size V0a 0 (.slice (some ⟨g0, 0, none⟩) 6 6)) := FdC.low ⟨_, _, rfl, A9.is, A9.lies, A9.own, A9.low⟩ HG0.out.size
  clear A9
  clear gg HG0 
  go_wp2_with fail
  refine (Ai.rtraits V0a).mono ?_
  rintro e V0b ⟨rfl, h9⟩
  have gg : V0a.grownBy V0b none := by rw [h9]; exact World.grownBy_alloc _ _ none
  have HC0_2 : Hid (FdC w.heap.size V0b 0 (.slice (some ⟨g0, 0, none⟩) 6 6)) := HC0.out.keepR gg (by simp)
  have HG2 : Hid (w.grownBy V0b none) := grown_trans HG1.out gg
  obtain ⟨xt0, hxt⟩ : ∃ x, x = V0a.heap.size := ⟨_, rfl⟩
  have HT0 : Hid (FdT w.heap.size V0b 0 (.slice (some ⟨xt0, 0, none⟩) 2 2)) := ⟨_, rfl, fun _ => ⟨_, rfl, by rw [hxt]; exact HG1.out.size, by rw [h9, hxt]; exact alloc_at _ _ _⟩⟩
  rw [← hxt]
  clear h9 hxt
  clear gg HG1 HC0
  go_wp2_with fail
  refine (Ai.rmarks V0b).mono ?_
  rintro e V0c ⟨rfl, h9⟩
  have gg : V0b.grownBy V0c none := by rw [h9]; exact grown_refl _ _
  have HC0_3 : Hid (FdC w.heap.size V0c 0 (.slice (some ⟨g0, 0, none⟩) 6 6)) := HC0_2.out.keepR gg (by simp)
  have HT0_3 : Hid (FdT w.heap.size V0c 0 (.slice (some ⟨xt0, 0, none⟩) 2 2)) := HT0.out.keepR gg (by simp)
  have HG3 : Hid (w.grownBy V0c none) := grown_trans HG2.out gg
  have HM0 : Hid (FdM w.heap.size V0c 0 (.slice none 0 0)) := ⟨_, rfl, fun h => absurd h (by decide)⟩
  clear h9
  clear gg HG2 HC0_2 HT0
  go_wp2_with fail
  refine (rnumber8 V0c).mono ?_
  rintro e V0d ⟨rfl, g9⟩
  have gg : V0c.grownBy V0d none := g9
  have HC0_4 : Hid (FdC w.heap.size V0d 0 (.slice (some ⟨g0, 0, none⟩) 6 6)) := HC0_3.out.keepR gg (by simp)
  have HT0_4 : Hid (FdT w.heap.size V0d 0 (.slice (some ⟨xt0, 0, none⟩) 2 2)) := HT0_3.out.keepR gg (by simp)
  have HM0_4 : Hid (FdM w.heap.size V0d 0 (.slice none 0 0)) := HM0.out.keepR gg (by simp)
  have HG4 : Hid (w.grownBy V0d none) := grown_trans HG3.out gg
  clear g9
  clear gg HG3 HC0_3 HT0_3 HM0
  have HF0 : Hid (Fd w.heap.size V0d 0 (.slice (some ⟨g0, 0, none⟩) 6 6) (.slice (some ⟨xt0, 0, none⟩) 2 2) (.slice none 0 0)) := ⟨HC0_4.out, HT0_4.out, HM0_4.out⟩
  clear HC0_4 HT0_4 HM0_4
  go_wp2_with fail
  refine (Ea.rlist_std V0d).mono ?_
  rintro e V1a ⟨g1, es1, rfl, A9⟩
  have gg : V0d.grownBy V1a none := A9.gr
  have HF0_5 : Hid (Fd w.heap.size V1a 0 (.slice (some ⟨g0, 0, none⟩) 6 6) (.slice (some ⟨xt0, 0, none⟩) 2 2) (.slice none 0 0)) := HF0.out.keepR gg (by simp)
  have HG5 : Hid (w.grownBy V1a none) := grown_trans HG4.out gg
  have HC1 : Hid (FdC w.heap.size V1a 1 (.slice (some ⟨g1, 0, none⟩) 6 6)) := FdC.low ⟨_, _, rfl, A9.is, A9.lies, A9.own, A9.low⟩ HG4.out.size
  clear A9
  clear gg HG4 HF0
  go_wp2_with fail
  refine (Ea.rtraits V1a).mono ?_
  rintro e V1b ⟨rfl, h9⟩
  have gg : V1a.grownBy V1b none := by rw [h9]; exact World.grownBy_alloc _ _ none
  have HF0_6 : Hid (Fd w.heap.size V1b 0 (.slice (some ⟨g0, 0, none⟩) 6 6) (.slice (some ⟨xt0, 0, none⟩) 2 2) (.slice none 0 0)) := HF0_5.out.keepR gg (by simp)
  have HC1_6 : Hid (FdC w.heap.size V1b 1 (.slice (some ⟨g1, 0, none⟩) 6 6)) := HC1.out.keepR gg (by simp)
  have HG6 : Hid (w.grownBy V1b none) := grown_trans HG5.out gg
  obtain ⟨xt1, hxt⟩ : ∃ x, x = V1a.heap.size := ⟨_, rfl⟩
  have HT1 : Hid (FdT w.heap.size V1b 1 (.slice (some ⟨xt1, 0, none⟩) 1 1)) := ⟨_, rfl, fun _ => ⟨_, rfl, by rw [hxt]; exact HG5.out.size, by rw [h9, hxt]; exact alloc_at _ _ _⟩⟩
  rw [← hxt]
  clear h9 hxt
  clear gg HG5 HF0_5 HC1
  go_wp2_with fail
  refine (Ea.rmarks V1b).mono ?_
  rintro e V1c ⟨rfl, h9⟩
  have gg : V1b.grownBy V1c none := by rw [h9]; exact World.grownBy_alloc _ _ none
  have HF0_7 : Hid (Fd w.heap.size V1c 0 (.slice (some ⟨g0, 0, none⟩) 6 6) (.slice (some ⟨xt0, 0, none⟩) 2 2) (.slice none 0 0)) := HF0_6.out.keepR gg (by simp)
  have HC1_7 : Hid (FdC w.heap.size V1c 1 (.slice (some ⟨g1, 0, none⟩) 6 6)) := HC1_6.out.keepR gg (by simp)
  have HT1_7 : Hid (FdT w.heap.size V1c 1 (.slice (some ⟨xt1, 0, none⟩) 1 1)) := HT1.out.keepR gg (by simp)
  have HG7 : Hid (w.grownBy V1c none) := grown_trans HG6.out gg
  obtain ⟨xm1, hxt⟩ : ∃ x, x = V1b.heap.size := ⟨_, rfl⟩
  have HM1 : Hid (FdM w.heap.size V1c 1 (.slice (some ⟨xm1, 0, none⟩) 1 1)) := ⟨_, rfl, fun _ => ⟨_, rfl, by rw [hxt]; exact HG6.out.size, by rw [h9, hxt]; exact alloc_at _ _ _⟩⟩
  rw [← hxt]
  clear h9 hxt
  clear gg HG6 HF0_6 HC1_6 HT1
  go_wp2_with fail
  refine (rnumber9 V1c).mono ?_
  rintro e V1d ⟨rfl, g9⟩
  have gg : V1c.grownBy V1d none := g9
  have HF0_8 : Hid (Fd w.heap.size V1d 0 (.slice (some ⟨g0, 0, none⟩) 6 6) (.slice (some ⟨xt0, 0, none⟩) 2 2) (.slice none 0 0)) := HF0_7.out.keepR gg (by simp)
  have HC1_8 : Hid (FdC w.heap.size V1d 1 (.slice (some ⟨g1, 0, none⟩) 6 6)) := HC1_7.out.keepR gg (by simp)
  have HT1_8 : Hid (FdT w.heap.size V1d 1 (.slice (some ⟨xt1, 0, none⟩) 1 1)) := HT1_7.out.keepR gg (by simp)
  have HM1_8 : Hid (FdM w.heap.size V1d 1 (.slice (some ⟨xm1, 0, none⟩) 1 1)) := HM1.out.keepR gg (by simp)
  have HG8 : Hid (w.grownBy V1d none) := grown_trans HG7.out gg
  clear g9
  clear gg HG7 HF0_7 HC1_7 HT1_7 HM1
  have HF1 : Hid (Fd w.heap.size V1d 1 (.slice (some ⟨g1, 0, none⟩) 6 6) (.slice (some ⟨xt1, 0, none⟩) 1 1) (.slice (some ⟨xm1, 0, none⟩) 1 1)) := ⟨HC1_8.out, HT1_8.out, HM1_8.out⟩
  clear HC1_8 HT1_8 HM1_8
  go_wp2_with fail
  refine (Fr.rlist_std V1d).mono ?_
  rintro e V2a ⟨g2, es2, rfl, A9⟩
  have gg : V1d.grownBy V2a none := A9.gr
  have HF0_9 : Hid (Fd w.heap.size V2a 0 (.slice (some ⟨g0, 0, none⟩) 6 6) (.slice (some ⟨xt0, 0, none⟩) 2 2) (.slice none 0 0)) := HF0_8.out.keepR gg (by simp)
  have HF1_9 : Hid (Fd w.heap.size V2a 1 (.slice (some ⟨g1, 0, none⟩) 6 6) (.slice (some ⟨xt1, 0, none⟩) 1 1) (.slice (some ⟨xm1, 0, none⟩) 1 1)) := HF1.out.keepR gg (by simp)
  have HG9 : Hid (w.grownBy V2a none) := grown_trans HG8.out gg
  have HC2 : Hid (FdC w.heap.size V2a 2 (.slice (some ⟨g2, 0, none⟩) 6 6)) := FdC.low ⟨_, _, rfl, A9.is, A9.lies, A9.own, A9.low⟩ HG8.out.size
  clear A9
  clear gg HG8 HF0_8 HF1
  go_wp2_with fail
  refine (Fr.rtraits V2a).mono ?_
  rintro e V2b ⟨rfl, h9⟩
  have gg : V2a.grownBy V2b none := by rw [h9]; exact World.grownBy_alloc _ _ none
  have HF0_10 : Hid (Fd w.heap.size V2b 0 (.slice (some ⟨g0, 0, none⟩) 6 6) (.slice (some ⟨xt0, 0, none⟩) 2 2) (.slice none 0 0)) := HF0_9.out.keepR gg (by simp)
  have HF1_10 : Hid (Fd w.heap.size V2b 1 (.slice (some ⟨g1, 0, none⟩) 6 6) (.slice (some ⟨xt1, 0, none⟩) 1 1) (.slice (some ⟨xm1, 0, none⟩) 1 1)) := HF1_9.out.keepR gg (by simp)
  have HC2_10 : Hid (FdC w.heap.size V2b 2 (.slice (some ⟨g2, 0, none⟩) 6 6)) := HC2.out.keepR gg (by simp)
  have HG10 : Hid (w.grownBy V2b none) := grown_trans HG9.out gg
  obtain ⟨xt2, hxt⟩ : ∃ x, x = V2a.heap.size := ⟨_, rfl⟩
  have HT2 : Hid (FdT w.heap.size V2b 2 (.slice (some ⟨xt2, 0, none⟩) 1 1)) := ⟨_, rfl, fun _ => ⟨_, rfl, by rw [hxt]; exact HG9.out.size, by rw [h9, hxt]; exact alloc_at _ _ _⟩⟩
  rw [← hxt]
  clear h9 hxt
  clear gg HG9 HF0_9 HF1_9 HC2
  go_wp2_with fail
  refine (Fr.rmarks V2b).mono ?_
  rintro e V2c ⟨rfl, h9⟩
  have gg : V2b.grownBy V2c none := by rw [h9]; exact World.grownBy_alloc _ _ none
  have HF0_11 : Hid (Fd w.heap.size V2c 0 (.slice (some ⟨g0, 0, none⟩) 6 6) (.slice (some ⟨xt0, 0, none⟩) 2 2) (.slice none 0 0)) := HF0_10.out.keepR gg (by simp)
  have HF1_11 : Hid (Fd w.heap.size V2c 1 (.slice (some ⟨g1, 0, none⟩) 6 6) (.slice (some ⟨xt1, 0, none⟩) 1 1) (.slice (some ⟨xm1, 0, none⟩) 1 1)) := HF1_10.out.keepR gg (by simp)
  have HC2_11 : Hid (FdC w.heap.size V2c 2 (.slice (some ⟨g2, 0, none⟩) 6 6)) := HC2_10.out.keepR gg (by simp)
  have HT2_11 : Hid (FdT w.heap.size V2c 2 (.slice (some ⟨xt2, 0, none⟩) 1 1)) := HT2.out.keepR gg (by simp)
  have HG11 : Hid (w.grownBy V2c none) := grown_trans HG10.out gg
  obtain ⟨xm2, hxt⟩ : ∃ x, x = V2b.heap.size := ⟨_, rfl⟩
  have HM2 : Hid (FdM w.heap.size V2c 2 (.slice (some ⟨xm2, 0, none⟩) 1 1)) := ⟨_, rfl, fun _ => ⟨_, rfl, by rw [hxt]; exact HG10.out.size, by rw [h9, hxt]; exact alloc_at _ _ _⟩⟩
  rw [← hxt]
  clear h9 hxt
  clear gg HG10 HF0_10 HF1_10 HC2_10 HT2
  go_wp2_with fail
  refine (rnumber10 V2c).mono ?_
  rintro e V2d ⟨rfl, h9⟩
  have gg : V2c.grownBy V2d none := by rw [h9]; exact grown_refl _ _
  have HF0_12 : Hid (Fd w.heap.size V2d 0 (.slice (some ⟨g0, 0, none⟩) 6 6) (.slice (some ⟨xt0, 0, none⟩) 2 2) (.slice none 0 0)) := HF0_11.out.keepR gg (by simp)
  have HF1_12 : Hid (Fd w.heap.size V2d 1 (.slice (some ⟨g1, 0, none⟩) 6 6) (.slice (some ⟨xt1, 0, none⟩) 1 1) (.slice (some ⟨xm1, 0, none⟩) 1 1)) := HF1_11.out.keepR gg (by simp)
  have HC2_12 : Hid (FdC w.heap.size V2d 2 (.slice (some ⟨g2, 0, none⟩) 6 6)) := HC2_11.out.keepR gg (by simp)
  have HT2_12 : Hid (FdT w.heap.size V2d 2 (.slice (some ⟨xt2, 0, none⟩) 1 1)) := HT2_11.out.keepR gg (by simp)
  have HM2_12 : Hid (FdM w.heap.size V2d 2 (.slice (some ⟨xm2, 0, none⟩) 1 1)) := HM2.out.keepR gg (by simp)
  have HG12 : Hid (w.grownBy V2d none) := grown_trans HG11.out gg
  clear h9
  clear gg HG11 HF0_11 HF1_11 HC2_11 HT2_11 HM2
  have HF2 : Hid (Fd w.heap.size V2d 2 (.slice (some ⟨g2, 0, none⟩) 6 6) (.slice (some ⟨xt2, 0, none⟩) 1 1) (.slice (some ⟨xm2, 0, none⟩) 1 1)) := ⟨HC2_12.out, HT2_12.out, HM2_12.out⟩
  clear HC2_12 HT2_12 HM2_12
  go_wp2_with fail
  refine (Wa.rlist_std V2d).mono ?_
  rintro e V3a ⟨g3, es3, rfl, A9⟩
  have gg : V2d.grownBy V3a none := A9.gr
  have HF0_13 : Hid (Fd w.heap.size V3a 0 (.slice (some ⟨g0, 0, none⟩) 6 6) (.slice (some ⟨xt0, 0, none⟩) 2 2) (.slice none 0 0)) := HF0_12.out.keepR gg (by simp)
  have HF1_13 : Hid (Fd w.heap.size V3a 1 (.slice (some ⟨g1, 0, none⟩) 6 6) (.slice (some ⟨xt1, 0, none⟩) 1 1) (.slice (some ⟨xm1, 0, none⟩) 1 1)) := HF1_12.out.keepR gg (by simp)
  have HF2_13 : Hid (Fd w.heap.size V3a 2 (.slice (some ⟨g2, 0, none⟩) 6 6) (.slice (some ⟨xt2, 0, none⟩) 1 1) (.slice (some ⟨xm2, 0, none⟩) 1 1)) := HF2.out.keepR gg (by simp)
  have HG13 : Hid (w.grownBy V3a none) := grown_trans HG12.out gg
  have HC3 : Hid (FdC w.heap.size V3a 3 (.slice (some ⟨g3, 0, none⟩) 6 6)) := FdC.low ⟨_, _, rfl, A9.is, A9.lies, A9.own, A9.low⟩ HG12.out.size
  clear A9
  clear gg HG12 HF0_12 HF1_12 HF2
  go_wp2_with fail
  refine (Wa.rtraits V3a).mono ?_
  rintro e V3b ⟨rfl, h9⟩
  have gg : V3a.grownBy V3b none := by rw [h9]; exact World.grownBy_alloc _ _ none
  have HF0_14 : Hid (Fd w.heap.size V3b 0 (.slice (some ⟨g0, 0, none⟩) 6 6) (.slice (some ⟨xt0, 0, none⟩) 2 2) (.slice none 0 0)) := HF0_13.out.keepR gg (by simp)
  have HF1_14 : Hid (Fd w.heap.size V3b 1 (.slice (some ⟨g1, 0, none⟩) 6 6) (.slice (some ⟨xt1, 0, none⟩) 1 1) (.slice (some ⟨xm1, 0, none⟩) 1 1)) := HF1_13.out.keepR gg (by simp)
  have HF2_14 : Hid (Fd w.heap.size V3b 2 (.slice (some ⟨g2, 0, none⟩) 6 6) (.slice (some ⟨xt2, 0, none⟩) 1 1) (.slice (some ⟨xm2, 0, none⟩) 1 1)) := HF2_13.out.keepR gg (by simp)
  have HC3_14 : Hid (FdC w.heap.size V3b 3 (.slice (some ⟨g3, 0, none⟩) 6 6)) := HC3.out.keepR gg (by simp)
  have HG14 : Hid (w.grownBy V3b none) := grown_trans HG13.out gg
  obtain ⟨xt3, hxt⟩ : ∃ x, x = V3a.heap.size := ⟨_, rfl⟩
  have HT3 : Hid (FdT w.heap.size V3b 3 (.slice (some ⟨xt3, 0, none⟩) 2 2)) := ⟨_, rfl, fun _ => ⟨_, rfl, by rw [hxt]; exact HG13.out.size, by rw [h9, hxt]; exact alloc_at _ _ _⟩⟩
  rw [← hxt]
  clear h9 hxt
  clear gg HG13 HF0_13 HF1_13 HF2_13 HC3
  go_wp2_with fail
  refine (Wa.rmarks V3b).mono ?_
  rintro e V3c ⟨rfl, h9⟩
  have gg : V3b.grownBy V3c none := by rw [h9]; exact grown_refl _ _
  have HF0_15 : Hid (Fd w.heap.size V3c 0 (.slice (some ⟨g0, 0, none⟩) 6 6) (.slice (some ⟨xt0, 0, none⟩) 2 2) (.slice none 0 0)) := HF0_14.out.keepR gg (by simp)
  have HF1_15 : Hid (Fd w.heap.size V3c 1 (.slice (some ⟨g1, 0, none⟩) 6 6) (.slice (some ⟨xt1, 0, none⟩) 1 1) (.slice (some ⟨xm1, 0, none⟩) 1 1)) := HF1_14.out.keepR gg (by simp)
  have HF2_15 : Hid (Fd w.heap.size V3c 2 (.slice (some ⟨g2, 0, none⟩) 6 6) (.slice (some ⟨xt2, 0, none⟩) 1 1) (.slice (some ⟨xm2, 0, none⟩) 1 1)) := HF2_14.out.keepR gg (by simp)
  have HC3_15 : Hid (FdC w.heap.size V3c 3 (.slice (some ⟨g3, 0, none⟩) 6 6)) := HC3_14.out.keepR gg (by simp)
  have HT3_15 : Hid (FdT w.heap.size V3c 3 (.slice (some ⟨xt3, 0, none⟩) 2 2)) := HT3.out.keepR gg (by simp)
  have HG15 : Hid (w.grownBy V3c none) := grown_trans HG14.out gg
  have HM3 : Hid (FdM w.heap.size V3c 3 (.slice none 0 0)) := ⟨_, rfl, fun h => absurd h (by decide)⟩
  clear h9
  clear gg HG14 HF0_14 HF1_14 HF2_14 HC3_14 HT3
  go_wp2_with fail
  refine (rnumber11 V3c).mono ?_
  rintro e V3d ⟨rfl, g9⟩
  have gg : V3c.grownBy V3d none := g9
  have HF0_16 : Hid (Fd w.heap.size V3d 0 (.slice (some ⟨g0, 0, none⟩) 6 6) (.slice (some ⟨xt0, 0, none⟩) 2 2) (.slice none 0 0)) := HF0_15.out.keepR gg (by simp)
  have HF1_16 : Hid (Fd w.heap.size V3d 1 (.slice (some ⟨g1, 0, none⟩) 6 6) (.slice (some ⟨xt1, 0, none⟩) 1 1) (.slice (some ⟨xm1, 0, none⟩) 1 1)) := HF1_15.out.keepR gg (by simp)
  have HF2_16 : Hid (Fd w.heap.size V3d 2 (.slice (some ⟨g2, 0, none⟩) 6 6) (.slice (some ⟨xt2, 0, none⟩) 1 1) (.slice (some ⟨xm2, 0, none⟩) 1 1)) := HF2_15.out.keepR gg (by simp)
  have HC3_16 : Hid (FdC w.heap.size V3d 3 (.slice (some ⟨g3, 0, none⟩) 6 6)) := HC3_15.out.keepR gg (by simp)
  have HT3_16 : Hid (FdT w.heap.size V3d 3 (.slice (some ⟨xt3, 0, none⟩) 2 2)) := HT3_15.out.keepR gg (by simp)
  have HM3_16 : Hid (FdM w.heap.size V3d 3 (.slice none 0 0)) := HM3.out.keepR gg (by simp)
  have HG16 : Hid (w.grownBy V3d none) := grown_trans HG15.out gg
  clear g9
  clear gg HG15 HF0_15 HF1_15 HF2_15 HC3_15 HT3_15 HM3
  have HF3 : Hid (Fd w.heap.size V3d 3 (.slice (some ⟨g3, 0, none⟩) 6 6) (.slice (some ⟨xt3, 0, none⟩) 2 2) (.slice none 0 0)) := ⟨HC3_16.out, HT3_16.out, HM3_16.out⟩
  clear HC3_16 HT3_16 HM3_16
  go_wp2_with fail
  refine (Vo.rlist_std V3d).mono ?_
  rintro e V4a ⟨g4, es4, rfl, A9⟩
  have gg : V3d.grownBy V4a none := A9.gr
  have HF0_17 : Hid (Fd w.heap.size V4a 0 (.slice (some ⟨g0, 0, none⟩) 6 6) (.slice (some ⟨xt0, 0, none⟩) 2 2) (.slice none 0 0)) := HF0_16.out.keepR gg (by simp)
  have HF1_17 : Hid (Fd w.heap.size V4a 1 (.slice (some ⟨g1, 0, none⟩) 6 6) (.slice (some ⟨xt1, 0, none⟩) 1 1) (.slice (some ⟨xm1, 0, none⟩) 1 1)) := HF1_16.out.keepR gg (by simp)
  have HF2_17 : Hid (Fd w.heap.size V4a 2 (.slice (some ⟨g2, 0, none⟩) 6 6) (.slice (some ⟨xt2, 0, none⟩) 1 1) (.slice (some ⟨xm2, 0, none⟩) 1 1)) := HF2_16.out.keepR gg (by simp)
  have HF3_17 : Hid (Fd w.heap.size V4a 3 (.slice (some ⟨g3, 0, none⟩) 6 6) (.slice (some ⟨xt3, 0, none⟩) 2 2) (.slice none 0 0)) := HF3.out.keepR gg (by simp)
  have HG17 : Hid (w.grownBy V4a none) := grown_trans HG16.out gg
  have HC4 : Hid (FdC w.heap.size V4a 4 (.slice (some ⟨g4, 0, none⟩) 6 6)) := FdC.low ⟨_, _, rfl, A9.is, A9.lies, A9.own, A9.low⟩ HG16.out.size
  clear A9
  clear gg HG16 HF0_16 HF1_16 HF2_16 HF3
  go_wp2_with fail
  refine (Vo.rtraits V4a).mono ?_
  rintro e V4b ⟨rfl, h9⟩
  have gg : V4a.grownBy V4b none := by rw [h9]; exact World.grownBy_alloc _ _ none
  have HF0_18 : Hid (Fd w.heap.size V4b 0 (.slice (some ⟨g0, 0, none⟩) 6 6) (.slice (some ⟨xt0, 0, none⟩) 2 2) (.slice none 0 0)) := HF0_17.out.keepR gg (by simp)
  have HF1_18 : Hid (Fd w.heap.size V4b 1 (.slice (some ⟨g1, 0, none⟩) 6 6) (.slice (some ⟨xt1, 0, none⟩) 1 1) (.slice (some ⟨xm1, 0, none⟩) 1 1)) := HF1_17.out.keepR gg (by simp)
  have HF2_18 : Hid (Fd w.heap.size V4b 2 (.slice (some ⟨g2, 0, none⟩) 6 6) (.slice (some ⟨xt2, 0, none⟩) 1 1) (.slice (some ⟨xm2, 0, none⟩) 1 1)) := HF2_17.out.keepR gg (by simp)
  have HF3_18 : Hid (Fd w.heap.size V4b 3 (.slice (some ⟨g3, 0, none⟩) 6 6) (.slice (some ⟨xt3, 0, none⟩) 2 2) (.slice none 0 0)) := HF3_17.out.keepR gg (by simp)
  have HC4_18 : Hid (FdC w.heap.size V4b 4 (.slice (some ⟨g4, 0, none⟩) 6 6)) := HC4.out.keepR gg (by simp)
  have HG18 : Hid (w.grownBy V4b none) := grown_trans HG17.out gg
  obtain ⟨xt4, hxt⟩ : ∃ x, x = V4a.heap.size := ⟨_, rfl⟩
  have HT4 : Hid (FdT w.heap.size V4b 4 (.slice (some ⟨xt4, 0, none⟩) 1 1)) := ⟨_, rfl, fun _ => ⟨_, rfl, by rw [hxt]; exact HG17.out.size, by rw [h9, hxt]; exact alloc_at _ _ _⟩⟩
  rw [← hxt]
  clear h9 hxt
  clear gg HG17 HF0_17 HF1_17 HF2_17 HF3_17 HC4
  go_wp2_with fail
  refine (Vo.rmarks V4b).mono ?_
  rintro e V4c ⟨rfl, h9⟩
  have gg : V4b.grownBy V4c none := by rw [h9]; exact World.grownBy_alloc _ _ none
  have HF0_19 : Hid (Fd w.heap.size V4c 0 (.slice (some ⟨g0, 0, none⟩) 6 6) (.slice (some ⟨xt0, 0, none⟩) 2 2) (.slice none 0 0)) := HF0_18.out.keepR gg (by simp)
  have HF1_19 : Hid (Fd w.heap.size V4c 1 (.slice (some ⟨g1, 0, none⟩) 6 6) (.slice (some ⟨xt1, 0, none⟩) 1 1) (.slice (some ⟨xm1, 0, none⟩) 1 1)) := HF1_18.out.keepR gg (by simp)
  have HF2_19 : Hid (Fd w.heap.size V4c 2 (.slice (some ⟨g2, 0, none⟩) 6 6) (.slice (some ⟨xt2, 0, none⟩) 1 1) (.slice (some ⟨xm2, 0, none⟩) 1 1)) := HF2_18.out.keepR gg (by simp)
  have HF3_19 : Hid (Fd w.heap.size V4c 3 (.slice (some ⟨g3, 0, none⟩) 6 6) (.slice (some ⟨xt3, 0, none⟩) 2 2) (.slice none 0 0)) := HF3_18.out.keepR gg (by simp)
  have HC4_19 : Hid (FdC w.heap.size V4c 4 (.slice (some ⟨g4, 0, none⟩) 6 6)) := HC4_18.out.keepR gg (by simp)
  have HT4_19 : Hid (FdT w.heap.size V4c 4 (.slice (some ⟨xt4, 0, none⟩) 1 1)) := HT4.out.keepR gg (by simp)
  have HG19 : Hid (w.grownBy V4c none) := grown_trans HG18.out gg
  obtain ⟨xm4, hxt⟩ : ∃ x, x = V4b.heap.size := ⟨_, rfl⟩
  have HM4 : Hid (FdM w.heap.size V4c 4 (.slice (some ⟨xm4, 0, none⟩) 1 1)) := ⟨_, rfl, fun _ => ⟨_, rfl, by rw [hxt]; exact HG18.out.size, by rw [h9, hxt]; exact alloc_at _ _ _⟩⟩
  rw [← hxt]
  clear h9 hxt
  clear gg HG18 HF0_18 HF1_18 HF2_18 HF3_18 HC4_18 HT4
  go_wp2_with fail
  refine (rnumber12 V4c).mono ?_
  rintro e V4d ⟨rfl, g9⟩
  have gg : V4c.grownBy V4d none := g9
  have HF0_20 : Hid (Fd w.heap.size V4d 0 (.slice (some ⟨g0, 0, none⟩) 6 6) (.slice (some ⟨xt0, 0, none⟩) 2 2) (.slice none 0 0)) := HF0_19.out.keepR gg (by simp)
  have HF1_20 : Hid (Fd w.heap.size V4d 1 (.slice (some ⟨g1, 0, none⟩) 6 6) (.slice (some ⟨xt1, 0, none⟩) 1 1) (.slice (some ⟨xm1, 0, none⟩) 1 1)) := HF1_19.out.keepR gg (by simp)
  have HF2_20 : Hid (Fd w.heap.size V4d 2 (.slice (some ⟨g2, 0, none⟩) 6 6) (.slice (some ⟨xt2, 0, none⟩) 1 1) (.slice (some ⟨xm2, 0, none⟩) 1 1)) := HF2_19.out.keepR gg (by simp)
  have HF3_20 : Hid (Fd w.heap.size V4d 3 (.slice (some ⟨g3, 0, none⟩) 6 6) (.slice (some ⟨xt3, 0, none⟩) 2 2) (.slice none 0 0)) := HF3_19.out.keepR gg (by simp)
  have HC4_20 : Hid (FdC w.heap.size V4d 4 (.slice (some ⟨g4, 0, none⟩) 6 6)) := HC4_19.out.keepR gg (by simp)
  have HT4_20 : Hid (FdT w.heap.size V4d 4 (.slice (some ⟨xt4, 0, none⟩) 1 1)) := HT4_19.out.keepR gg (by simp)
  have HM4_20 : Hid (FdM w.heap.size V4d 4 (.slice (some ⟨xm4, 0, none⟩) 1 1)) := HM4.out.keepR gg (by simp)
  have HG20 : Hid (w.grownBy V4d none) := grown_trans HG19.out gg
  clear g9
  clear gg HG19 HF0_19 HF1_19 HF2_19 HF3_19 HC4_19 HT4_19 HM4
  have HF4 : Hid (Fd w.heap.size V4d 4 (.slice (some ⟨g4, 0, none⟩) 6 6) (.slice (some ⟨xt4, 0, none⟩) 1 1) (.slice (some ⟨xm4, 0, none⟩) 1 1)) := ⟨HC4_20.out, HT4_20.out, HM4_20.out⟩
  clear HC4_20 HT4_20 HM4_20
  go_wp2_with fail
  refine (Gd.rlist_std V4d).mono ?_
  rintro e V5a ⟨g5, es5, rfl, A9⟩
  have gg : V4d.grownBy V5a none := A9.gr
  have HF0_21 : Hid (Fd w.heap.size V5a 0 (.slice (some ⟨g0, 0, none⟩) 6 6) (.slice (some ⟨xt0, 0, none⟩) 2 2) (.slice none 0 0)) := HF0_20.out.keepR gg (by simp)
  have HF1_21 : Hid (Fd w.heap.size V5a 1 (.slice (some ⟨g1, 0, none⟩) 6 6) (.slice (some ⟨xt1, 0, none⟩) 1 1) (.slice (some ⟨xm1, 0, none⟩) 1 1)) := HF1_20.out.keepR gg (by simp)
  have HF2_21 : Hid (Fd w.heap.size V5a 2 (.slice (some ⟨g2, 0, none⟩) 6 6) (.slice (some ⟨xt2, 0, none⟩) 1 1) (.slice (some ⟨xm2, 0, none⟩) 1 1)) := HF2_20.out.keepR gg (by simp)
  have HF3_21 : Hid (Fd w.heap.size V5a 3 (.slice (some ⟨g3, 0, none⟩) 6 6) (.slice (some ⟨xt3, 0, none⟩) 2 2) (.slice none 0 0)) := HF3_20.out.keepR gg (by simp)
  have HF4_21 : Hid (Fd w.heap.size V5a 4 (.slice (some ⟨g4, 0, none⟩) 6 6) (.slice (some ⟨xt4, 0, none⟩) 1 1) (.slice (some ⟨xm4, 0, none⟩) 1 1)) := HF4.out.keepR gg (by simp)
  have HG21 : Hid (w.grownBy V5a none) := grown_trans HG20.out gg
  have HC5 : Hid (FdC w.heap.size V5a 5 (.slice (some ⟨g5, 0, none⟩) 6 6)) := FdC.low ⟨_, _, rfl, A9.is, A9.lies, A9.own, A9.low⟩ HG20.out.size
  clear A9
  clear gg HG20 HF0_20 HF1_20 HF2_20 HF3_20 HF4
  go_wp2_with fail
  refine (Gd.rtraits V5a).mono ?_
  rintro e V5b ⟨rfl, h9⟩
  have gg : V5a.grownBy V5b none := by rw [h9]; exact World.grownBy_alloc _ _ none
  have HF0_22 : Hid (Fd w.heap.size V5b 0 (.slice (some ⟨g0, 0, none⟩) 6 6) (.slice (some ⟨xt0, 0, none⟩) 2 2) (.slice none 0 0)) := HF0_21.out.keepR gg (by simp)
  have HF1_22 : Hid (Fd w.heap.size V5b 1 (.slice (some ⟨g1, 0, none⟩) 6 6) (.slice (some ⟨xt1, 0, none⟩) 1 1) (.slice (some ⟨xm1, 0, none⟩) 1 1)) := HF1_21.out.keepR gg (by simp)
  have HF2_22 : Hid (Fd w.heap.size V5b 2 (.slice (some ⟨g2, 0, none⟩) 6 6) (.slice (some ⟨xt2, 0, none⟩) 1 1) (.slice (some ⟨xm2, 0, none⟩) 1 1)) := HF2_21.out.keepR gg (by simp)
  have HF3_22 : Hid (Fd w.heap.size V5b 3 (.slice (some ⟨g3, 0, none⟩) 6 6) (.slice (some ⟨xt3, 0, none⟩) 2 2) (.slice none 0 0)) := HF3_21.out.keepR gg (by simp)
  have HF4_22 : Hid (Fd w.heap.size V5b 4 (.slice (some ⟨g4, 0, none⟩) 6 6) (.slice (some ⟨xt4, 0, none⟩) 1 1) (.slice (some ⟨xm4, 0, none⟩) 1 1)) := HF4_21.out.keepR gg (by simp)
  have HC5_22 : Hid (FdC w.heap.size V5b 5 (.slice (some ⟨g5, 0, none⟩) 6 6)) := HC5.out.keepR gg (by simp)
  have HG22 : Hid (w.grownBy V5b none) := grown_trans HG21.out gg
  obtain ⟨xt5, hxt⟩ : ∃ x, x = V5a.heap.size := ⟨_, rfl⟩
  have HT5 : Hid (FdT w.heap.size V5b 5 (.slice (some ⟨xt5, 0, none⟩) 1 1)) := ⟨_, rfl, fun _ => ⟨_, rfl, by rw [hxt]; exact HG21.out.size, by rw [h9, hxt]; exact alloc_at _ _ _⟩⟩
  rw [← hxt]
  clear h9 hxt
  clear gg HG21 HF0_21 HF1_21 HF2_21 HF3_21 HF4_21 HC5
  go_wp2_with fail
  refine (Gd.rmarks V5b).mono ?_
  rintro e V5c ⟨rfl, h9⟩
  have gg : V5b.grownBy V5c none := by rw [h9]; exact World.grownBy_alloc _ _ none
  have HF0_23 : Hid (Fd w.heap.size V5c 0 (.slice (some ⟨g0, 0, none⟩) 6 6) (.slice (some ⟨xt0, 0, none⟩) 2 2) (.slice none 0 0)) := HF0_22.out.keepR gg (by simp)
  have HF1_23 : Hid (Fd w.heap.size V5c 1 (.slice (some ⟨g1, 0, none⟩) 6 6) (.slice (some ⟨xt1, 0, none⟩) 1 1) (.slice (some ⟨xm1, 0, none⟩) 1 1)) := HF1_22.out.keepR gg (by simp)
  have HF2_23 : Hid (Fd w.heap.size V5c 2 (.slice (some ⟨g2, 0, none⟩) 6 6) (.slice (some ⟨xt2, 0, none⟩) 1 1) (.slice (some ⟨xm2, 0, none⟩) 1 1)) := HF2_22.out.keepR gg (by simp)
  have HF3_23 : Hid (Fd w.heap.size V5c 3 (.slice (some ⟨g3, 0, none⟩) 6 6) (.slice (some ⟨xt3, 0, none⟩) 2 2) (.slice none 0 0)) := HF3_22.out.keepR gg (by simp)
  have HF4_23 : Hid (Fd w.heap.size V5c 4 (.slice (some ⟨g4, 0, none⟩) 6 6) (.slice (some ⟨xt4, 0, none⟩) 1 1) (.slice (some ⟨xm4, 0, none⟩) 1 1)) := HF4_22.out.keepR gg (by simp)
  have HC5_23 : Hid (FdC w.heap.size V5c 5 (.slice (some ⟨g5, 0, none⟩) 6 6)) := HC5_22.out.keepR gg (by simp)
  have HT5_23 : Hid (FdT w.heap.size V5c 5 (.slice (some ⟨xt5, 0, none⟩) 1 1)) := HT5.out.keepR gg (by simp)
  have HG23 : Hid (w.grownBy V5c none) := grown_trans HG22.out gg
  obtain ⟨xm5, hxt⟩ : ∃ x, x = V5b.heap.size := ⟨_, rfl⟩
  have HM5 : Hid (FdM w.heap.size V5c 5 (.slice (some ⟨xm5, 0, none⟩) 1 1)) := ⟨_, rfl, fun _ => ⟨_, rfl, by rw [hxt]; exact HG22.out.size, by rw [h9, hxt]; exact alloc_at _ _ _⟩⟩
  rw [← hxt]
  clear h9 hxt
  clear gg HG22 HF0_22 HF1_22 HF2_22 HF3_22 HF4_22 HC5_22 HT5
  go_wp2_with fail
  refine (rnumber13 V5c).mono ?_
  rintro e V5d ⟨rfl, g9⟩
  have gg : V5c.grownBy V5d none := g9
  have HF0_24 : Hid (Fd w.heap.size V5d 0 (.slice (some ⟨g0, 0, none⟩) 6 6) (.slice (some ⟨xt0, 0, none⟩) 2 2) (.slice none 0 0)) := HF0_23.out.keepR gg (by simp)
  have HF1_24 : Hid (Fd w.heap.size V5d 1 (.slice (some ⟨g1, 0, none⟩) 6 6) (.slice (some ⟨xt1, 0, none⟩) 1 1) (.slice (some ⟨xm1, 0, none⟩) 1 1)) := HF1_23.out.keepR gg (by simp)
  have HF2_24 : Hid (Fd w.heap.size V5d 2 (.slice (some ⟨g2, 0, none⟩) 6 6) (.slice (some ⟨xt2, 0, none⟩) 1 1) (.slice (some ⟨xm2, 0, none⟩) 1 1)) := HF2_23.out.keepR gg (by simp)
  have HF3_24 : Hid (Fd w.heap.size V5d 3 (.slice (some ⟨g3, 0, none⟩) 6 6) (.slice (some ⟨xt3, 0, none⟩) 2 2) (.slice none 0 0)) := HF3_23.out.keepR gg (by simp)
  have HF4_24 : Hid (Fd w.heap.size V5d 4 (.slice (some ⟨g4, 0, none⟩) 6 6) (.slice (some ⟨xt4, 0, none⟩) 1 1) (.slice (some ⟨xm4, 0, none⟩) 1 1)) := HF4_23.out.keepR gg (by simp)
  have HC5_24 : Hid (FdC w.heap.size V5d 5 (.slice (some ⟨g5, 0, none⟩) 6 6)) := HC5_23.out.keepR gg (by simp)
  have HT5_24 : Hid (FdT w.heap.size V5d 5 (.slice (some ⟨xt5, 0, none⟩) 1 1)) := HT5_23.out.keepR gg (by simp)
  have HM5_24 : Hid (FdM w.heap.size V5d 5 (.slice (some ⟨xm5, 0, none⟩) 1 1)) := HM5.out.keepR gg (by simp)
  have HG24 : Hid (w.grownBy V5d none) := grown_trans HG23.out gg
  clear g9
  clear gg HG23 HF0_23 HF1_23 HF2_23 HF3_23 HF4_23 HC5_23 HT5_23 HM5
  have HF5 : Hid (Fd w.heap.size V5d 5 (.slice (some ⟨g5, 0, none⟩) 6 6) (.slice (some ⟨xt5, 0, none⟩) 1 1) (.slice (some ⟨xm5, 0, none⟩) 1 1)) := ⟨HC5_24.out, HT5_24.out, HM5_24.out⟩
  clear HC5_24 HT5_24 HM5_24
  obtain ⟨V9, hV9⟩ : ∃ V9, V9 = V5d.alloc (.cells #[.string ⟨#[97, 105, 114]⟩, .slice (some ⟨g0, 0, none⟩) 6 6, .slice (some ⟨xt0, 0, none⟩) 2 2, .slice none 0 0, .int .i64 27, .string ⟨#[101, 97, 114, 116, 104]⟩, .slice (some ⟨g1, 0, none⟩) 6 6, .slice (some ⟨xt1, 0, none⟩) 1 1, .slice (some ⟨xm1, 0, none⟩) 1 1, .int .i64 31, .string ⟨#[102, 105, 114, 101]⟩, .slice (some ⟨g2, 0, none⟩) 6 6, .slice (some ⟨xt2, 0, none⟩) 1 1, .slice (some ⟨xm2, 0, none⟩) 1 1, .int .i64 68, .string ⟨#[119, 97, 116, 101, 114]⟩, .slice (some ⟨g3, 0, none⟩) 6 6, .slice (some ⟨xt3, 0, none⟩) 2 2, .slice none 0 0, .int .i64 51, .string ⟨#[118, 111, 105, 100]⟩, .slice (some ⟨g4, 0, none⟩) 6 6, .slice (some ⟨xt4, 0, none⟩) 1 1, .slice (some ⟨xm4, 0, none⟩) 1 1, .int .i64 147, .string ⟨#[103, 111, 108, 100]⟩, .slice (some ⟨g5, 0, none⟩) 6 6, .slice (some ⟨xt5, 0, none⟩) 1 1, .slice (some ⟨xm5, 0, none⟩) 1 1, .int .i64 215] 122) := ⟨_, rfl⟩
  have gg : V5d.grownBy V9 none := by rw [hV9]; exact World.grownBy_alloc _ _ none
  have Z : V9.heap[V5d.heap.size]? = some (.cells #[.string ⟨#[97, 105, 114]⟩, .slice (some ⟨g0, 0, none⟩) 6 6, .slice (some ⟨xt0, 0, none⟩) 2 2, .slice none 0 0, .int .i64 27, .string ⟨#[101, 97, 114, 116, 104]⟩, .slice (some ⟨g1, 0, none⟩) 6 6, .slice (some ⟨xt1, 0, none⟩) 1 1, .slice (some ⟨xm1, 0, none⟩) 1 1, .int .i64 31, .string ⟨#[102, 105, 114, 101]⟩, .slice (some ⟨g2, 0, none⟩) 6 6, .slice (some ⟨xt2, 0, none⟩) 1 1, .slice (some ⟨xm2, 0, none⟩) 1 1, .int .i64 68, .string ⟨#[119, 97, 116, 101, 114]⟩, .slice (some ⟨g3, 0, none⟩) 6 6, .slice (some ⟨xt3, 0, none⟩) 2 2, .slice none 0 0, .int .i64 51, .string ⟨#[118, 111, 105, 100]⟩, .slice (some ⟨g4, 0, none⟩) 6 6, .slice (some ⟨xt4, 0, none⟩) 1 1, .slice (some ⟨xm4, 0, none⟩) 1 1, .int .i64 147, .string ⟨#[103, 111, 108, 100]⟩, .slice (some ⟨g5, 0, none⟩) 6 6, .slice (some ⟨xt5, 0, none⟩) 1 1, .slice (some ⟨xm5, 0, none⟩) 1 1, .int .i64 215] 122 (0, 0)) := by rw [hV9]; exact alloc_at _ _ _
  have FIN : Hid (FlAt w.heap.size V9 V5d.heap.size ∧ w.heap.size ≤ V5d.heap.size ∧ w.grownBy V9 none) := by
    refine ⟨fun k hk => ?_, HG24.out.size, grown_trans HG24.out gg⟩
    rcases (show k = 0 ∨ k = 1 ∨ k = 2 ∨ k = 3 ∨ k = 4 ∨ k = 5 by omega) with rfl | rfl | rfl | rfl | rfl | rfl
    · exact ⟨_, _, _, HF0_24.out.keepR gg (by simp), block_cell Z 0, block_cell Z 1, block_cell Z 2, block_cell Z 3, block_cell Z 4⟩
    · exact ⟨_, _, _, HF1_24.out.keepR gg (by simp), block_cell Z 5, block_cell Z 6, block_cell Z 7, block_cell Z 8, block_cell Z 9⟩
    · exact ⟨_, _, _, HF2_24.out.keepR gg (by simp), block_cell Z 10, block_cell Z 11, block_cell Z 12, block_cell Z 13, block_cell Z 14⟩
    · exact ⟨_, _, _, HF3_24.out.keepR gg (by simp), block_cell Z 15, block_cell Z 16, block_cell Z 17, block_cell Z 18, block_cell Z 19⟩
    · exact ⟨_, _, _, HF4_24.out.keepR gg (by simp), block_cell Z 20, block_cell Z 21, block_cell Z 22, block_cell Z 23, block_cell Z 24⟩
    · exact ⟨_, _, _, HF5.out.keepR gg (by simp), block_cell Z 25, block_cell Z 26, block_cell Z 27, block_cell Z 28, block_cell Z 29⟩
  have HV9 : Hid (V9 = V5d.alloc (.cells #[.string ⟨#[97, 105, 114]⟩, .slice (some ⟨g0, 0, none⟩) 6 6, .slice (some ⟨xt0, 0, none⟩) 2 2, .slice none 0 0, .int .i64 27, .string ⟨#[101, 97, 114, 116, 104]⟩, .slice (some ⟨g1, 0, none⟩) 6 6, .slice (some ⟨xt1, 0, none⟩) 1 1, .slice (some ⟨xm1, 0, none⟩) 1 1, .int .i64 31, .string ⟨#[102, 105, 114, 101]⟩, .slice (some ⟨g2, 0, none⟩) 6 6, .slice (some ⟨xt2, 0, none⟩) 1 1, .slice (some ⟨xm2, 0, none⟩) 1 1, .int .i64 68, .string ⟨#[119, 97, 116, 101, 114]⟩, .slice (some ⟨g3, 0, none⟩) 6 6, .slice (some ⟨xt3, 0, none⟩) 2 2, .slice none 0 0, .int .i64 51, .string ⟨#[118, 111, 105, 100]⟩, .slice (some ⟨g4, 0, none⟩) 6 6, .slice (some ⟨xt4, 0, none⟩) 1 1, .slice (some ⟨xm4, 0, none⟩) 1 1, .int .i64 147, .string ⟨#[103, 111, 108, 100]⟩, .slice (some ⟨g5, 0, none⟩) 6 6, .slice (some ⟨xt5, 0, none⟩) 1 1, .slice (some ⟨xm5, 0, none⟩) 1 1, .int .i64 215] 122)) := hV9
  clear Z gg hV9 HG24 HF0_24 HF1_24 HF2_24 HF3_24 HF4_24 HF5
  go_wp2
  rw [← HV9.out]
  go_ret
  exact ⟨_, rfl, FIN.out⟩
end Go.Proofs.YtknlcjhcamhfmaaGreatDoor
