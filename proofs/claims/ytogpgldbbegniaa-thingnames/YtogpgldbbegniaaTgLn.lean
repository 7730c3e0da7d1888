/-
  ThingNames: chapter 18's errors and limits have their numbers; its examples; what is no book.
-/
import Derived.Test.YtogpgldbbegniaaN1
namespace Go.Proofs.Ytogpgldbbegniaa
open Go.RowKit

def zbT : Array Value := (noCards 64 ++ (.bool false :: .bool false :: .int .i64 0 :: (plNew.nms.map Value.string ++ mcells plNew.mks))).toArray
theorem run_buildT (w : World) : (Instr.build 79 #[]).run Try.prog w = .ok (.agg zbT) w := by kernel_rfl
theorem zbT_no (w : World) : NoBk (w.alloc (.cells zbT 79)) (.pointer (some ⟨w.heap.size, 0, none⟩)) := Or.inr ⟨_, rfl, by rw [block_cell (alloc_at w zbT _)]; kernel_rfl⟩
set_option maxRecDepth 100000 in
set_option maxHeartbeats 8000000 in
theorem thingNames_any (w : World) : Calls Try.prog 5 #[] w fun e w' => e = .returned (.bool true) ∧ w.grownBy w' none := by
  obtain ⟨zb, hzb⟩ : ∃ zb, zb = zbT := ⟨_, rfl⟩
  have BZ : ∀ w, (Instr.build 79 #[]).run Try.prog w = .ok (.agg zb) w := by rw [hzb]; exact run_buildT
  have NZ : Hid (∀ w : World, NoBk (w.alloc (.cells zb 79)) (.pointer (some ⟨w.heap.size, 0, none⟩))) := by rw [hzb]; exact zbT_no
  clear hzb
  have HE := texample_any w
  obtain ⟨b, hb⟩ : ∃ b, b = w.heap.size := ⟨_, rfl⟩
  rw [← hb] at HE
  clear hb
  go_enter Try.func5, Try.ntmps5
  go_wp2_with fail
  refine HE.mono ?_
  rintro e w1 ⟨u, v, rfl, B1, g1⟩
  obtain ⟨W1, hW1⟩ : ∃ W1, W1 = w1.alloc (.cells #[.int .i64 0, .int .u8 0, .int .u16 0, .int .i64 2, .int .i64 3] 53) := ⟨_, rfl⟩
  have HB : Hid (Book (tgOk b) W1 b (tgES u v) tgP3) := by rw [hW1]; exact B1.keep (World.grownBy_alloc _ _ none)
  have HG : Hid (w.grownBy W1 none) := by rw [hW1]; exact grown_push g1 _
  have HX : Hid (W1.heap[w1.heap.size]? = some (.cells #[.int .i64 0, .int .u8 0, .int .u16 0, .int .i64 2, .int .i64 3] 53 (0, 0))) := by rw [hW1]; exact alloc_at _ _ _
  clear HE B1 g1
  go_upto_region 3 with fail
  rw [← hW1]
  clear hW1
  obtain ⟨xf, hxf⟩ : ∃ xf, xf = w1.heap.size := ⟨_, rfl⟩
  rw [← hxf] at HX ⊢
  clear hxf
  have HC2 := tprinted_lit (tgOk b) b (tgES u v) tgP3 ⟨3, 0, 0, 0, 0, 0, 0, 0, 0, 0, false⟩ W1 HB.out Fe.none 6 (by kernel_rfl) (by kernel_rfl)
  unfold thv fev Fe.none at HC2
  simp only at HC2
  go_wp2_with fail
  refine HC2.mono ?_
  rintro e v2 ⟨rfl, g2⟩
  obtain ⟨W2, hW2⟩ : ∃ W2, W2 = v2.alloc (.cells #[.int .i64 0, .int .u8 0, .int .u16 0, .int .i64 0, .int .i64 0] 53) := ⟨_, rfl⟩
  have HGs : Hid (W1.grownBy W2 none) := by rw [hW2]; exact grown_push g2 _
  have HB' : Hid (Book (tgOk b) W2 b (tgES u v) tgP3) := HB.out.keep HGs.out
  have HG' : Hid (w.grownBy W2 none) := grown_trans HG.out HGs.out
  have HX' : Hid (W2.heap[xf]? = some (.cells #[.int .i64 0, .int .u8 0, .int .u16 0, .int .i64 2, .int .i64 3] 53 (0, 0))) := grown_keep HGs.out HX.out (by simp)
  clear HB HG HX HGs HC2 g2
  have HB := HB'
  have HG := HG'
  have HX := HX'
  clear HB' HG' HX'
  go_upto_region 4 with fail
  rw [← hW2]
  clear hW2
  obtain ⟨z2, hz2⟩ : ∃ z2, z2 = v2.heap.size := ⟨_, rfl⟩
  rw [← hz2]
  clear hz2
  have HC3 := tprinted_lit (tgOk b) b (tgES u v) tgP3 ⟨2, 2, 0, 0, 0, 0, 0, 0, 0, 0, false⟩ W2 HB.out Fe.none 2 (by kernel_rfl) (by kernel_rfl)
  unfold thv fev Fe.none at HC3
  simp only at HC3
  go_wp2_with fail
  refine HC3.mono ?_
  rintro e v3 ⟨rfl, g3⟩
  obtain ⟨W3, hW3⟩ : ∃ W3, W3 = v3.alloc (.cells #[.int .i64 0, .int .u8 0, .int .u16 0, .int .i64 0, .int .i64 0] 53) := ⟨_, rfl⟩
  have HGs : Hid (W2.grownBy W3 none) := by rw [hW3]; exact grown_push g3 _
  have HB' : Hid (Book (tgOk b) W3 b (tgES u v) tgP3) := HB.out.keep HGs.out
  have HG' : Hid (w.grownBy W3 none) := grown_trans HG.out HGs.out
  have HX' : Hid (W3.heap[xf]? = some (.cells #[.int .i64 0, .int .u8 0, .int .u16 0, .int .i64 2, .int .i64 3] 53 (0, 0))) := grown_keep HGs.out HX.out (by simp)
  clear HB HG HX HGs HC3 g3
  have HB := HB'
  have HG := HG'
  have HX := HX'
  clear HB' HG' HX'
  go_upto_region 5 with fail
  rw [← hW3]
  clear hW3
  obtain ⟨z3, hz3⟩ : ∃ z3, z3 = v3.heap.size := ⟨_, rfl⟩
  rw [← hz3]
  clear hz3
  have HC4 := marked_lit (tgOk b) b (tgES u v) tgP3 ⟨0, 0, 0, 2, 3⟩ 0 3 0 0 W3 HB.out ⟨0, 0, 0, 0, 0⟩ 0 (by kernel_rfl) (by kernel_rfl)
  unfold fev at HC4
  simp only at HC4
  have f0 := block_cell HX.out 0
  have f1 := block_cell HX.out 1
  have f2 := block_cell HX.out 2
  have f3 := block_cell HX.out 3
  have f4 := block_cell HX.out 4
  go_wp2_with fail
  refine HC4.mono ?_
  rintro e v4 ⟨rfl, g4⟩
  obtain ⟨W4, hW4⟩ : ∃ W4, W4 = v4.alloc (.cells #[.int .i64 0, .int .u8 0, .int .u16 0, .int .i64 0, .int .i64 0] 53) := ⟨_, rfl⟩
  have HGs : Hid (W3.grownBy W4 none) := by rw [hW4]; exact grown_push g4 _
  have HB' : Hid (Book (tgOk b) W4 b (tgES u v) tgP3) := HB.out.keep HGs.out
  have HG' : Hid (w.grownBy W4 none) := grown_trans HG.out HGs.out
  have HX' : Hid (W4.heap[xf]? = some (.cells #[.int .i64 0, .int .u8 0, .int .u16 0, .int .i64 2, .int .i64 3] 53 (0, 0))) := grown_keep HGs.out HX.out (by simp)
  have HY4 : Hid (W4.heap[v4.heap.size]? = some (.cells #[.int .i64 0, .int .u8 0, .int .u16 0, .int .i64 0, .int .i64 0] 53 (0, 0))) := by rw [hW4]; exact alloc_at _ _ _
  clear HB HG HX HGs HC4 g4 f0 f1 f2 f3 f4
  have HB := HB'
  have HG := HG'
  have HX := HX'
  clear HB' HG' HX'
  go_upto_region 6 with fail
  rw [← hW4]
  clear hW4
  obtain ⟨y4, hy4⟩ : ∃ y4, y4 = v4.heap.size := ⟨_, rfl⟩
  rw [← hy4] at HY4 ⊢
  clear hy4
  have HC5 := marked_lit (tgOk b) b (tgES u v) tgP3 ⟨0, 0, 0, 2, 3⟩ 100 0 0 0 W4 HB.out Fe.none 2 (by kernel_rfl) (by kernel_rfl)
  unfold fev Fe.none at HC5
  simp only at HC5
  have f0 := block_cell HX.out 0
  have f1 := block_cell HX.out 1
  have f2 := block_cell HX.out 2
  have f3 := block_cell HX.out 3
  have f4 := block_cell HX.out 4
  go_wp2_with fail
  refine HC5.mono ?_
  rintro e v5 ⟨rfl, g5⟩
  obtain ⟨W5, hW5⟩ : ∃ W5, W5 = v5.alloc (.cells #[.int .i64 0, .int .u8 0, .int .u16 0, .int .i64 0, .int .i64 0] 53) := ⟨_, rfl⟩
  have HGs : Hid (W4.grownBy W5 none) := by rw [hW5]; exact grown_push g5 _
  have HB' : Hid (Book (tgOk b) W5 b (tgES u v) tgP3) := HB.out.keep HGs.out
  have HG' : Hid (w.grownBy W5 none) := grown_trans HG.out HGs.out
  have HX' : Hid (W5.heap[xf]? = some (.cells #[.int .i64 0, .int .u8 0, .int .u16 0, .int .i64 2, .int .i64 3] 53 (0, 0))) := grown_keep HGs.out HX.out (by simp)
  have HY4' : Hid (W5.heap[y4]? = some (.cells #[.int .i64 0, .int .u8 0, .int .u16 0, .int .i64 0, .int .i64 0] 53 (0, 0))) := grown_keep HGs.out HY4.out (by simp)
  clear HB HG HX HGs HC5 g5 f0 f1 f2 f3 f4 HY4
  have HB := HB'
  have HG := HG'
  have HX := HX'
  have HY4 := HY4'
  clear HB' HG' HX' HY4'
  go_upto_region 7 with fail
  rw [← hW5]
  clear hW5
  obtain ⟨z5, hz5⟩ : ∃ z5, z5 = v5.heap.size := ⟨_, rfl⟩
  rw [← hz5]
  clear hz5
  have HC6 := marked_lit (tgOk b) b (tgES u v) tgP3 ⟨0, 0, 0, 2, 3⟩ 0 0 0 (-1) W5 HB.out Fe.none 2 (by kernel_rfl) (by kernel_rfl)
  unfold fev Fe.none at HC6
  simp only at HC6
  have f0 := block_cell HX.out 0
  have f1 := block_cell HX.out 1
  have f2 := block_cell HX.out 2
  have f3 := block_cell HX.out 3
  have f4 := block_cell HX.out 4
  go_wp2_with fail
  refine HC6.mono ?_
  rintro e v6 ⟨rfl, g6⟩
  obtain ⟨W6, hW6⟩ : ∃ W6, W6 = v6.alloc (.cells #[.int .i64 0, .int .u8 0, .int .u16 0, .int .i64 0, .int .i64 0] 53) := ⟨_, rfl⟩
  have HGs : Hid (W5.grownBy W6 none) := by rw [hW6]; exact grown_push g6 _
  have HB' : Hid (Book (tgOk b) W6 b (tgES u v) tgP3) := HB.out.keep HGs.out
  have HG' : Hid (w.grownBy W6 none) := grown_trans HG.out HGs.out
  have HX' : Hid (W6.heap[xf]? = some (.cells #[.int .i64 0, .int .u8 0, .int .u16 0, .int .i64 2, .int .i64 3] 53 (0, 0))) := grown_keep HGs.out HX.out (by simp)
  have HY4' : Hid (W6.heap[y4]? = some (.cells #[.int .i64 0, .int .u8 0, .int .u16 0, .int .i64 0, .int .i64 0] 53 (0, 0))) := grown_keep HGs.out HY4.out (by simp)
  clear HB HG HX HGs HC6 g6 f0 f1 f2 f3 f4 HY4
  have HB := HB'
  have HG := HG'
  have HX := HX'
  have HY4 := HY4'
  clear HB' HG' HX' HY4'
  go_upto_region 8 with fail
  rw [← hW6]
  clear hW6
  obtain ⟨z6, hz6⟩ : ∃ z6, z6 = v6.heap.size := ⟨_, rfl⟩
  rw [← hz6]
  clear hz6
  have HC7 := marked_lit (tgOk b) b (tgES u v) tgP3 ⟨0, 0, 0, 2, 3⟩ 99 0 99 99 W6 HB.out ⟨0, 0, 0, 101, 102⟩ 0 (by kernel_rfl) (by kernel_rfl)
  unfold fev at HC7
  simp only at HC7
  have f0 := block_cell HX.out 0
  have f1 := block_cell HX.out 1
  have f2 := block_cell HX.out 2
  have f3 := block_cell HX.out 3
  have f4 := block_cell HX.out 4
  go_wp2_with fail
  refine HC7.mono ?_
  rintro e v7 ⟨rfl, g7⟩
  obtain ⟨W7, hW7⟩ : ∃ W7, W7 = v7.alloc (.cells #[.int .i64 0, .int .u8 0, .int .u16 0, .int .i64 101, .int .i64 102] 53) := ⟨_, rfl⟩
  have HGs : Hid (W6.grownBy W7 none) := by rw [hW7]; exact grown_push g7 _
  have HB' : Hid (Book (tgOk b) W7 b (tgES u v) tgP3) := HB.out.keep HGs.out
  have HG' : Hid (w.grownBy W7 none) := grown_trans HG.out HGs.out
  have HX' : Hid (W7.heap[xf]? = some (.cells #[.int .i64 0, .int .u8 0, .int .u16 0, .int .i64 2, .int .i64 3] 53 (0, 0))) := grown_keep HGs.out HX.out (by simp)
  have HY4' : Hid (W7.heap[y4]? = some (.cells #[.int .i64 0, .int .u8 0, .int .u16 0, .int .i64 0, .int .i64 0] 53 (0, 0))) := grown_keep HGs.out HY4.out (by simp)
  have HY7 : Hid (W7.heap[v7.heap.size]? = some (.cells #[.int .i64 0, .int .u8 0, .int .u16 0, .int .i64 101, .int .i64 102] 53 (0, 0))) := by rw [hW7]; exact alloc_at _ _ _
  clear HB HG HX HGs HC7 g7 f0 f1 f2 f3 f4 HY4
  have HB := HB'
  have HG := HG'
  have HX := HX'
  have HY4 := HY4'
  clear HB' HG' HX' HY4'
  go_upto_region 9 with fail
  rw [← hW7]
  clear hW7
  obtain ⟨y7, hy7⟩ : ∃ y7, y7 = v7.heap.size := ⟨_, rfl⟩
  rw [← hy7] at HY7 ⊢
  clear hy7
  have d43 := block_cell HY4.out 3
  have d44 := block_cell HY4.out 4
  have d73 := block_cell HY7.out 3
  have d74 := block_cell HY7.out 4
  have HU20 := tunit_lit (tgOk b) b (tgES u v) tgP3 ⟨2, 0, 4, 0, 0, 0, 0, 0, 0, 0, false⟩ W7 HB.out true (by kernel_rfl)
  unfold thv at HU20
  simp only at HU20
  go_wp2_with fail
  refine HU20.mono ?_
  rintro e w20 ⟨rfl, g20⟩
  have HB' : Hid (Book (tgOk b) w20 b (tgES u v) tgP3) := HB.out.keep g20
  have HG' : Hid (w.grownBy w20 none) := grown_trans HG.out g20
  have HX' : Hid (w20.heap[xf]? = some (.cells #[.int .i64 0, .int .u8 0, .int .u16 0, .int .i64 2, .int .i64 3] 53 (0, 0))) := grown_keep g20 HX.out (by simp)
  clear HB HG HX HU20 g20 d43 d44 d73 d74 HY4 HY7
  have HB := HB'
  have HG := HG'
  have HX := HX'
  clear HB' HG' HX'
  have HU21 := tunit_lit (tgOk b) b (tgES u v) tgP3 ⟨2, 0, 2, 0, 0, 0, 0, 0, 0, 0, false⟩ w20 HB.out false (by kernel_rfl)
  unfold thv at HU21
  simp only at HU21
  go_wp2_with fail
  refine HU21.mono ?_
  rintro e w21 ⟨rfl, g21⟩
  have HB' : Hid (Book (tgOk b) w21 b (tgES u v) tgP3) := HB.out.keep g21
  have HG' : Hid (w.grownBy w21 none) := grown_trans HG.out g21
  have HX' : Hid (w21.heap[xf]? = some (.cells #[.int .i64 0, .int .u8 0, .int .u16 0, .int .i64 2, .int .i64 3] 53 (0, 0))) := grown_keep g21 HX.out (by simp)
  clear HB HG HX HU21 g21
  have HB := HB'
  have HG := HG'
  have HX := HX'
  clear HB' HG' HX'
  have HU22 := tunit_lit (tgOk b) b (tgES u v) tgP3 ⟨1, 0, 4, 0, 0, 0, 0, 0, 0, 0, false⟩ w21 HB.out false (by kernel_rfl)
  unfold thv at HU22
  simp only at HU22
  go_wp2_with fail
  refine HU22.mono ?_
  rintro e w22 ⟨rfl, g22⟩
  have HB' : Hid (Book (tgOk b) w22 b (tgES u v) tgP3) := HB.out.keep g22
  have HG' : Hid (w.grownBy w22 none) := grown_trans HG.out g22
  have HX' : Hid (w22.heap[xf]? = some (.cells #[.int .i64 0, .int .u8 0, .int .u16 0, .int .i64 2, .int .i64 3] 53 (0, 0))) := grown_keep g22 HX.out (by simp)
  clear HB HG HX HU22 g22
  have HB := HB'
  have HG := HG'
  have HX := HX'
  clear HB' HG' HX'
  have HLf := tleft_any ⟨0, 0, 0, 0, 3⟩ ⟨0, 0, 0, 0, 5, 0, 0, 0, 0, 0, false⟩ w22
  unfold fev thv at HLf
  simp only at HLf
  rw [show wrap64 (3 - 5) = -2 from by unfold wrap64; omega] at HLf
  go_wp2_with fail
  refine HLf.mono ?_
  rintro e w30 ⟨rfl, g30⟩
  have HG30 : Hid (w.grownBy w30 none) := grown_trans HG.out g30
  have HX30 : Hid (w30.heap[xf]? = some (.cells #[.int .i64 0, .int .u8 0, .int .u16 0, .int .i64 2, .int .i64 3] 53 (0, 0))) := grown_keep g30 HX.out (by simp)
  clear HB HG HX HLf g30
  obtain ⟨W31, hW31⟩ : ∃ W31, W31 = w30.alloc (.cells zb 79) := ⟨_, rfl⟩
  have BX : (Instr.box 79 (.agg zb)).run Try.prog w30 = .ok (.pointer (some ⟨w30.heap.size, 0, none⟩)) W31 := by rw [hW31]; exact run_boxBk zb w30
  have HN31 : Hid (NoBk W31 (.pointer (some ⟨w30.heap.size, 0, none⟩))) := by rw [hW31]; exact NZ.out w30
  have HG31 : Hid (w.grownBy W31 none) := by rw [hW31]; exact grown_push HG30.out _
  have HX31 : Hid (W31.heap[xf]? = some (.cells #[.int .i64 0, .int .u8 0, .int .u16 0, .int .i64 2, .int .i64 3] 53 (0, 0))) := by rw [hW31]; exact grown_keep (World.grownBy_alloc _ _ none) HX30.out (by simp)
  obtain ⟨nz, hnz⟩ : ∃ nz, nz = w30.heap.size := ⟨_, rfl⟩
  rw [← hnz] at HN31
  have HeW : Hid (W31 = w30.alloc (.cells zb 79)) := hW31
  have HeN : Hid (nz = w30.heap.size) := hnz
  have HeS : Hid (W31.heap.size = nz + 1) := by show _ = _; rw [hW31, World.size_alloc, hnz]
  clear hW31 HG30 HX30 hnz BX
  go_wp2_with (first | (refine wpl_build ?g 79 #[] ?ho #[] ?hv (.agg zb) (BZ _) ?_; (case g => rfl); (case ho => rfl); (case hv => simp [Act.eval])) | (refine wpl_box ?g 79 (.tmp 133) ?ho (.agg zb) ?hv _ (run_boxBk zb _) ?_; (case g => rfl); (case ho => rfl); (case hv => simp [Act.eval])) | fail)
  rw [← HeW.out]
  simp only [← HeN.out]
  clear HeW HeN
  obtain ⟨W32, hW32⟩ : ∃ W32, W32 = W31.alloc (.cells #[.pointer none, .pointer (some ⟨nz, 0, none⟩)] 54) := ⟨_, rfl⟩
  have HN32 : Hid (NoBk W32 (.pointer (some ⟨nz, 0, none⟩))) := by rw [hW32]; exact HN31.out.keep (World.grownBy_alloc _ _ none)
  have HG32 : Hid (w.grownBy W32 none) := by rw [hW32]; exact grown_push HG31.out _
  have HX32 : Hid (W32.heap[xf]? = some (.cells #[.int .i64 0, .int .u8 0, .int .u16 0, .int .i64 2, .int .i64 3] 53 (0, 0))) := by rw [hW32]; exact grown_keep (World.grownBy_alloc _ _ none) HX31.out (by simp)
  have HS32 : Hid (W32.heap[nz + 1]? = some (.cells #[.pointer none, .pointer (some ⟨nz, 0, none⟩)] 54 (0, 0))) := by rw [hW32, ← HeS.out]; exact alloc_at _ _ _
  rw [← hW32]
  clear hW32 HN31 HG31 HX31
  obtain ⟨ns, hns⟩ : ∃ ns, ns = nz + 1 := ⟨_, rfl⟩
  rw [← hns] at HS32 ⊢
  clear hns HeS
  go_loopw [18, 19, 20, 21, 22, 23, 24, 25, 26, 137] (fun _ _ _ _ _ _ _ _ _ i wr => ∃ k : Nat, k ≤ 2 ∧ i = .int .i64 (k : Int) ∧ Hid (W32.grownBy wr none)) (fun _ _ _ _ _ _ _ _ _ i _ => 2 - (intOf i).toNat)
  case atStart => exact ⟨0, by decide, rfl, grown_refl _ _⟩
  case round =>
    obtain ⟨k, hk, rfl, HW⟩ := hrel
    obtain ⟨U, hU⟩ : ∃ U, U = wr := ⟨_, rfl⟩
    subst hU
    have s0 := HW.out.cell (block_cell HS32.out 0) (by simp)
    have s1 := HW.out.cell (block_cell HS32.out 1) (by simp)
    rcases (show k = 0 ∨ k = 1 ∨ k = 2 from by omega) with rfl | rfl | rfl
    · have HNb : Hid (∀ X, U.grownBy X none → NoBk X (.pointer none)) := fun X g => Or.inl rfl
      have HC1 := tcard_none (.pointer none) ⟨1, 0, 0, 0, 0, 0, 0, 0, 0, 0, false⟩ U (HNb.out U (grown_refl _ _))
      unfold CrPost cv thv Hd.none at HC1
      simp only at HC1
      go_wp2_with fail
      refine HC1.mono ?_
      rintro e u1 ⟨x1, rfl, o1, g1⟩
      obtain ⟨a1, c1, e1⟩ := o1.at.form
      rw [List.length_nil] at e1
      subst e1
      have HGa : Hid (U.grownBy u1 none) := g1
      clear HC1 o1 g1
      obtain ⟨U1, hU1⟩ : ∃ U1, U1 = u1.alloc (.cells (ccs Hd.none (.slice a1 0 c1)) 69) := ⟨_, rfl⟩
      have HGb : Hid (U.grownBy U1 none) := by rw [hU1]; exact grown_push HGa.out _
      unfold ccs Hd.none at hU1
      simp only at hU1
      go_upto_region 15 with fail
      rw [← hU1]
      clear hU1 HGa
      have HP1 := tprinted_of (.pointer none) ⟨1, 5, 0, 0, 0, 0, 0, 0, 0, 0, false⟩ _ _ _ U1 (fun X g => tcard_none (.pointer none) ⟨1, 5, 0, 0, 0, 0, 0, 0, 0, 0, false⟩ X (HNb.out X (grown_trans HGb.out g)))
      rw [show ptF Hd.none 1 ⟨1, 5, 0, 0, 0, 0, 0, 0, 0, 0, false⟩ = Fe.none from rfl, show ptE 1 ⟨1, 5, 0, 0, 0, 0, 0, 0, 0, 0, false⟩ = 1 from rfl] at HP1
      unfold thv fev Fe.none at HP1
      simp only at HP1
      go_wp2_with fail
      refine HP1.mono ?_
      rintro e u2 ⟨rfl, g2⟩
      obtain ⟨U2, hU2⟩ : ∃ U2, U2 = u2.alloc (.cells #[.int .i64 0, .int .u8 0, .int .u16 0, .int .i64 0, .int .i64 0] 53) := ⟨_, rfl⟩
      have HGc : Hid (U.grownBy U2 none) := by rw [hU2]; exact grown_push (grown_trans HGb.out g2) _
      go_upto_region 16 with fail
      rw [← hU2]
      clear hU2 HGb HP1 g2
      have HM1 := marked_nil (.pointer none) ⟨0, 0, 0, 2, 3⟩ (-1) 0 0 0 U2 (HNb.out U2 HGc.out)
      unfold fev Fe.none at HM1
      simp only at HM1
      have f0 := HGc.out.cell (HW.out.cell (block_cell HX32.out 0) (by simp)) (by simp)
      have f1 := HGc.out.cell (HW.out.cell (block_cell HX32.out 1) (by simp)) (by simp)
      have f2 := HGc.out.cell (HW.out.cell (block_cell HX32.out 2) (by simp)) (by simp)
      have f3 := HGc.out.cell (HW.out.cell (block_cell HX32.out 3) (by simp)) (by simp)
      have f4 := HGc.out.cell (HW.out.cell (block_cell HX32.out 4) (by simp)) (by simp)
      go_wp2_with fail
      refine HM1.mono ?_
      rintro e u3 ⟨rfl, g3⟩
      clear f0 f1 f2 f3 f4
      obtain ⟨U3, hU3⟩ : ∃ U3, U3 = u3.alloc (.cells #[.int .i64 0, .int .u8 0, .int .u16 0, .int .i64 0, .int .i64 0] 53) := ⟨_, rfl⟩
      have HGd : Hid (U.grownBy U3 none) := by rw [hU3]; exact grown_push (grown_trans HGc.out g3) _
      go_upto_region 17 with fail
      rw [← hU3]
      clear hU3 HGc HM1 g3
      have HQ1 := tparts_of (.pointer none) ⟨0, 0, 0, 0, 0, 0, 0, 0, 0, 0, false⟩ Hd.none [] 1 1 U3 (fun _ => rfl) (by decide) (fun X g => tcard_none (.pointer none) ⟨0, 0, 0, 0, 0, 0, 0, 0, 0, 0, false⟩ X (HNb.out X (grown_trans HGd.out g)))
      unfold thv at HQ1
      simp only at HQ1
      go_wp2_with fail
      refine HQ1.mono ?_
      rintro e u4 ⟨x4, rfl, o4, g4⟩
      obtain ⟨a4, c4, rfl⟩ := o4.form
      have HGe : Hid (U.grownBy u4 none) := grown_trans HGd.out g4
      clear HQ1 o4 g4 HGd
      have HU1 := tunit_of (.pointer none) ⟨1, 0, 4, 0, 0, 0, 0, 0, 0, 0, false⟩ _ _ _ u4 (fun X g => tcard_none (.pointer none) ⟨1, 0, 4, 0, 0, 0, 0, 0, 0, 0, false⟩ X (HNb.out X (grown_trans HGe.out g)))
      rw [show unB Hd.none 1 ⟨1, 0, 4, 0, 0, 0, 0, 0, 0, 0, false⟩ = false from rfl] at HU1
      unfold thv at HU1
      simp only at HU1
      go_wp2_with fail
      refine HU1.mono ?_
      rintro e u5 ⟨rfl, g5⟩
      have HGf : Hid (W32.grownBy u5 none) := grown_trans HW.out (grown_trans HGe.out g5)
      clear HU1 g5 HGe HNb
      go_wp2_with fail
      go_roundw
      case rel => exact ⟨1, by decide, rfl, HGf⟩
      case measure => simp [intOf]
    · have HNb : Hid (∀ X, U.grownBy X none → NoBk X (.pointer (some ⟨nz, 0, none⟩))) := fun X g => (HN32.out.keep HW.out).keep g
      have HC1 := tcard_none (.pointer (some ⟨nz, 0, none⟩)) ⟨1, 0, 0, 0, 0, 0, 0, 0, 0, 0, false⟩ U (HNb.out U (grown_refl _ _))
      unfold CrPost cv thv Hd.none at HC1
      simp only at HC1
      go_wp2_with fail
      refine HC1.mono ?_
      rintro e u1 ⟨x1, rfl, o1, g1⟩
      obtain ⟨a1, c1, e1⟩ := o1.at.form
      rw [List.length_nil] at e1
      subst e1
      have HGa : Hid (U.grownBy u1 none) := g1
      clear HC1 o1 g1
      obtain ⟨U1, hU1⟩ : ∃ U1, U1 = u1.alloc (.cells (ccs Hd.none (.slice a1 0 c1)) 69) := ⟨_, rfl⟩
      have HGb : Hid (U.grownBy U1 none) := by rw [hU1]; exact grown_push HGa.out _
      unfold ccs Hd.none at hU1
      simp only at hU1
      go_upto_region 15 with fail
      rw [← hU1]
      clear hU1 HGa
      have HP1 := tprinted_of (.pointer (some ⟨nz, 0, none⟩)) ⟨1, 5, 0, 0, 0, 0, 0, 0, 0, 0, false⟩ _ _ _ U1 (fun X g => tcard_none (.pointer (some ⟨nz, 0, none⟩)) ⟨1, 5, 0, 0, 0, 0, 0, 0, 0, 0, false⟩ X (HNb.out X (grown_trans HGb.out g)))
      rw [show ptF Hd.none 1 ⟨1, 5, 0, 0, 0, 0, 0, 0, 0, 0, false⟩ = Fe.none from rfl, show ptE 1 ⟨1, 5, 0, 0, 0, 0, 0, 0, 0, 0, false⟩ = 1 from rfl] at HP1
      unfold thv fev Fe.none at HP1
      simp only at HP1
      go_wp2_with fail
      refine HP1.mono ?_
      rintro e u2 ⟨rfl, g2⟩
      obtain ⟨U2, hU2⟩ : ∃ U2, U2 = u2.alloc (.cells #[.int .i64 0, .int .u8 0, .int .u16 0, .int .i64 0, .int .i64 0] 53) := ⟨_, rfl⟩
      have HGc : Hid (U.grownBy U2 none) := by rw [hU2]; exact grown_push (grown_trans HGb.out g2) _
      go_upto_region 16 with fail
      rw [← hU2]
      clear hU2 HGb HP1 g2
      have HM1 := marked_nil (.pointer (some ⟨nz, 0, none⟩)) ⟨0, 0, 0, 2, 3⟩ (-1) 0 0 0 U2 (HNb.out U2 HGc.out)
      unfold fev Fe.none at HM1
      simp only at HM1
      have f0 := HGc.out.cell (HW.out.cell (block_cell HX32.out 0) (by simp)) (by simp)
      have f1 := HGc.out.cell (HW.out.cell (block_cell HX32.out 1) (by simp)) (by simp)
      have f2 := HGc.out.cell (HW.out.cell (block_cell HX32.out 2) (by simp)) (by simp)
      have f3 := HGc.out.cell (HW.out.cell (block_cell HX32.out 3) (by simp)) (by simp)
      have f4 := HGc.out.cell (HW.out.cell (block_cell HX32.out 4) (by simp)) (by simp)
      go_wp2_with fail
      refine HM1.mono ?_
      rintro e u3 ⟨rfl, g3⟩
      clear f0 f1 f2 f3 f4
      obtain ⟨U3, hU3⟩ : ∃ U3, U3 = u3.alloc (.cells #[.int .i64 0, .int .u8 0, .int .u16 0, .int .i64 0, .int .i64 0] 53) := ⟨_, rfl⟩
      have HGd : Hid (U.grownBy U3 none) := by rw [hU3]; exact grown_push (grown_trans HGc.out g3) _
      go_upto_region 17 with fail
      rw [← hU3]
      clear hU3 HGc HM1 g3
      have HQ1 := tparts_of (.pointer (some ⟨nz, 0, none⟩)) ⟨0, 0, 0, 0, 0, 0, 0, 0, 0, 0, false⟩ Hd.none [] 1 1 U3 (fun _ => rfl) (by decide) (fun X g => tcard_none (.pointer (some ⟨nz, 0, none⟩)) ⟨0, 0, 0, 0, 0, 0, 0, 0, 0, 0, false⟩ X (HNb.out X (grown_trans HGd.out g)))
      unfold thv at HQ1
      simp only at HQ1
      go_wp2_with fail
      refine HQ1.mono ?_
      rintro e u4 ⟨x4, rfl, o4, g4⟩
      obtain ⟨a4, c4, rfl⟩ := o4.form
      have HGe : Hid (U.grownBy u4 none) := grown_trans HGd.out g4
      clear HQ1 o4 g4 HGd
      have HU1 := tunit_of (.pointer (some ⟨nz, 0, none⟩)) ⟨1, 0, 4, 0, 0, 0, 0, 0, 0, 0, false⟩ _ _ _ u4 (fun X g => tcard_none (.pointer (some ⟨nz, 0, none⟩)) ⟨1, 0, 4, 0, 0, 0, 0, 0, 0, 0, false⟩ X (HNb.out X (grown_trans HGe.out g)))
      rw [show unB Hd.none 1 ⟨1, 0, 4, 0, 0, 0, 0, 0, 0, 0, false⟩ = false from rfl] at HU1
      unfold thv at HU1
      simp only at HU1
      go_wp2_with fail
      refine HU1.mono ?_
      rintro e u5 ⟨rfl, g5⟩
      have HGf : Hid (W32.grownBy u5 none) := grown_trans HW.out (grown_trans HGe.out g5)
      clear HU1 g5 HGe HNb
      go_wp2_with fail
      go_roundw
      case rel => exact ⟨2, by decide, rfl, HGf⟩
      case measure => simp [intOf]
    · have HA := tawake_any U
      go_wp2_with fail
      refine HA.mono ?_
      rintro e u6 ⟨rfl, g6⟩
      have HGz : Hid (w.grownBy u6 none) := grown_trans HG32.out (grown_trans HW.out g6)
      clear HA g6
      go_wp2
      go_ret
      exact ⟨rfl, HGz.out⟩
end Go.Proofs.Ytogpgldbbegniaa
