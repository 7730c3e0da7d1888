/-
  card.Parse of every text: the card, or the error. Its parts lie in memory of their own.
-/
import Derived.Test.YtpceelbphpfciaaGreatDoorCRead
import Derived.Test.YtpceelbphpfciaaGreatDoorCPrint
namespace Go.Proofs.YtpceelbphpfciaaGreatDoor
open Go.RowKit

/-- A card and an error, as Parse hands them back. -/
def pC (base : Nat) (x : Cd × Int) (e : Ending) (w : World) : Prop := ∃ u, e = .returned (.tuple #[cv x.1.hd u, .int .i64 x.2]) ∧ POwn w base u x.1.ps
theorem pC_none (base : Nat) (k : Int) (w : World) : pC base (Cd.none, k) (.returned (.tuple #[.agg #[.string ⟨#[]⟩, .int .u8 0, .int .u8 0, .int .i64 0, .int .i64 0, .int .i64 0, .int .u16 0, .bool false, .slice none 0 0], .int .i64 k])) w := ⟨.slice none 0 0, rfl, POwn.nil _ _⟩
set_option maxHeartbeats 1000000 in
set_option maxRecDepth 100000 in
theorem cparse_long (s : ByteArray) (h : 512 < s.size) (w : World) : Calls Tryz.prog 23 #[.string s] w fun e w' => pC w.heap.size (Cd.none, 3) e w' ∧ w.grownBy w' none := by
  have hb : (512 : Int) < (s.size : Int) := by omega
  clear h
  go_enter Tryz.func23, Tryz.ntmps23
  go_wp2
  refine bodyPost_ret (v := .tuple #[.agg #[.string ⟨#[]⟩, .int .u8 0, .int .u8 0, .int .i64 0, .int .i64 0, .int .i64 0, .int .u16 0, .bool false, .slice none 0 0], .int .i64 3]) (by simp [results, Tryz.results23, go_sem]) rfl ⟨?_, ?_⟩
  · exact pC_none _ _ _
  · exact World.grownBy_alloc _ _ _
set_option maxHeartbeats 1000000 in
set_option maxRecDepth 100000 in
theorem cparse_bad (s : ByteArray) (h : s.size ≤ 512) (hr : cread s.data.toList = none) (w : World) (L : LaidAt w) : Calls Tryz.prog 23 #[.string s] w fun e w' => pC w.heap.size (Cd.none, 160) e w' ∧ w.grownBy w' none := by
  have hb : ¬ (512 : Int) < (s.size : Int) := by omega
  have HS : Hid (s.size ≤ 512) := h
  have HL : Hid (LaidAt w) := L
  have HR : Hid (cread s.data.toList = none) := hr
  have HZ0 : Hid (CAt (w.alloc (.cells (ccs Hd.none (.slice none 0 0)) 40)) w.heap.size Hd.none (.slice none 0 0)) := alloc_at w _ _
  clear h L hr
  go_enter Tryz.func23, Tryz.ntmps23
  go_wp2_with fail
  refine (cread_any s HS.out _ (HL.out.keep (World.grownBy_alloc _ _ none))).mono ?_
  rintro e w1 ⟨he, g1⟩
  rw [HR.out] at he
  obtain ⟨hh, a, n, k, rfl⟩ := he
  have Z1 := (HZ0.out.keep g1).keep (World.grownBy_alloc _ (.cells (ccs hh (.slice a n k)) 40) none)
  have G1 : Hid (w.grownBy (w1.alloc (.cells (ccs hh (.slice a n k)) 40)) none) := grown_push (grown_trans (World.grownBy_alloc _ _ none) g1) _
  obtain ⟨z0, z1, z2, z3, z4, z5, z6, z7, z8⟩ := Z1.cells
  have zf := fun i => Z1.free i
  simp only [Hd.none] at z0 z1 z2 z3 z4 z5 z6 z7 z8
  unfold ccs at z0 z1 z2 z3 z4 z5 z6 z7 z8 zf
  clear g1 HZ0 Z1
  simp only [cv]
  go_wp2
  refine bodyPost_ret (v := .tuple #[.agg #[.string ⟨#[]⟩, .int .u8 0, .int .u8 0, .int .i64 0, .int .i64 0, .int .i64 0, .int .u16 0, .bool false, .slice none 0 0], .int .i64 160]) (by simp [results, Tryz.results23, go_sem, z0, z1, z2, z3, z4, z5, z6, z7, z8]) rfl ⟨?_, ?_⟩
  · exact pC_none _ _ _
  · exact grown_own G1.out (row_st9 _ w.heap.size _ _ _ _ _ _ _ _ _) (fun x e => by cases e; exact Nat.le_refl _)
set_option maxHeartbeats 1000000 in
set_option maxRecDepth 100000 in
theorem cparse_some (s : ByteArray) (h : s.size ≤ 512) (c : Cd) (hr : cread s.data.toList = some c) (w : World) (L : LaidAt w) : Calls Tryz.prog 23 #[.string s] w fun e w' => pC w.heap.size (if cchk c = 0 ∧ cprt c = s.data.toList then (c, 0) else (Cd.none, 160)) e w' ∧ w.grownBy w' none := by
  have hb : ¬ (512 : Int) < (s.size : Int) := by omega
  have HS : Hid (s.size ≤ 512) := h
  have HL : Hid (LaidAt w) := L
  have HR : Hid (cread s.data.toList = some c) := hr
  have HZ0 : Hid (CAt (w.alloc (.cells (ccs Hd.none (.slice none 0 0)) 40)) w.heap.size Hd.none (.slice none 0 0)) := alloc_at w _ _
  obtain ⟨res, hres⟩ : ∃ res, res = if cchk c = 0 ∧ cprt c = s.data.toList then (c, (0 : Int)) else (Cd.none, 160) := ⟨_, rfl⟩
  have HRES : Hid (res = if cchk c = 0 ∧ cprt c = s.data.toList then (c, (0 : Int)) else (Cd.none, 160)) := hres
  rw [← hres]
  clear h L hr hres
  go_enter Tryz.func23, Tryz.ntmps23
  go_wp2_with fail
  refine (cread_any s HS.out _ (HL.out.keep (World.grownBy_alloc _ _ none))).mono ?_
  rintro e w1 ⟨he, g1⟩
  rw [HR.out] at he
  obtain ⟨u, rfl, O1, hl⟩ := he
  obtain ⟨a, k, rfl⟩ := O1.at.form
  rw [World.size_alloc] at O1
  have Z1 := (HZ0.out.keep g1).keep (World.grownBy_alloc _ (.cells (ccs c.hd (.slice a c.ps.length k)) 40) none)
  have hq : w.heap.size < w1.heap.size := block_lt (HZ0.out.keep g1)
  have C1 : CAt (w1.alloc (.cells (ccs c.hd (.slice a c.ps.length k)) 40)) w1.heap.size c.hd (.slice a c.ps.length k) := alloc_at w1 _ _
  have O2 : POwn (w1.alloc (.cells (ccs c.hd (.slice a c.ps.length k)) 40)) (w.heap.size + 1) (.slice a c.ps.length k) c.ps := O1.keep (World.grownBy_alloc _ _ none) (by simp)
  have G1 : Hid (w.grownBy (w1.alloc (.cells (ccs c.hd (.slice a c.ps.length k)) 40)) none) := grown_push (grown_trans (World.grownBy_alloc _ _ none) g1) _
  have HM : Hid (Small c.ps.length) := by unfold Hid Small; omega
  clear g1 HZ0 O1 hl
  simp only [cv]
  obtain ⟨W2, hW2⟩ : ∃ W2, W2 = w1.alloc (.cells (ccs c.hd (.slice a c.ps.length k)) 40) := ⟨_, rfl⟩
  rw [← hW2] at Z1 C1 O2 G1
  unfold ccs at hW2
  go_upto_region 6 with fail
  rw [← hW2]
  clear hW2
  obtain ⟨q, hqq⟩ : ∃ q, q = w1.heap.size := ⟨_, rfl⟩
  rw [← hqq] at C1 hq ⊢
  clear hqq
  obtain ⟨c0, c1, c2, c3, c4, c5, c6, c7, c8⟩ := C1.cells
  have HC1 : Hid (CAt W2 q c.hd (.slice a c.ps.length k)) := C1
  have HZ1 : Hid (CAt W2 w.heap.size Hd.none (.slice none 0 0)) := Z1
  have HO2 : Hid (POwn W2 (w.heap.size + 1) (.slice a c.ps.length k) c.ps) := O2
  clear C1 Z1 O2
  go_wp2_with fail
  refine (cprint_any c (.slice a c.ps.length k) _ (HL.out.keep G1.out) HO2.out.at HM.out).mono ?_
  rintro e w3 ⟨rfl, g3⟩
  have HC3 : Hid (CAt w3 q c.hd (.slice a c.ps.length k)) := HC1.out.keep g3
  have HZ3 : Hid (CAt w3 w.heap.size Hd.none (.slice none 0 0)) := HZ1.out.keep g3
  have HO3 : Hid (POwn w3 (w.heap.size + 1) (.slice a c.ps.length k) c.ps) := HO2.out.keep g3 (by simp)
  have HG3 : Hid (w.grownBy w3 none) := grown_trans G1.out g3
  clear HC1 HZ1 HO2 G1 g3 c0 c1 c2 c3 c4 c5 c6 c7 c8
  obtain ⟨c0, c1, c2, c3, c4, c5, c6, c7, c8⟩ := HC3.out.cells
  obtain ⟨z0, z1, z2, z3, z4, z5, z6, z7, z8⟩ := HZ3.out.cells
  have zf := fun i => HZ3.out.free i
  simp only [Hd.none] at z0 z1 z2 z3 z4 z5 z6 z7 z8
  by_cases hc : cchk c = 0
  · by_cases hx : cprt c = s.data.toList
    · have e0 : cprB c = ⟨(cprt c).toArray⟩ := by unfold cprB; rw [if_pos hc]
      have hn : ((cprB c).toList == s.toList) = true := by
        rw [e0, Lib.toList_data, Lib.toList_data]
        simpa using hx
      have hn' : ((cprB c).toList != s.toList) = false := by simp only [bne, hn]; rfl
      have HE : Hid (res = (c, 0)) := by unfold Hid; rw [HRES.out, if_pos ⟨hc, hx⟩]
      have HF : Hid (POwn (((((((((w3.setCell ⟨w.heap.size, 0, none⟩ (.string c.hd.nm)).setCell ⟨w.heap.size, 1, none⟩ (.int .u8 c.hd.su)).setCell ⟨w.heap.size, 2, none⟩ (.int .u8 c.hd.kd)).setCell ⟨w.heap.size, 3, none⟩ (.int .i64 c.hd.co)).setCell ⟨w.heap.size, 4, none⟩ (.int .i64 c.hd.po)).setCell ⟨w.heap.size, 5, none⟩ (.int .i64 c.hd.he)).setCell ⟨w.heap.size, 6, none⟩ (.int .u16 c.hd.tr)).setCell ⟨w.heap.size, 7, none⟩ (.bool c.hd.tk)).setCell ⟨w.heap.size, 8, none⟩ (.slice a c.ps.length k)) w.heap.size (.slice a c.ps.length k) c.ps) := (HO3.out.keep (row_st9 _ w.heap.size _ _ _ _ _ _ _ _ _) (fun x e => by cases e; omega)).big (by omega)
      rw [hc]
      obtain ⟨t, ht⟩ : ∃ t, t = cprB c := ⟨_, rfl⟩
      rw [← ht] at hn hn' ⊢
      clear e0 hx hc ht HC3 HZ3 HO3
      go_wp2
      refine bodyPost_ret (v := .tuple #[cv c.hd (.slice a c.ps.length k), .int .i64 0]) (by simp [results, Tryz.results23, go_sem, z0, z1, z2, z3, z4, z5, z6, z7, z8, cv]) rfl ⟨?_, ?_⟩
      · rw [HE.out]
        exact ⟨_, rfl, HF.out⟩
      · exact grown_own HG3.out (row_st9 _ w.heap.size _ _ _ _ _ _ _ _ _) (fun x e => by cases e; exact Nat.le_refl _)
    · have e0 : cprB c = ⟨(cprt c).toArray⟩ := by unfold cprB; rw [if_pos hc]
      have hn : ((cprB c).toList == s.toList) = false := by
        rw [e0, Lib.toList_data, Lib.toList_data]
        simpa using hx
      have hn' : ((cprB c).toList != s.toList) = true := by simp only [bne, hn]; rfl
      have HE : Hid (res = (Cd.none, 160)) := by unfold Hid; rw [HRES.out, if_neg (fun e => hx e.2)]
      rw [hc]
      obtain ⟨t, ht⟩ : ∃ t, t = cprB c := ⟨_, rfl⟩
      rw [← ht] at hn hn' ⊢
      clear e0 hx hc ht HC3 HZ3 HO3
      go_wp2
      refine bodyPost_ret (v := .tuple #[.agg #[.string ⟨#[]⟩, .int .u8 0, .int .u8 0, .int .i64 0, .int .i64 0, .int .i64 0, .int .u16 0, .bool false, .slice none 0 0], .int .i64 160]) (by simp [results, Tryz.results23, go_sem, z0, z1, z2, z3, z4, z5, z6, z7, z8]) rfl ⟨?_, ?_⟩
      · rw [HE.out]
        exact pC_none _ _ _
      · exact grown_own HG3.out (row_st9 _ w.heap.size _ _ _ _ _ _ _ _ _) (fun x e => by cases e; exact Nat.le_refl _)
  · have HE : Hid (res = (Cd.none, 160)) := by unfold Hid; rw [HRES.out, if_neg (fun e => hc e.1)]
    obtain ⟨er, her⟩ : ∃ er, er = cchk c := ⟨_, rfl⟩
    rw [← her] at hc ⊢
    have hn : (er != 0) = true := by simpa using hc
    have hn2 : (er == 0) = false := by simpa using hc
    obtain ⟨t, ht⟩ : ∃ t, t = cprB c := ⟨_, rfl⟩
    rw [← ht]
    clear hc her ht HC3 HZ3 HO3
    go_wp2
    refine bodyPost_ret (v := .tuple #[.agg #[.string ⟨#[]⟩, .int .u8 0, .int .u8 0, .int .i64 0, .int .i64 0, .int .i64 0, .int .u16 0, .bool false, .slice none 0 0], .int .i64 160]) (by simp [results, Tryz.results23, go_sem, z0, z1, z2, z3, z4, z5, z6, z7, z8]) rfl ⟨?_, ?_⟩
    · rw [HE.out]
      exact pC_none _ _ _
    · exact grown_own HG3.out (row_st9 _ w.heap.size _ _ _ _ _ _ _ _ _) (fun x e => by cases e; exact Nat.le_refl _)
/-- Of every text. -/
theorem cparse_any (s : ByteArray) (w : World) (L : LaidAt w) : Calls Tryz.prog 23 #[.string s] w fun e w' => pC w.heap.size (cparse s.data.toList) e w' ∧ w.grownBy w' none := by
  have hl := Lib.size_eq s
  unfold cparse
  by_cases h : 512 < s.size
  · rw [if_pos (by omega)]
    exact cparse_long s h w
  · rw [if_neg (by omega)]
    cases hr : cread s.data.toList with
    | none => exact cparse_bad s (by omega) hr w L
    | some c => exact cparse_some s (by omega) c hr w L
end Go.Proofs.YtpceelbphpfciaaGreatDoor
