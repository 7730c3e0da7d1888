/-
  Layers: the things that an effect is about: the program's about, numbers.
-/
import Derived.Test.YtmemeloehgemcaaGreatLyB
namespace Go.Proofs.YtmemeloehgemcaaGreat
open Go.RowKit

def pad (l : List Bool) : List Bool := l ++ List.replicate (16 - l.length) false
def smc (l : List Bool) : Array Value := ((pad l).map Value.bool).toArray
def smv (l : List Bool) : Value := .agg (smc l)
theorem pad_len {l : List Bool} (h : l.length ≤ 16) : (pad l).length = 16 := by
  unfold pad
  rw [List.length_append, List.length_replicate]
  omega
theorem smc_size {l : List Bool} (h : l.length ≤ 16) : (smc l).size = 16 := by
  unfold smc
  rw [List.size_toArray, List.length_map, pad_len h]
theorem sixteen {α : Type} : ∀ l : List α, l.length = 16 → ∃ b0 b1 b2 b3 b4 b5 b6 b7 b8 b9 b10 b11 b12 b13 b14 b15, l = [b0, b1, b2, b3, b4, b5, b6, b7, b8, b9, b10, b11, b12, b13, b14, b15]
  | [b0, b1, b2, b3, b4, b5, b6, b7, b8, b9, b10, b11, b12, b13, b14, b15], _ => ⟨b0, b1, b2, b3, b4, b5, b6, b7, b8, b9, b10, b11, b12, b13, b14, b15, rfl⟩
theorem sm16 {l : List Bool} (h : l.length ≤ 16) : ∃ b0 b1 b2 b3 b4 b5 b6 b7 b8 b9 b10 b11 b12 b13 b14 b15, pad l = [b0, b1, b2, b3, b4, b5, b6, b7, b8, b9, b10, b11, b12, b13, b14, b15] ∧ smc l = #[.bool b0, .bool b1, .bool b2, .bool b3, .bool b4, .bool b5, .bool b6, .bool b7, .bool b8, .bool b9, .bool b10, .bool b11, .bool b12, .bool b13, .bool b14, .bool b15] := by
  obtain ⟨b0, b1, b2, b3, b4, b5, b6, b7, b8, b9, b10, b11, b12, b13, b14, b15, e⟩ := sixteen (pad l) (pad_len h)
  refine ⟨b0, b1, b2, b3, b4, b5, b6, b7, b8, b9, b10, b11, b12, b13, b14, b15, e, ?_⟩
  unfold smc
  rw [e]
  rfl
theorem pad_more {l : List Bool} (h : l.length < 16) (b : Bool) : (pad l).set l.length b = pad (l ++ [b]) := by
  unfold pad
  rw [List.set_append_right _ _ (Nat.le_refl _), Nat.sub_self, List.length_append, List.length_singleton, show 16 - l.length = (16 - (l.length + 1)) + 1 from by omega, List.replicate_succ, List.set_cons_zero, List.append_assoc]
  rfl
theorem smc_more {l : List Bool} (h : l.length < 16) (b : Bool) : (smc l).setIfInBounds l.length (.bool b) = smc (l ++ [b]) := by
  unfold smc
  rw [← pad_more h b, List.map_set]
  simp
theorem pad_inj {l m : List Bool} (h : l.length = m.length) (e : pad l = pad m) : l = m := by
  unfold pad at e
  rw [h] at e
  exact List.append_cancel_right e
theorem aboutU_len (R : List Rw) (F : List Fe) (s : Se) (k : Nat) : (aboutU R F s k).length = k := by unfold aboutU; simp
theorem aboutU_next (R : List Rw) (F : List Fe) (s : Se) (k : Nat) : aboutU R F s (k + 1) = aboutU R F s k ++ [isAbB R F s k] := by
  unfold aboutU
  rw [List.range_succ, List.map_append]
  rfl
theorem pad_at {l : List Bool} {i : Nat} (h : i < l.length) : (pad l)[i]? = l[i]? := by
  unfold pad
  exact List.getElem?_append_left h
theorem smc_at {l : List Bool} {i : Nat} {b : Bool} (h : l[i]? = some b) : (smc l)[i]? = some (.bool b) := by
  unfold smc
  have hi := (List.getElem?_eq_some_iff.1 h).1
  rw [List.getElem?_toArray, List.getElem?_map, pad_at hi, h]
  rfl
theorem smc_there {l : List Bool} (h : l.length ≤ 16) {i : Nat} (hi : i < 16) : ∃ b, (smc l)[i]? = some (.bool b) := by
  unfold smc
  rw [List.getElem?_toArray, List.getElem?_map, List.getElem?_eq_getElem (show i < (pad l).length from by rw [pad_len h]; exact hi)]
  exact ⟨_, rfl⟩
def SmB (w : World) (g : Nat) (l : List Bool) : Prop := w.heap[g]? = some (.cells (smc l) 127 (0, 0))
theorem meas_k {n k : Nat} (h : k < n) : n - (intOf (.int .i64 ((k : Int) + 1))).toNat < n - (intOf (.int .i64 (k : Int))).toNat := by
  show n - ((k : Int) + 1).toNat < n - (k : Int).toNat
  omega
theorem grown_cells {a b : World} {g : Nat} (h : a.grownBy b none) (hg : a.heap.size ≤ g) (cs' : Array Value) : a.grownBy (b.setRow g cs') none := grown_own h ⟨rfl, rfl, rfl, by simp [World.setRow], fun k _ hk => setRow_other b g k cs' (fun e => hk (by rw [e]))⟩ (fun y e => by cases e; exact hg)
set_option maxRecDepth 100000 in
set_option maxHeartbeats 4000000 in
theorem labout_any (vr vf : Value) (X : List Rv) (F : List Fe) (e : Se) (w : World) (T : TbAt w vr vf X F) (hr : e.ro < X.length) : Calls Tryz.prog 53 #[tbv vr vf, sev e] w fun e' w' => e' = .returned (smv (aboutL (rws X) F e)) ∧ w.grownBy w' none := by
  obtain ⟨pr, cr, rfl⟩ := T.rows.form
  obtain ⟨pf, cf, rfl⟩ := T.fs.form
  obtain ⟨W1, hW1⟩ : ∃ W1, W1 = (((w.alloc (.cells #[.slice pr X.length cr, .slice pf F.length cf] 118)).alloc (.cells #[.int .i64 e.s.th, .int .i64 e.s.pl, .int .u8 e.s.wh.wn, .int .u8 e.s.wh.vb, .int .u8 e.s.wh.wm, .int .i64 e.s.wh.ct, .int .u8 e.s.wh.su, .int .u8 e.s.wh.tr, .int .u8 e.s.wh.mr, .string e.s.wh.nm, .int .i64 (e.ro : Int)] 123)).alloc (.cells #[.bool false, .bool false, .bool false, .bool false, .bool false, .bool false, .bool false, .bool false, .bool false, .bool false, .bool false, .bool false, .bool false, .bool false, .bool false, .bool false] 127)).alloc (.cells #[.bool false, .bool false, .bool false, .bool false, .bool false, .bool false, .bool false, .bool false, .bool false, .bool false, .bool false, .bool false, .bool false, .bool false, .bool false, .bool false] 127) := ⟨_, rfl⟩
  have HG1 : Hid (w.grownBy W1 none) := by rw [hW1]; exact grown_push (grown_push (grown_push (World.grownBy_alloc _ _ none) _) _) _
  have HB : Hid (TbB W1 w.heap.size (.slice pr X.length cr) (.slice pf F.length cf)) := by rw [hW1]; exact grown_keep (grown_push (grown_push (World.grownBy_alloc _ _ none) _) _) (alloc_at w _ _) (by simp)
  have HS : Hid (SeB W1 (w.heap.size + 1) e) := by rw [hW1]; exact grown_keep (grown_push (World.grownBy_alloc _ _ none) _) (alloc2_b _ _ _ _) (by simp)
  have HR : Hid (W1.heap[w.heap.size + 1 + 1]? = some (.cells #[.bool false, .bool false, .bool false, .bool false, .bool false, .bool false, .bool false, .bool false, .bool false, .bool false, .bool false, .bool false, .bool false, .bool false, .bool false, .bool false] 127 (0, 0))) := by rw [hW1]; exact grown_keep (World.grownBy_alloc _ _ none) (alloc3_b _ _ _ _ _) (by simp)
  have HP : Hid (SmB W1 (w.heap.size + 1 + 1 + 1) []) := by
    rw [hW1]
    have := alloc_at (((w.alloc (.cells #[.slice pr X.length cr, .slice pf F.length cf] 118)).alloc (.cells #[.int .i64 e.s.th, .int .i64 e.s.pl, .int .u8 e.s.wh.wn, .int .u8 e.s.wh.vb, .int .u8 e.s.wh.wm, .int .i64 e.s.wh.ct, .int .u8 e.s.wh.su, .int .u8 e.s.wh.tr, .int .u8 e.s.wh.mr, .string e.s.wh.nm, .int .i64 (e.ro : Int)] 123)).alloc (.cells #[.bool false, .bool false, .bool false, .bool false, .bool false, .bool false, .bool false, .bool false, .bool false, .bool false, .bool false, .bool false, .bool false, .bool false, .bool false, .bool false] 127)) #[.bool false, .bool false, .bool false, .bool false, .bool false, .bool false, .bool false, .bool false, .bool false, .bool false, .bool false, .bool false, .bool false, .bool false, .bool false, .bool false] 127
    rw [World.size_alloc, World.size_alloc, World.size_alloc] at this
    exact this
  have HT : Hid (TbAt w (.slice pr X.length cr) (.slice pf F.length cf) X F) := T
  have H16 : Hid (X.length ≤ 16) := T.few
  have Hr : Hid (e.ro < X.length) := hr
  unfold tbv sev
  clear T hr
  go_enter Tryz.func53, Tryz.ntmps53
  go_upto_region 2 with fail
  rw [← hW1]
  clear hW1
  obtain ⟨n0, h0⟩ : ∃ n0, n0 = w.heap.size := ⟨_, rfl⟩
  have HN : Hid (w.heap.size ≤ n0) := by show _ ≤ _; omega
  simp only [← h0] at HB HS HR HP ⊢
  obtain ⟨n1, h1⟩ : ∃ n1, n1 = n0 + 1 := ⟨_, rfl⟩
  simp only [← h1] at HS HR HP ⊢
  obtain ⟨n2, h2⟩ : ∃ n2, n2 = n1 + 1 := ⟨_, rfl⟩
  simp only [← h2] at HR HP ⊢
  obtain ⟨n3, h3⟩ : ∃ n3, n3 = n2 + 1 := ⟨_, rfl⟩
  simp only [← h3] at HP ⊢
  have HD : Hid (n0 ≠ n3 ∧ n1 ≠ n3 ∧ n2 ≠ n3 ∧ w.heap.size ≤ n3 ∧ w.heap.size ≤ n2) := by have := HN.out; show _ ∧ _ ∧ _ ∧ _ ∧ _; omega
  clear h0 h1 h2 h3
  obtain ⟨b0, b1⟩ := tb_box HB.out
  go_wp2_with fail
  clear b0 b1
  go_loopw [6, 10] (fun _ i wr => ∃ k : Nat, k ≤ X.length ∧ i = .int .i64 (k : Int) ∧ SmB wr n3 (aboutU (rws X) F e k) ∧ W1.grownBy wr (some n3)) (fun _ i _ => X.length - (intOf i).toNat)
  case atStart => exact ⟨0, Nat.zero_le _, rfl, HP.out, grown_refl _ _⟩
  case round =>
    obtain ⟨k, hk, rfl, P, G⟩ := hrel
    obtain ⟨U, hU⟩ : ∃ U, U = wr := ⟨_, rfl⟩
    subst hU
    have HG : Hid (W1.grownBy U (some n3)) := G
    have HPk : Hid (SmB U n3 (aboutU (rws X) F e k)) := P
    have HGw : Hid (w.grownBy U none) := grown_own HG1.out G (fun y q => by cases q; exact HD.out.2.2.2.1)
    clear P G
    by_cases hlt : k < X.length
    · have HC := isAbout_any _ _ X F e k U (HT.out.keep HGw.out) hlt Hr.out
      obtain ⟨ans, hans⟩ : ∃ ans, ans = isAbB (rws X) F e k := ⟨_, rfl⟩
      have HA : Hid (ans = isAbB (rws X) F e k) := hans
      rw [← hans] at HC
      unfold tbv sev at HC
      obtain ⟨a0, a1⟩ := tb_box (show TbB U n0 _ _ from grown_keep HG.out HB.out (by simpa using HD.out.1))
      obtain ⟨s0, s1, s2, s3, s4, s5, s6, s7, s8, s9, s10⟩ := se_box (show SeB U n1 e from grown_keep HG.out HS.out (by simpa using HD.out.2.1))
      have hk16 : (k : Int) < 16 := by have := H16.out; omega
      have hwk : wrap64 ((k : Int) + 1) = (k : Int) + 1 := by unfold wrap64; omega
      have Hlt : Hid (k < X.length) := hlt
      have hlt' : (k : Int) < X.length := by omega
      clear hans hk hlt
      go_wp2_with fail
      refine HC.mono ?_
      rintro e2 w2 ⟨rfl, g2⟩
      have HG2 : Hid (U.grownBy w2 none) := g2
      have HP2 : Hid (SmB w2 n3 (aboutU (rws X) F e k)) := grown_keep g2 HPk.out (by simp)
      obtain ⟨old, hold⟩ := smc_there (l := aboutU (rws X) F e k) (by rw [aboutU_len]; have := H16.out; have := Hlt.out; omega) (i := k) (by have := H16.out; have := Hlt.out; omega)
      have y0 : w2.cell? ⟨n3, k, none⟩ = some (.bool old) := (block_cell HP2.out k).trans hold
      have yf := block_free HP2.out k
      clear HC g2 hold a0 a1 s0 s1 s2 s3 s4 s5 s6 s7 s8 s9 s10
      go_wp2_with fail
      go_roundw
      case rel =>
        refine ⟨k + 1, Hlt.out, by first | rfl | (rw [hwk]; rfl) | go_num, ?_, ?_⟩
        · have := block_set HP2.out k (.bool ans)
          have q := smc_more (l := aboutU (rws X) F e k) (by rw [aboutU_len]; have := H16.out; have := Hlt.out; omega) ans
          rw [aboutU_len] at q
          rw [q, HA.out, ← aboutU_next, ← HA.out] at this
          exact this
        · exact grown_trans (grown_trans HG.out ⟨HG2.out.os, HG2.out.tape, HG2.out.output, HG2.out.size, fun i hi _ => HG2.out.block i hi (by simp)⟩) (grown_set _ _ _ _)
      case measure => first | exact meas_k Hlt.out | (rw [hwk]; exact meas_k Hlt.out)
    · obtain rfl : k = X.length := by omega
      have ea : aboutU (rws X) F e X.length = aboutL (rws X) F e := by unfold aboutL; rw [rws_len]
      rw [ea] at HPk
      have hl16 : (aboutL (rws X) F e).length ≤ 16 := by unfold aboutL; rw [aboutU_len, rws_len]; exact H16.out
      obtain ⟨b0, b1, b2, b3, b4, b5, b6, b7, b8, b9, b10, b11, b12, b13, b14, b15, _, esm⟩ := sm16 hl16
      have HE : Hid (smc (aboutL (rws X) F e) = #[.bool b0, .bool b1, .bool b2, .bool b3, .bool b4, .bool b5, .bool b6, .bool b7, .bool b8, .bool b9, .bool b10, .bool b11, .bool b12, .bool b13, .bool b14, .bool b15]) := esm
      unfold SmB at HPk
      rw [esm] at HPk
      have HR2 : Hid (U.heap[n2]? = some (.cells #[.bool false, .bool false, .bool false, .bool false, .bool false, .bool false, .bool false, .bool false, .bool false, .bool false, .bool false, .bool false, .bool false, .bool false, .bool false, .bool false] 127 (0, 0))) := grown_keep HG.out HR.out (by simpa using HD.out.2.2.1)
      have c0 := (block_cell HPk.out 0).trans (show _ = some (.bool b0) from rfl)
      have c1 := (block_cell HPk.out 1).trans (show _ = some (.bool b1) from rfl)
      have c2 := (block_cell HPk.out 2).trans (show _ = some (.bool b2) from rfl)
      have c3 := (block_cell HPk.out 3).trans (show _ = some (.bool b3) from rfl)
      have c4 := (block_cell HPk.out 4).trans (show _ = some (.bool b4) from rfl)
      have c5 := (block_cell HPk.out 5).trans (show _ = some (.bool b5) from rfl)
      have c6 := (block_cell HPk.out 6).trans (show _ = some (.bool b6) from rfl)
      have c7 := (block_cell HPk.out 7).trans (show _ = some (.bool b7) from rfl)
      have c8 := (block_cell HPk.out 8).trans (show _ = some (.bool b8) from rfl)
      have c9 := (block_cell HPk.out 9).trans (show _ = some (.bool b9) from rfl)
      have c10 := (block_cell HPk.out 10).trans (show _ = some (.bool b10) from rfl)
      have c11 := (block_cell HPk.out 11).trans (show _ = some (.bool b11) from rfl)
      have c12 := (block_cell HPk.out 12).trans (show _ = some (.bool b12) from rfl)
      have c13 := (block_cell HPk.out 13).trans (show _ = some (.bool b13) from rfl)
      have c14 := (block_cell HPk.out 14).trans (show _ = some (.bool b14) from rfl)
      have c15 := (block_cell HPk.out 15).trans (show _ = some (.bool b15) from rfl)
      clear hl16 esm ea hlt hk
      have r0 := (block_cell HR2.out 0).trans (show _ = some (.bool false) from rfl)
      have r1 := (block_cell HR2.out 1).trans (show _ = some (.bool false) from rfl)
      have r2 := (block_cell HR2.out 2).trans (show _ = some (.bool false) from rfl)
      have r3 := (block_cell HR2.out 3).trans (show _ = some (.bool false) from rfl)
      have r4 := (block_cell HR2.out 4).trans (show _ = some (.bool false) from rfl)
      have r5 := (block_cell HR2.out 5).trans (show _ = some (.bool false) from rfl)
      have r6 := (block_cell HR2.out 6).trans (show _ = some (.bool false) from rfl)
      have r7 := (block_cell HR2.out 7).trans (show _ = some (.bool false) from rfl)
      have r8 := (block_cell HR2.out 8).trans (show _ = some (.bool false) from rfl)
      have r9 := (block_cell HR2.out 9).trans (show _ = some (.bool false) from rfl)
      have r10 := (block_cell HR2.out 10).trans (show _ = some (.bool false) from rfl)
      have r11 := (block_cell HR2.out 11).trans (show _ = some (.bool false) from rfl)
      have r12 := (block_cell HR2.out 12).trans (show _ = some (.bool false) from rfl)
      have r13 := (block_cell HR2.out 13).trans (show _ = some (.bool false) from rfl)
      have r14 := (block_cell HR2.out 14).trans (show _ = some (.bool false) from rfl)
      have r15 := (block_cell HR2.out 15).trans (show _ = some (.bool false) from rfl)
      have rf := fun i => block_free HR2.out i
      go_wp2_with fail
      refine bodyPost_ret (v := .agg #[.bool b0, .bool b1, .bool b2, .bool b3, .bool b4, .bool b5, .bool b6, .bool b7, .bool b8, .bool b9, .bool b10, .bool b11, .bool b12, .bool b13, .bool b14, .bool b15]) ?_ rfl ⟨?_, ?_⟩
      · simp [results, Tryz.results53, go_sem, r0, r1, r2, r3, r4, r5, r6, r7, r8, r9, r10, r11, r12, r13, r14, r15]
      · unfold smv
        rw [HE.out]
      · exact (grown_set2 (grown_set2 (grown_set2 (grown_set2 (grown_set2 (grown_set2 (grown_set2 (grown_set2 (grown_set2 (grown_set2 (grown_set2 (grown_set2 (grown_set2 (grown_set2 (grown_set2 (grown_set2 HGw.out HD.out.2.2.2.2 _ _) HD.out.2.2.2.2 _ _) HD.out.2.2.2.2 _ _) HD.out.2.2.2.2 _ _) HD.out.2.2.2.2 _ _) HD.out.2.2.2.2 _ _) HD.out.2.2.2.2 _ _) HD.out.2.2.2.2 _ _) HD.out.2.2.2.2 _ _) HD.out.2.2.2.2 _ _) HD.out.2.2.2.2 _ _) HD.out.2.2.2.2 _ _) HD.out.2.2.2.2 _ _) HD.out.2.2.2.2 _ _) HD.out.2.2.2.2 _ _) HD.out.2.2.2.2 _ _)
end Go.Proofs.YtmemeloehgemcaaGreat
