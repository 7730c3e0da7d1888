/-
  Layers: the things that an effect is about: the program's about, numbers.
  Layers: the numbers of the rows that are picked out.
  append of what may be nil or not; slices.Clone of features.
-/
import Derived.Test.YtmemeloehgemcaaGreatLyB
import Derived.Maps.AppendAt
namespace Go.Proofs.YtmemeloehgemcaaGreat
open Go.RowKit

def pad (l : List Bool) : List Bool := l ++ List.replicate (16 - l.length) false
def smc (l : List Bool) : Array Value := ((pad l).map Value.bool).toArray
def smv (l : List Bool) : Value := .agg (smc l)
theorem pad_len {l : List Bool} (h : l.length ≤ 16) : (pad l).length = 16 := by
  unfold pad
  rw [List.length_append, List.length_replicate]
  omega
theorem smc_size {l : List Bool} (h : l.length ≤ 16) : (smc l).size = 16 := by
  unfold smc
  rw [List.size_toArray, List.length_map, pad_len h]
theorem sixteen {α : Type} : ∀ l : List α, l.length = 16 → ∃ b0 b1 b2 b3 b4 b5 b6 b7 b8 b9 b10 b11 b12 b13 b14 b15, l = [b0, b1, b2, b3, b4, b5, b6, b7, b8, b9, b10, b11, b12, b13, b14, b15]
  | [b0, b1, b2, b3, b4, b5, b6, b7, b8, b9, b10, b11, b12, b13, b14, b15], _ => ⟨b0, b1, b2, b3, b4, b5, b6, b7, b8, b9, b10, b11, b12, b13, b14, b15, rfl⟩
theorem sm16 {l : List Bool} (h : l.length ≤ 16) : ∃ b0 b1 b2 b3 b4 b5 b6 b7 b8 b9 b10 b11 b12 b13 b14 b15, pad l = [b0, b1, b2, b3, b4, b5, b6, b7, b8, b9, b10, b11, b12, b13, b14, b15] ∧ smc l = #[.bool b0, .bool b1, .bool b2, .bool b3, .bool b4, .bool b5, .bool b6, .bool b7, .bool b8, .bool b9, .bool b10, .bool b11, .bool b12, .bool b13, .bool b14, .bool b15] := by
  obtain ⟨b0, b1, b2, b3, b4, b5, b6, b7, b8, b9, b10, b11, b12, b13, b14, b15, e⟩ := sixteen (pad l) (pad_len h)
  refine ⟨b0, b1, b2, b3, b4, b5, b6, b7, b8, b9, b10, b11, b12, b13, b14, b15, e, ?_⟩
  unfold smc
  rw [e]
  rfl
theorem pad_more {l : List Bool} (h : l.length < 16) (b : Bool) : (pad l).set l.length b = pad (l ++ [b]) := by
  unfold pad
  rw [List.set_append_right _ _ (Nat.le_refl _), Nat.sub_self, List.length_append, List.length_singleton, show 16 - l.length = (16 - (l.length + 1)) + 1 from by omega, List.replicate_succ, List.set_cons_zero, List.append_assoc]
  rfl
theorem smc_more {l : List Bool} (h : l.length < 16) (b : Bool) : (smc l).setIfInBounds l.length (.bool b) = smc (l ++ [b]) := by
  unfold smc
  rw [← pad_more h b, List.map_set]
  simp
theorem pad_inj {l m : List Bool} (h : l.length = m.length) (e : pad l = pad m) : l = m := by
  unfold pad at e
  rw [h] at e
  exact List.append_cancel_right e
theorem aboutU_len (R : List Rw) (F : List Fe) (s : Se) (k : Nat) : (aboutU R F s k).length = k := by unfold aboutU; simp
theorem aboutU_next (R : List Rw) (F : List Fe) (s : Se) (k : Nat) : aboutU R F s (k + 1) = aboutU R F s k ++ [isAbB R F s k] := by
  unfold aboutU
  rw [List.range_succ, List.map_append]
  rfl
theorem pad_at {l : List Bool} {i : Nat} (h : i < l.length) : (pad l)[i]? = l[i]? := by
  unfold pad
  exact List.getElem?_append_left h
theorem smc_at {l : List Bool} {i : Nat} {b : Bool} (h : l[i]? = some b) : (smc l)[i]? = some (.bool b) := by
  unfold smc
  have hi := (List.getElem?_eq_some_iff.1 h).1
  rw [List.getElem?_toArray, List.getElem?_map, pad_at hi, h]
  rfl
theorem smc_there {l : List Bool} (h : l.length ≤ 16) {i : Nat} (hi : i < 16) : ∃ b, (smc l)[i]? = some (.bool b) := by
  unfold smc
  rw [List.getElem?_toArray, List.getElem?_map, List.getElem?_eq_getElem (show i < (pad l).length from by rw [pad_len h]; exact hi)]
  exact ⟨_, rfl⟩
def SmB (w : World) (g : Nat) (l : List Bool) : Prop := w.heap[g]? = some (.cells (smc l) 127 (0, 0))
theorem meas_k {n k : Nat} (h : k < n) : n - (intOf (.int .i64 ((k : Int) + 1))).toNat < n - (intOf (.int .i64 (k : Int))).toNat := by
  show n - ((k : Int) + 1).toNat < n - (k : Int).toNat
  omega
theorem grown_cells {a b : World} {g : Nat} (h : a.grownBy b none) (hg : a.heap.size ≤ g) (cs' : Array Value) : a.grownBy (b.setRow g cs') none := grown_own h ⟨rfl, rfl, rfl, by simp [World.setRow], fun k _ hk => setRow_other b g k cs' (fun e => hk (by rw [e]))⟩ (fun y e => by cases e; exact hg)
set_option maxRecDepth 100000 in
set_option maxHeartbeats 4000000 in
theorem labout_any (vr vf : Value) (X : List Rv) (F : List Fe) (e : Se) (w : World) (T : TbAt w vr vf X F) (hr : e.ro < X.length) : Calls Tryz.prog 53 #[tbv vr vf, sev e] w fun e' w' => e' = .returned (smv (aboutL (rws X) F e)) ∧ w.grownBy w' none := by
  obtain ⟨pr, cr, rfl⟩ := T.rows.form
  obtain ⟨pf, cf, rfl⟩ := T.fs.form
  obtain ⟨W1, hW1⟩ : ∃ W1, W1 = (((w.alloc (.cells #[.slice pr X.length cr, .slice pf F.length cf] 118)).alloc (.cells #[.int .i64 e.s.th, .int .i64 e.s.pl, .int .u8 e.s.wh.wn, .int .u8 e.s.wh.vb, .int .u8 e.s.wh.wm, .int .i64 e.s.wh.ct, .int .u8 e.s.wh.su, .int .u8 e.s.wh.tr, .int .u8 e.s.wh.mr, .string e.s.wh.nm, .int .i64 (e.ro : Int)] 123)).alloc (.cells #[.bool false, .bool false, .bool false, .bool false, .bool false, .bool false, .bool false, .bool false, .bool false, .bool false, .bool false, .bool false, .bool false, .bool false, .bool false, .bool false] 127)).alloc (.cells #[.bool false, .bool false, .bool false, .bool false, .bool false, .bool false, .bool false, .bool false, .bool false, .bool false, .bool false, .bool false, .bool false, .bool false, .bool false, .bool false] 127) := ⟨_, rfl⟩
  have HG1 : Hid (w.grownBy W1 none) := by rw [hW1]; exact grown_push (grown_push (grown_push (World.grownBy_alloc _ _ none) _) _) _
  have HB : Hid (TbB W1 w.heap.size (.slice pr X.length cr) (.slice pf F.length cf)) := by rw [hW1]; exact grown_keep (grown_push (grown_push (World.grownBy_alloc _ _ none) _) _) (alloc_at w _ _) (by simp)
  have HS : Hid (SeB W1 (w.heap.size + 1) e) := by rw [hW1]; exact grown_keep (grown_push (World.grownBy_alloc _ _ none) _) (alloc2_b _ _ _ _) (by simp)
  have HR : Hid (W1.heap[w.heap.size + 1 + 1]? = some (.cells #[.bool false, .bool false, .bool false, .bool false, .bool false, .bool false, .bool false, .bool false, .bool false, .bool false, .bool false, .bool false, .bool false, .bool false, .bool false, .bool false] 127 (0, 0))) := by rw [hW1]; exact grown_keep (World.grownBy_alloc _ _ none) (alloc3_b _ _ _ _ _) (by simp)
  have HP : Hid (SmB W1 (w.heap.size + 1 + 1 + 1) []) := by
    rw [hW1]
    have := alloc_at (((w.alloc (.cells #[.slice pr X.length cr, .slice pf F.length cf] 118)).alloc (.cells #[.int .i64 e.s.th, .int .i64 e.s.pl, .int .u8 e.s.wh.wn, .int .u8 e.s.wh.vb, .int .u8 e.s.wh.wm, .int .i64 e.s.wh.ct, .int .u8 e.s.wh.su, .int .u8 e.s.wh.tr, .int .u8 e.s.wh.mr, .string e.s.wh.nm, .int .i64 (e.ro : Int)] 123)).alloc (.cells #[.bool false, .bool false, .bool false, .bool false, .bool false, .bool false, .bool false, .bool false, .bool false, .bool false, .bool false, .bool false, .bool false, .bool false, .bool false, .bool false] 127)) #[.bool false, .bool false, .bool false, .bool false, .bool false, .bool false, .bool false, .bool false, .bool false, .bool false, .bool false, .bool false, .bool false, .bool false, .bool false, .bool false] 127
    rw [World.size_alloc, World.size_alloc, World.size_alloc] at this
    exact this
  have HT : Hid (TbAt w (.slice pr X.length cr) (.slice pf F.length cf) X F) := T
  have H16 : Hid (X.length ≤ 16) := T.few
  have Hr : Hid (e.ro < X.length) := hr
  unfold tbv sev
  clear T hr
  go_enter Tryz.func53, Tryz.ntmps53
  go_upto_region 2 with fail
  rw [← hW1]
  clear hW1
  obtain ⟨n0, h0⟩ : ∃ n0, n0 = w.heap.size := ⟨_, rfl⟩
  have HN : Hid (w.heap.size ≤ n0) := by show _ ≤ _; omega
  simp only [← h0] at HB HS HR HP ⊢
  obtain ⟨n1, h1⟩ : ∃ n1, n1 = n0 + 1 := ⟨_, rfl⟩
  simp only [← h1] at HS HR HP ⊢
  obtain ⟨n2, h2⟩ : ∃ n2, n2 = n1 + 1 := ⟨_, rfl⟩
  simp only [← h2] at HR HP ⊢
  obtain ⟨n3, h3⟩ : ∃ n3, n3 = n2 + 1 := ⟨_, rfl⟩
  simp only [← h3] at HP ⊢
  have HD : Hid (n0 ≠ n3 ∧ n1 ≠ n3 ∧ n2 ≠ n3 ∧ w.heap.size ≤ n3 ∧ w.heap.size ≤ n2) := by have := HN.out; show _ ∧ _ ∧ _ ∧ _ ∧ _; omega
  clear h0 h1 h2 h3
  obtain ⟨b0, b1⟩ := tb_box HB.out
  go_wp2_with fail
  clear b0 b1
  go_loopw [6, 10] (fun _ i wr => ∃ k : Nat, k ≤ X.length ∧ i = .int .i64 (k : Int) ∧ SmB wr n3 (aboutU (rws X) F e k) ∧ W1.grownBy wr (some n3)) (fun _ i _ => X.length - (intOf i).toNat)
  case atStart => exact ⟨0, Nat.zero_le _, rfl, HP.out, grown_refl _ _⟩
  case round =>
    obtain ⟨k, hk, rfl, P, G⟩ := hrel
    obtain ⟨U, hU⟩ : ∃ U, U = wr := ⟨_, rfl⟩
    subst hU
    have HG : Hid (W1.grownBy U (some n3)) := G
    have HPk : Hid (SmB U n3 (aboutU (rws X) F e k)) := P
    have HGw : Hid (w.grownBy U none) := grown_own HG1.out G (fun y q => by cases q; exact HD.out.2.2.2.1)
    clear P G
    by_cases hlt : k < X.length
    · have HC := isAbout_any _ _ X F e k U (HT.out.keep HGw.out) hlt Hr.out
      obtain ⟨ans, hans⟩ : ∃ ans, ans = isAbB (rws X) F e k := ⟨_, rfl⟩
      have HA : Hid (ans = isAbB (rws X) F e k) := hans
      rw [← hans] at HC
      unfold tbv sev at HC
      obtain ⟨a0, a1⟩ := tb_box (show TbB U n0 _ _ from grown_keep HG.out HB.out (by simpa using HD.out.1))
      obtain ⟨s0, s1, s2, s3, s4, s5, s6, s7, s8, s9, s10⟩ := se_box (show SeB U n1 e from grown_keep HG.out HS.out (by simpa using HD.out.2.1))
      have hk16 : (k : Int) < 16 := by have := H16.out; omega
      have hwk : wrap64 ((k : Int) + 1) = (k : Int) + 1 := by unfold wrap64; omega
      have Hlt : Hid (k < X.length) := hlt
      have hlt' : (k : Int) < X.length := by omega
      clear hans hk hlt
      go_wp2_with fail
      refine HC.mono ?_
      rintro e2 w2 ⟨rfl, g2⟩
      have HG2 : Hid (U.grownBy w2 none) := g2
      have HP2 : Hid (SmB w2 n3 (aboutU (rws X) F e k)) := grown_keep g2 HPk.out (by simp)
      obtain ⟨old, hold⟩ := smc_there (l := aboutU (rws X) F e k) (by rw [aboutU_len]; have := H16.out; have := Hlt.out; omega) (i := k) (by have := H16.out; have := Hlt.out; omega)
      have y0 : w2.cell? ⟨n3, k, none⟩ = some (.bool old) := (block_cell HP2.out k).trans hold
      have yf := block_free HP2.out k
      clear HC g2 hold a0 a1 s0 s1 s2 s3 s4 s5 s6 s7 s8 s9 s10
      go_wp2_with fail
      go_roundw
      case rel =>
        refine ⟨k + 1, Hlt.out, by first | rfl | (rw [hwk]; rfl) | go_num, ?_, ?_⟩
        · have := block_set HP2.out k (.bool ans)
          have q := smc_more (l := aboutU (rws X) F e k) (by rw [aboutU_len]; have := H16.out; have := Hlt.out; omega) ans
          rw [aboutU_len] at q
          rw [q, HA.out, ← aboutU_next, ← HA.out] at this
          exact this
        · exact grown_trans (grown_trans HG.out ⟨HG2.out.os, HG2.out.tape, HG2.out.output, HG2.out.size, fun i hi _ => HG2.out.block i hi (by simp)⟩) (grown_set _ _ _ _)
      case measure => first | exact meas_k Hlt.out | (rw [hwk]; exact meas_k Hlt.out)
    · obtain rfl : k = X.length := by omega
      have ea : aboutU (rws X) F e X.length = aboutL (rws X) F e := by unfold aboutL; rw [rws_len]
      rw [ea] at HPk
      have hl16 : (aboutL (rws X) F e).length ≤ 16 := by unfold aboutL; rw [aboutU_len, rws_len]; exact H16.out
      obtain ⟨b0, b1, b2, b3, b4, b5, b6, b7, b8, b9, b10, b11, b12, b13, b14, b15, _, esm⟩ := sm16 hl16
      have HE : Hid (smc (aboutL (rws X) F e) = #[.bool b0, .bool b1, .bool b2, .bool b3, .bool b4, .bool b5, .bool b6, .bool b7, .bool b8, .bool b9, .bool b10, .bool b11, .bool b12, .bool b13, .bool b14, .bool b15]) := esm
      unfold SmB at HPk
      rw [esm] at HPk
      have HR2 : Hid (U.heap[n2]? = some (.cells #[.bool false, .bool false, .bool false, .bool false, .bool false, .bool false, .bool false, .bool false, .bool false, .bool false, .bool false, .bool false, .bool false, .bool false, .bool false, .bool false] 127 (0, 0))) := grown_keep HG.out HR.out (by simpa using HD.out.2.2.1)
      have c0 := (block_cell HPk.out 0).trans (show _ = some (.bool b0) from rfl)
      have c1 := (block_cell HPk.out 1).trans (show _ = some (.bool b1) from rfl)
      have c2 := (block_cell HPk.out 2).trans (show _ = some (.bool b2) from rfl)
      have c3 := (block_cell HPk.out 3).trans (show _ = some (.bool b3) from rfl)
      have c4 := (block_cell HPk.out 4).trans (show _ = some (.bool b4) from rfl)
      have c5 := (block_cell HPk.out 5).trans (show _ = some (.bool b5) from rfl)
      have c6 := (block_cell HPk.out 6).trans (show _ = some (.bool b6) from rfl)
      have c7 := (block_cell HPk.out 7).trans (show _ = some (.bool b7) from rfl)
      have c8 := (block_cell HPk.out 8).trans (show _ = some (.bool b8) from rfl)
      have c9 := (block_cell HPk.out 9).trans (show _ = some (.bool b9) from rfl)
      have c10 := (block_cell HPk.out 10).trans (show _ = some (.bool b10) from rfl)
      have c11 := (block_cell HPk.out 11).trans (show _ = some (.bool b11) from rfl)
      have c12 := (block_cell HPk.out 12).trans (show _ = some (.bool b12) from rfl)
      have c13 := (block_cell HPk.out 13).trans (show _ = some (.bool b13) from rfl)
      have c14 := (block_cell HPk.out 14).trans (show _ = some (.bool b14) from rfl)
      have c15 := (block_cell HPk.out 15).trans (show _ = some (.bool b15) from rfl)
      clear hl16 esm ea hlt hk
      have r0 := (block_cell HR2.out 0).trans (show _ = some (.bool false) from rfl)
      have r1 := (block_cell HR2.out 1).trans (show _ = some (.bool false) from rfl)
      have r2 := (block_cell HR2.out 2).trans (show _ = some (.bool false) from rfl)
      have r3 := (block_cell HR2.out 3).trans (show _ = some (.bool false) from rfl)
      have r4 := (block_cell HR2.out 4).trans (show _ = some (.bool false) from rfl)
      have r5 := (block_cell HR2.out 5).trans (show _ = some (.bool false) from rfl)
      have r6 := (block_cell HR2.out 6).trans (show _ = some (.bool false) from rfl)
      have r7 := (block_cell HR2.out 7).trans (show _ = some (.bool false) from rfl)
      have r8 := (block_cell HR2.out 8).trans (show _ = some (.bool false) from rfl)
      have r9 := (block_cell HR2.out 9).trans (show _ = some (.bool false) from rfl)
      have r10 := (block_cell HR2.out 10).trans (show _ = some (.bool false) from rfl)
      have r11 := (block_cell HR2.out 11).trans (show _ = some (.bool false) from rfl)
      have r12 := (block_cell HR2.out 12).trans (show _ = some (.bool false) from rfl)
      have r13 := (block_cell HR2.out 13).trans (show _ = some (.bool false) from rfl)
      have r14 := (block_cell HR2.out 14).trans (show _ = some (.bool false) from rfl)
      have r15 := (block_cell HR2.out 15).trans (show _ = some (.bool false) from rfl)
      have rf := fun i => block_free HR2.out i
      go_wp2_with fail
      refine bodyPost_ret (v := .agg #[.bool b0, .bool b1, .bool b2, .bool b3, .bool b4, .bool b5, .bool b6, .bool b7, .bool b8, .bool b9, .bool b10, .bool b11, .bool b12, .bool b13, .bool b14, .bool b15]) ?_ rfl ⟨?_, ?_⟩
      · simp [results, Tryz.results53, go_sem, r0, r1, r2, r3, r4, r5, r6, r7, r8, r9, r10, r11, r12, r13, r14, r15]
      · unfold smv
        rw [HE.out]
      · exact (grown_set2 (grown_set2 (grown_set2 (grown_set2 (grown_set2 (grown_set2 (grown_set2 (grown_set2 (grown_set2 (grown_set2 (grown_set2 (grown_set2 (grown_set2 (grown_set2 (grown_set2 (grown_set2 HGw.out HD.out.2.2.2.2 _ _) HD.out.2.2.2.2 _ _) HD.out.2.2.2.2 _ _) HD.out.2.2.2.2 _ _) HD.out.2.2.2.2 _ _) HD.out.2.2.2.2 _ _) HD.out.2.2.2.2 _ _) HD.out.2.2.2.2 _ _) HD.out.2.2.2.2 _ _) HD.out.2.2.2.2 _ _) HD.out.2.2.2.2 _ _) HD.out.2.2.2.2 _ _) HD.out.2.2.2.2 _ _) HD.out.2.2.2.2 _ _) HD.out.2.2.2.2 _ _) HD.out.2.2.2.2 _ _)
end Go.Proofs.YtmemeloehgemcaaGreat
namespace Go.Proofs.YtmemeloehgemcaaGreat
open Go.RowKit

def numU (R : List Rw) (l : List Bool) (k : Nat) : List Int := (List.range k).filterMap fun i => if l.getD i false then some (R.getD i Rw.none).nu else none
def numL (R : List Rw) (l : List Bool) : List Int := numU R l R.length
def LOwnI (w : World) (base : Nat) (v : Value) (l : List Int) : Prop := w.ownsRow base 3 1 v l.length (ints l)
theorem LOwnI.form {w : World} {base : Nat} {v : Value} {l : List Int} (h : LOwnI w base v l) : ∃ p c, v = .slice p l.length c := by
  obtain ⟨p, c, e, _⟩ := own_slice h
  exact ⟨p, c, e⟩
theorem Tryz.linfo3 : (Tryz.prog.info? 3).map (fun i => (i.zero, i.size, i.bytes)) = some (some (.int .i64 0), 1, 8) := by kernel_rfl
end Go.Proofs.YtmemeloehgemcaaGreat
namespace Go.Proofs.YtmemeloehgemcaaGreat
open Go.RowKit

theorem lwp_append_at {P : Program} {w : World} {o : Oper} {a : Act} {K : Act → World → Prop} {Q : Exit → Act → World → Prop} (s x : Operand) (t : TypeId)
    (ho : o.op = .call { callee := .builtin .append, args := #[s, x], argTypes := #[t, t] })
    (base : Nat) (e : TypeId) (i : TypeInfo) (z : Value) (size bytes : Nat) (ht : P.underlying t = some (.slice e)) (hi : P.info? e = some i) (hz : i.zero = some z)
    (hsize : i.size = size) (hby : i.bytes = bytes) (hzs : z.cells.size = size) (hsz : 0 < size)
    (v : Value) (n : Nat) (xs : List Value) (hs : a.eval s = v) (hown : w.ownsRow base e size v n xs)
    (ad : Addr) (m c : Nat) (news : List Value) (hx : a.eval x = .slice (some ad) m c) (hl : news.length = m * size) (hnews : ∀ j u, news[j]? = some u → w.cell? (ad.add j) = some u) (h1 : ∀ u ∈ news, u.oneCell' = true)
    (h63 : n + m ≤ maxLen) (hbytes : (n + m) * bytes ≤ 140737488355328) (hbase : base ≤ w.heap.size)
    (h : ∀ v' w', w'.ownsRow base e size v' (n + m) (xs ++ news) → w.grownBy w' v.ownBlock → (v'.ownBlock = v.ownBlock ∨ v'.ownBlock = some w.heap.size) → K (a.put o.dst v') w') : Oper.wp P o a w K Q := by
  obtain ⟨v', w', hr, h2, h3, _, h5⟩ := run_append_own_at (P := P) w base t o.type e i z size bytes ht hi hz hsize hby hzs hsz v n xs hown ad m c news hl hnews h1 h63 hbytes hbase
  unfold Oper.wp execOp
  simp only [ho, resolve, invoke, builtin, Sem.run_bind, Sem.run_pure, Result.andThen_ok, List.map_toArray, List.map_cons, List.map_nil, hs, hx, hr]
  exact h v' w' h2 h3 h5
theorem lwpl_app {P : Program} {w : World} {ops : Array Oper} {rest : List Oper} {o : Oper} {a : Act} {Q : Exit → Act → World → Prop} (hw : Region.wanted o (yielded ops a.tmps) = true) (s x : Operand) (t : TypeId)
    (ho : o.op = .call { callee := .builtin .append, args := #[s, x], argTypes := #[t, t] })
    (base : Nat) (e : TypeId) (i : TypeInfo) (z : Value) (size bytes : Nat) (ht : P.underlying t = some (.slice e)) (hi : P.info? e = some i) (hz : i.zero = some z)
    (hsize : i.size = size) (hby : i.bytes = bytes) (hzs : z.cells.size = size) (hsz : 0 < size)
    (v : Value) (n : Nat) (xs : List Value) (hs : a.eval s = v) (hown : w.ownsRow base e size v n xs)
    (vx : Value) (m : Nat) (ys : List Value) (hx : a.eval x = vx) (hsrc : Src w vx m size ys) (h1 : ∀ u ∈ ys, u.oneCell' = true)
    (h63 : n + m ≤ maxLen) (hbytes : (n + m) * bytes ≤ 140737488355328) (hbase : base ≤ w.heap.size)
    (h : ∀ v' w', w'.ownsRow base e size v' (n + m) (xs ++ ys) → w.grownBy w' v.ownBlock → (v'.ownBlock = v.ownBlock ∨ v'.ownBlock = some w.heap.size) → wpList P ops Q rest (a.put o.dst v') w') : wpList P ops Q (o :: rest) a w := by
  refine wpList_step fun K hK => ?_
  rw [if_pos hw]
  obtain ⟨p, c, e1, hl, hc⟩ := hsrc
  subst e1
  by_cases h0 : m = 0
  · subst h0
    have hy : ys = [] := List.length_eq_zero_iff.1 (by omega)
    subst hy
    cases p with
    | none =>
      have hx2 : a.eval x = .slice none 0 c := hx
      have hrun : (Builtin.append_ #[t, t] o.type #[v, .slice none 0 c]).run P w = .ok v w := by
        have := run_append_owned_none (P := P) (w := w) base t o.type e i size ht hi v n xs hown
        exact this
      unfold Oper.wp
      simp [execOp, ho, resolve, invoke, builtin, hs, hx2, hrun, Result.andThen]
      exact hK _ _ (h v w (by rw [List.append_nil]; exact hown) (grown_refl _ _) (Or.inl rfl))
    | some ad =>
      exact lwp_append_at s x t ho base e i z size bytes ht hi hz hsize hby hzs hsz v n xs hs hown ad 0 c [] hx (by simp) (fun j u hu => by simp at hu) h1 h63 hbytes hbase (fun v' w' h2 h3 h4 => hK _ _ (h v' w' h2 h3 h4))
  · obtain ⟨ad, e2, hcell⟩ := hc (by omega)
    subst e2
    exact lwp_append_at s x t ho base e i z size bytes ht hi hz hsize hby hzs hsz v n xs hs hown ad m c ys hx hl hcell h1 h63 hbytes hbase (fun v' w' h2 h3 h4 => hK _ _ (h v' w' h2 h3 h4))
theorem Tryz.linfoF : (Tryz.prog.info? 64).map (fun i => (i.zero, i.size, i.bytes)) = some (some (.agg #[.int .i64 0, .int .u8 0, .int .u16 0, .int .i64 0, .int .i64 0]), 5, 32) := by kernel_rfl
def FOwn (w : World) (base : Nat) (v : Value) (fs : List Fe) : Prop := feR.Own 64 w base v fs
set_option maxRecDepth 100000 in
set_option maxHeartbeats 4000000 in
theorem cloneF_any (v : Value) (fs : List Fe) (w : World) (h : feR.At w v fs) (hb : fs.length ≤ 2147483648) : Calls Tryz.prog 102 #[v] w fun e w' => ∃ v', e = .returned v' ∧ FOwn w' w.heap.size v' fs ∧ w.grownBy w' none := by
  obtain ⟨i0, hi, hz0, hz1, hz2⟩ := info_parts Tryz.linfoF
  have HS : Hid (Src w v fs.length 5 (feR.cs fs)) := h.src
  obtain ⟨p, c, rfl, hm, h⟩ := h
  have q22 : ∀ (w : World) (a : Option Addr) (n c n' c' : Nat), (binOp .eql 27 (.slice a n c) (.slice none n' c')).run Tryz.prog w = .ok (.bool a.isNone) w := fun w a n c n' c' => Lib.run_eql_slice_nil w _ _ a n c n' c' Tryz.underlying27
  cases p with
  | none =>
    have h0 : fs = [] := by
      refine List.length_eq_zero_iff.1 (Nat.eq_zero_of_not_pos fun q => ?_)
      obtain ⟨g, off, e, _⟩ := h q
      cases e
    subst h0
    clear h hm hb HS
    go_enter Tryz.func102, Tryz.ntmps102
    go_wp2
    go_ret
    exact ⟨_, rfl, RecT.Own.nil _ _ _ _, grown_refl _ _⟩
  | some ad =>
    obtain ⟨n, hn⟩ : ∃ n, n = fs.length := ⟨_, rfl⟩
    have HN : Hid (n = fs.length) := hn
    have HL : Hid (0 + n ≤ maxLen ∧ (0 + n) * 32 ≤ 140737488355328) := by show _ ∧ _; unfold maxLen; omega
    rw [← hn] at HS ⊢
    clear h hm hb hn
    go_enter Tryz.func102, Tryz.ntmps102
    go_wp2_with (at_builtin; refine lwpl_app (by rfl) (.tmp 5) (.tmp 6) 27 rfl w.heap.size 64 i0 _ 5 32 Tryz.underlying27 hi hz0 hz1 hz2 rfl (by decide) _ 0 [] rfl (World.ownsRow_made w #[] 0 (Nat.le_refl _) (Nat.zero_le _) (by simp)) _ n (feR.cs fs) rfl (HS.out.keep (World.grownBy_alloc _ _ none)) (feR.ones fs) HL.out.1 HL.out.2 (by rw [World.size_alloc]; omega) ?_; intro v3 w3 o3 g3 _; have HF : Hid (FOwn w3 w.heap.size v3 fs ∧ w.grownBy w3 none) := ⟨by unfold FOwn RecT.Own; rw [← HN.out]; rw [Nat.zero_add, List.nil_append] at o3; exact o3, grown_own (World.grownBy_alloc _ _ none) g3 (fun y e => by cases e; exact Nat.le_refl _)⟩; clear o3 g3)
    go_ret
    exact ⟨_, rfl, HF.out⟩
end Go.Proofs.YtmemeloehgemcaaGreat
