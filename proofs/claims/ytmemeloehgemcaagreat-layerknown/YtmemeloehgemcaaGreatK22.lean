/-
  Layers: the numbers of the rows that are picked out.
  append of what may be nil or not; slices.Clone of features.
-/
import Derived.Test.YtmemeloehgemcaaGreatLyC
import Derived.Maps.AppendAt
namespace Go.Proofs.YtmemeloehgemcaaGreat
open Go.RowKit

def numU (R : List Rw) (l : List Bool) (k : Nat) : List Int := (List.range k).filterMap fun i => if l.getD i false then some (R.getD i Rw.none).nu else none
def numL (R : List Rw) (l : List Bool) : List Int := numU R l R.length
theorem numU_yes {R : List Rw} {l : List Bool} {k : Nat} (h : l.getD k false = true) : numU R l (k + 1) = numU R l k ++ [(R.getD k Rw.none).nu] := by
  unfold numU
  rw [List.range_succ, List.filterMap_append, List.filterMap_cons, h]
  rfl
theorem numU_no {R : List Rw} {l : List Bool} {k : Nat} (h : l.getD k false = false) : numU R l (k + 1) = numU R l k := by
  unfold numU
  rw [List.range_succ, List.filterMap_append, List.filterMap_cons, h]
  simp
theorem numU_len (R : List Rw) (l : List Bool) (k : Nat) : (numU R l k).length ≤ k := by
  have := List.length_filterMap_le (fun i => if l.getD i false then some (R.getD i Rw.none).nu else none) (List.range k)
  rwa [List.length_range] at this
theorem lints_one (l : List Int) : ∀ u ∈ ints l, u.oneCell' = true := fun u h => by
  unfold ints at h
  obtain ⟨z, _, rfl⟩ := List.mem_map.1 h
  rfl
def LOwnI (w : World) (base : Nat) (v : Value) (l : List Int) : Prop := w.ownsRow base 3 1 v l.length (ints l)
theorem LOwnI.form {w : World} {base : Nat} {v : Value} {l : List Int} (h : LOwnI w base v l) : ∃ p c, v = .slice p l.length c := by
  obtain ⟨p, c, e, _⟩ := own_slice h
  exact ⟨p, c, e⟩
theorem lone_new (U : World) (x : Int) : ∀ j u, (ints [x])[j]? = some u → (U.alloc (.cells #[.int .i64 x] 3)).cell? ((⟨U.heap.size, 0, none⟩ : Addr).add j) = some u := fun j u hu => by
  rw [add_plain', Nat.zero_add, block_cell (alloc_at _ _ _)]
  simpa [ints] using hu
theorem lown_more {w' : World} {base n : Nat} {v : Value} {l : List Int} {x : Int} (h : w'.ownsRow base 3 1 v (n + 1) (ints l ++ ints [x])) (hn : n = l.length) : LOwnI w' base v (l ++ [x]) := by
  unfold LOwnI
  rw [List.length_append, List.length_singleton, show ints (l ++ [x]) = ints l ++ ints [x] from by simp [ints], ← hn]
  exact h
theorem Tryz.linfo3 : (Tryz.prog.info? 3).map (fun i => (i.zero, i.size, i.bytes)) = some (some (.int .i64 0), 1, 8) := by kernel_rfl
set_option maxRecDepth 100000 in
set_option maxHeartbeats 4000000 in
theorem lnumbers_any (vr vf : Value) (X : List Rv) (F : List Fe) (l : List Bool) (w : World) (T : TbAt w vr vf X F) (hl : l.length = X.length) : Calls Tryz.prog 52 #[tbv vr vf, smv l] w fun e' w' => ∃ v, e' = .returned v ∧ LOwnI w' w.heap.size v (numL (rws X) l) ∧ w.grownBy w' none := by
  obtain ⟨i0, hi, hz0, hz1, hz2⟩ := info_parts Tryz.linfo3
  obtain ⟨pr, cr, rfl⟩ := T.rows.form
  obtain ⟨pf, cf, rfl⟩ := T.fs.form
  obtain ⟨b0, b1, b2, b3, b4, b5, b6, b7, b8, b9, b10, b11, b12, b13, b14, b15, _, esm⟩ := sm16 (l := l) (by rw [hl]; exact T.few)
  have HE : Hid (smc l = #[.bool b0, .bool b1, .bool b2, .bool b3, .bool b4, .bool b5, .bool b6, .bool b7, .bool b8, .bool b9, .bool b10, .bool b11, .bool b12, .bool b13, .bool b14, .bool b15]) := esm
  obtain ⟨W1, hW1⟩ : ∃ W1, W1 = (w.alloc (.cells #[.slice pr X.length cr, .slice pf F.length cf] 118)).alloc (.cells #[.bool b0, .bool b1, .bool b2, .bool b3, .bool b4, .bool b5, .bool b6, .bool b7, .bool b8, .bool b9, .bool b10, .bool b11, .bool b12, .bool b13, .bool b14, .bool b15] 127) := ⟨_, rfl⟩
  have HG1 : Hid (w.grownBy W1 none) := by rw [hW1]; exact grown_push (World.grownBy_alloc _ _ none) _
  have HB : Hid (TbB W1 w.heap.size (.slice pr X.length cr) (.slice pf F.length cf)) := by rw [hW1]; exact grown_keep (World.grownBy_alloc _ _ none) (alloc_at w _ _) (by simp)
  have HP : Hid (W1.heap[w.heap.size + 1]? = some (.cells #[.bool b0, .bool b1, .bool b2, .bool b3, .bool b4, .bool b5, .bool b6, .bool b7, .bool b8, .bool b9, .bool b10, .bool b11, .bool b12, .bool b13, .bool b14, .bool b15] 127 (0, 0))) := by rw [hW1]; exact alloc2_b _ _ _ _
  have HT : Hid (TbAt w (.slice pr X.length cr) (.slice pf F.length cf) X F) := T
  have H16 : Hid (X.length ≤ 16) := T.few
  have HL : Hid (l.length = X.length) := hl
  unfold tbv smv
  rw [esm]
  clear T hl esm
  go_enter Tryz.func52, Tryz.ntmps52
  go_upto_region 2 with fail
  rw [← hW1]
  clear hW1
  obtain ⟨n0, h0⟩ : ∃ n0, n0 = w.heap.size := ⟨_, rfl⟩
  simp only [← h0] at HB HP ⊢
  obtain ⟨n1, h1⟩ : ∃ n1, n1 = n0 + 1 := ⟨_, rfl⟩
  simp only [← h1] at HP ⊢
  clear h1
  have Hn0 : Hid (n0 = w.heap.size) := h0
  clear h0
  obtain ⟨a0, a1⟩ := tb_box HB.out
  go_wp2_with fail
  clear a0 a1
  go_loopw [5, 6, 7, 11] (fun v _ _ i wr => ∃ k : Nat, k ≤ X.length ∧ i = .int .i64 (k : Int) ∧ LOwnI wr W1.heap.size v (numU (rws X) l k) ∧ W1.grownBy wr none) (fun _ _ _ i _ => X.length - (intOf i).toNat)
  case atStart => exact ⟨0, Nat.zero_le _, rfl, ⟨by simp [numU, ints], Or.inl ⟨rfl, rfl⟩⟩, grown_refl _ _⟩
  case round =>
    obtain ⟨k, hk, rfl, O, G⟩ := hrel
    obtain ⟨U, hU⟩ : ∃ U, U = wr := ⟨_, rfl⟩
    subst hU
    obtain ⟨q, cq, rfl⟩ := O.form
    have HG : Hid (W1.grownBy U none) := G
    have HGw : Hid (w.grownBy U none) := grown_trans HG1.out G
    by_cases hlt : k < X.length
    · obtain ⟨g, off, cap, e1, R⟩ := (HT.out.keep HGw.out).row hlt
      injection e1 with e1 _ _
      subst e1
      obtain ⟨x, hx⟩ : ∃ x, x = X[k] := ⟨_, rfl⟩
      rw [← hx] at R
      obtain ⟨c0, c1, c2, c3, c4, c5, c6, c7, c8, c9, c10⟩ := rv_cells R
      have en : ((rws X).getD k Rw.none).nu = x.r.nu := by rw [rws_get hlt, ← hx]
      have hkl : k < l.length := by rw [HL.out]; exact hlt
      have HP2 := grown_keep HG.out HP.out (by simp)
      obtain ⟨b, hb⟩ : ∃ b, b = l.getD k false := ⟨_, rfl⟩
      have hb' : l[k]? = some b := by rw [hb, List.getD_eq_getElem?_getD, List.getElem?_eq_getElem hkl]; rfl
      have y0 : U.cell? ⟨n1, k, none⟩ = some (.bool b) := by rw [block_cell HP2, ← HE.out]; exact smc_at hb'
      have hwk : wrap64 ((k : Int) + 1) = (k : Int) + 1 := by unfold wrap64; have := H16.out; omega
      have HO : Hid (U.ownsRow W1.heap.size 3 1 (.slice q (numU (rws X) l k).length cq) (numU (rws X) l k).length (ints (numU (rws X) l k))) := O
      have hlen := numU_len (rws X) l k
      have hyes : b = true → numU (rws X) l (k + 1) = numU (rws X) l k ++ [x.r.nu] := fun q => by rw [numU_yes (hb ▸ q), en]
      have hno : b = false → numU (rws X) l (k + 1) = numU (rws X) l k := fun q => numU_no (hb ▸ q)
      obtain ⟨L, hL⟩ : ∃ L, L = numU (rws X) l k := ⟨_, rfl⟩
      rw [← hL] at HO hlen hyes hno ⊢
      obtain ⟨n, hn⟩ : ∃ n, n = L.length := ⟨_, rfl⟩
      rw [← hn] at HO hlen ⊢
      have HN : Hid (n = L.length) := hn
      have hlt' : (k : Int) < X.length := by omega
      have hk16 : (k : Int) < 16 := by have := H16.out; omega
      have HLn : Hid (n + 1 ≤ maxLen ∧ (n + 1) * 8 ≤ 140737488355328) := by show _ ∧ _; unfold maxLen; have := H16.out; omega
      have HPk : Hid (k + 1 ≤ X.length) := hlt
      have HM : Hid (X.length - (intOf (.int .i64 ((k : Int) + 1))).toNat < X.length - (intOf (.int .i64 (k : Int))).toNat) := meas_k hlt
      have c10' : U.cell? ⟨g, off + k * 11 + 10, none⟩ = some (.slice x.pa x.r.ps.length x.ca) := c10
      obtain ⟨V, hV⟩ : ∃ V, V = U.alloc (.cells #[.int .i64 x.r.nu, .int .i64 x.r.st, .string x.r.h.nm, .int .u8 x.r.h.su, .int .u8 x.r.h.kd, .int .i64 x.r.h.co, .int .i64 x.r.h.po, .int .i64 x.r.h.he, .int .u16 x.r.h.tr, .bool x.r.h.tk, x.u] 174) := ⟨_, rfl⟩
      have HGV : Hid (U.grownBy V none) := by rw [hV]; exact World.grownBy_alloc _ _ none
      have HOV : Hid (V.ownsRow W1.heap.size 3 1 (.slice q n cq) n (ints L)) := own_grow HO.out HGV.out
      have y1 : V.cell? ⟨n1, k, none⟩ = some (.bool b) := HGV.out.cell y0 (by simp)
      have z0 : V.cell? ⟨U.heap.size, 0, none⟩ = some (.int .i64 x.r.nu) := by rw [hV]; exact (block_cell (alloc_at _ _ _) 0).trans rfl
      clear R O G hx en hkl HP2 hb hb' hL hn hlen hk hlt c10 y0
      unfold Rv.u at hV
      go_upto_region 5 with fail
      rw [← hV]
      clear hV c0 c1 c2 c3 c4 c5 c6 c7 c8 c9 c10'
      cases b with
      | true =>
        have HY : Hid (numU (rws X) l (k + 1) = L ++ [x.r.nu]) := hyes rfl
        clear hyes hno
        go_wp2_with (first | (at_builtin; refine wpList_append_own _ rfl (.tmp 19) (.tmp 22) 51 rfl W1.heap.size 3 i0 _ 1 8 Tryz.underlying51 hi hz0 hz1 hz2 rfl (by decide) _ n (ints L) rfl (World.ownsRow.alloc HOV.out _) ⟨V.heap.size, 0, none⟩ 1 1 (ints [x.r.nu]) rfl rfl (lone_new _ _) (lints_one _) HLn.out.1 (by have := HLn.out.2; omega) (by rw [World.size_alloc]; have := HG.out.size; have := HGV.out.size; omega) ?_; intro v3 w3 o3 g3 _; have HO3 : Hid (LOwnI w3 W1.heap.size v3 (L ++ [x.r.nu])) := lown_more o3 HN.out; have HG3 : Hid (W1.grownBy w3 none) := grown_own (grown_push (grown_trans HG.out HGV.out) _) g3 (fun y e => (World.ownsRow.lt HO.out y e).1); clear o3 g3) | fail)
        go_roundw
        case rel => exact ⟨_, _, _, _, ⟨k + 1, HPk.out, rfl, by rw [HY.out]; exact HO3.out, HG3.out⟩, rfl, rfl, rfl, rfl⟩
        case measure => first | exact HM.out | (rw [hwk]; exact HM.out)
      | false =>
        have HY : Hid (numU (rws X) l (k + 1) = L) := hno rfl
        clear hyes hno
        go_wp2
        go_roundw
        case rel => exact ⟨k + 1, HPk.out, by first | rfl | (rw [hwk]; rfl) | go_num, by rw [HY.out]; unfold LOwnI; rw [← HN.out]; exact HOV.out, grown_trans HG.out HGV.out⟩
        case measure => first | exact HM.out | (rw [hwk]; exact HM.out)
    · obtain rfl : k = X.length := by omega
      have HF : Hid (LOwnI U w.heap.size (.slice q (numU (rws X) l X.length).length cq) (numL (rws X) l) ∧ w.grownBy U none) := ⟨by unfold numL; rw [rws_len]; exact own_big O HG1.out.size, HGw.out⟩
      clear O G
      go_wp2
      go_ret
      exact ⟨_, rfl, HF.out⟩
end Go.Proofs.YtmemeloehgemcaaGreat
namespace Go.Proofs.YtmemeloehgemcaaGreat
open Go.RowKit

theorem lwp_append_at {P : Program} {w : World} {o : Oper} {a : Act} {K : Act → World → Prop} {Q : Exit → Act → World → Prop} (s x : Operand) (t : TypeId)
    (ho : o.op = .call { callee := .builtin .append, args := #[s, x], argTypes := #[t, t] })
    (base : Nat) (e : TypeId) (i : TypeInfo) (z : Value) (size bytes : Nat) (ht : P.underlying t = some (.slice e)) (hi : P.info? e = some i) (hz : i.zero = some z)
    (hsize : i.size = size) (hby : i.bytes = bytes) (hzs : z.cells.size = size) (hsz : 0 < size)
    (v : Value) (n : Nat) (xs : List Value) (hs : a.eval s = v) (hown : w.ownsRow base e size v n xs)
    (ad : Addr) (m c : Nat) (news : List Value) (hx : a.eval x = .slice (some ad) m c) (hl : news.length = m * size) (hnews : ∀ j u, news[j]? = some u → w.cell? (ad.add j) = some u) (h1 : ∀ u ∈ news, u.oneCell' = true)
    (h63 : n + m ≤ maxLen) (hbytes : (n + m) * bytes ≤ 140737488355328) (hbase : base ≤ w.heap.size)
    (h : ∀ v' w', w'.ownsRow base e size v' (n + m) (xs ++ news) → w.grownBy w' v.ownBlock → (v'.ownBlock = v.ownBlock ∨ v'.ownBlock = some w.heap.size) → K (a.put o.dst v') w') : Oper.wp P o a w K Q := by
  obtain ⟨v', w', hr, h2, h3, _, h5⟩ := run_append_own_at (P := P) w base t o.type e i z size bytes ht hi hz hsize hby hzs hsz v n xs hown ad m c news hl hnews h1 h63 hbytes hbase
  unfold Oper.wp execOp
  simp only [ho, resolve, invoke, builtin, Sem.run_bind, Sem.run_pure, Result.andThen_ok, List.map_toArray, List.map_cons, List.map_nil, hs, hx, hr]
  exact h v' w' h2 h3 h5
theorem lwpl_app {P : Program} {w : World} {ops : Array Oper} {rest : List Oper} {o : Oper} {a : Act} {Q : Exit → Act → World → Prop} (hw : Region.wanted o (yielded ops a.tmps) = true) (s x : Operand) (t : TypeId)
    (ho : o.op = .call { callee := .builtin .append, args := #[s, x], argTypes := #[t, t] })
    (base : Nat) (e : TypeId) (i : TypeInfo) (z : Value) (size bytes : Nat) (ht : P.underlying t = some (.slice e)) (hi : P.info? e = some i) (hz : i.zero = some z)
    (hsize : i.size = size) (hby : i.bytes = bytes) (hzs : z.cells.size = size) (hsz : 0 < size)
    (v : Value) (n : Nat) (xs : List Value) (hs : a.eval s = v) (hown : w.ownsRow base e size v n xs)
    (vx : Value) (m : Nat) (ys : List Value) (hx : a.eval x = vx) (hsrc : Src w vx m size ys) (h1 : ∀ u ∈ ys, u.oneCell' = true)
    (h63 : n + m ≤ maxLen) (hbytes : (n + m) * bytes ≤ 140737488355328) (hbase : base ≤ w.heap.size)
    (h : ∀ v' w', w'.ownsRow base e size v' (n + m) (xs ++ ys) → w.grownBy w' v.ownBlock → (v'.ownBlock = v.ownBlock ∨ v'.ownBlock = some w.heap.size) → wpList P ops Q rest (a.put o.dst v') w') : wpList P ops Q (o :: rest) a w := by
  refine wpList_step fun K hK => ?_
  rw [if_pos hw]
  obtain ⟨p, c, e1, hl, hc⟩ := hsrc
  subst e1
  by_cases h0 : m = 0
  · subst h0
    have hy : ys = [] := List.length_eq_zero_iff.1 (by omega)
    subst hy
    cases p with
    | none =>
      have hx2 : a.eval x = .slice none 0 c := hx
      have hrun : (Builtin.append_ #[t, t] o.type #[v, .slice none 0 c]).run P w = .ok v w := by
        have := run_append_owned_none (P := P) (w := w) base t o.type e i size ht hi v n xs hown
        exact this
      unfold Oper.wp
      simp [execOp, ho, resolve, invoke, builtin, hs, hx2, hrun, Result.andThen]
      exact hK _ _ (h v w (by rw [List.append_nil]; exact hown) (grown_refl _ _) (Or.inl rfl))
    | some ad =>
      exact lwp_append_at s x t ho base e i z size bytes ht hi hz hsize hby hzs hsz v n xs hs hown ad 0 c [] hx (by simp) (fun j u hu => by simp at hu) h1 h63 hbytes hbase (fun v' w' h2 h3 h4 => hK _ _ (h v' w' h2 h3 h4))
  · obtain ⟨ad, e2, hcell⟩ := hc (by omega)
    subst e2
    exact lwp_append_at s x t ho base e i z size bytes ht hi hz hsize hby hzs hsz v n xs hs hown ad m c ys hx hl hcell h1 h63 hbytes hbase (fun v' w' h2 h3 h4 => hK _ _ (h v' w' h2 h3 h4))
theorem Tryz.linfoF : (Tryz.prog.info? 64).map (fun i => (i.zero, i.size, i.bytes)) = some (some (.agg #[.int .i64 0, .int .u8 0, .int .u16 0, .int .i64 0, .int .i64 0]), 5, 32) := by kernel_rfl
def FOwn (w : World) (base : Nat) (v : Value) (fs : List Fe) : Prop := feR.Own 64 w base v fs
set_option maxRecDepth 100000 in
set_option maxHeartbeats 4000000 in
theorem cloneF_any (v : Value) (fs : List Fe) (w : World) (h : feR.At w v fs) (hb : fs.length ≤ 2147483648) : Calls Tryz.prog 102 #[v] w fun e w' => ∃ v', e = .returned v' ∧ FOwn w' w.heap.size v' fs ∧ w.grownBy w' none := by
  obtain ⟨i0, hi, hz0, hz1, hz2⟩ := info_parts Tryz.linfoF
  have HS : Hid (Src w v fs.length 5 (feR.cs fs)) := h.src
  obtain ⟨p, c, rfl, hm, h⟩ := h
  have q22 : ∀ (w : World) (a : Option Addr) (n c n' c' : Nat), (binOp .eql 27 (.slice a n c) (.slice none n' c')).run Tryz.prog w = .ok (.bool a.isNone) w := fun w a n c n' c' => Lib.run_eql_slice_nil w _ _ a n c n' c' Tryz.underlying27
  cases p with
  | none =>
    have h0 : fs = [] := by
      refine List.length_eq_zero_iff.1 (Nat.eq_zero_of_not_pos fun q => ?_)
      obtain ⟨g, off, e, _⟩ := h q
      cases e
    subst h0
    clear h hm hb HS
    go_enter Tryz.func102, Tryz.ntmps102
    go_wp2
    go_ret
    exact ⟨_, rfl, RecT.Own.nil _ _ _ _, grown_refl _ _⟩
  | some ad =>
    obtain ⟨n, hn⟩ : ∃ n, n = fs.length := ⟨_, rfl⟩
    have HN : Hid (n = fs.length) := hn
    have HL : Hid (0 + n ≤ maxLen ∧ (0 + n) * 32 ≤ 140737488355328) := by show _ ∧ _; unfold maxLen; omega
    rw [← hn] at HS ⊢
    clear h hm hb hn
    go_enter Tryz.func102, Tryz.ntmps102
    go_wp2_with (at_builtin; refine lwpl_app (by rfl) (.tmp 5) (.tmp 6) 27 rfl w.heap.size 64 i0 _ 5 32 Tryz.underlying27 hi hz0 hz1 hz2 rfl (by decide) _ 0 [] rfl (World.ownsRow_made w #[] 0 (Nat.le_refl _) (Nat.zero_le _) (by simp)) _ n (feR.cs fs) rfl (HS.out.keep (World.grownBy_alloc _ _ none)) (feR.ones fs) HL.out.1 HL.out.2 (by rw [World.size_alloc]; omega) ?_; intro v3 w3 o3 g3 _; have HF : Hid (FOwn w3 w.heap.size v3 fs ∧ w.grownBy w3 none) := ⟨by unfold FOwn RecT.Own; rw [← HN.out]; rw [Nat.zero_add, List.nil_append] at o3; exact o3, grown_own (World.grownBy_alloc _ _ none) g3 (fun y e => by cases e; exact Nat.le_refl _)⟩; clear o3 g3)
    go_ret
    exact ⟨_, rfl, HF.out⟩
end Go.Proofs.YtmemeloehgemcaaGreat
