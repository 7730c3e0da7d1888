/-
  Layers: whom an effect is about.
  Layers: what a part that stands makes of features.
  Layers: the things that an effect is about: the program's about, numbers.
  Layers: the numbers of the rows that are picked out.
  append of what may be nil or not; slices.Clone of features.
  Layers: an effect applied: the program's apply.
  Layers: which effect depends on which.
  Layers: which effect comes next.
  Layers: the features of all things, with those of the table among them.
-/
import Derived.Test.YthfjgpjcepmnmaaGreatS13
import Derived.Test.YthfjgpjcepmnmaaGreatS12
import Derived.Maps.AppendAt
import Derived.Laws.Tables
import Derived.Laws.StructEq
import Derived.WalkMore
namespace Go.Proofs.YthfjgpjcepmnmaaGreat
open Go.RowKit

theorem ret_bb {a b : Bool} (h : a = b) : Ending.returned (.bool a) = Ending.returned (.bool b) := by rw [h]
theorem grown_set7 {a b : World} {c : Nat} (h : a.grownBy b none) (hc : a.heap.size ≤ c) (v0 v1 v2 v3 v4 v5 v6 : Value) : a.grownBy (((((((b.setCell ⟨c, 0, none⟩ v0).setCell ⟨c, 1, none⟩ v1).setCell ⟨c, 2, none⟩ v2).setCell ⟨c, 3, none⟩ v3).setCell ⟨c, 4, none⟩ v4).setCell ⟨c, 5, none⟩ v5).setCell ⟨c, 6, none⟩ v6) none := grown_own h (((((((grown_set _ _ _ _).trans (grown_set _ _ _ _)).trans (grown_set _ _ _ _)).trans (grown_set _ _ _ _)).trans (grown_set _ _ _ _)).trans (grown_set _ _ _ _)).trans (grown_set _ _ _ _)) (fun y e => by cases e; exact hc)
theorem beq_dec (a b : Int) : (a == b) = decide (a = b) := by rw [Bool.eq_iff_iff]; simp
theorem bne_dec (a b : Int) : (a != b) = !decide (a = b) := by rw [Bool.eq_iff_iff]; simp
def cdv (f : Fe) (u o : Bool) : Value := .agg #[.int .i64 f.ho, .int .u8 f.su, .int .u16 f.tr, .int .i64 f.po, .int .i64 f.he, .bool u, .bool o]
def CdB (w : World) (g : Nat) (f : Fe) (u o : Bool) : Prop := w.heap[g]? = some (.cells #[.int .i64 f.ho, .int .u8 f.su, .int .u16 f.tr, .int .i64 f.po, .int .i64 f.he, .bool u, .bool o] 283 (0, 0))
theorem cd_box {w : World} {g : Nat} {f : Fe} {u o : Bool} (h : CdB w g f u o) : w.cell? ⟨g, 0, none⟩ = some (.int .i64 f.ho) ∧ w.cell? ⟨g, 1, none⟩ = some (.int .u8 f.su) ∧ w.cell? ⟨g, 2, none⟩ = some (.int .u16 f.tr) ∧ w.cell? ⟨g, 3, none⟩ = some (.int .i64 f.po) ∧ w.cell? ⟨g, 4, none⟩ = some (.int .i64 f.he) ∧ w.cell? ⟨g, 5, none⟩ = some (.bool u) ∧ w.cell? ⟨g, 6, none⟩ = some (.bool o) :=
  ⟨(block_cell h 0).trans rfl, (block_cell h 1).trans rfl, (block_cell h 2).trans rfl, (block_cell h 3).trans rfl, (block_cell h 4).trans rfl, (block_cell h 5).trans rfl, (block_cell h 6).trans rfl⟩
def PqB (w : World) (n : Nat) (p : Pt) : Prop := w.heap[n]? = some (.cells #[.int .u8 p.wn, .int .u8 p.vb, .int .u8 p.wm, .int .i64 p.ct, .int .u8 p.su, .int .u8 p.tr, .int .u8 p.mr, .string p.nm] 38 (0, 0))
theorem pq_box {w : World} {g : Nat} {p : Pt} (h : PqB w g p) : w.cell? ⟨g, 0, none⟩ = some (.int .u8 p.wn) ∧ w.cell? ⟨g, 1, none⟩ = some (.int .u8 p.vb) ∧ w.cell? ⟨g, 2, none⟩ = some (.int .u8 p.wm) ∧ w.cell? ⟨g, 3, none⟩ = some (.int .i64 p.ct) ∧ w.cell? ⟨g, 4, none⟩ = some (.int .u8 p.su) ∧ w.cell? ⟨g, 5, none⟩ = some (.int .u8 p.tr) ∧ w.cell? ⟨g, 6, none⟩ = some (.int .u8 p.mr) ∧ w.cell? ⟨g, 7, none⟩ = some (.string p.nm) :=
  ⟨(block_cell h 0).trans rfl, (block_cell h 1).trans rfl, (block_cell h 2).trans rfl, (block_cell h 3).trans rfl, (block_cell h 4).trans rfl, (block_cell h 5).trans rfl, (block_cell h 6).trans rfl, (block_cell h 7).trans rfl⟩
set_option maxRecDepth 100000 in
set_option maxHeartbeats 4000000 in
theorem isUnit_any (p : Pt) (ho : Int) (f : Fe) (u o : Bool) (w : World) : Calls Tryz.prog 272 #[pv p, .int .i64 ho, cdv f u o] w fun e w' => e = .returned (.bool (othU p o f ho)) ∧ w.grownBy w' none := by
  obtain ⟨W1, hW1⟩ : ∃ W1, W1 = (w.alloc (.cells #[.int .u8 p.wn, .int .u8 p.vb, .int .u8 p.wm, .int .i64 p.ct, .int .u8 p.su, .int .u8 p.tr, .int .u8 p.mr, .string p.nm] 38)).alloc (.cells #[.int .i64 f.ho, .int .u8 f.su, .int .u16 f.tr, .int .i64 f.po, .int .i64 f.he, .bool u, .bool o] 283) := ⟨_, rfl⟩
  have HG1 : Hid (w.grownBy W1 none) := by rw [hW1]; exact grown_push (World.grownBy_alloc _ _ none) _
  have HP : Hid (PqB W1 w.heap.size p) := by rw [hW1]; exact grown_keep (World.grownBy_alloc _ _ none) (alloc_at w _ _) (by simp)
  have HC : Hid (CdB W1 (w.heap.size + 1) f u o) := by rw [hW1]; exact alloc2_b _ _ _ _
  unfold pv cdv
  go_enter Tryz.func272, Tryz.ntmps272
  go_upto_region 1 with fail
  rw [← hW1]
  clear hW1
  obtain ⟨n0, h0⟩ : ∃ n0, n0 = w.heap.size := ⟨_, rfl⟩
  simp only [← h0] at HP HC ⊢
  obtain ⟨n1, h1⟩ : ∃ n1, n1 = n0 + 1 := ⟨_, rfl⟩
  simp only [← h1] at HC ⊢
  clear h0 h1
  obtain ⟨p0, p1, u4, p3, u6, u7, p6, p7⟩ := pq_box HP.out
  obtain ⟨q0, q1, q2, q3, q4, q5, q6⟩ := cd_box HC.out
  clear p0 p1 p3 p6 p7 q3 q4 q5
  by_cases d5 : p.wm = 5
  · have HY : Hid (othU p o f ho = (f.ho == ho)) := by show _ = _; unfold othU; rw [if_pos d5]; rw [beq_dec]
    rw [d5] at u4
    clear d5
    go_wp2
    go_ret
    exact ⟨ret_bb HY.out.symm, HG1.out⟩
  by_cases d8 : p.wm = 8
  · cases ho1 : (f.ho == ho) with
    | true =>
      have hb : f.ho = ho := by simpa using ho1
      have HY : Hid (othU p o f ho = (!o)) := by show _ = _; unfold othU; rw [if_neg d5, if_pos d8]; simp [hb]
      rw [d8] at u4
      clear hb d5 d8
      go_wp2
      go_ret
      exact ⟨ret_bb HY.out.symm, HG1.out⟩
    | false =>
      have hb : ¬ f.ho = ho := by simpa using ho1
      have HY : Hid (othU p o f ho = false) := by show _ = _; unfold othU; rw [if_neg d5, if_pos d8]; simp [hb]
      rw [d8] at u4
      clear hb d5 d8
      go_wp2
      go_ret
      exact ⟨ret_bb HY.out.symm, HG1.out⟩
  by_cases d6 : p.wm = 6
  · have HY : Hid (othU p o f ho = (f.ho != ho)) := by show _ = _; unfold othU; rw [if_neg d5, if_neg d8, if_pos d6]; rw [bne_dec]
    rw [d6] at u4
    clear d5 d8 d6
    go_wp2
    go_ret
    exact ⟨ret_bb HY.out.symm, HG1.out⟩
  by_cases d7 : p.wm = 7
  · have HY : Hid (othU p o f ho = true) := by show _ = _; unfold othU; rw [if_neg d5, if_neg d8, if_neg d6, if_pos d7]
    rw [d7] at u4
    clear d5 d8 d6 d7
    go_wp2
    go_ret
    exact ⟨ret_bb HY.out.symm, HG1.out⟩
  by_cases d9 : p.wm = 9
  · have HY : Hid (othU p o f ho = (f.su == p.su)) := by show _ = _; unfold othU; rw [if_neg d5, if_neg d8, if_neg d6, if_neg d7, if_pos d9]; rw [beq_dec]
    rw [d9] at u4
    clear d5 d8 d6 d7 d9
    go_wp2
    go_ret
    exact ⟨ret_bb HY.out.symm, HG1.out⟩
  by_cases d10 : p.wm = 10
  · have HY : Hid (othU p o f ho = (tHas f.tr p.tr)) := by show _ = _; unfold othU; rw [if_neg d5, if_neg d8, if_neg d6, if_neg d7, if_neg d9, if_pos d10]
    rw [d10] at u4
    clear d5 d8 d6 d7 d9 d10
    go_wp2_with (go_at_call 129; refine (has_any _ _ _).mono ?_; rintro e3 w3 ⟨rfl, rfl⟩)
    go_ret
    exact ⟨ret_bb HY.out.symm, HG1.out⟩
  have HY : Hid (othU p o f ho = false) := by show _ = _; unfold othU; rw [if_neg d5, if_neg d8, if_neg d6, if_neg d7, if_neg d9, if_neg d10]
  have k5 : (p.wm == 5) = false := by simpa using d5
  have k8 : (p.wm == 8) = false := by simpa using d8
  have k6 : (p.wm == 6) = false := by simpa using d6
  have k7 : (p.wm == 7) = false := by simpa using d7
  have k9 : (p.wm == 9) = false := by simpa using d9
  have k10 : (p.wm == 10) = false := by simpa using d10
  clear d5 d8 d6 d7 d9 d10
  go_wp2
  go_ret
  exact ⟨ret_bb HY.out.symm, HG1.out⟩
set_option maxRecDepth 100000 in
set_option maxHeartbeats 4000000 in
theorem whomIs_any (p : Pt) (ho : Int) (f : Fe) (u o : Bool) (w : World) : Calls Tryz.prog 214 #[pv p, .int .i64 ho, cdv f u o] w fun e w' => e = .returned (.bool (meantU p o u f ho)) ∧ w.grownBy w' none := by
  have hU := fun W => isUnit_any p ho f u o W
  obtain ⟨W1, hW1⟩ : ∃ W1, W1 = (w.alloc (.cells #[.int .u8 p.wn, .int .u8 p.vb, .int .u8 p.wm, .int .i64 p.ct, .int .u8 p.su, .int .u8 p.tr, .int .u8 p.mr, .string p.nm] 38)).alloc (.cells #[.int .i64 f.ho, .int .u8 f.su, .int .u16 f.tr, .int .i64 f.po, .int .i64 f.he, .bool u, .bool o] 283) := ⟨_, rfl⟩
  have HG1 : Hid (w.grownBy W1 none) := by rw [hW1]; exact grown_push (World.grownBy_alloc _ _ none) _
  have HP : Hid (PqB W1 w.heap.size p) := by rw [hW1]; exact grown_keep (World.grownBy_alloc _ _ none) (alloc_at w _ _) (by simp)
  have HC : Hid (CdB W1 (w.heap.size + 1) f u o) := by rw [hW1]; exact alloc2_b _ _ _ _
  unfold pv cdv
  go_enter Tryz.func214, Tryz.ntmps214
  go_upto_region 1 with fail
  rw [← hW1]
  clear hW1
  obtain ⟨n0, h0⟩ : ∃ n0, n0 = w.heap.size := ⟨_, rfl⟩
  simp only [← h0] at HP HC ⊢
  obtain ⟨n1, h1⟩ : ∃ n1, n1 = n0 + 1 := ⟨_, rfl⟩
  simp only [← h1] at HC ⊢
  clear h0 h1
  unfold pv cdv at hU
  obtain ⟨p0, p1, u4, p3, u6, u7, p6, p7⟩ := pq_box HP.out
  obtain ⟨q0, q1, q2, q3, q4, q5, q6⟩ := cd_box HC.out
  by_cases d4 : p.wm = 4
  · have HY : Hid (meantU p o u f ho = o) := by show _ = _; unfold meantU; rw [if_pos d4]
    rw [d4] at u4
    clear d4 hU
    go_wp2
    go_ret
    exact ⟨ret_bb HY.out.symm, HG1.out⟩
  have k4 : (p.wm == 4) = false := by simpa using d4
  cases u with
  | false =>
    have HY : Hid (meantU p o false f ho = false) := by show _ = _; unfold meantU; rw [if_neg d4, if_pos rfl]
    clear d4 hU
    go_wp2
    go_ret
    exact ⟨ret_bb HY.out.symm, HG1.out⟩
  | true =>
    have HY : Hid (meantU p o true f ho = othU p o f ho) := meantU_oth d4
    clear d4
    go_wp2_with (go_at_call 272; refine (hU _).mono ?_; rintro e3 w3 ⟨rfl, g3⟩; have HG3 : Hid (W1.grownBy w3 none) := g3)
    go_ret
    exact ⟨ret_bb HY.out.symm, grown_trans HG1.out HG3.out⟩
end Go.Proofs.YthfjgpjcepmnmaaGreat
namespace Go.Proofs.YthfjgpjcepmnmaaGreat
open Go.RowKit

theorem alloc3_b (w : World) (o p : Obj) (cs : Array Value) (t : TypeId) : (((w.alloc o).alloc p).alloc (.cells cs t)).heap[w.heap.size + 1 + 1]? = some (.cells cs t (0, 0)) := by have := alloc_at ((w.alloc o).alloc p) cs t; rwa [World.size_alloc, World.size_alloc] at this
theorem grown_set2 {a b : World} {c : Nat} (h : a.grownBy b none) (hc : a.heap.size ≤ c) (i : Nat) (v : Value) : a.grownBy (b.setCell ⟨c, i, none⟩ v) none := grown_own h (grown_set _ _ _ _) (fun y e => by cases e; exact hc)
end Go.Proofs.YthfjgpjcepmnmaaGreat
namespace Go.Proofs.YthfjgpjcepmnmaaGreat
open Go.RowKit

theorem meas_k {n k : Nat} (h : k < n) : n - (intOf (.int .i64 ((k : Int) + 1))).toNat < n - (intOf (.int .i64 (k : Int))).toNat := by
  show n - ((k : Int) + 1).toNat < n - (k : Int).toNat
  omega
end Go.Proofs.YthfjgpjcepmnmaaGreat
namespace Go.Proofs.YthfjgpjcepmnmaaGreat
open Go.RowKit

def numU (R : List Rw) (l : List Bool) (k : Nat) : List Int := (List.range k).filterMap fun i => if l.getD i false then some (R.getD i Rw.none).nu else none
def numL (R : List Rw) (l : List Bool) : List Int := numU R l R.length
theorem lints_one (l : List Int) : ∀ u ∈ ints l, u.oneCell' = true := fun u h => by
  unfold ints at h
  obtain ⟨z, _, rfl⟩ := List.mem_map.1 h
  rfl
def LOwnI (w : World) (base : Nat) (v : Value) (l : List Int) : Prop := w.ownsRow base 3 1 v l.length (ints l)
theorem LOwnI.form {w : World} {base : Nat} {v : Value} {l : List Int} (h : LOwnI w base v l) : ∃ p c, v = .slice p l.length c := by
  obtain ⟨p, c, e, _⟩ := own_slice h
  exact ⟨p, c, e⟩
theorem lone_new (U : World) (x : Int) : ∀ j u, (ints [x])[j]? = some u → (U.alloc (.cells #[.int .i64 x] 3)).cell? ((⟨U.heap.size, 0, none⟩ : Addr).add j) = some u := fun j u hu => by
  rw [add_plain', Nat.zero_add, block_cell (alloc_at _ _ _)]
  simpa [ints] using hu
theorem lown_more {w' : World} {base n : Nat} {v : Value} {l : List Int} {x : Int} (h : w'.ownsRow base 3 1 v (n + 1) (ints l ++ ints [x])) (hn : n = l.length) : LOwnI w' base v (l ++ [x]) := by
  unfold LOwnI
  rw [List.length_append, List.length_singleton, show ints (l ++ [x]) = ints l ++ ints [x] from by simp [ints], ← hn]
  exact h
theorem Tryz.linfo3 : (Tryz.prog.info? 3).map (fun i => (i.zero, i.size, i.bytes)) = some (some (.int .i64 0), 1, 8) := by kernel_rfl
end Go.Proofs.YthfjgpjcepmnmaaGreat
namespace Go.Proofs.YthfjgpjcepmnmaaGreat
open Go.RowKit

theorem lwp_append_at {P : Program} {w : World} {o : Oper} {a : Act} {K : Act → World → Prop} {Q : Exit → Act → World → Prop} (s x : Operand) (t : TypeId)
    (ho : o.op = .call { callee := .builtin .append, args := #[s, x], argTypes := #[t, t] })
    (base : Nat) (e : TypeId) (i : TypeInfo) (z : Value) (size bytes : Nat) (ht : P.underlying t = some (.slice e)) (hi : P.info? e = some i) (hz : i.zero = some z)
    (hsize : i.size = size) (hby : i.bytes = bytes) (hzs : z.cells.size = size) (hsz : 0 < size)
    (v : Value) (n : Nat) (xs : List Value) (hs : a.eval s = v) (hown : w.ownsRow base e size v n xs)
    (ad : Addr) (m c : Nat) (news : List Value) (hx : a.eval x = .slice (some ad) m c) (hl : news.length = m * size) (hnews : ∀ j u, news[j]? = some u → w.cell? (ad.add j) = some u) (h1 : ∀ u ∈ news, u.oneCell' = true)
    (h63 : n + m ≤ maxLen) (hbytes : (n + m) * bytes ≤ 140737488355328) (hbase : base ≤ w.heap.size)
    (h : ∀ v' w', w'.ownsRow base e size v' (n + m) (xs ++ news) → w.grownBy w' v.ownBlock → (v'.ownBlock = v.ownBlock ∨ v'.ownBlock = some w.heap.size) → K (a.put o.dst v') w') : Oper.wp P o a w K Q := by
  obtain ⟨v', w', hr, h2, h3, _, h5⟩ := run_append_own_at (P := P) w base t o.type e i z size bytes ht hi hz hsize hby hzs hsz v n xs hown ad m c news hl hnews h1 h63 hbytes hbase
  unfold Oper.wp execOp
  simp only [ho, resolve, invoke, builtin, Sem.run_bind, Sem.run_pure, Result.andThen_ok, List.map_toArray, List.map_cons, List.map_nil, hs, hx, hr]
  exact h v' w' h2 h3 h5
theorem lwpl_app {P : Program} {w : World} {ops : Array Oper} {rest : List Oper} {o : Oper} {a : Act} {Q : Exit → Act → World → Prop} (hw : Region.wanted o (yielded ops a.tmps) = true) (s x : Operand) (t : TypeId)
    (ho : o.op = .call { callee := .builtin .append, args := #[s, x], argTypes := #[t, t] })
    (base : Nat) (e : TypeId) (i : TypeInfo) (z : Value) (size bytes : Nat) (ht : P.underlying t = some (.slice e)) (hi : P.info? e = some i) (hz : i.zero = some z)
    (hsize : i.size = size) (hby : i.bytes = bytes) (hzs : z.cells.size = size) (hsz : 0 < size)
    (v : Value) (n : Nat) (xs : List Value) (hs : a.eval s = v) (hown : w.ownsRow base e size v n xs)
    (vx : Value) (m : Nat) (ys : List Value) (hx : a.eval x = vx) (hsrc : Src w vx m size ys) (h1 : ∀ u ∈ ys, u.oneCell' = true)
    (h63 : n + m ≤ maxLen) (hbytes : (n + m) * bytes ≤ 140737488355328) (hbase : base ≤ w.heap.size)
    (h : ∀ v' w', w'.ownsRow base e size v' (n + m) (xs ++ ys) → w.grownBy w' v.ownBlock → (v'.ownBlock = v.ownBlock ∨ v'.ownBlock = some w.heap.size) → wpList P ops Q rest (a.put o.dst v') w') : wpList P ops Q (o :: rest) a w := by
  refine wpList_step fun K hK => ?_
  rw [if_pos hw]
  obtain ⟨p, c, e1, hl, hc⟩ := hsrc
  subst e1
  by_cases h0 : m = 0
  · subst h0
    have hy : ys = [] := List.length_eq_zero_iff.1 (by omega)
    subst hy
    cases p with
    | none =>
      have hx2 : a.eval x = .slice none 0 c := hx
      have hrun : (Builtin.append_ #[t, t] o.type #[v, .slice none 0 c]).run P w = .ok v w := by
        have := run_append_owned_none (P := P) (w := w) base t o.type e i size ht hi v n xs hown
        exact this
      unfold Oper.wp
      simp [execOp, ho, resolve, invoke, builtin, hs, hx2, hrun, Result.andThen]
      exact hK _ _ (h v w (by rw [List.append_nil]; exact hown) (grown_refl _ _) (Or.inl rfl))
    | some ad =>
      exact lwp_append_at s x t ho base e i z size bytes ht hi hz hsize hby hzs hsz v n xs hs hown ad 0 c [] hx (by simp) (fun j u hu => by simp at hu) h1 h63 hbytes hbase (fun v' w' h2 h3 h4 => hK _ _ (h v' w' h2 h3 h4))
  · obtain ⟨ad, e2, hcell⟩ := hc (by omega)
    subst e2
    exact lwp_append_at s x t ho base e i z size bytes ht hi hz hsize hby hzs hsz v n xs hs hown ad m c ys hx hl hcell h1 h63 hbytes hbase (fun v' w' h2 h3 h4 => hK _ _ (h v' w' h2 h3 h4))
theorem Tryz.linfoF : (Tryz.prog.info? 65).map (fun i => (i.zero, i.size, i.bytes)) = some (some (.agg #[.int .i64 0, .int .u8 0, .int .u16 0, .int .i64 0, .int .i64 0]), 5, 32) := by kernel_rfl
def FOwn (w : World) (base : Nat) (v : Value) (fs : List Fe) : Prop := feR.Own 65 w base v fs
end Go.Proofs.YthfjgpjcepmnmaaGreat
namespace Go.Proofs.YthfjgpjcepmnmaaGreat
open Go.RowKit

theorem grown_drewR (w : World) (r : Option Nat) : w.grownBy w.drew r := ⟨rfl, rfl, rfl, Nat.le_refl _, fun _ _ _ => rfl⟩
theorem grown_some {a b : World} (h : a.grownBy b none) (r : Option Nat) : a.grownBy b r := ⟨h.os, h.tape, h.output, h.size, fun i hi _ => h.block i hi (by simp)⟩
theorem applyL_len (R : List Rw) (F : List Fe) (s : Se) : (applyL R F s).length = F.length := by simp [applyL]
end Go.Proofs.YthfjgpjcepmnmaaGreat
namespace Go.Proofs.YthfjgpjcepmnmaaGreat
open Go.RowKit

theorem TbAt.applied {w w' : World} {vr vf vf' : Value} {X : List Rv} {F : List Fe} {base : Nat} (T : TbAt w vr vf X F) (g : w.grownBy w' none) (s : Se) (o : FOwn w' base vf' (applyL (rws X) F s)) : TbAt w' vr vf' X (applyL (rws X) F s) :=
  ⟨T.rows.keep g, fun x hx => ⟨(T.parts x hx).1.keep g, (T.parts x hx).2⟩, o.at, by rw [applyL_len]; exact T.len, T.few⟩
end Go.Proofs.YthfjgpjcepmnmaaGreat
namespace Go.Proofs.YthfjgpjcepmnmaaGreat
open Go.RowKit

theorem nextN_lt {R : List Rw} {F : List Fe} {L : List Se} (h : L ≠ []) : nextN R F L < L.length := by
  have h0 : 0 < L.length := List.length_pos_iff.2 h
  unfold nextN
  cases hf : (List.range L.length).find? (freeB R F L) with
  | none => exact h0
  | some k => exact List.mem_range.1 (List.mem_of_find?_eq_some hf)
theorem getD_in {α : Type} {l : List α} {i : Nat} {d : α} (h : i < l.length) : l.getD i d = l[i] := by rw [List.getD_eq_getElem?_getD, List.getElem?_eq_getElem h]; rfl
theorem SeAt.there {w : World} {v : Value} {L : List Se} (h : seR.At w v L) {i : Nat} (hi : i < L.length) : ∃ g off cap, v = .slice (some ⟨g, off, none⟩) L.length cap ∧ w.rangeAt g (off + i * 11) (sec (L.getD i Se.none)) := by
  rw [getD_in hi]
  exact RecT.At.there h hi
end Go.Proofs.YthfjgpjcepmnmaaGreat
namespace Go.Proofs.YthfjgpjcepmnmaaGreat
open Go.RowKit

theorem wrap_smallI {j : Nat} (h : j ≤ 4096) : IntKind.i64.wrap (j : Int) = (j : Int) := IntWalk.i64_in _ (by omega)
theorem wrap_small {j : Nat} (h : j ≤ 4096) : wrap64 (j : Int) = (j : Int) := by unfold wrap64; omega
theorem wrap_next {k : Nat} (h : k ≤ 4096) : wrap64 ((k : Int) + 1) = (k : Int) + 1 := by unfold wrap64; omega
theorem amgU_next (fs : List Fe) (R : List Rw) (F : List Fe) (k : Nat) : amgU fs R F (k + 1) = (amgU fs R F k).set ((R.getD k Rw.none).nu - 1).toNat (F.getD k Fe.none) := by
  unfold amgU
  rw [List.range_succ, List.foldl_append]
  rfl
theorem amgU_len (fs : List Fe) (R : List Rw) (F : List Fe) : ∀ k, (amgU fs R F k).length = fs.length
  | 0 => rfl
  | k + 1 => by rw [amgU_next, List.length_set, amgU_len fs R F k]
end Go.Proofs.YthfjgpjcepmnmaaGreat
