/-
  Zones: append; what lies on the table; In, Deck, Hand, Table, Things; whether a list holds just an owner's things in a place.
-/
import Derived.Test.YtogpgldbbegniaaZmF
namespace Go.Proofs.Ytogpgldbbegniaa
open Go.RowKit

theorem own_grow {w w' : World} {base e size n : Nat} {v : Value} {xs : List Value} (h : w.ownsRow base e size v n xs) (g : w.grownBy w' none) : w'.ownsRow base e size v n xs := kpt_own h (Kpt.of_grown g) (by simp)
/-- Where what is appended lies. -/
def Src (w : World) (vx : Value) (m size : Nat) (ys : List Value) : Prop := ∃ p c, vx = .slice p m c ∧ ys.length = m * size ∧ (0 < m → ∃ ad, p = some ad ∧ ∀ j u, ys[j]? = some u → w.cell? (Addr.add ad j) = some u)
theorem own_Src {w : World} {base e size m : Nat} {v : Value} {ys : List Value} (h : w.ownsRow base e size v m ys) : Src w v m size ys := by
  obtain ⟨p, c, e1, _⟩ := own_slice h
  refine ⟨p, c, e1, h.1, fun h0 => ?_⟩
  obtain ⟨g, cap, e2, _, _, _, _, hc⟩ := own_cell h h0
  rw [e1] at e2
  cases e2
  refine ⟨_, rfl, fun j u hu => ?_⟩
  have hj := (List.getElem?_eq_some_iff.1 hu).1
  rw [add_plain, Nat.zero_add, (hc j (by have := h.1; omega)).1]
  exact hu
theorem intsA_Src {w : World} {v : Value} {l : List Int} (h : IntsA w v l) : Src w v l.length 1 (ints l) := by
  obtain ⟨p, c, e, h⟩ := h.src
  exact ⟨p, c, e, by rw [length_ints, Nat.mul_one], h⟩
theorem thsAt_Src {w : World} {v : Value} {l : List Th} (h : ThsAt w v l) : Src w v l.length 11 (thcs l) := by
  obtain ⟨p, c, e, h⟩ := h.src
  exact ⟨p, c, e, thcs_len l, h⟩
theorem lit_Src {w : World} {g e m size : Nat} {cs : Array Value} (h : w.heap[g]? = some (.cells cs e (0, 0))) (hs : cs.size = m * size) (c : Nat) : Src w (.slice (some ⟨g, 0, none⟩) m c) m size cs.toList :=
  ⟨_, c, rfl, by simp [hs], fun _ => ⟨_, rfl, fun j u hu => by rw [add_plain, Nat.zero_add, block_cell h]; simpa using hu⟩⟩
theorem Src.keep {w w' : World} {vx : Value} {m size : Nat} {ys : List Value} (h : Src w vx m size ys) (k : w.grownBy w' none) : Src w' vx m size ys := by
  obtain ⟨p, c, e, hl, h⟩ := h
  refine ⟨p, c, e, hl, fun h0 => ?_⟩
  obtain ⟨ad, e2, h2⟩ := h h0
  exact ⟨ad, e2, fun j u hu => k.cell (h2 j u hu) (by simp)⟩
theorem wpl_app {P : Program} {w : World} {ops : Array Oper} {rest : List Oper} {o : Oper} {a : Act} {Q : Exit → Act → World → Prop} (hw : Region.wanted o (yielded ops a.tmps) = true) (s x : Operand) (t : TypeId)
    (ho : o.op = .call { callee := .builtin .append, args := #[s, x], argTypes := #[t, t] })
    (base : Nat) (e : TypeId) (i : TypeInfo) (z : Value) (size bytes : Nat) (ht : P.underlying t = some (.slice e)) (hi : P.info? e = some i) (hz : i.zero = some z)
    (hsize : i.size = size) (hby : i.bytes = bytes) (hzs : z.cells.size = size) (hsz : 0 < size)
    (v : Value) (n : Nat) (xs : List Value) (hs : a.eval s = v) (hown : w.ownsRow base e size v n xs)
    (vx : Value) (m : Nat) (ys : List Value) (hx : a.eval x = vx) (hsrc : Src w vx m size ys) (h1 : ∀ u ∈ ys, u.oneCell' = true)
    (h63 : n + m ≤ maxLen) (hbytes : (n + m) * bytes ≤ 140737488355328) (hbase : base ≤ w.heap.size)
    (h : ∀ v' w', w'.ownsRow base e size v' (n + m) (xs ++ ys) → w.grownBy w' v.ownBlock → (v'.ownBlock = v.ownBlock ∨ v'.ownBlock = some w.heap.size) → wpList P ops Q rest (a.put o.dst v') w') : wpList P ops Q (o :: rest) a w := by
  refine wpList_step fun K hK => ?_
  rw [if_pos hw]
  obtain ⟨p, c, e1, hl, hc⟩ := hsrc
  subst e1
  by_cases h0 : m = 0
  · subst h0
    have hy : ys = [] := List.length_eq_zero_iff.1 (by omega)
    subst hy
    cases p with
    | none =>
      have hx2 : a.eval x = .slice none 0 c := hx
      have hrun : (Builtin.append_ #[t, t] o.type #[v, .slice none 0 c]).run P w = .ok v w := by
        have := run_append_owned_none (P := P) (w := w) base t o.type e i size ht hi v n xs hown
        exact this
      unfold Oper.wp
      simp [execOp, ho, resolve, invoke, builtin, hs, hx2, hrun, Result.andThen]
      exact hK _ _ (h v w (by rw [List.append_nil]; exact hown) (grown_refl _ _) (Or.inl rfl))
    | some ad =>
      exact wp_append_at s x t ho base e i z size bytes ht hi hz hsize hby hzs hsz v n xs hs hown ad 0 c [] hx (by simp) (fun j u hu => by simp at hu) h1 h63 hbytes hbase (fun v' w' h2 h3 h4 => hK _ _ (h v' w' h2 h3 h4))
  · obtain ⟨ad, e2, hcell⟩ := hc (by omega)
    subst e2
    exact wp_append_at s x t ho base e i z size bytes ht hi hz hsize hby hzs hsz v n xs hs hown ad m c ys hx hl hcell h1 h63 hbytes hbase (fun v' w' h2 h3 h4 => hK _ _ (h v' w' h2 h3 h4))
/-- The table, by stamp rising. -/
def tabF (ts : List Th) : List Int := (tabN ts).mergeSort fun a b => decide (stOf ts a ≤ stOf ts b)
theorem tabF_perm (ts : List Th) : (tabF ts).Perm (tabN ts) := List.mergeSort_perm _ _
theorem tabF_up (ts : List Th) : (tabF ts).Pairwise fun a b => stOf ts a ≤ stOf ts b := by
  have := List.pairwise_mergeSort (le := fun (x y : Int) => decide (stOf ts x ≤ stOf ts y)) (fun a b c h1 h2 => by simp at *; omega) (fun a b => by simp; omega) (tabN ts)
  exact this.imp fun h => by simpa using h
theorem Zs.Sound.tab_is {z : Zs} (S : z.Sound) : IsTab z.ts (tabF z.ts) := tab_of S (tabF_perm _) (tabF_up _)
theorem tabN_len (ts : List Th) : (tabN ts).length ≤ ts.length + ts.length := by
  unfold tabN
  rw [List.length_append]
  have h1 := numsOf_len ts 0 4
  have h2 := numsOf_len ts 1 4
  omega
/-- What In tells. -/
def Zs.inOf (z : Zs) (p pl : Int) : List Int := if p = 0 ∨ p = 1 then (if pl = 1 then z.dk p else if pl = 2 then z.hd p else if pl = 4 then (tabF z.ts).filter (innB z.ts p 4) else numsOf z.ts p pl) else []
set_option maxRecDepth 100000 in
set_option maxHeartbeats 2000000 in
theorem onTable_any (b : Nat) (vt : Value) (ts : List Th) (w : World) (c0 : w.cell? ⟨b, 0, none⟩ = some vt) (T : ThsAt w vt ts) (hf : ts.length ≤ 2048) : Calls Try.prog 67 #[.pointer (some ⟨b, 0, none⟩)] w fun e w' => ∃ v, e = .returned v ∧ OwnI w' w.heap.size v (tabN ts) ∧ w.grownBy w' none := by
  obtain ⟨i0, hi, hz0, hz1, hz2⟩ := info_parts Try.info3i'
  have C1 := numbers_any b vt ts 0 4 w c0 T hf
  have HC2 : Hid (∀ w1, w.grownBy w1 none → Calls Try.prog 96 #[.pointer (some ⟨b, 0, none⟩), .int .i64 1, .int .u8 4] w1 fun e w' => ∃ v, e = .returned v ∧ OwnI w' w1.heap.size v (numsOf ts 1 4) ∧ w1.grownBy w' none) := fun w1 g => numbers_any b vt ts 1 4 w1 (g.cell c0 (by simp)) (T.keep g) hf
  have l1 := numsOf_len ts 0 4
  have l2 := numsOf_len ts 1 4
  have HT : Hid (tabN ts = numsOf ts 0 4 ++ numsOf ts 1 4) := rfl
  obtain ⟨A, hA⟩ : ∃ A, A = numsOf ts 0 4 := ⟨_, rfl⟩
  obtain ⟨B, hB⟩ : ∃ B, B = numsOf ts 1 4 := ⟨_, rfl⟩
  rw [← hA] at C1 l1 HT
  rw [← hB] at HC2 l2 HT
  have HL : Hid (A.length + B.length ≤ maxLen ∧ (A.length + B.length) * 8 ≤ 140737488355328) := by show _ ∧ _; unfold maxLen; omega
  clear l1 l2 hA hB c0 T hf
  go_enter Try.func67, Try.ntmps67
  go_wp2_with fail
  refine C1.mono ?_
  rintro e w1 ⟨v1, rfl, o1, g1⟩
  have HO1 : Hid (OwnI w1 w.heap.size v1 A) := o1
  have HG1 : Hid (w.grownBy w1 none) := g1
  have C2 := HC2.out w1 g1
  obtain ⟨p1, q1, rfl⟩ := o1.form
  clear o1 g1 C1 HC2
  go_wp2_with fail
  refine C2.mono ?_
  rintro e w2 ⟨v2, rfl, o2, g2⟩
  have HO2 : Hid (OwnI w2 w1.heap.size v2 B) := o2
  have HG2 : Hid (w1.grownBy w2 none) := g2
  obtain ⟨p2, q2, rfl⟩ := o2.form
  clear o2 g2 C2
  go_wp2_with (at_builtin; refine wpl_app (by rfl) (.tmp 4) (.tmp 6) 22 rfl w.heap.size 3 i0 (.int .i64 0) 1 8 Try.underlying22 hi hz0 hz1 hz2 rfl (by decide) _ A.length (ints A) rfl (own_grow HO1.out HG2.out) _ B.length (ints B) rfl (own_Src HO2.out) (ints_one _) HL.out.1 HL.out.2 (Nat.le_trans HG1.out.size HG2.out.size) ?_; intro v3 w3 o3 g3 _; have HF : Hid (OwnI w3 w.heap.size v3 (A ++ B) ∧ w.grownBy w3 none) := ⟨by unfold OwnI; rw [List.length_append, ints_app]; exact o3, grown_own (grown_trans HG1.out HG2.out) g3 (fun x e => (World.ownsRow.lt HO1.out x e).1)⟩; clear o3 g3)
  go_ret
  refine ⟨_, rfl, ?_⟩
  rw [HT.out]
  exact HF.out
set_option maxRecDepth 100000 in
set_option maxHeartbeats 2000000 in
theorem table_any (b : Nat) (Sb : List Nat) (z : Zs) (w : World) (Z : ZAt w b Sb z) (S : z.Sound) : Calls Try.prog 27 #[.pointer (some ⟨b, 0, none⟩)] w fun e w' => ∃ v, e = .returned v ∧ OwnI w' w.heap.size v (tabF z.ts) ∧ w.grownBy w' none := by
  obtain ⟨vt, d0, d1, h0, h1, Z⟩ := Z
  obtain ⟨c0, _, _, _, _, c5⟩ := Z.cell
  have T := Z.ts.at
  have M := made_yes b z.nx w c5 (by have := S.nx1; omega)
  have C1 := onTable_any b vt z.ts w c0 T S.few
  have HB : Hid (∀ w1 v, w.grownBy w1 none → OwnI w1 w.heap.size v (tabN z.ts) → Calls Try.prog 66 #[.pointer (some ⟨b, 0, none⟩), v] w1 (BsPost w v z.ts (tabN z.ts))) := fun w1 v g o => byStamp_any w w1 b vt v z.ts _ c0 T S.few g o (fun n hn => tabN_there hn) (by have := tabN_len z.ts; have := S.few; omega)
  have HP : Hid (∀ l : List Int, l.Perm (tabN z.ts) → (l.Pairwise fun a b => stOf z.ts a ≤ stOf z.ts b) → l = tabF z.ts) := fun l hp hs => tab_one (tab_of S hp hs) S.tab_is
  clear c0 c5 T Z S
  go_enter Try.func27, Try.ntmps27
  go_wp2_with (go_at_call 61; refine M.mono ?_; rintro e w' ⟨rfl, rfl⟩)
  refine C1.mono ?_
  rintro e w1 ⟨v1, rfl, o1, g1⟩
  have C2 := HB.out w1 v1 g1 o1
  obtain ⟨p1, q1, rfl⟩ := o1.form
  clear o1 g1 C1 HB M
  go_wp2_with fail
  refine C2.mono ?_
  rintro e w2 ⟨l, rfl, hp, hs, o2, g2⟩
  have HF : Hid (OwnI w2 w'.heap.size (.slice p1 (tabN z.ts).length q1) (tabF z.ts) ∧ w'.grownBy w2 none) := ⟨by rw [← HP.out l hp hs]; exact o2, g2⟩
  clear hp hs o2 g2 C2 HP
  go_wp2_with fail
  go_ret
  exact ⟨_, rfl, HF.out⟩
end Go.Proofs.Ytogpgldbbegniaa
