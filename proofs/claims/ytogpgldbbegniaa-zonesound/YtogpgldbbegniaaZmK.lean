/-
  Zones: a list without a number, in new memory: the program's without.
-/
import Derived.Test.YtogpgldbbegniaaZmJ
import Derived.Test.YtogpgldbbegniaaS6
import Derived.Deep.RegionHeld
namespace Go.Proofs.Ytogpgldbbegniaa
open Go.RowKit

theorem wp_app {P : Program} {w : World} {o : Oper} {a : Act} {K : Act → World → Prop} {Q : Exit → Act → World → Prop} (s x : Operand) (t : TypeId)
    (ho : o.op = .call { callee := .builtin .append, args := #[s, x], argTypes := #[t, t] })
    (base : Nat) (e : TypeId) (i : TypeInfo) (z : Value) (size bytes : Nat) (ht : P.underlying t = some (.slice e)) (hi : P.info? e = some i) (hz : i.zero = some z)
    (hsize : i.size = size) (hby : i.bytes = bytes) (hzs : z.cells.size = size) (hsz : 0 < size)
    (v : Value) (n : Nat) (xs : List Value) (hs : a.eval s = v) (hown : w.ownsRow base e size v n xs)
    (vx : Value) (m : Nat) (ys : List Value) (hx : a.eval x = vx) (hsrc : Src w vx m size ys) (h1 : ∀ u ∈ ys, u.oneCell' = true)
    (h63 : n + m ≤ maxLen) (hbytes : (n + m) * bytes ≤ 140737488355328) (hbase : base ≤ w.heap.size)
    (h : ∀ v' w', w'.ownsRow base e size v' (n + m) (xs ++ ys) → w.grownBy w' v.ownBlock → (v'.ownBlock = v.ownBlock ∨ v'.ownBlock = some w.heap.size) → K (a.put o.dst v') w') : Oper.wp P o a w K Q := by
  obtain ⟨p, c, e1, hl, hc⟩ := hsrc
  subst e1
  by_cases h0 : m = 0
  · subst h0
    have hy : ys = [] := List.length_eq_zero_iff.1 (by omega)
    subst hy
    cases p with
    | none =>
      have hx2 : a.eval x = .slice none 0 c := hx
      have hrun : (Builtin.append_ #[t, t] o.type #[v, .slice none 0 c]).run P w = .ok v w := run_append_owned_none (P := P) (w := w) base t o.type e i size ht hi v n xs hown
      unfold Oper.wp
      simp [execOp, ho, resolve, invoke, builtin, hs, hx2, hrun, Result.andThen]
      exact h v w (by rw [List.append_nil]; exact hown) (grown_refl _ _) (Or.inl rfl)
    | some ad =>
      exact wp_append_at s x t ho base e i z size bytes ht hi hz hsize hby hzs hsz v n xs hs hown ad 0 c [] hx (by simp) (fun j u hu => by simp at hu) h1 h63 hbytes hbase h
  · obtain ⟨ad, e2, hcell⟩ := hc (by omega)
    subst e2
    exact wp_append_at s x t ho base e i z size bytes ht hi hz hsize hby hzs hsz v n xs hs hown ad m c ys hx hl hcell h1 h63 hbytes hbase h
/-- What without answers. -/
def WtPost (w : World) (v : Value) (l : List Int) (n : Int) (e : Ending) (w' : World) : Prop := (n ∈ l ∧ ∃ v', e = .returned v' ∧ OwnI w' w.heap.size v' (l.erase n) ∧ w.grownBy w' none) ∨ (n ∉ l ∧ e = .returned v ∧ w.grownBy w' none)
theorem new_empty (w : World) : (w.alloc (.cells #[] 3)).ownsRow w.heap.size 3 1 (.slice (some ⟨w.heap.size, 0, none⟩) 0 0) 0 [] := ⟨rfl, Or.inr ⟨w.heap.size, 0, #[], rfl, Nat.le_refl _, alloc_at _ _ _, Nat.le_refl _, Nat.zero_le _, rfl, rfl⟩⟩
set_option maxRecDepth 100000 in
set_option maxHeartbeats 4000000 in
theorem without_no (v : Value) (base : Nat) (l : List Int) (x : Int) (w : World) (O : OwnI w base v l) (hx : x ∉ l) (hb : l.length ≤ 2048) : Calls Try.prog 121 #[v, .int .i64 x] w (WtPost w v l x) := by
  obtain ⟨p, cap, rfl, _⟩ := own_slice O
  have HO : Hid (OwnI w base (.slice p l.length cap) l) := O
  have HX : Hid (x ∉ l) := hx
  clear O hx
  go_enter Try.func121, Try.ntmps121
  go_wp2
  go_loopw [5, 6, 9] (fun _ _ i wr => ∃ m : Nat, m ≤ l.length ∧ i = .int .i64 m ∧ wr = w) (fun _ _ i _ => l.length - (intOf i).toNat)
  case atStart => exact ⟨0, Nat.zero_le _, rfl, rfl⟩
  case round =>
    obtain ⟨m, hm, rfl, rfl⟩ := hrel
    by_cases hlt : m < l.length
    · obtain ⟨g, cap', e1, _, _, _, _, hc⟩ := own_cell HO.out (by omega)
      cases e1
      have c1 : wr.cell? ⟨g, m, none⟩ = some (.int .i64 (l.getD m 0)) := by rw [(hc m (by omega)).1]; exact ints_at l m hlt
      obtain ⟨y, hy⟩ : ∃ y, y = l.getD m 0 := ⟨_, rfl⟩
      rw [← hy] at c1
      have e2 : (y == x) = false := by
        have : ¬ y = x := fun e => HX.out (by rw [← e, hy]; exact getD_mem hlt)
        simpa using this
      have hlt' : (m : Int) < (l.length : Int) := by omega
      have hwk : wrap64 ((m : Int) + 1) = (m : Int) + 1 := by unfold wrap64; omega
      have HP : Hid (m + 1 ≤ l.length) := hlt
      have HM : Hid (l.length - (intOf (.int .i64 ((m : Int) + 1))).toNat < l.length - (intOf (.int .i64 (m : Int))).toNat) := meas_next hlt
      clear hc hy
      go_wp2
      go_roundw
      case rel => exact ⟨m + 1, HP.out, by first | rfl | (rw [hwk]; rfl) | go_num, by first | exact trivial | rfl⟩
      case measure => first | exact HM.out | (rw [hwk]; exact HM.out)
    · have hlt' : ¬ (m : Int) < (l.length : Int) := by omega
      have HF : Hid (WtPost wr (.slice p l.length cap) l x (.returned (.slice p l.length cap)) wr) := Or.inr ⟨HX.out, rfl, grown_refl _ _⟩
      go_wp2
      go_ret
      exact HF.out
theorem drop_Src {w : World} {base g n cap k : Nat} {l : List Int} (h : w.ownsRow base 3 1 (.slice (some ⟨g, 0, none⟩) n cap) n (ints l)) (hn : l.length = n) (hk : k ≤ n) : Src w (.slice (some ⟨g, k, none⟩) (n - k) (cap - k)) (n - k) 1 (ints (l.drop k)) :=
  ⟨_, _, rfl, by rw [length_ints, List.length_drop, hn, Nat.mul_one], fun _ => ⟨_, rfl, fun j u hu => by
    have hj : j < n - k := by have := (List.getElem?_eq_some_iff.1 hu).1; rw [length_ints, List.length_drop, hn] at this; exact this
    rw [add_plain, World.ownsRow.cellAt h (k + j) (by omega), ints_at l (k + j) (by omega)]
    rw [ints_at _ j (by rw [List.length_drop]; omega)] at hu
    rw [← hu]
    simp [List.getD]⟩⟩
theorem drop_Src0 {w : World} {l : List Int} {ad : Option Addr} {k n : Nat} (hn : l.length = n) (hk : n = k) : Src w (.slice ad 0 0) 0 1 (ints (l.drop k)) :=
  ⟨_, _, rfl, by rw [length_ints, List.length_drop, hn, hk]; simp, fun h => by omega⟩
theorem take_Src {w : World} {base g n cap k : Nat} {l : List Int} (h : w.ownsRow base 3 1 (.slice (some ⟨g, 0, none⟩) n cap) n (ints l)) (hn : l.length = n) (hk : k ≤ n) : Src w (.slice (some ⟨g, 0, none⟩) k cap) k 1 (ints (l.take k)) :=
  ⟨_, _, rfl, by rw [length_ints, List.length_take, Nat.mul_one]; omega, fun _ => ⟨_, rfl, fun j u hu => by
    have hj : j < k := by have := (List.getElem?_eq_some_iff.1 hu).1; rw [length_ints, List.length_take] at this; omega
    rw [add_plain, Nat.zero_add, World.ownsRow.cellAt h j (by omega), ints_at l j (by omega)]
    rw [ints_at _ j (by rw [List.length_take]; omega)] at hu
    rw [← hu]
    simp [List.getD, hj]⟩⟩
set_option maxRecDepth 100000 in
set_option maxHeartbeats 4000000 in
theorem without_hit (g cap base : Nat) (l : List Int) (x : Int) (k : Nat) (w : World) (O : OwnI w base (.slice (some ⟨g, 0, none⟩) l.length cap) l) (hcap : l.length ≤ cap) (hF : FstI l x k) (hb : l.length ≤ 2048) : Calls Try.prog 121 #[.slice (some ⟨g, 0, none⟩) l.length cap, .int .i64 x] w (WtPost w (.slice (some ⟨g, 0, none⟩) l.length cap) l x) := by
  obtain ⟨i1, hi1, hza1, hzb1, hzc1⟩ := info_parts Try.info3i'
  obtain ⟨n, hn⟩ : ∃ n, n = l.length := ⟨_, rfl⟩
  have HO : Hid (w.ownsRow base 3 1 (.slice (some ⟨g, 0, none⟩) n cap) n (ints l)) := by rw [hn]; exact O
  have HN : Hid (l.length = n) := hn.symm
  have HF : Hid (FstI l x k) := hF
  have hkn : k < n := by rw [hn]; exact hF.1
  rw [← hn] at hcap hb ⊢
  obtain ⟨K, hK⟩ : ∃ K, K = k + 1 := ⟨_, rfl⟩
  have HK : Hid (K = k + 1) := hK
  have hKn : K ≤ n := by omega
  have HE : Hid (l.erase x = l.take k ++ l.drop K) := by rw [hK]; exact hF.erase
  have HLs : Hid (k + (n - K) ≤ maxLen ∧ (k + (n - K)) * 8 ≤ 140737488355328 ∧ 0 + k ≤ maxLen ∧ (0 + k) * 8 ≤ 140737488355328 ∧ (l.take k).length = k ∧ (l.take k ++ l.drop K).length = k + (n - K)) := by
    show _ ∧ _
    unfold maxLen
    refine ⟨by omega, by omega, by omega, by omega, by rw [List.length_take]; omega, by rw [List.length_append, List.length_take, List.length_drop]; omega⟩
  have k0 : ¬ ((k : Int) < 0) := by omega
  have k2 : (k : Int) ≤ (n : Int) := by omega
  have k3 : (n : Int) ≤ (cap : Int) := by omega
  have k4 : (k : Int) ≤ (cap : Int) := by omega
  have k5 : (0 : Int) ≤ (k : Int) := by omega
  have k6 : (K : Int) ≤ (n : Int) := by omega
  have k7 : (K : Int) ≤ (cap : Int) := by omega
  have k8 : (0 : Int) ≤ (K : Int) := by omega
  have Hk9 : Hid ((k : Int) + 1 = (K : Int)) := by show (k : Int) + 1 = (K : Int); omega
  have hwK : IntKind.i64.wrap (K : Int) = (K : Int) := by rw [IntKind.wrap_i64]; omega
  clear O hF hn hK
  go_enter Try.func121, Try.ntmps121
  go_wp2
  go_loopw [5, 6, 9] (fun _ _ i wr => ∃ m : Nat, m ≤ k ∧ i = .int .i64 m ∧ wr = w) (fun _ _ i _ => n - (intOf i).toNat)
  case atStart => exact ⟨0, Nat.zero_le _, rfl, rfl⟩
  case round =>
    obtain ⟨m, hmk, rfl, rfl⟩ := hrel
    have hlt : m < n := by omega
    have hlt' : (m : Int) < (n : Int) := by omega
    obtain ⟨y, hy⟩ : ∃ y, y = l.getD m 0 := ⟨_, rfl⟩
    have c1 : wr.cell? ⟨g, m, none⟩ = some (.int .i64 y) := by rw [hy, World.ownsRow.cellAt HO.out m (by omega)]; exact ints_at l m (by have := HN.out; omega)
    rcases (show m = k ∨ m < k from by omega) with e | hmk'
    · have hd : y = x := by rw [hy, e]; exact HF.out.2.1
      subst e
      subst hd
      have k9 : (m : Int) + 1 = (K : Int) := Hk9.out
      have HD : Hid (wr.grownBy wr.drew none) := grown_drew _
      clear hy hmk Hk9
      by_cases e1 : cap = K
      · subst e1
        have HQ : Hid (n = cap) := by show n = cap; omega
        have e0 : n - cap = 0 := by omega
        have e9 : cap - cap = 0 := by omega
        go_upto_region 5 with fail
        refine wp_region_held_drew (S := fun w' => wr.grownBy w' none) (by kernel_rfl) (grown_drew _) (fun hHeld => ?_)
        refine wpAnyH_take (i := 1) (v := ?_) rfl (by kernel_rfl) (by kernel_rfl) (by kernel_rfl) (fun _ _ _ h => h) (Or.inl ⟨by rfl, ?_⟩) (by assumption) ?_
        rotate_left 1
        · (intro w0 hSw; go_simp; try with_reducible rfl)
        simp only [List.getElem_toArray, List.getElem_cons_zero, List.getElem_cons_succ]
        go_frame
        refine wpAnyH_take (i := 2) (v := ?_) rfl (by kernel_rfl) (by kernel_rfl) (by kernel_rfl) (fun _ _ _ h => h) (Or.inl ⟨by rfl, ?_⟩) (by assumption) ?_
        rotate_left 1
        · (intro w0 hSw; go_simp; try with_reducible rfl)
        simp only [List.getElem_toArray, List.getElem_cons_zero, List.getElem_cons_succ]
        go_frame
        refine wpAnyH_take (i := 3) (v := ?_) rfl (by kernel_rfl) (by kernel_rfl) (by kernel_rfl) (fun _ _ _ h => h) (Or.inl ⟨by rfl, ?_⟩) (by assumption) ?_
        rotate_left 1
        · (intro w0 hSw; go_simp; try with_reducible rfl)
        simp only [List.getElem_toArray, List.getElem_cons_zero, List.getElem_cons_succ]
        go_frame
        refine wpAnyH_take (i := 5) (v := ?_) rfl (by kernel_rfl) (by kernel_rfl) (by kernel_rfl) (fun _ _ _ h => h) (Or.inl ⟨by rfl, ?_⟩) (by assumption) ?_
        rotate_left 1
        · (intro w0 hSw; go_simp; try with_reducible rfl)
        simp only [List.getElem_toArray, List.getElem_cons_zero, List.getElem_cons_succ]
        go_frame
        refine wpAnyH_take (i := 6) (v := ?_) rfl (by kernel_rfl) (by kernel_rfl) (by kernel_rfl) (fun _ _ _ h => h) (Or.inl ⟨by rfl, ?_⟩) (by assumption) ?_
        rotate_left 1
        · (intro w0 hSw; go_simp; try with_reducible rfl)
        simp only [List.getElem_toArray, List.getElem_cons_zero, List.getElem_cons_succ]
        go_frame
        refine wpAnyH_take (i := 7) (v := ?_) rfl (by kernel_rfl) (by kernel_rfl) (by kernel_rfl) (fun _ _ _ h => h) (Or.inl ⟨by rfl, ?_⟩) (by assumption) ?_
        rotate_left 1
        · (intro w0 hSw; go_simp; try with_reducible rfl)
        simp only [List.getElem_toArray, List.getElem_cons_zero, List.getElem_cons_succ]
        go_frame
        refine wpAnyH_take (i := 8) (v := ?_) rfl (by kernel_rfl) (by kernel_rfl) (by kernel_rfl) (fun _ _ _ h => h) (Or.inl ⟨by rfl, ?_⟩) (by assumption) ?_
        rotate_left 1
        · (intro w0 hSw; go_simp; try with_reducible rfl)
        simp only [List.getElem_toArray, List.getElem_cons_zero, List.getElem_cons_succ]
        go_frame
        refine wpAnyH_ready (rs := [0]) (by kernel_rfl) (by simp) ?_
        refine AllReadyH.cons rfl (fun K9 hK => ?_) AllReadyH.nil
        simp only [List.getElem_toArray, List.getElem_cons_zero]
        go_simp
        have HO0 : Hid ((wr.drew.alloc (.cells #[] 3)).ownsRow wr.heap.size 3 1 (.slice (some ⟨wr.heap.size, 0, none⟩) 0 0) 0 []) := new_empty wr.drew
        refine hK.out _ _ (grown_push HD.out _) (fun hHeld3 => ?_)
        clear hK K9
        (try go_frame)
        refine wpAnyH_ready (rs := [4]) (by kernel_rfl) (by simp) ?_
        refine AllReadyH.cons rfl (fun K9 hK => ?_) AllReadyH.nil
        simp only [List.getElem_toArray, List.getElem_cons_zero, List.getElem_cons_succ]
        rw [if_pos (by rfl)]
        refine wp_app (.tmp 17) (.tmp 20) 22 rfl wr.heap.size 3 i1 _ 1 8 Try.underlying22 hi1 hza1 hzb1 hzc1 rfl (by decide) (.slice (some ⟨wr.heap.size, 0, none⟩) 0 0) (0) ([]) rfl (HO0.out) (.slice (some ⟨g, 0, none⟩) m cap) (m) (ints (l.take m)) rfl ((take_Src HO.out HN.out (by omega)).keep (grown_push HD.out _)) (ints_one _) (HLs.out.2.2.1) (HLs.out.2.2.2.1) (by show wr.heap.size ≤ (wr.alloc (.cells #[] 3)).heap.size; rw [World.size_alloc]; omega) ?_
        intro v' w7 o7 g7 l7
        have HO1 : Hid (w7.ownsRow wr.heap.size 3 1 v' m (ints (l.take m))) := by (show w7.ownsRow wr.heap.size 3 1 v' m (ints (l.take m))); rw [Nat.zero_add, List.nil_append] at o7; exact o7
        have HG1 : Hid ((wr.drew.alloc (.cells #[] 3)).grownBy w7 (some wr.heap.size)) := g7
        have HG2 : Hid (wr.grownBy w7 none) := grown_own (grown_push HD.out _) g7 (fun x hx => by cases hx; exact Nat.le_refl _)
        clear o7 g7 l7
        refine hK.out _ _ (HG2.out) (fun hHeld3 => ?_)
        clear hK K9
        (try go_frame)
        refine wpAnyH_ready (rs := [9]) (by kernel_rfl) (by simp) ?_
        refine AllReadyH.cons rfl (fun K9 hK => ?_) AllReadyH.nil
        simp only [List.getElem_toArray, List.getElem_cons_zero, List.getElem_cons_succ]
        rw [if_pos (by rfl)]
        refine wp_app (.tmp 21) (.tmp 25) 22 rfl wr.heap.size 3 i1 _ 1 8 Try.underlying22 hi1 hza1 hzb1 hzc1 rfl (by decide) (v') (m) (ints (l.take m)) rfl (HO1.out) (.slice (some ⟨g, 0, none⟩) 0 0) (0) (ints (l.drop cap)) rfl (drop_Src0 HN.out HQ.out) (ints_one _) (by have := HLs.out.1; omega) (by have := HLs.out.2.1; omega) (HG2.out.size) ?_
        intro v9 w9 o7 g7 l7
        have HO3 : Hid (w9.ownsRow wr.heap.size 3 1 v9 (m + (n - cap)) (ints (l.take m ++ l.drop cap)) ∧ wr.grownBy w9 none) := ⟨by rw [ints_app]; rw [e0]; exact o7, grown_own HG2.out g7 (fun x hx => (World.ownsRow.lt HO1.out x hx).1)⟩
        clear o7 g7 l7
        refine hK.out _ _ (HO3.out.2) (fun hHeld3 => ?_)
        clear hK K9
        (try go_frame)
        refine wpAnyH_take (i := 10) (v := ?_) rfl (by kernel_rfl) (by kernel_rfl) (by kernel_rfl) (fun _ _ _ h => h) (Or.inl ⟨by rfl, ?_⟩) (by assumption) ?_
        rotate_left 1
        · (intro w0 hSw; go_simp; try with_reducible rfl)
        simp only [List.getElem_toArray, List.getElem_cons_zero, List.getElem_cons_succ]
        go_frame
        refine wpAnyH_done (by kernel_rfl) ?_ _
        go_wp2
        go_ret
        exact Or.inl ⟨HF.out.mem, _, rfl, by unfold OwnI; rw [HE.out, HLs.out.2.2.2.2.2]; exact HO3.out.1, HO3.out.2⟩
      · have e2 : ¬ (K = cap) := fun e => e1 e.symm
        go_upto_region 5 with fail
        refine wp_region_held_drew (S := fun w' => wr.grownBy w' none) (by kernel_rfl) (grown_drew _) (fun hHeld => ?_)
        refine wpAnyH_take (i := 1) (v := ?_) rfl (by kernel_rfl) (by kernel_rfl) (by kernel_rfl) (fun _ _ _ h => h) (Or.inl ⟨by rfl, ?_⟩) (by assumption) ?_
        rotate_left 1
        · (intro w0 hSw; go_simp; try with_reducible rfl)
        simp only [List.getElem_toArray, List.getElem_cons_zero, List.getElem_cons_succ]
        go_frame
        refine wpAnyH_take (i := 2) (v := ?_) rfl (by kernel_rfl) (by kernel_rfl) (by kernel_rfl) (fun _ _ _ h => h) (Or.inl ⟨by rfl, ?_⟩) (by assumption) ?_
        rotate_left 1
        · (intro w0 hSw; go_simp; try with_reducible rfl)
        simp only [List.getElem_toArray, List.getElem_cons_zero, List.getElem_cons_succ]
        go_frame
        refine wpAnyH_take (i := 3) (v := ?_) rfl (by kernel_rfl) (by kernel_rfl) (by kernel_rfl) (fun _ _ _ h => h) (Or.inl ⟨by rfl, ?_⟩) (by assumption) ?_
        rotate_left 1
        · (intro w0 hSw; go_simp; try with_reducible rfl)
        simp only [List.getElem_toArray, List.getElem_cons_zero, List.getElem_cons_succ]
        go_frame
        refine wpAnyH_take (i := 5) (v := ?_) rfl (by kernel_rfl) (by kernel_rfl) (by kernel_rfl) (fun _ _ _ h => h) (Or.inl ⟨by rfl, ?_⟩) (by assumption) ?_
        rotate_left 1
        · (intro w0 hSw; go_simp; try with_reducible rfl)
        simp only [List.getElem_toArray, List.getElem_cons_zero, List.getElem_cons_succ]
        go_frame
        refine wpAnyH_take (i := 6) (v := ?_) rfl (by kernel_rfl) (by kernel_rfl) (by kernel_rfl) (fun _ _ _ h => h) (Or.inl ⟨by rfl, ?_⟩) (by assumption) ?_
        rotate_left 1
        · (intro w0 hSw; go_simp; try with_reducible rfl)
        simp only [List.getElem_toArray, List.getElem_cons_zero, List.getElem_cons_succ]
        go_frame
        refine wpAnyH_take (i := 7) (v := ?_) rfl (by kernel_rfl) (by kernel_rfl) (by kernel_rfl) (fun _ _ _ h => h) (Or.inl ⟨by rfl, ?_⟩) (by assumption) ?_
        rotate_left 1
        · (intro w0 hSw; go_simp; try with_reducible rfl)
        simp only [List.getElem_toArray, List.getElem_cons_zero, List.getElem_cons_succ]
        go_frame
        refine wpAnyH_take (i := 8) (v := ?_) rfl (by kernel_rfl) (by kernel_rfl) (by kernel_rfl) (fun _ _ _ h => h) (Or.inl ⟨by rfl, ?_⟩) (by assumption) ?_
        rotate_left 1
        · (intro w0 hSw; go_simp; try with_reducible rfl)
        simp only [List.getElem_toArray, List.getElem_cons_zero, List.getElem_cons_succ]
        go_frame
        refine wpAnyH_ready (rs := [0]) (by kernel_rfl) (by simp) ?_
        refine AllReadyH.cons rfl (fun K9 hK => ?_) AllReadyH.nil
        simp only [List.getElem_toArray, List.getElem_cons_zero]
        go_simp
        have HO0 : Hid ((wr.drew.alloc (.cells #[] 3)).ownsRow wr.heap.size 3 1 (.slice (some ⟨wr.heap.size, 0, none⟩) 0 0) 0 []) := new_empty wr.drew
        refine hK.out _ _ (grown_push HD.out _) (fun hHeld3 => ?_)
        clear hK K9
        (try go_frame)
        refine wpAnyH_ready (rs := [4]) (by kernel_rfl) (by simp) ?_
        refine AllReadyH.cons rfl (fun K9 hK => ?_) AllReadyH.nil
        simp only [List.getElem_toArray, List.getElem_cons_zero, List.getElem_cons_succ]
        rw [if_pos (by rfl)]
        refine wp_app (.tmp 17) (.tmp 20) 22 rfl wr.heap.size 3 i1 _ 1 8 Try.underlying22 hi1 hza1 hzb1 hzc1 rfl (by decide) (.slice (some ⟨wr.heap.size, 0, none⟩) 0 0) (0) ([]) rfl (HO0.out) (.slice (some ⟨g, 0, none⟩) m cap) (m) (ints (l.take m)) rfl ((take_Src HO.out HN.out (by omega)).keep (grown_push HD.out _)) (ints_one _) (HLs.out.2.2.1) (HLs.out.2.2.2.1) (by show wr.heap.size ≤ (wr.alloc (.cells #[] 3)).heap.size; rw [World.size_alloc]; omega) ?_
        intro v' w7 o7 g7 l7
        have HO1 : Hid (w7.ownsRow wr.heap.size 3 1 v' m (ints (l.take m))) := by (show w7.ownsRow wr.heap.size 3 1 v' m (ints (l.take m))); rw [Nat.zero_add, List.nil_append] at o7; exact o7
        have HG1 : Hid ((wr.drew.alloc (.cells #[] 3)).grownBy w7 (some wr.heap.size)) := g7
        have HG2 : Hid (wr.grownBy w7 none) := grown_own (grown_push HD.out _) g7 (fun x hx => by cases hx; exact Nat.le_refl _)
        clear o7 g7 l7
        refine hK.out _ _ (HG2.out) (fun hHeld3 => ?_)
        clear hK K9
        (try go_frame)
        refine wpAnyH_ready (rs := [9]) (by kernel_rfl) (by simp) ?_
        refine AllReadyH.cons rfl (fun K9 hK => ?_) AllReadyH.nil
        simp only [List.getElem_toArray, List.getElem_cons_zero, List.getElem_cons_succ]
        rw [if_pos (by rfl)]
        refine wp_app (.tmp 21) (.tmp 25) 22 rfl wr.heap.size 3 i1 _ 1 8 Try.underlying22 hi1 hza1 hzb1 hzc1 rfl (by decide) (v') (m) (ints (l.take m)) rfl (HO1.out) (.slice (some ⟨g, K, none⟩) (n - K) (cap - K)) (n - K) (ints (l.drop K)) rfl ((drop_Src HO.out HN.out hKn).keep HG2.out) (ints_one _) (HLs.out.1) (HLs.out.2.1) (HG2.out.size) ?_
        intro v9 w9 o7 g7 l7
        have HO3 : Hid (w9.ownsRow wr.heap.size 3 1 v9 (m + (n - K)) (ints (l.take m ++ l.drop K)) ∧ wr.grownBy w9 none) := ⟨by rw [ints_app];  exact o7, grown_own HG2.out g7 (fun x hx => (World.ownsRow.lt HO1.out x hx).1)⟩
        clear o7 g7 l7
        refine hK.out _ _ (HO3.out.2) (fun hHeld3 => ?_)
        clear hK K9
        (try go_frame)
        refine wpAnyH_take (i := 10) (v := ?_) rfl (by kernel_rfl) (by kernel_rfl) (by kernel_rfl) (fun _ _ _ h => h) (Or.inl ⟨by rfl, ?_⟩) (by assumption) ?_
        rotate_left 1
        · (intro w0 hSw; go_simp; try with_reducible rfl)
        simp only [List.getElem_toArray, List.getElem_cons_zero, List.getElem_cons_succ]
        go_frame
        refine wpAnyH_done (by kernel_rfl) ?_ _
        go_wp2
        go_ret
        exact Or.inl ⟨HF.out.mem, _, rfl, by unfold OwnI; rw [HE.out, HLs.out.2.2.2.2.2]; exact HO3.out.1, HO3.out.2⟩
    · have e2 : (y == x) = false := by
        have : ¬ y = x := by rw [hy]; exact HF.out.2.2 m hmk'
        simpa using this
      have hwk : wrap64 ((m : Int) + 1) = (m : Int) + 1 := by unfold wrap64; omega
      have HP : Hid (m + 1 ≤ k) := hmk'
      have HM : Hid (n - (intOf (.int .i64 ((m : Int) + 1))).toNat < n - (intOf (.int .i64 (m : Int))).toNat) := meas_next hlt
      clear hy k0 k2 k4 k5 k6 k7 k8 hwK Hk9
      go_wp2
      go_roundw
      case rel => exact ⟨m + 1, HP.out, by first | rfl | (rw [hwk]; rfl) | go_num, by first | exact trivial | rfl⟩
      case measure => first | exact HM.out | (rw [hwk]; exact HM.out)
theorem without_any (v : Value) (base : Nat) (l : List Int) (x : Int) (w : World) (O : OwnI w base v l) (hb : l.length ≤ 2048) : Calls Try.prog 121 #[v, .int .i64 x] w (WtPost w v l x) := by
  by_cases hx : x ∈ l
  · obtain ⟨k, hF⟩ := first_of hx
    have hpos : 0 < l.length := by have := hF.1; omega
    obtain ⟨g, cap, e1, _, _, hc, _, _⟩ := own_cell O hpos
    subst e1
    exact without_hit g cap base l x k w O hc hF hb
  · exact without_no v base l x w O hx hb
end Go.Proofs.Ytogpgldbbegniaa
