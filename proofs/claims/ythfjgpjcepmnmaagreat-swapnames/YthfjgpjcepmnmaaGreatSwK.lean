/-
  Swaps: is a swap among those that were used; the next swap.
-/
import Derived.Test.YthfjgpjcepmnmaaGreatSwJ
namespace Go.Proofs.YthfjgpjcepmnmaaGreat
open Go.RowKit Go.Shelf

def sameTP (s o : Sd) : Bool := decide (o.th = s.th) && decide (o.pl = s.pl)
set_option maxRecDepth 100000 in
set_option maxHeartbeats 4000000 in
theorem scl_any (s o : Sd) (b : Nat) (w : World) (S : SdB w b s) : Calls Tryz.prog 210 #[.agg (sdc o).toArray, .pointer (some ⟨b, 0, none⟩)] w fun e w' => e = .returned (.bool (sameTP s o)) ∧ w.grownBy w' none := by
  obtain ⟨V, hV⟩ : ∃ V, V = w.alloc (.cells #[.int .i64 o.th, .int .i64 o.pl, .int .u8 o.wh.wn, .int .u8 o.wh.vb, .int .u8 o.wh.wm, .int .i64 o.wh.ct, .int .u8 o.wh.su, .int .u8 o.wh.tr, .int .u8 o.wh.mr, .string o.wh.nm] 40) := ⟨_, rfl⟩
  have HG : Hid (w.grownBy V none) := by rw [hV]; exact World.grownBy_alloc _ _ none
  have HO : Hid (SdB V w.heap.size o) := by rw [hV]; exact alloc_at w _ _
  have HS : Hid (SdB V b s) := grown_keep HG.out S (by simp)
  unfold sdc
  clear S
  go_enter Tryz.func210, Tryz.ntmps210
  go_upto_region 1 with fail
  rw [← hV]
  clear hV
  obtain ⟨n0, hn0⟩ : ∃ n0, n0 = w.heap.size := ⟨_, rfl⟩
  simp only [← hn0] at HO ⊢
  clear hn0
  obtain ⟨s0, s1, -⟩ := sd_box HS.out
  obtain ⟨o0, o1, -⟩ := sd_box HO.out
  by_cases h1 : o.th = s.th
  · have k1 : (o.th == s.th) = true := by rw [h1]; exact beq_self_eq_true _
    have HR : Hid (sameTP s o = (o.pl == s.pl)) := by show _ = _; unfold sameTP; rw [decide_eq_true h1, Bool.true_and, beq_dec]
    clear h1
    go_wp2
    go_ret
    exact ⟨ret_bb HR.out.symm, HG.out⟩
  · have k1 : (o.th == s.th) = false := by simpa using h1
    have HR : Hid (sameTP s o = false) := by show _ = _; unfold sameTP; rw [decide_eq_false h1, Bool.false_and]
    clear h1
    go_wp2
    go_ret
    exact ⟨ret_bb HR.out.symm, HG.out⟩
set_option maxRecDepth 100000 in
set_option maxHeartbeats 4000000 in
theorem scnt_none (p : Option Addr) (c : Nat) (fv : Value) (w : World) : Calls Tryz.prog 267 #[.slice p 0 c, fv] w fun e w' => e = .returned (.int .i64 (-1)) ∧ w' = w := by
  go_enter Tryz.func267, Tryz.ntmps267
  go_wp2_with fail
  refine wp_loop_rounds 1 ?_
  rw [rounds_succ]
  go_wp2
  go_ret
  exact ⟨rfl, rfl⟩
set_option maxRecDepth 100000 in
set_option maxHeartbeats 4000000 in
theorem scon_none (p : Option Addr) (c : Nat) (fv : Value) (w : World) : Calls Tryz.prog 209 #[.slice p 0 c, fv] w fun e w' => e = .returned (.bool false) ∧ w' = w := by
  have C := scnt_none p c fv w
  go_enter Tryz.func209, Tryz.ntmps209
  go_wp2_with fail
  refine C.mono ?_
  rintro e1 w1 ⟨rfl, rfl⟩
  go_wp2_with fail
  go_ret
  exact ⟨rfl, rfl⟩
theorem scon_any (v : Value) (S : List Sd) (n : Nat) (s : Sd) (w : World) (A : sdR.At w v S) (c : SdB w n s) : Calls Tryz.prog 209 #[v, .func (.func 210) #[] #[.pointer (some ⟨n, 0, none⟩)]] w fun e w' => e = .returned (.bool (amgB S s)) ∧ w.grownBy w' none := by
  by_cases h0 : S.length = 0
  · have e1 : S = [] := List.length_eq_zero_iff.1 h0
    subst e1
    obtain ⟨p, cap, rfl⟩ := A.form
    refine (scon_none p cap _ w).mono ?_
    rintro e w' ⟨rfl, rfl⟩
    exact ⟨rfl, grown_refl _ _⟩
  · obtain ⟨p, cap, e1, hmx, hA⟩ := A
    obtain ⟨g, off, e2, hR⟩ := hA (Nat.pos_of_ne_zero h0)
    subst e2
    subst e1
    haveI : Inhabited Sd := ⟨Sd.none⟩
    have eg : ∀ args w, (callFunc 210 args).run Tryz.prog w = .ok (.enter 210 args) w := enters_of Tryz.func210 (by kernel_rfl) rfl
    have hb : g < w.heap.size := World.block_lt_of_cell? _ _ (sd_cells (hR 0 S[0] (List.getElem?_eq_getElem (Nat.pos_of_ne_zero h0)))).1
    have hS := AnyQ.slices_ContainsFunc Tryz.cntD 10 Tryz.isAgg40 Tryz.sizeOf40 sdc (fun _ => rfl) (fun y => sameTP s y) 210 #[.pointer (some ⟨n, 0, none⟩)] eg g off S.length cap S w
      (fun W x hW => (scl_any s x n W (by have := hW.block n (block_lt c); show W.heap[n]? = _; rw [this]; exact c)).mono fun e w' q => ⟨q.1, hW.trans ((grown_below q.2).mono hW.size)⟩)
      (Nat.le_refl _) (by unfold maxLen at hmx; omega) hb (fun j hj i u hu => by
        have q := hR j S[j] (List.getElem?_eq_getElem hj) i u
        rw [show S[j]! = S[j] from by simp [hj]] at hu
        exact q hu)
    change Calls Tryz.prog 209 _ _ _ at hS
    refine hS.mono ?_
    rintro e w' ⟨rfl, hb'⟩
    refine ⟨ret_bb ?_, ⟨hb'.os, hb'.tape, hb'.output, hb'.size, fun k hk _ => hb'.block k hk⟩⟩
    rw [List.take_length]
    rfl
set_option maxRecDepth 100000 in
set_option maxHeartbeats 4000000 in
theorem sisAmong_any (v : Value) (S : List Sd) (s : Sd) (w : World) (A : sdR.At w v S) : Calls Tryz.prog 150 #[v, sdv s] w fun e w' => e = .returned (.bool (amgB S s)) ∧ w.grownBy w' none := by
  have hmf : ∀ (fn : Fn) (first cap : Array Value) (w : World), (Instr.makeFunc fn first cap).run Tryz.prog w = .ok (.func fn first cap) w := fun _ _ _ _ => rfl
  obtain ⟨V, hV⟩ : ∃ V, V = w.alloc (.cells #[.int .i64 s.th, .int .i64 s.pl, .int .u8 s.wh.wn, .int .u8 s.wh.vb, .int .u8 s.wh.wm, .int .i64 s.wh.ct, .int .u8 s.wh.su, .int .u8 s.wh.tr, .int .u8 s.wh.mr, .string s.wh.nm] 40) := ⟨_, rfl⟩
  have HG : Hid (w.grownBy V none) := by rw [hV]; exact World.grownBy_alloc _ _ none
  have HS : Hid (SdB V w.heap.size s) := by rw [hV]; exact alloc_at w _ _
  have C := scon_any v S w.heap.size s V (A.keep HG.out) HS.out
  obtain ⟨pv, cv, rfl⟩ := A.form
  unfold sdv
  clear A
  go_enter Tryz.func150, Tryz.ntmps150
  go_upto_region 1 with fail
  rw [← hV]
  clear hV
  go_wp2_with fail
  refine C.mono ?_
  rintro e1 w1 ⟨rfl, g1⟩
  have HG1 : Hid (V.grownBy w1 none) := g1
  clear C g1
  go_wp2_with fail
  go_ret
  exact ⟨rfl, grown_trans HG.out HG1.out⟩
end Go.Proofs.YthfjgpjcepmnmaaGreat
