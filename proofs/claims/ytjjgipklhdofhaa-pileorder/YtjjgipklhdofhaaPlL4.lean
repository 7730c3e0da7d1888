/-
  PileOrder, walked: Shuffle changes the order alone, by the length and the state alone; Cut's lists are the list; Deal's hands and rest have just its numbers; what was put under is drawn behind all others; Without takes off one.
-/
import Derived.Test.YtjjgipklhdofhaaPlCm
import Derived.Deep.CutBlock
import Derived.Deep.CutRange
namespace Go.Proofs.Ytjjgipklhdofhaa
open Go.RowKit

theorem shuffled_perm (l : List Int) (s : Int) : (shuffled l s).1.Perm l := by
  cases l with
  | nil => exact List.Perm.refl _
  | cons a l => exact shuf_perm _ _ _ _ (by simp)
theorem shuffled_state {l m : List Int} (s : Int) (h : l.length = m.length) : (shuffled l s).2 = (shuffled m s).2 := by
  unfold shuffled
  rw [h]
  exact shuf_state _ _ _ _ _
theorem shuffled_places (l : List Int) (s : Int) : (shuffled l s).1 = (shuffled (places l.length) s).1.map fun p => l.getD p.toNat 0 := by
  cases l with
  | nil => rfl
  | cons a l =>
    unfold shuffled
    rw [places_len]
    exact shuf_places gen _ (a :: l) s (by simp)
/-- What stands at place k behind the shuffle stood at place Y. -/
theorem shuffled_at (l : List Int) (s : Int) {k : Nat} (hk : k < l.length) : ∃ Y : Nat, Y < l.length ∧ (shuffled (places l.length) s).1.getD k 0 = (Y : Int) ∧ (shuffled l s).1.getD k 0 = l.getD Y 0 := by
  have hl : (shuffled (places l.length) s).1.length = l.length := by rw [shuffled_len, places_len]
  have hm : (shuffled (places l.length) s).1.getD k 0 ∈ places l.length := (shuffled_perm _ s).mem_iff.1 (by rw [getD_at _ k (by omega)]; exact List.getElem_mem _)
  obtain ⟨h1, h2⟩ := places_mem hm
  refine ⟨((shuffled (places l.length) s).1.getD k 0).toNat, by omega, by omega, ?_⟩
  rw [shuffled_places l s, getD_at _ k (by rw [List.length_map]; omega), List.getElem_map, getD_at _ k (by omega)]
theorem ints_at_of {w : World} {v : Value} {l : List Int} (h : IntsB w v l) (hl : l.length ≤ maxLen) : L.IntsAt w v l := by
  rcases h with ⟨a, rfl, rfl⟩ | ⟨g, off, cap, rfl, hcap, hC⟩
  · exact ⟨a, 0, rfl, by decide, fun h => absurd h (by simp)⟩
  · exact ⟨_, cap, rfl, hl, fun _ => ⟨g, off, rfl, cells_of hC⟩⟩
theorem same_B {w : World} {u v : Value} {b n : Nat} {l : List Int} (hu : w.ownsRow b 3 1 u n (ints l)) (hv : IntsB w v l) (hl : l.length ≤ maxLen) (hn : l.length = n) : Calls Try.prog 14 #[u, v] w fun e w' => e = .returned (.bool true) ∧ w.grownBy w' none := by
  subst hn
  refine (L.same_ints u v l l w (L.Own.ints hu) (ints_at_of hv hl)).mono ?_
  rintro e w' ⟨rfl, n, rfl⟩
  exact ⟨by rw [decide_eq_true rfl], grown_drewN _ _ _⟩
theorem own_plain3 {w : World} {base n : Nat} {a : Option Addr} {c : Nat} {xs : List Value} (h : w.ownsRow base 3 1 (.slice a n c) n xs) (h0 : 0 < n) : ∃ g, a = some ⟨g, 0, none⟩ := by
  rcases h.2 with ⟨e, h1⟩ | ⟨g, cap, cur, e, _⟩
  · omega
  · cases e
    exact ⟨g, rfl⟩
theorem own_cells {w : World} {base g n c : Nat} {l : List Int} (h : w.ownsRow base 3 1 (.slice (some ⟨g, 0, none⟩) n c) n (ints l)) {k : Nat} (hk : k < n) : w.cell? ⟨g, k, none⟩ = some (.int .i64 (l.getD k 0)) := by
  rw [World.ownsRow.cellAt h k (by omega)]
  exact ints_at l k (by have := own_len h; omega)
/-- The cells of a list of the call's own. -/
theorem own_src {w : World} {base g n c : Nat} {xs : List Value} (h : w.ownsRow base 3 1 (.slice (some ⟨g, 0, none⟩) n c) n xs) : ∀ j u, xs[j]? = some u → w.cell? ((⟨g, 0, none⟩ : Addr).add j) = some u := World.ownsRow.cells h rfl
theorem flat_take {hs : List (List Int)} {i : Nat} {l : List Int} (h : hs[i]? = some l) : (hs.take i).flatten ++ l = (hs.take (i + 1)).flatten := by
  rw [List.take_add_one, h]
  simp
theorem dealP_perm (l : List Int) (h e : Int) (h0 : (dealP l h e).2.2 = 0) : ((dealP l h e).2.1 ++ (dealP l h e).1.flatten).Perm l := by
  unfold dealP at h0 ⊢
  split
  · rename_i hk
    exact deal_perm l _ _ (by
      obtain ⟨H, hH⟩ : ∃ H : Nat, h = (H : Int) := ⟨h.toNat, by omega⟩
      obtain ⟨E, hE⟩ : ∃ E : Nat, e = (E : Int) := ⟨e.toNat, by omega⟩
      subst hH
      subst hE
      have h9 := hk.2.2.2
      rw [← Int.natCast_mul] at h9
      have h8 := Int.ofNat_le.1 h9
      simp only [Int.toNat_natCast]
      rw [Nat.mul_comm]
      exact h8)
  · rename_i hk
    rw [if_neg hk] at h0
    simp at h0
theorem dealP_bound (l : List Int) (h e : Int) : (dealP l h e).2.1.length + (dealP l h e).1.flatten.length ≤ l.length := by
  by_cases h0 : (dealP l h e).2.2 = 0
  · have := (dealP_perm l h e h0).length_eq
    rw [List.length_append] at this
    omega
  · unfold dealP at h0 ⊢
    split
    · rename_i hk
      rw [if_pos hk] at h0
      simp at h0
    · simp
theorem flat_le {hs : List (List Int)} (i : Nat) : (hs.take i).flatten.length ≤ hs.flatten.length := by
  have h9 : hs.flatten = (hs.take i).flatten ++ (hs.drop i).flatten := by rw [← List.flatten_append, List.take_append_drop]
  rw [h9, List.length_append]
  omega
theorem wpl_append_two {P : Program} {w : World} {ops : Array Oper} {rest : List Oper} {o : Oper} {a : Act} {Q : Exit → Act → World → Prop} (hw : Region.wanted o (yielded ops a.tmps) = true) (s x : Operand) (t : TypeId)
    (ho : o.op = .call { callee := .builtin .append, args := #[s, x], argTypes := #[t, t] })
    (base : Nat) (i : TypeInfo) (z : Value) (ht : P.underlying t = some (.slice 3)) (hi : P.info? 3 = some i) (hz : i.zero = some z)
    (hsize : i.size = 1) (hby : i.bytes = 8) (hzs : z.cells.size = 1)
    (v : Value) (n : Nat) (xs : List Value) (hs : a.eval s = v) (hown : w.ownsRow base 3 1 v n xs)
    (vx : Value) (m b : Nat) (ys : List Value) (hx : a.eval x = vx) (hsrc : w.ownsRow b 3 1 vx m ys) (h1 : ∀ u ∈ ys, u.oneCell' = true)
    (h63 : n + m ≤ maxLen) (hbytes : (n + m) * 8 ≤ 140737488355328) (hbase : base ≤ w.heap.size)
    (h : ∀ v' w', w'.ownsRow base 3 1 v' (n + m) (xs ++ ys) → w.grownBy w' v.ownBlock → wpList P ops Q rest (a.put o.dst v') w') : wpList P ops Q (o :: rest) a w := by
  refine wpList_step fun K hK => ?_
  rw [if_pos hw]
  rcases hsrc.2 with ⟨e, h0⟩ | ⟨g, cap, cur, e, hb, hh, hn, hm, hsz, htk⟩
  · subst h0
    have hy : ys = [] := List.length_eq_zero_iff.1 (by have := hsrc.1; omega)
    subst hy
    have hrun := run_append_owned_none (P := P) (w := w) base t o.type 3 i 1 ht hi v n xs hown
    rw [e] at hx
    unfold Oper.wp
    simp [execOp, ho, resolve, invoke, builtin, hs, hx, hrun, Result.andThen]
    exact hK _ _ (h v w (by rw [List.append_nil]; exact hown) (grown_refl _ _))
  · subst e
    exact wp_append_at s x t ho base 3 i z 1 8 ht hi hz hsize hby hzs (by decide) v n xs hs hown ⟨g, 0, none⟩ m cap ys hx hsrc.1 (own_src hsrc) h1 h63 hbytes hbase (fun v' w' h2 h3 _ => hK _ _ (h v' w' h2 h3))
theorem row_plain4 {w : World} {base n i : Nat} {a : Option Addr} {c : Nat} {xs : List Value} (h : w.ownsRow base 22 1 (.slice a n c) n xs) (hi : i < n) : ∃ b, a = some ⟨b, 0, none⟩ := by
  rcases h.2 with ⟨e, h0⟩ | ⟨g, cap, cur, e, _⟩
  · omega
  · cases e
    exact ⟨g, rfl⟩
theorem deal_few4 (l : List Int) (h e : Int) : (dealP l h e).1.length ≤ 64 := by
  unfold dealP
  split
  · rename_i h9
    simp only [dealAll_len]
    omega
  · simp
theorem cut_ok {l : List Int} {k : Int} (h : 0 ≤ k ∧ k ≤ (l.length : Int)) : (cutP l k).2.2 = 0 ∧ (cutP l k).1 ++ (cutP l k).2.1 = l := by
  unfold cutP
  rw [if_pos h]
  exact ⟨rfl, List.take_append_drop _ _⟩
theorem cut_no {l : List Int} {k : Int} (h : ¬ (0 ≤ k ∧ k ≤ (l.length : Int))) : (cutP l k).2.2 = 2 := by
  unfold cutP
  rw [if_neg h]
theorem drop_step {l : List Int} {k : Nat} (x : Int) (hk : k < l.length) : (l ++ [x]).drop k = l.getD k 0 :: (l ++ [x]).drop (k + 1) := by
  rw [List.drop_eq_getElem_cons (by simp; omega)]
  congr 1
  rw [List.getElem_append_left hk, getD_at l k hk]
set_option maxRecDepth 100000 in
set_option maxHeartbeats 1000000 in
theorem order15_big (v : Value) (l : List Int) (s n9 h9 e9 : Int) (w : World) (h : IntsB w v l) (hn : 300 < l.length) (hb : l.length ≤ 17592186044416) : Calls Try.prog 6 #[v, .int .u64 s, .int .i64 n9, .int .i64 h9, .int .i64 e9] w fun e w' => e = .returned (.bool true) ∧ w.grownBy w' none := by
  obtain ⟨va, vc, rfl⟩ := h.form
  have hn' : (300 : Int) < (l.length : Int) := by omega
  have CA := awake_any w
  clear h hb
  go_enter Try.func6, Try.ntmps6
  go_wp2_with fail
  refine CA.mono ?_
  rintro e W ⟨rfl, g1⟩
  have HG : Hid (w.grownBy W none) := g1
  clear g1 CA
  go_wp2
  go_ret
  exact ⟨rfl, HG.out⟩
set_option maxRecDepth 100000 in
set_option maxHeartbeats 8000000 in
theorem order15_small (v : Value) (l : List Int) (s n9 h9 e9 : Int) (w : World) (h : IntsB w v l) (hn3 : l.length ≤ 300) (hs : isU s) : Calls Try.prog 6 #[v, .int .u64 s, .int .i64 n9, .int .i64 h9, .int .i64 e9] w fun e w' => e = .returned (.bool true) ∧ w.grownBy w' none := by
  obtain ⟨i0, hi, hz0, hz1, hz2⟩ := info_parts Try.info3i
  have HI : Hid (IntsB w v l) := h
  have Hbz : Hid ((l.length + 2) * 8 ≤ 140737488355328) := by show (l.length + 2) * 8 ≤ _; omega
  have Hs : Hid (isU s) := hs
  obtain ⟨va, vc, rfl⟩ := h.form
  obtain ⟨n, hnl⟩ : ∃ n, n = l.length := ⟨_, rfl⟩
  have Hn : Hid (l.length = n) := hnl.symm
  rw [← hnl] at hn3 HI ⊢
  have hn9 : (n : Int) ≤ 300 := by omega
  have hsm : Small n := by unfold Small; omega
  clear h hs hnl
  have HCp : Hid (∀ W, w.grownBy W none → Calls Try.prog 27 #[.slice va n vc] W fun e w' => ∃ u, e = .returned u ∧ w'.ownsRow W.heap.size 3 1 u n (ints l) ∧ W.grownBy w' none) := fun W gW => by
    have := copyI_any _ l W (HI.out.keep gW).a Hbz.out
    rw [Hn.out] at this
    exact this
  go_enter Try.func6, Try.ntmps6
  go_upto_block 0 with fail
  go_cut [11, 12] from 40 to 49 (fun p _ wc => wc.ownsRow w.heap.size 3 1 p n (ints (places n)) ∧ w.grownBy wc none)
  case first =>
    go_wp2_with fail
    go_loopw [11, 12] (fun p i wr => ∃ k : Nat, k ≤ n ∧ i = .int .i64 (k : Int) ∧ wr.ownsRow w.heap.size 3 1 p k (ints (places k)) ∧ w.grownBy wr none) (fun _ i _ => n - (intOf i).toNat)
    case atStart => exact ⟨0, Nat.zero_le _, rfl, World.ownsRow_nil _ _ _ _, grown_refl _ _⟩
    case round =>
      obtain ⟨k, hk, rfl, o1, g1⟩ := hrel
      obtain ⟨U, hU⟩ : ∃ U, U = wr := ⟨_, rfl⟩
      subst hU
      obtain ⟨pa, pc, rfl⟩ := own_form o1
      by_cases hlt : k < n
      · have hlt' : (k : Int) < (n : Int) := by omega
        have HG : Hid (w.grownBy U none) := g1
        have HP : Hid (U.ownsRow w.heap.size 3 1 (.slice pa k pc) k (ints (places k))) := o1
        have HB : Hid (∀ x, (Value.slice pa k pc).ownBlock = some x → w.heap.size ≤ x) := fun x hx => (World.ownsRow.lt o1 x hx).1
        clear o1 g1
        go_wp2_with (at_builtin; refine wpList_append_own_at _ rfl (.tmp 46) (.tmp 48) 22 rfl w.heap.size 3 i0 (.int .i64 0) 1 8 Try.underlying22 hi hz0 hz1 hz2 rfl (by decide) (.slice pa k pc) k (ints (places k)) rfl (HP.out.alloc _) ⟨U.heap.size, 0, none⟩ 1 1 [.int .i64 (k : Int)] rfl rfl (cell_one_new _ _ _) (fun x hx => by simp at hx; subst hx; rfl) (by unfold maxLen; omega) (by omega) (by have := HG.out.size; rw [World.size_alloc]; omega) ?_; intro v' w7 hown' hgrow7 hnil7 hlie; have HF : Hid (w7.ownsRow w.heap.size 3 1 v' (k + 1) (ints (places (k + 1))) ∧ w.grownBy w7 none) := ⟨by rw [← places_succ, ints_app]; exact hown', grown_own (grown_push HG.out _) hgrow7 HB.out⟩; clear hown' hgrow7 hnil7 hlie)
        go_roundw
        case rel => exact ⟨k + 1, hlt, by first | rfl | (rw [hsm.wrap hlt]; rfl), HF.out.1, HF.out.2⟩
        case measure => first | exact meas_next hlt | (rw [hsm.wrap hlt]; exact meas_next hlt)
      · have hlt' : ¬ (k : Int) < (n : Int) := by omega
        obtain rfl : k = n := by omega
        have HF : Hid (U.ownsRow w.heap.size 3 1 (.slice pa k pc) k (ints (places k)) ∧ w.grownBy U none) := ⟨o1, g1⟩
        clear o1 g1
        go_wp2_with fail
        go_meet
        case rel => exact ⟨HF.out.1, HF.out.2⟩
  case rest =>
    obtain ⟨o1, g1⟩ := hcut
    obtain ⟨V0, hV⟩ : ∃ V, V = wc := ⟨_, rfl⟩
    subst hV
    obtain ⟨pa, pc, rfl⟩ := own_form o1
    have HP : Hid (V0.ownsRow w.heap.size 3 1 (.slice pa n pc) n (ints (places n))) := o1
    have HG0 : Hid (w.grownBy V0 none) := g1
    clear o1 g1
    have C1 := HCp.out V0 HG0.out
    go_wp2_with fail
    refine C1.mono ?_
    rintro e V1 ⟨u1, rfl, o1, g1⟩
    obtain ⟨qa, qc, rfl⟩ := own_form o1
    have C2 := pshuf_any _ l s V1 (own_B o1 Hn.out).a Hbz.out Hs.out
    obtain ⟨A, hA⟩ : ∃ A, A = (shuffled l s).1 := ⟨_, rfl⟩
    obtain ⟨t, ht⟩ : ∃ t, t = (shuffled l s).2 := ⟨_, rfl⟩
    obtain ⟨B, hB⟩ : ∃ B, B = (shuffled (places n) s).1 := ⟨_, rfl⟩
    have htB : (shuffled (places n) s).2 = t := by rw [ht]; exact shuffled_state s (by rw [places_len, Hn.out])
    rw [← hA, ← ht, Hn.out] at C2
    have HG1 : Hid (V0.grownBy V1 none) := g1
    have HA : Hid (A = (shuffled l s).1) := hA
    have HB : Hid (B = (shuffled (places n) s).1) := hB
    have HtB : Hid ((shuffled (places n) s).2 = t) := htB
    clear C1 o1 g1 hA hB ht htB
    go_wp2_with fail
    refine C2.mono ?_
    rintro e V2 ⟨u2, rfl, o2, g2⟩
    obtain ⟨aa, ac, rfl⟩ := own_form o2
    have HO2 : Hid (V2.ownsRow V1.heap.size 3 1 (.slice aa n ac) n (ints A)) := o2
    have HG2 : Hid (V0.grownBy V2 none) := grown_trans HG1.out g2
    have C3 := pshuf_any _ (places n) s V2 (own_B (own_keepN HP.out HG2.out) (places_len n)).a (by rw [places_len]; omega) Hs.out
    rw [← HB.out, HtB.out, places_len] at C3
    clear C2 o2 g2
    go_wp2_with fail
    refine C3.mono ?_
    rintro e V3 ⟨u3, rfl, o3, g3⟩
    obtain ⟨ba, bc, rfl⟩ := own_form o3
    have HO3 : Hid (V3.ownsRow V2.heap.size 3 1 (.slice ba n bc) n (ints B)) := o3
    have HG3 : Hid (w.grownBy V3 none) := grown_trans HG0.out (grown_trans HG2.out g3)
    have HP3 : Hid (V3.ownsRow w.heap.size 3 1 (.slice pa n pc) n (ints (places n))) := own_keepN HP.out (grown_trans HG2.out g3)
    have HA3 : Hid (V3.ownsRow V1.heap.size 3 1 (.slice aa n ac) n (ints A)) := own_keepN HO2.out g3
    have lA : A.length = n := own_len HO2.out
    have lB : B.length = n := own_len HO3.out
    have C4 := mixed_any _ _ A l V3 (own_B HA3.out lA) (HI.out.keep HG3.out) (by rw [HA.out]; exact shuffled_perm l s) (by rw [lA]; omega)
    have HLB : Hid (B.length = n) := lB
    clear C3 o3 g3 HP HG0 HG1 HG2 HO2 lA lB HtB
    go_wp2_with fail
    refine C4.mono ?_
    rintro e V4 ⟨rfl, g4⟩
    have C5 := mixed_any _ _ B (places n) V4 (own_B (own_keepN HO3.out g4) HLB.out) (own_B (own_keepN HP3.out g4) (places_len n)) (by rw [HB.out]; exact shuffled_perm _ s) (by rw [HLB.out]; omega)
    have HG4 : Hid (V3.grownBy V4 none) := g4
    clear C4 g4
    go_wp2_with fail
    refine C5.mono ?_
    rintro e V5 ⟨rfl, g5⟩
    have HG5 : Hid (w.grownBy V5 none) := grown_trans HG3.out (grown_trans HG4.out g5)
    have HA5 : Hid (V5.ownsRow V1.heap.size 3 1 (.slice aa n ac) n (ints A)) := own_keepN HA3.out (grown_trans HG4.out g5)
    have HB5 : Hid (V5.ownsRow V2.heap.size 3 1 (.slice ba n bc) n (ints B)) := own_keepN HO3.out (grown_trans HG4.out g5)
    clear C5 g5 HG3 HG4 HA3 HO3 HP3
    go_upto_block 2 with fail
    go_cut [17] from 92 to 125 (fun _ wc => w.grownBy wc none)
    case first =>
      go_wp2_with fail
      go_loopw [17] (fun i wr => ∃ k : Nat, k ≤ n ∧ i = .int .i64 (k : Int) ∧ V5.grownBy wr none) (fun i _ => n - (intOf i).toNat)
      case atStart => exact ⟨0, Nat.zero_le _, rfl, grown_refl _ _⟩
      case round =>
        obtain ⟨k, hk, rfl, g1⟩ := hrel
        obtain ⟨U, hU⟩ : ∃ U, U = wr := ⟨_, rfl⟩
        subst hU
        have HG : Hid (V5.grownBy U none) := g1
        clear g1
        by_cases hlt : k < n
        · have hlt' : (k : Int) < (n : Int) := by omega
          have k0 : (0 : Int) ≤ (k : Int) := by omega
          obtain ⟨ag, rfl⟩ := own_plain3 HA5.out (show 0 < n by omega)
          obtain ⟨bg, rfl⟩ := own_plain3 HB5.out (show 0 < n by omega)
          obtain ⟨hn1, hc1, g, off, rfl, hC⟩ := HI.out.plain (show 0 < n by omega)
          obtain ⟨Y, hY, y1, y2⟩ := shuffled_at l s (k := k) (by omega)
          rw [Hn.out] at hY y1
          rw [← HB.out] at y1
          rw [← HA.out] at y2
          obtain ⟨z, hz⟩ : ∃ z, z = l.getD Y 0 := ⟨_, rfl⟩
          have c1 : U.cell? ⟨bg, k, none⟩ = some (.int .i64 (Y : Int)) := by rw [← y1]; exact own_cells (own_keepN HB5.out HG.out) hlt
          have c2 : U.cell? ⟨ag, k, none⟩ = some (.int .i64 z) := by rw [hz, ← y2]; exact own_cells (own_keepN HA5.out HG.out) hlt
          have c3 : U.cell? ⟨g, off + Y, none⟩ = some (.int .i64 z) := by rw [hz]; exact (hC.keep (grown_trans HG5.out HG.out)) Y (by omega)
          have y3 : ¬ ((Y : Int) < 0) := by omega
          have y4 : ¬ ((n : Int) ≤ (Y : Int)) := by omega
          have y5 : (Y : Int) < (n : Int) := by omega
          have y6 : (0 : Int) ≤ (Y : Int) := by omega
          clear hn1 hc1 hC y1 y2 hz hY
          go_upto_region 15 with fail
          go_region
          go_wp2_with fail
          go_roundw
          case rel => exact ⟨k + 1, hlt, by first | rfl | (rw [hsm.wrap hlt]; rfl), grown_trans HG.out (grown_drew _)⟩
          case measure => first | exact meas_next hlt | (rw [hsm.wrap hlt]; exact meas_next hlt)
        · have hlt' : ¬ (k : Int) < (n : Int) := by omega
          have HF : Hid (w.grownBy U none) := grown_trans HG5.out HG.out
          go_wp2_with fail
          go_meet
          case rel => exact HF.out
    case rest =>
      have g6 := hcut
      obtain ⟨W0, hV⟩ : ∃ V, V = wc := ⟨_, rfl⟩
      subst hV
      have HG6 : Hid (w.grownBy W0 none) := g6
      clear g6 HG5 HA5 HB5 HA HB HLB hcut
      have C1 := HCp.out W0 HG6.out
      go_wp2_with fail
      refine C1.mono ?_
      rintro e W1 ⟨u1, rfl, o1, g1⟩
      obtain ⟨qa, qc, rfl⟩ := own_form o1
      obtain ⟨zc, hzc⟩ : ∃ zc, zc = cutP l n9 := ⟨_, rfl⟩
      have Hyes : Hid (0 ≤ n9 ∧ n9 ≤ (n : Int) → zc.2.2 = 0 ∧ zc.1 ++ zc.2.1 = l) := fun h => by rw [hzc]; exact cut_ok (by rw [Hn.out]; exact h)
      have Hno : Hid (¬ (0 ≤ n9 ∧ n9 ≤ (n : Int)) → zc.2.2 = 2) := fun h => by rw [hzc]; exact cut_no (by rw [Hn.out]; exact h)
      have C2 := pcut_any _ l n9 W1 (own_B o1 Hn.out) Hbz.out
      unfold CuPost at C2
      rw [← hzc] at C2
      obtain ⟨lc, ld, z1⟩ := zc
      have HG7 : Hid (w.grownBy W1 none) := grown_trans HG6.out g1
      clear C1 o1 g1 hzc
      go_wp2_with fail
      refine C2.mono ?_
      rintro e W2 ⟨c, d, rfl, ⟨m, hm1, hm2, hd, oc, od⟩, g2⟩
      obtain ⟨ca, cc, rfl⟩ := own_form oc
      obtain ⟨da, dc, rfl⟩ := own_form od
      have HOc : Hid (W2.ownsRow W1.heap.size 3 1 (.slice ca lc.length cc) lc.length (ints lc)) := oc
      have HOd : Hid (W2.ownsRow m 3 1 (.slice da ld.length dc) ld.length (ints ld)) := od
      have HG8 : Hid (w.grownBy W2 none) := grown_trans HG7.out g2
      clear C2 oc od g2 hm1 hm2 hd HG7
      go_upto_region 18 with fail
      go_cut [157] from 134 to 156 (fun x157 wc => x157 = .bool false ∧ w.grownBy wc none)
      case first =>
        by_cases h0 : 0 ≤ n9
        · by_cases h1 : n9 ≤ (n : Int)
          · obtain ⟨hz9, hcat⟩ : z1 = 0 ∧ lc ++ ld = l := Hyes.out ⟨h0, h1⟩
            subst hz9
            have hlen : lc.length + ld.length = n := by rw [← List.length_append, hcat]; exact Hn.out
            have HLen : Hid (lc.length + ld.length = n) := hlen
            have HCat : Hid (lc ++ ld = l) := hcat
            have CC := copyI_any _ lc W2 (own_B HOc.out rfl).a (by omega)
            clear hcat hlen Hyes Hno
            go_wp2_with fail
            refine CC.mono ?_
            rintro e W3 ⟨u3, rfl, o3, g3⟩
            obtain ⟨xa, xc, rfl⟩ := own_form o3
            have HX : Hid (W3.ownsRow W2.heap.size 3 1 (.slice xa lc.length xc) lc.length (ints lc)) := o3
            have HG9 : Hid (W2.grownBy W3 none) := g3
            clear CC o3 g3
            go_wp2_with (at_builtin; refine wpl_append_two (by rfl) (.tmp 150) (.tmp 151) 22 rfl W2.heap.size i0 (.int .i64 0) Try.underlying22 hi hz0 hz1 hz2 rfl (.slice xa lc.length xc) lc.length (ints lc) rfl HX.out (.slice da ld.length dc) ld.length m (ints ld) rfl (own_keepN HOd.out HG9.out) (ints_one _) (by have := HLen.out; unfold maxLen; omega) (by have := HLen.out; omega) HG9.out.size ?_; intro v' w7 h7 g7; have HF : Hid (w7.ownsRow W2.heap.size 3 1 v' n (ints l) ∧ w.grownBy w7 none) := ⟨by rw [← HLen.out, ← HCat.out, ints_app]; exact h7, grown_own (grown_trans HG8.out HG9.out) g7 (fun x hx => Nat.le_trans HG8.out.size (World.ownsRow.lt HX.out x hx).1)⟩; clear h7 g7)
            refine (same_B HF.out.1 (HI.out.keep HF.out.2) (by rw [Hn.out]; unfold maxLen; omega) Hn.out).mono ?_
            rintro e W4 ⟨rfl, g4⟩
            have HF2 : Hid (w.grownBy W4 none) := grown_trans HF.out.2 g4
            clear g4
            go_wp2_with fail
            go_meet
            case rel => exact ⟨rfl, HF2.out⟩
          · obtain hz9 : z1 = 2 := Hno.out (by omega)
            subst hz9
            clear Hyes Hno
            go_wp2_with fail
            go_meet
            case rel => exact ⟨rfl, HG8.out⟩
        · obtain hz9 : z1 = 2 := Hno.out (by omega)
          subst hz9
          clear Hyes Hno
          go_wp2_with fail
          go_meet
          case rel => exact ⟨rfl, HG8.out⟩
      case rest =>
        obtain ⟨rfl, g9⟩ := hcut
        obtain ⟨X0, hV⟩ : ∃ V, V = wc := ⟨_, rfl⟩
        subst hV
        have HG9 : Hid (w.grownBy X0 none) := g9
        clear g9 Hyes Hno HOc HOd HG8 HG6
        have C1 := HCp.out X0 HG9.out
        go_wp2_with fail
        refine C1.mono ?_
        rintro e X1 ⟨u1, rfl, o1, g1⟩
        obtain ⟨ra, rc, rfl⟩ := own_form o1
        obtain ⟨zd, hzd⟩ : ∃ zd, zd = dealP l h9 e9 := ⟨_, rfl⟩
        have HPm : Hid (zd.2.2 = 0 → (zd.2.1 ++ zd.1.flatten).Perm l) := fun h => by rw [hzd] at h ⊢; exact dealP_perm l h9 e9 h
        have HBd : Hid (zd.2.1.length + zd.1.flatten.length ≤ n) := by show zd.2.1.length + zd.1.flatten.length ≤ n; rw [hzd, ← Hn.out]; exact dealP_bound l h9 e9
        have HH : Hid (zd.1.length ≤ 64) := by show zd.1.length ≤ 64; rw [hzd]; exact deal_few4 l h9 e9
        have C2 := pdeal_any _ l h9 e9 X1 (own_B o1 Hn.out) Hbz.out
        unfold DePost at C2
        rw [← hzd] at C2
        obtain ⟨hs, lg, z2⟩ := zd
        have HGa : Hid (w.grownBy X1 none) := grown_trans HG9.out g1
        clear C1 o1 g1 hzd
        go_wp2_with fail
        refine C2.mono ?_
        rintro e X2 ⟨f, g, rfl, ⟨vs, m, of, hh, hm1, hm2, og⟩, g2⟩
        obtain ⟨fa, fc, rfl⟩ := own22_form of
        obtain ⟨ga, gc, rfl⟩ := own_form og
        have KF : Hid (X2.ownsRow X1.heap.size 22 1 (.slice fa hs.length fc) hs.length vs ∧ HandsAt X2 X1.heap.size vs hs m) := ⟨of, hh⟩
        have HGb : Hid (w.grownBy X2 none) := grown_trans HGa.out g2
        have CC := copyI_any _ lg X2 (own_B og rfl).a (by have h1 : lg.length + hs.flatten.length ≤ n := HBd.out; omega)
        clear C2 of og hh g2 hm1 hm2 HGa HG9
        obtain ⟨H, hH⟩ : ∃ H, H = hs.length := ⟨_, rfl⟩
        have HHs : Hid (H = hs.length) := hH
        have hH6 : H ≤ 64 := by rw [hH]; exact HH.out
        rw [← hH] at KF ⊢
        have hH9 : (H : Int) ≤ 64 := by omega
        have hmH : Small H := by unfold Small; omega
        clear hH HH
        go_wp2_with fail
        refine CC.mono ?_
        rintro e X3 ⟨u3, rfl, o3, g3⟩
        have HX3 : Hid (X3.ownsRow X2.heap.size 3 1 u3 lg.length (ints lg) ∧ X2.grownBy X3 none) := ⟨o3, g3⟩
        clear CC o3 g3
        go_upto_block 4 with fail
        go_cut [24, 25] from 169 to 180 (fun p _ wc => (∃ j, wc.ownsRow X2.heap.size 3 1 p j (ints (lg ++ hs.flatten))) ∧ X2.grownBy wc none)
        case first =>
          go_wp2_with fail
          go_loopw [24, 25] (fun p i wr => ∃ k j : Nat, k ≤ H ∧ i = .int .i64 (k : Int) ∧ wr.ownsRow X2.heap.size 3 1 p j (ints (lg ++ (hs.take k).flatten)) ∧ X2.grownBy wr none) (fun _ i _ => H - (intOf i).toNat)
          case atStart => exact ⟨0, lg.length, Nat.zero_le _, rfl, by have := HX3.out.1; simpa using this, HX3.out.2⟩
          case round =>
            clear HX3
            obtain ⟨k, j, hk, rfl, o1, g1⟩ := hrel
            obtain ⟨U, hU⟩ : ∃ U, U = wr := ⟨_, rfl⟩
            subst hU
            obtain ⟨pa9, pc9, rfl⟩ := own_form o1
            have HO : Hid (U.ownsRow X2.heap.size 3 1 (.slice pa9 j pc9) j (ints (lg ++ (hs.take k).flatten))) := o1
            have HG : Hid (X2.grownBy U none) := g1
            clear o1 g1
            by_cases hlt : k < H
            · have hlt' : (k : Int) < (H : Int) := by omega
              have k0 : (0 : Int) ≤ (k : Int) := by omega
              obtain ⟨fb, rfl⟩ := row_plain4 KF.out.1 hlt
              obtain ⟨vk, lk, hvk, hlk, ok⟩ := (KF.out.2.keep HG.out).at (i := k) (by rw [← HHs.out]; exact hlt)
              obtain ⟨vka, vkc, rfl⟩ := own_form ok
              have c1 : U.cell? ⟨fb, k, none⟩ = some (.slice vka lk.length vkc) := by rw [World.ownsRow.cellAt (own22_keep KF.out.1 HG.out) k (by omega)]; exact hvk
              have HFl : Hid ((hs.take k).flatten ++ lk = (hs.take (k + 1)).flatten) := flat_take hlk
              have HOk : Hid (U.ownsRow X1.heap.size 3 1 (.slice vka lk.length vkc) lk.length (ints lk)) := ok
              have HJ : Hid (j + lk.length ≤ 300) := by
                show j + lk.length ≤ 300
                have h1 := own_len HO.out
                have h2 := congrArg List.length HFl.out
                have h3 := flat_le (hs := hs) (k + 1)
                have h4 : lg.length + hs.flatten.length ≤ n := HBd.out
                rw [List.length_append] at h1 h2
                omega
              clear hvk hlk ok
              obtain ⟨nk, hnk⟩ : ∃ nk, nk = lk.length := ⟨_, rfl⟩
              rw [← hnk] at c1 HOk HJ
              clear hnk
              go_wp2_with (at_builtin; refine wpl_append_two (by rfl) (.tmp 175) (.tmp 179) 22 rfl X2.heap.size i0 (.int .i64 0) Try.underlying22 hi hz0 hz1 hz2 rfl (.slice pa9 j pc9) j (ints (lg ++ (hs.take k).flatten)) rfl HO.out (.slice vka nk vkc) nk X1.heap.size (ints lk) rfl HOk.out (ints_one _) (by have := HJ.out; unfold maxLen; omega) (by have := HJ.out; omega) HG.out.size ?_; intro v' w7 h7 g7; have HF : Hid (w7.ownsRow X2.heap.size 3 1 v' (j + nk) (ints (lg ++ (hs.take (k + 1)).flatten)) ∧ X2.grownBy w7 none) := ⟨by rw [← HFl.out, ← List.append_assoc, ints_app]; exact h7, grown_own HG.out g7 (fun x hx => (World.ownsRow.lt HO.out x hx).1)⟩; clear h7 g7)
              go_roundw
              case rel => exact ⟨k + 1, j + nk, hlt, by first | rfl | (rw [hmH.wrap hlt]; rfl), HF.out.1, HF.out.2⟩
              case measure => first | exact meas_next hlt | (rw [hmH.wrap hlt]; exact meas_next hlt)
            · have hlt' : ¬ (k : Int) < (H : Int) := by omega
              have HF : Hid ((∃ j, U.ownsRow X2.heap.size 3 1 (.slice pa9 j pc9) j (ints (lg ++ hs.flatten))) ∧ X2.grownBy U none) := ⟨⟨j, by have h9 := HO.out; rw [List.take_of_length_le (by rw [← HHs.out]; omega)] at h9; exact h9⟩, HG.out⟩
              go_wp2_with fail
              go_meet
              case rel =>
                obtain ⟨⟨j9, h9⟩, hg9⟩ := HF.out
                exact ⟨⟨j, by have := own_len h9; have h8 := HO.out; rw [List.take_of_length_le (by rw [← HHs.out]; omega)] at h8; exact h8⟩, hg9⟩
        case rest =>
          obtain ⟨⟨j, o1⟩, g1⟩ := hcut
          obtain ⟨Y0, hV⟩ : ∃ V, V = wc := ⟨_, rfl⟩
          subst hV
          obtain ⟨pa9, pc9, rfl⟩ := own_form o1
          have HO : Hid (Y0.ownsRow X2.heap.size 3 1 (.slice pa9 j pc9) j (ints (lg ++ hs.flatten))) := o1
          have HGc : Hid (w.grownBy Y0 none) := grown_trans HGb.out g1
          clear o1 g1 HX3 KF HGb
          go_upto_region 26 with fail
          go_cut [188] from 181 to 187 (fun x188 wc => x188 = .bool false ∧ w.grownBy wc none)
          case first =>
            by_cases hz : z2 = 0
            · subst hz
              have lL := own_len HO.out
              have CM := mixed_any _ _ (lg ++ hs.flatten) l Y0 (own_B HO.out lL) (HI.out.keep HGc.out) (HPm.out rfl) (by have h1 : lg.length + hs.flatten.length ≤ n := HBd.out; rw [List.length_append]; omega)
              clear lL HPm HBd
              go_wp2_with fail
              refine CM.mono ?_
              rintro e Y1 ⟨rfl, g1⟩
              have HF : Hid (w.grownBy Y1 none) := grown_trans HGc.out g1
              clear g1 CM
              go_wp2_with fail
              go_meet
              case rel => exact ⟨rfl, HF.out⟩
            · have hz2' : (z2 == 0) = false := by simpa using hz
              clear HPm HBd
              go_wp2_with fail
              go_meet
              case rel => exact ⟨rfl, HGc.out⟩
          case rest =>
            obtain ⟨rfl, g1⟩ := hcut
            obtain ⟨Y2, hV⟩ : ∃ V, V = wc := ⟨_, rfl⟩
            subst hV
            have HGd : Hid (w.grownBy Y2 none) := g1
            clear g1 HO HGc HPm HBd
            have C1 := HCp.out Y2 HGd.out
            go_wp2_with fail
            refine C1.mono ?_
            rintro e Y3 ⟨u1, rfl, o1, g1⟩
            obtain ⟨sa, sc, rfl⟩ := own_form o1
            have C2 := punder_any _ l n9 Y3 (own_B o1 Hn.out).a Hbz.out
            rw [Hn.out] at C2
            have HGe : Hid (w.grownBy Y3 none) := grown_trans HGd.out g1
            clear C1 o1 g1
            go_wp2_with fail
            refine C2.mono ?_
            rintro e Y4 ⟨u2, rfl, o2, g2⟩
            have HX4 : Hid (Y4.ownsRow Y3.heap.size 3 1 u2 (n + 1) (ints (l ++ [n9])) ∧ w.grownBy Y4 none) := ⟨o2, grown_trans HGe.out g2⟩
            clear C2 o2 g2 HGe HGd
            go_upto_block 6 with fail
            go_cut [26, 27, 28, 29, 30] from 193 to 215 (fun r _ _ _ _ wc => (∃ b, wc.ownsRow b 3 1 r 1 (ints [n9])) ∧ w.grownBy wc none)
            case first =>
              go_wp2_with fail
              go_loopw [26, 27] (fun r i wr => ∃ k b : Nat, k ≤ n ∧ i = .int .i64 (k : Int) ∧ wr.ownsRow b 3 1 r (n + 1 - k) (ints ((l ++ [n9]).drop k)) ∧ w.grownBy wr none) (fun _ i _ => n - (intOf i).toNat)
              case atStart => exact ⟨0, Y3.heap.size, Nat.zero_le _, rfl, HX4.out.1, HX4.out.2⟩
              case round =>
                clear HX4
                obtain ⟨k, b, hk, rfl, o1, g1⟩ := hrel
                obtain ⟨U, hU⟩ : ∃ U, U = wr := ⟨_, rfl⟩
                subst hU
                have HG : Hid (w.grownBy U none) := g1
                clear g1
                by_cases hlt : k < n
                · have hlt' : (k : Int) < (n : Int) := by omega
                  have k0 : (0 : Int) ≤ (k : Int) := by omega
                  have C1 := pdraw_any _ ((l ++ [n9]).drop k) U (own_B o1 (by rw [List.length_drop, List.length_append, Hn.out]; rfl)) (by rw [List.length_drop, List.length_append, Hn.out]; simp; omega)
                  unfold DrPost at C1
                  rw [drop_step n9 (show k < l.length by rw [Hn.out]; exact hlt)] at C1
                  simp only [List.headD_cons, List.tail_cons, ne_eq, reduceCtorEq, not_false_eq_true, decide_true] at C1
                  obtain ⟨y, hy⟩ : ∃ y, y = l.getD k 0 := ⟨_, rfl⟩
                  rw [← hy] at C1
                  obtain ⟨hn1, hc1, g, off, rfl, hC⟩ := HI.out.plain (show 0 < n by omega)
                  have HCl : Hid (CellsB w g off l ∧ y = l.getD k 0) := ⟨hC, hy⟩
                  obtain ⟨sa9, sc9, rfl⟩ := own_form o1
                  clear o1 hn1 hc1 hC hy
                  go_wp2_with fail
                  refine C1.mono ?_
                  rintro e U1 ⟨u, rfl, o2, g2⟩
                  have HG1 : Hid (w.grownBy U1 none) := grown_trans HG.out g2
                  have c1 : U1.cell? ⟨g, off + k, none⟩ = some (.int .i64 y) := by rw [HCl.out.2]; exact HG1.out.cell (HCl.out.1 k (by rw [Hn.out]; exact hlt)) (by simp)
                  have HF : Hid (U1.ownsRow U.heap.size 3 1 u (n + 1 - (k + 1)) (ints ((l ++ [n9]).drop (k + 1)))) := by
                    have h9 := o2
                    rw [show ((l ++ [n9]).drop (k + 1)).length = n + 1 - (k + 1) by rw [List.length_drop, List.length_append, Hn.out]; rfl] at h9
                    exact h9
                  clear C1 o2 g2
                  go_wp2_with fail
                  go_roundw
                  case rel => exact ⟨k + 1, U.heap.size, hlt, by first | rfl | (rw [hsm.wrap hlt]; rfl), HF.out, HG1.out⟩
                  case measure => first | exact meas_next hlt | (rw [hsm.wrap hlt]; exact meas_next hlt)
                · have hlt' : ¬ (k : Int) < (n : Int) := by omega
                  have hkn : k = n := by omega
                  have h1 : (l ++ [n9]).drop k = [n9] := by rw [hkn, ← Hn.out, List.drop_left]
                  have h2 : n + 1 - k = 1 := by omega
                  rw [h1, h2] at o1
                  have HF : Hid (U.ownsRow b 3 1 u26 1 (ints [n9])) := o1
                  clear o1 h1 h2 hkn
                  go_wp2_with fail
                  go_meet
                  case rel => exact ⟨⟨b, HF.out⟩, HG.out⟩
            case rest =>
              obtain ⟨⟨b, o1⟩, g1⟩ := hcut
              obtain ⟨Z0, hV⟩ : ∃ V, V = wc := ⟨_, rfl⟩
              subst hV
              have HGf : Hid (w.grownBy Z0 none) := g1
              have C1 := pdraw_any _ [n9] Z0 (own_B o1 rfl) (by simp)
              obtain ⟨ta, tc, rfl⟩ := own_form o1
              clear o1 g1 HX4
              go_wp2_with fail
              refine C1.mono ?_
              rintro e Z1 ⟨u, rfl, o2, g2⟩
              obtain ⟨la, lc9, rfl⟩ := own_form o2
              have HGg : Hid (w.grownBy Z1 none) := grown_trans HGf.out g2
              clear C1 o2 g2 HGf
              have C2 := HCp.out Z1 HGg.out
              go_wp2_with fail
              refine C2.mono ?_
              rintro e Z2 ⟨u2, rfl, o2, g2⟩
              obtain ⟨ma, mc, rfl⟩ := own_form o2
              have C3 := pwithout_any _ l n9 Z2 (own_B o2 Hn.out) Hbz.out
              have HGh : Hid (w.grownBy Z2 none) := grown_trans HGg.out g2
              obtain ⟨b2, hb2⟩ : ∃ b2, b2 = decide (n9 ∈ l) := ⟨_, rfl⟩
              have HB2 : Hid (b2 = decide (n9 ∈ l)) := hb2
              have C4 : Calls Try.prog 18 #[.slice ma n mc, .int .i64 n9] Z2 fun e w' => ∃ u, e = .returned (.tuple #[u, .bool b2]) ∧ (∃ m : List Int, m = (if n9 ∈ l then l.erase n9 else []) ∧ w'.ownsRow Z2.heap.size 3 1 u m.length (ints m)) ∧ Z2.grownBy w' none := by rw [hb2]; exact C3
              clear C2 C3 o2 g2 hb2 HGg
              go_wp2_with fail
              refine C4.mono ?_
              rintro e Z3 ⟨u3, rfl, ⟨lw, hlw, o3⟩, g3⟩
              obtain ⟨wa, wc9, rfl⟩ := own_form o3
              obtain ⟨kw, hkw⟩ : ∃ kw, kw = lw.length := ⟨_, rfl⟩
              rw [← hkw] at o3 ⊢
              have HKw : Hid (kw = lw.length) := hkw
              have HW2 : Hid (Z3.ownsRow Z2.heap.size 3 1 (.slice wa kw wc9) kw (ints lw)) := o3
              have HLw : Hid (lw = if n9 ∈ l then l.erase n9 else []) := hlw
              have HGi : Hid (w.grownBy Z3 none) := grown_trans HGh.out g3
              clear C4 o3 g3 hlw HGh hkw
              go_upto_region 38 with fail
              go_cut [255] from 229 to 254 (fun x255 wc => x255 = .bool false ∧ w.grownBy wc none)
              case first =>
                have CT : Hid (∀ W, w.grownBy W none → Calls Try.prog 29 #[.slice va n vc, .int .i64 n9] W fun e w' => e = .returned (.int .i64 ((l.count n9 : Nat) : Int)) ∧ W.grownBy w' none) := fun W gW => count_any _ l n9 W (HI.out.keep gW) Hbz.out
                obtain ⟨q1, hq1⟩ : ∃ q1, q1 = l.count n9 := ⟨_, rfl⟩
                rw [← hq1] at CT
                have C1 := CT.out Z3 HGi.out
                by_cases hin : n9 ∈ l
                · have hb2 : b2 = true := by rw [HB2.out]; exact decide_eq_true hin
                  have hlw : lw = l.erase n9 := by rw [HLw.out, if_pos hin]
                  obtain ⟨e1, e2⟩ := erase_count l n9 hin
                  rw [← hlw] at e1 e2
                  have hpos : 0 < q1 := by rw [hq1]; exact List.count_pos_iff.2 hin
                  have hqn : q1 ≤ n := by rw [hq1, ← Hn.out]; exact List.count_le_length
                  obtain ⟨q2, hq2⟩ : ∃ q2, q2 = lw.count n9 := ⟨_, rfl⟩
                  rw [Hn.out, ← HKw.out] at e1
                  rw [← hq1, ← hq2] at e2
                  have CW : Hid (∀ W, Z3.grownBy W none → Calls Try.prog 29 #[.slice wa kw wc9, .int .i64 n9] W fun e w' => e = .returned (.int .i64 (q2 : Int)) ∧ W.grownBy w' none) := fun W gW => by
                    rw [hq2]
                    exact count_any _ lw n9 W (own_B (own_keepN HW2.out gW) HKw.out.symm) (by rw [← HKw.out]; omega)
                  have f1 : (0 : Int) < (q1 : Int) := by omega
                  have f2 : ((kw : Int) != (n : Int) - 1) = false := by
                    have : (kw : Int) = (n : Int) - 1 := by omega
                    rw [this]
                    simp
                  have f3 : ((q2 : Int) != (q1 : Int) - 1) = false := by
                    have : (q2 : Int) = (q1 : Int) - 1 := by omega
                    rw [this]
                    simp
                  have f4 : (q1 : Int) ≤ 300 := by omega
                  have f5 : (1 : Int) ≤ (n : Int) := by omega
                  have f6 : (q2 : Int) = (q1 : Int) - 1 := by omega
                  have f7 : (kw : Int) = (n : Int) - 1 := by omega
                  clear e1 e2 hqn hq1 hq2 hlw HLw HB2 f6 f7
                  subst hb2
                  go_wp2_with fail
                  refine C1.mono ?_
                  rintro e Z4 ⟨rfl, g4⟩
                  have HG4 : Hid (Z3.grownBy Z4 none) := g4
                  have C2 := CW.out Z4 g4
                  clear C1 g4
                  go_wp2_with fail
                  refine C2.mono ?_
                  rintro e Z5 ⟨rfl, g5⟩
                  have HG5 : Hid (w.grownBy Z5 none) := grown_trans HGi.out (grown_trans HG4.out g5)
                  have C3 := CT.out Z5 HG5.out
                  clear C2 g5
                  go_wp2_with fail
                  refine C3.mono ?_
                  rintro e Z6 ⟨rfl, g6⟩
                  have HG6 : Hid (w.grownBy Z6 none) := grown_trans HG5.out g6
                  clear C3 g6
                  go_wp2_with fail
                  go_meet
                  case rel => exact ⟨rfl, HG6.out⟩
                · have hb2 : b2 = false := by rw [HB2.out]; exact decide_eq_false hin
                  have hq0 : q1 = 0 := by rw [hq1]; exact List.count_eq_zero.2 hin
                  subst hb2
                  subst hq0
                  clear hq1
                  go_wp2_with fail
                  refine C1.mono ?_
                  rintro e Z4 ⟨rfl, g4⟩
                  have HG4 : Hid (w.grownBy Z4 none) := grown_trans HGi.out g4
                  clear C1 g4
                  go_wp2_with fail
                  go_meet
                  case rel => exact ⟨rfl, HG4.out⟩
              case rest =>
                obtain ⟨rfl, g1⟩ := hcut
                obtain ⟨Z9, hV⟩ : ∃ V, V = wc := ⟨_, rfl⟩
                subst hV
                have HGj : Hid (w.grownBy Z9 none) := g1
                have CA := awake_any Z9
                clear g1 HGi HW2 HLw HB2 HKw
                go_wp2_with fail
                refine CA.mono ?_
                rintro e Z10 ⟨rfl, g1⟩
                have HF : Hid (w.grownBy Z10 none) := grown_trans HGj.out g1
                clear CA g1
                go_wp2
                go_ret
                exact ⟨rfl, HF.out⟩
theorem order15 (v : Value) (l : List Int) (s n9 h9 e9 : Int) (w : World) (h : IntsB w v l) (hb : (l.length + 2) * 8 ≤ 140737488355328) (hs : isU s) : Calls Try.prog 6 #[v, .int .u64 s, .int .i64 n9, .int .i64 h9, .int .i64 e9] w fun e w' => e = .returned (.bool true) ∧ w.grownBy w' none := by
  by_cases hn : l.length ≤ 300
  · exact order15_small v l s n9 h9 e9 w h hn hs
  · exact order15_big v l s n9 h9 e9 w h (by omega) (by omega)
end Go.Proofs.Ytjjgipklhdofhaa
