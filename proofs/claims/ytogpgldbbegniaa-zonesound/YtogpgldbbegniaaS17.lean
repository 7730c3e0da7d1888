/-
  Zones: are they made, is there a thing; owners, places; Len, Stamp; the numbers of an owner's things in a place.
  Zones: the numbers of an owner's things in a place.
-/
import Derived.Test.YtogpgldbbegniaaZmA
namespace Go.Proofs.Ytogpgldbbegniaa
open Go.RowKit

set_option maxHeartbeats 400000 in
theorem made_yes (b : Nat) (nx : Int) (w : World) (h : w.cell? ⟨b, 5, none⟩ = some (.int .i64 nx)) (hn : nx ≠ 0) : Calls Try.prog 61 #[.pointer (some ⟨b, 0, none⟩)] w fun e w' => e = .returned (.bool true) ∧ w' = w := by
  have hb : (nx != 0) = true := by simpa using hn
  go_enter Try.func61, Try.ntmps61
  go_wp2
  go_ret
  exact ⟨rfl, rfl⟩
set_option maxHeartbeats 400000 in
theorem made_zero (b : Nat) (w : World) (h : w.cell? ⟨b, 5, none⟩ = some (.int .i64 0)) : Calls Try.prog 61 #[.pointer (some ⟨b, 0, none⟩)] w fun e w' => e = .returned (.bool false) ∧ w' = w := by
  go_enter Try.func61, Try.ntmps61
  go_wp2
  go_ret
  exact ⟨rfl, rfl⟩
set_option maxHeartbeats 400000 in
theorem made_nil (w : World) : Calls Try.prog 61 #[.pointer none] w fun e w' => e = .returned (.bool false) ∧ w' = w := by
  go_enter Try.func61, Try.ntmps61
  go_wp2
  go_ret
  exact ⟨rfl, rfl⟩
set_option maxHeartbeats 400000 in
theorem has_any (b len cap : Nat) (p : Option Addr) (n : Int) (w : World) (h : w.cell? ⟨b, 0, none⟩ = some (.slice p len cap)) : Calls Try.prog 62 #[.pointer (some ⟨b, 0, none⟩), .int .i64 n] w fun e w' => e = .returned (.bool (decide (1 ≤ n ∧ n ≤ (len : Int)))) ∧ w' = w := by
  by_cases h1 : 1 ≤ n
  · by_cases h2 : n ≤ (len : Int)
    · rw [decide_eq_true ⟨h1, h2⟩]
      go_enter Try.func62, Try.ntmps62
      go_wp2
      go_ret
      exact ⟨rfl, rfl⟩
    · rw [decide_eq_false (fun q => h2 q.2)]
      go_enter Try.func62, Try.ntmps62
      go_wp2
      go_ret
      exact ⟨rfl, rfl⟩
  · rw [decide_eq_false (fun q => h1 q.1)]
    go_enter Try.func62, Try.ntmps62
    go_wp2
    go_ret
    exact ⟨rfl, rfl⟩
set_option maxHeartbeats 400000 in
theorem isOwner_any (n : Int) (w : World) : Calls Try.prog 68 #[.int .i64 n] w fun e w' => e = .returned (.bool (decide (n = 0 ∨ n = 1))) ∧ w' = w := by
  by_cases h1 : n = 0
  · rw [decide_eq_true (Or.inl h1)]
    have hb : (n == 0) = true := by simpa using h1
    clear h1
    go_enter Try.func68, Try.ntmps68
    go_wp2
    go_ret
    exact ⟨rfl, rfl⟩
  · have hb : (n == 0) = false := by simpa using h1
    by_cases h2 : n = 1
    · rw [decide_eq_true (Or.inr h2)]
      have hc : (n == 1) = true := by simpa using h2
      clear h1 h2
      go_enter Try.func68, Try.ntmps68
      go_wp2
      go_ret
      exact ⟨rfl, rfl⟩
    · rw [decide_eq_false (fun q => q.elim h1 h2)]
      have hc : (n == 1) = false := by simpa using h2
      clear h1 h2
      go_enter Try.func68, Try.ntmps68
      go_wp2
      go_ret
      exact ⟨rfl, rfl⟩
set_option maxHeartbeats 400000 in
theorem isPlace_any (n : Int) (w : World) : Calls Try.prog 63 #[.int .u8 n] w fun e w' => e = .returned (.bool (decide (1 ≤ n ∧ n ≤ 5))) ∧ w' = w := by
  by_cases h1 : 1 ≤ n
  · by_cases h2 : n ≤ 5
    · rw [decide_eq_true ⟨h1, h2⟩]
      go_enter Try.func63, Try.ntmps63
      go_wp2
      go_ret
      exact ⟨rfl, rfl⟩
    · rw [decide_eq_false (fun q => h2 q.2)]
      go_enter Try.func63, Try.ntmps63
      go_wp2
      go_ret
      exact ⟨rfl, rfl⟩
  · rw [decide_eq_false (fun q => h1 q.1)]
    go_enter Try.func63, Try.ntmps63
    go_wp2
    go_ret
    exact ⟨rfl, rfl⟩
set_option maxHeartbeats 400000 in
theorem len_any (b len cap : Nat) (p : Option Addr) (nx : Int) (w : World) (h : w.cell? ⟨b, 0, none⟩ = some (.slice p len cap)) (h5 : w.cell? ⟨b, 5, none⟩ = some (.int .i64 nx)) (hn : nx ≠ 0) : Calls Try.prog 36 #[.pointer (some ⟨b, 0, none⟩)] w fun e w' => e = .returned (.int .i64 (len : Int)) ∧ w' = w := by
  have M := made_yes b nx w h5 hn
  go_enter Try.func36, Try.ntmps36
  go_wp2_with (go_at_call 61; refine M.mono ?_; rintro e w' ⟨rfl, rfl⟩)
  go_ret
  exact ⟨rfl, rfl⟩
set_option maxHeartbeats 400000 in
theorem stamp_any (b : Nat) (nx : Int) (w : World) (h5 : w.cell? ⟨b, 5, none⟩ = some (.int .i64 nx)) (hn : nx ≠ 0) : Calls Try.prog 28 #[.pointer (some ⟨b, 0, none⟩)] w fun e w' => e = .returned (.int .i64 nx) ∧ w' = w := by
  have M := made_yes b nx w h5 hn
  go_enter Try.func28, Try.ntmps28
  go_wp2_with (go_at_call 61; refine M.mono ?_; rintro e w' ⟨rfl, rfl⟩)
  go_ret
  exact ⟨rfl, rfl⟩
theorem Try.info3i' : (Try.prog.info? 3).map (fun i => (i.zero, i.size, i.bytes)) = some (some (.int .i64 0), 1, 8) := by kernel_rfl
end Go.Proofs.Ytogpgldbbegniaa
namespace Go.Proofs.Ytogpgldbbegniaa
open Go.RowKit

theorem one_new (U : World) (x : Int) : ∀ j u, (ints [x])[j]? = some u → (U.alloc (.cells #[.int .i64 x] 3)).cell? ((⟨U.heap.size, 0, none⟩ : Addr).add j) = some u := fun j u hu => by
  rw [add_plain, Nat.zero_add, block_cell (alloc_at _ _ _)]
  simpa [ints] using hu
theorem one_new2 (U : World) (o : Obj) (x : Int) : ∀ j u, (ints [x])[j]? = some u → ((U.alloc o).alloc (.cells #[.int .i64 x] 3)).cell? ((⟨U.heap.size + 1, 0, none⟩ : Addr).add j) = some u := by
  have := one_new (U.alloc o) x
  rwa [World.size_alloc] at this
theorem thAt_at {ts : List Th} {k : Nat} (h : k < ts.length) : thAt ts ((k : Int) + 1) = ts[k] := by
  unfold thAt
  rw [show ((k : Int) + 1 - 1).toNat = k from by omega, List.getD_eq_getElem?_getD, List.getElem?_eq_getElem h]
  rfl
/-- A list of the call's own, one longer. -/
theorem own_more {w' : World} {base n : Nat} {v : Value} {l : List Int} {x : Int} (h : w'.ownsRow base 3 1 v (n + 1) (ints l ++ ints [x])) (hn : n = l.length) : OwnI w' base v (l ++ [x]) := by
  unfold OwnI
  rw [List.length_append, List.length_singleton, ints_app, ← hn]
  exact h
set_option maxRecDepth 100000 in
set_option maxHeartbeats 2000000 in
theorem numbers_any (b : Nat) (vt : Value) (ts : List Th) (p pl : Int) (w : World) (c0 : w.cell? ⟨b, 0, none⟩ = some vt) (T : ThsAt w vt ts) (hf : ts.length ≤ 2048) : Calls Try.prog 96 #[.pointer (some ⟨b, 0, none⟩), .int .i64 p, .int .u8 pl] w fun e w' => ∃ v, e = .returned v ∧ OwnI w' w.heap.size v (numsOf ts p pl) ∧ w.grownBy w' none := by
  obtain ⟨i0, hi, hz0, hz1, hz2⟩ := info_parts Try.info3i'
  obtain ⟨a, cap, rfl, hm, T⟩ := T
  have HT : Hid (0 < ts.length → ∃ g off, a = some ⟨g, off, none⟩ ∧ ∀ (j : Nat) t, ts[j]? = some t → w.rangeAt g (off + j * 11) (thc t)) := T
  clear T hm
  go_enter Try.func96, Try.ntmps96
  go_wp2
  go_loopw [7, 8, 9, 15] (fun v _ _ i wr => ∃ k : Nat, k ≤ ts.length ∧ i = .int .i64 (k : Int) ∧ OwnI wr w.heap.size v (numsUp ts p pl k) ∧ w.grownBy wr none) (fun _ _ _ i _ => ts.length - (intOf i).toNat)
  case atStart => exact ⟨0, Nat.zero_le _, rfl, OwnI.nil _ _, grown_refl _ _⟩
  case round =>
    obtain ⟨k, hk, rfl, O, G⟩ := hrel
    obtain ⟨U, hU⟩ : ∃ U, U = wr := ⟨_, rfl⟩
    subst hU
    obtain ⟨q, cq, rfl⟩ := O.form
    by_cases hlt : k < ts.length
    · obtain ⟨g, off, rfl, R⟩ := HT.out (by omega)
      obtain ⟨t, ht⟩ : ∃ t, ts[k]? = some t := ⟨_, List.getElem?_eq_getElem hlt⟩
      have et : thAt ts ((k : Int) + 1) = t := by rw [thAt_at hlt]; rw [List.getElem?_eq_getElem hlt] at ht; exact Option.some.inj ht
      obtain ⟨c1, c2, c3, c4, c5, c6, c7, c8, c9, c10, c11⟩ := range_cells (rangeAt_keep (R k t ht) G)
      have hwk : wrap64 ((k : Int) + 1) = (k : Int) + 1 := by unfold wrap64; omega
      have HO : Hid (U.ownsRow w.heap.size 3 1 (.slice q (numsUp ts p pl k).length cq) (numsUp ts p pl k).length (ints (numsUp ts p pl k))) := O
      have HG : Hid (w.grownBy U none) := G
      have hY : innB ts p pl ((k : Int) + 1) = (decide (t.owner = p) && decide (t.place = pl)) := by unfold innB; rw [et]
      have hlen := numsUp_len ts p pl k
      have hyes : innB ts p pl ((k : Int) + 1) = true → numsUp ts p pl (k + 1) = numsUp ts p pl k ++ [(k : Int) + 1] := numsUp_yes
      have hno : ¬ innB ts p pl ((k : Int) + 1) = true → numsUp ts p pl (k + 1) = numsUp ts p pl k := numsUp_no
      obtain ⟨l, hl⟩ : ∃ l, l = numsUp ts p pl k := ⟨_, rfl⟩
      rw [← hl] at HO hlen hyes hno ⊢
      obtain ⟨n, hn⟩ : ∃ n, n = l.length := ⟨_, rfl⟩
      rw [← hn] at HO hlen ⊢
      have HN : Hid (n = l.length) := hn
      have HL : Hid (n + 1 ≤ maxLen ∧ (n + 1) * 8 ≤ 140737488355328) := by show _ ∧ _; unfold maxLen; omega
      have HP : Hid (k + 1 ≤ ts.length) := hlt
      have HM : Hid (ts.length - (intOf (.int .i64 ((k : Int) + 1))).toNat < ts.length - (intOf (.int .i64 (k : Int))).toNat) := meas_next hlt
      clear R O G HT ht et hl hn hlen hk
      by_cases h1 : t.owner = p
      · have e1 : (t.owner == p) = true := by simpa using h1
        by_cases h2 : t.place = pl
        · have e2 : (t.place == pl) = true := by simpa using h2
          have HY : Hid (numsUp ts p pl (k + 1) = l ++ [(k : Int) + 1]) := hyes (by rw [hY, h1, h2]; simp)
          clear hyes hno hY h1 h2
          go_wp2_with (first | (at_builtin; go_loud (refine wpList_append_own _ rfl (.tmp 30) (.tmp 33) 22 rfl w.heap.size 3 i0 _ 1 8 Try.underlying22 hi hz0 hz1 hz2 rfl (by decide) _ n (ints l) rfl (World.ownsRow.alloc (World.ownsRow.alloc HO.out _) _) ⟨U.heap.size + 1, 0, none⟩ 1 1 (ints [(k : Int) + 1]) rfl rfl (one_new2 _ _ _) (ints_one _) HL.out.1 (by have := HL.out.2; omega) (by rw [World.size_alloc, World.size_alloc]; have := HG.out.size; omega) ?_; intro v3 w3 o3 g3 _; have HO3 : Hid (OwnI w3 w.heap.size v3 (l ++ [(k : Int) + 1])) := own_more o3 HN.out; have HG3 : Hid (w.grownBy w3 none) := grown_own (grown_push (grown_push HG.out _) _) g3 (fun x e => (World.ownsRow.lt HO.out x e).1); clear o3 g3)) | fail)
          go_roundw
          case rel => exact ⟨k + 1, HP.out, by first | rfl | (rw [hwk]; rfl) | go_num, by rw [HY.out]; exact HO3.out, HG3.out⟩
          case measure => first | exact HM.out | (rw [hwk]; exact HM.out)
        · have e2 : (t.place == pl) = false := by simpa using h2
          have HY : Hid (numsUp ts p pl (k + 1) = l) := hno (by rw [hY]; simp [h2])
          clear hyes hno hY h1 h2
          go_wp2
          go_roundw
          case rel => exact ⟨k + 1, HP.out, by first | rfl | (rw [hwk]; rfl) | go_num, by rw [HY.out]; unfold OwnI; rw [← HN.out]; exact World.ownsRow.alloc HO.out _, grown_push HG.out _⟩
          case measure => first | exact HM.out | (rw [hwk]; exact HM.out)
      · have e1 : (t.owner == p) = false := by simpa using h1
        have HY : Hid (numsUp ts p pl (k + 1) = l) := hno (by rw [hY]; simp [h1])
        clear hyes hno hY h1
        go_wp2
        go_roundw
        case rel => exact ⟨k + 1, HP.out, by first | rfl | (rw [hwk]; rfl) | go_num, by rw [HY.out]; unfold OwnI; rw [← HN.out]; exact World.ownsRow.alloc HO.out _, grown_push HG.out _⟩
        case measure => first | exact HM.out | (rw [hwk]; exact HM.out)
    · obtain rfl : k = ts.length := by omega
      have HF : Hid (OwnI U w.heap.size (.slice q (numsUp ts p pl ts.length).length cq) (numsOf ts p pl) ∧ w.grownBy U none) := ⟨O, G⟩
      clear O G HT
      go_wp2
      go_ret
      exact ⟨_, rfl, HF.out⟩
end Go.Proofs.Ytogpgldbbegniaa
