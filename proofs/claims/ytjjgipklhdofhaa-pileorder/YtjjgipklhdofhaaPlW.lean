/-
  slices.Index of numbers; Without, of the program and of the document: the list without the first x.
-/
import Derived.Test.YtjjgipklhdofhaaPlD
import Derived.Test.YtjjgipklhdofhaaPlI
import Derived.Deep.RegionHeld
namespace Go.Proofs.Ytjjgipklhdofhaa
open Go.RowKit

/-- None of the first k numbers is x. -/
def NonI (l : List Int) (x : Int) (k : Nat) : Prop := ∀ j, j < k → l.getD j 0 ≠ x
/-- x stands at k, and not ahead of it. -/
def FstI (l : List Int) (x : Int) (k : Nat) : Prop := k < l.length ∧ l.getD k 0 = x ∧ NonI l x k
theorem first_of {l : List Int} {x : Int} (h : x ∈ l) : ∃ k, FstI l x k := by
  induction l with
  | nil => simp at h
  | cons a l ih =>
    by_cases e : a = x
    · exact ⟨0, by simp, by simpa using e, fun j hj => by omega⟩
    · obtain ⟨k, h1, h2, h3⟩ := ih (by rcases List.mem_cons.1 h with h | h; exact absurd h.symm e; exact h)
      refine ⟨k + 1, by simpa using h1, by simpa using h2, fun j hj => ?_⟩
      cases j with
      | zero => simpa using e
      | succ j => simpa using h3 j (by omega)
theorem none_of {l : List Int} {x : Int} (h : x ∉ l) : NonI l x l.length := fun j hj e => h (by rw [← e, getD_at l j hj]; exact List.getElem_mem _)
theorem FstI.erase {l : List Int} {x : Int} {k : Nat} (h : FstI l x k) : l.erase x = l.take k ++ l.drop (k + 1) :=
  erase_at l x k h.1 (by rw [← getD_at l k h.1]; exact h.2.1) (fun j hj => by have := h.2.2 j hj; rw [getD_at l j (by have := h.1; omega)] at this; exact this)
theorem FstI.mem {l : List Int} {x : Int} {k : Nat} (h : FstI l x k) : x ∈ l := by rw [← h.2.1, getD_at l k h.1]; exact List.getElem_mem _
theorem NonI.next {l : List Int} {x : Int} {k : Nat} (h : NonI l x k) (hx : l.getD k 0 ≠ x) : NonI l x (k + 1) := fun j hj => by
  rcases (show j < k ∨ j = k from by omega) with h' | rfl
  · exact h j h'
  · exact hx
theorem own_len {w : World} {base n : Nat} {v : Value} {l : List Int} (h : w.ownsRow base 3 1 v n (ints l)) : l.length = n := by
  have := h.1
  rw [length_ints] at this
  omega
/-- The cells of a list that may be cut. -/
def CellsB (w : World) (g off : Nat) (l : List Int) : Prop := ∀ j, j < l.length → w.cell? ⟨g, off + j, none⟩ = some (.int .i64 (l.getD j 0))
theorem cells_of {w : World} {g off : Nat} {l : List Int} (h : ∀ (j : Nat) u, (ints l)[j]? = some u → w.cell? ⟨g, off + j, none⟩ = some u) : CellsB w g off l := fun j hj => h j _ (ints_at l j hj)
theorem CellsB.keep {w w' : World} {g off : Nat} {l : List Int} (h : CellsB w g off l) (k : w.grownBy w' none) : CellsB w' g off l := fun j hj => k.cell (h j hj) (by simp)
theorem CellsB.ints {w : World} {g off cap : Nat} {l : List Int} (h : CellsB w g off l) : IntsA w (.slice (some ⟨g, off, none⟩) l.length cap) l := Or.inr ⟨_, _, rfl, fun j u hu => by
  have hj := (List.getElem?_eq_some_iff.1 hu).1
  rw [length_ints] at hj
  rw [add_plain, h j hj, ← hu, ints_at l j hj]⟩
set_option maxHeartbeats 1000000 in
theorem indexI_hit (g off cap n : Nat) (l : List Int) (x : Int) (k : Nat) (w : World) (hC : CellsB w g off l) (hF : FstI l x k) (hn : n = l.length) (hm : Small n) : Calls Try.prog 33 #[.slice (some ⟨g, off, none⟩) n cap, .int .i64 x] w fun e w' => e = .returned (.int .i64 (k : Int)) ∧ w' = w := by
  have HC : Hid (CellsB w g off l) := hC
  have HF : Hid (FstI l x k) := hF
  have HN : Hid (n = l.length) := hn
  have hkn : k < n := by rw [hn]; exact hF.1
  clear hC hF hn
  go_enter Try.func33, Try.ntmps33
  go_wp2_with fail
  go_loopw [8] (fun i wr => ∃ m : Nat, m ≤ k ∧ i = .int .i64 m ∧ wr = w) (fun i _ => n - (intOf i).toNat)
  case atStart => exact ⟨0, Nat.zero_le _, rfl, rfl⟩
  case round =>
    obtain ⟨m, hmk, rfl, rfl⟩ := hrel
    have hlt : m < n := by omega
    have hlt' : (m : Int) < (n : Int) := by omega
    have hk0 : (0 : Int) ≤ (m : Int) := by omega
    obtain ⟨y, hy⟩ : ∃ y, y = l.getD m 0 := ⟨_, rfl⟩
    have D : wr.cell? ⟨g, off + m, none⟩ = some (.int .i64 y) := by rw [hy]; exact HC.out m (by have := HN.out; omega)
    have HY : Hid (y = l.getD m 0) := hy
    clear hy
    rcases (show m = k ∨ m < k from by omega) with e | hmk'
    · have hd : x = y := by rw [HY.out, e]; exact HF.out.2.1.symm
      subst e
      subst hd
      go_wp2
      go_ret
      exact ⟨rfl, rfl⟩
    · have hd : ¬ (x = y) := fun e => HF.out.2.2 m hmk' (by rw [← HY.out]; exact e.symm)
      have hd2 : (x == y) = false := by simpa using hd
      go_wp2_with fail
      go_roundw
      case rel => exact ⟨m + 1, hmk', by first | rfl | (rw [hm.wrap hlt]; rfl), by first | rfl | trivial⟩
      case measure => first | exact meas_next hlt | (rw [hm.wrap hlt]; exact meas_next hlt)
set_option maxHeartbeats 1000000 in
theorem indexI_miss (g off cap n : Nat) (l : List Int) (x : Int) (w : World) (hC : CellsB w g off l) (hF : NonI l x l.length) (hn : n = l.length) (hm : Small n) : Calls Try.prog 33 #[.slice (some ⟨g, off, none⟩) n cap, .int .i64 x] w fun e w' => e = .returned (.int .i64 (-1)) ∧ w' = w := by
  have HC : Hid (CellsB w g off l) := hC
  have HF : Hid (NonI l x l.length) := hF
  have HN : Hid (n = l.length) := hn
  clear hC hF hn
  go_enter Try.func33, Try.ntmps33
  go_wp2_with fail
  go_loopw [8] (fun i wr => ∃ m : Nat, m ≤ n ∧ i = .int .i64 m ∧ wr = w) (fun i _ => n - (intOf i).toNat)
  case atStart => exact ⟨0, Nat.zero_le _, rfl, rfl⟩
  case round =>
    obtain ⟨m, hmk, rfl, rfl⟩ := hrel
    rcases (show m = n ∨ m < n from by omega) with e | hlt
    · have hlt' : ¬ (m : Int) < (n : Int) := by omega
      clear e
      go_wp2
      go_ret
      exact ⟨rfl, rfl⟩
    · have hlt' : (m : Int) < (n : Int) := by omega
      have hk0 : (0 : Int) ≤ (m : Int) := by omega
      obtain ⟨y, hy⟩ : ∃ y, y = l.getD m 0 := ⟨_, rfl⟩
      have D : wr.cell? ⟨g, off + m, none⟩ = some (.int .i64 y) := by rw [hy]; exact HC.out m (by have := HN.out; omega)
      have hd : ¬ (x = y) := fun e => HF.out m (by have := HN.out; omega) (by rw [← hy]; exact e.symm)
      have hd2 : (x == y) = false := by simpa using hd
      clear hy
      go_wp2_with fail
      go_roundw
      case rel => exact ⟨m + 1, hlt, by first | rfl | (rw [hm.wrap hlt]; rfl), by first | rfl | trivial⟩
      case measure => first | exact meas_next hlt | (rw [hm.wrap hlt]; exact meas_next hlt)
set_option maxHeartbeats 1000000 in
theorem indexI_nil (a : Option Addr) (x : Int) (w : World) : Calls Try.prog 33 #[.slice a 0 0, .int .i64 x] w fun e w' => e = .returned (.int .i64 (-1)) ∧ w' = w := by
  go_enter Try.func33, Try.ntmps33
  go_wp2_with fail
  go_loopw [8] (fun i wr => i = .int .i64 0 ∧ wr = w) (fun _ _ => 0)
  case atStart => exact ⟨rfl, rfl⟩
  case round =>
    obtain ⟨rfl, rfl⟩ := hrel
    go_wp2
    go_ret
    exact ⟨rfl, rfl⟩
/-- What Without answers: the list without the first x and true, or nothing and false. -/
def WoPost (w : World) (l : List Int) (x : Int) (e : Ending) (w' : World) : Prop := ∃ u, e = .returned (.tuple #[u, .bool (decide (x ∈ l))]) ∧ (∃ m : List Int, m = (if x ∈ l then l.erase x else []) ∧ w'.ownsRow w.heap.size 3 1 u m.length (ints m)) ∧ w.grownBy w' none
theorem WoPost.yes {w w' : World} {l : List Int} {x : Int} {u : Value} {k n : Nat} (hF : FstI l x k) (ho : w'.ownsRow w.heap.size 3 1 u n (ints (l.take k ++ l.drop (k + 1)))) (hg : w.grownBy w' none) : WoPost w l x (.returned (.tuple #[u, .bool true])) w' :=
  ⟨u, by rw [decide_eq_true hF.mem], ⟨_, rfl, by rw [if_pos hF.mem, hF.erase, own_len ho]; exact ho⟩, hg⟩
theorem WoPost.no {w : World} {l : List Int} {x : Int} (hF : x ∉ l) : WoPost w l x (.returned (.tuple #[.slice none 0 0, .bool false])) w :=
  ⟨_, by rw [decide_eq_false hF], ⟨_, rfl, by rw [if_neg hF]; exact World.ownsRow_nil _ _ _ _⟩, grown_refl _ _⟩
theorem wo_drop {w : World} {base n k K : Nat} {v : Value} {l : List Int} (hK : K = k + 1) (h : w.ownsRow base 3 1 v n (ints (l.take k ++ l.drop K))) : w.ownsRow base 3 1 v n (ints (l.take k ++ l.drop (k + 1))) := by
  subst hK
  exact h
set_option maxRecDepth 100000 in
set_option maxHeartbeats 4000000 in
theorem pwithout_hit (g off cap : Nat) (l : List Int) (x : Int) (k : Nat) (w : World) (hC : CellsB w g off l) (hcap : l.length ≤ cap) (hF : FstI l x k) (hb : (l.length + 2) * 8 ≤ 140737488355328) : Calls Try.prog 18 #[.slice (some ⟨g, off, none⟩) l.length cap, .int .i64 x] w (WoPost w l x) := by
  have HF : Hid (FstI l x k) := hF
  obtain ⟨n, hnl⟩ : ∃ n, n = l.length := ⟨_, rfl⟩
  have Hn : Hid (n = l.length) := hnl
  have hkn : k < n := by rw [hnl]; exact hF.1
  have hm : Small n := by unfold Small; omega
  rw [← hnl] at hcap hb ⊢
  have CI := indexI_hit g off cap n l x k w hC hF hnl hm
  have gd : w.grownBy w.drew none := grown_drewN w 1 none
  have HD : Hid (w.grownBy w.drew none) := gd
  have hI : IntsA w.drew (.slice (some ⟨g, off, none⟩) n cap) l := by rw [hnl]; exact (hC.keep gd).ints
  have lt : (l.take k).length = k := by rw [List.length_take]; omega
  have ld : (l.drop (k + 1)).length = n - (k + 1) := by rw [List.length_drop, hnl]
  obtain ⟨K, hK⟩ : ∃ K, K = k + 1 := ⟨_, rfl⟩
  have HK : Hid (K = k + 1) := hK
  have hKn : K ≤ n := by omega
  rw [← hK] at ld
  have CJ := joined_any (.slice (some ⟨g, off, none⟩) k cap) _ (l.take k) (l.drop K) w.drew (ints_upto hI (by omega)) (ints_past (k := K) hI hKn hcap) (by rw [lt, ld]; omega)
  have hsz : w.drew.heap.size = w.heap.size := rfl
  rw [lt, ld, hsz] at CJ
  have k0 : ¬ ((k : Int) < 0) := by omega
  have k2 : (k : Int) ≤ (n : Int) := by omega
  have k3 : (n : Int) ≤ (cap : Int) := by omega
  have k4 : (k : Int) ≤ (cap : Int) := by omega
  have k5 : (0 : Int) ≤ (k : Int) := by omega
  have k6 : (K : Int) ≤ (n : Int) := by omega
  have k7 : (K : Int) ≤ (cap : Int) := by omega
  have k8 : (0 : Int) ≤ (K : Int) := by omega
  have k9 : (k : Int) + 1 = (K : Int) := by omega
  have hwK : IntKind.i64.wrap (K : Int) = (K : Int) := by rw [IntKind.wrap_i64]; omega
  have hn9 : (n : Int) ≤ 17592186044416 := by omega
  clear hC hF hnl gd hI lt ld hsz hb hm hK
  by_cases e1 : cap = K
  · subst e1
    obtain rfl : n = cap := by omega
    rw [if_pos rfl, Nat.sub_self] at CJ
    go_enter Try.func18, Try.ntmps18
    go_wp2_with fail
    refine CI.mono ?_
    rintro e W ⟨rfl, h1⟩
    obtain rfl : w = W := h1.symm
    clear CI h1
    go_upto_region 4 with fail
    go_region_with (go_at_call 30; refine CJ.mono ?_; clear CJ; rintro e w1 ⟨rfl, o1, g1⟩; have HO1 : Hid (w1.ownsRow w.heap.size 3 1 (.slice (some ⟨w.heap.size, 0, none⟩) (k + 0) (k + 0)) (k + 0) (ints (l.take k ++ l.drop n))) := o1; have HG1 : Hid (w.drew.grownBy w1 none) := g1; clear o1 g1)
    all_goals (go_wp2; go_ret2; exact WoPost.yes HF.out (wo_drop HK.out HO1.out) (grown_trans HD.out HG1.out))
  · rw [if_neg e1] at CJ
    have e2 : ¬ (K = cap) := fun e => e1 e.symm
    go_enter Try.func18, Try.ntmps18
    go_wp2_with fail
    refine CI.mono ?_
    rintro e W ⟨rfl, h1⟩
    obtain rfl : w = W := h1.symm
    clear CI h1
    go_upto_region 4 with fail
    go_region_with (go_at_call 30; refine CJ.mono ?_; clear CJ; rintro e w1 ⟨rfl, o1, g1⟩; have HO1 : Hid (w1.ownsRow w.heap.size 3 1 (.slice (some ⟨w.heap.size, 0, none⟩) (k + (n - K)) (k + (n - K))) (k + (n - K)) (ints (l.take k ++ l.drop K))) := o1; have HG1 : Hid (w.drew.grownBy w1 none) := g1; clear o1 g1)
    all_goals (go_wp2; go_ret2; exact WoPost.yes HF.out (wo_drop HK.out HO1.out) (grown_trans HD.out HG1.out))
set_option maxHeartbeats 1000000 in
theorem pwithout_no (v : Value) (l : List Int) (x : Int) (w : World) (hI : ∃ a c, v = .slice a l.length c) (C : Calls Try.prog 33 #[v, .int .i64 x] w fun e w' => e = .returned (.int .i64 (-1)) ∧ w' = w) (hx : x ∉ l) : Calls Try.prog 18 #[v, .int .i64 x] w (WoPost w l x) := by
  obtain ⟨a, c, rfl⟩ := hI
  go_enter Try.func18, Try.ntmps18
  go_wp2_with fail
  refine C.mono ?_
  rintro e W ⟨rfl, h1⟩
  obtain rfl : w = W := h1.symm
  clear C h1
  go_wp2
  go_ret2
  exact WoPost.no hx
theorem pwithout_any (v : Value) (l : List Int) (x : Int) (w : World) (h : IntsB w v l) (hb : (l.length + 2) * 8 ≤ 140737488355328) : Calls Try.prog 18 #[v, .int .i64 x] w (WoPost w l x) := by
  have hf := h.form
  rcases h with ⟨a, rfl, rfl⟩ | ⟨g, off, cap, rfl, hcap, hC⟩
  · exact pwithout_no _ _ x w hf (indexI_nil a x w) (by simp)
  · by_cases hx : x ∈ l
    · obtain ⟨k, hF⟩ := first_of hx
      exact pwithout_hit g off cap l x k w (cells_of hC) hcap hF hb
    · exact pwithout_no _ _ x w hf (indexI_miss g off cap _ l x w (cells_of hC) (none_of hx) rfl (by unfold Small; omega)) hx
theorem wp_append_at {P : Program} {w : World} {o : Oper} {a : Act} {K : Act → World → Prop} {Q : Exit → Act → World → Prop} (s x : Operand) (t : TypeId)
    (ho : o.op = .call { callee := .builtin .append, args := #[s, x], argTypes := #[t, t] })
    (base : Nat) (e : TypeId) (i : TypeInfo) (z : Value) (size bytes : Nat) (ht : P.underlying t = some (.slice e)) (hi : P.info? e = some i) (hz : i.zero = some z)
    (hsize : i.size = size) (hby : i.bytes = bytes) (hzs : z.cells.size = size) (hsz : 0 < size)
    (v : Value) (n : Nat) (xs : List Value) (hs : a.eval s = v) (hown : w.ownsRow base e size v n xs)
    (ad : Addr) (m c : Nat) (news : List Value) (hx : a.eval x = .slice (some ad) m c) (hl : news.length = m * size) (hnews : ∀ j u, news[j]? = some u → w.cell? (ad.add j) = some u) (h1 : ∀ u ∈ news, u.oneCell' = true)
    (h63 : n + m ≤ maxLen) (hbytes : (n + m) * bytes ≤ 140737488355328) (hbase : base ≤ w.heap.size)
    (h : ∀ v' w', w'.ownsRow base e size v' (n + m) (xs ++ news) → w.grownBy w' v.ownBlock → (v'.ownBlock = v.ownBlock ∨ v'.ownBlock = some w.heap.size) → K (a.put o.dst v') w') : Oper.wp P o a w K Q := by
  obtain ⟨v', w', hr, h2, h3, _, h5⟩ := run_append_own_at (P := P) w base t o.type e i z size bytes ht hi hz hsize hby hzs hsz v n xs hown ad m c news hl hnews h1 h63 hbytes hbase
  unfold Oper.wp execOp
  simp only [ho, resolve, invoke, builtin, Sem.run_bind, Sem.run_pure, Result.andThen_ok, List.map_toArray, List.map_cons, List.map_nil, hs, hx, hr]
  exact h v' w' h2 h3 h5
set_option maxRecDepth 100000 in
set_option maxHeartbeats 4000000 in
theorem rwithout_hit (g off cap : Nat) (l : List Int) (x : Int) (k : Nat) (w : World) (hC : CellsB w g off l) (hcap : l.length ≤ cap) (hF : FstI l x k) (hb : (l.length + 2) * 8 ≤ 140737488355328) : Calls Try.prog 22 #[.slice (some ⟨g, off, none⟩) l.length cap, .int .i64 x] w (WoPost w l x) := by
  obtain ⟨i0, hi, hz0, hz1, hz2⟩ := info_parts Try.info3i
  have HF : Hid (FstI l x k) := hF
  obtain ⟨n, hnl⟩ : ∃ n, n = l.length := ⟨_, rfl⟩
  have Hn : Hid (n = l.length) := hnl
  have hkn : k < n := by rw [hnl]; exact hF.1
  have hm : Small n := by unfold Small; omega
  have HC : Hid (CellsB w g off l) := hC
  rw [← hnl] at hcap hb ⊢
  have HI : Hid (IntsA w (.slice (some ⟨g, off, none⟩) n cap) l) := by show IntsA w (.slice (some ⟨g, off, none⟩) n cap) l; rw [hnl]; exact hC.ints
  have lt : (l.take k).length = k := by rw [List.length_take]; omega
  obtain ⟨K, hK⟩ : ∃ K, K = k + 1 := ⟨_, rfl⟩
  have HK : Hid (K = k + 1) := hK
  have hKn : K ≤ n := by omega
  have HCC : Hid (∀ W, w.grownBy W none → Calls Try.prog 31 #[.slice (some ⟨g, off, none⟩) k cap] W fun e w' => ∃ u, e = .returned u ∧ w'.ownsRow W.heap.size 3 1 u k (ints (l.take k)) ∧ W.grownBy w' none) := fun W gW => by
    have := rcopied_any _ (l.take k) W (ints_upto (k := k) (HI.out.keep gW) (by omega)) (by rw [lt]; omega)
    rw [lt] at this
    exact this
  have HLD : Hid ((ints (l.drop K)).length = (n - K) * 1) := by show (ints (l.drop K)).length = _; rw [length_ints, List.length_drop, hnl, Nat.mul_one]
  have Hb : Hid ((k + (n - K)) * 8 ≤ 140737488355328) := by show (k + (n - K)) * 8 ≤ _; omega
  have HP : Hid (IntsA w (.slice (if cap = K then some ⟨g, off, none⟩ else some ⟨g, off + K, none⟩) (n - K) (cap - K)) (l.drop K)) := ints_past (k := K) HI.out hKn hcap
  have k0 : ¬ ((k : Int) < 0) := by omega
  have k2 : (k : Int) ≤ (n : Int) := by omega
  have k3 : (n : Int) ≤ (cap : Int) := by omega
  have k4 : (k : Int) ≤ (cap : Int) := by omega
  have k5 : (0 : Int) ≤ (k : Int) := by omega
  have k6 : (K : Int) ≤ (n : Int) := by omega
  have k7 : (K : Int) ≤ (cap : Int) := by omega
  have k8 : (0 : Int) ≤ (K : Int) := by omega
  have Hk9 : Hid ((k : Int) + 1 = (K : Int)) := by show (k : Int) + 1 = (K : Int); omega
  have hwK : IntKind.i64.wrap (K : Int) = (K : Int) := by rw [IntKind.wrap_i64]; omega
  have hn9 : (n : Int) ≤ 17592186044416 := by omega
  clear hC hF hnl lt hb hK
  go_enter Try.func22, Try.ntmps22
  go_wp2_with fail
  go_loopw [6] (fun i wr => ∃ m : Nat, m ≤ k ∧ i = .int .i64 m ∧ wr = w) (fun i _ => n - (intOf i).toNat)
  case atStart => exact ⟨0, Nat.zero_le _, rfl, rfl⟩
  case round =>
    obtain ⟨m, hmk, rfl, rfl⟩ := hrel
    have hlt : m < n := by omega
    have hlt' : (m : Int) < (n : Int) := by omega
    have hk0 : (0 : Int) ≤ (m : Int) := by omega
    obtain ⟨y, hy⟩ : ∃ y, y = l.getD m 0 := ⟨_, rfl⟩
    have D : wr.cell? ⟨g, off + m, none⟩ = some (.int .i64 y) := by rw [hy]; exact HC.out m (by have := Hn.out; omega)
    have HY : Hid (y = l.getD m 0) := hy
    clear hy
    rcases (show m = k ∨ m < k from by omega) with e | hmk'
    · have hd : y = x := by rw [HY.out, e]; exact HF.out.2.1
      subst e
      subst hd
      have k9 : (m : Int) + 1 = (K : Int) := Hk9.out
      have HD : Hid (wr.grownBy wr.drew none) := grown_drew _
      have CC := HCC.out wr.drew (grown_drew _)
      have hsz : wr.drew.heap.size = wr.heap.size := rfl
      rw [hsz] at CC
      clear hsz HCC hmk
      by_cases e1 : cap = K
      · subst e1
        obtain rfl : n = cap := by omega
        have h9 : l.drop n = [] := List.length_eq_zero_iff.1 (by rw [List.length_drop]; have := Hn.out; omega)
        have HCD : Hid (∀ j u, (ints (l.drop n))[j]? = some u → wr.cell? ((⟨g, off, none⟩ : Addr).add j) = some u) := by
          show ∀ j u, (ints (l.drop n))[j]? = some u → wr.cell? ((⟨g, off, none⟩ : Addr).add j) = some u
          rw [h9]
          intro j u hu
          simp [ints] at hu
        have HLE : Hid ((ints (l.drop n)).length = 0 * 1) := by show (ints (l.drop n)).length = 0 * 1; rw [h9]; rfl
        clear h9
        go_upto_region 5 with fail
        refine wp_region_held_drew (S := fun w' => wr.grownBy w' none) (by kernel_rfl) (grown_drew _) (fun hHeld => ?_)
        refine wpAnyH_take (i := 0) (v := ?_) rfl (by kernel_rfl) (by kernel_rfl) (by kernel_rfl) (fun _ _ _ h => h) (Or.inl ⟨by rfl, ?_⟩) (by assumption) ?_
        rotate_left 1
        · (intro w0 hSw; go_simp; try with_reducible rfl)
        simp only [List.getElem_toArray, List.getElem_cons_zero]
        go_frame
        refine wpAnyH_take (i := 1) (v := ?_) rfl (by kernel_rfl) (by kernel_rfl) (by kernel_rfl) (fun _ _ _ h => h) (Or.inl ⟨by rfl, ?_⟩) (by assumption) ?_
        rotate_left 1
        · (intro w0 hSw; go_simp; try with_reducible rfl)
        simp only [List.getElem_toArray, List.getElem_cons_zero, List.getElem_cons_succ]
        go_frame
        refine wpAnyH_take (i := 2) (v := ?_) rfl (by kernel_rfl) (by kernel_rfl) (by kernel_rfl) (fun _ _ _ h => h) (Or.inl ⟨by rfl, ?_⟩) (by assumption) ?_
        rotate_left 1
        · (intro w0 hSw; go_simp; try with_reducible rfl)
        simp only [List.getElem_toArray, List.getElem_cons_zero, List.getElem_cons_succ]
        go_frame
        refine wpAnyH_take (i := 4) (v := ?_) rfl (by kernel_rfl) (by kernel_rfl) (by kernel_rfl) (fun _ _ _ h => h) (Or.inl ⟨by rfl, ?_⟩) (by assumption) ?_
        rotate_left 1
        · (intro w0 hSw; go_simp; try with_reducible rfl)
        simp only [List.getElem_toArray, List.getElem_cons_zero, List.getElem_cons_succ]
        go_frame
        refine wpAnyH_take (i := 5) (v := ?_) rfl (by kernel_rfl) (by kernel_rfl) (by kernel_rfl) (fun _ _ _ h => h) (Or.inl ⟨by rfl, ?_⟩) (by assumption) ?_
        rotate_left 1
        · (intro w0 hSw; go_simp; try with_reducible rfl)
        simp only [List.getElem_toArray, List.getElem_cons_zero, List.getElem_cons_succ]
        go_frame
        refine wpAnyH_take (i := 6) (v := ?_) rfl (by kernel_rfl) (by kernel_rfl) (by kernel_rfl) (fun _ _ _ h => h) (Or.inl ⟨by rfl, ?_⟩) (by assumption) ?_
        rotate_left 1
        · (intro w0 hSw; go_simp; try with_reducible rfl)
        simp only [List.getElem_toArray, List.getElem_cons_zero, List.getElem_cons_succ]
        go_frame
        refine wpAnyH_take (i := 7) (v := ?_) rfl (by kernel_rfl) (by kernel_rfl) (by kernel_rfl) (fun _ _ _ h => h) (Or.inl ⟨by rfl, ?_⟩) (by assumption) ?_
        rotate_left 1
        · (intro w0 hSw; go_simp; try with_reducible rfl)
        simp only [List.getElem_toArray, List.getElem_cons_zero, List.getElem_cons_succ]
        go_frame
        refine wpAnyH_ready (rs := [3]) (by kernel_rfl) (by simp) ?_
        refine AllReadyH.cons rfl (fun K hK => ?_) AllReadyH.nil
        simp only [List.getElem_toArray, List.getElem_cons_zero, List.getElem_cons_succ]
        go_simp
        go_at_call 31
        refine (CC).mono ?_
        rintro e w1 ⟨u, rfl, o1, g1⟩
        have HO1 : Hid (w1.ownsRow wr.heap.size 3 1 u m (ints (l.take m))) := o1
        have HG1 : Hid (wr.drew.grownBy w1 none) := g1
        clear o1 g1
        refine hK.out _ _ (grown_trans HD.out HG1.out) (fun hHeld2 => ?_)
        clear hK K
        (try go_frame)
        clear CC
        refine wpAnyH_ready (rs := [8]) (by kernel_rfl) (by simp) ?_
        refine AllReadyH.cons rfl (fun K9 hK => ?_) AllReadyH.nil
        simp only [List.getElem_toArray, List.getElem_cons_zero, List.getElem_cons_succ]
        rw [if_pos (by rfl)]
        refine wp_append_at (.tmp 22) (.tmp 26) 22 rfl wr.heap.size 3 i0 _ 1 8 Try.underlying22 hi hz0 hz1 hz2 rfl (by decide) u m (ints (l.take m)) rfl HO1.out ⟨g, off, none⟩ 0 0 (ints (l.drop n)) rfl HLE.out (fun j y hy => (grown_trans HD.out HG1.out).cell (HCD.out j y hy) (by simp)) (ints_one _) (by have := Hb.out; unfold maxLen; omega) (by have := Hb.out; omega) (by have := HG1.out.size; exact this) ?_
        intro v' w7 hown' hgrow7 hlie
        have HO7 : Hid (w7.ownsRow wr.heap.size 3 1 v' (m + 0) (ints (l.take m ++ l.drop n)) ∧ wr.grownBy w7 none) := ⟨by rw [ints_app]; exact hown', grown_own (grown_trans HD.out HG1.out) hgrow7 (fun x hx => (World.ownsRow.lt HO1.out x hx).1)⟩
        clear hown' hgrow7 hlie
        refine hK.out _ _ HO7.out.2 (fun hHeld3 => ?_)
        clear hK K9
        (try go_frame)
        refine wpAnyH_take (i := 9) (v := ?_) rfl (by kernel_rfl) (by kernel_rfl) (by kernel_rfl) (fun _ _ _ h => h) (Or.inl ⟨by rfl, ?_⟩) (by assumption) ?_
        rotate_left 1
        · (intro w0 hSw; go_simp; try with_reducible rfl)
        simp only [List.getElem_toArray, List.getElem_cons_zero, List.getElem_cons_succ]
        go_frame
        refine wpAnyH_take (i := 10) (v := ?_) rfl (by kernel_rfl) (by kernel_rfl) (by kernel_rfl) (fun _ _ _ h => h) (Or.inl ⟨by rfl, ?_⟩) (by assumption) ?_
        rotate_left 1
        · (intro w0 hSw; go_simp; try with_reducible rfl)
        simp only [List.getElem_toArray, List.getElem_cons_zero, List.getElem_cons_succ]
        go_frame
        refine wpAnyH_done (by kernel_rfl) ?_ _
        go_wp2
        go_ret2
        exact WoPost.yes HF.out (wo_drop HK.out HO7.out.1) HO7.out.2
      · have HCD : Hid (∀ j u, (ints (l.drop K))[j]? = some u → wr.cell? ((⟨g, off + K, none⟩ : Addr).add j) = some u) := by
          have h9 := HP.out
          rw [if_neg e1] at h9
          rcases h9 with ⟨h9, _⟩ | ⟨ad, cc, h9, h10⟩
          · cases h9
          · simp at h9
            obtain ⟨rfl, _, rfl⟩ := h9
            exact h10
        have e2 : ¬ (K = cap) := fun e => e1 e.symm
        go_upto_region 5 with fail
        refine wp_region_held_drew (S := fun w' => wr.grownBy w' none) (by kernel_rfl) (grown_drew _) (fun hHeld => ?_)
        refine wpAnyH_take (i := 0) (v := ?_) rfl (by kernel_rfl) (by kernel_rfl) (by kernel_rfl) (fun _ _ _ h => h) (Or.inl ⟨by rfl, ?_⟩) (by assumption) ?_
        rotate_left 1
        · (intro w0 hSw; go_simp; try with_reducible rfl)
        simp only [List.getElem_toArray, List.getElem_cons_zero]
        go_frame
        refine wpAnyH_take (i := 1) (v := ?_) rfl (by kernel_rfl) (by kernel_rfl) (by kernel_rfl) (fun _ _ _ h => h) (Or.inl ⟨by rfl, ?_⟩) (by assumption) ?_
        rotate_left 1
        · (intro w0 hSw; go_simp; try with_reducible rfl)
        simp only [List.getElem_toArray, List.getElem_cons_zero, List.getElem_cons_succ]
        go_frame
        refine wpAnyH_take (i := 2) (v := ?_) rfl (by kernel_rfl) (by kernel_rfl) (by kernel_rfl) (fun _ _ _ h => h) (Or.inl ⟨by rfl, ?_⟩) (by assumption) ?_
        rotate_left 1
        · (intro w0 hSw; go_simp; try with_reducible rfl)
        simp only [List.getElem_toArray, List.getElem_cons_zero, List.getElem_cons_succ]
        go_frame
        refine wpAnyH_take (i := 4) (v := ?_) rfl (by kernel_rfl) (by kernel_rfl) (by kernel_rfl) (fun _ _ _ h => h) (Or.inl ⟨by rfl, ?_⟩) (by assumption) ?_
        rotate_left 1
        · (intro w0 hSw; go_simp; try with_reducible rfl)
        simp only [List.getElem_toArray, List.getElem_cons_zero, List.getElem_cons_succ]
        go_frame
        refine wpAnyH_take (i := 5) (v := ?_) rfl (by kernel_rfl) (by kernel_rfl) (by kernel_rfl) (fun _ _ _ h => h) (Or.inl ⟨by rfl, ?_⟩) (by assumption) ?_
        rotate_left 1
        · (intro w0 hSw; go_simp; try with_reducible rfl)
        simp only [List.getElem_toArray, List.getElem_cons_zero, List.getElem_cons_succ]
        go_frame
        refine wpAnyH_take (i := 6) (v := ?_) rfl (by kernel_rfl) (by kernel_rfl) (by kernel_rfl) (fun _ _ _ h => h) (Or.inl ⟨by rfl, ?_⟩) (by assumption) ?_
        rotate_left 1
        · (intro w0 hSw; go_simp; try with_reducible rfl)
        simp only [List.getElem_toArray, List.getElem_cons_zero, List.getElem_cons_succ]
        go_frame
        refine wpAnyH_take (i := 7) (v := ?_) rfl (by kernel_rfl) (by kernel_rfl) (by kernel_rfl) (fun _ _ _ h => h) (Or.inl ⟨by rfl, ?_⟩) (by assumption) ?_
        rotate_left 1
        · (intro w0 hSw; go_simp; try with_reducible rfl)
        simp only [List.getElem_toArray, List.getElem_cons_zero, List.getElem_cons_succ]
        go_frame
        refine wpAnyH_ready (rs := [3]) (by kernel_rfl) (by simp) ?_
        refine AllReadyH.cons rfl (fun K hK => ?_) AllReadyH.nil
        simp only [List.getElem_toArray, List.getElem_cons_zero, List.getElem_cons_succ]
        go_simp
        go_at_call 31
        refine (CC).mono ?_
        rintro e w1 ⟨u, rfl, o1, g1⟩
        have HO1 : Hid (w1.ownsRow wr.heap.size 3 1 u m (ints (l.take m))) := o1
        have HG1 : Hid (wr.drew.grownBy w1 none) := g1
        clear o1 g1
        refine hK.out _ _ (grown_trans HD.out HG1.out) (fun hHeld2 => ?_)
        clear hK K
        (try go_frame)
        clear CC
        refine wpAnyH_ready (rs := [8]) (by kernel_rfl) (by simp) ?_
        refine AllReadyH.cons rfl (fun K9 hK => ?_) AllReadyH.nil
        simp only [List.getElem_toArray, List.getElem_cons_zero, List.getElem_cons_succ]
        rw [if_pos (by rfl)]
        refine wp_append_at (.tmp 22) (.tmp 26) 22 rfl wr.heap.size 3 i0 _ 1 8 Try.underlying22 hi hz0 hz1 hz2 rfl (by decide) u m (ints (l.take m)) rfl HO1.out ⟨g, off + K, none⟩ (n - K) (cap - K) (ints (l.drop K)) rfl HLD.out (fun j y hy => (grown_trans HD.out HG1.out).cell (HCD.out j y hy) (by simp)) (ints_one _) (by have := Hb.out; unfold maxLen; omega) (by have := Hb.out; omega) (by have := HG1.out.size; exact this) ?_
        intro v' w7 hown' hgrow7 hlie
        have HO7 : Hid (w7.ownsRow wr.heap.size 3 1 v' (m + (n - K)) (ints (l.take m ++ l.drop K)) ∧ wr.grownBy w7 none) := ⟨by rw [ints_app]; exact hown', grown_own (grown_trans HD.out HG1.out) hgrow7 (fun x hx => (World.ownsRow.lt HO1.out x hx).1)⟩
        clear hown' hgrow7 hlie
        refine hK.out _ _ HO7.out.2 (fun hHeld3 => ?_)
        clear hK K9
        (try go_frame)
        refine wpAnyH_take (i := 9) (v := ?_) rfl (by kernel_rfl) (by kernel_rfl) (by kernel_rfl) (fun _ _ _ h => h) (Or.inl ⟨by rfl, ?_⟩) (by assumption) ?_
        rotate_left 1
        · (intro w0 hSw; go_simp; try with_reducible rfl)
        simp only [List.getElem_toArray, List.getElem_cons_zero, List.getElem_cons_succ]
        go_frame
        refine wpAnyH_take (i := 10) (v := ?_) rfl (by kernel_rfl) (by kernel_rfl) (by kernel_rfl) (fun _ _ _ h => h) (Or.inl ⟨by rfl, ?_⟩) (by assumption) ?_
        rotate_left 1
        · (intro w0 hSw; go_simp; try with_reducible rfl)
        simp only [List.getElem_toArray, List.getElem_cons_zero, List.getElem_cons_succ]
        go_frame
        refine wpAnyH_done (by kernel_rfl) ?_ _
        go_wp2
        go_ret2
        exact WoPost.yes HF.out (wo_drop HK.out HO7.out.1) HO7.out.2
    · have hd : ¬ (y = x) := fun e => HF.out.2.2 m hmk' (by rw [← HY.out]; exact e)
      have hd2 : (y == x) = false := by simpa using hd
      go_wp2_with fail
      go_roundw
      case rel => exact ⟨m + 1, hmk', by first | rfl | (rw [hm.wrap hlt]; rfl), by first | rfl | trivial⟩
      case measure => first | exact meas_next hlt | (rw [hm.wrap hlt]; exact meas_next hlt)
end Go.Proofs.Ytjjgipklhdofhaa
