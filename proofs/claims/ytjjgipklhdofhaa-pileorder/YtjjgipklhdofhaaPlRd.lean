/-
  The document's Deal, of every list and every two numbers.
-/
import Derived.Test.YtjjgipklhdofhaaPlDl
namespace Go.Proofs.Ytjjgipklhdofhaa
open Go.RowKit

/-- Hands dealt so far, in a list that grows. -/
def DgAt (w wr : World) (l : List Int) (H E k : Nat) (u : Value) : Prop := ∃ vs : List Value, wr.ownsRow w.heap.size 22 1 u k vs ∧ HandsAt wr w.heap.size vs ((List.range k).map (dealH l H E)) wr.heap.size ∧ w.grownBy wr none
theorem own22_block {w : World} {base n : Nat} {v : Value} {xs : List Value} (h : w.ownsRow base 22 1 v n xs) : ∀ x, v.ownBlock = some x → base ≤ x := fun x hx => (World.ownsRow.lt h x hx).1
theorem own22_keep {w w' : World} {base n : Nat} {v : Value} {xs : List Value} (h : w.ownsRow base 22 1 v n xs) (g : w.grownBy w' none) : w'.ownsRow base 22 1 v n xs := World.ownsRow.kept h g (Classical.em (v.ownBlock = none))
theorem DgAt.next {w U X w7 : World} {l : List Int} {H E k : Nat} {u hv v' : Value} {vs : List Value} (ho : U.ownsRow w.heap.size 22 1 u k vs) (hh : HandsAt U w.heap.size vs ((List.range k).map (dealH l H E)) U.heap.size) (hg : w.grownBy U none) (g1 : U.grownBy X none) (o1 : X.ownsRow U.heap.size 3 1 hv E (ints (dealH l H E k))) (o7 : w7.ownsRow w.heap.size 22 1 v' (k + 1) (vs ++ [hv])) (g7 : X.grownBy w7 u.ownBlock) : DgAt w w7 l H E (k + 1) v' := by
  have hx := own22_keep ho g1
  refine ⟨vs ++ [hv], o7, ?_, grown_own (grown_trans hg g1) g7 (own22_block ho)⟩
  rw [← dealAll_snoc]
  refine hh.snoc (fun i y x _ _ h9 => World.ownsRow.kept (own_keepN h9 g1) g7 (own_unlike (own_keepN h9 g1) hx)) hg.size ?_ (fun a ha => Nat.lt_of_lt_of_le (World.ownsRow.lt o1 a ha).2 g7.size) (Nat.le_trans g1.size g7.size)
  rw [dealH_len]
  exact World.ownsRow.kept o1 g7 (own_unlike o1 hx)
theorem cell22_one (W : World) (v : Value) : ∀ j u, [v][j]? = some u → (W.alloc (.cells #[v] 22)).cell? ((⟨W.heap.size, 0, none⟩ : Addr).add j) = some u := fun j u hu => by
  rw [add_plain, Nat.zero_add, block_cell (alloc_at _ _ _)]
  simpa using hu
theorem rdeal_low (a : Option Addr) (n cap : Nat) (h e : Int) (w : World) (h1 : h < 1) : Calls Try.prog 24 #[.slice a n cap, .int .i64 h, .int .i64 e] w fun r w' => r = .returned (.tuple #[.slice none 0 0, .slice none 0 0, .int .i64 2]) ∧ w' = w := by
  go_enter Try.func24, Try.ntmps24
  go_wp2
  go_ret3
  exact ⟨rfl, rfl⟩
theorem rdeal_high (a : Option Addr) (n cap : Nat) (h e : Int) (w : World) (h1 : 64 < h) : Calls Try.prog 24 #[.slice a n cap, .int .i64 h, .int .i64 e] w fun r w' => r = .returned (.tuple #[.slice none 0 0, .slice none 0 0, .int .i64 2]) ∧ w' = w := by
  have h0 : ¬ (h < 1) := by omega
  go_enter Try.func24, Try.ntmps24
  go_wp2
  go_ret3
  exact ⟨rfl, rfl⟩
theorem rdeal_less (a : Option Addr) (n cap : Nat) (h e : Int) (w : World) (h1 : 1 ≤ h) (h2 : h ≤ 64) (h3 : e < 0) : Calls Try.prog 24 #[.slice a n cap, .int .i64 h, .int .i64 e] w fun r w' => r = .returned (.tuple #[.slice none 0 0, .slice none 0 0, .int .i64 2]) ∧ w' = w := by
  have h0 : ¬ (h < 1) := by omega
  have h4 : ¬ (64 < h) := by omega
  go_enter Try.func24, Try.ntmps24
  go_wp2
  go_ret3
  exact ⟨rfl, rfl⟩
set_option maxHeartbeats 1000000 in
theorem rdeal_few (a : Option Addr) (n cap H : Nat) (e : Int) (w : World) (h1 : 1 ≤ H) (h2 : H ≤ 64) (h3 : 0 ≤ e) (h4 : ¬ e * (H : Int) ≤ (n : Int)) (hn : n ≤ 17592186044416) : Calls Try.prog 24 #[.slice a n cap, .int .i64 (H : Int), .int .i64 e] w fun r w' => r = .returned (.tuple #[.slice none 0 0, .slice none 0 0, .int .i64 2]) ∧ w' = w := by
  have hq : ¬ e ≤ ((n / H : Nat) : Int) := fun h9 => h4 ((quo_le h1 h3).1 h9)
  have hl : (n / H : Nat) ≤ n := Nat.div_le_self _ _
  obtain ⟨q, hqq⟩ : ∃ q, q = n / H := ⟨_, rfl⟩
  have HqH : Hid (wrap64 ((n : Int) / (H : Int)) = (q : Int)) := by rw [hqq]; exact quo_wrap n H hn
  rw [← hqq] at hq hl
  have hq' : (q : Int) < e := by omega
  clear hqq h4 hl hn hq
  have a1 : ¬ ((H : Int) < 1) := by omega
  have a2 : ¬ (64 < (H : Int)) := by omega
  have a3 : ¬ ((H : Int) = 0) := by omega
  have a4 : ¬ (e < 0) := by omega
  clear h1 h2
  have Hq := HqH.out
  go_enter Try.func24, Try.ntmps24
  go_wp2
  go_ret3
  exact ⟨rfl, rfl⟩
theorem own22_form {w : World} {base n : Nat} {v : Value} {xs : List Value} (h : w.ownsRow base 22 1 v n xs) : ∃ a c, v = .slice a n c := by
  rcases h.2 with ⟨e, h0⟩ | ⟨g, cap, cur, e, _⟩
  · exact ⟨_, _, by rw [e, h0]⟩
  · exact ⟨_, _, e⟩
set_option maxRecDepth 100000 in
set_option maxHeartbeats 4000000 in
theorem rdeal_plain (g off cap n K : Nat) (l : List Int) (H E : Nat) (w : World) (h1 : 1 ≤ H) (h2 : H ≤ 64) (h3 : E * H ≤ l.length) (hn : l.length = n) (hb : (n + 2) * 8 ≤ 140737488355328) (hK0 : K = H * E) (e1 : ¬ (cap = K)) (k1 : (K : Int) ≤ (n : Int)) (k3 : (n : Int) ≤ 17592186044416) (hC : CellsB w g off l)
    (CR0 : ∀ W, w.grownBy W none → Calls Try.prog 31 #[.slice (some ⟨g, off + K, none⟩) (n - K) (cap - K)] W fun e w' => ∃ u, e = .returned u ∧ w'.ownsRow W.heap.size 3 1 u (n - K) (ints (l.drop (H * E))) ∧ W.grownBy w' none) : Calls Try.prog 24 #[.slice (some ⟨g, off, none⟩) n cap, .int .i64 (H : Int), .int .i64 (E : Int)] w (DePost w l (H : Int) (E : Int)) := by
  obtain ⟨i0, hi, hz0, hz1, hz2⟩ := info_parts Try.info3i
  obtain ⟨i1, hi1, hy0, hy1, hy2⟩ := info_parts Try.info22
  have HK : Hid (K = H * E) := hK0
  clear hK0
  have CR : Hid (∀ W, w.grownBy W none → Calls Try.prog 31 #[.slice (some ⟨g, off + K, none⟩) (n - K) (cap - K)] W fun e w' => ∃ u, e = .returned u ∧ w'.ownsRow W.heap.size 3 1 u (n - K) (ints (l.drop (H * E))) ∧ W.grownBy w' none) := CR0
  have HX : Hid (1 ≤ H ∧ H ≤ 64 ∧ E * H ≤ l.length) := ⟨h1, h2, h3⟩
  rw [hn] at h3
  have HN : Hid (l.length = n) := hn
  have hEn : E ≤ n := Nat.le_trans (Nat.le_mul_of_pos_right E (by omega)) h3
  have HE : Hid (E * H ≤ n) := h3
  have HC : Hid (CellsB w g off l) := hC
  have hq : (E : Int) ≤ ((n / H : Nat) : Int) := (quo_le h1 (by omega)).2 (by rw [← Int.natCast_mul]; exact Int.ofNat_le.2 h3)
  have hl : (n / H : Nat) ≤ n := Nat.div_le_self _ _
  obtain ⟨q, hqq⟩ : ∃ q, q = n / H := ⟨_, rfl⟩
  have HqH : Hid (wrap64 ((n : Int) / (H : Int)) = (q : Int)) := by rw [hqq]; exact quo_wrap n H (by omega)
  rw [← hqq] at hq hl
  have hq' : ¬ ((q : Int) < (E : Int)) := by omega
  have hm : Small E := by unfold Small; omega
  have hE8 : (E + 2) * 8 ≤ 140737488355328 := by omega
  have HE8 : Hid ((E + 2) * 8 ≤ 140737488355328) := hE8
  have hE9 : (E : Int) ≤ (n : Int) := by omega
  clear hqq hl hE8 hq hC
  have a1 : ¬ ((H : Int) < 1) := by omega
  have a2 : ¬ (64 < (H : Int)) := by omega
  have a3 : ¬ ((H : Int) = 0) := by omega
  have hmH : Small H := by unfold Small; omega
  have hH6 : H ≤ 64 := h2
  clear h3 hn CR0 h1 hb
  have Hq := HqH.out
  go_enter Try.func24, Try.ntmps24
  go_wp2_with fail
  clear Hq hq'
  go_loopw [9, 10] (fun u i wr => ∃ k : Nat, k ≤ H ∧ i = .int .i64 (k : Int) ∧ DgAt w wr l H E k u) (fun _ i _ => H - (intOf i).toNat)
  case atStart => exact ⟨0, Nat.zero_le _, rfl, [], World.ownsRow_nil _ _ _ _, HandsAt.nil _ _ _, grown_refl _ _⟩
  case round =>
    obtain ⟨k, hk, rfl, O⟩ := hrel
    obtain ⟨U, hU⟩ : ∃ U, U = wr := ⟨_, rfl⟩
    subst hU
    obtain ⟨vs, ho, hh, hg⟩ := O
    have HO : Hid (U.ownsRow w.heap.size 22 1 u9 k vs ∧ HandsAt U w.heap.size vs ((List.range k).map (dealH l H E)) U.heap.size ∧ w.grownBy U none) := ⟨ho, hh, hg⟩
    obtain ⟨ua, uc, rfl⟩ := own22_form ho
    clear ho hh hg
    by_cases hlt : k < H
    · have hlt' : (k : Int) < (H : Int) := by omega
      go_wp2_with fail
      go_loopw [11, 12] (fun v i wr => ∃ j : Nat, j ≤ E ∧ i = .int .i64 (j : Int) ∧ wr.ownsRow U.heap.size 3 1 v j (ints (dealH l H j k)) ∧ U.grownBy wr none) (fun _ i _ => E - (intOf i).toNat)
      case atStart => exact ⟨0, Nat.zero_le _, rfl, World.ownsRow_nil _ _ _ _, grown_refl _ _⟩
      case round =>
        obtain ⟨j, hj, rfl, o1, g1⟩ := hrel
        obtain ⟨X, hX⟩ : ∃ X, X = wr := ⟨_, rfl⟩
        subst hX
        obtain ⟨pa, pc, rfl⟩ := own_form o1
        by_cases hjt : j < E
        · have hjt' : (j : Int) < (E : Int) := by omega
          obtain ⟨P, hP⟩ : ∃ P, P = j * H := ⟨_, rfl⟩
          have hPE : P + H ≤ E * H := by rw [hP, ← Nat.succ_mul]; exact Nat.mul_le_mul_right H hjt
          have hQn : k + P < n := by have := HE.out; omega
          obtain ⟨Q, hQ⟩ : ∃ Q, Q = k + P := ⟨_, rfl⟩
          have q1 : (k : Int) + (P : Int) = (Q : Int) := by omega
          have q2 : (Q : Int) < (n : Int) := by omega
          have q3 : (P : Int) < (n : Int) := by omega
          have HPw : (j : Int) * (H : Int) = (P : Int) := by rw [hP, Int.natCast_mul]
          obtain ⟨y, hy⟩ : ∃ y, y = l.getD Q 0 := ⟨_, rfl⟩
          have D : X.cell? ⟨g, off + Q, none⟩ = some (.int .i64 y) := by rw [hy]; exact (grown_trans HO.out.2.2 g1).cell (HC.out Q (by have := HN.out; omega)) (by simp)
          have HQ : Hid (dealH l H j k ++ [y] = dealH l H (j + 1) k) := by show dealH l H j k ++ [y] = _; rw [hy, hQ, hP]; exact dealH_succ l H j k
          have Hw : Hid (U.heap.size ≤ X.heap.size) := g1.size
          have HG : Hid (U.grownBy X none) := g1
          have HJ : Hid (j + 2 ≤ 17592186044416) := by show j + 2 ≤ 17592186044416; have := HE8.out; omega
          have HB : Hid (∀ x, (Value.slice pa j pc).ownBlock = some x → U.heap.size ≤ x) := fun x hx => (World.ownsRow.lt o1 x hx).1
          clear hP hQ hPE hQn g1 hy
          go_wp2_with (at_builtin; refine wpList_append_own_at _ rfl (.tmp 41) (.tmp 50) 22 rfl U.heap.size 3 i0 (.int .i64 0) 1 8 Try.underlying22 hi hz0 hz1 hz2 rfl (by decide) (.slice pa j pc) j (ints (dealH l H j k)) rfl (o1.alloc _) ⟨X.heap.size, 0, none⟩ 1 1 [.int .i64 y] rfl rfl (cell_one_new _ _ _) (fun x hx => by simp at hx; subst hx; rfl) (by have := HJ.out; unfold maxLen; omega) (by have := HJ.out; omega) (by have := Hw.out; rw [World.size_alloc]; omega) ?_; intro v' w7 hown' hgrow7 hnil7 hlie; have HF : Hid (w7.ownsRow U.heap.size 3 1 v' (j + 1) (ints (dealH l H (j + 1) k)) ∧ U.grownBy w7 none) := ⟨by rw [← HQ.out, ints_app]; exact hown', grown_own (grown_push HG.out _) hgrow7 HB.out⟩; clear hown' hgrow7 hnil7 hlie o1)
          go_roundw
          case rel => exact ⟨j + 1, hjt, by first | rfl | (rw [hm.wrap hjt]; rfl), HF.out.1, HF.out.2⟩
          case measure => first | exact meas_next hjt | (rw [hm.wrap hjt]; exact meas_next hjt)
        · have hjt' : ¬ (j : Int) < (E : Int) := by omega
          obtain rfl : j = E := by omega
          have Hw : Hid (w.heap.size ≤ X.heap.size) := Nat.le_trans HO.out.2.2.size g1.size
          have HP1 : Hid (X.ownsRow w.heap.size 22 1 (.slice ua k uc) k vs) := own22_keep HO.out.1 g1
          have HR : Hid (X.ownsRow U.heap.size 3 1 (.slice pa j pc) j (ints (dealH l H j k)) ∧ U.grownBy X none) := ⟨o1, g1⟩
          clear o1 g1
          go_wp2_with (at_builtin; refine wpList_append_own_at _ rfl (.tmp 52) (.tmp 54) 32 rfl w.heap.size 22 i1 (.slice none 0 0) 1 24 Try.underlying32 hi1 hy0 hy1 hy2 rfl (by decide) (.slice ua k uc) k vs rfl (HP1.out.alloc _) ⟨X.heap.size, 0, none⟩ 1 1 [.slice pa j pc] rfl rfl (cell22_one _ _) (fun x hx => by simp at hx; subst hx; rfl) (by unfold maxLen; omega) (by omega) (by have := Hw.out; rw [World.size_alloc]; omega) ?_; intro v' w7 hown' hgrow7 hnil7 hlie; have HF : Hid (DgAt w w7 l H j (k + 1) v') := DgAt.next HO.out.1 HO.out.2.1 HO.out.2.2 (grown_push HR.out.2 _) (own_keepN HR.out.1 (World.grownBy_alloc _ _ none)) hown' hgrow7; clear hown' hgrow7 hnil7 hlie)
          first
          | exact ⟨⟨k + 1, hlt, by first | rfl | (rw [hmH.wrap hlt]; rfl), HF.out⟩, by first | exact meas_next hlt | (rw [hmH.wrap hlt]; exact meas_next hlt)⟩
          | (go_roundw
             case rel => exact ⟨k + 1, hlt, by first | rfl | (rw [hmH.wrap hlt]; rfl), HF.out⟩
             case measure => first | exact meas_next hlt | (rw [hmH.wrap hlt]; exact meas_next hlt))
    · have hlt' : ¬ (k : Int) < (H : Int) := by omega
      obtain rfl : k = H := by omega
      have CC := CR.out U HO.out.2.2
      clear CR
      have HKw : (k : Int) * (E : Int) = (K : Int) := by rw [HK.out, Int.natCast_mul]
      go_wp2_with fail
      refine CC.mono ?_
      rintro e U1 ⟨u, rfl, o1, g1⟩
      have HF : Hid (U1.ownsRow U.heap.size 3 1 u (n - K) (ints (l.drop (k * E))) ∧ U.grownBy U1 none) := ⟨o1, g1⟩
      clear o1 g1 CC
      go_wp2
      go_ret3
      exact DePost.yes (E := E) HX.out.1 HX.out.2.1 HX.out.2.2 (own22_keep HO.out.1 HF.out.2) (HO.out.2.1.keep HF.out.2) HO.out.2.2.size HF.out.2.size HF.out.1 (grown_trans HO.out.2.2 HF.out.2)
set_option maxRecDepth 100000 in
set_option maxHeartbeats 4000000 in
theorem rdeal_full (g off n : Nat) (l : List Int) (H E : Nat) (w : World) (h1 : 1 ≤ H) (h2 : H ≤ 64) (h3 : E * H ≤ l.length) (hn : l.length = n) (hb : (n + 2) * 8 ≤ 140737488355328) (hK0 : n = H * E) (k3 : (n : Int) ≤ 17592186044416) (hC : CellsB w g off l)
    (CR0 : ∀ W, w.grownBy W none → Calls Try.prog 31 #[.slice (some ⟨g, off, none⟩) 0 0] W fun e w' => ∃ u, e = .returned u ∧ w'.ownsRow W.heap.size 3 1 u 0 (ints (l.drop (H * E))) ∧ W.grownBy w' none) : Calls Try.prog 24 #[.slice (some ⟨g, off, none⟩) n n, .int .i64 (H : Int), .int .i64 (E : Int)] w (DePost w l (H : Int) (E : Int)) := by
  obtain ⟨i0, hi, hz0, hz1, hz2⟩ := info_parts Try.info3i
  obtain ⟨i1, hi1, hy0, hy1, hy2⟩ := info_parts Try.info22
  have HK : Hid (n = H * E) := hK0
  clear hK0
  have CR : Hid (∀ W, w.grownBy W none → Calls Try.prog 31 #[.slice (some ⟨g, off, none⟩) 0 0] W fun e w' => ∃ u, e = .returned u ∧ w'.ownsRow W.heap.size 3 1 u 0 (ints (l.drop (H * E))) ∧ W.grownBy w' none) := CR0
  have HX : Hid (1 ≤ H ∧ H ≤ 64 ∧ E * H ≤ l.length) := ⟨h1, h2, h3⟩
  rw [hn] at h3
  have HN : Hid (l.length = n) := hn
  have hEn : E ≤ n := Nat.le_trans (Nat.le_mul_of_pos_right E (by omega)) h3
  have HE : Hid (E * H ≤ n) := h3
  have HC : Hid (CellsB w g off l) := hC
  have hq : (E : Int) ≤ ((n / H : Nat) : Int) := (quo_le h1 (by omega)).2 (by rw [← Int.natCast_mul]; exact Int.ofNat_le.2 h3)
  have hl : (n / H : Nat) ≤ n := Nat.div_le_self _ _
  obtain ⟨q, hqq⟩ : ∃ q, q = n / H := ⟨_, rfl⟩
  have HqH : Hid (wrap64 ((n : Int) / (H : Int)) = (q : Int)) := by rw [hqq]; exact quo_wrap n H (by omega)
  rw [← hqq] at hq hl
  have hq' : ¬ ((q : Int) < (E : Int)) := by omega
  have hm : Small E := by unfold Small; omega
  have hE8 : (E + 2) * 8 ≤ 140737488355328 := by omega
  have HE8 : Hid ((E + 2) * 8 ≤ 140737488355328) := hE8
  have hE9 : (E : Int) ≤ (n : Int) := by omega
  clear hqq hl hE8 hq hC
  have a1 : ¬ ((H : Int) < 1) := by omega
  have a2 : ¬ (64 < (H : Int)) := by omega
  have a3 : ¬ ((H : Int) = 0) := by omega
  have hmH : Small H := by unfold Small; omega
  have hH6 : H ≤ 64 := h2
  clear h3 hn CR0 h1 hb
  have Hq := HqH.out
  go_enter Try.func24, Try.ntmps24
  go_wp2_with fail
  clear Hq hq'
  go_loopw [9, 10] (fun u i wr => ∃ k : Nat, k ≤ H ∧ i = .int .i64 (k : Int) ∧ DgAt w wr l H E k u) (fun _ i _ => H - (intOf i).toNat)
  case atStart => exact ⟨0, Nat.zero_le _, rfl, [], World.ownsRow_nil _ _ _ _, HandsAt.nil _ _ _, grown_refl _ _⟩
  case round =>
    obtain ⟨k, hk, rfl, O⟩ := hrel
    obtain ⟨U, hU⟩ : ∃ U, U = wr := ⟨_, rfl⟩
    subst hU
    obtain ⟨vs, ho, hh, hg⟩ := O
    have HO : Hid (U.ownsRow w.heap.size 22 1 u9 k vs ∧ HandsAt U w.heap.size vs ((List.range k).map (dealH l H E)) U.heap.size ∧ w.grownBy U none) := ⟨ho, hh, hg⟩
    obtain ⟨ua, uc, rfl⟩ := own22_form ho
    clear ho hh hg
    by_cases hlt : k < H
    · have hlt' : (k : Int) < (H : Int) := by omega
      go_wp2_with fail
      go_loopw [11, 12] (fun v i wr => ∃ j : Nat, j ≤ E ∧ i = .int .i64 (j : Int) ∧ wr.ownsRow U.heap.size 3 1 v j (ints (dealH l H j k)) ∧ U.grownBy wr none) (fun _ i _ => E - (intOf i).toNat)
      case atStart => exact ⟨0, Nat.zero_le _, rfl, World.ownsRow_nil _ _ _ _, grown_refl _ _⟩
      case round =>
        obtain ⟨j, hj, rfl, o1, g1⟩ := hrel
        obtain ⟨X, hX⟩ : ∃ X, X = wr := ⟨_, rfl⟩
        subst hX
        obtain ⟨pa, pc, rfl⟩ := own_form o1
        by_cases hjt : j < E
        · have hjt' : (j : Int) < (E : Int) := by omega
          obtain ⟨P, hP⟩ : ∃ P, P = j * H := ⟨_, rfl⟩
          have hPE : P + H ≤ E * H := by rw [hP, ← Nat.succ_mul]; exact Nat.mul_le_mul_right H hjt
          have hQn : k + P < n := by have := HE.out; omega
          obtain ⟨Q, hQ⟩ : ∃ Q, Q = k + P := ⟨_, rfl⟩
          have q1 : (k : Int) + (P : Int) = (Q : Int) := by omega
          have q2 : (Q : Int) < (n : Int) := by omega
          have q3 : (P : Int) < (n : Int) := by omega
          have HPw : (j : Int) * (H : Int) = (P : Int) := by rw [hP, Int.natCast_mul]
          obtain ⟨y, hy⟩ : ∃ y, y = l.getD Q 0 := ⟨_, rfl⟩
          have D : X.cell? ⟨g, off + Q, none⟩ = some (.int .i64 y) := by rw [hy]; exact (grown_trans HO.out.2.2 g1).cell (HC.out Q (by have := HN.out; omega)) (by simp)
          have HQ : Hid (dealH l H j k ++ [y] = dealH l H (j + 1) k) := by show dealH l H j k ++ [y] = _; rw [hy, hQ, hP]; exact dealH_succ l H j k
          have Hw : Hid (U.heap.size ≤ X.heap.size) := g1.size
          have HG : Hid (U.grownBy X none) := g1
          have HJ : Hid (j + 2 ≤ 17592186044416) := by show j + 2 ≤ 17592186044416; have := HE8.out; omega
          have HB : Hid (∀ x, (Value.slice pa j pc).ownBlock = some x → U.heap.size ≤ x) := fun x hx => (World.ownsRow.lt o1 x hx).1
          clear hP hQ hPE hQn g1 hy
          go_wp2_with (at_builtin; refine wpList_append_own_at _ rfl (.tmp 41) (.tmp 50) 22 rfl U.heap.size 3 i0 (.int .i64 0) 1 8 Try.underlying22 hi hz0 hz1 hz2 rfl (by decide) (.slice pa j pc) j (ints (dealH l H j k)) rfl (o1.alloc _) ⟨X.heap.size, 0, none⟩ 1 1 [.int .i64 y] rfl rfl (cell_one_new _ _ _) (fun x hx => by simp at hx; subst hx; rfl) (by have := HJ.out; unfold maxLen; omega) (by have := HJ.out; omega) (by have := Hw.out; rw [World.size_alloc]; omega) ?_; intro v' w7 hown' hgrow7 hnil7 hlie; have HF : Hid (w7.ownsRow U.heap.size 3 1 v' (j + 1) (ints (dealH l H (j + 1) k)) ∧ U.grownBy w7 none) := ⟨by rw [← HQ.out, ints_app]; exact hown', grown_own (grown_push HG.out _) hgrow7 HB.out⟩; clear hown' hgrow7 hnil7 hlie o1)
          go_roundw
          case rel => exact ⟨j + 1, hjt, by first | rfl | (rw [hm.wrap hjt]; rfl), HF.out.1, HF.out.2⟩
          case measure => first | exact meas_next hjt | (rw [hm.wrap hjt]; exact meas_next hjt)
        · have hjt' : ¬ (j : Int) < (E : Int) := by omega
          obtain rfl : j = E := by omega
          have Hw : Hid (w.heap.size ≤ X.heap.size) := Nat.le_trans HO.out.2.2.size g1.size
          have HP1 : Hid (X.ownsRow w.heap.size 22 1 (.slice ua k uc) k vs) := own22_keep HO.out.1 g1
          have HR : Hid (X.ownsRow U.heap.size 3 1 (.slice pa j pc) j (ints (dealH l H j k)) ∧ U.grownBy X none) := ⟨o1, g1⟩
          clear o1 g1
          go_wp2_with (at_builtin; refine wpList_append_own_at _ rfl (.tmp 52) (.tmp 54) 32 rfl w.heap.size 22 i1 (.slice none 0 0) 1 24 Try.underlying32 hi1 hy0 hy1 hy2 rfl (by decide) (.slice ua k uc) k vs rfl (HP1.out.alloc _) ⟨X.heap.size, 0, none⟩ 1 1 [.slice pa j pc] rfl rfl (cell22_one _ _) (fun x hx => by simp at hx; subst hx; rfl) (by unfold maxLen; omega) (by omega) (by have := Hw.out; rw [World.size_alloc]; omega) ?_; intro v' w7 hown' hgrow7 hnil7 hlie; have HF : Hid (DgAt w w7 l H j (k + 1) v') := DgAt.next HO.out.1 HO.out.2.1 HO.out.2.2 (grown_push HR.out.2 _) (own_keepN HR.out.1 (World.grownBy_alloc _ _ none)) hown' hgrow7; clear hown' hgrow7 hnil7 hlie)
          first
          | exact ⟨⟨k + 1, hlt, by first | rfl | (rw [hmH.wrap hlt]; rfl), HF.out⟩, by first | exact meas_next hlt | (rw [hmH.wrap hlt]; exact meas_next hlt)⟩
          | (go_roundw
             case rel => exact ⟨k + 1, hlt, by first | rfl | (rw [hmH.wrap hlt]; rfl), HF.out⟩
             case measure => first | exact meas_next hlt | (rw [hmH.wrap hlt]; exact meas_next hlt))
    · have hlt' : ¬ (k : Int) < (H : Int) := by omega
      obtain rfl : k = H := by omega
      have CC := CR.out U HO.out.2.2
      clear CR
      have HKw : (k : Int) * (E : Int) = (n : Int) := by rw [HK.out, Int.natCast_mul]
      go_wp2_with fail
      refine CC.mono ?_
      rintro e U1 ⟨u, rfl, o1, g1⟩
      have HF : Hid (U1.ownsRow U.heap.size 3 1 u 0 (ints (l.drop (k * E))) ∧ U.grownBy U1 none) := ⟨o1, g1⟩
      clear o1 g1 CC
      go_wp2
      go_ret3
      exact DePost.yes (E := E) HX.out.1 HX.out.2.1 HX.out.2.2 (own22_keep HO.out.1 HF.out.2) (HO.out.2.1.keep HF.out.2) HO.out.2.2.size HF.out.2.size HF.out.1 (grown_trans HO.out.2.2 HF.out.2)
set_option maxRecDepth 100000 in
set_option maxHeartbeats 4000000 in
theorem rdeal_none (l : List Int) (H : Nat) (w : World) (h1 : 1 ≤ H) (h2 : H ≤ 64) (h3 : 0 * H ≤ l.length)
    (CR0 : ∀ W, w.grownBy W none → Calls Try.prog 31 #[.slice none 0 0] W fun e w' => ∃ u, e = .returned u ∧ w'.ownsRow W.heap.size 3 1 u 0 (ints (l.drop (H * 0))) ∧ W.grownBy w' none) : Calls Try.prog 24 #[.slice none 0 0, .int .i64 (H : Int), .int .i64 0] w (DePost w l (H : Int) 0) := by
  obtain ⟨i0, hi, hz0, hz1, hz2⟩ := info_parts Try.info3i
  obtain ⟨i1, hi1, hy0, hy1, hy2⟩ := info_parts Try.info22
  have CR : Hid (∀ W, w.grownBy W none → Calls Try.prog 31 #[.slice none 0 0] W fun e w' => ∃ u, e = .returned u ∧ w'.ownsRow W.heap.size 3 1 u 0 (ints (l.drop (H * 0))) ∧ W.grownBy w' none) := CR0
  have HX : Hid (1 ≤ H ∧ H ≤ 64 ∧ 0 * H ≤ l.length) := ⟨h1, h2, h3⟩
  have a1 : ¬ ((H : Int) < 1) := by omega
  have a2 : ¬ (64 < (H : Int)) := by omega
  have a3 : ¬ ((H : Int) = 0) := by omega
  have hmH : Small H := by unfold Small; omega
  have hH6 : H ≤ 64 := h2
  clear h3 CR0 h1

  go_enter Try.func24, Try.ntmps24
  go_wp2_with fail
  go_loopw [9, 10] (fun u i wr => ∃ k : Nat, k ≤ H ∧ i = .int .i64 (k : Int) ∧ DgAt w wr l H 0 k u) (fun _ i _ => H - (intOf i).toNat)
  case atStart => exact ⟨0, Nat.zero_le _, rfl, [], World.ownsRow_nil _ _ _ _, HandsAt.nil _ _ _, grown_refl _ _⟩
  case round =>
    obtain ⟨k, hk, rfl, O⟩ := hrel
    obtain ⟨U, hU⟩ : ∃ U, U = wr := ⟨_, rfl⟩
    subst hU
    obtain ⟨vs, ho, hh, hg⟩ := O
    have HO : Hid (U.ownsRow w.heap.size 22 1 u9 k vs ∧ HandsAt U w.heap.size vs ((List.range k).map (dealH l H 0)) U.heap.size ∧ w.grownBy U none) := ⟨ho, hh, hg⟩
    obtain ⟨ua, uc, rfl⟩ := own22_form ho
    clear ho hh hg
    by_cases hlt : k < H
    · have hlt' : (k : Int) < (H : Int) := by omega
      go_wp2_with fail
      go_loopw [11, 12] (fun v i wr => ∃ j : Nat, j ≤ 0 ∧ i = .int .i64 (j : Int) ∧ wr.ownsRow U.heap.size 3 1 v j (ints (dealH l H j k)) ∧ U.grownBy wr none) (fun _ i _ => 0 - (intOf i).toNat)
      case atStart => exact ⟨0, Nat.zero_le _, rfl, World.ownsRow_nil _ _ _ _, grown_refl _ _⟩
      case round =>
        obtain ⟨j, hj, rfl, o1, g1⟩ := hrel
        obtain ⟨X, hX⟩ : ∃ X, X = wr := ⟨_, rfl⟩
        subst hX
        obtain ⟨pa, pc, rfl⟩ := own_form o1
        obtain rfl : j = 0 := by omega
        · have hz9 : (0 : Nat) = 0 := rfl
          have Hw : Hid (w.heap.size ≤ X.heap.size) := Nat.le_trans HO.out.2.2.size g1.size
          have HP1 : Hid (X.ownsRow w.heap.size 22 1 (.slice ua k uc) k vs) := own22_keep HO.out.1 g1
          have HR : Hid (X.ownsRow U.heap.size 3 1 (.slice pa 0 pc) 0 (ints (dealH l H 0 k)) ∧ U.grownBy X none) := ⟨o1, g1⟩
          clear o1 g1
          go_wp2_with (at_builtin; refine wpList_append_own_at _ rfl (.tmp 52) (.tmp 54) 32 rfl w.heap.size 22 i1 (.slice none 0 0) 1 24 Try.underlying32 hi1 hy0 hy1 hy2 rfl (by decide) (.slice ua k uc) k vs rfl (HP1.out.alloc _) ⟨X.heap.size, 0, none⟩ 1 1 [.slice pa 0 pc] rfl rfl (cell22_one _ _) (fun x hx => by simp at hx; subst hx; rfl) (by unfold maxLen; omega) (by omega) (by have := Hw.out; rw [World.size_alloc]; omega) ?_; intro v' w7 hown' hgrow7 hnil7 hlie; have HF : Hid (DgAt w w7 l H 0 (k + 1) v') := DgAt.next HO.out.1 HO.out.2.1 HO.out.2.2 (grown_push HR.out.2 _) (own_keepN HR.out.1 (World.grownBy_alloc _ _ none)) hown' hgrow7; clear hown' hgrow7 hnil7 hlie)
          first
          | exact ⟨⟨k + 1, hlt, by first | rfl | (rw [hmH.wrap hlt]; rfl), HF.out⟩, by first | exact meas_next hlt | (rw [hmH.wrap hlt]; exact meas_next hlt)⟩
          | (go_roundw
             case rel => exact ⟨k + 1, hlt, by first | rfl | (rw [hmH.wrap hlt]; rfl), HF.out⟩
             case measure => first | exact meas_next hlt | (rw [hmH.wrap hlt]; exact meas_next hlt))
    · have hlt' : ¬ (k : Int) < (H : Int) := by omega
      obtain rfl : k = H := by omega
      have CC := CR.out U HO.out.2.2
      clear CR
      go_wp2_with fail
      refine CC.mono ?_
      rintro e U1 ⟨u, rfl, o1, g1⟩
      have HF : Hid (U1.ownsRow U.heap.size 3 1 u 0 (ints (l.drop (k * 0))) ∧ U.grownBy U1 none) := ⟨o1, g1⟩
      clear o1 g1 CC
      go_wp2
      go_ret3
      exact DePost.yes (E := 0) HX.out.1 HX.out.2.1 HX.out.2.2 (own22_keep HO.out.1 HF.out.2) (HO.out.2.1.keep HF.out.2) HO.out.2.2.size HF.out.2.size HF.out.1 (grown_trans HO.out.2.2 HF.out.2)
set_option maxRecDepth 100000 in
set_option maxHeartbeats 4000000 in
theorem rdeal_some (ad : Addr) (l : List Int) (H : Nat) (w : World) (h1 : 1 ≤ H) (h2 : H ≤ 64) (h3 : 0 * H ≤ l.length)
    (CR0 : ∀ W, w.grownBy W none → Calls Try.prog 31 #[.slice (some ad) 0 0] W fun e w' => ∃ u, e = .returned u ∧ w'.ownsRow W.heap.size 3 1 u 0 (ints (l.drop (H * 0))) ∧ W.grownBy w' none) : Calls Try.prog 24 #[.slice (some ad) 0 0, .int .i64 (H : Int), .int .i64 0] w (DePost w l (H : Int) 0) := by
  obtain ⟨i0, hi, hz0, hz1, hz2⟩ := info_parts Try.info3i
  obtain ⟨i1, hi1, hy0, hy1, hy2⟩ := info_parts Try.info22
  have CR : Hid (∀ W, w.grownBy W none → Calls Try.prog 31 #[.slice (some ad) 0 0] W fun e w' => ∃ u, e = .returned u ∧ w'.ownsRow W.heap.size 3 1 u 0 (ints (l.drop (H * 0))) ∧ W.grownBy w' none) := CR0
  have HX : Hid (1 ≤ H ∧ H ≤ 64 ∧ 0 * H ≤ l.length) := ⟨h1, h2, h3⟩
  have a1 : ¬ ((H : Int) < 1) := by omega
  have a2 : ¬ (64 < (H : Int)) := by omega
  have a3 : ¬ ((H : Int) = 0) := by omega
  have hmH : Small H := by unfold Small; omega
  have hH6 : H ≤ 64 := h2
  clear h3 CR0 h1

  go_enter Try.func24, Try.ntmps24
  go_wp2_with fail
  go_loopw [9, 10] (fun u i wr => ∃ k : Nat, k ≤ H ∧ i = .int .i64 (k : Int) ∧ DgAt w wr l H 0 k u) (fun _ i _ => H - (intOf i).toNat)
  case atStart => exact ⟨0, Nat.zero_le _, rfl, [], World.ownsRow_nil _ _ _ _, HandsAt.nil _ _ _, grown_refl _ _⟩
  case round =>
    obtain ⟨k, hk, rfl, O⟩ := hrel
    obtain ⟨U, hU⟩ : ∃ U, U = wr := ⟨_, rfl⟩
    subst hU
    obtain ⟨vs, ho, hh, hg⟩ := O
    have HO : Hid (U.ownsRow w.heap.size 22 1 u9 k vs ∧ HandsAt U w.heap.size vs ((List.range k).map (dealH l H 0)) U.heap.size ∧ w.grownBy U none) := ⟨ho, hh, hg⟩
    obtain ⟨ua, uc, rfl⟩ := own22_form ho
    clear ho hh hg
    by_cases hlt : k < H
    · have hlt' : (k : Int) < (H : Int) := by omega
      go_wp2_with fail
      go_loopw [11, 12] (fun v i wr => ∃ j : Nat, j ≤ 0 ∧ i = .int .i64 (j : Int) ∧ wr.ownsRow U.heap.size 3 1 v j (ints (dealH l H j k)) ∧ U.grownBy wr none) (fun _ i _ => 0 - (intOf i).toNat)
      case atStart => exact ⟨0, Nat.zero_le _, rfl, World.ownsRow_nil _ _ _ _, grown_refl _ _⟩
      case round =>
        obtain ⟨j, hj, rfl, o1, g1⟩ := hrel
        obtain ⟨X, hX⟩ : ∃ X, X = wr := ⟨_, rfl⟩
        subst hX
        obtain ⟨pa, pc, rfl⟩ := own_form o1
        obtain rfl : j = 0 := by omega
        · have hz9 : (0 : Nat) = 0 := rfl
          have Hw : Hid (w.heap.size ≤ X.heap.size) := Nat.le_trans HO.out.2.2.size g1.size
          have HP1 : Hid (X.ownsRow w.heap.size 22 1 (.slice ua k uc) k vs) := own22_keep HO.out.1 g1
          have HR : Hid (X.ownsRow U.heap.size 3 1 (.slice pa 0 pc) 0 (ints (dealH l H 0 k)) ∧ U.grownBy X none) := ⟨o1, g1⟩
          clear o1 g1
          go_wp2_with (at_builtin; refine wpList_append_own_at _ rfl (.tmp 52) (.tmp 54) 32 rfl w.heap.size 22 i1 (.slice none 0 0) 1 24 Try.underlying32 hi1 hy0 hy1 hy2 rfl (by decide) (.slice ua k uc) k vs rfl (HP1.out.alloc _) ⟨X.heap.size, 0, none⟩ 1 1 [.slice pa 0 pc] rfl rfl (cell22_one _ _) (fun x hx => by simp at hx; subst hx; rfl) (by unfold maxLen; omega) (by omega) (by have := Hw.out; rw [World.size_alloc]; omega) ?_; intro v' w7 hown' hgrow7 hnil7 hlie; have HF : Hid (DgAt w w7 l H 0 (k + 1) v') := DgAt.next HO.out.1 HO.out.2.1 HO.out.2.2 (grown_push HR.out.2 _) (own_keepN HR.out.1 (World.grownBy_alloc _ _ none)) hown' hgrow7; clear hown' hgrow7 hnil7 hlie)
          first
          | exact ⟨⟨k + 1, hlt, by first | rfl | (rw [hmH.wrap hlt]; rfl), HF.out⟩, by first | exact meas_next hlt | (rw [hmH.wrap hlt]; exact meas_next hlt)⟩
          | (go_roundw
             case rel => exact ⟨k + 1, hlt, by first | rfl | (rw [hmH.wrap hlt]; rfl), HF.out⟩
             case measure => first | exact meas_next hlt | (rw [hmH.wrap hlt]; exact meas_next hlt))
    · have hlt' : ¬ (k : Int) < (H : Int) := by omega
      obtain rfl : k = H := by omega
      have CC := CR.out U HO.out.2.2
      clear CR
      go_wp2_with fail
      refine CC.mono ?_
      rintro e U1 ⟨u, rfl, o1, g1⟩
      have HF : Hid (U1.ownsRow U.heap.size 3 1 u 0 (ints (l.drop (k * 0))) ∧ U.grownBy U1 none) := ⟨o1, g1⟩
      clear o1 g1 CC
      go_wp2
      go_ret3
      exact DePost.yes (E := 0) HX.out.1 HX.out.2.1 HX.out.2.2 (own22_keep HO.out.1 HF.out.2) (HO.out.2.1.keep HF.out.2) HO.out.2.2.size HF.out.2.size HF.out.1 (grown_trans HO.out.2.2 HF.out.2)
end Go.Proofs.Ytjjgipklhdofhaa
