/-
  ApartInts answers true of lists that lie in blocks of their own: each place holds what was written there.
-/
import Derived.Test.YtldjfeodeodcmaaKindFive
import Derived.Deep.QuietTactic
import Derived.BigQuiet
namespace Go.Proofs.Ytldjfeodeodcmaa
open Go.RowKit

/-- What ApartInts writes at place k of list i. -/
def mark (i k : Nat) : Int := -1000003 * (i : Int) - k - 5
set_option maxHeartbeats 400000 in
theorem mark_any (i k : Nat) (w : World) (hi : i ≤ 1000) (hk : k ≤ 1000) : Calls Try.prog 27 #[.int .i64 i, .int .i64 k] w fun e w' => e = .returned (.int .i64 (mark i k)) ∧ w' = w := by
  unfold mark
  go_enter Try.func27, Try.ntmps27
  go_wp2
  go_ret
  exact ⟨rfl, rfl⟩

/-- The row at block g begins with the lists T. -/
def RowAt (w : World) (g : Nat) (T : List (Nat × Nat)) : Prop := ∀ j, j < T.length → w.cell? ⟨g, j, none⟩ = some (.slice (some ⟨(T.getD j (0, 0)).1, 0, none⟩) (T.getD j (0, 0)).2 (T.getD j (0, 0)).2)
theorem toldCells_at (T : List (Nat × Nat)) (j : Nat) (h : j < T.length) : (toldCells T)[j]? = some (.slice (some ⟨(T.getD j (0, 0)).1, 0, none⟩) (T.getD j (0, 0)).2 (T.getD j (0, 0)).2) := by
  simp [toldCells, List.getD, List.getElem?_eq_getElem h]
theorem row_of_own {w : World} {base : Nat} {v : Value} {T : List (Nat × Nat)} (h : w.ownsRow base 35 1 v T.length (toldCells T)) (h0 : 0 < T.length) : ∃ g cap, v = .slice (some ⟨g, 0, none⟩) T.length cap ∧ base ≤ g ∧ RowAt w g T ∧ ∃ cs, w.heap[g]? = some (.cells cs 35 (0, 0)) := by
  obtain ⟨h1, h2⟩ := h
  rcases h2 with ⟨rfl, e⟩ | ⟨g, cap, cur, rfl, hg0, hh, hn, hm, hs, ht⟩
  · omega
  · refine ⟨g, cap, rfl, hg0, fun j hj => ?_, cur, hh⟩
    rw [block_cell hh, ← toldCells_at T j hj, ← ht, List.getElem?_take, if_pos (by omega)]
    simp
theorem told_snoc (T : List (Nat × Nat)) (k : Nat) (h : k < T.length) : toldCells (T.take (k + 1)) = toldCells (T.take k) ++ [.slice (some ⟨(T.getD k (0, 0)).1, 0, none⟩) (T.getD k (0, 0)).2 (T.getD k (0, 0)).2] := by
  rw [List.take_succ_eq_append_getElem h]
  unfold toldCells
  rw [List.map_append]
  congr 1
  simp [List.getD, List.getElem?_eq_getElem h]
theorem grown_drew {a b : World} {r : Option Nat} (h : a.grownBy b r) : a.grownBy b.drew r := ⟨h.os, h.tape, h.output, h.size, h.block⟩
theorem own_above {w : World} {base : Nat} {e : TypeId} {size n : Nat} {v : Value} {xs : List Value} (h : w.ownsRow base e size v n xs) : ∀ x, v.ownBlock = some x → base ≤ x := by
  obtain ⟨h1, h2⟩ := h
  intro x hx
  rcases h2 with ⟨rfl, _⟩ | ⟨g, cap, cur, rfl, hg0, _⟩
  · simp [Value.ownBlock] at hx
  · simp [Value.ownBlock] at hx; omega
/-- The lists that were told, marked so far: those before i, and of list i the first k places. -/
def Marked (w : World) (T : List (Nat × Nat)) (i k : Nat) : Prop := ∀ j, j < T.length → ∃ cs, w.heap[(T.getD j (0, 0)).1]? = some (.cells cs 3 (0, 0)) ∧ cs.size = (T.getD j (0, 0)).2 ∧ ∀ m, m < (T.getD j (0, 0)).2 → (j < i ∨ (j = i ∧ m < k)) → cs[m]? = some (.int .i64 (mark j m))
theorem getD_mem (T : List (Nat × Nat)) (j : Nat) (h : j < T.length) : T.getD j (0, 0) ∈ T := by simp [List.getD, List.getElem?_eq_getElem h]
theorem fst_mem (T : List (Nat × Nat)) (j : Nat) (h : j < T.length) : (T.getD j (0, 0)).1 ∈ T.map Prod.fst := List.mem_map.2 ⟨_, getD_mem T j h, rfl⟩
theorem marked_start {w w' : World} {t : Value} {T : List (Nat × Nat)} (D : Told w t T) (g : w.grownBy w' none) : Marked w' T 0 0 := fun j hj => by
  obtain ⟨_, cs, h1, h2⟩ := D.2 _ (getD_mem T j hj)
  exact ⟨cs, grown_keep g h1 (by simp), h2, fun m _ h => by omega⟩
theorem marked_cell {w : World} {T : List (Nat × Nat)} {i k m : Nat} (M : Marked w T i k) (hi : i < T.length) (hm : m < (T.getD i (0, 0)).2) : (∃ u, w.cell? ⟨(T.getD i (0, 0)).1, m, none⟩ = some u) ∧ ∀ o, w.frozen? ⟨(T.getD i (0, 0)).1, o, none⟩ = false := by
  obtain ⟨cs, h1, h2, _⟩ := M i hi
  refine ⟨⟨cs[m]'(by omega), ?_⟩, block_free h1⟩
  rw [block_cell h1]
  exact Array.getElem?_eq_getElem (by omega)
theorem marked_read {w : World} {T : List (Nat × Nat)} {i m : Nat} (M : Marked w T T.length 0) (hi : i < T.length) (hm : m < (T.getD i (0, 0)).2) : w.cell? ⟨(T.getD i (0, 0)).1, m, none⟩ = some (.int .i64 (mark i m)) := by
  obtain ⟨cs, h1, h2, h3⟩ := M i hi
  rw [block_cell h1]; exact h3 m hm (Or.inl hi)
theorem Kept.drew {S : List Nat} {a b : World} (h : Kept S a b) : Kept S a b.drew := ⟨h.os, h.tape, h.output, h.size, h.block⟩
theorem single_mem {x y : Nat} {S : List Nat} (h : x ∈ (some y).toList) (hy : y ∈ S) : x ∈ S := by
  have : x = y := by simpa using h
  rw [this]; exact hy
theorem fst_inj (T : List (Nat × Nat)) (hT : (T.map Prod.fst).Nodup) (i j : Nat) (hi : i < T.length) (hj : j < T.length) (h : (T.getD i (0, 0)).1 = (T.getD j (0, 0)).1) : i = j := by
  have e1 : (T.map Prod.fst)[i]'(by simpa using hi) = (T.getD i (0, 0)).1 := by simp [List.getD, List.getElem?_eq_getElem hi]
  have e2 : (T.map Prod.fst)[j]'(by simpa using hj) = (T.getD j (0, 0)).1 := by simp [List.getD, List.getElem?_eq_getElem hj]
  have hp := List.pairwise_iff_getElem.1 hT
  rcases Nat.lt_trichotomy i j with hij | hij | hij
  · exact absurd (by rw [e1, e2, h]) (hp i j (by simpa using hi) (by simpa using hj) hij)
  · exact hij
  · exact absurd (by rw [e1, e2, h]) (hp j i (by simpa using hj) (by simpa using hi) hij)
theorem marked_step {w : World} {T : List (Nat × Nat)} {i k : Nat} (M : Marked w T i k) (hT : (T.map Prod.fst).Nodup) (hi : i < T.length) : Marked (w.setCell ⟨(T.getD i (0, 0)).1, k, none⟩ (.int .i64 (mark i k))) T i (k + 1) := fun j hj => by
  obtain ⟨cs, h1, h2, h3⟩ := M j hj
  by_cases e : j = i
  · subst e
    refine ⟨cs.setIfInBounds k (.int .i64 (mark j k)), block_set h1 _ _, by simpa using h2, fun m hm h => ?_⟩
    by_cases em : m = k
    · subst em; rw [Array.getElem?_setIfInBounds_self_of_lt (by omega)]
    · rw [Array.getElem?_setIfInBounds_ne (by omega)]; exact h3 m hm (by omega)
  · refine ⟨cs, ?_, h2, fun m hm h => h3 m hm (by omega)⟩
    rw [Below.heap_setCell _ _ _ _ (fun h => e (fst_inj T hT j i hj hi h))]; exact h1
theorem marked_next {w : World} {T : List (Nat × Nat)} {i k : Nat} (M : Marked w T i k) (hk : (T.getD i (0, 0)).2 ≤ k) : Marked w T (i + 1) 0 := fun j hj => by
  obtain ⟨cs, h1, h2, h3⟩ := M j hj
  refine ⟨cs, h1, h2, fun m hm h => h3 m hm ?_⟩
  by_cases e : j = i
  · subst e; omega
  · omega
set_option maxRecDepth 100000 in
set_option maxHeartbeats 1000000 in
theorem apart_any (t : Value) (T : List (Nat × Nat)) (w : World) (D : Told w t T) (h0 : 0 < T.length) (h1 : T.length ≤ 1000) (hT : (T.map Prod.fst).Nodup) : Calls Try.prog 13 #[t] w fun e w' => e = .returned (.bool true) ∧ Kept (T.map Prod.fst) w w' := by
  obtain ⟨gt, capt, rfl, _, rt, _⟩ := row_of_own D.1 h0
  have RT : Hid (RowAt w gt T) := rt
  have hgt : gt < w.heap.size := World.block_lt_of_cell? _ _ (rt 0 h0)
  clear rt
  obtain ⟨i0, hi, hz0, hz1, hz2⟩ := info_parts Try.info35'
  have hlen : ∀ j, j < T.length → (T.getD j (0, 0)).2 ≤ 256 := fun j hj => (D.2 _ (by simp [List.getD, List.getElem?_eq_getElem hj])).1
  have HL : Hid (∀ j, j < T.length → (T.getD j (0, 0)).2 ≤ 256) := hlen
  clear hlen
  go_enter Try.func13, Try.ntmps13
  go_wp2_with fail
  go_loopw [3, 4] (fun v i wr => ∃ (k : Nat) (q : Option Addr) (cp : Nat), k ≤ T.length ∧ i = .int .i64 k ∧ v = .slice q k cp ∧ wr.ownsRow w.heap.size 35 1 v k (toldCells (T.take k)) ∧ w.grownBy wr none) (fun _ i _ => T.length - (intOf i).toNat)
  case atStart => exact ⟨0, none, 0, Nat.zero_le _, rfl, rfl, World.ownsRow_nil _ _ _ _, grown_refl _ _⟩
  case round =>
    obtain ⟨k, q, cp, hk, rfl, rfl, O, G⟩ := hrel
    by_cases hlt : k < T.length
    · have ck : wr.cell? ⟨gt, k, none⟩ = some (.slice (some ⟨(T.getD k (0, 0)).1, 0, none⟩) (T.getD k (0, 0)).2 (T.getD k (0, 0)).2) := G.cell (RT.out k hlt) (by simp)
      have hn := HL.out k hlt
      have hsn := told_snoc T k hlt
      generalize T.getD k (0, 0) = x at *
      obtain ⟨g, n⟩ := x
      have HS : Hid (toldCells (T.take (k + 1)) = toldCells (T.take k) ++ [.slice (some ⟨g, 0, none⟩) n n]) := hsn
      clear hsn
      simp only at ck hn
      have hn0 : (0 : Int) ≤ (n : Int) := by omega
      have hn1 : (n : Int) ≤ (n : Int) := by omega
      have hz : w.heap.size ≤ wr.heap.size := G.size
      have Ga : w.grownBy (wr.alloc (Obj.cells #[.slice (some ⟨g, 0, none⟩) n n] 35)).drew none := grown_drew (grown_trans G (World.grownBy_alloc wr _ none))
      have CK : Hid (∀ X, w.grownBy X none → X.cell? ⟨gt, k, none⟩ = some (.slice (some ⟨g, 0, none⟩) n n)) := fun X hX => by
        have e := G.block gt hgt (by simp)
        rw [World.cell?_of_block (w := wr) (by rw [hX.block gt hgt (by simp), e])]; exact ck
      have hb := own_above O
      go_wp2_with fail
      go_region_held3 (fun w' => w'.cell? ⟨gt, k, none⟩ = some (.slice (some ⟨g, 0, none⟩) n n)) (first | exact CK.out _ G5 | exact CK.out _ Ga | exact CK.out _ (grown_drew G)) ((refine step_append_lies _ (by rfl) (.tmp 15) (.tmp 26) 30 (by rfl) w.heap.size 35 i0 (.slice none 0 0) 1 24 Try.underlying30 hi hz0 hz1 hz2 (by rfl) (by decide) (.slice q k cp) k (toldCells (T.take k)) (by rfl) (by exact O.alloc _) ⟨wr.heap.size, 0, none⟩ 1 1 [.slice (some ⟨g, 0, none⟩) n n] (by rfl) (by rfl) (cell_one_new _ _ _) (fun x hx => by simp at hx; subst hx; rfl) (by omega) (small_maxLen (by omega)) (by omega) (by simp; omega) (wr.heap.size + 1) (by simp) ?_; intro g5 cap5 w5 O5 gr5 hat5 hlt5; have G5 := grown_own Ga gr5 hb))
      rw [← HS.out] at O5
      clear hat5 hlt5 gr5 Ga CK O G ck hb
      go_wp2_with fail
      go_roundw
      case rel => exact ⟨k + 1, _, _, by omega, by go_num, rfl, O5, G5⟩
      case measure => simp [intOf]; omega
    · have ek : k = T.length := by omega
      subst ek
      rw [List.take_of_length_le (Nat.le_refl _)] at O
      obtain ⟨ga, capa, ea, hga, RA, cA⟩ := row_of_own O h0
      obtain ⟨rfl, rfl⟩ : q = some ⟨ga, 0, none⟩ ∧ cp = capa := by simpa using ea
      obtain ⟨wz, hwz⟩ : ∃ wz, wz = wr := ⟨_, rfl⟩
      subst hwz
      have hga2 : ga ∉ T.map Prod.fst := fun h => by
        obtain ⟨x, hx, e⟩ := List.mem_map.1 h
        obtain ⟨_, cs, hcs, _⟩ := D.2 x hx
        have := block_lt hcs
        omega
      have M := marked_start D G
      have HR : Hid (∀ X, Kept (T.map Prod.fst) wz X → ∀ j, j < T.length → X.cell? ⟨ga, j, none⟩ = some (.slice (some ⟨(T.getD j (0, 0)).1, 0, none⟩) (T.getD j (0, 0)).2 (T.getD j (0, 0)).2)) := fun X hX j hj => hX.cell (RA j hj) hga2
      have K0 : Kept (T.map Prod.fst) wz wz := Kept.refl _ _
      clear RA cA ea O D RT hlt hk
      go_wp2_with fail
      go_loopw [5] (fun i wq => ∃ k : Nat, k ≤ T.length ∧ i = .int .i64 k ∧ Marked wq T k 0 ∧ Kept (T.map Prod.fst) wz wq) (fun i _ => T.length - (intOf i).toNat)
      case atStart => exact ⟨0, Nat.zero_le _, rfl, M, K0⟩
      case round =>
        clear M K0
        obtain ⟨k, hk, rfl, M, KQ⟩ := hrel
        by_cases hlt : k < T.length
        · have hn := HL.out k hlt
          go_wp2_with fail
          go_loopw [6] (fun i wp => ∃ m : Nat, m ≤ (T.getD k (0, 0)).2 ∧ i = .int .i64 m ∧ Marked wp T k m ∧ Kept (T.map Prod.fst) wz wp) (fun i _ => (T.getD k (0, 0)).2 - (intOf i).toNat)
          case atStart => exact ⟨0, Nat.zero_le _, rfl, M, KQ⟩
          case round =>
            clear M KQ
            obtain ⟨m, hm, rfl, M, KP⟩ := hrel
            have ck := HR.out wr KP k hlt
            by_cases hml : m < (T.getD k (0, 0)).2
            · obtain ⟨⟨u, cm⟩, fm⟩ := marked_cell M hlt hml
              have M2 := marked_step M hT hlt
              have K2 : Kept (T.map Prod.fst) wz (wr.setCell ⟨(T.getD k (0, 0)).1, m, none⟩ (.int .i64 (mark k m))) := KP.trans (Kept.of_grown (grown_set _ _ _ _)) (fun x hx => Or.inl (single_mem hx (fst_mem T k hlt)))
              have CK2 := HR.out _ K2 k hlt
              generalize hx : T.getD k (0, 0) = x at *
              obtain ⟨g, n⟩ := x
              simp only at ck cm fm M2 K2 CK2 hn hml hm ⊢
              have CK : Hid ((wr.setCell ⟨g, m, none⟩ (.int .i64 (mark k m))).cell? ⟨ga, k, none⟩ = some (.slice (some ⟨g, 0, none⟩) n n)) := CK2
              clear CK2
              have HX : Hid (T.getD k (0, 0) = (g, n)) := hx
              have hm0 : (0 : Int) ≤ (m : Int) := by omega
              have hm1 : (m : Int) < (n : Int) := by omega
              clear hx
              go_wp2_with fail
              go_region_held3 (fun w' => w'.cell? ⟨ga, k, none⟩ = some (.slice (some ⟨g, 0, none⟩) n n)) (first | exact CK.out | (simp [*]; done)) ((go_at_call 27; refine (mark_any k m _ (by omega) (by omega)).mono ?_; rintro e w3 ⟨rfl, rfl⟩))
              clear ck cm fm CK M KP
              go_wp2_with fail
              go_roundw
              case rel => exact ⟨m + 1, by omega, by go_num, M2, K2.drew⟩
              case measure => simp [intOf]; omega
            · have M2 := marked_next M (Nat.le_of_not_lt hml)
              generalize hx : T.getD k (0, 0) = x at *
              obtain ⟨g, n⟩ := x
              have HX : Hid (T.getD k (0, 0) = (g, n)) := hx
              simp only at ck hn hml hm ⊢
              have hml' : ¬ ((m : Int) < (n : Int)) := by omega
              clear hx M
              go_wp2_with fail
              go_roundw
              case rel => exact ⟨k + 1, by omega, by go_num, M2, KP⟩
              case measure => simp [intOf]; omega
        · have ek : k = T.length := by omega
          subst ek
          obtain ⟨wy, hwy⟩ : ∃ wy, wy = wr := ⟨_, rfl⟩
          subst hwy
          have HR2 := HR.out wy KQ
          have HC : Hid (∀ j, j < T.length → wy.cell? ⟨ga, j, none⟩ = some (.slice (some ⟨(T.getD j (0, 0)).1, 0, none⟩) (T.getD j (0, 0)).2 (T.getD j (0, 0)).2)) := HR2
          clear HR HR2 hk hlt
          go_wp2_with fail
          go_loopw [7] (fun i wq => ∃ k n : Nat, k ≤ T.length ∧ i = .int .i64 k ∧ wq = wy.drewN n) (fun i _ => T.length - (intOf i).toNat)
          case atStart => exact ⟨0, 0, Nat.zero_le _, rfl, rfl⟩
          case round =>
            obtain ⟨k, d, hk, rfl, rfl⟩ := hrel
            by_cases hlt : k < T.length
            · have hn := HL.out k hlt
              have ck := HC.out k hlt
              have rd : ∀ m, m < (T.getD k (0, 0)).2 → wy.cell? ⟨(T.getD k (0, 0)).1, m, none⟩ = some (.int .i64 (mark k m)) := fun m hm => marked_read M hlt hm
              generalize T.getD k (0, 0) = x at *
              obtain ⟨g, n⟩ := x
              simp only at ck hn rd
              have RD : Hid (∀ m, m < n → wy.cell? ⟨g, m, none⟩ = some (.int .i64 (mark k m))) := rd
              clear rd
              go_wp2_with fail
              go_loopw [8] (fun i wp => ∃ m d : Nat, m ≤ n ∧ i = .int .i64 m ∧ wp = wy.drewN d) (fun i _ => n - (intOf i).toNat)
              case atStart => exact ⟨0, d, Nat.zero_le _, rfl, rfl⟩
              case round =>
                obtain ⟨m, d2, hm, rfl, rfl⟩ := hrel
                by_cases hml : m < n
                · have cm := RD.out m hml
                  have hm0 : (0 : Int) ≤ (m : Int) := by omega
                  have hm1 : (m : Int) < (n : Int) := by omega
                  go_wp2_with fail
                  go_region_held3 (fun w' => w'.cell? ⟨ga, k, none⟩ = some (.slice (some ⟨g, 0, none⟩) n n) ∧ w'.cell? ⟨g, m, none⟩ = some (.int .i64 (mark k m))) ((simp [*]; done)) ((go_at_call 27; refine (mark_any k m _ (by omega) (by omega)).mono ?_; rintro e w3 ⟨rfl, rfl⟩))
                  go_wp2_with fail
                  go_roundw
                  case rel => exact ⟨m + 1, d2 + 1, by omega, by go_num, by first | rfl | simp⟩
                  case measure => simp [intOf]; omega
                · have hml' : ¬ ((m : Int) < (n : Int)) := by omega
                  go_wp2_with fail
                  go_roundw
                  case rel => exact ⟨k + 1, d2, by omega, by go_num, rfl⟩
                  case measure => simp [intOf]; omega
            · go_wp2
              go_ret
              exact ⟨rfl, ((Kept.of_grown G).mono (by simp)).trans (KQ.trans (Kept.of_grown (grown_drewN wy d none)) (by simp)) (fun _ hx => Or.inl hx)⟩
end Go.Proofs.Ytldjfeodeodcmaa
