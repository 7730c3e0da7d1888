/-
  ApartI of two lists of five that lie in blocks of their own answers true: each place holds what was written there.
-/
import Derived.Test.YteigfndahedleaaDoorKept
import Derived.Laws.IdiomStrings
namespace Go.Proofs.YteigfndahedleaaDoor.ApartI
open Go.RowKit

/-- What is written at place k of list i. -/
def mark (i k : Nat) : Int := -1000003 * (i : Int) - k - 5
set_option maxHeartbeats 400000 in
theorem mark_call (i k : Nat) (w : World) (hi : i < 2) (hk : k < 5) : Calls Tryd.prog 29 #[.int .i64 i, .int .i64 k] w fun e w' => e = .returned (.int .i64 (mark i k)) ∧ w.grownBy w' none := by
  unfold mark
  go_enter Tryd.func29, Tryd.ntmps29
  go_wp2
  go_ret
  exact ⟨rfl, grown_refl _ _⟩
theorem row_of_own {w : World} {base : Nat} {v : Value} {T : List (Nat × Nat)} (h : w.ownsRow base 31 1 v T.length (toldCells T)) (h0 : 0 < T.length) : ∃ g cap, v = .slice (some ⟨g, 0, none⟩) T.length cap ∧ base ≤ g ∧ RowAt w g T ∧ ∃ cs, w.heap[g]? = some (.cells cs 31 (0, 0)) := by
  obtain ⟨h1, h2⟩ := h
  rcases h2 with ⟨rfl, e⟩ | ⟨g, cap, cur, rfl, hg0, hh, hn, hm, hs, ht⟩
  · omega
  · refine ⟨g, cap, rfl, hg0, fun j hj => ?_, cur, hh⟩
    rw [block_cell hh, ← toldCells_at T j hj, ← ht, List.getElem?_take, if_pos (by omega)]
    simp
theorem infoE : (Tryd.prog.info? 31).map (fun i => (i.zero, i.size, i.bytes)) = some (some (.slice none 0 0), 1, 24) := by kernel_rfl
/-- t has the lists T: block and length of each. -/
def Told (w : World) (t : Value) (T : List (Nat × Nat)) : Prop := w.ownsRow 0 31 1 t T.length (toldCells T) ∧ ∀ x, x ∈ T → x.2 ≤ 5 ∧ ∃ cs, w.heap[x.1]? = some (.cells cs 3 (0, 0)) ∧ cs.size = x.2
/-- The lists that were told, marked so far: those before i, and of list i the first k places. -/
def Marked (w : World) (T : List (Nat × Nat)) (i k : Nat) : Prop := ∀ j, j < T.length → ∃ cs, w.heap[(T.getD j (0, 0)).1]? = some (.cells cs 3 (0, 0)) ∧ cs.size = (T.getD j (0, 0)).2 ∧ ∀ m, m < (T.getD j (0, 0)).2 → (j < i ∨ (j = i ∧ m < k)) → cs[m]? = some (.int .i64 (mark j m))
theorem Marked.keep {w w' : World} {T : List (Nat × Nat)} {i k : Nat} (M : Marked w T i k) (g : w.grownBy w' none) : Marked w' T i k := fun j hj => by
  obtain ⟨cs, h1, h2, h3⟩ := M j hj
  exact ⟨cs, grown_keep g h1 (by simp), h2, h3⟩
theorem marked_start {w w' : World} {t : Value} {T : List (Nat × Nat)} (D : Told w t T) (g : w.grownBy w' none) : Marked w' T 0 0 := fun j hj => by
  obtain ⟨_, cs, h1, h2⟩ := D.2 _ (getD_mem T j hj)
  exact ⟨cs, grown_keep g h1 (by simp), h2, fun m _ h => by omega⟩
theorem marked_cell {w : World} {T : List (Nat × Nat)} {i k m : Nat} (M : Marked w T i k) (hi : i < T.length) (hm : m < (T.getD i (0, 0)).2) : (∃ u, w.cell? ⟨(T.getD i (0, 0)).1, m, none⟩ = some u) ∧ ∀ o, w.frozen? ⟨(T.getD i (0, 0)).1, o, none⟩ = false := by
  obtain ⟨cs, h1, h2, _⟩ := M i hi
  refine ⟨⟨cs[m]'(by omega), ?_⟩, block_free h1⟩
  rw [block_cell h1]
  exact Array.getElem?_eq_getElem (by omega)
theorem marked_read {w : World} {T : List (Nat × Nat)} {i m : Nat} (M : Marked w T T.length 0) (hi : i < T.length) (hm : m < (T.getD i (0, 0)).2) : w.cell? ⟨(T.getD i (0, 0)).1, m, none⟩ = some (.int .i64 (mark i m)) := by
  obtain ⟨cs, h1, h2, h3⟩ := M i hi
  rw [block_cell h1]; exact h3 m hm (Or.inl hi)
theorem marked_step {w : World} {T : List (Nat × Nat)} {i k : Nat} (M : Marked w T i k) (hT : (T.map Prod.fst).Nodup) (hi : i < T.length) : Marked (w.setCell ⟨(T.getD i (0, 0)).1, k, none⟩ (.int .i64 (mark i k))) T i (k + 1) := fun j hj => by
  obtain ⟨cs, h1, h2, h3⟩ := M j hj
  by_cases e : j = i
  · subst e
    refine ⟨cs.setIfInBounds k (.int .i64 (mark j k)), block_set h1 _ _, by simpa using h2, fun m hm h => ?_⟩
    by_cases em : m = k
    · subst em; rw [Array.getElem?_setIfInBounds_self_of_lt (by omega)]
    · rw [Array.getElem?_setIfInBounds_ne (by omega)]; exact h3 m hm (by omega)
  · refine ⟨cs, ?_, h2, fun m hm h => h3 m hm (by omega)⟩
    rw [Below.heap_setCell _ _ _ _ (fun h => e (fst_inj T hT j i hj hi h))]; exact h1
theorem marked_next {w : World} {T : List (Nat × Nat)} {i k : Nat} (M : Marked w T i k) (hk : (T.getD i (0, 0)).2 ≤ k) : Marked w T (i + 1) 0 := fun j hj => by
  obtain ⟨cs, h1, h2, h3⟩ := M j hj
  refine ⟨cs, h1, h2, fun m hm h => h3 m hm ?_⟩
  by_cases e : j = i
  · subst e; omega
  · omega
set_option maxRecDepth 100000 in
set_option maxHeartbeats 1000000 in
theorem apart_any (t : Value) (T : List (Nat × Nat)) (w : World) (D : Told w t T) (h0 : 0 < T.length) (h1 : T.length ≤ 2) (hT : (T.map Prod.fst).Nodup) : Calls Tryd.prog 21 #[t] w fun e w' => e = .returned (.bool true) ∧ Kept (T.map Prod.fst) w w' := by
  obtain ⟨gt, capt, rfl, _, rt, _⟩ := row_of_own D.1 h0
  have RT : Hid (RowAt w gt T) := rt
  have hgt : gt < w.heap.size := World.block_lt_of_cell? _ _ (rt 0 h0)
  clear rt
  obtain ⟨i0, hi, hz0, hz1, hz2⟩ := info_parts infoE
  have hlen : ∀ j, j < T.length → (T.getD j (0, 0)).2 ≤ 5 := fun j hj => (D.2 _ (by simp [List.getD, List.getElem?_eq_getElem hj])).1
  have HL : Hid (∀ j, j < T.length → (T.getD j (0, 0)).2 ≤ 5) := hlen
  clear hlen
  go_enter Tryd.func21, Tryd.ntmps21
  go_wp2_with fail
  go_loopw [3, 4] (fun v i wr => ∃ (k : Nat) (q : Option Addr) (cp : Nat), k ≤ T.length ∧ i = .int .i64 k ∧ v = .slice q k cp ∧ wr.ownsRow w.heap.size 31 1 v k (toldCells (T.take k)) ∧ w.grownBy wr none) (fun _ i _ => T.length - (intOf i).toNat)
  case atStart => exact ⟨0, none, 0, Nat.zero_le _, rfl, rfl, World.ownsRow_nil _ _ _ _, grown_refl _ _⟩
  case round =>
    obtain ⟨k, q, cp, hk, rfl, rfl, O, G⟩ := hrel
    by_cases hlt : k < T.length
    · have ck : wr.cell? ⟨gt, k, none⟩ = some (.slice (some ⟨(T.getD k (0, 0)).1, 0, none⟩) (T.getD k (0, 0)).2 (T.getD k (0, 0)).2) := G.cell (RT.out k hlt) (by simp)
      have hn := HL.out k hlt
      have hsn := told_snoc T k hlt
      generalize T.getD k (0, 0) = x at *
      obtain ⟨g, n⟩ := x
      have HS : Hid (toldCells (T.take (k + 1)) = toldCells (T.take k) ++ [.slice (some ⟨g, 0, none⟩) n n]) := hsn
      clear hsn
      simp only at ck hn
      have hn0 : (0 : Int) ≤ (n : Int) := by omega
      have hn1 : (n : Int) ≤ (n : Int) := by omega
      have hz : w.heap.size ≤ wr.heap.size := G.size
      have Ga : w.grownBy (wr.alloc (Obj.cells #[.slice (some ⟨g, 0, none⟩) n n] 31)).drew none := grown_drew (grown_trans G (World.grownBy_alloc wr _ none))
      have CK : Hid (∀ X, w.grownBy X none → X.cell? ⟨gt, k, none⟩ = some (.slice (some ⟨g, 0, none⟩) n n)) := fun X hX => by
        have e := G.block gt hgt (by simp)
        rw [World.cell?_of_block (w := wr) (by rw [hX.block gt hgt (by simp), e])]; exact ck
      have hb := own_above O
      go_wp2_with fail
      go_region_held3 (fun w' => w'.cell? ⟨gt, k, none⟩ = some (.slice (some ⟨g, 0, none⟩) n n)) (first | exact CK.out _ G5 | exact CK.out _ Ga | exact CK.out _ (grown_drew G)) ((refine step_append_lies _ (by rfl) (.tmp 15) (.tmp 26) 40 (by rfl) w.heap.size 31 i0 (.slice none 0 0) 1 24 Tryd.underlying40 hi hz0 hz1 hz2 (by rfl) (by decide) (.slice q k cp) k (toldCells (T.take k)) (by rfl) (by exact O.alloc _) ⟨wr.heap.size, 0, none⟩ 1 1 [.slice (some ⟨g, 0, none⟩) n n] (by rfl) (by rfl) (cell_one_new _ _ _) (fun x hx => by simp at hx; subst hx; rfl) (by omega) (small_len (by omega)) (by omega) (by simp; omega) (wr.heap.size + 1) (by simp) ?_; intro g5 cap5 w5 O5 gr5 hat5 hlt5; have G5 := grown_own Ga gr5 hb))
      rw [← HS.out] at O5
      clear hat5 hlt5 gr5 Ga CK O G ck hb
      go_wp2_with fail
      go_roundw
      case rel => exact ⟨k + 1, _, _, by omega, by go_num, rfl, O5, G5⟩
      case measure => simp [intOf]; omega
    · have ek : k = T.length := by omega
      subst ek
      rw [List.take_of_length_le (Nat.le_refl _)] at O
      obtain ⟨ga, capa, ea, hga, RA, cA⟩ := row_of_own O h0
      obtain ⟨rfl, rfl⟩ : q = some ⟨ga, 0, none⟩ ∧ cp = capa := by simpa using ea
      obtain ⟨wz, hwz⟩ : ∃ wz, wz = wr := ⟨_, rfl⟩
      subst hwz
      have hga2 : ga ∉ T.map Prod.fst := fun h => by
        obtain ⟨x, hx, e⟩ := List.mem_map.1 h
        obtain ⟨_, cs, hcs, _⟩ := D.2 x hx
        have := block_lt hcs
        omega
      have M := marked_start D G
      have HR : Hid (∀ X, Kept (T.map Prod.fst) wz X → ∀ j, j < T.length → X.cell? ⟨ga, j, none⟩ = some (.slice (some ⟨(T.getD j (0, 0)).1, 0, none⟩) (T.getD j (0, 0)).2 (T.getD j (0, 0)).2)) := fun X hX j hj => hX.cell (RA j hj) hga2
      have K0 : Kept (T.map Prod.fst) wz wz := Kept.refl _ _
      clear RA cA ea O D RT hlt hk
      go_wp2_with fail
      go_loopw [5] (fun i wq => ∃ k : Nat, k ≤ T.length ∧ i = .int .i64 k ∧ Marked wq T k 0 ∧ Kept (T.map Prod.fst) wz wq) (fun i _ => T.length - (intOf i).toNat)
      case atStart => exact ⟨0, Nat.zero_le _, rfl, M, K0⟩
      case round =>
        clear M K0
        obtain ⟨k, hk, rfl, M, KQ⟩ := hrel
        by_cases hlt : k < T.length
        · have hn := HL.out k hlt
          go_wp2_with fail
          go_loopw [6] (fun i wp => ∃ m : Nat, m ≤ (T.getD k (0, 0)).2 ∧ i = .int .i64 m ∧ Marked wp T k m ∧ Kept (T.map Prod.fst) wz wp) (fun i _ => (T.getD k (0, 0)).2 - (intOf i).toNat)
          case atStart => exact ⟨0, Nat.zero_le _, rfl, M, KQ⟩
          case round =>
            clear M KQ
            obtain ⟨m, hm, rfl, M, KP⟩ := hrel
            have ck := HR.out wr KP k hlt
            by_cases hml : m < (T.getD k (0, 0)).2
            · obtain ⟨⟨u, cm⟩, fm⟩ := marked_cell M hlt hml
              have HM : Hid (Marked wr T k m) := M
              have HKP : Hid (Kept (T.map Prod.fst) wz wr) := KP
              have HH : Hid (∀ X, Kept (T.map Prod.fst) wz X → Marked X T k m → (∃ u, X.cell? ⟨(T.getD k (0, 0)).1, m, none⟩ = some u) ∧ (∀ o, X.frozen? ⟨(T.getD k (0, 0)).1, o, none⟩ = false) ∧ X.cell? ⟨ga, k, none⟩ = some (.slice (some ⟨(T.getD k (0, 0)).1, 0, none⟩) (T.getD k (0, 0)).2 (T.getD k (0, 0)).2) ∧ Marked (X.setCell ⟨(T.getD k (0, 0)).1, m, none⟩ (.int .i64 (mark k m))) T k (m + 1) ∧ Kept (T.map Prod.fst) wz (X.setCell ⟨(T.getD k (0, 0)).1, m, none⟩ (.int .i64 (mark k m))) ∧ (X.setCell ⟨(T.getD k (0, 0)).1, m, none⟩ (.int .i64 (mark k m))).cell? ⟨ga, k, none⟩ = some (.slice (some ⟨(T.getD k (0, 0)).1, 0, none⟩) (T.getD k (0, 0)).2 (T.getD k (0, 0)).2)) := fun X KX MX => by
                have K2 : Kept (T.map Prod.fst) wz (X.setCell ⟨(T.getD k (0, 0)).1, m, none⟩ (.int .i64 (mark k m))) := KX.trans (Kept.of_grown (grown_set _ _ _ _)) (fun x hx => Or.inl (single_mem hx (fst_mem T k hlt)))
                exact ⟨(marked_cell MX hlt hml).1, (marked_cell MX hlt hml).2, HR.out X KX k hlt, marked_step MX hT hlt, K2, HR.out _ K2 k hlt⟩
              generalize hx : T.getD k (0, 0) = x at *
              obtain ⟨g, n⟩ := x
              simp only at ck cm fm hn hml hm HH ⊢
              have HX : Hid (T.getD k (0, 0) = (g, n)) := hx
              have hm0 : (0 : Int) ≤ (m : Int) := by omega
              have hm1 : (m : Int) < (n : Int) := by omega
              clear hx M KP
              go_wp2_with fail
              go_region_held3 (fun w' => w'.cell? ⟨ga, k, none⟩ = some (.slice (some ⟨g, 0, none⟩) n n)) (first | exact S3 | exact CK | exact ck | (simp [*]; done)) ((go_at_call 29; refine (mark_call k m _ (by omega) (by omega)).mono ?_; rintro e w3 ⟨rfl, g3⟩; have g3' : wr.grownBy w3 none := ⟨g3.os, g3.tape, g3.output, g3.size, g3.block⟩; obtain ⟨⟨u3, cm3⟩, fm3, S3, M2, K2, CK⟩ := HH.out w3 (HKP.out.grow g3') (HM.out.keep g3'); clear g3))
              clear S3 CK cm3 fm3 ck cm fm
              go_wp2_with fail
              go_roundw
              case rel => first | exact ⟨m + 1, by omega, by go_num, M2, K2⟩ | exact ⟨m + 1, by omega, by go_num, M2, K2.drew⟩
              case measure => simp [intOf]; omega
            · have M2 := marked_next M (Nat.le_of_not_lt hml)
              generalize hx : T.getD k (0, 0) = x at *
              obtain ⟨g, n⟩ := x
              have HX : Hid (T.getD k (0, 0) = (g, n)) := hx
              simp only at ck hn hml hm ⊢
              have hml' : ¬ ((m : Int) < (n : Int)) := by omega
              clear hx M
              go_wp2_with fail
              go_roundw
              case rel => exact ⟨k + 1, by omega, by go_num, M2, KP⟩
              case measure => simp [intOf]; omega
        · have ek : k = T.length := by omega
          subst ek
          obtain ⟨wy, hwy⟩ : ∃ wy, wy = wr := ⟨_, rfl⟩
          subst hwy
          have HR2 := HR.out wy KQ
          have HC : Hid (∀ j, j < T.length → wy.cell? ⟨ga, j, none⟩ = some (.slice (some ⟨(T.getD j (0, 0)).1, 0, none⟩) (T.getD j (0, 0)).2 (T.getD j (0, 0)).2)) := HR2
          clear HR HR2 hk hlt
          go_wp2_with fail
          go_loopw [7] (fun i wq => ∃ k : Nat, k ≤ T.length ∧ i = .int .i64 k ∧ wy.grownBy wq none) (fun i _ => T.length - (intOf i).toNat)
          case atStart => exact ⟨0, Nat.zero_le _, rfl, grown_refl _ _⟩
          case round =>
            obtain ⟨k, hk, rfl, GQ⟩ := hrel
            by_cases hlt : k < T.length
            · have hn := HL.out k hlt
              have HCk := HC.out k hlt
              have rd : ∀ m, m < (T.getD k (0, 0)).2 → wy.cell? ⟨(T.getD k (0, 0)).1, m, none⟩ = some (.int .i64 (mark k m)) := fun m hm => marked_read M hlt hm
              generalize T.getD k (0, 0) = x at *
              obtain ⟨g, n⟩ := x
              simp only at HCk hn rd
              have RD : Hid (∀ m, m < n → wy.cell? ⟨g, m, none⟩ = some (.int .i64 (mark k m))) := rd
              have CK : Hid (wy.cell? ⟨ga, k, none⟩ = some (.slice (some ⟨g, 0, none⟩) n n)) := HCk
              obtain ⟨wx, hwx⟩ : ∃ wx, wx = wr := ⟨_, rfl⟩
              subst hwx
              clear rd HCk
              go_wp2_with fail
              go_loopw [8] (fun i wp => ∃ m : Nat, m ≤ n ∧ i = .int .i64 m ∧ wy.grownBy wp none) (fun i _ => n - (intOf i).toNat)
              case atStart => exact ⟨0, Nat.zero_le _, rfl, GQ⟩
              case round =>
                clear GQ
                obtain ⟨m, hm, rfl, GP⟩ := hrel
                have ck := GP.cell CK.out (by simp)
                by_cases hml : m < n
                · have cm := GP.cell (RD.out m hml) (by simp)
                  have HGP : Hid (wy.grownBy wr none) := GP
                  have hm0 : (0 : Int) ≤ (m : Int) := by omega
                  have hm1 : (m : Int) < (n : Int) := by omega
                  clear GP
                  go_wp2_with fail
                  go_region_held3 (fun w' => w'.cell? ⟨ga, k, none⟩ = some (.slice (some ⟨g, 0, none⟩) n n) ∧ w'.cell? ⟨g, m, none⟩ = some (.int .i64 (mark k m))) (first | exact S3 | exact ⟨ck, cm⟩ | (simp [*]; done)) ((go_at_call 29; refine (mark_call k m _ (by omega) (by omega)).mono ?_; rintro e w3 ⟨rfl, g3⟩; have G3 : wy.grownBy w3 none := grown_trans HGP.out ⟨g3.os, g3.tape, g3.output, g3.size, g3.block⟩; have S3 : w3.cell? ⟨ga, k, none⟩ = some (.slice (some ⟨g, 0, none⟩) n n) ∧ w3.cell? ⟨g, m, none⟩ = some (.int .i64 (mark k m)) := ⟨G3.cell CK.out (by simp), G3.cell (RD.out m hml) (by simp)⟩; clear g3))
                  clear S3
                  go_wp2_with fail
                  go_roundw
                  case rel => first | exact ⟨m + 1, by omega, by go_num, G3⟩ | exact ⟨m + 1, by omega, by go_num, grown_drew G3⟩
                  case measure => simp [intOf]; omega
                · have hml' : ¬ ((m : Int) < (n : Int)) := by omega
                  go_wp2_with fail
                  go_roundw
                  case rel => exact ⟨k + 1, by omega, by go_num, GP⟩
                  case measure => simp [intOf]; omega
            · go_wp2
              go_ret
              exact ⟨rfl, ((Kept.of_grown G).mono (by simp)).trans (KQ.trans (Kept.of_grown GQ) (by simp)) (fun _ hx => Or.inl hx)⟩
end Go.Proofs.YteigfndahedleaaDoor.ApartI
