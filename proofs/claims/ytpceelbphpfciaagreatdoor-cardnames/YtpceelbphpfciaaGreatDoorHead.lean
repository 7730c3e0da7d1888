/-
  What stands at a word in a map that settersOf has made, and what it does with a part; the three maps of headSetters.
-/
import Derived.Test.YtpceelbphpfciaaGreatDoorMap
import Derived.Test.YtpceelbphpfciaaGreatDoorFld
namespace Go.Proofs.YtpceelbphpfciaaGreatDoor
open Go.RowKit Go.MapKept Go.ChangeMaps

theorem PAt.wn {w : World} {q : Nat} {p : Pt} (h : PAt w q p) (x : Int) : PAt (w.setCell ⟨q, 0, none⟩ (.int .u8 x)) q { p with wn := x } := block_set h 0 _
theorem PAt.vb {w : World} {q : Nat} {p : Pt} (h : PAt w q p) (x : Int) : PAt (w.setCell ⟨q, 1, none⟩ (.int .u8 x)) q { p with vb := x } := block_set h 1 _
theorem PAt.wm {w : World} {q : Nat} {p : Pt} (h : PAt w q p) (x : Int) : PAt (w.setCell ⟨q, 2, none⟩ (.int .u8 x)) q { p with wm := x } := block_set h 2 _
theorem wrap_u8 {k : Nat} (h : k ≤ 100) : IntKind.u8.wrap (k : Int) = (k : Int) := by unfold IntKind.wrap; simp [IntKind.bits, IntKind.signed]; omega
theorem idx_at {ws : List (List UInt8)} (hd : ws.Nodup) {j : Nat} {x : List UInt8} (h : ws[j]? = some x) : idx ws x = j + 1 := by
  obtain ⟨h1, e1⟩ := List.getElem?_eq_some_iff.1 h
  have hm : x ∈ ws := List.mem_of_getElem? h
  have hlt : ws.idxOf x < ws.length := List.idxOf_lt_length_of_mem hm
  have e2 : ws[ws.idxOf x] = x := List.getElem_idxOf hlt
  unfold idx
  rw [if_pos hlt]
  rcases Nat.lt_trichotomy (ws.idxOf x) j with hl | hl | hl
  · exact absurd (e2.trans e1.symm) (List.pairwise_iff_getElem.1 hd _ _ hlt h1 hl)
  · omega
  · exact absurd (e1.trans e2.symm) (List.pairwise_iff_getElem.1 hd _ _ h1 hlt hl)
/-- What a map of setters has at a text. -/
theorem look_any {w : World} {B g : Nat} {ws : List (List UInt8)} (S : SetAt w B g ws) (hd : ws.Nodup) (hs : Short ws) (s : ByteArray) (hl : s.size ≤ 100) :
    (Instr.lookup 88 (.map (some (B + 1))) (.string s) true).run Tryz.prog w = .ok (if idx ws s.data.toList = 0 then .tuple #[.nilFunc, .bool false] else .tuple #[clo B (idx ws s.data.toList), .bool true]) w := by
  have ht : Tryz.prog.underlying 88 = some (.map 9 91) := Tryz.underlying88
  have hk : keyOf Tryz.prog 9 (.string s) = some (.string s.data.toList) := WideMaps.keyOf_string_mk Tryz.underlying9 (by unfold maxLen; omega)
  have hb := S.mp
  have hes : (⟨s.data.toList.toArray⟩ : ByteArray) = s := rfl
  rcases law9.find w hk (ents B ws).toList (short_keys hs) with ⟨h1, h2⟩ | ⟨j, e0, h1, h2, h3⟩
  · have hn : s.data.toList ∉ ws := by
      intro hm
      obtain ⟨j, hj, e⟩ := List.getElem_of_mem hm
      have he := entsL_at B ws 0 j s.data.toList (by rw [List.getElem?_eq_getElem hj, e])
      exact h2 _ (by simpa [ents] using List.mem_of_getElem? he) (by simp)
    rw [idx_none hn, if_pos rfl]
    simp [Instr.lookup, run_underlying ht, MapKept.run_getObj_map hb, law9.check w _ hk, h1, Result.andThen]
  · have hj : j < ws.length := by
      have := (List.getElem?_eq_some_iff.1 h2).1
      simpa [ents, entsL_length] using this
    have he := entsL_at B ws 0 j ws[j] (List.getElem?_eq_getElem hj)
    have e0eq : e0 = ⟨.string ⟨ws[j].toArray⟩, clo B (0 + j + 1), 0 + j⟩ := by
      have h2' : (entsL B 0 ws)[j]? = some e0 := h2
      exact (Option.some.inj (he.symm.trans h2')).symm
    have hx : ws[j] = s.data.toList := by
      have h4 : e0.key = .string ⟨ws[j].toArray⟩ := by rw [e0eq]
      rw [h3] at h4
      have h5 : s = ⟨ws[j].toArray⟩ := Value.string.inj h4
      rw [h5]
    have hi : idx ws s.data.toList = j + 1 := idx_at hd (by rw [List.getElem?_eq_getElem hj, hx])
    rw [hi, if_neg (by omega)]
    have hv : e0.val = clo B (j + 1) := by rw [e0eq]; simp
    simp [Instr.lookup, run_underlying ht, MapKept.run_getObj_map hb, law9.check w _ hk, h1, hv, Result.andThen]
set_option maxHeartbeats 1000000 in
theorem set0_any (q k : Nat) (hk : k ≤ 100) (p : Pt) (w : World) (A : PAt w q p) : Calls Tryz.prog 101 #[.pointer (some ⟨q, 0, none⟩), .int .i64 k] w fun e w' => e = .returned (.tuple #[]) ∧ PAt w' q { p with wn := k } ∧ w.grownBy w' (some q) := by
  have hw := wrap_u8 hk
  have c := A.cells.1
  have f := block_free A 0
  have HA : Hid (PAt w q p) := A
  clear A
  go_enter Tryz.func101, Tryz.ntmps101
  go_wp2
  go_end0
  exact ⟨rfl, HA.out.wn _, grown_set _ _ _ _⟩
set_option maxHeartbeats 1000000 in
theorem set1_any (q k : Nat) (hk : k ≤ 100) (p : Pt) (w : World) (A : PAt w q p) : Calls Tryz.prog 102 #[.pointer (some ⟨q, 0, none⟩), .int .i64 k] w fun e w' => e = .returned (.tuple #[]) ∧ PAt w' q { p with vb := k } ∧ w.grownBy w' (some q) := by
  have hw := wrap_u8 hk
  have c := A.cells.2.1
  have f := block_free A 1
  have HA : Hid (PAt w q p) := A
  clear A
  go_enter Tryz.func102, Tryz.ntmps102
  go_wp2
  go_end0
  exact ⟨rfl, HA.out.vb _, grown_set _ _ _ _⟩
set_option maxHeartbeats 1000000 in
theorem set2_any (q k : Nat) (hk : k ≤ 100) (p : Pt) (w : World) (A : PAt w q p) : Calls Tryz.prog 103 #[.pointer (some ⟨q, 0, none⟩), .int .i64 k] w fun e w' => e = .returned (.tuple #[]) ∧ PAt w' q { p with wm := k } ∧ w.grownBy w' (some q) := by
  have hw := wrap_u8 hk
  have c := A.cells.2.2.1
  have f := block_free A 2
  have HA : Hid (PAt w q p) := A
  clear A
  go_enter Tryz.func103, Tryz.ntmps103
  go_wp2
  go_end0
  exact ⟨rfl, HA.out.wm _, grown_set _ _ _ _⟩
set_option maxHeartbeats 1000000 in
theorem clo0_any (q B k : Nat) (ws : List (List UInt8)) (h1 : 1 ≤ k) (h2 : k ≤ ws.length) (hl : ws.length ≤ 100) (p : Pt) (w : World) (S : SetAt w B 101 ws) (A : PAt w q p) : Calls Tryz.prog 143 #[.pointer (some ⟨q, 0, none⟩), .pointer (some ⟨B, 0, none⟩), .pointer (some ⟨B + 1 + k, 0, none⟩)] w fun e w' => e = .returned (.tuple #[]) ∧ PAt w' q { p with wn := k } ∧ w.grownBy w' (some q) := by
  have c1 : w.cell? ⟨B, 0, none⟩ = some (.func (.func 101) #[] #[]) := block_cell S.fn 0
  have c2 : w.cell? ⟨B + 1 + k, 0, none⟩ = some (.int .i64 (k : Int)) := block_cell (S.num k h1 h2) 0
  have c := set0_any q k (by omega) p w A
  clear S A
  go_enter Tryz.func143, Tryz.ntmps143
  go_wp2_with (go_at_call 101; refine c.mono ?_; rintro e w1 ⟨rfl, A1, g1⟩)
  go_end0
  exact ⟨rfl, A1, g1⟩
set_option maxHeartbeats 1000000 in
theorem clo1_any (q B k : Nat) (ws : List (List UInt8)) (h1 : 1 ≤ k) (h2 : k ≤ ws.length) (hl : ws.length ≤ 100) (p : Pt) (w : World) (S : SetAt w B 102 ws) (A : PAt w q p) : Calls Tryz.prog 143 #[.pointer (some ⟨q, 0, none⟩), .pointer (some ⟨B, 0, none⟩), .pointer (some ⟨B + 1 + k, 0, none⟩)] w fun e w' => e = .returned (.tuple #[]) ∧ PAt w' q { p with vb := k } ∧ w.grownBy w' (some q) := by
  have c1 : w.cell? ⟨B, 0, none⟩ = some (.func (.func 102) #[] #[]) := block_cell S.fn 0
  have c2 : w.cell? ⟨B + 1 + k, 0, none⟩ = some (.int .i64 (k : Int)) := block_cell (S.num k h1 h2) 0
  have c := set1_any q k (by omega) p w A
  clear S A
  go_enter Tryz.func143, Tryz.ntmps143
  go_wp2_with (go_at_call 102; refine c.mono ?_; rintro e w1 ⟨rfl, A1, g1⟩)
  go_end0
  exact ⟨rfl, A1, g1⟩
set_option maxHeartbeats 1000000 in
theorem clo2_any (q B k : Nat) (ws : List (List UInt8)) (h1 : 1 ≤ k) (h2 : k ≤ ws.length) (hl : ws.length ≤ 100) (p : Pt) (w : World) (S : SetAt w B 103 ws) (A : PAt w q p) : Calls Tryz.prog 143 #[.pointer (some ⟨q, 0, none⟩), .pointer (some ⟨B, 0, none⟩), .pointer (some ⟨B + 1 + k, 0, none⟩)] w fun e w' => e = .returned (.tuple #[]) ∧ PAt w' q { p with wm := k } ∧ w.grownBy w' (some q) := by
  have c1 : w.cell? ⟨B, 0, none⟩ = some (.func (.func 103) #[] #[]) := block_cell S.fn 0
  have c2 : w.cell? ⟨B + 1 + k, 0, none⟩ = some (.int .i64 (k : Int)) := block_cell (S.num k h1 h2) 0
  have c := set2_any q k (by omega) p w A
  clear S A
  go_enter Tryz.func143, Tryz.ntmps143
  go_wp2_with (go_at_call 103; refine c.mono ?_; rintro e w1 ⟨rfl, A1, g1⟩)
  go_end0
  exact ⟨rfl, A1, g1⟩
theorem SetAt.keepR {w w' : World} {B g q : Nat} {ws : List (List UInt8)} (h : SetAt w B g ws) (k : w.grownBy w' (some q)) (hq : q < B) : SetAt w' B g ws :=
  ⟨grown_keep k h.fn (by simp; omega), grown_keep k h.mp (by simp; omega), fun i h1 h2 => grown_keep k (h.num i h1 h2) (by simp; omega)⟩
theorem heads_keepR {w w' : World} {B0 B1 B2 q : Nat} (h : SetAt w B0 101 whenW ∧ SetAt w B1 102 verbW ∧ SetAt w B2 103 whomW) (k : w.grownBy w' (some q)) (h0 : q < B0) (h1 : q < B1) (h2 : q < B2) : SetAt w' B0 101 whenW ∧ SetAt w' B1 102 verbW ∧ SetAt w' B2 103 whomW := ⟨h.1.keepR k h0, h.2.1.keepR k h1, h.2.2.keepR k h2⟩
theorem whenW_ok : whenW.Nodup ∧ Short whenW ∧ whenW.length ≤ 100 := by unfold Short; decide
theorem verbW_ok : verbW.Nodup ∧ Short verbW ∧ verbW.length ≤ 100 := by unfold Short; decide
theorem whomW_ok : whomW.Nodup ∧ Short whomW ∧ whomW.length ≤ 100 := by unfold Short; decide
/-- The three maps, in memory. -/
structure HeadsAt (w : World) (B0 B1 B2 : Nat) : Prop where
  h0 : SetAt w B0 101 whenW
  h1 : SetAt w B1 102 verbW
  h2 : SetAt w B2 103 whomW
theorem HeadsAt.keep {w w' : World} {B0 B1 B2 : Nat} (h : HeadsAt w B0 B1 B2) (g : w.grownBy w' none) : HeadsAt w' B0 B1 B2 := ⟨h.h0.keep g, h.h1.keep g, h.h2.keep g⟩
theorem setW0 (b : Nat) (w : World) (T : TabAt w b whenW) : Calls Tryz.prog 100 #[.slice (some ⟨b, 0, none⟩) 7 7, .func (.func 101) #[] #[]] w fun e w' => e = .returned (.map (some (w.heap.size + 1))) ∧ SetAt w' w.heap.size 101 whenW ∧ w.grownBy w' none := by
  have h := settersOf_any b 101 whenW whenW_ok.1 whenW_ok.2.1 whenW_ok.2.2 w T
  have e : whenW.length + 1 = 7 := rfl
  rw [e] at h
  exact h
theorem setW1 (b : Nat) (w : World) (T : TabAt w b verbW) : Calls Tryz.prog 100 #[.slice (some ⟨b, 0, none⟩) 20 20, .func (.func 102) #[] #[]] w fun e w' => e = .returned (.map (some (w.heap.size + 1))) ∧ SetAt w' w.heap.size 102 verbW ∧ w.grownBy w' none := by
  have h := settersOf_any b 102 verbW verbW_ok.1 verbW_ok.2.1 verbW_ok.2.2 w T
  have e : verbW.length + 1 = 20 := rfl
  rw [e] at h
  exact h
theorem setW2 (b : Nat) (w : World) (T : TabAt w b whomW) : Calls Tryz.prog 100 #[.slice (some ⟨b, 0, none⟩) 11 11, .func (.func 103) #[] #[]] w fun e w' => e = .returned (.map (some (w.heap.size + 1))) ∧ SetAt w' w.heap.size 103 whomW ∧ w.grownBy w' none := by
  have h := settersOf_any b 103 whomW whomW_ok.1 whomW_ok.2.1 whomW_ok.2.2 w T
  have e : whomW.length + 1 = 11 := rfl
  rw [e] at h
  exact h
set_option maxHeartbeats 2000000 in
set_option maxRecDepth 100000 in
theorem headSetters_any (w : World) : Calls Tryz.prog 61 #[] w fun e w' => ∃ B0 B1 B2, e = .returned (.agg #[.map (some (B0 + 1)), .map (some (B1 + 1)), .map (some (B2 + 1))]) ∧ HeadsAt w' B0 B1 B2 ∧ w.heap.size ≤ B0 ∧ w.heap.size ≤ B1 ∧ w.heap.size ≤ B2 ∧ w.grownBy w' none := by
  go_enter Tryz.func61, Tryz.ntmps61
  go_wp2_with fail
  have Z0 := alloc_at w #[.map none, .map none, .map none] 89
  have G0 := World.grownBy_alloc w (.cells #[.map none, .map none, .map none] 89) none
  refine (whenW_any _).mono ?_
  rintro e w1 ⟨rfl, T1x, g1⟩
  rw [World.size_alloc] at T1x
  have T1 : Hid _ := T1x
  clear T1x
  have Z1 := grown_keep g1 Z0 (by simp)
  have G1 := grown_trans G0 g1
  have q1 : w.heap.size < w1.heap.size := block_lt Z1
  clear Z0 G0 g1
  go_wp2_with fail
  refine (setW0 _ _ T1.out).mono ?_
  rintro e w2 ⟨rfl, S2x, g2⟩
  have S2 : Hid _ := S2x
  clear S2x
  have Z2 := grown_keep g2 Z1 (by simp)
  have G2 := grown_trans G1 g2
  have l0 := G1.size
  clear Z1 G1 g2 T1
  go_wp2_with fail
  refine (verbW_any _).mono ?_
  rintro e w3 ⟨rfl, T3x, g3⟩
  have T3 : Hid _ := T3x
  clear T3x
  have Z3 := grown_keep g3 Z2 (by simp)
  have G3 := grown_trans G2 g3
  have q3 : w.heap.size < w3.heap.size := block_lt Z3
  have S3 : Hid _ := S2.out.keep g3
  clear Z2 G2 g3 S2
  go_wp2_with fail
  refine (setW1 _ _ T3.out).mono ?_
  rintro e w4 ⟨rfl, U4x, g4⟩
  have U4 : Hid _ := U4x
  clear U4x
  have Z4 := grown_keep g4 Z3 (by simp)
  have G4 := grown_trans G3 g4
  have S4 : Hid _ := S3.out.keep g4
  have l1 := G3.size
  clear Z3 G3 g4 S3 T3
  go_wp2_with fail
  refine (whomW_any _).mono ?_
  rintro e w5 ⟨rfl, T5x, g5⟩
  have T5 : Hid _ := T5x
  clear T5x
  have Z5 := grown_keep g5 Z4 (by simp)
  have G5 := grown_trans G4 g5
  have q5 : w.heap.size < w5.heap.size := block_lt Z5
  have S5 : Hid _ := S4.out.keep g5
  have U5 : Hid _ := U4.out.keep g5
  clear Z4 G4 g5 S4 U4
  go_wp2_with fail
  refine (setW2 _ _ T5.out).mono ?_
  rintro e w6 ⟨rfl, V6x, g6⟩
  have V6 : Hid _ := V6x
  clear V6x
  have Z6 := grown_keep g6 Z5 (by simp)
  have G6 := grown_trans G5 g6
  have S6 : Hid _ := S5.out.keep g6
  have U6 : Hid _ := U5.out.keep g6
  have l2 := G5.size
  clear Z5 G5 g6 S5 U5 T5
  have z0 : w6.cell? ⟨w.heap.size, 0, none⟩ = some (.map none) := block_cell Z6 0
  have z1 : w6.cell? ⟨w.heap.size, 1, none⟩ = some (.map none) := block_cell Z6 1
  have z2 : w6.cell? ⟨w.heap.size, 2, none⟩ = some (.map none) := block_cell Z6 2
  have zf : ∀ i, w6.frozen? ⟨w.heap.size, i, none⟩ = false := block_free Z6
  go_wp2
  refine bodyPost_ret (v := .agg #[.map (some (w1.heap.size + 1)), .map (some (w3.heap.size + 1)), .map (some (w5.heap.size + 1))]) (by simp [results, Tryz.results61, go_sem, z0, z1, z2]) rfl ?_
  have g := grown_trans (grown_trans (grown_set w6 w.heap.size 0 (.map (some (w1.heap.size + 1)))) (grown_set _ _ 1 (.map (some (w3.heap.size + 1))))) (grown_set _ _ 2 (.map (some (w5.heap.size + 1))))
  exact ⟨_, _, _, rfl, ⟨S6.out.keepR g (by omega), U6.out.keepR g (by omega), V6.out.keepR g (by omega)⟩, l0, l1, l2, grown_own G6 g (fun _ e => by cases e; exact Nat.le_refl _)⟩
end Go.Proofs.YtpceelbphpfciaaGreatDoor
