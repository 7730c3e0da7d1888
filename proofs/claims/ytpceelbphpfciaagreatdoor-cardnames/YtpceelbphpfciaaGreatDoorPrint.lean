/-
  What Print tells of every part: its text, or Check's error. It touches nothing that was there.
-/
import Derived.Test.YtpceelbphpfciaaGreatDoorMap
import Derived.Test.YtpceelbphpfciaaGreatDoorFlds
import Derived.Test.YtpceelbphpfciaaGreatDoorOwn
import Derived.Maps.RangeWalk
namespace Go.Proofs.YtpceelbphpfciaaGreatDoor
open Go.RowKit

theorem TabAt.at {w : World} {b : Nat} {ws : List (List UInt8)} (h : TabAt w b ws) {a : Nat} (h1 : 1 ≤ a) (h2 : a ≤ ws.length) : w.cell? ⟨b, a, none⟩ = some (.string ⟨(at1 ws a).toArray⟩) := by
  obtain ⟨j, rfl⟩ : ∃ j, a = j + 1 := ⟨a - 1, by omega⟩
  have hj : j < ws.length := by omega
  have e : at1 ws ((j + 1 : Nat) : Int) = ws[j] := by
    unfold at1
    simp [List.getD, hj]
  rw [e]
  exact h.cell (List.getElem?_eq_getElem hj)
theorem kinds_has {v m : Int} {k : Nat} (h : k ∈ kinds v m) : (k = 0 → uC v = true) ∧ (k = 1 → uS v m = true) ∧ (k = 2 → uT v m = true) ∧ (k = 3 → uM v = true) ∧ (k = 4 → uN v = true) := by
  have one : ∀ {a : Bool} {i : Nat}, k ∈ mark a i → k = i ∧ a = true := by
    intro a i hm
    cases a with
    | false => simp [mark] at hm
    | true => exact ⟨by simpa [mark] using hm, rfl⟩
  simp only [kinds, List.mem_append] at h
  rcases h with h | h | h | h | h
  · obtain ⟨rfl, e⟩ := one h; exact ⟨fun _ => e, by omega, by omega, by omega, by omega⟩
  · obtain ⟨rfl, e⟩ := one h; exact ⟨by omega, fun _ => e, by omega, by omega, by omega⟩
  · obtain ⟨rfl, e⟩ := one h; exact ⟨by omega, by omega, fun _ => e, by omega, by omega⟩
  · obtain ⟨rfl, e⟩ := one h; exact ⟨by omega, by omega, by omega, fun _ => e, by omega⟩
  · obtain ⟨rfl, e⟩ := one h; exact ⟨by omega, by omega, by omega, by omega, fun _ => e⟩
theorem tell_ok0 {p : Pt} (M : May p) (h : 0 ∈ kinds p.vb p.wm) : -9223372036854775808 ≤ p.ct ∧ p.ct ≤ 9223372036854775807 := by
  have := M.ct
  rw [(kinds_has h).1 rfl] at this
  simp only [if_true] at this
  omega
theorem tell_ok1 {p : Pt} (M : May p) (h : 1 ∈ kinds p.vb p.wm) : 1 ≤ p.su ∧ p.su ≤ 6 := by
  have := M.su
  rw [(kinds_has h).2.1 rfl] at this
  exact this
theorem tell_ok2 {p : Pt} (M : May p) (h : 2 ∈ kinds p.vb p.wm) : 1 ≤ p.tr ∧ p.tr ≤ 8 := by
  have := M.tr
  rw [(kinds_has h).2.2.1 rfl] at this
  exact this
theorem tell_ok3 {p : Pt} (M : May p) (h : 3 ∈ kinds p.vb p.wm) : 0 ≤ p.mr ∧ p.mr ≤ 255 := by
  have := M.mr
  rw [(kinds_has h).2.2.2.1 rfl] at this
  simp only [if_true] at this
  omega
/-- What one word more leaves of memory: the fields' block, the part's, and all that was there stand. -/
structure NextOk (wr w3 : World) (b0 F B : Nat) (v v' : Value) : Prop where
  ne : v'.ownBlock ≠ some F
  kat : ∀ {ks : List Nat}, KAt wr F ks → KAt w3 F ks
  pat : ∀ {p : Pt}, PAt wr B p → PAt w3 B p
  grown : ∀ {w : World}, w.grownBy wr none → w.heap.size < b0 → w.grownBy w3 none
theorem grown_cell {w w' : World} {r : Option Nat} (g : w.grownBy w' r) {b i : Nat} {x : Value} (h : w.cell? ⟨b, i, none⟩ = some x) (hr : r ≠ some b) : w'.cell? ⟨b, i, none⟩ = some x := g.cell h (fun e => hr e.symm)
theorem nextOk {wr w2 w3 : World} {b0 F B : Nat} {v v' : Value} {o : Obj} {l : List Value} (N1 : wr.grownBy w2 none) (hg : (w2.alloc o).grownBy w3 v.ownBlock) (hl : v'.ownBlock = v.ownBlock ∨ v'.ownBlock = some (w2.alloc o).heap.size) (O : Own wr b0 9 v l) (hv : v.ownBlock ≠ some F) (hF : F < wr.heap.size) (hB : B < b0) : NextOk wr w3 b0 F B v v' := by
  have N2 : wr.grownBy (w2.alloc o) none := grown_push N1 o
  have hne : v'.ownBlock ≠ some F := by
    rcases hl with e | e
    · rw [e]; exact hv
    · rw [e]
      have := N2.size
      simp only [ne_eq, Option.some.injEq]
      omega
  have hvb : v.ownBlock ≠ some B := fun e => by have := O.block _ e; omega
  refine ⟨hne, fun {ks} K => ?_, fun {p} A => ?_, fun {w} G hw => ?_⟩
  · have K2 := K.keep N2
    exact ⟨Nat.lt_of_lt_of_le K2.lt hg.size, fun m k hk => ⟨grown_cell hg (K2.at_ m k hk).1 hv, grown_cell hg (K2.at_ m k hk).2.1 hv, grown_cell hg (K2.at_ m k hk).2.2 hv⟩⟩
  · exact grown_keep hg (A.keep N2) (fun e => hvb e.symm)
  · exact grown_own (grown_trans G N2) hg (fun x hx => by have := O.block x hx; omega)
theorem kinds_len (v m : Int) : (kinds v m).length ≤ 5 := by
  have h : ∀ a b c d e : Bool, (mark a 0 ++ (mark b 1 ++ (mark c 2 ++ (mark d 3 ++ mark e 4)))).length ≤ 5 := by decide
  exact h _ _ _ _ _
theorem kinds_le {v m : Int} {k : Nat} (h : k ∈ kinds v m) : k ≤ 4 := by
  have g : ∀ a b c d e : Bool, ∀ k ∈ mark a 0 ++ (mark b 1 ++ (mark c 2 ++ (mark d 3 ++ mark e 4))), k ≤ 4 := by decide
  exact g _ _ _ _ _ k h
theorem wpAnyH_mono {P : Program} {md : Region.Mode} {ops : Array Oper} {Q : Exit → Act → World → Prop} {S S' : World → Prop} (hS : ∀ w, S' w → S w) : ∀ (fuel : Nat) (listed : Array Bool) (a : Act) (w : World), wpAnyH P md ops Q S' fuel listed a w → wpAnyH P md ops Q S fuel listed a w
  | 0, _, _, _, h => h
  | fuel + 1, _, _, _, h => ⟨h.1, fun i hi => wpOp_mono (fun a' w' h' => ⟨hS _ h'.1, wpAnyH_mono hS fuel _ a' w' h'.2⟩) (h.2 i hi)⟩
theorem PAt.three {w : World} {b : Nat} {x y z ct su tr mr : Int} {nm : ByteArray} (h : PAt w b ⟨x, y, z, ct, su, tr, mr, nm⟩) : w.cell? ⟨b, 0, none⟩ = some (.int .u8 x) ∧ w.cell? ⟨b, 1, none⟩ = some (.int .u8 y) ∧ w.cell? ⟨b, 2, none⟩ = some (.int .u8 z) := ⟨h.cells.1, h.cells.2.1, h.cells.2.2.1⟩
theorem three_keep {w w' : World} {b : Nat} {x y z : Value} (g : w.grownBy w' none) (h : w.cell? ⟨b, 0, none⟩ = some x ∧ w.cell? ⟨b, 1, none⟩ = some y ∧ w.cell? ⟨b, 2, none⟩ = some z) : w'.cell? ⟨b, 0, none⟩ = some x ∧ w'.cell? ⟨b, 1, none⟩ = some y ∧ w'.cell? ⟨b, 2, none⟩ = some z :=
  ⟨g.cell h.1 (by simp), g.cell h.2.1 (by simp), g.cell h.2.2 (by simp)⟩
set_option maxHeartbeats 4000000 in
set_option maxRecDepth 100000 in
theorem print_ok (a v m : Nat) (ct su tr mr : Int) (nm : ByteArray) (h : chk ⟨a, v, m, ct, su, tr, mr, nm⟩ = 0) (w : World) (L : LaidP w) : Calls Tryz.prog 30 #[pv ⟨a, v, m, ct, su, tr, mr, nm⟩] w fun e w' => e = .returned (.tuple #[.string ⟨(prt ⟨a, v, m, ct, su, tr, mr, nm⟩).toArray⟩, .int .i64 0]) ∧ w.grownBy w' none := by
  obtain ⟨i0, hi, hz0, hz1, hz2⟩ := info_parts Tryz.info9
  have M := may_of h
  have ha : 1 ≤ a ∧ a ≤ 6 := by have := M.wn; simp only at this; omega
  have hv : 1 ≤ v ∧ v ≤ 19 := by have := M.vb; simp only at this; omega
  have hm : 1 ≤ m ∧ m ≤ 10 := by have := M.wm; simp only at this; omega
  obtain ⟨p, hp⟩ : ∃ p : Pt, p = ⟨a, v, m, ct, su, tr, mr, nm⟩ := ⟨_, rfl⟩
  have HL : Hid (LaidP w) := L
  have HM : Hid (May ⟨a, v, m, ct, su, tr, mr, nm⟩) := M
  clear M L hp p
  have hv1 : pv ⟨a, v, m, ct, su, tr, mr, nm⟩ = .agg #[.int .u8 a, .int .u8 v, .int .u8 m, .int .i64 ct, .int .u8 su, .int .u8 tr, .int .u8 mr, .string nm] := rfl
  rw [hv1]
  go_enter Tryz.func30, Tryz.ntmps30
  go_wp2_with fail
  refine (check_any ⟨a, v, m, ct, su, tr, mr, nm⟩ _).mono ?_
  rintro e W1 ⟨rfl, g1⟩
  rw [h]
  have A1 : PAt W1 w.heap.size ⟨a, v, m, ct, su, tr, mr, nm⟩ := (PAt.new w ⟨a, v, m, ct, su, tr, mr, nm⟩).keep g1
  have G1 := grown_trans (World.grownBy_alloc w _ none) g1
  clear g1 h
  obtain ⟨c0, c1, c2, c3, c4, c5, c6, c7⟩ := A1.cells
  simp only at c0 c1 c2 c3 c4 c5 c6 c7
  go_wp2_with fail
  have a7 : (a : Int) < 7 := by omega
  have v20 : (v : Int) < 20 := by omega
  have m11 : (m : Int) < 11 := by omega
  have HA : Hid (PAt W1 w.heap.size ⟨a, v, m, ct, su, tr, mr, nm⟩) := A1
  have G0 := grown_drew W1
  clear A1 c3 c4 c5 c6 c7
  have S0 : (fun w' : World => w'.cell? ⟨w.heap.size, 0, none⟩ = some (.int .u8 a) ∧ w'.cell? ⟨w.heap.size, 1, none⟩ = some (.int .u8 v) ∧ w'.cell? ⟨w.heap.size, 2, none⟩ = some (.int .u8 m)) W1.drew := ⟨c0, c1, c2⟩
  refine wp_region_held_drew (S := fun w' => w'.cell? ⟨w.heap.size, 0, none⟩ = some (.int .u8 a) ∧ w'.cell? ⟨w.heap.size, 1, none⟩ = some (.int .u8 v) ∧ w'.cell? ⟨w.heap.size, 2, none⟩ = some (.int .u8 m)) (by kernel_rfl) S0 (fun hHeld => ?_)
  clear S0
  refine wpAnyH_take (i := 1) (v := ?_) rfl (by kernel_rfl) (by kernel_rfl) (by kernel_rfl) (fun _ _ _ h => h) (Or.inl ⟨by rfl, ?_⟩) (by assumption) ?_
  rotate_left 1
  · (intro w0 hSw; (try dsimp only at hSw); go_simp; try with_reducible rfl)
  simp only [List.getElem_toArray, List.getElem_cons_zero, List.getElem_cons_succ]
  go_frame
  refine wpAnyH_take (i := 2) (v := ?_) rfl (by kernel_rfl) (by kernel_rfl) (by kernel_rfl) (fun _ _ _ h => h) (Or.inl ⟨by rfl, ?_⟩) (by assumption) ?_
  rotate_left 1
  · (intro w0 hSw; (try dsimp only at hSw); go_simp; try with_reducible rfl)
  simp only [List.getElem_toArray, List.getElem_cons_zero, List.getElem_cons_succ]
  go_frame
  refine wpAnyH_take (i := 6) (v := ?_) rfl (by kernel_rfl) (by kernel_rfl) (by kernel_rfl) (fun _ _ _ h => h) (Or.inl ⟨by rfl, ?_⟩) (by assumption) ?_
  rotate_left 1
  · (intro w0 hSw; (try dsimp only at hSw); go_simp; try with_reducible rfl)
  simp only [List.getElem_toArray, List.getElem_cons_zero, List.getElem_cons_succ]
  go_frame
  refine wpAnyH_take (i := 7) (v := ?_) rfl (by kernel_rfl) (by kernel_rfl) (by kernel_rfl) (fun _ _ _ h => h) (Or.inl ⟨by rfl, ?_⟩) (by assumption) ?_
  rotate_left 1
  · (intro w0 hSw; (try dsimp only at hSw); go_simp; try with_reducible rfl)
  simp only [List.getElem_toArray, List.getElem_cons_zero, List.getElem_cons_succ]
  go_frame
  refine wpAnyH_take (i := 11) (v := ?_) rfl (by kernel_rfl) (by kernel_rfl) (by kernel_rfl) (fun _ _ _ h => h) (Or.inl ⟨by rfl, ?_⟩) (by assumption) ?_
  rotate_left 1
  · (intro w0 hSw; (try dsimp only at hSw); go_simp; try with_reducible rfl)
  simp only [List.getElem_toArray, List.getElem_cons_zero, List.getElem_cons_succ]
  go_frame
  refine wpAnyH_take (i := 12) (v := ?_) rfl (by kernel_rfl) (by kernel_rfl) (by kernel_rfl) (fun _ _ _ h => h) (Or.inl ⟨by rfl, ?_⟩) (by assumption) ?_
  rotate_left 1
  · (intro w0 hSw; (try dsimp only at hSw); go_simp; try with_reducible rfl)
  simp only [List.getElem_toArray, List.getElem_cons_zero, List.getElem_cons_succ]
  go_frame
  refine wpAnyH_ready (rs := [0]) (by kernel_rfl) (by simp) ?_
  refine AllReadyH.cons rfl (fun K hK => ?_) AllReadyH.nil
  simp only [List.getElem_toArray, List.getElem_cons_zero]
  go_simp
  go_at_call 65
  refine (whenW_any _).mono ?_
  rintro e w3 ⟨rfl, T3, g3⟩
  have G3 : W1.grownBy w3 none := grown_trans G0 g3
  have t3 : w3.cell? ⟨W1.heap.size, a, none⟩ = _ := T3.at ha.1 ha.2
  have K3 : (fun w' : World => (w'.cell? ⟨w.heap.size, 0, none⟩ = some (.int .u8 a) ∧ w'.cell? ⟨w.heap.size, 1, none⟩ = some (.int .u8 v) ∧ w'.cell? ⟨w.heap.size, 2, none⟩ = some (.int .u8 m))) w3 := (HA.out.keep G3).three
  refine hK.out _ _ K3 (fun hHeld2 => ?_)
  clear hK K hHeld T3 g3 hHeld2
  (try go_frame)
  refine wpAnyH_mono (S' := fun w' => w'.cell? ⟨W1.heap.size, a, none⟩ = some (.string ⟨(at1 whenW a).toArray⟩) ∧ (w'.cell? ⟨w.heap.size, 0, none⟩ = some (.int .u8 a) ∧ w'.cell? ⟨w.heap.size, 1, none⟩ = some (.int .u8 v) ∧ w'.cell? ⟨w.heap.size, 2, none⟩ = some (.int .u8 m))) (fun _ h => h.2) _ _ _ _ ?_
  have hHeld : (fun w' : World => w'.cell? ⟨W1.heap.size, a, none⟩ = some (.string ⟨(at1 whenW a).toArray⟩) ∧ (w'.cell? ⟨w.heap.size, 0, none⟩ = some (.int .u8 a) ∧ w'.cell? ⟨w.heap.size, 1, none⟩ = some (.int .u8 v) ∧ w'.cell? ⟨w.heap.size, 2, none⟩ = some (.int .u8 m))) w3 := ⟨t3, K3⟩
  clear K3
  refine wpAnyH_take (i := 3) (v := ?_) rfl (by kernel_rfl) (by kernel_rfl) (by kernel_rfl) (fun _ _ _ h => h) (Or.inl ⟨by rfl, ?_⟩) (by assumption) ?_
  rotate_left 1
  · (intro w0 hSw; (try dsimp only at hSw); go_simp; try with_reducible rfl)
  simp only [List.getElem_toArray, List.getElem_cons_zero, List.getElem_cons_succ]
  go_frame
  refine wpAnyH_take (i := 4) (v := ?_) rfl (by kernel_rfl) (by kernel_rfl) (by kernel_rfl) (fun _ _ _ h => h) (Or.inl ⟨by rfl, ?_⟩) (by assumption) ?_
  rotate_left 1
  · (intro w0 hSw; (try dsimp only at hSw); go_simp; try with_reducible rfl)
  simp only [List.getElem_toArray, List.getElem_cons_zero, List.getElem_cons_succ]
  go_frame
  refine wpAnyH_ready (rs := [5]) (by kernel_rfl) (by simp) ?_
  refine AllReadyH.cons rfl (fun K hK => ?_) AllReadyH.nil
  simp only [List.getElem_toArray, List.getElem_cons_zero, List.getElem_cons_succ]
  go_simp
  go_at_call 66
  refine (verbW_any _).mono ?_
  rintro e w4 ⟨rfl, T4, g4⟩
  have G4 : W1.grownBy w4 none := grown_trans G3 g4
  have t4 : w4.cell? ⟨w3.heap.size, v, none⟩ = _ := T4.at hv.1 hv.2
  have K4 : (fun w' : World => (w'.cell? ⟨W1.heap.size, a, none⟩ = some (.string ⟨(at1 whenW a).toArray⟩) ∧ (w'.cell? ⟨w.heap.size, 0, none⟩ = some (.int .u8 a) ∧ w'.cell? ⟨w.heap.size, 1, none⟩ = some (.int .u8 v) ∧ w'.cell? ⟨w.heap.size, 2, none⟩ = some (.int .u8 m)))) w4 := ⟨g4.cell t3 (by simp), (HA.out.keep G4).three⟩
  refine hK.out _ _ K4 (fun hHeld2 => ?_)
  have t3 := g4.cell t3 (by simp)
  clear hK K hHeld T4 g4 hHeld2
  (try go_frame)
  refine wpAnyH_mono (S' := fun w' => w'.cell? ⟨w3.heap.size, v, none⟩ = some (.string ⟨(at1 verbW v).toArray⟩) ∧ (w'.cell? ⟨W1.heap.size, a, none⟩ = some (.string ⟨(at1 whenW a).toArray⟩) ∧ (w'.cell? ⟨w.heap.size, 0, none⟩ = some (.int .u8 a) ∧ w'.cell? ⟨w.heap.size, 1, none⟩ = some (.int .u8 v) ∧ w'.cell? ⟨w.heap.size, 2, none⟩ = some (.int .u8 m)))) (fun _ h => h.2) _ _ _ _ ?_
  have hHeld : (fun w' : World => w'.cell? ⟨w3.heap.size, v, none⟩ = some (.string ⟨(at1 verbW v).toArray⟩) ∧ (w'.cell? ⟨W1.heap.size, a, none⟩ = some (.string ⟨(at1 whenW a).toArray⟩) ∧ (w'.cell? ⟨w.heap.size, 0, none⟩ = some (.int .u8 a) ∧ w'.cell? ⟨w.heap.size, 1, none⟩ = some (.int .u8 v) ∧ w'.cell? ⟨w.heap.size, 2, none⟩ = some (.int .u8 m)))) w4 := ⟨t4, K4⟩
  clear K4
  refine wpAnyH_take (i := 8) (v := ?_) rfl (by kernel_rfl) (by kernel_rfl) (by kernel_rfl) (fun _ _ _ h => h) (Or.inl ⟨by rfl, ?_⟩) (by assumption) ?_
  rotate_left 1
  · (intro w0 hSw; (try dsimp only at hSw); go_simp; try with_reducible rfl)
  simp only [List.getElem_toArray, List.getElem_cons_zero, List.getElem_cons_succ]
  go_frame
  refine wpAnyH_take (i := 9) (v := ?_) rfl (by kernel_rfl) (by kernel_rfl) (by kernel_rfl) (fun _ _ _ h => h) (Or.inl ⟨by rfl, ?_⟩) (by assumption) ?_
  rotate_left 1
  · (intro w0 hSw; (try dsimp only at hSw); go_simp; try with_reducible rfl)
  simp only [List.getElem_toArray, List.getElem_cons_zero, List.getElem_cons_succ]
  go_frame
  refine wpAnyH_ready (rs := [10]) (by kernel_rfl) (by simp) ?_
  refine AllReadyH.cons rfl (fun K hK => ?_) AllReadyH.nil
  simp only [List.getElem_toArray, List.getElem_cons_zero, List.getElem_cons_succ]
  go_simp
  go_at_call 67
  refine (whomW_any _).mono ?_
  rintro e w5 ⟨rfl, T5, g5⟩
  have G5 : W1.grownBy w5 none := grown_trans G4 g5
  have t5 : w5.cell? ⟨w4.heap.size, m, none⟩ = _ := T5.at hm.1 hm.2
  have K5 : (fun w' : World => (w'.cell? ⟨w3.heap.size, v, none⟩ = some (.string ⟨(at1 verbW v).toArray⟩) ∧ (w'.cell? ⟨W1.heap.size, a, none⟩ = some (.string ⟨(at1 whenW a).toArray⟩) ∧ (w'.cell? ⟨w.heap.size, 0, none⟩ = some (.int .u8 a) ∧ w'.cell? ⟨w.heap.size, 1, none⟩ = some (.int .u8 v) ∧ w'.cell? ⟨w.heap.size, 2, none⟩ = some (.int .u8 m))))) w5 := ⟨g5.cell t4 (by simp), g5.cell t3 (by simp), (HA.out.keep G5).three⟩
  refine hK.out _ _ K5 (fun hHeld2 => ?_)
  clear hK K hHeld T5 g5 hHeld2
  (try go_frame)
  refine wpAnyH_mono (S' := fun w' => w'.cell? ⟨w4.heap.size, m, none⟩ = some (.string ⟨(at1 whomW m).toArray⟩) ∧ (w'.cell? ⟨w3.heap.size, v, none⟩ = some (.string ⟨(at1 verbW v).toArray⟩) ∧ (w'.cell? ⟨W1.heap.size, a, none⟩ = some (.string ⟨(at1 whenW a).toArray⟩) ∧ (w'.cell? ⟨w.heap.size, 0, none⟩ = some (.int .u8 a) ∧ w'.cell? ⟨w.heap.size, 1, none⟩ = some (.int .u8 v) ∧ w'.cell? ⟨w.heap.size, 2, none⟩ = some (.int .u8 m))))) (fun _ h => h.2) _ _ _ _ ?_
  have hHeld : (fun w' : World => w'.cell? ⟨w4.heap.size, m, none⟩ = some (.string ⟨(at1 whomW m).toArray⟩) ∧ (w'.cell? ⟨w3.heap.size, v, none⟩ = some (.string ⟨(at1 verbW v).toArray⟩) ∧ (w'.cell? ⟨W1.heap.size, a, none⟩ = some (.string ⟨(at1 whenW a).toArray⟩) ∧ (w'.cell? ⟨w.heap.size, 0, none⟩ = some (.int .u8 a) ∧ w'.cell? ⟨w.heap.size, 1, none⟩ = some (.int .u8 v) ∧ w'.cell? ⟨w.heap.size, 2, none⟩ = some (.int .u8 m))))) w5 := ⟨t5, K5⟩
  clear K5
  refine wpAnyH_take (i := 13) (v := ?_) rfl (by kernel_rfl) (by kernel_rfl) (by kernel_rfl) (fun _ _ _ h => h) (Or.inl ⟨by rfl, ?_⟩) (by assumption) ?_
  rotate_left 1
  · (intro w0 hSw; (try dsimp only at hSw); go_simp; try with_reducible rfl)
  simp only [List.getElem_toArray, List.getElem_cons_zero, List.getElem_cons_succ]
  go_frame
  refine wpAnyH_take (i := 14) (v := ?_) rfl (by kernel_rfl) (by kernel_rfl) (by kernel_rfl) (fun _ _ _ h => h) (Or.inl ⟨by rfl, ?_⟩) (by assumption) ?_
  rotate_left 1
  · (intro w0 hSw; (try dsimp only at hSw); go_simp; try with_reducible rfl)
  simp only [List.getElem_toArray, List.getElem_cons_zero, List.getElem_cons_succ]
  go_frame
  refine wpAnyH_ready (rs := [15]) (by kernel_rfl) (by simp) ?_
  refine AllReadyH.cons rfl (fun K hK => ?_) AllReadyH.nil
  simp only [List.getElem_toArray, List.getElem_cons_zero, List.getElem_cons_succ]
  go_simp
  have G6 := grown_push G5 (.cells #[.string ⟨(at1 whenW a).toArray⟩, .string ⟨(at1 verbW v).toArray⟩, .string ⟨(at1 whomW m).toArray⟩] 9)
  have B6 := alloc_at w5 #[.string ⟨(at1 whenW a).toArray⟩, .string ⟨(at1 verbW v).toArray⟩, .string ⟨(at1 whomW m).toArray⟩] 9
  have K6 := hHeld
  have g6 := World.grownBy_alloc w5 (.cells #[.string ⟨(at1 whenW a).toArray⟩, .string ⟨(at1 verbW v).toArray⟩, .string ⟨(at1 whomW m).toArray⟩] 9) none
  refine hK.out _ _ ⟨g6.cell hHeld.1 (by simp), g6.cell hHeld.2.1 (by simp), g6.cell hHeld.2.2.1 (by simp), (HA.out.keep G6).three⟩ (fun hHeld2 => ?_)
  clear hK K K6 g6 hHeld
  refine wpAnyH_take (i := 16) (v := ?_) rfl (by kernel_rfl) (by kernel_rfl) (by kernel_rfl) (fun _ _ _ h => h) (Or.inl ⟨by rfl, ?_⟩) (by assumption) ?_
  rotate_left 1
  · (intro w0 hSw; (try dsimp only at hSw); go_simp; try with_reducible rfl)
  simp only [List.getElem_toArray, List.getElem_cons_zero, List.getElem_cons_succ]
  go_frame
  refine wpAnyH_done (by kernel_rfl) ?_ _
  have hw5 : w.heap.size < w5.heap.size := block_lt (HA.out.keep G5)
  clear hHeld2 t3 t4 t5 G0 G3 G4 G5 c0 c1 c2
  obtain ⟨W6, hW6⟩ : ∃ W6, W6 = w5.alloc (.cells #[.string ⟨(at1 whenW a).toArray⟩, .string ⟨(at1 verbW v).toArray⟩, .string ⟨(at1 whomW m).toArray⟩] 9) := ⟨_, rfl⟩
  rw [← hW6] at B6 G6 ⊢
  have hs6 : W6.heap.size = w5.heap.size + 1 := by rw [hW6]; exact World.size_alloc _ _
  clear hW6
  have A6 := HA.out.keep G6
  have G := grown_trans G1 G6
  clear HA G1 G6
  have c1 := A6.cells.2.1
  have c2 := A6.cells.2.2.1
  simp only at c1 c2
  go_wp2_with (first | (go_at_call 68; refine (fieldsOf_any _ _ _).mono ?_; rintro e W7 ⟨rfl, K7, g7⟩) | fail)
  rw [hs6] at K7
  obtain ⟨F, hF⟩ : ∃ F, F = w5.heap.size + 1 := ⟨_, rfl⟩
  obtain ⟨b0, hb0⟩ : ∃ b0, b0 = w5.heap.size := ⟨_, rfl⟩
  have hw0 : w.heap.size < b0 := by omega
  have hbF : b0 ≠ F := by omega
  have O7 : Own W7 b0 9 (.slice (some ⟨b0, 0, none⟩) 3 3) (pcs (heads ⟨a, v, m, ct, su, tr, mr, nm⟩)) := by
    rw [hb0]
    exact Own.keep (own_block (Nat.le_refl _) B6 (by rw [length_pcs]; show 3 ≤ maxLen; unfold maxLen; omega)) g7 (by simp)
  have A7 := A6.keep g7
  have G7 := grown_trans G g7
  rw [← hF] at K7 ⊢
  rw [← hb0]
  obtain ⟨ks, hks⟩ : ∃ ks, ks = kinds v m := ⟨_, rfl⟩
  rw [← hks] at K7 ⊢
  have HKS : Hid (ks = kinds v m) := hks
  have hkl : ks.length ≤ 5 := by rw [hks]; exact kinds_len _ _
  obtain ⟨n, hn⟩ : ∃ n, n = ks.length := ⟨_, rfl⟩
  rw [← hn] at hkl ⊢
  have HN : Hid (n = ks.length) := hn
  clear A6 G g7 B6 c1 c2 hs6 hks hn hF hb0
  go_loopw [5, 35] (fun vw t wr => ∃ j : Nat, j ≤ n ∧ t = .int .i64 j ∧ Own wr b0 9 vw (pcs (heads ⟨a, v, m, ct, su, tr, mr, nm⟩ ++ (ks.take j).map (tell ⟨a, v, m, ct, su, tr, mr, nm⟩))) ∧ vw.ownBlock ≠ some F ∧ KAt wr F ks ∧ PAt wr w.heap.size ⟨a, v, m, ct, su, tr, mr, nm⟩ ∧ w.grownBy wr none) (fun _ t _ => n - (intOf t).toNat)
  case atStart => exact ⟨0, Nat.zero_le _, rfl, by simpa using O7, by simpa [Value.ownBlock] using hbF, K7, A7, G7⟩
  case round =>
    obtain ⟨j, hj, rfl, O, hOF, K, A, G⟩ := hrel
    clear O7 K7 A7 G7
    by_cases hlt : j < n
    · have hlt' : (j : Int) < (n : Int) := by omega
      obtain ⟨k, hk⟩ : ∃ k, ks[j]? = some k := ⟨_, List.getElem?_eq_getElem (by rw [← HN.out]; exact hlt)⟩
      obtain ⟨d0, d1, d2⟩ := K.at_ j k hk
      have hj5 : (j : Int) < 5 := by omega
      rw [Nat.mul_comm] at d0 d1 d2
      have hlen : (pcs (heads ⟨a, v, m, ct, su, tr, mr, nm⟩ ++ (ks.take j).map (tell ⟨a, v, m, ct, su, tr, mr, nm⟩))).length = 3 + j := by
        rw [length_pcs, List.length_append, List.length_map, List.length_take, ← HN.out, Nat.min_eq_left hj]
        rfl
      obtain ⟨q, cp, ev⟩ := O.form
      rw [hlen] at ev
      subst ev
      have O1 : World.ownsRow wr b0 9 1 (.slice q (3 + j) cp) (3 + j) (pcs (heads ⟨a, v, m, ct, su, tr, mr, nm⟩ ++ (ks.take j).map (tell ⟨a, v, m, ct, su, tr, mr, nm⟩))) := by
        have := O
        unfold Own at this
        rwa [hlen] at this
      have HO : Hid (Own wr b0 9 (.slice q (3 + j) cp) (pcs (heads ⟨a, v, m, ct, su, tr, mr, nm⟩ ++ (ks.take j).map (tell ⟨a, v, m, ct, su, tr, mr, nm⟩)))) := O
      have HK : Hid (KAt wr F ks) := K
      have HA : Hid (PAt wr w.heap.size ⟨a, v, m, ct, su, tr, mr, nm⟩) := A
      have HG : Hid (w.grownBy wr none) := G
      have HLN : Hid ((pcs (heads ⟨a, v, m, ct, su, tr, mr, nm⟩ ++ (ks.take j).map (tell ⟨a, v, m, ct, su, tr, mr, nm⟩))).length = 3 + j) := hlen
      have hmem : k ∈ ks := List.mem_of_getElem? hk
      have HMEM : Hid (k ∈ kinds v m) := by rw [← HKS.out]; exact hmem
      have hk4 : k ≤ 4 := kinds_le HMEM.out
      have HT : Hid (ks.take (j + 1) = ks.take j ++ [k]) := by show _ = _; rw [List.take_add_one, hk]; rfl
      have hsz : w.heap.size ≤ wr.heap.size := G.size
      have hbw : b0 ≤ wr.heap.size := by
        rcases O.at with ⟨e0, _⟩ | ⟨g, cap, e0, h1, h2, _⟩
        · injection e0 with _ h2 _
          omega
        · omega
      have hOF' : q.map (·.block) ≠ some F := by
        intro e0
        apply hOF
        cases q with
        | none => cases e0
        | some ad => simpa [Value.ownBlock] using e0
      have HOF : Hid ((Value.slice q (3 + j) cp).ownBlock ≠ some F) := hOF
      have hFw : F < wr.heap.size := K.lt
      clear O K A G hmem hlen hk hOF hOF'
      rcases (show k = 0 ∨ k = 1 ∨ k = 2 ∨ k = 3 ∨ k = 4 from by omega) with rfl | rfl | rfl | rfl | rfl
      · simp only [tf, rf] at d1 d2
        obtain ⟨c0, c1, c2, c3, c4, c5, c6, c7⟩ := (HA.out.keep (World.grownBy_alloc wr (.cells #[.bool true, .func (.func 116) #[] #[], .func (.func 117) #[] #[]] 101) none)).cells
        simp only at c0 c1 c2 c3 c4 c5 c6 c7
        go_wp2_with fail
        refine (tell0_any ⟨a, v, m, ct, su, tr, mr, nm⟩ (tell_ok0 HM.out HMEM.out) _ (HL.out.keep (grown_push HG.out _))).mono ?_
        rintro e w2 ⟨rfl, g2⟩
        go_wp2_with (first | (at_builtin; refine wpList_append_own_at _ rfl (.tmp 39) (.tmp 44) 57 rfl b0 9 i0 (.string ByteArray.empty) 1 16 Tryz.underlying57 hi hz0 hz1 hz2 rfl (by decide) _ _ _ rfl (World.ownsRow.alloc (World.ownsRow.kept (World.ownsRow.alloc O1 _) g2 (Classical.em _)) _) ⟨w2.heap.size, 0, none⟩ 1 1 [_] rfl rfl (cell_one_new _ _ _) (fun x hx => by simp at hx; subst hx; rfl) (by unfold maxLen; omega) (by omega) (by simp; have := g2.size; simp at this; omega) ?_; intro v' w3 hown' hgrow3 hnil3 hlie3))
        have N1 := grown_trans (World.grownBy_alloc wr _ none) g2
        have NR : NextOk wr w3 b0 F w.heap.size (.slice q (3 + j) cp) v' := nextOk N1 hgrow3 hlie3 HO.out HOF.out hFw (by omega)
        go_roundw
        case rel => exact ⟨j + 1, by omega, by go_num, by rw [HT.out, List.map_append, ← List.append_assoc, List.map_cons, List.map_nil, pcs_snoc]; exact own_snoc hown' (by rw [HLN.out]), NR.ne, NR.kat HK.out, NR.pat HA.out, NR.grown HG.out hw0⟩
        case measure => simp [intOf]; omega
      · simp only [tf, rf] at d1 d2
        obtain ⟨c0, c1, c2, c3, c4, c5, c6, c7⟩ := (HA.out.keep (World.grownBy_alloc wr (.cells #[.bool true, .func (.func 118) #[] #[], .func (.func 119) #[] #[]] 101) none)).cells
        simp only at c0 c1 c2 c3 c4 c5 c6 c7
        go_wp2_with fail
        refine (tell1_any ⟨a, v, m, ct, su, tr, mr, nm⟩ (tell_ok1 HM.out HMEM.out) _ (HL.out.keep (grown_push HG.out _))).mono ?_
        rintro e w2 ⟨rfl, g2⟩
        go_wp2_with (first | (at_builtin; refine wpList_append_own_at _ rfl (.tmp 39) (.tmp 44) 57 rfl b0 9 i0 (.string ByteArray.empty) 1 16 Tryz.underlying57 hi hz0 hz1 hz2 rfl (by decide) _ _ _ rfl (World.ownsRow.alloc (World.ownsRow.kept (World.ownsRow.alloc O1 _) g2 (Classical.em _)) _) ⟨w2.heap.size, 0, none⟩ 1 1 [_] rfl rfl (cell_one_new _ _ _) (fun x hx => by simp at hx; subst hx; rfl) (by unfold maxLen; omega) (by omega) (by simp; have := g2.size; simp at this; omega) ?_; intro v' w3 hown' hgrow3 hnil3 hlie3))
        have N1 := grown_trans (World.grownBy_alloc wr _ none) g2
        have NR : NextOk wr w3 b0 F w.heap.size (.slice q (3 + j) cp) v' := nextOk N1 hgrow3 hlie3 HO.out HOF.out hFw (by omega)
        go_roundw
        case rel => exact ⟨j + 1, by omega, by go_num, by rw [HT.out, List.map_append, ← List.append_assoc, List.map_cons, List.map_nil, pcs_snoc]; exact own_snoc hown' (by rw [HLN.out]), NR.ne, NR.kat HK.out, NR.pat HA.out, NR.grown HG.out hw0⟩
        case measure => simp [intOf]; omega
      · simp only [tf, rf] at d1 d2
        obtain ⟨c0, c1, c2, c3, c4, c5, c6, c7⟩ := (HA.out.keep (World.grownBy_alloc wr (.cells #[.bool true, .func (.func 120) #[] #[], .func (.func 121) #[] #[]] 101) none)).cells
        simp only at c0 c1 c2 c3 c4 c5 c6 c7
        go_wp2_with fail
        refine (tell2_any ⟨a, v, m, ct, su, tr, mr, nm⟩ (tell_ok2 HM.out HMEM.out) _ (HL.out.keep (grown_push HG.out _))).mono ?_
        rintro e w2 ⟨rfl, g2⟩
        go_wp2_with (first | (at_builtin; refine wpList_append_own_at _ rfl (.tmp 39) (.tmp 44) 57 rfl b0 9 i0 (.string ByteArray.empty) 1 16 Tryz.underlying57 hi hz0 hz1 hz2 rfl (by decide) _ _ _ rfl (World.ownsRow.alloc (World.ownsRow.kept (World.ownsRow.alloc O1 _) g2 (Classical.em _)) _) ⟨w2.heap.size, 0, none⟩ 1 1 [_] rfl rfl (cell_one_new _ _ _) (fun x hx => by simp at hx; subst hx; rfl) (by unfold maxLen; omega) (by omega) (by simp; have := g2.size; simp at this; omega) ?_; intro v' w3 hown' hgrow3 hnil3 hlie3))
        have N1 := grown_trans (World.grownBy_alloc wr _ none) g2
        have NR : NextOk wr w3 b0 F w.heap.size (.slice q (3 + j) cp) v' := nextOk N1 hgrow3 hlie3 HO.out HOF.out hFw (by omega)
        go_roundw
        case rel => exact ⟨j + 1, by omega, by go_num, by rw [HT.out, List.map_append, ← List.append_assoc, List.map_cons, List.map_nil, pcs_snoc]; exact own_snoc hown' (by rw [HLN.out]), NR.ne, NR.kat HK.out, NR.pat HA.out, NR.grown HG.out hw0⟩
        case measure => simp [intOf]; omega
      · simp only [tf, rf] at d1 d2
        obtain ⟨c0, c1, c2, c3, c4, c5, c6, c7⟩ := (HA.out.keep (World.grownBy_alloc wr (.cells #[.bool true, .func (.func 122) #[] #[], .func (.func 123) #[] #[]] 101) none)).cells
        simp only at c0 c1 c2 c3 c4 c5 c6 c7
        go_wp2_with fail
        refine (tell3_any ⟨a, v, m, ct, su, tr, mr, nm⟩ (tell_ok3 HM.out HMEM.out) _ (HL.out.keep (grown_push HG.out _))).mono ?_
        rintro e w2 ⟨rfl, g2⟩
        go_wp2_with (first | (at_builtin; refine wpList_append_own_at _ rfl (.tmp 39) (.tmp 44) 57 rfl b0 9 i0 (.string ByteArray.empty) 1 16 Tryz.underlying57 hi hz0 hz1 hz2 rfl (by decide) _ _ _ rfl (World.ownsRow.alloc (World.ownsRow.kept (World.ownsRow.alloc O1 _) g2 (Classical.em _)) _) ⟨w2.heap.size, 0, none⟩ 1 1 [_] rfl rfl (cell_one_new _ _ _) (fun x hx => by simp at hx; subst hx; rfl) (by unfold maxLen; omega) (by omega) (by simp; have := g2.size; simp at this; omega) ?_; intro v' w3 hown' hgrow3 hnil3 hlie3))
        have N1 := grown_trans (World.grownBy_alloc wr _ none) g2
        have NR : NextOk wr w3 b0 F w.heap.size (.slice q (3 + j) cp) v' := nextOk N1 hgrow3 hlie3 HO.out HOF.out hFw (by omega)
        go_roundw
        case rel => exact ⟨j + 1, by omega, by go_num, by rw [HT.out, List.map_append, ← List.append_assoc, List.map_cons, List.map_nil, pcs_snoc]; exact own_snoc hown' (by rw [HLN.out]), NR.ne, NR.kat HK.out, NR.pat HA.out, NR.grown HG.out hw0⟩
        case measure => simp [intOf]; omega
      · simp only [tf, rf] at d1 d2
        obtain ⟨c0, c1, c2, c3, c4, c5, c6, c7⟩ := (HA.out.keep (World.grownBy_alloc wr (.cells #[.bool true, .func (.func 124) #[] #[], .func (.func 125) #[] #[]] 101) none)).cells
        simp only at c0 c1 c2 c3 c4 c5 c6 c7
        go_wp2_with fail
        refine (tell4_any ⟨a, v, m, ct, su, tr, mr, nm⟩ _).mono ?_
        rintro e w2 ⟨rfl, g2⟩
        go_wp2_with (first | (at_builtin; refine wpList_append_own_at _ rfl (.tmp 39) (.tmp 44) 57 rfl b0 9 i0 (.string ByteArray.empty) 1 16 Tryz.underlying57 hi hz0 hz1 hz2 rfl (by decide) _ _ _ rfl (World.ownsRow.alloc (World.ownsRow.kept (World.ownsRow.alloc O1 _) g2 (Classical.em _)) _) ⟨w2.heap.size, 0, none⟩ 1 1 [_] rfl rfl (cell_one_new _ _ _) (fun x hx => by simp at hx; subst hx; rfl) (by unfold maxLen; omega) (by omega) (by simp; have := g2.size; simp at this; omega) ?_; intro v' w3 hown' hgrow3 hnil3 hlie3))
        have N1 := grown_trans (World.grownBy_alloc wr _ none) g2
        have NR : NextOk wr w3 b0 F w.heap.size (.slice q (3 + j) cp) v' := nextOk N1 hgrow3 hlie3 HO.out HOF.out hFw (by omega)
        go_roundw
        case rel => exact ⟨j + 1, by omega, by go_num, by rw [HT.out, List.map_append, ← List.append_assoc, List.map_cons, List.map_nil, pcs_snoc]; exact own_snoc hown' (by rw [HLN.out]), NR.ne, NR.kat HK.out, NR.pat HA.out, NR.grown HG.out hw0⟩
        case measure => simp [intOf]; omega
    · have hjn : j = n := by omega
      have hfull : (ks.take j).map (tell ⟨a, v, m, ct, su, tr, mr, nm⟩) = (kinds v m).map (tell ⟨a, v, m, ct, su, tr, mr, nm⟩) := by rw [hjn, HN.out, List.take_length, HKS.out]
      rw [hfull] at O
      have O2 : Own wr b0 9 _ (pcs (wordsOf ⟨a, v, m, ct, su, tr, mr, nm⟩)) := O
      clear O
      rcases O2.at with ⟨_, h0⟩ | ⟨gw, cw, rfl, hgw, hgw1, hcw, hcl⟩
      · exfalso
        have := congrArg List.length h0
        rw [length_pcs] at this
        simp [wordsOf, heads] at this
      · have hwl : (pcs (wordsOf ⟨a, v, m, ct, su, tr, mr, nm⟩)).length = 3 + n := by
          rw [length_pcs]
          show (heads ⟨a, v, m, ct, su, tr, mr, nm⟩ ++ (kinds v m).map (tell ⟨a, v, m, ct, su, tr, mr, nm⟩)).length = _
          rw [List.length_append, List.length_map, ← HKS.out, ← HN.out]
          rfl
        rw [hwl] at hcw ⊢
        have HJ := join_any gw cw ((wordsOf ⟨a, v, m, ct, su, tr, mr, nm⟩).map fun l => ⟨l.toArray⟩) wr (fun i x hx => by
          refine (hcl i (.string x) ?_).1
          rw [List.getElem?_map] at hx
          unfold pcs
          rw [List.getElem?_map]
          cases hi : (wordsOf ⟨a, v, m, ct, su, tr, mr, nm⟩)[i]? with
          | none => rw [hi] at hx; cases hx
          | some y => rw [hi] at hx; simp at hx; subst hx; rfl) hgw1 (by rw [List.length_map, ← length_pcs, hwl]; omega) (by rw [List.length_map, ← length_pcs, hwl]; exact hcw) (by
            have e1 : ((wordsOf ⟨a, v, m, ct, su, tr, mr, nm⟩).map fun l => (⟨l.toArray⟩ : ByteArray)).map (·.data.toList) = wordsOf ⟨a, v, m, ct, su, tr, mr, nm⟩ := by rw [List.map_map]; exact List.map_id _
            rw [e1]
            have := prt_len HM.out
            unfold prt at this
            omega)
        have e1 : ((wordsOf ⟨a, v, m, ct, su, tr, mr, nm⟩).map fun l => (⟨l.toArray⟩ : ByteArray)).map (·.data.toList) = wordsOf ⟨a, v, m, ct, su, tr, mr, nm⟩ := by rw [List.map_map]; exact List.map_id _
        rw [e1, List.length_map, ← length_pcs, hwl] at HJ
        have HJ' : Hid (Calls Tryz.prog 44 #[.slice (some ⟨gw, 0, none⟩) (3 + n) cw, .string ⟨#[32]⟩] wr fun e w' => e = .returned (.string ⟨(Lib.join (wordsOf ⟨a, v, m, ct, su, tr, mr, nm⟩) [32]).toArray⟩) ∧ wr.grownBy w' none) := HJ
        have HG : Hid (w.grownBy wr none) := G
        have hnl : ¬ (j : Int) < (n : Int) := by omega
        clear HJ O2 hcl G K A hfull hwl e1 hOF
        go_wp2_with fail
        refine HJ'.out.mono ?_
        rintro e w4 ⟨rfl, g4⟩
        go_wp2
        go_ret2
        exact ⟨rfl, grown_trans HG.out g4⟩
/-- The text that Print tells; none of a part that may not be. -/
def prB (p : Pt) : ByteArray := if chk p = 0 then ⟨(prt p).toArray⟩ else ⟨#[]⟩
set_option maxHeartbeats 2000000 in
set_option maxRecDepth 100000 in
theorem print_no (p : Pt) (h : ¬ chk p = 0) (w : World) : Calls Tryz.prog 30 #[pv p] w fun e w' => e = .returned (.tuple #[.string ⟨#[]⟩, .int .i64 (chk p)]) ∧ w.grownBy w' none := by
  have hn : (chk p != 0) = true := by simpa using h
  have hb : (chk p == 0) = false := by simpa using h
  have hc := check_any p (w.alloc (.cells #[.int .u8 p.wn, .int .u8 p.vb, .int .u8 p.wm, .int .i64 p.ct, .int .u8 p.su, .int .u8 p.tr, .int .u8 p.mr, .string p.nm] 29))
  obtain ⟨c, hcc⟩ : ∃ c, c = chk p := ⟨_, rfl⟩
  rw [← hcc] at hn hb hc ⊢
  clear hcc h
  unfold pv at hc ⊢
  go_enter Tryz.func30, Tryz.ntmps30
  go_wp2_with (go_at_call 64; refine hc.mono ?_; rintro e w1 ⟨rfl, g1⟩)
  go_ret2
  exact ⟨rfl, grown_trans (World.grownBy_alloc _ _ _) g1⟩
theorem printP_any (p : Pt) (w : World) (L : LaidP w) : Calls Tryz.prog 30 #[pv p] w fun e w' => e = .returned (.tuple #[.string (prB p), .int .i64 (chk p)]) ∧ w.grownBy w' none := by
  by_cases h : chk p = 0
  · have M := may_of h
    obtain ⟨wn, vb, wm, ct, su, tr, mr, nm⟩ := p
    have h1 := M.wn
    have h2 := M.vb
    have h3 := M.wm
    simp only at h1 h2 h3
    obtain ⟨a, rfl⟩ : ∃ a : Nat, wn = a := ⟨wn.toNat, by omega⟩
    obtain ⟨v, rfl⟩ : ∃ v : Nat, vb = v := ⟨vb.toNat, by omega⟩
    obtain ⟨m, rfl⟩ : ∃ m : Nat, wm = m := ⟨wm.toNat, by omega⟩
    refine (print_ok a v m ct su tr mr nm h w L).mono ?_
    rintro e w' ⟨rfl, g⟩
    refine ⟨?_, g⟩
    unfold prB
    rw [if_pos h, h]
  · refine (print_no p h w).mono ?_
    rintro e w' ⟨rfl, g⟩
    refine ⟨?_, g⟩
    unfold prB
    rw [if_neg h]
theorem print_any (p : Pt) (w : World) (L : LaidAt w) : Calls Tryz.prog 30 #[pv p] w fun e w' => e = .returned (.tuple #[.string (prB p), .int .i64 (chk p)]) ∧ w.grownBy w' none := printP_any p w L.p
end Go.Proofs.YtpceelbphpfciaaGreatDoor
