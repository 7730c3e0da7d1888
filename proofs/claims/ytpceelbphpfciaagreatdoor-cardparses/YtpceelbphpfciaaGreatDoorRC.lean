/-
  What the document's own Same tells.
  What the document's own read takes words for.
  The chapter's two examples that every law asks: printed, lives.
  What the document's own Parse takes any text for; EffectParses, walked.
-/
import Derived.Test.YtpceelbphpfciaaGreatDoorEq
import Derived.Test.YtpceelbphpfciaaGreatDoorRChk
import Derived.Test.YtpceelbphpfciaaGreatDoorRA
import Derived.Test.YtpceelbphpfciaaGreatDoorRead
import Derived.Maps.RangeWalk
import Derived.Test.YtpceelbphpfciaaGreatDoorParse
import Derived.Test.YtpceelbphpfciaaGreatDoorRPrt
namespace Go.Proofs.YtpceelbphpfciaaGreatDoor
open Go.RowKit

theorem two_new (w : World) (a b : Obj) : w.grownBy ((w.alloc a).alloc b) none := grown_push (World.grownBy_alloc _ _ _) b
end Go.Proofs.YtpceelbphpfciaaGreatDoor
namespace Go.Proofs.YtpceelbphpfciaaGreatDoor
open Go.RowKit

theorem step_num (j : Nat) : Value.int .i64 ((j : Int) + 4) = .int .i64 (((j + 1 : Nat) : Int) + 3) := by congr 1
theorem PAt.set0 {w : World} {b : Nat} {p : Pt} (h : PAt w b p) (x : Int) : PAt (w.setCell ⟨b, 0, none⟩ (.int .u8 x)) b { p with wn := x } := block_set h 0 _
theorem PAt.set1 {w : World} {b : Nat} {p : Pt} (h : PAt w b p) (x : Int) : PAt (w.setCell ⟨b, 1, none⟩ (.int .u8 x)) b { p with vb := x } := block_set h 1 _
theorem PAt.set2 {w : World} {b : Nat} {p : Pt} (h : PAt w b p) (x : Int) : PAt (w.setCell ⟨b, 2, none⟩ (.int .u8 x)) b { p with wm := x } := block_set h 2 _
theorem cell_other {w : World} {b s i j : Nat} {v x : Value} (h : w.cell? ⟨b, j, none⟩ = some x) (hb : b ≠ s) : (w.setCell ⟨s, i, none⟩ v).cell? ⟨b, j, none⟩ = some x := (grown_set w s i v).cell h (by simpa using fun e => hb e)
theorem PAt.set3 {w : World} {b : Nat} {p : Pt} (h : PAt w b p) (x : Int) : PAt (w.setCell ⟨b, 3, none⟩ (.int .i64 x)) b { p with ct := x } := block_set h 3 _
theorem PAt.set4 {w : World} {b : Nat} {p : Pt} (h : PAt w b p) (x : Int) : PAt (w.setCell ⟨b, 4, none⟩ (.int .u8 x)) b { p with su := x } := block_set h 4 _
theorem PAt.set5 {w : World} {b : Nat} {p : Pt} (h : PAt w b p) (x : Int) : PAt (w.setCell ⟨b, 5, none⟩ (.int .u8 x)) b { p with tr := x } := block_set h 5 _
theorem PAt.set6 {w : World} {b : Nat} {p : Pt} (h : PAt w b p) (x : Int) : PAt (w.setCell ⟨b, 6, none⟩ (.int .u8 x)) b { p with mr := x } := block_set h 6 _
theorem PAt.set7 {w : World} {b : Nat} {p : Pt} (h : PAt w b p) (x : ByteArray) : PAt (w.setCell ⟨b, 7, none⟩ (.string x)) b { p with nm := x } := block_set h 7 _
/-- The fields from one on that are used, and which are. -/
def ksF (v m : Int) : Nat → List Nat
  | 0 => kinds v m
  | 1 => mark (uS v m) 1 ++ (mark (uT v m) 2 ++ (mark (uM v) 3 ++ mark (uN v) 4))
  | 2 => mark (uT v m) 2 ++ (mark (uM v) 3 ++ mark (uN v) 4)
  | 3 => mark (uM v) 3 ++ mark (uN v) 4
  | 4 => mark (uN v) 4 ++ []
  | _ => []
theorem ks_one {v m : Int} : mark (uN v) 4 = ksF v m 4 := (List.append_nil _).symm
theorem rrF_nil (ks : List Nat) (p : Pt) : rrF ks [] p = p := by cases ks <;> rfl
structure ArrAt (w : World) (b : Nat) (i1 i2 : Int) : Prop where
  at_ : w.heap[b]? = some (.cells #[.bool (uC i1), .bool (uS i1 i2), .bool (uT i1 i2), .bool (uM i1), .bool (uN i1)] 103 (0, 0))
theorem ArrAt.keep {w w' : World} {b : Nat} {i1 i2 : Int} {rr : Option Nat} (h : ArrAt w b i1 i2) (g : w.grownBy w' rr) (hr : some b ≠ rr) : ArrAt w' b i1 i2 := ⟨grown_keep g h.at_ hr⟩
set_option maxHeartbeats 8000000 in
set_option maxRecDepth 100000 in
theorem rread_long (b c : Nat) (x y z : ByteArray) (r : List ByteArray) (hl : r.length ≤ 1000) (w : World) (hb : b < w.heap.size) (X : W0At w b (x :: y :: z :: r)) :
    Calls Tryz.prog 31 #[.slice (some ⟨b, 0, none⟩) (r.length + 3) c] w fun e w' => e = .returned (pv (rread (x.data.toList :: y.data.toList :: z.data.toList :: r.map (·.data.toList)))) ∧ w.grownBy w' none := by
  have HX : Hid (W0At w b (x :: y :: z :: r)) := X
  obtain ⟨res, hres⟩ : ∃ res, res = rread (x.data.toList :: y.data.toList :: z.data.toList :: r.map (·.data.toList)) := ⟨_, rfl⟩
  have HR : Hid (res = rread (x.data.toList :: y.data.toList :: z.data.toList :: r.map (·.data.toList))) := hres
  rw [← hres]
  clear X hres
  obtain ⟨i0, e0⟩ : ∃ i0, i0 = idx whenW x.toList := ⟨_, rfl⟩
  obtain ⟨i1, e1⟩ : ∃ i1, i1 = idx verbW y.toList := ⟨_, rfl⟩
  obtain ⟨i2, e2⟩ : ∃ i2, i2 = idx whomW z.toList := ⟨_, rfl⟩
  have E0 : Hid (i0 = idx whenW x.toList) := e0
  have E1 : Hid (i1 = idx verbW y.toList) := e1
  have E2 : Hid (i2 = idx whomW z.toList) := e2
  have l0 : i0 ≤ 6 := by rw [e0]; exact idx_le
  have l1 : i1 ≤ 19 := by rw [e1]; exact idx_le
  have l2 : i2 ≤ 10 := by rw [e2]; exact idx_le
  clear e0 e1 e2
  obtain ⟨n, hn⟩ : ∃ n, n = r.length := ⟨_, rfl⟩
  have HN : Hid (n = r.length) := hn
  rw [← hn] at hl ⊢
  have h3 : ¬ (n : Int) + 3 < 3 := by omega
  have h30 : (0 : Int) < (n : Int) + 3 := by omega
  have h31 : (1 : Int) < (n : Int) + 3 := by omega
  have h32 : (2 : Int) < (n : Int) + 3 := by omega
  have u0 : IntKind.u8.wrap (i0 : Int) = i0 := IntWalk.u8_in _ (by omega)
  have u1 : IntKind.u8.wrap (i1 : Int) = i1 := IntWalk.u8_in _ (by omega)
  have u2 : IntKind.u8.wrap (i2 : Int) = i2 := IntWalk.u8_in _ (by omega)
  clear hn
  have Za := (PAt.new w Pt.none).keep (World.grownBy_alloc _ (.cells #[.int .u8 0, .int .u8 0, .int .u8 0, .int .i64 0, .int .u8 0, .int .u8 0, .int .u8 0, .string ⟨#[]⟩] 29) none)
  have Zb := PAt.new (w.alloc (.cells #[.int .u8 0, .int .u8 0, .int .u8 0, .int .i64 0, .int .u8 0, .int .u8 0, .int .u8 0, .string ⟨#[]⟩] 29)) Pt.none
  rw [World.size_alloc] at Zb
  have Ga := two_new w (.cells #[.int .u8 0, .int .u8 0, .int .u8 0, .int .i64 0, .int .u8 0, .int .u8 0, .int .u8 0, .string ⟨#[]⟩] 29) (.cells #[.int .u8 0, .int .u8 0, .int .u8 0, .int .i64 0, .int .u8 0, .int .u8 0, .int .u8 0, .string ⟨#[]⟩] 29)
  obtain ⟨W0, hW0⟩ : ∃ W0, W0 = (w.alloc (.cells #[.int .u8 0, .int .u8 0, .int .u8 0, .int .i64 0, .int .u8 0, .int .u8 0, .int .u8 0, .string ⟨#[]⟩] 29)).alloc (.cells #[.int .u8 0, .int .u8 0, .int .u8 0, .int .i64 0, .int .u8 0, .int .u8 0, .int .u8 0, .string ⟨#[]⟩] 29) := ⟨_, rfl⟩
  have HW0 : Hid (W0 = (w.alloc (.cells #[.int .u8 0, .int .u8 0, .int .u8 0, .int .i64 0, .int .u8 0, .int .u8 0, .int .u8 0, .string ⟨#[]⟩] 29)).alloc (.cells #[.int .u8 0, .int .u8 0, .int .u8 0, .int .i64 0, .int .u8 0, .int .u8 0, .int .u8 0, .string ⟨#[]⟩] 29)) := hW0
  simp only [Pt.none] at Za Zb
  rw [← hW0] at Za Zb Ga
  have HA : Hid (PAt W0 w.heap.size Pt.none) := Za
  have HB : Hid (PAt W0 (w.heap.size + 1) Pt.none) := Zb
  clear hW0 Za Zb
  go_enter Tryz.func31, Tryz.ntmps31
  go_wp2_with fail
  rw [← show W0 = _ from HW0.out]
  clear HW0
  have HX0 : Hid (W0At W0 b (x :: y :: z :: r)) := fun i u hu => Ga.cell (HX.out i u hu) (by simp)
  have HG0 : Hid (w.grownBy W0 none) := Ga
  have HA0 : Hid (PAt W0 w.heap.size (hp i0 i1 i2 0)) := HA.out
  have HB0 : Hid (PAt W0 (w.heap.size + 1) (hp i0 i1 i2 0)) := HB.out
  clear HX Ga HA HB
  have k0 : W0.cell? ⟨b, 0, none⟩ = some (.string x) := HX0.out 0 x rfl
  have G0 := grown_drew W0
  have S0 : (fun w' : World => w'.cell? ⟨b, 0, none⟩ = some (.string x)) W0.drew := k0
  refine wp_region_held_drew (S := fun w' => w'.cell? ⟨b, 0, none⟩ = some (.string x)) (by kernel_rfl) S0 (fun hHeld => ?_)
  clear S0
  refine wpAnyH_take (i := 1) (v := ?_) rfl (by kernel_rfl) (by kernel_rfl) (by kernel_rfl) (fun _ _ _ h => h) (Or.inl ⟨by rfl, ?_⟩) (by assumption) ?_
  rotate_left 1
  · (intro w0 hSw; (try dsimp only at hSw); go_simp; try with_reducible rfl)
  simp only [List.getElem_toArray, List.getElem_cons_zero, List.getElem_cons_succ]
  go_frame
  refine wpAnyH_take (i := 2) (v := ?_) rfl (by kernel_rfl) (by kernel_rfl) (by kernel_rfl) (fun _ _ _ h => h) (Or.inl ⟨by rfl, ?_⟩) (by assumption) ?_
  rotate_left 1
  · (intro w0 hSw; (try dsimp only at hSw); go_simp; try with_reducible rfl)
  simp only [List.getElem_toArray, List.getElem_cons_zero, List.getElem_cons_succ]
  go_frame
  refine wpAnyH_take (i := 3) (v := ?_) rfl (by kernel_rfl) (by kernel_rfl) (by kernel_rfl) (fun _ _ _ h => h) (Or.inl ⟨by rfl, ?_⟩) (by assumption) ?_
  rotate_left 1
  · (intro w0 hSw; (try dsimp only at hSw); go_simp; try with_reducible rfl)
  simp only [List.getElem_toArray, List.getElem_cons_zero, List.getElem_cons_succ]
  go_frame
  refine wpAnyH_ready (rs := [0]) (by kernel_rfl) (by simp) ?_
  refine AllReadyH.cons rfl (fun K hK => ?_) AllReadyH.nil
  simp only [List.getElem_toArray, List.getElem_cons_zero]
  go_simp
  go_at_call 70
  refine (whens_any _).mono ?_
  rintro e u0 ⟨rfl, T3, g3⟩
  have G3 : W0.grownBy u0 none := grown_trans G0 g3
  have K3 : (fun w' : World => w'.cell? ⟨b, 0, none⟩ = some (.string x)) u0 := G3.cell k0 (by simp)
  refine hK.out _ _ K3 (fun hHeld2 => ?_)
  clear hK K hHeld g3 hHeld2 G0 k0
  (try go_frame)
  refine wpAnyH_ready (rs := [4]) (by kernel_rfl) (by simp) ?_
  refine AllReadyH.cons rfl (fun K hK => ?_) AllReadyH.nil
  simp only [List.getElem_toArray, List.getElem_cons_zero, List.getElem_cons_succ]
  go_simp
  go_at_call 69
  refine (place_any whenW 6 W0.heap.size rfl (by decide) x u0 T3).mono ?_
  rintro e w4 ⟨rfl, hw⟩
  obtain rfl : u0 = w4 := hw.symm
  rw [← show i0 = _ from E0.out]
  refine hK.out _ _ K3 (fun hHeld2 => ?_)
  clear hK K T3 hw
  (try go_frame)
  refine wpAnyH_take (i := 5) (v := ?_) rfl (by kernel_rfl) (by kernel_rfl) (by kernel_rfl) (fun _ _ _ h => h) (Or.inl ⟨by rfl, ?_⟩) (by assumption) ?_
  rotate_left 1
  · (intro w0 hSw; (try dsimp only at hSw); go_simp; try with_reducible rfl)
  simp only [List.getElem_toArray, List.getElem_cons_zero, List.getElem_cons_succ]
  go_frame
  refine wpAnyH_take (i := 6) (v := ?_) rfl (by kernel_rfl) (by kernel_rfl) (by kernel_rfl) (fun _ _ _ h => h) (Or.inl ⟨by rfl, ?_⟩) (by assumption) ?_
  rotate_left 1
  · (intro w0 hSw; (try dsimp only at hSw); go_simp; try with_reducible rfl)
  simp only [List.getElem_toArray, List.getElem_cons_zero, List.getElem_cons_succ]
  go_frame
  have B3 := HB0.out.keep G3
  have A3 := HA0.out.keep G3
  have d0 := block_cell B3 0
  have f0 : ∀ i, u0.frozen? ⟨w.heap.size + 1, i, none⟩ = false := block_free B3
  simp only [hp, Pt.none, List.getElem?_toArray, List.getElem?_cons_zero] at d0
  refine wpAnyH_ready (rs := [7]) (by kernel_rfl) (by simp) ?_
  refine AllReadyH.cons rfl (fun K hK => ?_) AllReadyH.nil
  simp only [List.getElem_toArray, List.getElem_cons_zero, List.getElem_cons_succ]
  go_simp
  have HB1 : Hid (PAt (u0.setCell ⟨w.heap.size + 1, 0, none⟩ (.int .u8 i0)) (w.heap.size + 1) (hp i0 i1 i2 1)) := B3.set0 i0
  have HA1 : Hid (PAt (u0.setCell ⟨w.heap.size + 1, 0, none⟩ (.int .u8 i0)) w.heap.size (hp i0 i1 i2 0)) := grown_keep (grown_set _ _ _ _) A3 (by simp)
  have HX1 : Hid (W0At (u0.setCell ⟨w.heap.size + 1, 0, none⟩ (.int .u8 i0)) b (x :: y :: z :: r)) := fun i u hu => cell_other (G3.cell (HX0.out i u hu) (by simp)) (by omega)
  have HG1 : Hid (w.grownBy (u0.setCell ⟨w.heap.size + 1, 0, none⟩ (.int .u8 i0)) none) := grown_own (grown_trans HG0.out G3) (grown_set _ _ _ _) (fun x hx => by cases hx; omega)
  obtain ⟨W1, hW⟩ : ∃ W1, W1 = u0.setCell ⟨w.heap.size + 1, 0, none⟩ (.int .u8 i0) := ⟨_, rfl⟩
  rw [← hW] at HB1 HA1 HX1 HG1 ⊢
  refine hK.out _ _ (HX1.out 0 x rfl) (fun hHeld3 => ?_)
  clear hK K hHeld2 hHeld3 hW HB0 HA0 HX0 HG0 B3 A3 d0 f0 G3 K3
  refine wpAnyH_done (by kernel_rfl) ?_ _
  go_wp2_with fail
  have k1 : W1.cell? ⟨b, 1, none⟩ = some (.string y) := HX1.out 1 y rfl
  have G0 := grown_drew W1
  have S0 : (fun w' : World => w'.cell? ⟨b, 1, none⟩ = some (.string y)) W1.drew := k1
  refine wp_region_held_drew (S := fun w' => w'.cell? ⟨b, 1, none⟩ = some (.string y)) (by kernel_rfl) S0 (fun hHeld => ?_)
  clear S0
  refine wpAnyH_take (i := 1) (v := ?_) rfl (by kernel_rfl) (by kernel_rfl) (by kernel_rfl) (fun _ _ _ h => h) (Or.inl ⟨by rfl, ?_⟩) (by assumption) ?_
  rotate_left 1
  · (intro w0 hSw; (try dsimp only at hSw); go_simp; try with_reducible rfl)
  simp only [List.getElem_toArray, List.getElem_cons_zero, List.getElem_cons_succ]
  go_frame
  refine wpAnyH_take (i := 2) (v := ?_) rfl (by kernel_rfl) (by kernel_rfl) (by kernel_rfl) (fun _ _ _ h => h) (Or.inl ⟨by rfl, ?_⟩) (by assumption) ?_
  rotate_left 1
  · (intro w0 hSw; (try dsimp only at hSw); go_simp; try with_reducible rfl)
  simp only [List.getElem_toArray, List.getElem_cons_zero, List.getElem_cons_succ]
  go_frame
  refine wpAnyH_take (i := 3) (v := ?_) rfl (by kernel_rfl) (by kernel_rfl) (by kernel_rfl) (fun _ _ _ h => h) (Or.inl ⟨by rfl, ?_⟩) (by assumption) ?_
  rotate_left 1
  · (intro w0 hSw; (try dsimp only at hSw); go_simp; try with_reducible rfl)
  simp only [List.getElem_toArray, List.getElem_cons_zero, List.getElem_cons_succ]
  go_frame
  refine wpAnyH_ready (rs := [0]) (by kernel_rfl) (by simp) ?_
  refine AllReadyH.cons rfl (fun K hK => ?_) AllReadyH.nil
  simp only [List.getElem_toArray, List.getElem_cons_zero]
  go_simp
  go_at_call 71
  refine (verbs_any _).mono ?_
  rintro e u1 ⟨rfl, T3, g3⟩
  have G3 : W1.grownBy u1 none := grown_trans G0 g3
  have K3 : (fun w' : World => w'.cell? ⟨b, 1, none⟩ = some (.string y)) u1 := G3.cell k1 (by simp)
  refine hK.out _ _ K3 (fun hHeld2 => ?_)
  clear hK K hHeld g3 hHeld2 G0 k1
  (try go_frame)
  refine wpAnyH_ready (rs := [4]) (by kernel_rfl) (by simp) ?_
  refine AllReadyH.cons rfl (fun K hK => ?_) AllReadyH.nil
  simp only [List.getElem_toArray, List.getElem_cons_zero, List.getElem_cons_succ]
  go_simp
  go_at_call 69
  refine (place_any verbW 19 W1.heap.size rfl (by decide) y u1 T3).mono ?_
  rintro e w4 ⟨rfl, hw⟩
  obtain rfl : u1 = w4 := hw.symm
  rw [← show i1 = _ from E1.out]
  refine hK.out _ _ K3 (fun hHeld2 => ?_)
  clear hK K T3 hw
  (try go_frame)
  refine wpAnyH_take (i := 5) (v := ?_) rfl (by kernel_rfl) (by kernel_rfl) (by kernel_rfl) (fun _ _ _ h => h) (Or.inl ⟨by rfl, ?_⟩) (by assumption) ?_
  rotate_left 1
  · (intro w0 hSw; (try dsimp only at hSw); go_simp; try with_reducible rfl)
  simp only [List.getElem_toArray, List.getElem_cons_zero, List.getElem_cons_succ]
  go_frame
  refine wpAnyH_take (i := 6) (v := ?_) rfl (by kernel_rfl) (by kernel_rfl) (by kernel_rfl) (fun _ _ _ h => h) (Or.inl ⟨by rfl, ?_⟩) (by assumption) ?_
  rotate_left 1
  · (intro w0 hSw; (try dsimp only at hSw); go_simp; try with_reducible rfl)
  simp only [List.getElem_toArray, List.getElem_cons_zero, List.getElem_cons_succ]
  go_frame
  have B3 := HB1.out.keep G3
  have A3 := HA1.out.keep G3
  have d0 := block_cell B3 1
  have f0 : ∀ i, u1.frozen? ⟨w.heap.size + 1, i, none⟩ = false := block_free B3
  simp only [hp, Pt.none, List.getElem?_toArray, List.getElem?_cons_zero, List.getElem?_cons_succ] at d0
  refine wpAnyH_ready (rs := [7]) (by kernel_rfl) (by simp) ?_
  refine AllReadyH.cons rfl (fun K hK => ?_) AllReadyH.nil
  simp only [List.getElem_toArray, List.getElem_cons_zero, List.getElem_cons_succ]
  go_simp
  have HB2 : Hid (PAt (u1.setCell ⟨w.heap.size + 1, 1, none⟩ (.int .u8 i1)) (w.heap.size + 1) (hp i0 i1 i2 2)) := B3.set1 i1
  have HA2 : Hid (PAt (u1.setCell ⟨w.heap.size + 1, 1, none⟩ (.int .u8 i1)) w.heap.size (hp i0 i1 i2 0)) := grown_keep (grown_set _ _ _ _) A3 (by simp)
  have HX2 : Hid (W0At (u1.setCell ⟨w.heap.size + 1, 1, none⟩ (.int .u8 i1)) b (x :: y :: z :: r)) := fun i u hu => cell_other (G3.cell (HX1.out i u hu) (by simp)) (by omega)
  have HG2 : Hid (w.grownBy (u1.setCell ⟨w.heap.size + 1, 1, none⟩ (.int .u8 i1)) none) := grown_own (grown_trans HG1.out G3) (grown_set _ _ _ _) (fun x hx => by cases hx; omega)
  obtain ⟨W2, hW⟩ : ∃ W2, W2 = u1.setCell ⟨w.heap.size + 1, 1, none⟩ (.int .u8 i1) := ⟨_, rfl⟩
  rw [← hW] at HB2 HA2 HX2 HG2 ⊢
  refine hK.out _ _ (HX2.out 1 y rfl) (fun hHeld3 => ?_)
  clear hK K hHeld2 hHeld3 hW HB1 HA1 HX1 HG1 B3 A3 d0 f0 G3 K3
  refine wpAnyH_done (by kernel_rfl) ?_ _
  go_wp2_with fail
  have k2 : W2.cell? ⟨b, 2, none⟩ = some (.string z) := HX2.out 2 z rfl
  have G0 := grown_drew W2
  have S0 : (fun w' : World => w'.cell? ⟨b, 2, none⟩ = some (.string z)) W2.drew := k2
  refine wp_region_held_drew (S := fun w' => w'.cell? ⟨b, 2, none⟩ = some (.string z)) (by kernel_rfl) S0 (fun hHeld => ?_)
  clear S0
  refine wpAnyH_take (i := 1) (v := ?_) rfl (by kernel_rfl) (by kernel_rfl) (by kernel_rfl) (fun _ _ _ h => h) (Or.inl ⟨by rfl, ?_⟩) (by assumption) ?_
  rotate_left 1
  · (intro w0 hSw; (try dsimp only at hSw); go_simp; try with_reducible rfl)
  simp only [List.getElem_toArray, List.getElem_cons_zero, List.getElem_cons_succ]
  go_frame
  refine wpAnyH_take (i := 2) (v := ?_) rfl (by kernel_rfl) (by kernel_rfl) (by kernel_rfl) (fun _ _ _ h => h) (Or.inl ⟨by rfl, ?_⟩) (by assumption) ?_
  rotate_left 1
  · (intro w0 hSw; (try dsimp only at hSw); go_simp; try with_reducible rfl)
  simp only [List.getElem_toArray, List.getElem_cons_zero, List.getElem_cons_succ]
  go_frame
  refine wpAnyH_take (i := 3) (v := ?_) rfl (by kernel_rfl) (by kernel_rfl) (by kernel_rfl) (fun _ _ _ h => h) (Or.inl ⟨by rfl, ?_⟩) (by assumption) ?_
  rotate_left 1
  · (intro w0 hSw; (try dsimp only at hSw); go_simp; try with_reducible rfl)
  simp only [List.getElem_toArray, List.getElem_cons_zero, List.getElem_cons_succ]
  go_frame
  refine wpAnyH_ready (rs := [0]) (by kernel_rfl) (by simp) ?_
  refine AllReadyH.cons rfl (fun K hK => ?_) AllReadyH.nil
  simp only [List.getElem_toArray, List.getElem_cons_zero]
  go_simp
  go_at_call 72
  refine (whoms_any _).mono ?_
  rintro e u2 ⟨rfl, T3, g3⟩
  have G3 : W2.grownBy u2 none := grown_trans G0 g3
  have K3 : (fun w' : World => w'.cell? ⟨b, 2, none⟩ = some (.string z)) u2 := G3.cell k2 (by simp)
  refine hK.out _ _ K3 (fun hHeld2 => ?_)
  clear hK K hHeld g3 hHeld2 G0 k2
  (try go_frame)
  refine wpAnyH_ready (rs := [4]) (by kernel_rfl) (by simp) ?_
  refine AllReadyH.cons rfl (fun K hK => ?_) AllReadyH.nil
  simp only [List.getElem_toArray, List.getElem_cons_zero, List.getElem_cons_succ]
  go_simp
  go_at_call 69
  refine (place_any whomW 10 W2.heap.size rfl (by decide) z u2 T3).mono ?_
  rintro e w4 ⟨rfl, hw⟩
  obtain rfl : u2 = w4 := hw.symm
  rw [← show i2 = _ from E2.out]
  refine hK.out _ _ K3 (fun hHeld2 => ?_)
  clear hK K T3 hw
  (try go_frame)
  refine wpAnyH_take (i := 5) (v := ?_) rfl (by kernel_rfl) (by kernel_rfl) (by kernel_rfl) (fun _ _ _ h => h) (Or.inl ⟨by rfl, ?_⟩) (by assumption) ?_
  rotate_left 1
  · (intro w0 hSw; (try dsimp only at hSw); go_simp; try with_reducible rfl)
  simp only [List.getElem_toArray, List.getElem_cons_zero, List.getElem_cons_succ]
  go_frame
  refine wpAnyH_take (i := 6) (v := ?_) rfl (by kernel_rfl) (by kernel_rfl) (by kernel_rfl) (fun _ _ _ h => h) (Or.inl ⟨by rfl, ?_⟩) (by assumption) ?_
  rotate_left 1
  · (intro w0 hSw; (try dsimp only at hSw); go_simp; try with_reducible rfl)
  simp only [List.getElem_toArray, List.getElem_cons_zero, List.getElem_cons_succ]
  go_frame
  have B3 := HB2.out.keep G3
  have A3 := HA2.out.keep G3
  have d0 := block_cell B3 2
  have f0 : ∀ i, u2.frozen? ⟨w.heap.size + 1, i, none⟩ = false := block_free B3
  simp only [hp, Pt.none, List.getElem?_toArray, List.getElem?_cons_zero, List.getElem?_cons_succ] at d0
  refine wpAnyH_ready (rs := [7]) (by kernel_rfl) (by simp) ?_
  refine AllReadyH.cons rfl (fun K hK => ?_) AllReadyH.nil
  simp only [List.getElem_toArray, List.getElem_cons_zero, List.getElem_cons_succ]
  go_simp
  have HB3 : Hid (PAt (u2.setCell ⟨w.heap.size + 1, 2, none⟩ (.int .u8 i2)) (w.heap.size + 1) (hp i0 i1 i2 3)) := B3.set2 i2
  have HA3 : Hid (PAt (u2.setCell ⟨w.heap.size + 1, 2, none⟩ (.int .u8 i2)) w.heap.size (hp i0 i1 i2 0)) := grown_keep (grown_set _ _ _ _) A3 (by simp)
  have HX3 : Hid (W0At (u2.setCell ⟨w.heap.size + 1, 2, none⟩ (.int .u8 i2)) b (x :: y :: z :: r)) := fun i u hu => cell_other (G3.cell (HX2.out i u hu) (by simp)) (by omega)
  have HG3 : Hid (w.grownBy (u2.setCell ⟨w.heap.size + 1, 2, none⟩ (.int .u8 i2)) none) := grown_own (grown_trans HG2.out G3) (grown_set _ _ _ _) (fun x hx => by cases hx; omega)
  obtain ⟨W3, hW⟩ : ∃ W3, W3 = u2.setCell ⟨w.heap.size + 1, 2, none⟩ (.int .u8 i2) := ⟨_, rfl⟩
  rw [← hW] at HB3 HA3 HX3 HG3 ⊢
  refine hK.out _ _ (HX3.out 2 z rfl) (fun hHeld3 => ?_)
  clear hK K hHeld2 hHeld3 hW HB2 HA2 HX2 HG2 B3 A3 d0 f0 G3 K3
  refine wpAnyH_done (by kernel_rfl) ?_ _
  have Gc := World.grownBy_alloc W3 (.cells #[.bool false, .bool false, .bool false, .bool false, .bool false] 103) none
  have B4 := HB3.out.keep Gc
  have A4 := HA3.out.keep Gc
  have c1 := block_cell B4 1
  have c2 := block_cell B4 2
  simp only [hp, Pt.none, List.getElem?_toArray, List.getElem?_cons_zero, List.getElem?_cons_succ] at c1 c2
  have Q4 := alloc_at W3 #[.bool false, .bool false, .bool false, .bool false, .bool false] 103
  have q0 := block_cell Q4 0
  have q1 := block_cell Q4 1
  have q2 := block_cell Q4 2
  have q3 := block_cell Q4 3
  have q4 := block_cell Q4 4
  have qf := block_free Q4
  simp only [List.getElem?_toArray, List.getElem?_cons_zero, List.getElem?_cons_succ] at q0 q1 q2 q3 q4
  go_wp2_with (first | (go_at_call 73; refine (ruses_any _ _ _).mono ?_; rintro e w9 ⟨rfl, hw⟩; rw [hw]; simp only [usesV]) | fail)
  obtain ⟨Q, hQ⟩ : ∃ Q, Q = W3.heap.size := ⟨_, rfl⟩
  have hq2 : w.heap.size + 1 < Q := by rw [hQ]; exact block_lt HB3.out
  obtain ⟨W4, hW4⟩ : ∃ W4, W4 = W3.alloc (.cells #[.bool (uC i1), .bool (uS i1 i2), .bool (uT i1 i2), .bool (uM i1), .bool (uN i1)] 103) := ⟨_, rfl⟩
  have Gd := World.grownBy_alloc W3 (.cells #[.bool (uC i1), .bool (uS i1 i2), .bool (uT i1 i2), .bool (uM i1), .bool (uN i1)] 103) none
  have R4 : ArrAt W4 Q i1 i2 := ⟨by rw [hW4, hQ]; exact alloc_at _ _ _⟩
  rw [← hW4] at Gd ⊢
  rw [← hQ]
  have HB4 : Hid (PAt W4 (w.heap.size + 1) (hp i0 i1 i2 3)) := HB3.out.keep Gd
  have HA4 : Hid (PAt W4 w.heap.size Pt.none) := HA3.out.keep Gd
  have HX4 : Hid (W0At W4 b (x :: y :: z :: r)) := fun i u hu => Gd.cell (HX3.out i u hu) (by simp)
  have HG4 : Hid (w.grownBy W4 none) := grown_trans HG3.out Gd
  have HR4 : Hid (ArrAt W4 Q i1 i2) := R4
  have HS4 : Hid (rrF (ksF i1 i2 0) ((r.drop 0).map (·.data.toList)) (hp i0 i1 i2 3) = res) := by
    rw [Hid, HR.out]
    have e0 := E0.out
    have e1 := E1.out
    have e2 := E2.out
    rw [Lib.toList_data] at e0 e1 e2
    simp only [rread, ksF, hp, List.drop_zero, e0, e1, e2]
  clear HB3 HA3 HX3 HG3 R4 Gd hW4 hQ HR E0 E1 E2 u0 u1 u2 l0 l1 l2 h3 h30 h31 h32 Gc B4 A4 c1 c2 Q4 q0 q1 q2 q3 q4 qf
  go_loopw [5, 6] (fun t5 t6 wr => ∃ (k j : Nat) (p : Pt), k ≤ 5 ∧ j ≤ n ∧ t5 = .int .i64 ((j : Int) + 3) ∧ t6 = .int .i64 k ∧ PAt wr (w.heap.size + 1) p ∧ PAt wr w.heap.size Pt.none ∧ ArrAt wr Q i1 i2 ∧ W0At wr b (x :: y :: z :: r) ∧ w.grownBy wr none ∧ rrF (ksF i1 i2 k) ((r.drop j).map (·.data.toList)) p = res) (fun _ t6 _ => 5 - (intOf t6).toNat)
  case atStart => exact ⟨0, 0, _, by omega, by omega, rfl, rfl, HB4.out, HA4.out, HR4.out, HX4.out, HG4.out, HS4.out⟩
  case round =>
    obtain ⟨k, j, p, hk, hj, rfl, rfl, B, A, R, X, G, hD⟩ := hrel
    have HX : Hid (W0At wr b (x :: y :: z :: r)) := X
    have HG : Hid (w.grownBy wr none) := G
    have HRR : Hid (ArrAt wr Q i1 i2) := R
    have HDD : Hid (rrF (ksF i1 i2 k) ((r.drop j).map (·.data.toList)) p = res) := hD
    clear HB4 HA4 HX4 HG4 HR4 HS4 X G hD R
    rcases (show j = n ∨ j < n from by omega) with hjn | hjn
    · have hl' : ¬ (j : Int) + 3 < (n : Int) + 3 := by omega
      have HD : Hid (p = res) := by
        have h := HDD.out
        rw [hjn, HN.out, List.drop_length, List.map_nil, rrF_nil] at h
        exact h
      clear hjn
      rcases (show k = 0 ∨ k = 1 ∨ k = 2 ∨ k = 3 ∨ k = 4 ∨ k = 5 from by omega) with rfl | rfl | rfl | rfl | rfl | rfl
      · skip
        obtain ⟨z0, z1, z2, z3, z4, z5, z6, z7⟩ := A.cells
        simp only [Pt.none] at z0 z1 z2 z3 z4 z5 z6 z7
        have zf : ∀ i, wr.frozen? ⟨w.heap.size, i, none⟩ = false := block_free A
        obtain ⟨c0, c1, c2, c3, c4, c5, c6, c7⟩ := B.cells
        clear A B
        go_wp2
        refine bodyPost_ret (v := .agg #[.int .u8 p.wn, .int .u8 p.vb, .int .u8 p.wm, .int .i64 p.ct, .int .u8 p.su, .int .u8 p.tr, .int .u8 p.mr, .string p.nm]) (by simp [results, Tryz.results31, go_sem, z0, z1, z2, z3, z4, z5, z6, z7]) rfl ⟨?_, ?_⟩
        · rw [← show p = res from HD.out]
          rfl
        · exact grown_st8 HG.out (Nat.le_refl _) _ _ _ _ _ _ _ _
      · skip
        obtain ⟨z0, z1, z2, z3, z4, z5, z6, z7⟩ := A.cells
        simp only [Pt.none] at z0 z1 z2 z3 z4 z5 z6 z7
        have zf : ∀ i, wr.frozen? ⟨w.heap.size, i, none⟩ = false := block_free A
        obtain ⟨c0, c1, c2, c3, c4, c5, c6, c7⟩ := B.cells
        clear A B
        go_wp2
        refine bodyPost_ret (v := .agg #[.int .u8 p.wn, .int .u8 p.vb, .int .u8 p.wm, .int .i64 p.ct, .int .u8 p.su, .int .u8 p.tr, .int .u8 p.mr, .string p.nm]) (by simp [results, Tryz.results31, go_sem, z0, z1, z2, z3, z4, z5, z6, z7]) rfl ⟨?_, ?_⟩
        · rw [← show p = res from HD.out]
          rfl
        · exact grown_st8 HG.out (Nat.le_refl _) _ _ _ _ _ _ _ _
      · skip
        obtain ⟨z0, z1, z2, z3, z4, z5, z6, z7⟩ := A.cells
        simp only [Pt.none] at z0 z1 z2 z3 z4 z5 z6 z7
        have zf : ∀ i, wr.frozen? ⟨w.heap.size, i, none⟩ = false := block_free A
        obtain ⟨c0, c1, c2, c3, c4, c5, c6, c7⟩ := B.cells
        clear A B
        go_wp2
        refine bodyPost_ret (v := .agg #[.int .u8 p.wn, .int .u8 p.vb, .int .u8 p.wm, .int .i64 p.ct, .int .u8 p.su, .int .u8 p.tr, .int .u8 p.mr, .string p.nm]) (by simp [results, Tryz.results31, go_sem, z0, z1, z2, z3, z4, z5, z6, z7]) rfl ⟨?_, ?_⟩
        · rw [← show p = res from HD.out]
          rfl
        · exact grown_st8 HG.out (Nat.le_refl _) _ _ _ _ _ _ _ _
      · skip
        obtain ⟨z0, z1, z2, z3, z4, z5, z6, z7⟩ := A.cells
        simp only [Pt.none] at z0 z1 z2 z3 z4 z5 z6 z7
        have zf : ∀ i, wr.frozen? ⟨w.heap.size, i, none⟩ = false := block_free A
        obtain ⟨c0, c1, c2, c3, c4, c5, c6, c7⟩ := B.cells
        clear A B
        go_wp2
        refine bodyPost_ret (v := .agg #[.int .u8 p.wn, .int .u8 p.vb, .int .u8 p.wm, .int .i64 p.ct, .int .u8 p.su, .int .u8 p.tr, .int .u8 p.mr, .string p.nm]) (by simp [results, Tryz.results31, go_sem, z0, z1, z2, z3, z4, z5, z6, z7]) rfl ⟨?_, ?_⟩
        · rw [← show p = res from HD.out]
          rfl
        · exact grown_st8 HG.out (Nat.le_refl _) _ _ _ _ _ _ _ _
      · skip
        obtain ⟨z0, z1, z2, z3, z4, z5, z6, z7⟩ := A.cells
        simp only [Pt.none] at z0 z1 z2 z3 z4 z5 z6 z7
        have zf : ∀ i, wr.frozen? ⟨w.heap.size, i, none⟩ = false := block_free A
        obtain ⟨c0, c1, c2, c3, c4, c5, c6, c7⟩ := B.cells
        clear A B
        go_wp2
        refine bodyPost_ret (v := .agg #[.int .u8 p.wn, .int .u8 p.vb, .int .u8 p.wm, .int .i64 p.ct, .int .u8 p.su, .int .u8 p.tr, .int .u8 p.mr, .string p.nm]) (by simp [results, Tryz.results31, go_sem, z0, z1, z2, z3, z4, z5, z6, z7]) rfl ⟨?_, ?_⟩
        · rw [← show p = res from HD.out]
          rfl
        · exact grown_st8 HG.out (Nat.le_refl _) _ _ _ _ _ _ _ _
      · skip
        obtain ⟨z0, z1, z2, z3, z4, z5, z6, z7⟩ := A.cells
        simp only [Pt.none] at z0 z1 z2 z3 z4 z5 z6 z7
        have zf : ∀ i, wr.frozen? ⟨w.heap.size, i, none⟩ = false := block_free A
        obtain ⟨c0, c1, c2, c3, c4, c5, c6, c7⟩ := B.cells
        clear A B
        go_wp2
        refine bodyPost_ret (v := .agg #[.int .u8 p.wn, .int .u8 p.vb, .int .u8 p.wm, .int .i64 p.ct, .int .u8 p.su, .int .u8 p.tr, .int .u8 p.mr, .string p.nm]) (by simp [results, Tryz.results31, go_sem, z0, z1, z2, z3, z4, z5, z6, z7]) rfl ⟨?_, ?_⟩
        · rw [← show p = res from HD.out]
          rfl
        · exact grown_st8 HG.out (Nat.le_refl _) _ _ _ _ _ _ _ _
    · have hl' : (j : Int) + 3 < (n : Int) + 3 := by omega
      have hl0 : (0 : Int) ≤ (j : Int) + 3 := by omega
      obtain ⟨u, hu⟩ : ∃ u, r[j]? = some u := ⟨_, List.getElem?_eq_getElem (by rw [← HN.out]; exact hjn)⟩
      have cu : wr.cell? ⟨b, j + 3, none⟩ = some (.string u) := HX.out (j + 3) u (by simpa using hu)
      have HU : Hid ((r.drop j).map (·.data.toList) = u.data.toList :: (r.drop (j + 1)).map (·.data.toList)) := by
        have hlt := (List.getElem?_eq_some_iff.1 hu).1
        have e := (List.getElem?_eq_some_iff.1 hu).2
        rw [Hid, List.drop_eq_getElem_cons hlt, e]
        rfl
      have wj : wrap64 ((j : Int) + 3 + 1) = (j : Int) + 4 := by unfold wrap64; omega
      clear hu hl
      rcases (show k = 0 ∨ k = 1 ∨ k = 2 ∨ k = 3 ∨ k = 4 ∨ k = 5 from by omega) with rfl | rfl | rfl | rfl | rfl | rfl
      · have qk := block_cell HRR.out.at_ 0
        simp only [List.getElem?_toArray, List.getElem?_cons_zero] at qk
        cases hF : uC i1 with
        | false =>
          rw [hF] at qk
          have HD : Hid (rrF (ksF i1 i2 1) ((r.drop j).map (·.data.toList)) p = res) := by
            have h := HDD.out
            simpa [Hid, ksF, kinds, mark, hF] using h
          go_wp2
          go_roundw
          case rel => exact ⟨1, j, p, by omega, by omega, by go_num, by go_num, B, A, HRR.out, HX.out, HG.out, HD.out⟩
          case measure => simp [intOf]
        | true =>
          rw [hF] at qk
          have HD : Hid (rrF (ksF i1 i2 1) ((r.drop (j + 1)).map (·.data.toList)) (rr1 0 u.data.toList p) = res) := by
            have h := HDD.out
            rw [HU.out] at h
            simpa [Hid, ksF, kinds, mark, hF, rrF] using h
          have zf : ∀ i, wr.frozen? ⟨w.heap.size + 1, i, none⟩ = false := block_free B
          obtain ⟨c0, c1, c2, c3, c4, c5, c6, c7⟩ := B.cells
          go_wp2_with fail
          refine (number_any u _).mono ?_
          rintro e w9 ⟨rfl, hw⟩
          obtain rfl : wr = w9 := hw.symm
          go_wp2
          go_roundw
          case rel => exact ⟨1, j + 1, _, by decide, hjn, (by first | exact step_num j | (rw [wj]; exact step_num j) | go_num), by go_num, B.set3 _, grown_keep (grown_set _ _ _ _) A (by simp), HRR.out.keep (grown_set _ _ _ _) (by simp; omega), fun i t ht => cell_other (HX.out i t ht) (by omega), grown_own HG.out (grown_set _ _ _ _) (fun x hx => by cases hx; omega), HD.out⟩
          case measure => simp [intOf]
      · have qk := block_cell HRR.out.at_ 1
        simp only [List.getElem?_toArray, List.getElem?_cons_zero, List.getElem?_cons_succ] at qk
        cases hF : uS i1 i2 with
        | false =>
          rw [hF] at qk
          have HD : Hid (rrF (ksF i1 i2 2) ((r.drop j).map (·.data.toList)) p = res) := by
            have h := HDD.out
            simpa [Hid, ksF, kinds, mark, hF] using h
          go_wp2
          go_roundw
          case rel => exact ⟨2, j, p, by omega, by omega, by go_num, by go_num, B, A, HRR.out, HX.out, HG.out, HD.out⟩
          case measure => simp [intOf]
        | true =>
          rw [hF] at qk
          have HD : Hid (rrF (ksF i1 i2 2) ((r.drop (j + 1)).map (·.data.toList)) (rr1 1 u.data.toList p) = res) := by
            have h := HDD.out
            rw [HU.out] at h
            simpa [Hid, ksF, kinds, mark, hF, rrF] using h
          have zf : ∀ i, wr.frozen? ⟨w.heap.size + 1, i, none⟩ = false := block_free B
          obtain ⟨c0, c1, c2, c3, c4, c5, c6, c7⟩ := B.cells
          go_wp2_with fail
          refine (rsof_any u _).mono ?_
          rintro e w9 ⟨rfl, hw⟩
          obtain rfl : wr = w9 := hw.symm
          rw [Lib.toList_data]
          go_wp2
          go_roundw
          case rel => exact ⟨2, j + 1, _, by decide, hjn, (by first | exact step_num j | (rw [wj]; exact step_num j) | go_num), by go_num, B.set4 _, grown_keep (grown_set _ _ _ _) A (by simp), HRR.out.keep (grown_set _ _ _ _) (by simp; omega), fun i t ht => cell_other (HX.out i t ht) (by omega), grown_own HG.out (grown_set _ _ _ _) (fun x hx => by cases hx; omega), HD.out⟩
          case measure => simp [intOf]
      · have qk := block_cell HRR.out.at_ 2
        simp only [List.getElem?_toArray, List.getElem?_cons_zero, List.getElem?_cons_succ] at qk
        cases hF : uT i1 i2 with
        | false =>
          rw [hF] at qk
          have HD : Hid (rrF (ksF i1 i2 3) ((r.drop j).map (·.data.toList)) p = res) := by
            have h := HDD.out
            simpa [Hid, ksF, kinds, mark, hF] using h
          go_wp2
          go_roundw
          case rel => exact ⟨3, j, p, by omega, by omega, by go_num, by go_num, B, A, HRR.out, HX.out, HG.out, HD.out⟩
          case measure => simp [intOf]
        | true =>
          rw [hF] at qk
          have HD : Hid (rrF (ksF i1 i2 3) ((r.drop (j + 1)).map (·.data.toList)) (rr1 2 u.data.toList p) = res) := by
            have h := HDD.out
            rw [HU.out] at h
            simpa [Hid, ksF, kinds, mark, hF, rrF] using h
          have zf : ∀ i, wr.frozen? ⟨w.heap.size + 1, i, none⟩ = false := block_free B
          obtain ⟨c0, c1, c2, c3, c4, c5, c6, c7⟩ := B.cells
          go_wp2_with fail
          refine (rtof_any u _).mono ?_
          rintro e w9 ⟨rfl, g9⟩
          rw [Lib.toList_data]
          have B9 := B.keep g9
          have A9 := A.keep g9
          have G9 := grown_trans HG.out g9
          have R9 := HRR.out.keep g9 (by simp)
          have X9 : W0At w9 b (x :: y :: z :: r) := fun i t ht => g9.cell (HX.out i t ht) (by simp)
          have HB9 : Hid (PAt w9 (w.heap.size + 1) p) := B9
          have HX9 : Hid (W0At w9 b (x :: y :: z :: r)) := X9
          clear c0 c1 c2 c3 c4 c5 c6 c7 zf g9 X9 B A HX HG HRR cu
          have zf : ∀ i, w9.frozen? ⟨w.heap.size + 1, i, none⟩ = false := block_free B9
          obtain ⟨c0, c1, c2, c3, c4, c5, c6, c7⟩ := B9.cells
          go_wp2
          go_roundw
          case rel => exact ⟨3, j + 1, _, by decide, hjn, (by first | exact step_num j | (rw [wj]; exact step_num j) | go_num), by go_num, HB9.out.set5 _, grown_keep (grown_set _ _ _ _) A9 (by simp), R9.keep (grown_set _ _ _ _) (by simp; omega), fun i t ht => cell_other (HX9.out i t ht) (by omega), grown_own G9 (grown_set _ _ _ _) (fun x hx => by cases hx; omega), HD.out⟩
          case measure => simp [intOf]
      · have qk := block_cell HRR.out.at_ 3
        simp only [List.getElem?_toArray, List.getElem?_cons_zero, List.getElem?_cons_succ] at qk
        cases hF : uM i1 with
        | false =>
          rw [hF] at qk
          have HD : Hid (rrF (ksF i1 i2 4) ((r.drop j).map (·.data.toList)) p = res) := by
            have h := HDD.out
            simpa [Hid, ksF, kinds, mark, hF] using h
          go_wp2
          go_roundw
          case rel => exact ⟨4, j, p, by omega, by omega, by go_num, by go_num, B, A, HRR.out, HX.out, HG.out, HD.out⟩
          case measure => simp [intOf]
        | true =>
          rw [hF] at qk
          have HD : Hid (rrF (ksF i1 i2 4) ((r.drop (j + 1)).map (·.data.toList)) (rr1 3 u.data.toList p) = res) := by
            have h := HDD.out
            rw [HU.out] at h
            simpa [Hid, ksF, kinds, mark, hF, rrF] using h
          have zf : ∀ i, wr.frozen? ⟨w.heap.size + 1, i, none⟩ = false := block_free B
          obtain ⟨c0, c1, c2, c3, c4, c5, c6, c7⟩ := B.cells
          go_wp2_with fail
          refine (number_any u _).mono ?_
          rintro e w9 ⟨rfl, hw⟩
          obtain rfl : wr = w9 := hw.symm
          have wt : IntKind.u8.wrap (Int.tmod (numb u.data.toList) 200) = (Int.tmod (numb u.data.toList) 200) % 256 := IntKind.wrap_u8 _
          go_wp2
          go_roundw
          case rel => exact ⟨4, j + 1, _, by decide, hjn, (by first | exact step_num j | (rw [wj]; exact step_num j) | go_num), by go_num, B.set6 _, grown_keep (grown_set _ _ _ _) A (by simp), HRR.out.keep (grown_set _ _ _ _) (by simp; omega), fun i t ht => cell_other (HX.out i t ht) (by omega), grown_own HG.out (grown_set _ _ _ _) (fun x hx => by cases hx; omega), HD.out⟩
          case measure => simp [intOf]
      · have qk := block_cell HRR.out.at_ 4
        simp only [List.getElem?_toArray, List.getElem?_cons_zero, List.getElem?_cons_succ] at qk
        cases hF : uN i1 with
        | false =>
          rw [hF] at qk
          have HD : Hid (rrF (ksF i1 i2 5) ((r.drop j).map (·.data.toList)) p = res) := by
            have h := HDD.out
            simpa [Hid, ksF, kinds, mark, hF] using h
          go_wp2
          go_roundw
          case rel => exact ⟨5, j, p, by omega, by omega, by go_num, by go_num, B, A, HRR.out, HX.out, HG.out, HD.out⟩
          case measure => simp [intOf]
        | true =>
          rw [hF] at qk
          have HD : Hid (rrF (ksF i1 i2 5) ((r.drop (j + 1)).map (·.data.toList)) (rr1 4 u.data.toList p) = res) := by
            have h := HDD.out
            rw [HU.out] at h
            simpa [Hid, ksF, kinds, mark, hF, rrF] using h
          have HE : Hid (rrF (ksF i1 i2 5) ((r.drop (j + 1)).map (·.data.toList)) { p with nm := u } = res) := HD.out
          have zf : ∀ i, wr.frozen? ⟨w.heap.size + 1, i, none⟩ = false := block_free B
          obtain ⟨c0, c1, c2, c3, c4, c5, c6, c7⟩ := B.cells
          go_wp2
          go_roundw
          case rel => exact ⟨5, j + 1, _, by decide, hjn, (by first | exact step_num j | (rw [wj]; exact step_num j) | go_num), by go_num, B.set7 _, grown_keep (grown_set _ _ _ _) A (by simp), HRR.out.keep (grown_set _ _ _ _) (by simp; omega), fun i t ht => cell_other (HX.out i t ht) (by omega), grown_own HG.out (grown_set _ _ _ _) (fun x hx => by cases hx; omega), HE.out⟩
          case measure => simp [intOf]
      · have HD : Hid (p = res) := HDD.out
        clear hjn
        obtain ⟨z0, z1, z2, z3, z4, z5, z6, z7⟩ := A.cells
        simp only [Pt.none] at z0 z1 z2 z3 z4 z5 z6 z7
        have zf : ∀ i, wr.frozen? ⟨w.heap.size, i, none⟩ = false := block_free A
        obtain ⟨c0, c1, c2, c3, c4, c5, c6, c7⟩ := B.cells
        clear A B
        go_wp2
        refine bodyPost_ret (v := .agg #[.int .u8 p.wn, .int .u8 p.vb, .int .u8 p.wm, .int .i64 p.ct, .int .u8 p.su, .int .u8 p.tr, .int .u8 p.mr, .string p.nm]) (by simp [results, Tryz.results31, go_sem, z0, z1, z2, z3, z4, z5, z6, z7]) rfl ⟨?_, ?_⟩
        · rw [← show p = res from HD.out]
          rfl
        · exact grown_st8 HG.out (Nat.le_refl _) _ _ _ _ _ _ _ _
end Go.Proofs.YtpceelbphpfciaaGreatDoor
namespace Go.Proofs.YtpceelbphpfciaaGreatDoor
open Go.RowKit

/-- A numeral below 100, by its digits. -/
def itd (n : Int) : List UInt8 := if n < 0 then 45 :: dgl n.natAbs else dgl n.toNat
theorem itd_itoa {n : Int} (h : -99 ≤ n ∧ n ≤ 99) : Lib.itoa n = itd n := by
  unfold Lib.itoa itd
  split
  · rw [dec_dgl (by omega)]
  · rw [dec_dgl (by omega)]
def tellD (p : Pt) : Nat → List UInt8
  | 0 => itd p.ct
  | 1 => at1 suitW p.su
  | 2 => at1 traitW p.tr
  | 3 => itd p.mr
  | _ => p.nm.data.toList
def prtD (p : Pt) : List UInt8 := Lib.join (heads p ++ (kinds p.vb p.wm).map (tellD p)) [32]
theorem prt_D {p : Pt} (h : chk p = 0) : prt p = prtD p := by
  have M := may_of h
  unfold prt prtD wordsOf
  have e : (kinds p.vb p.wm).map (tell p) = (kinds p.vb p.wm).map (tellD p) := by
    refine List.map_congr_left fun k hk => ?_
    have hh := kinds_has hk
    have h4 := kinds_le hk
    rcases (show k = 0 ∨ k = 1 ∨ k = 2 ∨ k = 3 ∨ k = 4 from by omega) with rfl | rfl | rfl | rfl | rfl
    · have := M.ct
      rw [hh.1 rfl] at this
      exact itd_itoa this
    · rfl
    · rfl
    · have := M.mr
      rw [hh.2.2.2.1 rfl] at this
      simp only [if_true] at this
      exact itd_itoa (by omega)
    · rfl
  rw [e]
theorem prB_D {p : Pt} (h : chk p = 0) : prB p = ⟨(prtD p).toArray⟩ := by
  unfold prB
  rw [if_pos h, prt_D h]
set_option maxHeartbeats 2000000 in
set_option maxRecDepth 100000 in
theorem printed_any (p : Pt) (w : World) (L : LaidAt w) : Calls Tryz.prog 34 #[pv p] w fun e w' => e = .returned (.string (prB p)) ∧ w.grownBy w' none := by
  have hc := print_any p (w.alloc (.cells #[.int .u8 p.wn, .int .u8 p.vb, .int .u8 p.wm, .int .i64 p.ct, .int .u8 p.su, .int .u8 p.tr, .int .u8 p.mr, .string p.nm] 29)) (L.keep (World.grownBy_alloc _ _ _))
  clear L
  by_cases h : chk p = 0
  · rw [h] at hc
    obtain ⟨t, ht⟩ : ∃ t, t = prB p := ⟨_, rfl⟩
    rw [← ht] at hc ⊢
    clear ht h
    unfold pv at hc ⊢
    go_enter Tryz.func34, Tryz.ntmps34
    go_wp2_with (go_at_call 30; refine hc.mono ?_; rintro e w1 ⟨rfl, g1⟩)
    go_ret
    exact ⟨rfl, grown_trans (World.grownBy_alloc _ _ _) g1⟩
  · have e : prB p = ⟨#[]⟩ := if_neg h
    rw [e] at hc ⊢
    have hn : (chk p != 0) = true := by simpa using h
    have hb : (chk p == 0) = false := by simpa using h
    obtain ⟨c, hcc⟩ : ∃ c, c = chk p := ⟨_, rfl⟩
    rw [← hcc] at hn hb hc
    clear hcc h e
    unfold pv at hc ⊢
    go_enter Tryz.func34, Tryz.ntmps34
    go_wp2_with (go_at_call 30; refine hc.mono ?_; rintro e w1 ⟨rfl, g1⟩)
    go_ret
    exact ⟨rfl, grown_trans (World.grownBy_alloc _ _ _) g1⟩
def p1 : Pt := ⟨5, 12, 10, 0, 0, 1, 0, ⟨#[]⟩⟩
def p2 : Pt := ⟨1, 1, 3, 3, 0, 0, 0, ⟨#[]⟩⟩
theorem p1_ok : chk p1 = 0 ∧ prtD p1 = [97, 108, 119, 97, 121, 115, 32, 103, 114, 97, 110, 116, 32, 119, 105, 116, 104, 32, 102, 97, 115, 116] := by decide +kernel
theorem p2_ok : chk p2 = 0 ∧ prtD p2 = [112, 108, 97, 121, 101, 100, 32, 104, 97, 114, 109, 32, 105, 116, 32, 51] := by decide +kernel
theorem lv1 : parse (⟨#[97, 108, 119, 97, 121, 115, 32, 103, 114, 97, 110, 116, 32, 119, 105, 116, 104, 32, 102, 97, 115, 116]⟩ : ByteArray).data.toList = (p1, 0) := by
  have h := parse_prt p1_ok.1
  rw [prt_D p1_ok.1, p1_ok.2] at h
  exact h
theorem lv2 : prB p2 = ⟨#[112, 108, 97, 121, 101, 100, 32, 104, 97, 114, 109, 32, 105, 116, 32, 51]⟩ := by rw [prB_D p2_ok.1, p2_ok.2]
set_option maxHeartbeats 4000000 in
set_option maxRecDepth 100000 in
theorem lives_any (w : World) (L : LaidAt w) : Calls Tryz.prog 10 #[] w fun e w' => e = .returned (.bool true) ∧ w.grownBy w' none := by
  have HL : Hid (LaidAt w) := L
  have he := eql_part
  have hg := eqg_part
  clear L
  go_enter Tryz.func10, Tryz.ntmps10
  go_wp2_with fail
  refine (parse_any _ _ HL.out).mono ?_
  rintro e w1 ⟨rfl, g1⟩
  rw [lv1]
  simp only [pe, pv, p1]
  have A1 := PAt.new w1 p1
  have G1 := grown_push g1 (.cells #[.int .u8 p1.wn, .int .u8 p1.vb, .int .u8 p1.wm, .int .i64 p1.ct, .int .u8 p1.su, .int .u8 p1.tr, .int .u8 p1.mr, .string p1.nm] 29)
  go_wp2_with fail
  refine (printed_any p2 _ (HL.out.keep G1)).mono ?_
  rintro e w2 ⟨rfl, g2⟩
  rw [lv2]
  have A2 := A1.keep g2
  obtain ⟨c0, c1, c2, c3, c4, c5, c6, c7⟩ := A2.cells
  simp only [p1] at c0 c1 c2 c3 c4 c5 c6 c7
  have hsp : samep ⟨5, 12, 10, 0, 0, 1, 0, ⟨#[]⟩⟩ ⟨5, 12, 10, 0, 0, 1, 0, ⟨#[]⟩⟩ = true := by decide
  clear A1 A2
  go_wp2
  go_ret
  exact ⟨rfl, grown_trans G1 g2⟩
end Go.Proofs.YtpceelbphpfciaaGreatDoor
namespace Go.Proofs.YtpceelbphpfciaaGreatDoor
open Go.RowKit

theorem digs_bound : ∀ (k : Nat) (n : Int) (l : List UInt8), 0 ≤ n → 0 ≤ digs k n l ∧ digs k n l < (n + 1) * 10 ^ k
  | 0, n, l, h => by simp [digs]; omega
  | k + 1, n, [], h => by
    have h0 : (0 : Int) < 10 ^ (k + 1) := Int.pow_pos (by decide)
    have : (1 : Int) ≤ 10 ^ (k + 1) := by omega
    simp only [digs]
    refine ⟨h, ?_⟩
    have := Int.mul_le_mul_of_nonneg_left this (show 0 ≤ n + 1 by omega)
    omega
  | k + 1, n, c :: r, h => by
    simp only [digs]
    split
    · rename_i hc
      have ih := digs_bound k (10 * n + (c.toNat - 48 : Nat)) r (by omega)
      refine ⟨ih.1, Int.lt_of_lt_of_le ih.2 ?_⟩
      have : (10 * n + ((c.toNat - 48 : Nat) : Int) + 1) * 10 ^ k ≤ ((n + 1) * 10) * 10 ^ k := Int.mul_le_mul_of_nonneg_right (by omega) (Int.pow_nonneg (by decide))
      rw [Int.pow_succ, Int.mul_comm (10 ^ k) 10, ← Int.mul_assoc]
      exact this
    · have ih := digs_bound k n r h
      refine ⟨ih.1, Int.lt_of_lt_of_le ih.2 ?_⟩
      have : (n + 1) * 10 ^ k ≤ ((n + 1) * 10) * 10 ^ k := Int.mul_le_mul_of_nonneg_right (by omega) (Int.pow_nonneg (by decide))
      rw [Int.pow_succ, Int.mul_comm (10 ^ k) 10, ← Int.mul_assoc]
      exact this
theorem numb_bound (l : List UInt8) : -1000 < numb l ∧ numb l < 1000 := by
  have h := digs_bound 3 0 l (by decide)
  have e : ((0 : Int) + 1) * 10 ^ 3 = 1000 := by decide
  rw [e] at h
  unfold numb
  split <;> omega
theorem rr1_wf {p : Pt} (h : p.wf) (k : Nat) (x : List UInt8) : (rr1 k x p).wf := by
  have a : idx suitW x ≤ 6 := idx_le
  have b : idx traitW x ≤ 8 := idx_le
  have n := numb_bound x
  match k with
  | 0 => exact ⟨h.wn, h.vb, h.wm, by simp only [rr1]; omega, h.su, h.tr, h.mr⟩
  | 1 => exact ⟨h.wn, h.vb, h.wm, h.ct, by simp only [rr1]; omega, h.tr, h.mr⟩
  | 2 => exact ⟨h.wn, h.vb, h.wm, h.ct, h.su, by simp only [rr1]; omega, h.mr⟩
  | 3 => exact ⟨h.wn, h.vb, h.wm, h.ct, h.su, h.tr, by simp only [rr1]; omega⟩
  | k + 4 => exact ⟨h.wn, h.vb, h.wm, h.ct, h.su, h.tr, h.mr⟩
theorem rrF_wf : ∀ (ks : List Nat) (ws : List (List UInt8)) (p : Pt), p.wf → (rrF ks ws p).wf
  | [], _, p, h => by simpa [rrF] using h
  | _ :: _, [], p, h => by simpa [rrF] using h
  | k :: ks, x :: r, p, h => by
    simp only [rrF]
    exact rrF_wf ks r _ (rr1_wf h k x)
theorem none_wf : Pt.none.wf := ⟨by decide, by decide, by decide, by decide, by decide, by decide, by decide⟩
theorem rread_wf (ws : List (List UInt8)) : (rread ws).wf := by
  match ws with
  | [] => exact none_wf
  | [_] => exact none_wf
  | [_, _] => exact none_wf
  | a :: b :: c :: r =>
    simp only [rread]
    have ha : idx whenW a ≤ 6 := idx_le
    have hb : idx verbW b ≤ 19 := idx_le
    have hc : idx whomW c ≤ 10 := idx_le
    exact rrF_wf _ _ _ ⟨by simp only; omega, by simp only; omega, by simp only; omega, none_wf.ct, none_wf.su, none_wf.tr, none_wf.mr⟩
theorem three_of : ∀ {l : List (List UInt8)}, ¬ l.length < 3 → ∃ x y z r, l = x :: y :: z :: r
  | [], h => absurd (by decide) h
  | [_], h => absurd (by simp) h
  | [_, _], h => absurd (by simp) h
  | x :: y :: z :: r, _ => ⟨x, y, z, r, rfl⟩
set_option maxHeartbeats 2000000 in
set_option maxRecDepth 100000 in
theorem rread_short (p : Option Addr) (c n : Nat) (h : n < 3) (w : World) :
    Calls Tryz.prog 31 #[.slice p n c] w fun e w' => e = .returned (pv Pt.none) ∧ w.grownBy w' none := by
  have hlt : (n : Int) < 3 := by omega
  clear h
  go_enter Tryz.func31, Tryz.ntmps31
  go_wp2
  refine bodyPost_ret (v := .agg #[.int .u8 0, .int .u8 0, .int .u8 0, .int .i64 0, .int .u8 0, .int .u8 0, .int .u8 0, .string ⟨#[]⟩]) (by simp [results, Tryz.results31, go_sem]) rfl ⟨?_, ?_⟩
  · rfl
  · exact grown_push (World.grownBy_alloc _ _ _) _
theorem rread_own (l : List (List UInt8)) (hl : l.length ≤ 1000) (v : Value) (base : Nat) (w : World) (O : Own w base 9 v (pcs l)) : Calls Tryz.prog 31 #[v] w fun e w' => e = .returned (pv (rread l)) ∧ w.grownBy w' none := by
  have short : l.length < 3 → rread l = Pt.none := fun h => by
    match l, h with
    | [], _ => rfl
    | [_], _ => rfl
    | [_, _], _ => rfl
  rcases O.at with ⟨rfl, e⟩ | ⟨g, cap, rfl, _, hg, _, hc⟩
  · have : l = [] := by simpa [pcs] using e
    subst this
    exact rread_short _ _ _ (by decide) w
  · rw [length_pcs]
    by_cases h : l.length < 3
    · rw [short h]
      exact rread_short _ _ _ h w
    · obtain ⟨x, y, z, r, rfl⟩ := three_of h
      have X : W0At w g ((⟨x.toArray⟩ : ByteArray) :: ⟨y.toArray⟩ :: ⟨z.toArray⟩ :: r.map fun t => (⟨t.toArray⟩ : ByteArray)) := fun i t ht => by
        refine (hc i _ ?_).1
        have : (pcs (x :: y :: z :: r))[i]? = (((⟨x.toArray⟩ : ByteArray) :: ⟨y.toArray⟩ :: ⟨z.toArray⟩ :: r.map fun t => (⟨t.toArray⟩ : ByteArray)).map Value.string)[i]? := by simp [pcs, Function.comp_def]
        rw [this, List.getElem?_map, ht]
        rfl
      have k := rread_long g cap ⟨x.toArray⟩ ⟨y.toArray⟩ ⟨z.toArray⟩ (r.map fun t => (⟨t.toArray⟩ : ByteArray)) (by simp at hl ⊢; omega) w hg X
      rw [List.length_map] at k
      have e : (r.map fun t => (⟨t.toArray⟩ : ByteArray)).map (·.data.toList) = r := by simp [Function.comp_def]
      rw [e] at k
      exact k
set_option maxHeartbeats 4000000 in
set_option maxRecDepth 100000 in
theorem rparse_long (s : ByteArray) (h : 80 < s.size) (w : World) : Calls Tryz.prog 9 #[.string s] w fun e w' => e = .returned (pe (Pt.none, 3)) ∧ w.grownBy w' none := by
  have hb : (80 : Int) < (s.size : Int) := by omega
  clear h
  go_enter Tryz.func9, Tryz.ntmps9
  go_wp2
  refine bodyPost_ret (v := .tuple #[.agg #[.int .u8 0, .int .u8 0, .int .u8 0, .int .i64 0, .int .u8 0, .int .u8 0, .int .u8 0, .string ⟨#[]⟩], .int .i64 3]) (by simp [results, Tryz.results9, go_sem]) rfl ⟨?_, ?_⟩
  · rfl
  · exact World.grownBy_alloc _ _ _
set_option maxHeartbeats 4000000 in
set_option maxRecDepth 100000 in
theorem rparse_bad (s : ByteArray) (h : s.size ≤ 80) (p2 : Pt) (hr : rread (pieces s.data.toList) = p2) (hc : ¬ chk p2 = 0) (w : World) : Calls Tryz.prog 9 #[.string s] w fun e w' => e = .returned (pe (Pt.none, 150)) ∧ w.grownBy w' none := by
  have hb : ¬ (80 : Int) < (s.size : Int) := by omega
  have HS : Hid (s.size ≤ 80) := h
  have HR : Hid (rread (pieces s.data.toList) = p2) := hr
  have HW : Hid (p2.wf) := by unfold Hid; rw [← hr]; exact rread_wf _
  clear h hr
  go_enter Tryz.func9, Tryz.ntmps9
  go_wp2_with fail
  have Za := PAt.new w Pt.none
  have Ga := World.grownBy_alloc w (.cells #[.int .u8 0, .int .u8 0, .int .u8 0, .int .i64 0, .int .u8 0, .int .u8 0, .int .u8 0, .string ⟨#[]⟩] 29) none
  refine (rpieces_any s (by have := HS.out; omega) _).mono ?_
  rintro e W1 ⟨v, rfl, O1, g1⟩
  have Z1 := Za.keep g1
  have G1 := grown_trans Ga g1
  have HO : Hid (Own W1 _ 9 v (pcs (pieces s.data.toList))) := O1
  clear Za Ga g1 O1
  go_wp2_with fail
  refine (rread_own _ (by have := pieces_len s.data.toList; have := HS.out; rw [Lib.size_eq] at this; omega) v _ W1 HO.out).mono ?_
  rintro e W2 ⟨rfl, g2⟩
  rw [HR.out]
  simp only [pv]
  have Z3 := (Z1.keep g2).keep (World.grownBy_alloc _ (.cells #[.int .u8 p2.wn, .int .u8 p2.vb, .int .u8 p2.wm, .int .i64 p2.ct, .int .u8 p2.su, .int .u8 p2.tr, .int .u8 p2.mr, .string p2.nm] 29) none)
  have A3 := PAt.new W2 p2
  have G3 := grown_push (grown_trans G1 g2) (.cells #[.int .u8 p2.wn, .int .u8 p2.vb, .int .u8 p2.wm, .int .i64 p2.ct, .int .u8 p2.su, .int .u8 p2.tr, .int .u8 p2.mr, .string p2.nm] 29)
  have l2 : w.heap.size < W2.heap.size := block_lt (Z1.keep g2)
  go_wp2_with fail
  obtain ⟨W3, hW3⟩ : ∃ W3, W3 = W2.alloc (.cells #[.int .u8 p2.wn, .int .u8 p2.vb, .int .u8 p2.wm, .int .i64 p2.ct, .int .u8 p2.su, .int .u8 p2.tr, .int .u8 p2.mr, .string p2.nm] 29) := ⟨_, rfl⟩
  rw [← hW3] at Z3 A3 G3 ⊢
  obtain ⟨q, hq⟩ : ∃ q, q = W2.heap.size := ⟨_, rfl⟩
  rw [← hq] at A3 l2 ⊢
  clear Z1 G1 g2 hW3 hq
  refine (rprint_any p2 HW.out W3).mono ?_
  rintro e W4 ⟨rfl, g4⟩
  have Z4 := Z3.keep g4
  have A4 := A3.keep g4
  have G4 := grown_trans G3 g4
  clear Z3 A3 G3 g4
  obtain ⟨c0, c1, c2, c3, c4, c5, c6, c7⟩ := A4.cells
  obtain ⟨z0, z1, z2, z3, z4, z5, z6, z7⟩ := Z4.cells
  have zf : ∀ i, W4.frozen? ⟨w.heap.size, i, none⟩ = false := block_free Z4
  simp only [Pt.none] at z0 z1 z2 z3 z4 z5 z6 z7
  obtain ⟨c, hcc⟩ : ∃ c, c = chk p2 := ⟨_, rfl⟩
  rw [← hcc] at hc ⊢
  have hn : (c != 0) = true := by simpa using hc
  have hn' : (c == 0) = false := by simpa using hc
  obtain ⟨t, ht⟩ : ∃ t, t = prB p2 := ⟨_, rfl⟩
  rw [← ht]
  clear hcc hc ht
  clear A4 Z4
  go_wp2
  refine bodyPost_ret (v := .tuple #[.agg #[.int .u8 0, .int .u8 0, .int .u8 0, .int .i64 0, .int .u8 0, .int .u8 0, .int .u8 0, .string ⟨#[]⟩], .int .i64 150]) (by simp [results, Tryz.results9, go_sem, z0, z1, z2, z3, z4, z5, z6, z7]) rfl ⟨?_, ?_⟩
  · rfl
  · exact grown_st8 G4 (Nat.le_refl _) _ _ _ _ _ _ _ _
set_option maxHeartbeats 4000000 in
set_option maxRecDepth 100000 in
theorem rparse_else (s : ByteArray) (h : s.size ≤ 80) (p2 : Pt) (hr : rread (pieces s.data.toList) = p2) (hc : chk p2 = 0) (hx : ¬ prt p2 = s.data.toList) (w : World) : Calls Tryz.prog 9 #[.string s] w fun e w' => e = .returned (pe (Pt.none, 150)) ∧ w.grownBy w' none := by
  have hb : ¬ (80 : Int) < (s.size : Int) := by omega
  have HS : Hid (s.size ≤ 80) := h
  have HR : Hid (rread (pieces s.data.toList) = p2) := hr
  have HW : Hid (p2.wf) := by unfold Hid; rw [← hr]; exact rread_wf _
  clear h hr
  go_enter Tryz.func9, Tryz.ntmps9
  go_wp2_with fail
  have Za := PAt.new w Pt.none
  have Ga := World.grownBy_alloc w (.cells #[.int .u8 0, .int .u8 0, .int .u8 0, .int .i64 0, .int .u8 0, .int .u8 0, .int .u8 0, .string ⟨#[]⟩] 29) none
  refine (rpieces_any s (by have := HS.out; omega) _).mono ?_
  rintro e W1 ⟨v, rfl, O1, g1⟩
  have Z1 := Za.keep g1
  have G1 := grown_trans Ga g1
  have HO : Hid (Own W1 _ 9 v (pcs (pieces s.data.toList))) := O1
  clear Za Ga g1 O1
  go_wp2_with fail
  refine (rread_own _ (by have := pieces_len s.data.toList; have := HS.out; rw [Lib.size_eq] at this; omega) v _ W1 HO.out).mono ?_
  rintro e W2 ⟨rfl, g2⟩
  rw [HR.out]
  simp only [pv]
  have Z3 := (Z1.keep g2).keep (World.grownBy_alloc _ (.cells #[.int .u8 p2.wn, .int .u8 p2.vb, .int .u8 p2.wm, .int .i64 p2.ct, .int .u8 p2.su, .int .u8 p2.tr, .int .u8 p2.mr, .string p2.nm] 29) none)
  have A3 := PAt.new W2 p2
  have G3 := grown_push (grown_trans G1 g2) (.cells #[.int .u8 p2.wn, .int .u8 p2.vb, .int .u8 p2.wm, .int .i64 p2.ct, .int .u8 p2.su, .int .u8 p2.tr, .int .u8 p2.mr, .string p2.nm] 29)
  have l2 : w.heap.size < W2.heap.size := block_lt (Z1.keep g2)
  go_wp2_with fail
  obtain ⟨W3, hW3⟩ : ∃ W3, W3 = W2.alloc (.cells #[.int .u8 p2.wn, .int .u8 p2.vb, .int .u8 p2.wm, .int .i64 p2.ct, .int .u8 p2.su, .int .u8 p2.tr, .int .u8 p2.mr, .string p2.nm] 29) := ⟨_, rfl⟩
  rw [← hW3] at Z3 A3 G3 ⊢
  obtain ⟨q, hq⟩ : ∃ q, q = W2.heap.size := ⟨_, rfl⟩
  rw [← hq] at A3 l2 ⊢
  clear Z1 G1 g2 hW3 hq
  refine (rprint_any p2 HW.out W3).mono ?_
  rintro e W4 ⟨rfl, g4⟩
  have Z4 := Z3.keep g4
  have A4 := A3.keep g4
  have G4 := grown_trans G3 g4
  clear Z3 A3 G3 g4
  obtain ⟨c0, c1, c2, c3, c4, c5, c6, c7⟩ := A4.cells
  obtain ⟨z0, z1, z2, z3, z4, z5, z6, z7⟩ := Z4.cells
  have zf : ∀ i, W4.frozen? ⟨w.heap.size, i, none⟩ = false := block_free Z4
  simp only [Pt.none] at z0 z1 z2 z3 z4 z5 z6 z7
  rw [hc]
  obtain ⟨t, ht⟩ : ∃ t, t = prB p2 := ⟨_, rfl⟩
  have hts : t.toList = prt p2 := by
    rw [ht, Lib.toList_data]
    unfold prB
    rw [if_pos hc]
  rw [← ht]
  have hn : (t.toList == s.toList) = false := by
    rw [hts, Lib.toList_data]
    simpa using hx
  have hn' : (t.toList != s.toList) = true := by simp only [bne, hn]; rfl
  clear ht hts hx hc
  clear A4 Z4
  go_wp2
  refine bodyPost_ret (v := .tuple #[.agg #[.int .u8 0, .int .u8 0, .int .u8 0, .int .i64 0, .int .u8 0, .int .u8 0, .int .u8 0, .string ⟨#[]⟩], .int .i64 150]) (by simp [results, Tryz.results9, go_sem, z0, z1, z2, z3, z4, z5, z6, z7]) rfl ⟨?_, ?_⟩
  · rfl
  · exact grown_st8 G4 (Nat.le_refl _) _ _ _ _ _ _ _ _
set_option maxHeartbeats 4000000 in
set_option maxRecDepth 100000 in
theorem rparse_good (s : ByteArray) (h : s.size ≤ 80) (p2 : Pt) (hr : rread (pieces s.data.toList) = p2) (hc : chk p2 = 0) (hx : prt p2 = s.data.toList) (w : World) : Calls Tryz.prog 9 #[.string s] w fun e w' => e = .returned (pe (p2, 0)) ∧ w.grownBy w' none := by
  have hb : ¬ (80 : Int) < (s.size : Int) := by omega
  have HS : Hid (s.size ≤ 80) := h
  have HR : Hid (rread (pieces s.data.toList) = p2) := hr
  have HW : Hid (p2.wf) := by unfold Hid; rw [← hr]; exact rread_wf _
  clear h hr
  go_enter Tryz.func9, Tryz.ntmps9
  go_wp2_with fail
  have Za := PAt.new w Pt.none
  have Ga := World.grownBy_alloc w (.cells #[.int .u8 0, .int .u8 0, .int .u8 0, .int .i64 0, .int .u8 0, .int .u8 0, .int .u8 0, .string ⟨#[]⟩] 29) none
  refine (rpieces_any s (by have := HS.out; omega) _).mono ?_
  rintro e W1 ⟨v, rfl, O1, g1⟩
  have Z1 := Za.keep g1
  have G1 := grown_trans Ga g1
  have HO : Hid (Own W1 _ 9 v (pcs (pieces s.data.toList))) := O1
  clear Za Ga g1 O1
  go_wp2_with fail
  refine (rread_own _ (by have := pieces_len s.data.toList; have := HS.out; rw [Lib.size_eq] at this; omega) v _ W1 HO.out).mono ?_
  rintro e W2 ⟨rfl, g2⟩
  rw [HR.out]
  simp only [pv]
  have Z3 := (Z1.keep g2).keep (World.grownBy_alloc _ (.cells #[.int .u8 p2.wn, .int .u8 p2.vb, .int .u8 p2.wm, .int .i64 p2.ct, .int .u8 p2.su, .int .u8 p2.tr, .int .u8 p2.mr, .string p2.nm] 29) none)
  have A3 := PAt.new W2 p2
  have G3 := grown_push (grown_trans G1 g2) (.cells #[.int .u8 p2.wn, .int .u8 p2.vb, .int .u8 p2.wm, .int .i64 p2.ct, .int .u8 p2.su, .int .u8 p2.tr, .int .u8 p2.mr, .string p2.nm] 29)
  have l2 : w.heap.size < W2.heap.size := block_lt (Z1.keep g2)
  go_wp2_with fail
  obtain ⟨W3, hW3⟩ : ∃ W3, W3 = W2.alloc (.cells #[.int .u8 p2.wn, .int .u8 p2.vb, .int .u8 p2.wm, .int .i64 p2.ct, .int .u8 p2.su, .int .u8 p2.tr, .int .u8 p2.mr, .string p2.nm] 29) := ⟨_, rfl⟩
  rw [← hW3] at Z3 A3 G3 ⊢
  obtain ⟨q, hq⟩ : ∃ q, q = W2.heap.size := ⟨_, rfl⟩
  rw [← hq] at A3 l2 ⊢
  clear Z1 G1 g2 hW3 hq
  refine (rprint_any p2 HW.out W3).mono ?_
  rintro e W4 ⟨rfl, g4⟩
  have Z4 := Z3.keep g4
  have A4 := A3.keep g4
  have G4 := grown_trans G3 g4
  clear Z3 A3 G3 g4
  obtain ⟨c0, c1, c2, c3, c4, c5, c6, c7⟩ := A4.cells
  obtain ⟨z0, z1, z2, z3, z4, z5, z6, z7⟩ := Z4.cells
  have zf : ∀ i, W4.frozen? ⟨w.heap.size, i, none⟩ = false := block_free Z4
  simp only [Pt.none] at z0 z1 z2 z3 z4 z5 z6 z7
  rw [hc]
  obtain ⟨t, ht⟩ : ∃ t, t = prB p2 := ⟨_, rfl⟩
  have hts : t.toList = prt p2 := by
    rw [ht, Lib.toList_data]
    unfold prB
    rw [if_pos hc]
  rw [← ht]
  have hn : (t.toList == s.toList) = true := by
    rw [hts, Lib.toList_data]
    simpa using hx
  have hn' : (t.toList != s.toList) = false := by simp only [bne, hn]; rfl
  clear ht hts hx hc
  clear A4 Z4
  go_wp2
  refine bodyPost_ret (v := .tuple #[.agg #[.int .u8 p2.wn, .int .u8 p2.vb, .int .u8 p2.wm, .int .i64 p2.ct, .int .u8 p2.su, .int .u8 p2.tr, .int .u8 p2.mr, .string p2.nm], .int .i64 0]) (by simp [results, Tryz.results9, go_sem, z0, z1, z2, z3, z4, z5, z6, z7]) rfl ⟨?_, ?_⟩
  · rfl
  · exact grown_st8 G4 (Nat.le_refl _) _ _ _ _ _ _ _ _
/-- Of every text. -/
theorem rparse_any (s : ByteArray) (w : World) : Calls Tryz.prog 9 #[.string s] w fun e w' => e = .returned (pe (rparse s.data.toList)) ∧ w.grownBy w' none := by
  have hl := Lib.size_eq s
  unfold rparse
  by_cases h : 80 < s.size
  · rw [if_pos (by omega)]
    exact rparse_long s h w
  · rw [if_neg (by omega)]
    by_cases hc : chk (rread (pieces s.data.toList)) = 0
    · by_cases hx : prt (rread (pieces s.data.toList)) = s.data.toList
      · rw [if_pos ⟨hc, hx⟩]
        exact rparse_good s (by omega) _ rfl hc hx w
      · rw [if_neg (fun e => hx e.2)]
        exact rparse_else s (by omega) _ rfl hc hx w
    · rw [if_neg (fun e => hc e.1)]
      exact rparse_bad s (by omega) _ rfl hc w
end Go.Proofs.YtpceelbphpfciaaGreatDoor
