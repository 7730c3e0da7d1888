/-
  fill of package void.
  fill of package gold.
  fill of any of the six; sealedOf of the six in any order.
  sealedOf of the six in any order.
  The table of the six.
-/
import Derived.Test.YtknlcjhcamhfmaaGreatDoorJ36
import Derived.Test.YtknlcjhcamhfmaaGreatDoorJ28
import Derived.Test.YtknlcjhcamhfmaaGreatDoorJ34
import Derived.Laws.EntriesVeiled
import Derived.Deep.RegionHeld3
import Derived.Test.YtknlcjhcamhfmaaGreatDoorJ37
import Derived.Test.YtknlcjhcamhfmaaGreatDoorJ38
import Derived.Test.YtknlcjhcamhfmaaGreatDoorJ27
import Derived.Laws.Tables
import Derived.Deep.MidRow
import Derived.Great.BuildSlice
namespace Go.Proofs.YtknlcjhcamhfmaaGreatDoor
open Go.RowKit

set_option maxRecDepth 100000 in
set_option maxHeartbeats 8000000 in
theorem fill_4 (ok : Nat → Prop) (b : Nat) (es : List Ent) (p q : Pl) (d : List (Hd × List Pt)) (w : World) (B : Book ok w b es p) (hok : ¬ ok b) (hnew : ∀ n, w.heap.size ≤ n → ok n) (N : NamesAt w) (h0 : ¬ b = 0) (hS : stepOk 4 p q) (hq : q.shut = false) (hE : (es.map hp).Perm d) (hN : ((d ++ sCs 4).map fun x => x.1.nm).Nodup) (h64 : d.length + 6 ≤ 64) : Calls Tryz.prog 104 #[.pointer (some ⟨b, 0, none⟩), .agg #[.string ⟨#[118, 111, 105, 100]⟩, .func (.func 95) #[] #[], .func (.func 96) #[] #[], .func (.func 97) #[] #[], .func (.func 98) #[] #[]]] w fun e w' => e = .returned (.int .i64 0) ∧ ∃ es', Book ok w' b es' q ∧ (es'.map hp).Perm (d ++ sCs 4) ∧ w.grownBy w' (some b) := by
  have hmf : ∀ (fn : Fn) (first cap : Array Value) (w : World), (Instr.makeFunc fn first cap).run Tryz.prog w = .ok (.func fn first cap) w := fun _ _ _ _ => rfl
  have HB : Hid (Book ok w b es p) := B
  have HN : Hid (NamesAt w) := N
  have HW : Hid (∀ n, w.heap.size ≤ n → ok n) := hnew
  have HE : Hid ((es.map hp).Perm d) := hE
  have HNo : Hid (((d ++ sCs 4).map fun x => x.1.nm).Nodup) := hN
  have HS : Hid (stepOk 4 p q) := hS
  have HQ : Hid (q.shut = false) := hq
  have H64 : Hid (d.length + 6 ≤ 64) := h64
  have hbw : b < w.heap.size := B.lt
  clear B N hnew hE hN hS hq h64
  obtain ⟨X, hX⟩ : ∃ X, X = w.heap.size := ⟨_, rfl⟩
  obtain ⟨W2, hW2⟩ : ∃ W2, W2 = (w.alloc (.cells #[.pointer (some ⟨b, 0, none⟩)] 24)).alloc (.cells #[.string ⟨#[118, 111, 105, 100]⟩, .func (.func 95) #[] #[], .func (.func 96) #[] #[], .func (.func 97) #[] #[], .func (.func 98) #[] #[]] 83) := ⟨_, rfl⟩
  have G2 : w.grownBy W2 none := by rw [hW2]; exact grown_push (World.grownBy_alloc _ _ none) _
  have X2 : W2.heap[X]? = some (.cells #[.pointer (some ⟨b, 0, none⟩)] 24 (0, 0)) := by rw [hW2, hX]; exact grown_keep (World.grownBy_alloc _ _ none) (alloc_at w _ _) (by simp)
  have Y2 : W2.heap[X + 1]? = some (.cells #[.string ⟨#[118, 111, 105, 100]⟩, .func (.func 95) #[] #[], .func (.func 96) #[] #[], .func (.func 97) #[] #[], .func (.func 98) #[] #[]] 83 (0, 0)) := by
    have := alloc_at (w.alloc (.cells #[.pointer (some ⟨b, 0, none⟩)] 24)) #[.string ⟨#[118, 111, 105, 100]⟩, .func (.func 95) #[] #[], .func (.func 96) #[] #[], .func (.func 97) #[] #[], .func (.func 98) #[] #[]] 83
    rw [World.size_alloc] at this
    rw [hW2, hX]
    exact this
  have x0 : W2.cell? ⟨X, 0, none⟩ = some (.pointer (some ⟨b, 0, none⟩)) := block_cell X2 0
  have y1 : W2.cell? ⟨X + 1, 1, none⟩ = some (.func (.func 95) #[] #[]) := block_cell Y2 1
  have y2 : W2.cell? ⟨X + 1, 2, none⟩ = some (.func (.func 96) #[] #[]) := block_cell Y2 2
  have y3 : W2.cell? ⟨X + 1, 3, none⟩ = some (.func (.func 97) #[] #[]) := block_cell Y2 3
  have HG2 : Hid (w.grownBy W2 none) := G2
  have HX0 : Hid (W2.cell? ⟨X, 0, none⟩ = some (.pointer (some ⟨b, 0, none⟩))) := x0
  have HY1 : Hid (W2.cell? ⟨X + 1, 1, none⟩ = some (.func (.func 95) #[] #[])) := y1
  have HY2 : Hid (W2.cell? ⟨X + 1, 2, none⟩ = some (.func (.func 96) #[] #[])) := y2
  have hxb : ¬ X = b := by omega
  have hyb : ¬ X + 1 = b := by omega
  have H0 : W2.grownBy W2.drew (some b) := grown_drew' _ _
  have HBd : Hid (Book ok W2.drew b es p) := (HB.out.keep G2).keep (grown_drew _)
  clear X2 Y2 y1 y2 G2
  go_enter Tryz.func104, Tryz.ntmps104
  go_upto_region 1 with fail
  rw [← hX, ← hW2]
  have HXs : Hid (X = w.heap.size) := hX
  clear hW2 hX
  refine wp_region_held_drew (S := fun w' => W2.grownBy w' (some b)) (by kernel_rfl) H0 (fun hHeld => ?_)
  refine wpAnyH_take (i := 0) (v := ?_) rfl (by kernel_rfl) (by kernel_rfl) (by kernel_rfl) (fun _ _ _ h => h) (Or.inl ⟨by rfl, ?_⟩) (by assumption) ?_
  rotate_left 1
  · (intro w0 hSw; go_simp; try with_reducible rfl)
  simp only [List.getElem_toArray, List.getElem_cons_zero]
  go_frame
  refine wpAnyH_take (i := 1) (v := ?_) rfl (by kernel_rfl) (by kernel_rfl) (by kernel_rfl) (fun _ _ _ h => h) (Or.inl ⟨by rfl, ?_⟩) (by assumption) ?_
  rotate_left 1
  · (intro w0 hSw; have a9 := World.grownBy.cell hSw y3 (by simpa using hyb); go_simp; try with_reducible rfl)
  simp only [List.getElem_toArray, List.getElem_cons_zero, List.getElem_cons_succ]
  go_frame
  refine wpAnyH_take (i := 3) (v := ?_) rfl (by kernel_rfl) (by kernel_rfl) (by kernel_rfl) (fun _ _ _ h => h) (Or.inl ⟨by rfl, ?_⟩) (by assumption) ?_
  rotate_left 1
  · (intro w0 hSw; have a9 := World.grownBy.cell hSw x0 (by simpa using hxb); go_simp; try with_reducible rfl)
  simp only [List.getElem_toArray, List.getElem_cons_zero, List.getElem_cons_succ]
  go_frame
  refine wpAnyH_take (i := 4) (v := ?_) rfl (by kernel_rfl) (by kernel_rfl) (by kernel_rfl) (fun _ _ _ h => h) (Or.inl ⟨by rfl, ?_⟩) (by assumption) ?_
  rotate_left 1
  · (intro w0 hSw; go_simp; try with_reducible rfl)
  simp only [List.getElem_toArray, List.getElem_cons_zero, List.getElem_cons_succ]
  go_frame
  refine wpAnyH_ready (rs := [2]) (by kernel_rfl) (by simp) ?_
  refine AllReadyH.cons rfl (fun K hK => ?_) AllReadyH.nil
  simp only [List.getElem_toArray, List.getElem_cons_zero, List.getElem_cons_succ]
  go_simp
  go_at_call 97
  refine (Vo.marks W2.drew).mono ?_
  rintro e U3 ⟨rfl, h3⟩
  have g3 : W2.drew.grownBy U3 none := by rw [h3]; exact World.grownBy_alloc _ _ none
  have m3 : MsAt U3 b (.slice (some ⟨W2.drew.heap.size, 0, none⟩) 1 1) (sMs 4) := ⟨_, rfl, fun _ => ⟨_, rfl, fun e => by have := HG2.out.size; have := (grown_drew W2).size; omega, by rw [h3]; exact alloc_at _ _ _⟩⟩
  clear h3
  refine hK.out _ _ (grown_own' (grown_trans (grown_drew _) g3) (grown_refl _ _)) (fun hHeld2 => ?_)
  clear hK K
  (try go_frame)
  refine wpAnyH_ready (rs := [5]) (by kernel_rfl) (by simp) ?_
  refine AllReadyH.cons rfl (fun K hK => ?_) AllReadyH.nil
  simp only [List.getElem_toArray, List.getElem_cons_zero, List.getElem_cons_succ]
  go_simp
  go_at_call 183
  refine (addM_any ok b es p (sMs 4) _ U3 (HBd.out.keep g3) hok m3 HS.out.1 (by decide)).mono ?_
  rintro e U4 ⟨rfl, B4, g4⟩
  refine hK.out _ _ (grown_own' (grown_trans (grown_drew _) g3) g4) (fun hHeld2 => ?_)
  clear hK K
  (try go_frame)
  refine wpAnyH_take (i := 6) (v := ?_) rfl (by kernel_rfl) (by kernel_rfl) (by kernel_rfl) (fun _ _ _ h => h) (Or.inl ⟨by rfl, ?_⟩) (by assumption) ?_
  rotate_left 1
  · (intro w0 hSw; go_simp; try with_reducible rfl)
  simp only [List.getElem_toArray, List.getElem_cons_zero, List.getElem_cons_succ]
  go_frame
  refine wpAnyH_done (by kernel_rfl) ?_ _
  have HB4 : Hid (Book ok U4 b es (pMs p (sMs 4))) := B4
  have HG4 : Hid (W2.grownBy U4 (some b)) := grown_own' (grown_trans (grown_drew _) g3) g4
  clear B4 g4 g3 m3 hHeld hHeld2 H0 HBd x0 y3 HB
  have y2 := HG4.out.cell HY2.out (by simpa using hyb)
  go_wp2_with fail
  refine (Vo.traits U4).mono ?_
  rintro e U5 ⟨rfl, h5⟩
  have g5 : U4.grownBy U5 none := by rw [h5]; exact World.grownBy_alloc _ _ none
  have t5 : TsAt U5 b (.slice (some ⟨U4.heap.size, 0, none⟩) 1 1) (sTs 4) := ⟨_, rfl, fun _ => ⟨_, rfl, fun e => by have := HG2.out.size; have := HG4.out.size; omega, by rw [h5]; exact alloc_at _ _ _⟩⟩
  have CT := addT_any ok b X es (pMs p (sMs 4)) (sTs 4) _ U5 (HB4.out.keep g5) hok (((HN.out.keep HG2.out).keepR HG4.out (by simpa using fun e => h0 e.symm)).keep g5) h0 (g5.cell (HG4.out.cell HX0.out (by simpa using hxb)) (by simp)) hxb t5 HS.out.2.1 (by decide)
  rw [HS.out.2.2] at CT
  clear y2 h5 t5
  go_wp2_with fail
  refine CT.mono ?_
  rintro e U6 ⟨rfl, B6, g6⟩
  have HB6 : Hid (Book ok U6 b es q) := B6
  have HG6 : Hid (W2.grownBy U6 (some b)) := HG4.out.trans (grown_own' g5 g6)
  clear B6 g6 g5 CT HB4 HG4
  have y1 := HG6.out.cell HY1.out (by simpa using hyb)
  have x0 := HG6.out.cell HX0.out (by simpa using hxb)
  have H0 : U6.grownBy U6.drew (some b) := grown_drew' _ _
  go_upto_region 8 with fail
  refine wp_region_held_drew (S := fun w' => U6.grownBy w' (some b)) (by kernel_rfl) H0 (fun hHeld => ?_)
  refine wpAnyH_take (i := 0) (v := ?_) rfl (by kernel_rfl) (by kernel_rfl) (by kernel_rfl) (fun _ _ _ h => h) (Or.inl ⟨by rfl, ?_⟩) (by assumption) ?_
  rotate_left 1
  · (intro w0 hSw; go_simp; try with_reducible rfl)
  simp only [List.getElem_toArray, List.getElem_cons_zero]
  go_frame
  refine wpAnyH_take (i := 1) (v := ?_) rfl (by kernel_rfl) (by kernel_rfl) (by kernel_rfl) (fun _ _ _ h => h) (Or.inl ⟨by rfl, ?_⟩) (by assumption) ?_
  rotate_left 1
  · (intro w0 hSw; have a9 := World.grownBy.cell hSw y1 (by simpa using hyb); go_simp; try with_reducible rfl)
  simp only [List.getElem_toArray, List.getElem_cons_zero, List.getElem_cons_succ]
  go_frame
  refine wpAnyH_take (i := 3) (v := ?_) rfl (by kernel_rfl) (by kernel_rfl) (by kernel_rfl) (fun _ _ _ h => h) (Or.inl ⟨by rfl, ?_⟩) (by assumption) ?_
  rotate_left 1
  · (intro w0 hSw; have a9 := World.grownBy.cell hSw x0 (by simpa using hxb); go_simp; try with_reducible rfl)
  simp only [List.getElem_toArray, List.getElem_cons_zero, List.getElem_cons_succ]
  go_frame
  refine wpAnyH_take (i := 4) (v := ?_) rfl (by kernel_rfl) (by kernel_rfl) (by kernel_rfl) (fun _ _ _ h => h) (Or.inl ⟨by rfl, ?_⟩) (by assumption) ?_
  rotate_left 1
  · (intro w0 hSw; go_simp; try with_reducible rfl)
  simp only [List.getElem_toArray, List.getElem_cons_zero, List.getElem_cons_succ]
  go_frame
  refine wpAnyH_ready (rs := [2]) (by kernel_rfl) (by simp) ?_
  refine AllReadyH.cons rfl (fun K hK => ?_) AllReadyH.nil
  simp only [List.getElem_toArray, List.getElem_cons_zero, List.getElem_cons_succ]
  go_simp
  go_at_call 95
  refine (Vo.list_std U6.drew).mono ?_
  rintro e U7 ⟨g, cs, rfl, A⟩
  have hcl : cs.length = 6 := by have h9 := congrArg List.length A.is; rw [List.length_map] at h9; exact h9
  have szU : X ≤ U6.drew.heap.size := by have h6 := HXs.out; have h7 := HG2.out.size; have h8 := HG6.out.size; have h9 := (grown_drew U6).size; omega
  have CC := addC_any ok b g U6.drew.heap.size es cs q (sCs 4) d U7 ((HB6.out.keep (grown_drew _)).keep A.gr) hok (fun n hn => HW.out n (by have h6 := HXs.out; have h9 := A.gr.size; omega)) (fun e => by have h6 := HXs.out; have h9 := A.low; omega) A.lies A.is A.own (by have h6 := HXs.out; omega) HE.out HNo.out (fun x hx => cAll_chk x (sCs_mem (by decide) hx)) (by rw [show (sCs 4).length = 6 from rfl]; exact H64.out) (fun x hx => cAll_four x (sCs_mem (by decide) hx)) HQ.out
  rw [hcl] at CC
  refine hK.out _ _ (grown_own' (grown_trans (grown_drew _) A.gr) (grown_refl _ _)) (fun hHeld2 => ?_)
  clear hK K
  (try go_frame)
  refine wpAnyH_ready (rs := [5]) (by kernel_rfl) (by simp) ?_
  refine AllReadyH.cons rfl (fun K hK => ?_) AllReadyH.nil
  simp only [List.getElem_toArray, List.getElem_cons_zero, List.getElem_cons_succ]
  go_simp
  go_at_call 187
  refine (CC).mono ?_
  rintro e U8 ⟨rfl, es2, B8, P8, g8⟩
  refine hK.out _ _ (grown_own' (grown_trans (grown_drew _) A.gr) g8) (fun hHeld2 => ?_)
  clear hK K
  (try go_frame)
  refine wpAnyH_take (i := 6) (v := ?_) rfl (by kernel_rfl) (by kernel_rfl) (by kernel_rfl) (fun _ _ _ h => h) (Or.inl ⟨by rfl, ?_⟩) (by assumption) ?_
  rotate_left 1
  · (intro w0 hSw; go_simp; try with_reducible rfl)
  simp only [List.getElem_toArray, List.getElem_cons_zero, List.getElem_cons_succ]
  go_frame
  refine wpAnyH_done (by kernel_rfl) ?_ _
  have HF : Hid (Book ok U8 b es2 q ∧ (es2.map hp).Perm (d ++ sCs 4) ∧ w.grownBy U8 (some b)) := ⟨B8, P8, grown_own' HG2.out (HG6.out.trans (grown_own' (grown_trans (grown_drew _) A.gr) g8))⟩
  clear B8 P8 g8 A CC hHeld hHeld2 H0 x0 y1 HB6 HG6 hcl szU
  go_wp2
  go_ret
  exact ⟨rfl, es2, HF.out⟩
end Go.Proofs.YtknlcjhcamhfmaaGreatDoor
namespace Go.Proofs.YtknlcjhcamhfmaaGreatDoor
open Go.RowKit

set_option maxRecDepth 100000 in
set_option maxHeartbeats 8000000 in
theorem fill_5 (ok : Nat → Prop) (b : Nat) (es : List Ent) (p q : Pl) (d : List (Hd × List Pt)) (w : World) (B : Book ok w b es p) (hok : ¬ ok b) (hnew : ∀ n, w.heap.size ≤ n → ok n) (N : NamesAt w) (h0 : ¬ b = 0) (hS : stepOk 5 p q) (hq : q.shut = false) (hE : (es.map hp).Perm d) (hN : ((d ++ sCs 5).map fun x => x.1.nm).Nodup) (h64 : d.length + 6 ≤ 64) : Calls Tryz.prog 104 #[.pointer (some ⟨b, 0, none⟩), .agg #[.string ⟨#[103, 111, 108, 100]⟩, .func (.func 99) #[] #[], .func (.func 100) #[] #[], .func (.func 101) #[] #[], .func (.func 102) #[] #[]]] w fun e w' => e = .returned (.int .i64 0) ∧ ∃ es', Book ok w' b es' q ∧ (es'.map hp).Perm (d ++ sCs 5) ∧ w.grownBy w' (some b) := by
  have hmf : ∀ (fn : Fn) (first cap : Array Value) (w : World), (Instr.makeFunc fn first cap).run Tryz.prog w = .ok (.func fn first cap) w := fun _ _ _ _ => rfl
  have HB : Hid (Book ok w b es p) := B
  have HN : Hid (NamesAt w) := N
  have HW : Hid (∀ n, w.heap.size ≤ n → ok n) := hnew
  have HE : Hid ((es.map hp).Perm d) := hE
  have HNo : Hid (((d ++ sCs 5).map fun x => x.1.nm).Nodup) := hN
  have HS : Hid (stepOk 5 p q) := hS
  have HQ : Hid (q.shut = false) := hq
  have H64 : Hid (d.length + 6 ≤ 64) := h64
  have hbw : b < w.heap.size := B.lt
  clear B N hnew hE hN hS hq h64
  obtain ⟨X, hX⟩ : ∃ X, X = w.heap.size := ⟨_, rfl⟩
  obtain ⟨W2, hW2⟩ : ∃ W2, W2 = (w.alloc (.cells #[.pointer (some ⟨b, 0, none⟩)] 24)).alloc (.cells #[.string ⟨#[103, 111, 108, 100]⟩, .func (.func 99) #[] #[], .func (.func 100) #[] #[], .func (.func 101) #[] #[], .func (.func 102) #[] #[]] 83) := ⟨_, rfl⟩
  have G2 : w.grownBy W2 none := by rw [hW2]; exact grown_push (World.grownBy_alloc _ _ none) _
  have X2 : W2.heap[X]? = some (.cells #[.pointer (some ⟨b, 0, none⟩)] 24 (0, 0)) := by rw [hW2, hX]; exact grown_keep (World.grownBy_alloc _ _ none) (alloc_at w _ _) (by simp)
  have Y2 : W2.heap[X + 1]? = some (.cells #[.string ⟨#[103, 111, 108, 100]⟩, .func (.func 99) #[] #[], .func (.func 100) #[] #[], .func (.func 101) #[] #[], .func (.func 102) #[] #[]] 83 (0, 0)) := by
    have := alloc_at (w.alloc (.cells #[.pointer (some ⟨b, 0, none⟩)] 24)) #[.string ⟨#[103, 111, 108, 100]⟩, .func (.func 99) #[] #[], .func (.func 100) #[] #[], .func (.func 101) #[] #[], .func (.func 102) #[] #[]] 83
    rw [World.size_alloc] at this
    rw [hW2, hX]
    exact this
  have x0 : W2.cell? ⟨X, 0, none⟩ = some (.pointer (some ⟨b, 0, none⟩)) := block_cell X2 0
  have y1 : W2.cell? ⟨X + 1, 1, none⟩ = some (.func (.func 99) #[] #[]) := block_cell Y2 1
  have y2 : W2.cell? ⟨X + 1, 2, none⟩ = some (.func (.func 100) #[] #[]) := block_cell Y2 2
  have y3 : W2.cell? ⟨X + 1, 3, none⟩ = some (.func (.func 101) #[] #[]) := block_cell Y2 3
  have HG2 : Hid (w.grownBy W2 none) := G2
  have HX0 : Hid (W2.cell? ⟨X, 0, none⟩ = some (.pointer (some ⟨b, 0, none⟩))) := x0
  have HY1 : Hid (W2.cell? ⟨X + 1, 1, none⟩ = some (.func (.func 99) #[] #[])) := y1
  have HY2 : Hid (W2.cell? ⟨X + 1, 2, none⟩ = some (.func (.func 100) #[] #[])) := y2
  have hxb : ¬ X = b := by omega
  have hyb : ¬ X + 1 = b := by omega
  have H0 : W2.grownBy W2.drew (some b) := grown_drew' _ _
  have HBd : Hid (Book ok W2.drew b es p) := (HB.out.keep G2).keep (grown_drew _)
  clear X2 Y2 y1 y2 G2
  go_enter Tryz.func104, Tryz.ntmps104
  go_upto_region 1 with fail
  rw [← hX, ← hW2]
  have HXs : Hid (X = w.heap.size) := hX
  clear hW2 hX
  refine wp_region_held_drew (S := fun w' => W2.grownBy w' (some b)) (by kernel_rfl) H0 (fun hHeld => ?_)
  refine wpAnyH_take (i := 0) (v := ?_) rfl (by kernel_rfl) (by kernel_rfl) (by kernel_rfl) (fun _ _ _ h => h) (Or.inl ⟨by rfl, ?_⟩) (by assumption) ?_
  rotate_left 1
  · (intro w0 hSw; go_simp; try with_reducible rfl)
  simp only [List.getElem_toArray, List.getElem_cons_zero]
  go_frame
  refine wpAnyH_take (i := 1) (v := ?_) rfl (by kernel_rfl) (by kernel_rfl) (by kernel_rfl) (fun _ _ _ h => h) (Or.inl ⟨by rfl, ?_⟩) (by assumption) ?_
  rotate_left 1
  · (intro w0 hSw; have a9 := World.grownBy.cell hSw y3 (by simpa using hyb); go_simp; try with_reducible rfl)
  simp only [List.getElem_toArray, List.getElem_cons_zero, List.getElem_cons_succ]
  go_frame
  refine wpAnyH_take (i := 3) (v := ?_) rfl (by kernel_rfl) (by kernel_rfl) (by kernel_rfl) (fun _ _ _ h => h) (Or.inl ⟨by rfl, ?_⟩) (by assumption) ?_
  rotate_left 1
  · (intro w0 hSw; have a9 := World.grownBy.cell hSw x0 (by simpa using hxb); go_simp; try with_reducible rfl)
  simp only [List.getElem_toArray, List.getElem_cons_zero, List.getElem_cons_succ]
  go_frame
  refine wpAnyH_take (i := 4) (v := ?_) rfl (by kernel_rfl) (by kernel_rfl) (by kernel_rfl) (fun _ _ _ h => h) (Or.inl ⟨by rfl, ?_⟩) (by assumption) ?_
  rotate_left 1
  · (intro w0 hSw; go_simp; try with_reducible rfl)
  simp only [List.getElem_toArray, List.getElem_cons_zero, List.getElem_cons_succ]
  go_frame
  refine wpAnyH_ready (rs := [2]) (by kernel_rfl) (by simp) ?_
  refine AllReadyH.cons rfl (fun K hK => ?_) AllReadyH.nil
  simp only [List.getElem_toArray, List.getElem_cons_zero, List.getElem_cons_succ]
  go_simp
  go_at_call 101
  refine (Gd.marks W2.drew).mono ?_
  rintro e U3 ⟨rfl, h3⟩
  have g3 : W2.drew.grownBy U3 none := by rw [h3]; exact World.grownBy_alloc _ _ none
  have m3 : MsAt U3 b (.slice (some ⟨W2.drew.heap.size, 0, none⟩) 1 1) (sMs 5) := ⟨_, rfl, fun _ => ⟨_, rfl, fun e => by have := HG2.out.size; have := (grown_drew W2).size; omega, by rw [h3]; exact alloc_at _ _ _⟩⟩
  clear h3
  refine hK.out _ _ (grown_own' (grown_trans (grown_drew _) g3) (grown_refl _ _)) (fun hHeld2 => ?_)
  clear hK K
  (try go_frame)
  refine wpAnyH_ready (rs := [5]) (by kernel_rfl) (by simp) ?_
  refine AllReadyH.cons rfl (fun K hK => ?_) AllReadyH.nil
  simp only [List.getElem_toArray, List.getElem_cons_zero, List.getElem_cons_succ]
  go_simp
  go_at_call 183
  refine (addM_any ok b es p (sMs 5) _ U3 (HBd.out.keep g3) hok m3 HS.out.1 (by decide)).mono ?_
  rintro e U4 ⟨rfl, B4, g4⟩
  refine hK.out _ _ (grown_own' (grown_trans (grown_drew _) g3) g4) (fun hHeld2 => ?_)
  clear hK K
  (try go_frame)
  refine wpAnyH_take (i := 6) (v := ?_) rfl (by kernel_rfl) (by kernel_rfl) (by kernel_rfl) (fun _ _ _ h => h) (Or.inl ⟨by rfl, ?_⟩) (by assumption) ?_
  rotate_left 1
  · (intro w0 hSw; go_simp; try with_reducible rfl)
  simp only [List.getElem_toArray, List.getElem_cons_zero, List.getElem_cons_succ]
  go_frame
  refine wpAnyH_done (by kernel_rfl) ?_ _
  have HB4 : Hid (Book ok U4 b es (pMs p (sMs 5))) := B4
  have HG4 : Hid (W2.grownBy U4 (some b)) := grown_own' (grown_trans (grown_drew _) g3) g4
  clear B4 g4 g3 m3 hHeld hHeld2 H0 HBd x0 y3 HB
  have y2 := HG4.out.cell HY2.out (by simpa using hyb)
  go_wp2_with fail
  refine (Gd.traits U4).mono ?_
  rintro e U5 ⟨rfl, h5⟩
  have g5 : U4.grownBy U5 none := by rw [h5]; exact World.grownBy_alloc _ _ none
  have t5 : TsAt U5 b (.slice (some ⟨U4.heap.size, 0, none⟩) 1 1) (sTs 5) := ⟨_, rfl, fun _ => ⟨_, rfl, fun e => by have := HG2.out.size; have := HG4.out.size; omega, by rw [h5]; exact alloc_at _ _ _⟩⟩
  have CT := addT_any ok b X es (pMs p (sMs 5)) (sTs 5) _ U5 (HB4.out.keep g5) hok (((HN.out.keep HG2.out).keepR HG4.out (by simpa using fun e => h0 e.symm)).keep g5) h0 (g5.cell (HG4.out.cell HX0.out (by simpa using hxb)) (by simp)) hxb t5 HS.out.2.1 (by decide)
  rw [HS.out.2.2] at CT
  clear y2 h5 t5
  go_wp2_with fail
  refine CT.mono ?_
  rintro e U6 ⟨rfl, B6, g6⟩
  have HB6 : Hid (Book ok U6 b es q) := B6
  have HG6 : Hid (W2.grownBy U6 (some b)) := HG4.out.trans (grown_own' g5 g6)
  clear B6 g6 g5 CT HB4 HG4
  have y1 := HG6.out.cell HY1.out (by simpa using hyb)
  have x0 := HG6.out.cell HX0.out (by simpa using hxb)
  have H0 : U6.grownBy U6.drew (some b) := grown_drew' _ _
  go_upto_region 8 with fail
  refine wp_region_held_drew (S := fun w' => U6.grownBy w' (some b)) (by kernel_rfl) H0 (fun hHeld => ?_)
  refine wpAnyH_take (i := 0) (v := ?_) rfl (by kernel_rfl) (by kernel_rfl) (by kernel_rfl) (fun _ _ _ h => h) (Or.inl ⟨by rfl, ?_⟩) (by assumption) ?_
  rotate_left 1
  · (intro w0 hSw; go_simp; try with_reducible rfl)
  simp only [List.getElem_toArray, List.getElem_cons_zero]
  go_frame
  refine wpAnyH_take (i := 1) (v := ?_) rfl (by kernel_rfl) (by kernel_rfl) (by kernel_rfl) (fun _ _ _ h => h) (Or.inl ⟨by rfl, ?_⟩) (by assumption) ?_
  rotate_left 1
  · (intro w0 hSw; have a9 := World.grownBy.cell hSw y1 (by simpa using hyb); go_simp; try with_reducible rfl)
  simp only [List.getElem_toArray, List.getElem_cons_zero, List.getElem_cons_succ]
  go_frame
  refine wpAnyH_take (i := 3) (v := ?_) rfl (by kernel_rfl) (by kernel_rfl) (by kernel_rfl) (fun _ _ _ h => h) (Or.inl ⟨by rfl, ?_⟩) (by assumption) ?_
  rotate_left 1
  · (intro w0 hSw; have a9 := World.grownBy.cell hSw x0 (by simpa using hxb); go_simp; try with_reducible rfl)
  simp only [List.getElem_toArray, List.getElem_cons_zero, List.getElem_cons_succ]
  go_frame
  refine wpAnyH_take (i := 4) (v := ?_) rfl (by kernel_rfl) (by kernel_rfl) (by kernel_rfl) (fun _ _ _ h => h) (Or.inl ⟨by rfl, ?_⟩) (by assumption) ?_
  rotate_left 1
  · (intro w0 hSw; go_simp; try with_reducible rfl)
  simp only [List.getElem_toArray, List.getElem_cons_zero, List.getElem_cons_succ]
  go_frame
  refine wpAnyH_ready (rs := [2]) (by kernel_rfl) (by simp) ?_
  refine AllReadyH.cons rfl (fun K hK => ?_) AllReadyH.nil
  simp only [List.getElem_toArray, List.getElem_cons_zero, List.getElem_cons_succ]
  go_simp
  go_at_call 99
  refine (Gd.list_std U6.drew).mono ?_
  rintro e U7 ⟨g, cs, rfl, A⟩
  have hcl : cs.length = 6 := by have h9 := congrArg List.length A.is; rw [List.length_map] at h9; exact h9
  have szU : X ≤ U6.drew.heap.size := by have h6 := HXs.out; have h7 := HG2.out.size; have h8 := HG6.out.size; have h9 := (grown_drew U6).size; omega
  have CC := addC_any ok b g U6.drew.heap.size es cs q (sCs 5) d U7 ((HB6.out.keep (grown_drew _)).keep A.gr) hok (fun n hn => HW.out n (by have h6 := HXs.out; have h9 := A.gr.size; omega)) (fun e => by have h6 := HXs.out; have h9 := A.low; omega) A.lies A.is A.own (by have h6 := HXs.out; omega) HE.out HNo.out (fun x hx => cAll_chk x (sCs_mem (by decide) hx)) (by rw [show (sCs 5).length = 6 from rfl]; exact H64.out) (fun x hx => cAll_four x (sCs_mem (by decide) hx)) HQ.out
  rw [hcl] at CC
  refine hK.out _ _ (grown_own' (grown_trans (grown_drew _) A.gr) (grown_refl _ _)) (fun hHeld2 => ?_)
  clear hK K
  (try go_frame)
  refine wpAnyH_ready (rs := [5]) (by kernel_rfl) (by simp) ?_
  refine AllReadyH.cons rfl (fun K hK => ?_) AllReadyH.nil
  simp only [List.getElem_toArray, List.getElem_cons_zero, List.getElem_cons_succ]
  go_simp
  go_at_call 187
  refine (CC).mono ?_
  rintro e U8 ⟨rfl, es2, B8, P8, g8⟩
  refine hK.out _ _ (grown_own' (grown_trans (grown_drew _) A.gr) g8) (fun hHeld2 => ?_)
  clear hK K
  (try go_frame)
  refine wpAnyH_take (i := 6) (v := ?_) rfl (by kernel_rfl) (by kernel_rfl) (by kernel_rfl) (fun _ _ _ h => h) (Or.inl ⟨by rfl, ?_⟩) (by assumption) ?_
  rotate_left 1
  · (intro w0 hSw; go_simp; try with_reducible rfl)
  simp only [List.getElem_toArray, List.getElem_cons_zero, List.getElem_cons_succ]
  go_frame
  refine wpAnyH_done (by kernel_rfl) ?_ _
  have HF : Hid (Book ok U8 b es2 q ∧ (es2.map hp).Perm (d ++ sCs 5) ∧ w.grownBy U8 (some b)) := ⟨B8, P8, grown_own' HG2.out (HG6.out.trans (grown_own' (grown_trans (grown_drew _) A.gr) g8))⟩
  clear B8 P8 g8 A CC hHeld hHeld2 H0 x0 y1 HB6 HG6 hcl szU
  go_wp2
  go_ret
  exact ⟨rfl, es2, HF.out⟩
end Go.Proofs.YtknlcjhcamhfmaaGreatDoor
namespace Go.Proofs.YtknlcjhcamhfmaaGreatDoor
open Go.RowKit

theorem fill_any (k : Nat) (hk : k < 6) (ok : Nat → Prop) (b : Nat) (es : List Ent) (p q : Pl) (d : List (Hd × List Pt)) (w : World) (B : Book ok w b es p) (hok : ¬ ok b) (hnew : ∀ n, w.heap.size ≤ n → ok n) (N : NamesAt w) (h0 : ¬ b = 0) (hS : stepOk k p q) (hq : q.shut = false) (hE : (es.map hp).Perm d) (hN : ((d ++ sCs k).map fun x => x.1.nm).Nodup) (h64 : d.length + 6 ≤ 64) : Calls Tryz.prog 104 #[.pointer (some ⟨b, 0, none⟩), .agg #[.string (sNm k), .func (.func (fL k)) #[] #[], .func (.func (fT k)) #[] #[], .func (.func (fM k)) #[] #[], .func (.func (fU k)) #[] #[]]] w fun e w' => e = .returned (.int .i64 0) ∧ ∃ es', Book ok w' b es' q ∧ (es'.map hp).Perm (d ++ sCs k) ∧ w.grownBy w' (some b) := by
  rcases (show k = 0 ∨ k = 1 ∨ k = 2 ∨ k = 3 ∨ k = 4 ∨ k = 5 by omega) with rfl | rfl | rfl | rfl | rfl | rfl
  · exact fill_0 ok b es p q d w B hok hnew N h0 hS hq hE hN h64
  · exact fill_1 ok b es p q d w B hok hnew N h0 hS hq hE hN h64
  · exact fill_2 ok b es p q d w B hok hnew N h0 hS hq hE hN h64
  · exact fill_3 ok b es p q d w B hok hnew N h0 hS hq hE hN h64
  · exact fill_4 ok b es p q d w B hok hnew N h0 hS hq hE hN h64
  · exact fill_5 ok b es p q d w B hok hnew N h0 hS hq hE hN h64
theorem cL_take {ks : List Nat} (h : Ord6 ks) {j k : Nat} (hk : ks[j]? = some k) : ((cL (ks.take j) ++ sCs k).map fun x => x.1.nm).Nodup ∧ cL (ks.take (j + 1)) = cL (ks.take j) ++ sCs k ∧ (cL (ks.take j)).length + 6 ≤ 64 := by
  obtain ⟨h1, h2⟩ := List.getElem?_eq_some_iff.1 hk
  have e1 : cL (ks.take (j + 1)) = cL (ks.take j) ++ sCs k := by
    unfold cL
    rw [List.take_add_one, hk, List.flatMap_append]
    simp
  have e2 : cL ks = cL (ks.take (j + 1)) ++ cL (ks.drop (j + 1)) := by
    unfold cL
    rw [← List.flatMap_append, List.take_append_drop]
  have n0 : ((cL ks).map fun x => x.1.nm).Nodup := (h.cL.map _).nodup_iff.2 cAll_nod
  have l0 : (cL ks).length = 36 := h.cL.length_eq.trans cAll_len
  rw [e2, List.map_append, List.nodup_append] at n0
  refine ⟨?_, e1, ?_⟩
  · rw [← e1]; exact n0.1
  · rw [e2, e1, List.length_append, List.length_append, sCs_len (h.lt (List.mem_of_getElem? hk))] at l0
    omega
theorem pL_take {ks : List Nat} (h : Ord6 ks) {j k : Nat} (hk : ks[j]? = some k) : stepOk k (pL (ks.take j)) (pL (ks.take (j + 1))) := by
  have e : ks.take (j + 1) = ks.take j ++ [k] := by rw [List.take_add_one, hk]; rfl
  rw [e]
  refine fstep_any _ k (h.lt (List.mem_of_getElem? hk)) (fun hm => ?_)
  have n0 := h.nodup
  have n1 : (ks.take (j + 1)).Nodup := n0.sublist (List.take_sublist _ _)
  rw [e, List.nodup_append] at n1
  exact n1.2.2 k hm k (by simp) rfl
end Go.Proofs.YtknlcjhcamhfmaaGreatDoor
namespace Go.Proofs.YtknlcjhcamhfmaaGreatDoor
open Go.RowKit

/-- A book of all six, sealed. -/
structure FB (w : World) (b : Nat) (es : List Ent) : Prop where
  book : Book (fun k => b < k) w b es pShut
  row : es.map hp = rowAll.map hp
theorem FB.keepR {w w' : World} {b : Nat} {es : List Ent} {r : Option Nat} (h : FB w b es) (g : w.grownBy w' r) (hr : ∀ k, b ≤ k → some k ≠ r) : FB w' b es := ⟨h.book.keepR g (hr b (Nat.le_refl _)) (fun k hk => hr k (Nat.le_of_lt hk)), h.row⟩
theorem FB.keep {w w' : World} {b : Nat} {es : List Ent} (h : FB w b es) (g : w.grownBy w' none) : FB w' b es := h.keepR g (by simp)
theorem NamesAt.pos {w : World} (h : NamesAt w) : 0 < w.heap.size := cell_block' h.1
set_option maxRecDepth 100000 in
set_option maxHeartbeats 4000000 in
theorem sealed_any (g cap : Nat) (ks : List Nat) (w : World) (hks : Ord6 ks) (hA : SrcAt w g ks) (N : NamesAt w) : Calls Tryz.prog 41 #[.slice (some ⟨g, 0, none⟩) 6 cap] w fun e w' => ∃ b es, e = .returned (.tuple #[.pointer (some ⟨b, 0, none⟩), .int .i64 0]) ∧ FB w' b es ∧ w.heap.size ≤ b ∧ w.grownBy w' none := by
  obtain ⟨b, hb⟩ : ∃ b, b = w.heap.size := ⟨_, rfl⟩
  have HK : Hid (Ord6 ks) := hks
  have HA : Hid (SrcAt w g ks) := hA
  have HN : Hid (NamesAt w) := N
  have hb0 : ¬ b = 0 := by have := N.pos; omega
  have hgb : ¬ g = b := by
    have h9 := hks.len
    obtain ⟨k, hk⟩ : ∃ k, ks[0]? = some k := ⟨_, List.getElem?_eq_getElem (by omega)⟩
    have := cell_block' (hA 0 k hk).c0
    omega
  have CN := bnew (fun k => b < k) w
  rw [← hb] at CN
  have sm6 : Small 6 := by unfold Small; decide
  have HBs : Hid (b = w.heap.size) := hb
  clear hks hA N hb
  go_enter Tryz.func41, Tryz.ntmps41
  go_wp2_with fail
  refine CN.mono ?_
  rintro e W1 ⟨rfl, B1, g1, s1⟩
  have HB1 : Hid (Book (fun k => b < k) W1 b [] plNew) := B1
  have HG1 : Hid (w.grownBy W1 none) := g1
  have HS1 : Hid (W1.heap.size = b + 1) := s1
  clear CN B1 g1 s1
  go_wp2_with fail
  go_loopw [12] (fun x wr => ∃ (j : Nat) (es : List Ent), j ≤ 6 ∧ x = .int .i64 (j : Int) ∧ Book (fun k => b < k) wr b es (pL (ks.take j)) ∧ (es.map hp).Perm (cL (ks.take j)) ∧ W1.grownBy wr (some b)) (fun x _ => 6 - (intOf x).toNat)
  case atStart =>
    refine ⟨0, [], Nat.zero_le _, rfl, ?_, ?_, ?_⟩
    case refine_3 => exact grown_refl _ _
    case refine_2 => rw [List.take_zero]; exact List.Perm.refl _
    rw [List.take_zero]
    rw [pL_nil]
    exact HB1.out
  case round =>
    clear HB1
    obtain ⟨j, es, hj, rfl, B, Pm, Gr⟩ := hrel
    obtain ⟨U, hU⟩ : ∃ U, U = wr := ⟨_, rfl⟩
    subst hU
    have HB : Hid (Book (fun k => b < k) U b es (pL (ks.take j))) := B
    have HG : Hid (W1.grownBy U (some b)) := Gr
    have HPm : Hid ((es.map hp).Perm (cL (ks.take j))) := Pm
    clear B Gr Pm
    rcases (show j < 6 ∨ j = 6 from by omega) with h1 | h1
    · have h1' : (j : Int) < 6 := by omega
      have j0 : (0 : Int) ≤ (j : Int) := by omega
      obtain ⟨k, hk⟩ : ∃ k, ks[j]? = some k := ⟨_, List.getElem?_eq_getElem (by rw [HK.out.len]; exact h1)⟩
      obtain ⟨n1, n2, n3⟩ := cL_take HK.out hk
      have HR := ((HA.out j k hk).keepR HG1.out (by simp)).keepR HG.out (by simpa using hgb)
      have hst := pL_take HK.out hk
      have hk6 := HK.out.lt (List.mem_of_getElem? hk)
      have HNx : Hid (cL (ks.take (j + 1)) = cL (ks.take j) ++ sCs k) := n2
      have CF := fun W (gr : U.grownBy W none) => fill_any k hk6 (fun k => b < k) b es (pL (ks.take j)) (pL (ks.take (j + 1))) (cL (ks.take j)) W (HB.out.keep gr) (Nat.lt_irrefl b) (fun n hn => by have h6 := HS1.out; have h7 := HG.out.size; have h8 := gr.size; omega) (((HN.out.keep HG1.out).keepR HG.out (by simpa using fun e => hb0 e.symm)).keep gr) hb0 hst rfl HPm.out n1 n3
      have HCF : Hid (∀ W, U.grownBy W none → _) := CF
      clear hk n1 n2 n3 hst hk6 CF
      obtain ⟨c0, c1, c2, c3, c4⟩ := HR
      go_wp2_with fail
      refine (HCF.out _ (World.grownBy_alloc _ _ none)).mono ?_
      rintro e U2 ⟨rfl, es2, B2, P2, g2⟩
      have HB2 : Hid (Book (fun k => b < k) U2 b es2 (pL (ks.take (j + 1)))) := B2
      have HP2 : Hid ((es2.map hp).Perm (cL (ks.take (j + 1)))) := by rw [HNx.out]; exact P2
      have HG2 : Hid (W1.grownBy U2 (some b)) := HG.out.trans (grown_own' (World.grownBy_alloc _ _ none) g2)
      clear B2 P2 g2 HCF c0 c1 c2 c3 c4
      go_wp2_with fail
      go_roundw
      case rel => exact ⟨j + 1, es2, h1, by first | rfl | (rw [sm6.wrap h1]; rfl), HB2.out, HP2.out, HG2.out⟩
      case measure => first | exact meas_next h1 | (rw [sm6.wrap h1]; exact meas_next h1)
    · have h1' : ¬ (j : Int) < 6 := by omega
      have e6 : ks.take j = ks := List.take_of_length_le (by rw [HK.out.len, h1]; exact Nat.le_refl _)
      have HBf : Hid (Book (fun k => b < k) U b es pAll) := by have h9 := HB.out; rw [e6, HK.out.pL] at h9; exact h9
      have HRf : Hid (es.map hp = rowAll.map hp) := row_full HBf.out.srt (by have h9 := HPm.out; rw [e6] at h9; exact h9.trans HK.out.cL)
      have CS := bseal (fun k => b < k) b es pAll U HBf.out (Nat.lt_irrefl b)
      rw [seal_full HRf.out, sealP_full HRf.out] at CS
      clear e6 HB HPm h1
      go_wp2_with fail
      refine CS.mono ?_
      rintro e U2 ⟨rfl, B2, g2⟩
      have HF : Hid (FB U2 b es ∧ w.heap.size ≤ b ∧ w.grownBy U2 none) := ⟨⟨B2, HRf.out⟩, Nat.le_of_eq HBs.out.symm, grown_own HG1.out (HG.out.trans g2) (fun x e => by cases e; exact Nat.le_of_eq HBs.out.symm)⟩
      clear B2 g2 CS
      go_wp2
      go_ret2
      exact ⟨b, es, rfl, HF.out⟩
end Go.Proofs.YtknlcjhcamhfmaaGreatDoor
namespace Go.Proofs.YtknlcjhcamhfmaaGreatDoor
open Go.RowKit

theorem results_cell_one {fn : Func} {p : Tmp} {ty : TypeId} (h : fn.results = #[.cell p ty]) (tmps : Array Value) (P : Program) (w : World) : (results fn tmps).run P w = ((asAddr (tmps.getD p undef)).run P w).andThen fun a w₁ => (loadVar ty a).run P w₁ := by
  simp only [results, h]
  simp [Sem.run_bind, Result.andThen]
def sixA : Array Value := (srcs all6).toArray
theorem sixA_size : (Tryz.prog.info? 84).map (·.size) = some sixA.size := by kernel_rfl
theorem sixA_len : (Tryz.prog.info? 84).map (·.size) = some (srcs all6).length := by kernel_rfl
theorem sixA_one : sixA.all (·.oneCell') = true := by kernel_rfl
theorem row_range {w : World} {g : Nat} {cs : List Value} {t : TypeId} (h : w.heap[g]? = some (.cells cs.toArray t (0, 0))) : w.rangeAt g 0 cs := fun j v hv => by
  rw [block_cell h, Nat.zero_add]
  simpa using hv
theorem grown_rowA (w : World) (g : Nat) (cs : Array Value) : w.grownBy (w.setRow g cs) (some g) := ⟨rfl, rfl, rfl, by simp, fun i _ hi => setRow_other w g i cs (fun e => hi (by rw [e]))⟩
set_option maxRecDepth 100000 in
set_option maxHeartbeats 4000000 in
theorem six_any (w : World) : Calls Tryz.prog 39 #[] w fun e w' => e = .returned (.agg sixA) ∧ w.grownBy w' none := by
  go_enter Tryz.func39, Tryz.ntmps39
  go_wp2_with (refine wpList_store_rowTo rfl 84 (.tmp 0) (.tmp 7) rfl rfl w.heap.size sixA rfl rfl 84 _ (alloc_at _ _ _) sixA_size (by kernel_rfl) sixA_one ?_)
  refine bodyPost_ret (v := .agg sixA) ?_ rfl ⟨rfl, ?_⟩
  · rw [results_cell_one Tryz.results39]
    exact run_loadVar_mid _ w.heap.size 0 84 (srcs all6) _ (row_range (setRow_heap _ _ _ _ _ _ (alloc_at _ _ _))) Tryz.underlying84 rfl sixA_len
  · exact grown_own (World.grownBy_alloc _ _ none) (grown_rowA _ _ _) (fun x e => by cases e; exact Nat.le_refl _)
end Go.Proofs.YtknlcjhcamhfmaaGreatDoor
