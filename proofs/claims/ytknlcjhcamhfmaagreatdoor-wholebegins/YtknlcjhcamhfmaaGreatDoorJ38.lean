/-
  fill of package fire.
  fill of package water.
-/
import Derived.Test.YtknlcjhcamhfmaaGreatDoorJ36
import Derived.Test.YtknlcjhcamhfmaaGreatDoorJ28
import Derived.Test.YtknlcjhcamhfmaaGreatDoorJ34
import Derived.Laws.EntriesVeiled
import Derived.Deep.RegionHeld3
namespace Go.Proofs.YtknlcjhcamhfmaaGreatDoor
open Go.RowKit

set_option maxRecDepth 100000 in
set_option maxHeartbeats 8000000 in
theorem fill_2 (ok : Nat → Prop) (b : Nat) (es : List Ent) (p q : Pl) (d : List (Hd × List Pt)) (w : World) (B : Book ok w b es p) (hok : ¬ ok b) (hnew : ∀ n, w.heap.size ≤ n → ok n) (N : NamesAt w) (h0 : ¬ b = 0) (hS : stepOk 2 p q) (hq : q.shut = false) (hE : (es.map hp).Perm d) (hN : ((d ++ sCs 2).map fun x => x.1.nm).Nodup) (h64 : d.length + 6 ≤ 64) : Calls Tryz.prog 104 #[.pointer (some ⟨b, 0, none⟩), .agg #[.string ⟨#[102, 105, 114, 101]⟩, .func (.func 87) #[] #[], .func (.func 88) #[] #[], .func (.func 89) #[] #[], .func (.func 90) #[] #[]]] w fun e w' => e = .returned (.int .i64 0) ∧ ∃ es', Book ok w' b es' q ∧ (es'.map hp).Perm (d ++ sCs 2) ∧ w.grownBy w' (some b) := by
  have hmf : ∀ (fn : Fn) (first cap : Array Value) (w : World), (Instr.makeFunc fn first cap).run Tryz.prog w = .ok (.func fn first cap) w := fun _ _ _ _ => rfl
  have HB : Hid (Book ok w b es p) := B
  have HN : Hid (NamesAt w) := N
  have HW : Hid (∀ n, w.heap.size ≤ n → ok n) := hnew
  have HE : Hid ((es.map hp).Perm d) := hE
  have HNo : Hid (((d ++ sCs 2).map fun x => x.1.nm).Nodup) := hN
  have HS : Hid (stepOk 2 p q) := hS
  have HQ : Hid (q.shut = false) := hq
  have H64 : Hid (d.length + 6 ≤ 64) := h64
  have hbw : b < w.heap.size := B.lt
  clear B N hnew hE hN hS hq h64
  obtain ⟨X, hX⟩ : ∃ X, X = w.heap.size := ⟨_, rfl⟩
  obtain ⟨W2, hW2⟩ : ∃ W2, W2 = (w.alloc (.cells #[.pointer (some ⟨b, 0, none⟩)] 24)).alloc (.cells #[.string ⟨#[102, 105, 114, 101]⟩, .func (.func 87) #[] #[], .func (.func 88) #[] #[], .func (.func 89) #[] #[], .func (.func 90) #[] #[]] 83) := ⟨_, rfl⟩
  have G2 : w.grownBy W2 none := by rw [hW2]; exact grown_push (World.grownBy_alloc _ _ none) _
  have X2 : W2.heap[X]? = some (.cells #[.pointer (some ⟨b, 0, none⟩)] 24 (0, 0)) := by rw [hW2, hX]; exact grown_keep (World.grownBy_alloc _ _ none) (alloc_at w _ _) (by simp)
  have Y2 : W2.heap[X + 1]? = some (.cells #[.string ⟨#[102, 105, 114, 101]⟩, .func (.func 87) #[] #[], .func (.func 88) #[] #[], .func (.func 89) #[] #[], .func (.func 90) #[] #[]] 83 (0, 0)) := by
    have := alloc_at (w.alloc (.cells #[.pointer (some ⟨b, 0, none⟩)] 24)) #[.string ⟨#[102, 105, 114, 101]⟩, .func (.func 87) #[] #[], .func (.func 88) #[] #[], .func (.func 89) #[] #[], .func (.func 90) #[] #[]] 83
    rw [World.size_alloc] at this
    rw [hW2, hX]
    exact this
  have x0 : W2.cell? ⟨X, 0, none⟩ = some (.pointer (some ⟨b, 0, none⟩)) := block_cell X2 0
  have y1 : W2.cell? ⟨X + 1, 1, none⟩ = some (.func (.func 87) #[] #[]) := block_cell Y2 1
  have y2 : W2.cell? ⟨X + 1, 2, none⟩ = some (.func (.func 88) #[] #[]) := block_cell Y2 2
  have y3 : W2.cell? ⟨X + 1, 3, none⟩ = some (.func (.func 89) #[] #[]) := block_cell Y2 3
  have HG2 : Hid (w.grownBy W2 none) := G2
  have HX0 : Hid (W2.cell? ⟨X, 0, none⟩ = some (.pointer (some ⟨b, 0, none⟩))) := x0
  have HY1 : Hid (W2.cell? ⟨X + 1, 1, none⟩ = some (.func (.func 87) #[] #[])) := y1
  have HY2 : Hid (W2.cell? ⟨X + 1, 2, none⟩ = some (.func (.func 88) #[] #[])) := y2
  have hxb : ¬ X = b := by omega
  have hyb : ¬ X + 1 = b := by omega
  have H0 : W2.grownBy W2.drew (some b) := grown_drew' _ _
  have HBd : Hid (Book ok W2.drew b es p) := (HB.out.keep G2).keep (grown_drew _)
  clear X2 Y2 y1 y2 G2
  go_enter Tryz.func104, Tryz.ntmps104
  go_upto_region 1 with fail
  rw [← hX, ← hW2]
  have HXs : Hid (X = w.heap.size) := hX
  clear hW2 hX
  refine wp_region_held_drew (S := fun w' => W2.grownBy w' (some b)) (by kernel_rfl) H0 (fun hHeld => ?_)
  refine wpAnyH_take (i := 0) (v := ?_) rfl (by kernel_rfl) (by kernel_rfl) (by kernel_rfl) (fun _ _ _ h => h) (Or.inl ⟨by rfl, ?_⟩) (by assumption) ?_
  rotate_left 1
  · (intro w0 hSw; go_simp; try with_reducible rfl)
  simp only [List.getElem_toArray, List.getElem_cons_zero]
  go_frame
  refine wpAnyH_take (i := 1) (v := ?_) rfl (by kernel_rfl) (by kernel_rfl) (by kernel_rfl) (fun _ _ _ h => h) (Or.inl ⟨by rfl, ?_⟩) (by assumption) ?_
  rotate_left 1
  · (intro w0 hSw; have a9 := World.grownBy.cell hSw y3 (by simpa using hyb); go_simp; try with_reducible rfl)
  simp only [List.getElem_toArray, List.getElem_cons_zero, List.getElem_cons_succ]
  go_frame
  refine wpAnyH_take (i := 3) (v := ?_) rfl (by kernel_rfl) (by kernel_rfl) (by kernel_rfl) (fun _ _ _ h => h) (Or.inl ⟨by rfl, ?_⟩) (by assumption) ?_
  rotate_left 1
  · (intro w0 hSw; have a9 := World.grownBy.cell hSw x0 (by simpa using hxb); go_simp; try with_reducible rfl)
  simp only [List.getElem_toArray, List.getElem_cons_zero, List.getElem_cons_succ]
  go_frame
  refine wpAnyH_take (i := 4) (v := ?_) rfl (by kernel_rfl) (by kernel_rfl) (by kernel_rfl) (fun _ _ _ h => h) (Or.inl ⟨by rfl, ?_⟩) (by assumption) ?_
  rotate_left 1
  · (intro w0 hSw; go_simp; try with_reducible rfl)
  simp only [List.getElem_toArray, List.getElem_cons_zero, List.getElem_cons_succ]
  go_frame
  refine wpAnyH_ready (rs := [2]) (by kernel_rfl) (by simp) ?_
  refine AllReadyH.cons rfl (fun K hK => ?_) AllReadyH.nil
  simp only [List.getElem_toArray, List.getElem_cons_zero, List.getElem_cons_succ]
  go_simp
  go_at_call 89
  refine (Fr.marks W2.drew).mono ?_
  rintro e U3 ⟨rfl, h3⟩
  have g3 : W2.drew.grownBy U3 none := by rw [h3]; exact World.grownBy_alloc _ _ none
  have m3 : MsAt U3 b (.slice (some ⟨W2.drew.heap.size, 0, none⟩) 1 1) (sMs 2) := ⟨_, rfl, fun _ => ⟨_, rfl, fun e => by have := HG2.out.size; have := (grown_drew W2).size; omega, by rw [h3]; exact alloc_at _ _ _⟩⟩
  clear h3
  refine hK.out _ _ (grown_own' (grown_trans (grown_drew _) g3) (grown_refl _ _)) (fun hHeld2 => ?_)
  clear hK K
  (try go_frame)
  refine wpAnyH_ready (rs := [5]) (by kernel_rfl) (by simp) ?_
  refine AllReadyH.cons rfl (fun K hK => ?_) AllReadyH.nil
  simp only [List.getElem_toArray, List.getElem_cons_zero, List.getElem_cons_succ]
  go_simp
  go_at_call 183
  refine (addM_any ok b es p (sMs 2) _ U3 (HBd.out.keep g3) hok m3 HS.out.1 (by decide)).mono ?_
  rintro e U4 ⟨rfl, B4, g4⟩
  refine hK.out _ _ (grown_own' (grown_trans (grown_drew _) g3) g4) (fun hHeld2 => ?_)
  clear hK K
  (try go_frame)
  refine wpAnyH_take (i := 6) (v := ?_) rfl (by kernel_rfl) (by kernel_rfl) (by kernel_rfl) (fun _ _ _ h => h) (Or.inl ⟨by rfl, ?_⟩) (by assumption) ?_
  rotate_left 1
  · (intro w0 hSw; go_simp; try with_reducible rfl)
  simp only [List.getElem_toArray, List.getElem_cons_zero, List.getElem_cons_succ]
  go_frame
  refine wpAnyH_done (by kernel_rfl) ?_ _
  have HB4 : Hid (Book ok U4 b es (pMs p (sMs 2))) := B4
  have HG4 : Hid (W2.grownBy U4 (some b)) := grown_own' (grown_trans (grown_drew _) g3) g4
  clear B4 g4 g3 m3 hHeld hHeld2 H0 HBd x0 y3 HB
  have y2 := HG4.out.cell HY2.out (by simpa using hyb)
  go_wp2_with fail
  refine (Fr.traits U4).mono ?_
  rintro e U5 ⟨rfl, h5⟩
  have g5 : U4.grownBy U5 none := by rw [h5]; exact World.grownBy_alloc _ _ none
  have t5 : TsAt U5 b (.slice (some ⟨U4.heap.size, 0, none⟩) 1 1) (sTs 2) := ⟨_, rfl, fun _ => ⟨_, rfl, fun e => by have := HG2.out.size; have := HG4.out.size; omega, by rw [h5]; exact alloc_at _ _ _⟩⟩
  have CT := addT_any ok b X es (pMs p (sMs 2)) (sTs 2) _ U5 (HB4.out.keep g5) hok (((HN.out.keep HG2.out).keepR HG4.out (by simpa using fun e => h0 e.symm)).keep g5) h0 (g5.cell (HG4.out.cell HX0.out (by simpa using hxb)) (by simp)) hxb t5 HS.out.2.1 (by decide)
  rw [HS.out.2.2] at CT
  clear y2 h5 t5
  go_wp2_with fail
  refine CT.mono ?_
  rintro e U6 ⟨rfl, B6, g6⟩
  have HB6 : Hid (Book ok U6 b es q) := B6
  have HG6 : Hid (W2.grownBy U6 (some b)) := HG4.out.trans (grown_own' g5 g6)
  clear B6 g6 g5 CT HB4 HG4
  have y1 := HG6.out.cell HY1.out (by simpa using hyb)
  have x0 := HG6.out.cell HX0.out (by simpa using hxb)
  have H0 : U6.grownBy U6.drew (some b) := grown_drew' _ _
  go_upto_region 8 with fail
  refine wp_region_held_drew (S := fun w' => U6.grownBy w' (some b)) (by kernel_rfl) H0 (fun hHeld => ?_)
  refine wpAnyH_take (i := 0) (v := ?_) rfl (by kernel_rfl) (by kernel_rfl) (by kernel_rfl) (fun _ _ _ h => h) (Or.inl ⟨by rfl, ?_⟩) (by assumption) ?_
  rotate_left 1
  · (intro w0 hSw; go_simp; try with_reducible rfl)
  simp only [List.getElem_toArray, List.getElem_cons_zero]
  go_frame
  refine wpAnyH_take (i := 1) (v := ?_) rfl (by kernel_rfl) (by kernel_rfl) (by kernel_rfl) (fun _ _ _ h => h) (Or.inl ⟨by rfl, ?_⟩) (by assumption) ?_
  rotate_left 1
  · (intro w0 hSw; have a9 := World.grownBy.cell hSw y1 (by simpa using hyb); go_simp; try with_reducible rfl)
  simp only [List.getElem_toArray, List.getElem_cons_zero, List.getElem_cons_succ]
  go_frame
  refine wpAnyH_take (i := 3) (v := ?_) rfl (by kernel_rfl) (by kernel_rfl) (by kernel_rfl) (fun _ _ _ h => h) (Or.inl ⟨by rfl, ?_⟩) (by assumption) ?_
  rotate_left 1
  · (intro w0 hSw; have a9 := World.grownBy.cell hSw x0 (by simpa using hxb); go_simp; try with_reducible rfl)
  simp only [List.getElem_toArray, List.getElem_cons_zero, List.getElem_cons_succ]
  go_frame
  refine wpAnyH_take (i := 4) (v := ?_) rfl (by kernel_rfl) (by kernel_rfl) (by kernel_rfl) (fun _ _ _ h => h) (Or.inl ⟨by rfl, ?_⟩) (by assumption) ?_
  rotate_left 1
  · (intro w0 hSw; go_simp; try with_reducible rfl)
  simp only [List.getElem_toArray, List.getElem_cons_zero, List.getElem_cons_succ]
  go_frame
  refine wpAnyH_ready (rs := [2]) (by kernel_rfl) (by simp) ?_
  refine AllReadyH.cons rfl (fun K hK => ?_) AllReadyH.nil
  simp only [List.getElem_toArray, List.getElem_cons_zero, List.getElem_cons_succ]
  go_simp
  go_at_call 87
  refine (Fr.list_std U6.drew).mono ?_
  rintro e U7 ⟨g, cs, rfl, A⟩
  have hcl : cs.length = 6 := by have h9 := congrArg List.length A.is; rw [List.length_map] at h9; exact h9
  have szU : X ≤ U6.drew.heap.size := by have h6 := HXs.out; have h7 := HG2.out.size; have h8 := HG6.out.size; have h9 := (grown_drew U6).size; omega
  have CC := addC_any ok b g U6.drew.heap.size es cs q (sCs 2) d U7 ((HB6.out.keep (grown_drew _)).keep A.gr) hok (fun n hn => HW.out n (by have h6 := HXs.out; have h9 := A.gr.size; omega)) (fun e => by have h6 := HXs.out; have h9 := A.low; omega) A.lies A.is A.own (by have h6 := HXs.out; omega) HE.out HNo.out (fun x hx => cAll_chk x (sCs_mem (by decide) hx)) (by rw [show (sCs 2).length = 6 from rfl]; exact H64.out) (fun x hx => cAll_four x (sCs_mem (by decide) hx)) HQ.out
  rw [hcl] at CC
  refine hK.out _ _ (grown_own' (grown_trans (grown_drew _) A.gr) (grown_refl _ _)) (fun hHeld2 => ?_)
  clear hK K
  (try go_frame)
  refine wpAnyH_ready (rs := [5]) (by kernel_rfl) (by simp) ?_
  refine AllReadyH.cons rfl (fun K hK => ?_) AllReadyH.nil
  simp only [List.getElem_toArray, List.getElem_cons_zero, List.getElem_cons_succ]
  go_simp
  go_at_call 187
  refine (CC).mono ?_
  rintro e U8 ⟨rfl, es2, B8, P8, g8⟩
  refine hK.out _ _ (grown_own' (grown_trans (grown_drew _) A.gr) g8) (fun hHeld2 => ?_)
  clear hK K
  (try go_frame)
  refine wpAnyH_take (i := 6) (v := ?_) rfl (by kernel_rfl) (by kernel_rfl) (by kernel_rfl) (fun _ _ _ h => h) (Or.inl ⟨by rfl, ?_⟩) (by assumption) ?_
  rotate_left 1
  · (intro w0 hSw; go_simp; try with_reducible rfl)
  simp only [List.getElem_toArray, List.getElem_cons_zero, List.getElem_cons_succ]
  go_frame
  refine wpAnyH_done (by kernel_rfl) ?_ _
  have HF : Hid (Book ok U8 b es2 q ∧ (es2.map hp).Perm (d ++ sCs 2) ∧ w.grownBy U8 (some b)) := ⟨B8, P8, grown_own' HG2.out (HG6.out.trans (grown_own' (grown_trans (grown_drew _) A.gr) g8))⟩
  clear B8 P8 g8 A CC hHeld hHeld2 H0 x0 y1 HB6 HG6 hcl szU
  go_wp2
  go_ret
  exact ⟨rfl, es2, HF.out⟩
end Go.Proofs.YtknlcjhcamhfmaaGreatDoor
namespace Go.Proofs.YtknlcjhcamhfmaaGreatDoor
open Go.RowKit

set_option maxRecDepth 100000 in
set_option maxHeartbeats 8000000 in
theorem fill_3 (ok : Nat → Prop) (b : Nat) (es : List Ent) (p q : Pl) (d : List (Hd × List Pt)) (w : World) (B : Book ok w b es p) (hok : ¬ ok b) (hnew : ∀ n, w.heap.size ≤ n → ok n) (N : NamesAt w) (h0 : ¬ b = 0) (hS : stepOk 3 p q) (hq : q.shut = false) (hE : (es.map hp).Perm d) (hN : ((d ++ sCs 3).map fun x => x.1.nm).Nodup) (h64 : d.length + 6 ≤ 64) : Calls Tryz.prog 104 #[.pointer (some ⟨b, 0, none⟩), .agg #[.string ⟨#[119, 97, 116, 101, 114]⟩, .func (.func 91) #[] #[], .func (.func 92) #[] #[], .func (.func 93) #[] #[], .func (.func 94) #[] #[]]] w fun e w' => e = .returned (.int .i64 0) ∧ ∃ es', Book ok w' b es' q ∧ (es'.map hp).Perm (d ++ sCs 3) ∧ w.grownBy w' (some b) := by
  have hmf : ∀ (fn : Fn) (first cap : Array Value) (w : World), (Instr.makeFunc fn first cap).run Tryz.prog w = .ok (.func fn first cap) w := fun _ _ _ _ => rfl
  have HB : Hid (Book ok w b es p) := B
  have HN : Hid (NamesAt w) := N
  have HW : Hid (∀ n, w.heap.size ≤ n → ok n) := hnew
  have HE : Hid ((es.map hp).Perm d) := hE
  have HNo : Hid (((d ++ sCs 3).map fun x => x.1.nm).Nodup) := hN
  have HS : Hid (stepOk 3 p q) := hS
  have HQ : Hid (q.shut = false) := hq
  have H64 : Hid (d.length + 6 ≤ 64) := h64
  have hbw : b < w.heap.size := B.lt
  clear B N hnew hE hN hS hq h64
  obtain ⟨X, hX⟩ : ∃ X, X = w.heap.size := ⟨_, rfl⟩
  obtain ⟨W2, hW2⟩ : ∃ W2, W2 = (w.alloc (.cells #[.pointer (some ⟨b, 0, none⟩)] 24)).alloc (.cells #[.string ⟨#[119, 97, 116, 101, 114]⟩, .func (.func 91) #[] #[], .func (.func 92) #[] #[], .func (.func 93) #[] #[], .func (.func 94) #[] #[]] 83) := ⟨_, rfl⟩
  have G2 : w.grownBy W2 none := by rw [hW2]; exact grown_push (World.grownBy_alloc _ _ none) _
  have X2 : W2.heap[X]? = some (.cells #[.pointer (some ⟨b, 0, none⟩)] 24 (0, 0)) := by rw [hW2, hX]; exact grown_keep (World.grownBy_alloc _ _ none) (alloc_at w _ _) (by simp)
  have Y2 : W2.heap[X + 1]? = some (.cells #[.string ⟨#[119, 97, 116, 101, 114]⟩, .func (.func 91) #[] #[], .func (.func 92) #[] #[], .func (.func 93) #[] #[], .func (.func 94) #[] #[]] 83 (0, 0)) := by
    have := alloc_at (w.alloc (.cells #[.pointer (some ⟨b, 0, none⟩)] 24)) #[.string ⟨#[119, 97, 116, 101, 114]⟩, .func (.func 91) #[] #[], .func (.func 92) #[] #[], .func (.func 93) #[] #[], .func (.func 94) #[] #[]] 83
    rw [World.size_alloc] at this
    rw [hW2, hX]
    exact this
  have x0 : W2.cell? ⟨X, 0, none⟩ = some (.pointer (some ⟨b, 0, none⟩)) := block_cell X2 0
  have y1 : W2.cell? ⟨X + 1, 1, none⟩ = some (.func (.func 91) #[] #[]) := block_cell Y2 1
  have y2 : W2.cell? ⟨X + 1, 2, none⟩ = some (.func (.func 92) #[] #[]) := block_cell Y2 2
  have y3 : W2.cell? ⟨X + 1, 3, none⟩ = some (.func (.func 93) #[] #[]) := block_cell Y2 3
  have HG2 : Hid (w.grownBy W2 none) := G2
  have HX0 : Hid (W2.cell? ⟨X, 0, none⟩ = some (.pointer (some ⟨b, 0, none⟩))) := x0
  have HY1 : Hid (W2.cell? ⟨X + 1, 1, none⟩ = some (.func (.func 91) #[] #[])) := y1
  have HY2 : Hid (W2.cell? ⟨X + 1, 2, none⟩ = some (.func (.func 92) #[] #[])) := y2
  have hxb : ¬ X = b := by omega
  have hyb : ¬ X + 1 = b := by omega
  have H0 : W2.grownBy W2.drew (some b) := grown_drew' _ _
  have HBd : Hid (Book ok W2.drew b es p) := (HB.out.keep G2).keep (grown_drew _)
  clear X2 Y2 y1 y2 G2
  go_enter Tryz.func104, Tryz.ntmps104
  go_upto_region 1 with fail
  rw [← hX, ← hW2]
  have HXs : Hid (X = w.heap.size) := hX
  clear hW2 hX
  refine wp_region_held_drew (S := fun w' => W2.grownBy w' (some b)) (by kernel_rfl) H0 (fun hHeld => ?_)
  refine wpAnyH_take (i := 0) (v := ?_) rfl (by kernel_rfl) (by kernel_rfl) (by kernel_rfl) (fun _ _ _ h => h) (Or.inl ⟨by rfl, ?_⟩) (by assumption) ?_
  rotate_left 1
  · (intro w0 hSw; go_simp; try with_reducible rfl)
  simp only [List.getElem_toArray, List.getElem_cons_zero]
  go_frame
  refine wpAnyH_take (i := 1) (v := ?_) rfl (by kernel_rfl) (by kernel_rfl) (by kernel_rfl) (fun _ _ _ h => h) (Or.inl ⟨by rfl, ?_⟩) (by assumption) ?_
  rotate_left 1
  · (intro w0 hSw; have a9 := World.grownBy.cell hSw y3 (by simpa using hyb); go_simp; try with_reducible rfl)
  simp only [List.getElem_toArray, List.getElem_cons_zero, List.getElem_cons_succ]
  go_frame
  refine wpAnyH_take (i := 3) (v := ?_) rfl (by kernel_rfl) (by kernel_rfl) (by kernel_rfl) (fun _ _ _ h => h) (Or.inl ⟨by rfl, ?_⟩) (by assumption) ?_
  rotate_left 1
  · (intro w0 hSw; have a9 := World.grownBy.cell hSw x0 (by simpa using hxb); go_simp; try with_reducible rfl)
  simp only [List.getElem_toArray, List.getElem_cons_zero, List.getElem_cons_succ]
  go_frame
  refine wpAnyH_take (i := 4) (v := ?_) rfl (by kernel_rfl) (by kernel_rfl) (by kernel_rfl) (fun _ _ _ h => h) (Or.inl ⟨by rfl, ?_⟩) (by assumption) ?_
  rotate_left 1
  · (intro w0 hSw; go_simp; try with_reducible rfl)
  simp only [List.getElem_toArray, List.getElem_cons_zero, List.getElem_cons_succ]
  go_frame
  refine wpAnyH_ready (rs := [2]) (by kernel_rfl) (by simp) ?_
  refine AllReadyH.cons rfl (fun K hK => ?_) AllReadyH.nil
  simp only [List.getElem_toArray, List.getElem_cons_zero, List.getElem_cons_succ]
  go_simp
  go_at_call 93
  refine (Wa.marks W2.drew).mono ?_
  rintro e U3 ⟨rfl, h3⟩
  have g3 : W2.drew.grownBy U3 none := by rw [h3]; exact grown_refl _ _
  have m3 : MsAt U3 b (.slice none 0 0) (sMs 3) := ⟨_, rfl, fun h => absurd h (by decide)⟩
  clear h3
  refine hK.out _ _ (grown_own' (grown_trans (grown_drew _) g3) (grown_refl _ _)) (fun hHeld2 => ?_)
  clear hK K
  (try go_frame)
  refine wpAnyH_ready (rs := [5]) (by kernel_rfl) (by simp) ?_
  refine AllReadyH.cons rfl (fun K hK => ?_) AllReadyH.nil
  simp only [List.getElem_toArray, List.getElem_cons_zero, List.getElem_cons_succ]
  go_simp
  go_at_call 183
  refine (addM_any ok b es p (sMs 3) _ U3 (HBd.out.keep g3) hok m3 HS.out.1 (by decide)).mono ?_
  rintro e U4 ⟨rfl, B4, g4⟩
  refine hK.out _ _ (grown_own' (grown_trans (grown_drew _) g3) g4) (fun hHeld2 => ?_)
  clear hK K
  (try go_frame)
  refine wpAnyH_take (i := 6) (v := ?_) rfl (by kernel_rfl) (by kernel_rfl) (by kernel_rfl) (fun _ _ _ h => h) (Or.inl ⟨by rfl, ?_⟩) (by assumption) ?_
  rotate_left 1
  · (intro w0 hSw; go_simp; try with_reducible rfl)
  simp only [List.getElem_toArray, List.getElem_cons_zero, List.getElem_cons_succ]
  go_frame
  refine wpAnyH_done (by kernel_rfl) ?_ _
  have HB4 : Hid (Book ok U4 b es (pMs p (sMs 3))) := B4
  have HG4 : Hid (W2.grownBy U4 (some b)) := grown_own' (grown_trans (grown_drew _) g3) g4
  clear B4 g4 g3 m3 hHeld hHeld2 H0 HBd x0 y3 HB
  have y2 := HG4.out.cell HY2.out (by simpa using hyb)
  go_wp2_with fail
  refine (Wa.traits U4).mono ?_
  rintro e U5 ⟨rfl, h5⟩
  have g5 : U4.grownBy U5 none := by rw [h5]; exact World.grownBy_alloc _ _ none
  have t5 : TsAt U5 b (.slice (some ⟨U4.heap.size, 0, none⟩) 2 2) (sTs 3) := ⟨_, rfl, fun _ => ⟨_, rfl, fun e => by have := HG2.out.size; have := HG4.out.size; omega, by rw [h5]; exact alloc_at _ _ _⟩⟩
  have CT := addT_any ok b X es (pMs p (sMs 3)) (sTs 3) _ U5 (HB4.out.keep g5) hok (((HN.out.keep HG2.out).keepR HG4.out (by simpa using fun e => h0 e.symm)).keep g5) h0 (g5.cell (HG4.out.cell HX0.out (by simpa using hxb)) (by simp)) hxb t5 HS.out.2.1 (by decide)
  rw [HS.out.2.2] at CT
  clear y2 h5 t5
  go_wp2_with fail
  refine CT.mono ?_
  rintro e U6 ⟨rfl, B6, g6⟩
  have HB6 : Hid (Book ok U6 b es q) := B6
  have HG6 : Hid (W2.grownBy U6 (some b)) := HG4.out.trans (grown_own' g5 g6)
  clear B6 g6 g5 CT HB4 HG4
  have y1 := HG6.out.cell HY1.out (by simpa using hyb)
  have x0 := HG6.out.cell HX0.out (by simpa using hxb)
  have H0 : U6.grownBy U6.drew (some b) := grown_drew' _ _
  go_upto_region 8 with fail
  refine wp_region_held_drew (S := fun w' => U6.grownBy w' (some b)) (by kernel_rfl) H0 (fun hHeld => ?_)
  refine wpAnyH_take (i := 0) (v := ?_) rfl (by kernel_rfl) (by kernel_rfl) (by kernel_rfl) (fun _ _ _ h => h) (Or.inl ⟨by rfl, ?_⟩) (by assumption) ?_
  rotate_left 1
  · (intro w0 hSw; go_simp; try with_reducible rfl)
  simp only [List.getElem_toArray, List.getElem_cons_zero]
  go_frame
  refine wpAnyH_take (i := 1) (v := ?_) rfl (by kernel_rfl) (by kernel_rfl) (by kernel_rfl) (fun _ _ _ h => h) (Or.inl ⟨by rfl, ?_⟩) (by assumption) ?_
  rotate_left 1
  · (intro w0 hSw; have a9 := World.grownBy.cell hSw y1 (by simpa using hyb); go_simp; try with_reducible rfl)
  simp only [List.getElem_toArray, List.getElem_cons_zero, List.getElem_cons_succ]
  go_frame
  refine wpAnyH_take (i := 3) (v := ?_) rfl (by kernel_rfl) (by kernel_rfl) (by kernel_rfl) (fun _ _ _ h => h) (Or.inl ⟨by rfl, ?_⟩) (by assumption) ?_
  rotate_left 1
  · (intro w0 hSw; have a9 := World.grownBy.cell hSw x0 (by simpa using hxb); go_simp; try with_reducible rfl)
  simp only [List.getElem_toArray, List.getElem_cons_zero, List.getElem_cons_succ]
  go_frame
  refine wpAnyH_take (i := 4) (v := ?_) rfl (by kernel_rfl) (by kernel_rfl) (by kernel_rfl) (fun _ _ _ h => h) (Or.inl ⟨by rfl, ?_⟩) (by assumption) ?_
  rotate_left 1
  · (intro w0 hSw; go_simp; try with_reducible rfl)
  simp only [List.getElem_toArray, List.getElem_cons_zero, List.getElem_cons_succ]
  go_frame
  refine wpAnyH_ready (rs := [2]) (by kernel_rfl) (by simp) ?_
  refine AllReadyH.cons rfl (fun K hK => ?_) AllReadyH.nil
  simp only [List.getElem_toArray, List.getElem_cons_zero, List.getElem_cons_succ]
  go_simp
  go_at_call 91
  refine (Wa.list_std U6.drew).mono ?_
  rintro e U7 ⟨g, cs, rfl, A⟩
  have hcl : cs.length = 6 := by have h9 := congrArg List.length A.is; rw [List.length_map] at h9; exact h9
  have szU : X ≤ U6.drew.heap.size := by have h6 := HXs.out; have h7 := HG2.out.size; have h8 := HG6.out.size; have h9 := (grown_drew U6).size; omega
  have CC := addC_any ok b g U6.drew.heap.size es cs q (sCs 3) d U7 ((HB6.out.keep (grown_drew _)).keep A.gr) hok (fun n hn => HW.out n (by have h6 := HXs.out; have h9 := A.gr.size; omega)) (fun e => by have h6 := HXs.out; have h9 := A.low; omega) A.lies A.is A.own (by have h6 := HXs.out; omega) HE.out HNo.out (fun x hx => cAll_chk x (sCs_mem (by decide) hx)) (by rw [show (sCs 3).length = 6 from rfl]; exact H64.out) (fun x hx => cAll_four x (sCs_mem (by decide) hx)) HQ.out
  rw [hcl] at CC
  refine hK.out _ _ (grown_own' (grown_trans (grown_drew _) A.gr) (grown_refl _ _)) (fun hHeld2 => ?_)
  clear hK K
  (try go_frame)
  refine wpAnyH_ready (rs := [5]) (by kernel_rfl) (by simp) ?_
  refine AllReadyH.cons rfl (fun K hK => ?_) AllReadyH.nil
  simp only [List.getElem_toArray, List.getElem_cons_zero, List.getElem_cons_succ]
  go_simp
  go_at_call 187
  refine (CC).mono ?_
  rintro e U8 ⟨rfl, es2, B8, P8, g8⟩
  refine hK.out _ _ (grown_own' (grown_trans (grown_drew _) A.gr) g8) (fun hHeld2 => ?_)
  clear hK K
  (try go_frame)
  refine wpAnyH_take (i := 6) (v := ?_) rfl (by kernel_rfl) (by kernel_rfl) (by kernel_rfl) (fun _ _ _ h => h) (Or.inl ⟨by rfl, ?_⟩) (by assumption) ?_
  rotate_left 1
  · (intro w0 hSw; go_simp; try with_reducible rfl)
  simp only [List.getElem_toArray, List.getElem_cons_zero, List.getElem_cons_succ]
  go_frame
  refine wpAnyH_done (by kernel_rfl) ?_ _
  have HF : Hid (Book ok U8 b es2 q ∧ (es2.map hp).Perm (d ++ sCs 3) ∧ w.grownBy U8 (some b)) := ⟨B8, P8, grown_own' HG2.out (HG6.out.trans (grown_own' (grown_trans (grown_drew _) A.gr) g8))⟩
  clear B8 P8 g8 A CC hHeld hHeld2 H0 x0 y1 HB6 HG6 hcl szU
  go_wp2
  go_ret
  exact ⟨rfl, es2, HF.out⟩
end Go.Proofs.YtknlcjhcamhfmaaGreatDoor
