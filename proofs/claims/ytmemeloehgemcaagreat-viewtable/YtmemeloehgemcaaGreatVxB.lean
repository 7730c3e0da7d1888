/-
  View's laws: the chapter's example.
-/
import Derived.Test.YtmemeloehgemcaaGreatT42
import Derived.Laws.EntriesVeiled
namespace Go.Proofs.YtmemeloehgemcaaGreat
open Go.RowKit Go.Shelf

def vxU (j : Nat) (vE vB vC : Value) : List Ent := if j = 0 then [] else if j = 1 then [⟨exC, vC, [exCp]⟩] else if j = 2 then [⟨vxB, vB, [exBp]⟩, ⟨exC, vC, [exCp]⟩] else vxES vE vB vC
theorem lit_th {W : World} {g S : Nat} (h : W.heap[g]? = some (.cells (thR.cs vxT).toArray 60 (0, 0))) (hS : S ≤ g) : thR.Own 60 W S (.slice (some ⟨g, 0, none⟩) 4 4) vxT := ⟨rfl, Or.inr ⟨g, 4, _, rfl, hS, h, Nat.le_refl _, (by unfold maxLen; decide), rfl, rfl⟩⟩
set_option maxRecDepth 100000 in
set_option maxHeartbeats 4000000 in
theorem vexample_any (w : World) : Calls Tryz.prog 24 #[] w fun e w' => ∃ vE vB vC S g, e = .returned (.tuple #[.pointer (some ⟨w.heap.size, 0, none⟩), .slice (some ⟨g, 0, none⟩) 4 4, .bool true]) ∧ VxR w w' w.heap.size S g vE vB vC := by
  have hmf : ∀ (fn : Fn) (first cap : Array Value) (w : World), (Instr.makeFunc fn first cap).run Tryz.prog w = .ok (.func fn first cap) w := fun _ _ _ _ => rfl
  have HN := bnew (tgOk w.heap.size) w
  obtain ⟨b, hb⟩ : ∃ b, b = w.heap.size := ⟨_, rfl⟩
  have HBb : Hid (b = w.heap.size) := hb
  rw [← hb] at HN ⊢
  clear hb
  go_enter Tryz.func24, Tryz.ntmps24
  go_wp2_with fail
  refine HN.mono ?_
  rintro e w1 ⟨rfl, B1, g1, hz1⟩
  obtain ⟨V1, hV1⟩ : ∃ V1, V1 = w1.alloc (.cells #[.pointer (some ⟨b, 0, none⟩)] 32) := ⟨_, rfl⟩
  have HG1 : Hid (w.grownBy V1 none) := by rw [hV1]; exact grown_push g1 _
  have HB1 : Hid (Book (tgOk b) V1 b [] plNew) := by rw [hV1]; exact B1.keep (World.grownBy_alloc _ _ none)
  have HX1 : Hid (BpB V1 w1.heap.size b ∧ b < w1.heap.size) := ⟨by rw [hV1]; exact alloc_at _ _ _, B1.lt⟩
  clear HN B1 g1 hz1
  go_upto_region 2 with fail
  rw [← hV1]
  clear hV1
  obtain ⟨n3, hn3⟩ : ∃ n3, n3 = w1.heap.size := ⟨_, rfl⟩
  rw [← hn3] at HX1 ⊢
  clear hn3
  obtain ⟨a1, ha1⟩ : ∃ a1, a1 = V1.heap.size := ⟨_, rfl⟩
  obtain ⟨V2, hV2⟩ : ∃ V2, V2 = ((V1.alloc (.cells #[.int .u8 5, .int .u8 15, .int .u8 9, .int .i64 1, .int .u8 6, .int .u8 0, .int .u8 0, .string ⟨#[]⟩] 47)).alloc (.cells #[.int .u8 5, .int .u8 11, .int .u8 5, .int .i64 0, .int .u8 6, .int .u8 0, .int .u8 0, .string ⟨#[]⟩] 47)).alloc (.cells #[.string ⟨#[99, 114, 111, 119, 110]⟩, .int .u8 6, .int .u8 3, .int .i64 0, .int .i64 0, .int .i64 0, .int .u16 0, .bool false, .slice (some ⟨V1.heap.size, 0, none⟩) 1 1, .string ⟨#[98, 114, 117, 115, 104]⟩, .int .u8 5, .int .u8 3, .int .i64 0, .int .i64 0, .int .i64 0, .int .u16 0, .bool false, .slice (some ⟨(V1.heap.size + 1), 0, none⟩) 1 1, .string ⟨#[98, 101, 97, 114]⟩, .int .u8 2, .int .u8 1, .int .i64 0, .int .i64 2, .int .i64 2, .int .u16 0, .bool false, .slice none 0 0] 88) := ⟨_, rfl⟩
  have HV2 : Hid (VxS w V2 b n3 V1.heap.size (V1.heap.size + 1) (V1.heap.size + 1 + 1) [] plNew) := by
    have g : V1.grownBy V2 none := by rw [hV2]; exact grown_push (grown_push (World.grownBy_alloc _ _ none) _) _
    have hb1 := HX1.out.2
    have hb2 := HB1.out.lt
    refine ⟨HB1.out.keep g, grown_keep g HX1.out.1 (by simp), ?_, ?_, ?_, grown_trans HG1.out g, by have := HBb.out; omega, hb1, hb2, by omega, by omega⟩
    · rw [hV2]; exact grown_keep (World.grownBy_alloc _ _ none) (alloc_two _ _ _ _ _) (by simp)
    · rw [hV2]; exact grown_keep (World.grownBy_alloc _ _ none) (alloc2_b _ _ _ _) (by simp)
    · rw [hV2]; exact alloc3_b _ _ _ _ _
  go_upto_region 3 with fail
  rw [← hV2]
  clear hV2 HB1 HX1 HG1 ha1 a1
  obtain ⟨a1, ha1⟩ : ∃ a1, a1 = V1.heap.size := ⟨_, rfl⟩
  obtain ⟨a2, ha2⟩ : ∃ a2, a2 = a1 + 1 := ⟨_, rfl⟩
  obtain ⟨nc, hnc⟩ : ∃ nc, nc = a2 + 1 := ⟨_, rfl⟩
  simp only [← ha1, ← ha2, ← hnc] at HV2 ⊢
  clear ha1 ha2 hnc
  go_wp2_with fail
  go_loopw [5] (fun i wr => ∃ (j : Nat) (vE vB vC : Value), j ≤ 3 ∧ i = .int .i64 (j : Int) ∧ Hid (VxS w wr b n3 a1 a2 nc (vxU j vE vB vC) plNew)) (fun i _ => 3 - (intOf i).toNat)
  case atStart => exact ⟨0, .bool false, .bool false, .bool false, by decide, rfl, HV2.out⟩
  case round =>
    clear HV2
    obtain ⟨j, vE, vB, vC, hj, rfl, HS⟩ := hrel
    obtain ⟨U, hU⟩ : ∃ U, U = wr := ⟨_, rfl⟩
    subst hU
    have hj' : j = 0 ∨ j = 1 ∨ j = 2 ∨ j = 3 := by omega
    clear hj
    rcases hj' with rfl | rfl | rfl | rfl
    · have HC : Hid (∀ X, U.grownBy X none → Calls Tryz.prog 41 #[.pointer (some ⟨b, 0, none⟩), .agg #[.string ⟨#[99, 114, 111, 119, 110]⟩, .int .u8 6, .int .u8 3, .int .i64 0, .int .i64 0, .int .i64 0, .int .u16 0, .bool false, .slice (some ⟨a1, 0, none⟩) 1 1]] X fun e w' => ∃ u, e = .returned (.int .i64 0) ∧ Book (tgOk b) w' b (ins [] ⟨exC, u, [exCp]⟩) plNew ∧ X.grownBy w' (some b)) := fun X g => by
        have h := bcard (tgOk b) b [] plNew exC (.slice (some ⟨a1, 0, none⟩) 1 1) [exCp] X (HS.out.bk.keep g) (Nat.lt_irrefl _) (fun q hq => by show b < q; have := (HS.out.bk.keep g).lt; omega) (ps_one (grown_keep g HS.out.q1 (by simp))) (by unfold Small; simp)
        rw [vx_caC] at h
        exact h
      have hnb : some n3 ≠ some b := fun q => by cases q; exact Nat.lt_irrefl _ HS.out.lie.2.1
      have hcb : some nc ≠ some b := fun q => by cases q; exact Nat.lt_irrefl _ HS.out.lie.2.2.2.2
      have x0 : U.cell? ⟨n3, 0, none⟩ = some (.pointer (some ⟨b, 0, none⟩)) := (block_cell HS.out.bx 0).trans rfl
      have c0 : U.cell? ⟨nc, 0, none⟩ = some (.string ⟨#[99, 114, 111, 119, 110]⟩) := (block_cell HS.out.cd 0).trans rfl
      have c1 : U.cell? ⟨nc, 1, none⟩ = some (.int .u8 6) := (block_cell HS.out.cd 1).trans rfl
      have c2 : U.cell? ⟨nc, 2, none⟩ = some (.int .u8 3) := (block_cell HS.out.cd 2).trans rfl
      have c3 : U.cell? ⟨nc, 3, none⟩ = some (.int .i64 0) := (block_cell HS.out.cd 3).trans rfl
      have c4 : U.cell? ⟨nc, 4, none⟩ = some (.int .i64 0) := (block_cell HS.out.cd 4).trans rfl
      have c5 : U.cell? ⟨nc, 5, none⟩ = some (.int .i64 0) := (block_cell HS.out.cd 5).trans rfl
      have c6 : U.cell? ⟨nc, 6, none⟩ = some (.int .u16 0) := (block_cell HS.out.cd 6).trans rfl
      have c7 : U.cell? ⟨nc, 7, none⟩ = some (.bool false) := (block_cell HS.out.cd 7).trans rfl
      have c8 : U.cell? ⟨nc, 8, none⟩ = some (.slice (some ⟨a1, 0, none⟩) 1 1) := (block_cell HS.out.cd 8).trans rfl
      go_upto_region 6 with fail
      refine wp_region_held_drew (S := fun w' => U.grownBy w' (some b)) (by kernel_rfl) (grown_drewR _ _) (fun hHeld => ?_)
      refine wpAnyH_take (i := 0) (v := ?_) rfl (by kernel_rfl) (by kernel_rfl) (by kernel_rfl) (fun _ _ _ h => h) (Or.inl ⟨by rfl, ?_⟩) (by assumption) ?_
      rotate_left 1
      · (intro w0 hSw; have x0 := hSw.cell x0 hnb; go_simp; try with_reducible rfl)
      simp only [List.getElem_toArray, List.getElem_cons_zero]
      go_frame
      refine wpAnyH_take (i := 1) (v := ?_) rfl (by kernel_rfl) (by kernel_rfl) (by kernel_rfl) (fun _ _ _ h => h) (Or.inl ⟨by rfl, ?_⟩) (by assumption) ?_
      rotate_left 1
      · (intro w0 hSw; go_simp; try with_reducible rfl)
      simp only [List.getElem_toArray, List.getElem_cons_zero, List.getElem_cons_succ]
      go_frame
      refine wpAnyH_take (i := 2) (v := ?_) rfl (by kernel_rfl) (by kernel_rfl) (by kernel_rfl) (fun _ _ _ h => h) (Or.inl ⟨by rfl, ?_⟩) (by assumption) ?_
      rotate_left 1
      · (intro w0 hSw; go_simp; try with_reducible rfl)
      simp only [List.getElem_toArray, List.getElem_cons_zero, List.getElem_cons_succ]
      go_frame
      refine wpAnyH_take (i := 3) (v := ?_) rfl (by kernel_rfl) (by kernel_rfl) (by kernel_rfl) (fun _ _ _ h => h) (Or.inl ⟨by rfl, ?_⟩) (by assumption) ?_
      rotate_left 1
      · (intro w0 hSw; go_simp; try with_reducible rfl)
      simp only [List.getElem_toArray, List.getElem_cons_zero, List.getElem_cons_succ]
      go_frame
      refine wpAnyH_take (i := 4) (v := ?_) rfl (by kernel_rfl) (by kernel_rfl) (by kernel_rfl) (fun _ _ _ h => h) (Or.inl ⟨by rfl, ?_⟩) (by assumption) ?_
      rotate_left 1
      · (intro w0 hSw; have c0 := hSw.cell c0 hcb; have c1 := hSw.cell c1 hcb; have c2 := hSw.cell c2 hcb; have c3 := hSw.cell c3 hcb; have c4 := hSw.cell c4 hcb; have c5 := hSw.cell c5 hcb; have c6 := hSw.cell c6 hcb; have c7 := hSw.cell c7 hcb; have c8 := hSw.cell c8 hcb; go_simp; try with_reducible rfl)
      simp only [List.getElem_toArray, List.getElem_cons_zero, List.getElem_cons_succ]
      go_frame
      refine wpAnyH_ready (rs := [5]) (by kernel_rfl) (by simp) ?_
      refine AllReadyH.cons rfl (fun K hK => ?_) AllReadyH.nil
      simp only [List.getElem_toArray, List.getElem_cons_zero, List.getElem_cons_succ]
      go_simp
      go_at_call 41
      refine (HC.out _ (grown_drew _)).mono ?_
      rintro e5 w5 ⟨u, rfl, B5, g5⟩
      have HS5 : Hid (VxS w w5 b n3 a1 a2 nc (vxU 1 vE vB u) plNew) := (HS.out.keep (grown_drew _)).turn g5 (by rw [vx_inC] at B5; exact B5)
      have HG5 : Hid (U.grownBy w5 (some b)) := grown_trans (grown_drewR _ _) g5
      clear B5 g5 HC HS hnb hcb x0 c0 c1 c2 c3 c4 c5 c6 c7 c8
      refine hK.out _ _ (HG5.out) (fun hHeld2 => ?_)
      clear hK K
      (try go_frame)
      refine wpAnyH_take (i := 6) (v := ?_) rfl (by kernel_rfl) (by kernel_rfl) (by kernel_rfl) (fun _ _ _ h => h) (Or.inl ⟨by rfl, ?_⟩) (by assumption) ?_
      rotate_left 1
      · (intro w0 hSw; go_simp; try with_reducible rfl)
      simp only [List.getElem_toArray, List.getElem_cons_zero, List.getElem_cons_succ]
      go_frame
      refine wpAnyH_done (by kernel_rfl) ?_ _
      clear hHeld hHeld2
      go_wp2_with fail
      go_roundw
      case rel => exact ⟨1, vE, vB, u, by decide, rfl, HS5⟩
      case measure => decide
    · have HC : Hid (∀ X, U.grownBy X none → Calls Tryz.prog 41 #[.pointer (some ⟨b, 0, none⟩), .agg #[.string ⟨#[98, 114, 117, 115, 104]⟩, .int .u8 5, .int .u8 3, .int .i64 0, .int .i64 0, .int .i64 0, .int .u16 0, .bool false, .slice (some ⟨a2, 0, none⟩) 1 1]] X fun e w' => ∃ u, e = .returned (.int .i64 0) ∧ Book (tgOk b) w' b (ins [⟨exC, vC, [exCp]⟩] ⟨vxB, u, [exBp]⟩) plNew ∧ X.grownBy w' (some b)) := fun X g => by
        have h := bcard (tgOk b) b [⟨exC, vC, [exCp]⟩] plNew vxB (.slice (some ⟨a2, 0, none⟩) 1 1) [exBp] X (HS.out.bk.keep g) (Nat.lt_irrefl _) (fun q hq => by show b < q; have := (HS.out.bk.keep g).lt; omega) (ps_one (grown_keep g HS.out.q2 (by simp))) (by unfold Small; simp)
        rw [vx_caB] at h
        exact h
      have hnb : some n3 ≠ some b := fun q => by cases q; exact Nat.lt_irrefl _ HS.out.lie.2.1
      have hcb : some nc ≠ some b := fun q => by cases q; exact Nat.lt_irrefl _ HS.out.lie.2.2.2.2
      have x0 : U.cell? ⟨n3, 0, none⟩ = some (.pointer (some ⟨b, 0, none⟩)) := (block_cell HS.out.bx 0).trans rfl
      have c0 : U.cell? ⟨nc, 9, none⟩ = some (.string ⟨#[98, 114, 117, 115, 104]⟩) := (block_cell HS.out.cd 9).trans rfl
      have c1 : U.cell? ⟨nc, 10, none⟩ = some (.int .u8 5) := (block_cell HS.out.cd 10).trans rfl
      have c2 : U.cell? ⟨nc, 11, none⟩ = some (.int .u8 3) := (block_cell HS.out.cd 11).trans rfl
      have c3 : U.cell? ⟨nc, 12, none⟩ = some (.int .i64 0) := (block_cell HS.out.cd 12).trans rfl
      have c4 : U.cell? ⟨nc, 13, none⟩ = some (.int .i64 0) := (block_cell HS.out.cd 13).trans rfl
      have c5 : U.cell? ⟨nc, 14, none⟩ = some (.int .i64 0) := (block_cell HS.out.cd 14).trans rfl
      have c6 : U.cell? ⟨nc, 15, none⟩ = some (.int .u16 0) := (block_cell HS.out.cd 15).trans rfl
      have c7 : U.cell? ⟨nc, 16, none⟩ = some (.bool false) := (block_cell HS.out.cd 16).trans rfl
      have c8 : U.cell? ⟨nc, 17, none⟩ = some (.slice (some ⟨a2, 0, none⟩) 1 1) := (block_cell HS.out.cd 17).trans rfl
      go_upto_region 6 with fail
      refine wp_region_held_drew (S := fun w' => U.grownBy w' (some b)) (by kernel_rfl) (grown_drewR _ _) (fun hHeld => ?_)
      refine wpAnyH_take (i := 0) (v := ?_) rfl (by kernel_rfl) (by kernel_rfl) (by kernel_rfl) (fun _ _ _ h => h) (Or.inl ⟨by rfl, ?_⟩) (by assumption) ?_
      rotate_left 1
      · (intro w0 hSw; have x0 := hSw.cell x0 hnb; go_simp; try with_reducible rfl)
      simp only [List.getElem_toArray, List.getElem_cons_zero]
      go_frame
      refine wpAnyH_take (i := 1) (v := ?_) rfl (by kernel_rfl) (by kernel_rfl) (by kernel_rfl) (fun _ _ _ h => h) (Or.inl ⟨by rfl, ?_⟩) (by assumption) ?_
      rotate_left 1
      · (intro w0 hSw; go_simp; try with_reducible rfl)
      simp only [List.getElem_toArray, List.getElem_cons_zero, List.getElem_cons_succ]
      go_frame
      refine wpAnyH_take (i := 2) (v := ?_) rfl (by kernel_rfl) (by kernel_rfl) (by kernel_rfl) (fun _ _ _ h => h) (Or.inl ⟨by rfl, ?_⟩) (by assumption) ?_
      rotate_left 1
      · (intro w0 hSw; go_simp; try with_reducible rfl)
      simp only [List.getElem_toArray, List.getElem_cons_zero, List.getElem_cons_succ]
      go_frame
      refine wpAnyH_take (i := 3) (v := ?_) rfl (by kernel_rfl) (by kernel_rfl) (by kernel_rfl) (fun _ _ _ h => h) (Or.inl ⟨by rfl, ?_⟩) (by assumption) ?_
      rotate_left 1
      · (intro w0 hSw; go_simp; try with_reducible rfl)
      simp only [List.getElem_toArray, List.getElem_cons_zero, List.getElem_cons_succ]
      go_frame
      refine wpAnyH_take (i := 4) (v := ?_) rfl (by kernel_rfl) (by kernel_rfl) (by kernel_rfl) (fun _ _ _ h => h) (Or.inl ⟨by rfl, ?_⟩) (by assumption) ?_
      rotate_left 1
      · (intro w0 hSw; have c0 := hSw.cell c0 hcb; have c1 := hSw.cell c1 hcb; have c2 := hSw.cell c2 hcb; have c3 := hSw.cell c3 hcb; have c4 := hSw.cell c4 hcb; have c5 := hSw.cell c5 hcb; have c6 := hSw.cell c6 hcb; have c7 := hSw.cell c7 hcb; have c8 := hSw.cell c8 hcb; go_simp; try with_reducible rfl)
      simp only [List.getElem_toArray, List.getElem_cons_zero, List.getElem_cons_succ]
      go_frame
      refine wpAnyH_ready (rs := [5]) (by kernel_rfl) (by simp) ?_
      refine AllReadyH.cons rfl (fun K hK => ?_) AllReadyH.nil
      simp only [List.getElem_toArray, List.getElem_cons_zero, List.getElem_cons_succ]
      go_simp
      go_at_call 41
      refine (HC.out _ (grown_drew _)).mono ?_
      rintro e5 w5 ⟨u, rfl, B5, g5⟩
      have HS5 : Hid (VxS w w5 b n3 a1 a2 nc (vxU 2 vE u vC) plNew) := (HS.out.keep (grown_drew _)).turn g5 (by rw [vx_inB] at B5; exact B5)
      have HG5 : Hid (U.grownBy w5 (some b)) := grown_trans (grown_drewR _ _) g5
      clear B5 g5 HC HS hnb hcb x0 c0 c1 c2 c3 c4 c5 c6 c7 c8
      refine hK.out _ _ (HG5.out) (fun hHeld2 => ?_)
      clear hK K
      (try go_frame)
      refine wpAnyH_take (i := 6) (v := ?_) rfl (by kernel_rfl) (by kernel_rfl) (by kernel_rfl) (fun _ _ _ h => h) (Or.inl ⟨by rfl, ?_⟩) (by assumption) ?_
      rotate_left 1
      · (intro w0 hSw; go_simp; try with_reducible rfl)
      simp only [List.getElem_toArray, List.getElem_cons_zero, List.getElem_cons_succ]
      go_frame
      refine wpAnyH_done (by kernel_rfl) ?_ _
      clear hHeld hHeld2
      go_wp2_with fail
      go_roundw
      case rel => exact ⟨2, vE, u, vC, by decide, rfl, HS5⟩
      case measure => decide
    · have HC : Hid (∀ X, U.grownBy X none → Calls Tryz.prog 41 #[.pointer (some ⟨b, 0, none⟩), .agg #[.string ⟨#[98, 101, 97, 114]⟩, .int .u8 2, .int .u8 1, .int .i64 0, .int .i64 2, .int .i64 2, .int .u16 0, .bool false, .slice none 0 0]] X fun e w' => ∃ u, e = .returned (.int .i64 0) ∧ Book (tgOk b) w' b (ins [⟨vxB, vB, [exBp]⟩, ⟨exC, vC, [exCp]⟩] ⟨exE, u, []⟩) plNew ∧ X.grownBy w' (some b)) := fun X g => by
        have h := bcard (tgOk b) b [⟨vxB, vB, [exBp]⟩, ⟨exC, vC, [exCp]⟩] plNew exE (.slice none 0 0) [] X (HS.out.bk.keep g) (Nat.lt_irrefl _) (fun q hq => by show b < q; have := (HS.out.bk.keep g).lt; omega) (Or.inl ⟨rfl, rfl⟩) (by unfold Small; simp)
        rw [vx_caE] at h
        exact h
      have hnb : some n3 ≠ some b := fun q => by cases q; exact Nat.lt_irrefl _ HS.out.lie.2.1
      have hcb : some nc ≠ some b := fun q => by cases q; exact Nat.lt_irrefl _ HS.out.lie.2.2.2.2
      have x0 : U.cell? ⟨n3, 0, none⟩ = some (.pointer (some ⟨b, 0, none⟩)) := (block_cell HS.out.bx 0).trans rfl
      have c0 : U.cell? ⟨nc, 18, none⟩ = some (.string ⟨#[98, 101, 97, 114]⟩) := (block_cell HS.out.cd 18).trans rfl
      have c1 : U.cell? ⟨nc, 19, none⟩ = some (.int .u8 2) := (block_cell HS.out.cd 19).trans rfl
      have c2 : U.cell? ⟨nc, 20, none⟩ = some (.int .u8 1) := (block_cell HS.out.cd 20).trans rfl
      have c3 : U.cell? ⟨nc, 21, none⟩ = some (.int .i64 0) := (block_cell HS.out.cd 21).trans rfl
      have c4 : U.cell? ⟨nc, 22, none⟩ = some (.int .i64 2) := (block_cell HS.out.cd 22).trans rfl
      have c5 : U.cell? ⟨nc, 23, none⟩ = some (.int .i64 2) := (block_cell HS.out.cd 23).trans rfl
      have c6 : U.cell? ⟨nc, 24, none⟩ = some (.int .u16 0) := (block_cell HS.out.cd 24).trans rfl
      have c7 : U.cell? ⟨nc, 25, none⟩ = some (.bool false) := (block_cell HS.out.cd 25).trans rfl
      have c8 : U.cell? ⟨nc, 26, none⟩ = some (.slice none 0 0) := (block_cell HS.out.cd 26).trans rfl
      go_upto_region 6 with fail
      refine wp_region_held_drew (S := fun w' => U.grownBy w' (some b)) (by kernel_rfl) (grown_drewR _ _) (fun hHeld => ?_)
      refine wpAnyH_take (i := 0) (v := ?_) rfl (by kernel_rfl) (by kernel_rfl) (by kernel_rfl) (fun _ _ _ h => h) (Or.inl ⟨by rfl, ?_⟩) (by assumption) ?_
      rotate_left 1
      · (intro w0 hSw; have x0 := hSw.cell x0 hnb; go_simp; try with_reducible rfl)
      simp only [List.getElem_toArray, List.getElem_cons_zero]
      go_frame
      refine wpAnyH_take (i := 1) (v := ?_) rfl (by kernel_rfl) (by kernel_rfl) (by kernel_rfl) (fun _ _ _ h => h) (Or.inl ⟨by rfl, ?_⟩) (by assumption) ?_
      rotate_left 1
      · (intro w0 hSw; go_simp; try with_reducible rfl)
      simp only [List.getElem_toArray, List.getElem_cons_zero, List.getElem_cons_succ]
      go_frame
      refine wpAnyH_take (i := 2) (v := ?_) rfl (by kernel_rfl) (by kernel_rfl) (by kernel_rfl) (fun _ _ _ h => h) (Or.inl ⟨by rfl, ?_⟩) (by assumption) ?_
      rotate_left 1
      · (intro w0 hSw; go_simp; try with_reducible rfl)
      simp only [List.getElem_toArray, List.getElem_cons_zero, List.getElem_cons_succ]
      go_frame
      refine wpAnyH_take (i := 3) (v := ?_) rfl (by kernel_rfl) (by kernel_rfl) (by kernel_rfl) (fun _ _ _ h => h) (Or.inl ⟨by rfl, ?_⟩) (by assumption) ?_
      rotate_left 1
      · (intro w0 hSw; go_simp; try with_reducible rfl)
      simp only [List.getElem_toArray, List.getElem_cons_zero, List.getElem_cons_succ]
      go_frame
      refine wpAnyH_take (i := 4) (v := ?_) rfl (by kernel_rfl) (by kernel_rfl) (by kernel_rfl) (fun _ _ _ h => h) (Or.inl ⟨by rfl, ?_⟩) (by assumption) ?_
      rotate_left 1
      · (intro w0 hSw; have c0 := hSw.cell c0 hcb; have c1 := hSw.cell c1 hcb; have c2 := hSw.cell c2 hcb; have c3 := hSw.cell c3 hcb; have c4 := hSw.cell c4 hcb; have c5 := hSw.cell c5 hcb; have c6 := hSw.cell c6 hcb; have c7 := hSw.cell c7 hcb; have c8 := hSw.cell c8 hcb; go_simp; try with_reducible rfl)
      simp only [List.getElem_toArray, List.getElem_cons_zero, List.getElem_cons_succ]
      go_frame
      refine wpAnyH_ready (rs := [5]) (by kernel_rfl) (by simp) ?_
      refine AllReadyH.cons rfl (fun K hK => ?_) AllReadyH.nil
      simp only [List.getElem_toArray, List.getElem_cons_zero, List.getElem_cons_succ]
      go_simp
      go_at_call 41
      refine (HC.out _ (grown_drew _)).mono ?_
      rintro e5 w5 ⟨u, rfl, B5, g5⟩
      have HS5 : Hid (VxS w w5 b n3 a1 a2 nc (vxU 3 u vB vC) plNew) := (HS.out.keep (grown_drew _)).turn g5 (by rw [vx_inE] at B5; exact B5)
      have HG5 : Hid (U.grownBy w5 (some b)) := grown_trans (grown_drewR _ _) g5
      clear B5 g5 HC HS hnb hcb x0 c0 c1 c2 c3 c4 c5 c6 c7 c8
      refine hK.out _ _ (HG5.out) (fun hHeld2 => ?_)
      clear hK K
      (try go_frame)
      refine wpAnyH_take (i := 6) (v := ?_) rfl (by kernel_rfl) (by kernel_rfl) (by kernel_rfl) (fun _ _ _ h => h) (Or.inl ⟨by rfl, ?_⟩) (by assumption) ?_
      rotate_left 1
      · (intro w0 hSw; go_simp; try with_reducible rfl)
      simp only [List.getElem_toArray, List.getElem_cons_zero, List.getElem_cons_succ]
      go_frame
      refine wpAnyH_done (by kernel_rfl) ?_ _
      clear hHeld hHeld2
      go_wp2_with fail
      go_roundw
      case rel => exact ⟨3, u, vB, vC, by decide, rfl, HS5⟩
      case measure => decide
    · have HM1 := bmark (tgOk b) b (vxES vE vB vC) plNew tgU U HS.out.bk (Nat.lt_irrefl _)
      rw [tx_up, tx_upP] at HM1
      unfold mv tgU at HM1
      have x0 : U.cell? ⟨n3, 0, none⟩ = some (.pointer (some ⟨b, 0, none⟩)) := (block_cell HS.out.bx 0).trans rfl
      go_wp2_with fail
      refine HM1.mono ?_
      rintro e2 w2 ⟨rfl, B2, g2⟩
      have HS2 : Hid (VxS w w2 b n3 a1 a2 nc (vxES vE vB vC) tgP1) := HS.out.turn g2 B2
      have HM2 := bmark (tgOk b) b (vxES vE vB vC) tgP1 tgD w2 HS2.out.bk (Nat.lt_irrefl _)
      rw [tx_down, tx_downP] at HM2
      unfold mv tgD at HM2
      clear HM1 B2 g2 HS x0
      have x0 : w2.cell? ⟨n3, 0, none⟩ = some (.pointer (some ⟨b, 0, none⟩)) := (block_cell HS2.out.bx 0).trans rfl
      go_wp2_with fail
      refine HM2.mono ?_
      rintro e3 w3 ⟨rfl, B3, g3⟩
      have HS3 : Hid (VxS w w3 b n3 a1 a2 nc (vxES vE vB vC) tgP2) := HS2.out.turn g3 B3
      have HE := bseal (tgOk b) b (vxES vE vB vC) tgP2 w3 HS3.out.bk (Nat.lt_irrefl _)
      rw [vx_seal, vx_shut] at HE
      clear HM2 B3 g3 HS2 x0
      have x0 : w3.cell? ⟨n3, 0, none⟩ = some (.pointer (some ⟨b, 0, none⟩)) := (block_cell HS3.out.bx 0).trans rfl
      go_wp2_with fail
      refine HE.mono ?_
      rintro e4 w4 ⟨rfl, B4, g4⟩
      have HS4 : Hid (VxS w w4 b n3 a1 a2 nc (vxES vE vB vC) vxP) := HS3.out.turn g4 B4
      clear HE B4 g4 HS3 x0
      obtain ⟨V5, hV5⟩ : ∃ V5, V5 = w4.alloc (.cells #[.func (.func 67) #[] #[.pointer (some ⟨n3, 0, none⟩)]] 135) := ⟨_, rfl⟩
      obtain ⟨S, hS⟩ : ∃ S, S = w4.heap.size := ⟨_, rfl⟩
      have g5 : w4.grownBy V5 none := by rw [hV5]; exact World.grownBy_alloc _ _ none
      have HV5 : Hid (Book (fun k => tgOk b k ∧ k < S) V5 b (vxES vE vB vC) vxP ∧ BpB V5 n3 b ∧ FnB V5 S n3 ∧ w.grownBy V5 none) := ⟨by rw [hS]; exact HS4.out.bk.oldL.keep g5, grown_keep g5 HS4.out.bx (by simp), by rw [hS, hV5]; exact alloc_at _ _ _, grown_trans HS4.out.gr g5⟩
      have HSb : Hid (S < V5.heap.size ∧ b < S ∧ w.heap.size ≤ b) := ⟨block_lt HV5.out.2.2.1, by rw [hS]; exact HS4.out.bk.lt, HS4.out.lie.1⟩
      go_upto_region 12 with fail
      rw [← hV5, ← hS]
      clear hV5 hS g5 HS4
      have HOn : Hid (∀ X s ow st y, V5.grownBy X none → fndN vxP.shut (pos (names (vxES vE vB vC)) s) = y → Calls Tryz.prog 68 #[.string s, .int .i64 ow, .int .i64 st, .pointer (some ⟨S, 0, none⟩)] X fun e w' => e = .returned (.agg #[.int .i64 y, .int .i64 ow, .int .u8 4, .int .i64 st, .int .i64 0, .int .i64 0, .int .i64 0, .int .i64 0, .int .i64 0, .int .i64 0, .bool false]) ∧ X.grownBy w' none) := fun X s ow st y g h => von_any b n3 S (vxES vE vB vC) vxP _ s ow st y X (HV5.out.1.keep g) (grown_keep g HV5.out.2.1 (by simp)) (grown_keep g HV5.out.2.2.1 (by simp)) h
      have x0 : V5.cell? ⟨n3, 0, none⟩ = some (.pointer (some ⟨b, 0, none⟩)) := (block_cell HV5.out.2.1 0).trans rfl
      refine wp_region_held_drew (S := fun w' => V5.grownBy w' none) (by kernel_rfl) (grown_drew _) (fun hHeld => ?_)
      refine wpAnyH_take (i := 0) (v := ?_) rfl (by kernel_rfl) (by kernel_rfl) (by kernel_rfl) (fun _ _ _ h => h) (Or.inl ⟨by rfl, ?_⟩) (by assumption) ?_
      rotate_left 1
      · (intro w0 hSw; have x0 := hSw.cell x0 (by simp); go_simp; try with_reducible rfl)
      simp only [List.getElem_toArray, List.getElem_cons_zero]
      go_frame
      refine wpAnyH_take (i := 1) (v := ?_) rfl (by kernel_rfl) (by kernel_rfl) (by kernel_rfl) (fun _ _ _ h => h) (Or.inl ⟨by rfl, ?_⟩) (by assumption) ?_
      rotate_left 1
      · (intro w0 hSw; go_simp; try with_reducible rfl)
      simp only [List.getElem_toArray, List.getElem_cons_zero, List.getElem_cons_succ]
      go_frame
      refine wpAnyH_take (i := 3) (v := ?_) rfl (by kernel_rfl) (by kernel_rfl) (by kernel_rfl) (fun _ _ _ h => h) (Or.inl ⟨by rfl, ?_⟩) (by assumption) ?_
      rotate_left 1
      · (intro w0 hSw; go_simp; try with_reducible rfl)
      simp only [List.getElem_toArray, List.getElem_cons_zero, List.getElem_cons_succ]
      go_frame
      refine wpAnyH_take (i := 5) (v := ?_) rfl (by kernel_rfl) (by kernel_rfl) (by kernel_rfl) (fun _ _ _ h => h) (Or.inl ⟨by rfl, ?_⟩) (by assumption) ?_
      rotate_left 1
      · (intro w0 hSw; go_simp; try with_reducible rfl)
      simp only [List.getElem_toArray, List.getElem_cons_zero, List.getElem_cons_succ]
      go_frame
      refine wpAnyH_take (i := 7) (v := ?_) rfl (by kernel_rfl) (by kernel_rfl) (by kernel_rfl) (fun _ _ _ h => h) (Or.inl ⟨by rfl, ?_⟩) (by assumption) ?_
      rotate_left 1
      · (intro w0 hSw; go_simp; try with_reducible rfl)
      simp only [List.getElem_toArray, List.getElem_cons_zero, List.getElem_cons_succ]
      go_frame
      refine wpAnyH_ready (rs := [2]) (by kernel_rfl) (by simp) ?_
      refine AllReadyH.cons rfl (fun K hK => ?_) AllReadyH.nil
      simp only [List.getElem_toArray, List.getElem_cons_zero, List.getElem_cons_succ]
      go_simp
      go_at_call 68
      refine (HOn.out _ exC.nm 0 1 3 (grown_drew _) (vx_fN vE vB vC).1.1).mono ?_
      rintro e20 y0 ⟨rfl, g20⟩
      have HH0 : Hid (V5.grownBy y0 none) := grown_trans (grown_drew _) g20
      clear g20
      refine hK.out _ _ (HH0.out) (fun hHeld2 => ?_)
      clear hK K
      (try go_frame)
      refine wpAnyH_ready (rs := [4]) (by kernel_rfl) (by simp) ?_
      refine AllReadyH.cons rfl (fun K hK => ?_) AllReadyH.nil
      simp only [List.getElem_toArray, List.getElem_cons_zero, List.getElem_cons_succ]
      go_simp
      go_at_call 68
      refine (HOn.out _ vxB.nm 0 2 2 HH0.out (vx_fN vE vB vC).1.2).mono ?_
      rintro e21 y1 ⟨rfl, g21⟩
      have HH1 : Hid (V5.grownBy y1 none) := grown_trans HH0.out g21
      clear g21
      refine hK.out _ _ (HH1.out) (fun hHeld2 => ?_)
      clear hK K
      (try go_frame)
      refine wpAnyH_ready (rs := [6]) (by kernel_rfl) (by simp) ?_
      refine AllReadyH.cons rfl (fun K hK => ?_) AllReadyH.nil
      simp only [List.getElem_toArray, List.getElem_cons_zero, List.getElem_cons_succ]
      go_simp
      go_at_call 68
      refine (HOn.out _ exE.nm 0 3 1 HH1.out (vx_fN vE vB vC).2).mono ?_
      rintro e22 y2 ⟨rfl, g22⟩
      have HH2 : Hid (V5.grownBy y2 none) := grown_trans HH1.out g22
      clear g22
      refine hK.out _ _ (HH2.out) (fun hHeld2 => ?_)
      clear hK K
      (try go_frame)
      refine wpAnyH_ready (rs := [8]) (by kernel_rfl) (by simp) ?_
      refine AllReadyH.cons rfl (fun K hK => ?_) AllReadyH.nil
      simp only [List.getElem_toArray, List.getElem_cons_zero, List.getElem_cons_succ]
      go_simp
      go_at_call 68
      refine (HOn.out _ exE.nm 1 4 1 HH2.out (vx_fN vE vB vC).2).mono ?_
      rintro e23 y3 ⟨rfl, g23⟩
      have HH3 : Hid (V5.grownBy y3 none) := grown_trans HH2.out g23
      clear g23
      refine hK.out _ _ (HH3.out) (fun hHeld2 => ?_)
      clear hK K
      (try go_frame)
      obtain ⟨Z, hZ⟩ : ∃ Z, Z = y3.alloc (.cells #[.int .i64 3, .int .i64 0, .int .u8 4, .int .i64 1, .int .i64 0, .int .i64 0, .int .i64 0, .int .i64 0, .int .i64 0, .int .i64 0, .bool false, .int .i64 2, .int .i64 0, .int .u8 4, .int .i64 2, .int .i64 0, .int .i64 0, .int .i64 0, .int .i64 0, .int .i64 0, .int .i64 0, .bool false, .int .i64 1, .int .i64 0, .int .u8 4, .int .i64 3, .int .i64 0, .int .i64 0, .int .i64 0, .int .i64 0, .int .i64 0, .int .i64 0, .bool false, .int .i64 1, .int .i64 1, .int .u8 4, .int .i64 4, .int .i64 0, .int .i64 0, .int .i64 0, .int .i64 0, .int .i64 0, .int .i64 0, .bool false] 60) := ⟨_, rfl⟩
      have HZg : Hid (V5.grownBy Z none) := by rw [hZ]; exact grown_push HH3.out _
      have HZb : Hid (Z.heap[y3.heap.size]? = some (.cells (thR.cs vxT).toArray 60 (0, 0))) := by rw [hZ]; exact alloc_at _ _ _
      have HZs : Hid (S ≤ y3.heap.size) := Nat.le_trans (Nat.le_of_lt HSb.out.1) HH3.out.size
      refine wpAnyH_take (i := 10) (v := ?_) rfl (by kernel_rfl) (by kernel_rfl) (by kernel_rfl) (fun _ _ _ h => h) (Or.inl ⟨by rfl, ?_⟩) (by assumption) ?_
      rotate_left 1
      · (intro w0 hSw; go_simp; try with_reducible rfl)
      simp only [List.getElem_toArray, List.getElem_cons_zero, List.getElem_cons_succ]
      go_frame
      refine wpAnyH_ready (rs := [9]) (by kernel_rfl) (by simp) ?_
      refine AllReadyH.cons rfl (fun K9 hK => ?_) AllReadyH.nil
      simp only [List.getElem_toArray, List.getElem_cons_zero, List.getElem_cons_succ]
      go_simp
      rw [← hZ]
      refine hK.out _ _ (HZg.out) (fun hHeld3 => ?_)
      clear hK K9
      (try go_frame)
      refine wpAnyH_take (i := 11) (v := ?_) rfl (by kernel_rfl) (by kernel_rfl) (by kernel_rfl) (fun _ _ _ h => h) (Or.inl ⟨by rfl, ?_⟩) (by assumption) ?_
      rotate_left 1
      · (intro w0 hSw; go_simp; try with_reducible rfl)
      simp only [List.getElem_toArray, List.getElem_cons_zero, List.getElem_cons_succ]
      go_frame
      refine wpAnyH_take (i := 12) (v := ?_) rfl (by kernel_rfl) (by kernel_rfl) (by kernel_rfl) (fun _ _ _ h => h) (Or.inl ⟨by rfl, ?_⟩) (by assumption) ?_
      rotate_left 1
      · (intro w0 hSw; go_simp; try with_reducible rfl)
      simp only [List.getElem_toArray, List.getElem_cons_zero, List.getElem_cons_succ]
      go_frame
      refine wpAnyH_done (by kernel_rfl) ?_ _
      clear hZ
      go_wp2_with fail
      refine bodyPost_ret (v := .tuple #[.pointer (some ⟨b, 0, none⟩), .slice (some ⟨y3.heap.size, 0, none⟩) 4 4, .bool true]) (by simp [results, Tryz.results24, go_sem]) rfl ?_
      exact ⟨vE, vB, vC, S, y3.heap.size, rfl, ⟨HV5.out.1.keep HZg.out, lit_th HZb.out HZs.out, grown_trans HV5.out.2.2.2 HZg.out, HSb.out.2.2, HSb.out.2.1⟩⟩
end Go.Proofs.YtmemeloehgemcaaGreat
