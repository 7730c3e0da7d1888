/-
  Zones: a thing leaves the deck or the hand where it is: the program's leave; a thing at home.
-/
import Derived.Test.YtogpgldbbegniaaZmK
namespace Go.Proofs.Ytogpgldbbegniaa
open Go.RowKit

theorem ZG.congr {T : TypeId} {ex : List Value} {w : World} {b : Nat} {S : List Nat} {z y : Zs} {vt d0 d1 h0 h1 : Value} (h : ZG T ex w b S z vt d0 d1 h0 h1) (e1 : y.ts = z.ts) (e2 : y.nx = z.nx) (e3 : y.dk 0 = z.dk 0) (e4 : y.dk 1 = z.dk 1) (e5 : y.hd 0 = z.hd 0) (e6 : y.hd 1 = z.hd 1) : ZG T ex w b S y vt d0 d1 h0 h1 :=
  ⟨by rw [e2]; exact h.blk, by rw [e1]; exact h.ts, by rw [e3]; exact h.od0, by rw [e4]; exact h.od1, by rw [e5]; exact h.oh0, by rw [e6]; exact h.oh1, h.inb, h.inS, h.dif⟩
/-- Zones without a thing in its owner's deck and hand. -/
def Zs.left (z : Zs) (n : Int) : Zs := { z with dk := fun p => if p = (thAt z.ts n).owner then (z.dk p).filter (· != n) else z.dk p, hd := fun p => if p = (thAt z.ts n).owner then (z.hd p).filter (· != n) else z.hd p }
theorem own_zero {w : World} {base e size n : Nat} {v : Value} {xs : List Value} (h : w.ownsRow base e size v n xs) : w.ownsRow 0 e size v n xs := by
  refine ⟨h.1, ?_⟩
  rcases h.2 with q | ⟨g, cap, cur, e1, _, r⟩
  · exact Or.inl q
  · exact Or.inr ⟨g, cap, cur, e1, Nat.zero_le _, r⟩
/-- What without answers, in one. -/
def WtP2 (w : World) (v : Value) (l : List Int) (n : Int) (e : Ending) (w' : World) : Prop := ∃ v', e = .returned v' ∧ OwnI w' 0 v' (l.erase n) ∧ (v'.ownBlock = v.ownBlock ∨ ∀ x, v'.ownBlock = some x → w.heap.size ≤ x) ∧ w.grownBy w' none
theorem without_two (v : Value) (l : List Int) (x : Int) (w : World) (O : OwnI w 0 v l) (hb : l.length ≤ 2048) : Calls Try.prog 121 #[v, .int .i64 x] w (WtP2 w v l x) := by
  refine (without_any v 0 l x w O hb).mono ?_
  rintro e w' (⟨hx, v', rfl, o, g⟩ | ⟨hx, rfl, g⟩)
  · exact ⟨v', rfl, own_zero o, Or.inr (fun x hx => (World.ownsRow.lt o x hx).1), g⟩
  · exact ⟨v, rfl, by rw [List.erase_of_not_mem hx]; exact own_grow O g, Or.inl rfl, g⟩
theorem apart_new {w : World} {v' v y : Value} {base e size n : Nat} {xs : List Value} (h : v'.ownBlock = v.ownBlock ∨ ∀ x, v'.ownBlock = some x → w.heap.size ≤ x) (hv : Apart2 v y) (hy : w.ownsRow base e size y n xs) : Apart2 v' y := by
  intro a h1 h2
  rcases h with h | h
  · rw [h] at h1
    exact hv a h1 h2
  · have := h a h1
    have := own_lt hy a h2
    omega
theorem ZG.pairs {T : TypeId} {ex : List Value} {w : World} {b : Nat} {S : List Nat} {z : Zs} {vt d0 d1 h0 h1 : Value} (h : ZG T ex w b S z vt d0 d1 h0 h1) : (Apart2 d0 d1 ∧ Apart2 d0 h0 ∧ Apart2 d0 h1) ∧ (Apart2 d1 h0 ∧ Apart2 d1 h1) ∧ Apart2 h0 h1 := by
  have dif := h.dif
  simp only [List.pairwise_cons, List.mem_cons, List.not_mem_nil, or_false, forall_eq_or_imp, forall_eq] at dif
  obtain ⟨⟨D01, D02, D03⟩, ⟨D12, D13⟩, D23, -⟩ := dif
  exact ⟨⟨D01, D02, D03⟩, ⟨D12, D13⟩, D23⟩
theorem tgs_z : tgs 93 := ⟨by decide, by decide⟩
/-- S and one block more. -/
theorem turn_more {w w1 w2 : World} {b : Nat} {S : List Nat} {v' v : Value} (g : w.grownBy w1 none) (k : Kpt [b] w1 w2) (hb : b ∈ S) (hS : Old w S) (hv : v'.ownBlock = v.ownBlock ∨ ∀ x, v'.ownBlock = some x → w.heap.size ≤ x) (hvS : ∀ x, v.ownBlock = some x → x ∈ S) (hlt : ∀ x, v'.ownBlock = some x → x < w1.heap.size) : Turn w w2 S (v'.ownBlock.toList ++ S) := by
  refine ⟨(((Turn.of_grow g hS).kpt).trans k (fun x hx => Or.inl (by rw [List.mem_singleton.1 hx]; exact hb))), ?_, ?_⟩
  · intro x hx
    rcases List.mem_append.1 hx with q | q
    · have q1 : v'.ownBlock = some x := by simpa using q
      rcases hv with h | h
      · exact Or.inl (hvS x (by rw [← h]; exact q1))
      · exact Or.inr (h x q1)
    · exact Or.inl q
  · intro x hx
    rcases List.mem_append.1 hx with q | q
    · have q1 : v'.ownBlock = some x := by simpa using q
      exact Nat.lt_of_lt_of_le (hlt x q1) k.size
    · exact Nat.lt_of_lt_of_le (hS x q) (Nat.le_trans g.size k.size)
/-- What a call that only turns zones answers. -/
def TnPost (w : World) (b : Nat) (S : List Nat) (z : Zs) (r : Value) (e : Ending) (w' : World) : Prop := e = .returned r ∧ ∃ S', ZAt w' b S' z ∧ Turn w w' S S'
set_option maxRecDepth 100000 in
set_option maxHeartbeats 4000000 in
theorem leave_deck0 (b : Nat) (Sb : List Nat) (z : Zs) (n : Int) (w : World) (Z : ZAt w b Sb z) (F : z.Fine n) (hS : Old w Sb) (hf : z.ts.length ≤ 2048) (hl : (z.dk 0).length ≤ 2048) (hp : (thAt z.ts n).place = 1) (ho : (thAt z.ts n).owner = 0) : Calls Try.prog 97 #[.pointer (some ⟨b, 0, none⟩), .int .i64 n] w (TnPost w b Sb (z.left n) (.tuple #[])) := by
  obtain ⟨vt, d0, d1, h0, h1, Z⟩ := Z
  obtain ⟨c0, c1, c2, c3, c4, c5⟩ := Z.cell
  have T := Z.ts.at
  have hn := F.at_
  obtain ⟨g, off, cap, rfl, R⟩ := ths_there T hn
  obtain ⟨k, hk⟩ : ∃ k : Nat, n = (k : Int) + 1 := ⟨(n - 1).toNat, by unfold there at hn; omega⟩
  subst hk
  have hlt : k < z.ts.length := by unfold there at hn; omega
  rw [show ((k : Int) + 1 - 1).toNat = k from by omega] at R
  obtain ⟨t, ht⟩ : ∃ t, t = thAt z.ts ((k : Int) + 1) := ⟨_, rfl⟩
  rw [← ht] at R
  obtain ⟨e1, e2, e3, e4, e5, e6, e7, e8, e9, e10, e11⟩ := range_cells R
  have hw1 : wrap64 (k : Int) = (k : Int) := by unfold wrap64; omega
  have hlt' : (k : Int) < z.ts.length := by omega
  obtain ⟨pd, cd, ev, _⟩ := own_slice Z.od0
  have HZ : Hid (ZG 93 [] w b Sb z (.slice (some ⟨g, off, none⟩) z.ts.length cap) d0 d1 h0 h1) := Z
  have HEV : Hid (d0 = .slice pd (z.dk 0).length cd) := ev
  have hto : t.owner = 0 := by rw [ht]; exact ho
  have htp : t.place = 1 := by rw [ht]; exact hp
  have HFn : Hid (z.Fine ((k : Int) + 1)) := F
  have HHo : Hid ((thAt z.ts ((k : Int) + 1)).owner = 0) := ho
  have HHp : Hid ((thAt z.ts ((k : Int) + 1)).place = 1) := hp
  rw [ev] at c1
  rw [hto] at e2
  rw [htp] at e3
  have hbw : b < w.heap.size := block_lt Z.blk
  obtain ⟨V, hV⟩ : ∃ V, V = w.alloc (.cells #[.int .i64 t.card, .int .i64 0, .int .u8 1, .int .i64 t.stamp, .int .i64 t.hurt, .int .i64 t.m0, .int .i64 t.m1, .int .i64 t.m2, .int .i64 t.m3, .int .i64 t.done, .bool t.fresh] 38) := ⟨_, rfl⟩
  have HGV : Hid (w.grownBy V none) := by rw [hV]; exact World.grownBy_alloc _ _ _
  have s1 : V.cell? ⟨w.heap.size, 1, none⟩ = some (.int .i64 0) := by rw [hV, block_cell (alloc_at _ _ _)]; rfl
  have s2 : V.cell? ⟨b, 1, none⟩ = some (.slice pd (z.dk 0).length cd) := HGV.out.cell c1 (by simp)
  have CW := without_two (.slice pd (z.dk 0).length cd) (z.dk 0) ((k : Int) + 1) V.drew (by rw [← ev]; exact own_grow Z.od0 (grown_trans HGV.out (grown_drew V))) hl
  have HSo : Hid (Old w Sb) := hS
  have HV : Hid (V = w.alloc (.cells #[.int .i64 t.card, .int .i64 0, .int .u8 1, .int .i64 t.stamp, .int .i64 t.hurt, .int .i64 t.m0, .int .i64 t.m1, .int .i64 t.m2, .int .i64 t.m3, .int .i64 t.done, .bool t.fresh] 38)) := hV
  clear T R Z F hS hn ev ho hp ht hV hto htp hf
  go_enter Try.func97, Try.ntmps97
  go_upto_region 3 with fail
  rw [← HV.out]
  refine wp_region_held_drew (S := fun w' => w'.cell? ⟨w.heap.size, 1, none⟩ = some (.int .i64 0)) (by kernel_rfl) (s1) (fun hHeld => ?_)
  refine wpAnyH_take (i := 0) (v := ?_) rfl (by kernel_rfl) (by kernel_rfl) (by kernel_rfl) (fun _ _ _ h => h) (Or.inl ⟨by rfl, ?_⟩) (by assumption) ?_
  rotate_left 1
  · (intro w0 hSw; go_simp; try with_reducible rfl)
  simp only [List.getElem_toArray, List.getElem_cons_zero]
  go_frame
  refine wpAnyH_take (i := 1) (v := ?_) rfl (by kernel_rfl) (by kernel_rfl) (by kernel_rfl) (fun _ _ _ h => h) (Or.inl ⟨by rfl, ?_⟩) (by assumption) ?_
  rotate_left 1
  · (intro w0 hSw; go_simp; try with_reducible rfl)
  simp only [List.getElem_toArray, List.getElem_cons_zero, List.getElem_cons_succ]
  go_frame
  refine wpAnyH_take (i := 2) (v := ?_) rfl (by kernel_rfl) (by kernel_rfl) (by kernel_rfl) (fun _ _ _ h => h) (Or.inl ⟨by rfl, ?_⟩) (by assumption) ?_
  rotate_left 1
  · (intro w0 hSw; go_simp; try with_reducible rfl)
  simp only [List.getElem_toArray, List.getElem_cons_zero, List.getElem_cons_succ]
  go_frame
  refine wpAnyH_take (i := 3) (v := ?_) rfl (by kernel_rfl) (by kernel_rfl) (by kernel_rfl) (fun _ _ _ h => h) (Or.inl ⟨by rfl, ?_⟩) (by assumption) ?_
  rotate_left 1
  · (intro w0 hSw; go_simp; try with_reducible rfl)
  simp only [List.getElem_toArray, List.getElem_cons_zero, List.getElem_cons_succ]
  go_frame
  refine wpAnyH_take (i := 4) (v := ?_) rfl (by kernel_rfl) (by kernel_rfl) (by kernel_rfl) (fun _ _ _ h => h) (Or.inl ⟨by rfl, ?_⟩) (by assumption) ?_
  rotate_left 1
  · (intro w0 hSw; go_simp; try with_reducible rfl)
  simp only [List.getElem_toArray, List.getElem_cons_zero, List.getElem_cons_succ]
  go_frame
  refine wpAnyH_take (i := 5) (v := ?_) rfl (by kernel_rfl) (by kernel_rfl) (by kernel_rfl) (fun _ _ _ h => h) (Or.inl ⟨by rfl, ?_⟩) (by assumption) ?_
  rotate_left 1
  · (intro w0 hSw; go_simp; try with_reducible rfl)
  simp only [List.getElem_toArray, List.getElem_cons_zero, List.getElem_cons_succ]
  go_frame
  refine wpAnyH_take (i := 6) (v := ?_) rfl (by kernel_rfl) (by kernel_rfl) (by kernel_rfl) (fun _ _ _ h => h) (Or.inl ⟨by rfl, ?_⟩) (by assumption) ?_
  rotate_left 1
  · (intro w0 hSw; go_simp; try with_reducible rfl)
  simp only [List.getElem_toArray, List.getElem_cons_zero, List.getElem_cons_succ]
  go_frame
  refine wpAnyH_take (i := 7) (v := ?_) rfl (by kernel_rfl) (by kernel_rfl) (by kernel_rfl) (fun _ _ _ h => h) (Or.inl ⟨by rfl, ?_⟩) (by assumption) ?_
  rotate_left 1
  · (intro w0 hSw; go_simp; try with_reducible rfl)
  simp only [List.getElem_toArray, List.getElem_cons_zero, List.getElem_cons_succ]
  go_frame
  refine wpAnyH_take (i := 8) (v := ?_) rfl (by kernel_rfl) (by kernel_rfl) (by kernel_rfl) (fun _ _ _ h => h) (Or.inl ⟨by rfl, ?_⟩) (by assumption) ?_
  rotate_left 1
  · (intro w0 hSw; go_simp; try with_reducible rfl)
  simp only [List.getElem_toArray, List.getElem_cons_zero, List.getElem_cons_succ]
  go_frame
  refine wpAnyH_take (i := 10) (v := ?_) rfl (by kernel_rfl) (by kernel_rfl) (by kernel_rfl) (fun _ _ _ h => h) (Or.inl ⟨by rfl, ?_⟩) (by assumption) ?_
  rotate_left 1
  · (intro w0 hSw; go_simp; try with_reducible rfl)
  simp only [List.getElem_toArray, List.getElem_cons_zero, List.getElem_cons_succ]
  go_frame
  refine wpAnyH_take (i := 12) (v := ?_) rfl (by kernel_rfl) (by kernel_rfl) (by kernel_rfl) (fun _ _ _ h => h) (Or.inl ⟨by rfl, ?_⟩) (by assumption) ?_
  rotate_left 1
  · (intro w0 hSw; go_simp; try with_reducible rfl)
  simp only [List.getElem_toArray, List.getElem_cons_zero, List.getElem_cons_succ]
  go_frame
  refine wpAnyH_take (i := 13) (v := ?_) rfl (by kernel_rfl) (by kernel_rfl) (by kernel_rfl) (fun _ _ _ h => h) (Or.inl ⟨by rfl, ?_⟩) (by assumption) ?_
  rotate_left 1
  · (intro w0 hSw; go_simp; try with_reducible rfl)
  simp only [List.getElem_toArray, List.getElem_cons_zero, List.getElem_cons_succ]
  go_frame
  refine wpAnyH_ready (rs := [9]) (by kernel_rfl) (by simp) ?_
  refine AllReadyH.cons rfl (fun K9 hK => ?_) AllReadyH.nil
  simp only [List.getElem_toArray, List.getElem_cons_zero, List.getElem_cons_succ]
  go_simp
  refine hK.out _ _ (s1) (fun hHeld3 => ?_)
  clear hK K9
  (try go_frame)
  refine wpAnyH_ready (rs := [11]) (by kernel_rfl) (by simp) ?_
  refine AllReadyH.cons rfl (fun K hK => ?_) AllReadyH.nil
  simp only [List.getElem_toArray, List.getElem_cons_zero, List.getElem_cons_succ]
  go_simp
  go_at_call 121
  refine (CW).mono ?_
  rintro e w2 ⟨v2, rfl, o2, l2, g2⟩
  have HO2 : Hid (OwnI w2 0 v2 ((z.dk 0).erase ((k : Int) + 1))) := o2
  have HL2 : Hid (v2.ownBlock = (Value.slice pd (z.dk 0).length cd).ownBlock ∨ ∀ x, v2.ownBlock = some x → V.drew.heap.size ≤ x) := l2
  have HG2 : Hid (V.drew.grownBy w2 none) := g2
  have t2 : w2.cell? ⟨b, 1, none⟩ = some (.slice pd (z.dk 0).length cd) := g2.cell s2 (by simp)
  have f2 : w2.frozen? ⟨b, 1, none⟩ = false := by
    have hb2 := (HZ.out.grow (grown_trans HGV.out (grown_trans (grown_drew V) g2))).blk
    exact block_free hb2 1
  have t1 : w2.cell? ⟨w.heap.size, 1, none⟩ = some (.int .i64 0) := g2.cell s1 (by simp)
  obtain ⟨pv, cv, rfl, _⟩ := own_slice o2
  clear o2 l2 g2 CW
  refine hK.out _ _ (t1) (fun hHeld2 => ?_)
  clear hK K
  (try go_frame)
  refine wpAnyH_take (i := 14) (v := ?_) rfl (by kernel_rfl) (by kernel_rfl) (by kernel_rfl) (fun _ _ _ h => h) (Or.inl ⟨by rfl, ?_⟩) (by assumption) ?_
  rotate_left 1
  · (intro w0 hSw; go_simp; try with_reducible rfl)
  simp only [List.getElem_toArray, List.getElem_cons_zero, List.getElem_cons_succ]
  go_frame
  refine wpAnyH_ready (rs := [15]) (by kernel_rfl) (by simp) ?_
  refine AllReadyH.cons rfl (fun K9 hK => ?_) AllReadyH.nil
  simp only [List.getElem_toArray, List.getElem_cons_zero, List.getElem_cons_succ]
  go_simp
  have t3 : (w2.setCell ⟨b, 1, none⟩ (.slice pv ((z.dk 0).erase ((k : Int) + 1)).length cv)).cell? ⟨w.heap.size, 1, none⟩ = some (.int .i64 0) := (grown_set w2 b 1 _).cell t1 (by intro q; simp at q; omega)
  refine hK.out _ _ (t3) (fun hHeld3 => ?_)
  clear hK K9
  (try go_frame)
  refine wpAnyH_done (by kernel_rfl) ?_ _
  have G2 : w.grownBy w2 none := grown_trans HGV.out (grown_trans (grown_drew V) HG2.out)
  have Z2 := HZ.out.grow G2
  have P := HZ.out.pairs
  have L2 : (Value.slice pv ((z.dk 0).erase ((k : Int) + 1)).length cv).ownBlock = d0.ownBlock ∨ ∀ x, (Value.slice pv ((z.dk 0).erase ((k : Int) + 1)).length cv).ownBlock = some x → w.heap.size ≤ x := by
    rw [HEV.out]
    rcases HL2.out with q | q
    · exact Or.inl q
    · exact Or.inr fun x hx => Nat.le_trans (HGV.out.size) (q x hx)
  have Z3 := Z2.set_d0 tgs_z HO2.out (apart_new L2 P.1.1 HZ.out.od1) (apart_new L2 P.1.2.1 HZ.out.oh0) (apart_new L2 P.1.2.2 HZ.out.oh1)
  have HF : Hid (TnPost w b Sb (z.left ((k : Int) + 1)) (.tuple #[]) (.returned (.tuple #[])) (w2.setCell ⟨b, 1, none⟩ (.slice pv ((z.dk 0).erase ((k : Int) + 1)).length cv))) := by
    refine ⟨rfl, _, ⟨_, _, _, _, _, Z3.congr rfl rfl ?_ ?_ ?_ ?_⟩, turn_more G2 (kpt_set _ _ _ _) HZ.out.inb HSo.out L2 (fun x hx => HZ.out.inS d0 (by simp) x hx) (own_lt HO2.out)⟩
    · show (if (0 : Int) = (thAt z.ts ((k : Int) + 1)).owner then (z.dk 0).filter (· != ((k : Int) + 1)) else z.dk 0) = (if (0 : Int) = 0 then (z.dk 0).erase ((k : Int) + 1) else z.dk 0)
      have q := HFn.out.dnd
      rw [HHo.out] at q
      rw [HHo.out, if_pos rfl, if_pos rfl, erase_out q]
    · show (if (1 : Int) = (thAt z.ts ((k : Int) + 1)).owner then (z.dk 1).filter (· != ((k : Int) + 1)) else z.dk 1) = (if (1 : Int) = 0 then (z.dk 0).erase ((k : Int) + 1) else z.dk 1)
      rw [HHo.out, if_neg (by decide), if_neg (by decide)]
    · show (if (0 : Int) = (thAt z.ts ((k : Int) + 1)).owner then (z.hd 0).filter (· != ((k : Int) + 1)) else z.hd 0) = z.hd 0
      have q := HFn.out.hn (by rw [HHp.out]; decide)
      rw [HHo.out] at q
      rw [HHo.out, if_pos rfl, filter_out q]
    · show (if (1 : Int) = (thAt z.ts ((k : Int) + 1)).owner then (z.hd 1).filter (· != ((k : Int) + 1)) else z.hd 1) = z.hd 1
      rw [HHo.out, if_neg (by decide)]
  clear Z2 Z3 P L2 G2
  go_wp2
  go_end0
  exact HF.out
set_option maxRecDepth 100000 in
set_option maxHeartbeats 4000000 in
theorem leave_deck1 (b : Nat) (Sb : List Nat) (z : Zs) (n : Int) (w : World) (Z : ZAt w b Sb z) (F : z.Fine n) (hS : Old w Sb) (hf : z.ts.length ≤ 2048) (hl : (z.dk 1).length ≤ 2048) (hp : (thAt z.ts n).place = 1) (ho : (thAt z.ts n).owner = 1) : Calls Try.prog 97 #[.pointer (some ⟨b, 0, none⟩), .int .i64 n] w (TnPost w b Sb (z.left n) (.tuple #[])) := by
  obtain ⟨vt, d0, d1, h0, h1, Z⟩ := Z
  obtain ⟨c0, c1, c2, c3, c4, c5⟩ := Z.cell
  have T := Z.ts.at
  have hn := F.at_
  obtain ⟨g, off, cap, rfl, R⟩ := ths_there T hn
  obtain ⟨k, hk⟩ : ∃ k : Nat, n = (k : Int) + 1 := ⟨(n - 1).toNat, by unfold there at hn; omega⟩
  subst hk
  have hlt : k < z.ts.length := by unfold there at hn; omega
  rw [show ((k : Int) + 1 - 1).toNat = k from by omega] at R
  obtain ⟨t, ht⟩ : ∃ t, t = thAt z.ts ((k : Int) + 1) := ⟨_, rfl⟩
  rw [← ht] at R
  obtain ⟨e1, e2, e3, e4, e5, e6, e7, e8, e9, e10, e11⟩ := range_cells R
  have hw1 : wrap64 (k : Int) = (k : Int) := by unfold wrap64; omega
  have hlt' : (k : Int) < z.ts.length := by omega
  obtain ⟨pd, cd, ev, _⟩ := own_slice Z.od1
  have HZ : Hid (ZG 93 [] w b Sb z (.slice (some ⟨g, off, none⟩) z.ts.length cap) d0 d1 h0 h1) := Z
  have HEV : Hid (d1 = .slice pd (z.dk 1).length cd) := ev
  have hto : t.owner = 1 := by rw [ht]; exact ho
  have htp : t.place = 1 := by rw [ht]; exact hp
  have HFn : Hid (z.Fine ((k : Int) + 1)) := F
  have HHo : Hid ((thAt z.ts ((k : Int) + 1)).owner = 1) := ho
  have HHp : Hid ((thAt z.ts ((k : Int) + 1)).place = 1) := hp
  rw [ev] at c2
  rw [hto] at e2
  rw [htp] at e3
  have hbw : b < w.heap.size := block_lt Z.blk
  obtain ⟨V, hV⟩ : ∃ V, V = w.alloc (.cells #[.int .i64 t.card, .int .i64 1, .int .u8 1, .int .i64 t.stamp, .int .i64 t.hurt, .int .i64 t.m0, .int .i64 t.m1, .int .i64 t.m2, .int .i64 t.m3, .int .i64 t.done, .bool t.fresh] 38) := ⟨_, rfl⟩
  have HGV : Hid (w.grownBy V none) := by rw [hV]; exact World.grownBy_alloc _ _ _
  have s1 : V.cell? ⟨w.heap.size, 1, none⟩ = some (.int .i64 1) := by rw [hV, block_cell (alloc_at _ _ _)]; rfl
  have s2 : V.cell? ⟨b, 2, none⟩ = some (.slice pd (z.dk 1).length cd) := HGV.out.cell c2 (by simp)
  have CW := without_two (.slice pd (z.dk 1).length cd) (z.dk 1) ((k : Int) + 1) V.drew (by rw [← ev]; exact own_grow Z.od1 (grown_trans HGV.out (grown_drew V))) hl
  have HSo : Hid (Old w Sb) := hS
  have HV : Hid (V = w.alloc (.cells #[.int .i64 t.card, .int .i64 1, .int .u8 1, .int .i64 t.stamp, .int .i64 t.hurt, .int .i64 t.m0, .int .i64 t.m1, .int .i64 t.m2, .int .i64 t.m3, .int .i64 t.done, .bool t.fresh] 38)) := hV
  clear T R Z F hS hn ev ho hp ht hV hto htp hf
  go_enter Try.func97, Try.ntmps97
  go_upto_region 3 with fail
  rw [← HV.out]
  refine wp_region_held_drew (S := fun w' => w'.cell? ⟨w.heap.size, 1, none⟩ = some (.int .i64 1)) (by kernel_rfl) (s1) (fun hHeld => ?_)
  refine wpAnyH_take (i := 0) (v := ?_) rfl (by kernel_rfl) (by kernel_rfl) (by kernel_rfl) (fun _ _ _ h => h) (Or.inl ⟨by rfl, ?_⟩) (by assumption) ?_
  rotate_left 1
  · (intro w0 hSw; go_simp; try with_reducible rfl)
  simp only [List.getElem_toArray, List.getElem_cons_zero]
  go_frame
  refine wpAnyH_take (i := 1) (v := ?_) rfl (by kernel_rfl) (by kernel_rfl) (by kernel_rfl) (fun _ _ _ h => h) (Or.inl ⟨by rfl, ?_⟩) (by assumption) ?_
  rotate_left 1
  · (intro w0 hSw; go_simp; try with_reducible rfl)
  simp only [List.getElem_toArray, List.getElem_cons_zero, List.getElem_cons_succ]
  go_frame
  refine wpAnyH_take (i := 2) (v := ?_) rfl (by kernel_rfl) (by kernel_rfl) (by kernel_rfl) (fun _ _ _ h => h) (Or.inl ⟨by rfl, ?_⟩) (by assumption) ?_
  rotate_left 1
  · (intro w0 hSw; go_simp; try with_reducible rfl)
  simp only [List.getElem_toArray, List.getElem_cons_zero, List.getElem_cons_succ]
  go_frame
  refine wpAnyH_take (i := 3) (v := ?_) rfl (by kernel_rfl) (by kernel_rfl) (by kernel_rfl) (fun _ _ _ h => h) (Or.inl ⟨by rfl, ?_⟩) (by assumption) ?_
  rotate_left 1
  · (intro w0 hSw; go_simp; try with_reducible rfl)
  simp only [List.getElem_toArray, List.getElem_cons_zero, List.getElem_cons_succ]
  go_frame
  refine wpAnyH_take (i := 4) (v := ?_) rfl (by kernel_rfl) (by kernel_rfl) (by kernel_rfl) (fun _ _ _ h => h) (Or.inl ⟨by rfl, ?_⟩) (by assumption) ?_
  rotate_left 1
  · (intro w0 hSw; go_simp; try with_reducible rfl)
  simp only [List.getElem_toArray, List.getElem_cons_zero, List.getElem_cons_succ]
  go_frame
  refine wpAnyH_take (i := 5) (v := ?_) rfl (by kernel_rfl) (by kernel_rfl) (by kernel_rfl) (fun _ _ _ h => h) (Or.inl ⟨by rfl, ?_⟩) (by assumption) ?_
  rotate_left 1
  · (intro w0 hSw; go_simp; try with_reducible rfl)
  simp only [List.getElem_toArray, List.getElem_cons_zero, List.getElem_cons_succ]
  go_frame
  refine wpAnyH_take (i := 6) (v := ?_) rfl (by kernel_rfl) (by kernel_rfl) (by kernel_rfl) (fun _ _ _ h => h) (Or.inl ⟨by rfl, ?_⟩) (by assumption) ?_
  rotate_left 1
  · (intro w0 hSw; go_simp; try with_reducible rfl)
  simp only [List.getElem_toArray, List.getElem_cons_zero, List.getElem_cons_succ]
  go_frame
  refine wpAnyH_take (i := 7) (v := ?_) rfl (by kernel_rfl) (by kernel_rfl) (by kernel_rfl) (fun _ _ _ h => h) (Or.inl ⟨by rfl, ?_⟩) (by assumption) ?_
  rotate_left 1
  · (intro w0 hSw; go_simp; try with_reducible rfl)
  simp only [List.getElem_toArray, List.getElem_cons_zero, List.getElem_cons_succ]
  go_frame
  refine wpAnyH_take (i := 8) (v := ?_) rfl (by kernel_rfl) (by kernel_rfl) (by kernel_rfl) (fun _ _ _ h => h) (Or.inl ⟨by rfl, ?_⟩) (by assumption) ?_
  rotate_left 1
  · (intro w0 hSw; go_simp; try with_reducible rfl)
  simp only [List.getElem_toArray, List.getElem_cons_zero, List.getElem_cons_succ]
  go_frame
  refine wpAnyH_take (i := 10) (v := ?_) rfl (by kernel_rfl) (by kernel_rfl) (by kernel_rfl) (fun _ _ _ h => h) (Or.inl ⟨by rfl, ?_⟩) (by assumption) ?_
  rotate_left 1
  · (intro w0 hSw; go_simp; try with_reducible rfl)
  simp only [List.getElem_toArray, List.getElem_cons_zero, List.getElem_cons_succ]
  go_frame
  refine wpAnyH_take (i := 12) (v := ?_) rfl (by kernel_rfl) (by kernel_rfl) (by kernel_rfl) (fun _ _ _ h => h) (Or.inl ⟨by rfl, ?_⟩) (by assumption) ?_
  rotate_left 1
  · (intro w0 hSw; go_simp; try with_reducible rfl)
  simp only [List.getElem_toArray, List.getElem_cons_zero, List.getElem_cons_succ]
  go_frame
  refine wpAnyH_take (i := 13) (v := ?_) rfl (by kernel_rfl) (by kernel_rfl) (by kernel_rfl) (fun _ _ _ h => h) (Or.inl ⟨by rfl, ?_⟩) (by assumption) ?_
  rotate_left 1
  · (intro w0 hSw; go_simp; try with_reducible rfl)
  simp only [List.getElem_toArray, List.getElem_cons_zero, List.getElem_cons_succ]
  go_frame
  refine wpAnyH_ready (rs := [9]) (by kernel_rfl) (by simp) ?_
  refine AllReadyH.cons rfl (fun K9 hK => ?_) AllReadyH.nil
  simp only [List.getElem_toArray, List.getElem_cons_zero, List.getElem_cons_succ]
  go_simp
  refine hK.out _ _ (s1) (fun hHeld3 => ?_)
  clear hK K9
  (try go_frame)
  refine wpAnyH_ready (rs := [11]) (by kernel_rfl) (by simp) ?_
  refine AllReadyH.cons rfl (fun K hK => ?_) AllReadyH.nil
  simp only [List.getElem_toArray, List.getElem_cons_zero, List.getElem_cons_succ]
  go_simp
  go_at_call 121
  refine (CW).mono ?_
  rintro e w2 ⟨v2, rfl, o2, l2, g2⟩
  have HO2 : Hid (OwnI w2 0 v2 ((z.dk 1).erase ((k : Int) + 1))) := o2
  have HL2 : Hid (v2.ownBlock = (Value.slice pd (z.dk 1).length cd).ownBlock ∨ ∀ x, v2.ownBlock = some x → V.drew.heap.size ≤ x) := l2
  have HG2 : Hid (V.drew.grownBy w2 none) := g2
  have t2 : w2.cell? ⟨b, 2, none⟩ = some (.slice pd (z.dk 1).length cd) := g2.cell s2 (by simp)
  have f2 : w2.frozen? ⟨b, 2, none⟩ = false := by
    have hb2 := (HZ.out.grow (grown_trans HGV.out (grown_trans (grown_drew V) g2))).blk
    exact block_free hb2 2
  have t1 : w2.cell? ⟨w.heap.size, 1, none⟩ = some (.int .i64 1) := g2.cell s1 (by simp)
  obtain ⟨pv, cv, rfl, _⟩ := own_slice o2
  clear o2 l2 g2 CW
  refine hK.out _ _ (t1) (fun hHeld2 => ?_)
  clear hK K
  (try go_frame)
  refine wpAnyH_take (i := 14) (v := ?_) rfl (by kernel_rfl) (by kernel_rfl) (by kernel_rfl) (fun _ _ _ h => h) (Or.inl ⟨by rfl, ?_⟩) (by assumption) ?_
  rotate_left 1
  · (intro w0 hSw; go_simp; try with_reducible rfl)
  simp only [List.getElem_toArray, List.getElem_cons_zero, List.getElem_cons_succ]
  go_frame
  refine wpAnyH_ready (rs := [15]) (by kernel_rfl) (by simp) ?_
  refine AllReadyH.cons rfl (fun K9 hK => ?_) AllReadyH.nil
  simp only [List.getElem_toArray, List.getElem_cons_zero, List.getElem_cons_succ]
  go_simp
  have t3 : (w2.setCell ⟨b, 2, none⟩ (.slice pv ((z.dk 1).erase ((k : Int) + 1)).length cv)).cell? ⟨w.heap.size, 1, none⟩ = some (.int .i64 1) := (grown_set w2 b 2 _).cell t1 (by intro q; simp at q; omega)
  refine hK.out _ _ (t3) (fun hHeld3 => ?_)
  clear hK K9
  (try go_frame)
  refine wpAnyH_done (by kernel_rfl) ?_ _
  have G2 : w.grownBy w2 none := grown_trans HGV.out (grown_trans (grown_drew V) HG2.out)
  have Z2 := HZ.out.grow G2
  have P := HZ.out.pairs
  have L2 : (Value.slice pv ((z.dk 1).erase ((k : Int) + 1)).length cv).ownBlock = d1.ownBlock ∨ ∀ x, (Value.slice pv ((z.dk 1).erase ((k : Int) + 1)).length cv).ownBlock = some x → w.heap.size ≤ x := by
    rw [HEV.out]
    rcases HL2.out with q | q
    · exact Or.inl q
    · exact Or.inr fun x hx => Nat.le_trans (HGV.out.size) (q x hx)
  have Z3 := Z2.set_d1 tgs_z HO2.out (apart_new L2 P.1.1.symm HZ.out.od0) (apart_new L2 P.2.1.1 HZ.out.oh0) (apart_new L2 P.2.1.2 HZ.out.oh1)
  have HF : Hid (TnPost w b Sb (z.left ((k : Int) + 1)) (.tuple #[]) (.returned (.tuple #[])) (w2.setCell ⟨b, 2, none⟩ (.slice pv ((z.dk 1).erase ((k : Int) + 1)).length cv))) := by
    refine ⟨rfl, _, ⟨_, _, _, _, _, Z3.congr rfl rfl ?_ ?_ ?_ ?_⟩, turn_more G2 (kpt_set _ _ _ _) HZ.out.inb HSo.out L2 (fun x hx => HZ.out.inS d1 (by simp) x hx) (own_lt HO2.out)⟩
    · show (if (0 : Int) = (thAt z.ts ((k : Int) + 1)).owner then (z.dk 0).filter (· != ((k : Int) + 1)) else z.dk 0) = (if (0 : Int) = 1 then (z.dk 1).erase ((k : Int) + 1) else z.dk 0)
      rw [HHo.out, if_neg (by decide), if_neg (by decide)]
    · show (if (1 : Int) = (thAt z.ts ((k : Int) + 1)).owner then (z.dk 1).filter (· != ((k : Int) + 1)) else z.dk 1) = (if (1 : Int) = 1 then (z.dk 1).erase ((k : Int) + 1) else z.dk 1)
      have q := HFn.out.dnd
      rw [HHo.out] at q
      rw [HHo.out, if_pos rfl, if_pos rfl, erase_out q]
    · show (if (0 : Int) = (thAt z.ts ((k : Int) + 1)).owner then (z.hd 0).filter (· != ((k : Int) + 1)) else z.hd 0) = z.hd 0
      rw [HHo.out, if_neg (by decide)]
    · show (if (1 : Int) = (thAt z.ts ((k : Int) + 1)).owner then (z.hd 1).filter (· != ((k : Int) + 1)) else z.hd 1) = z.hd 1
      have q := HFn.out.hn (by rw [HHp.out]; decide)
      rw [HHo.out] at q
      rw [HHo.out, if_pos rfl, filter_out q]
  clear Z2 Z3 P L2 G2
  go_wp2
  go_end0
  exact HF.out
set_option maxRecDepth 100000 in
set_option maxHeartbeats 4000000 in
theorem leave_hand0 (b : Nat) (Sb : List Nat) (z : Zs) (n : Int) (w : World) (Z : ZAt w b Sb z) (F : z.Fine n) (hS : Old w Sb) (hf : z.ts.length ≤ 2048) (hl : (z.hd 0).length ≤ 2048) (hp : (thAt z.ts n).place = 2) (ho : (thAt z.ts n).owner = 0) : Calls Try.prog 97 #[.pointer (some ⟨b, 0, none⟩), .int .i64 n] w (TnPost w b Sb (z.left n) (.tuple #[])) := by
  obtain ⟨vt, d0, d1, h0, h1, Z⟩ := Z
  obtain ⟨c0, c1, c2, c3, c4, c5⟩ := Z.cell
  have T := Z.ts.at
  have hn := F.at_
  obtain ⟨g, off, cap, rfl, R⟩ := ths_there T hn
  obtain ⟨k, hk⟩ : ∃ k : Nat, n = (k : Int) + 1 := ⟨(n - 1).toNat, by unfold there at hn; omega⟩
  subst hk
  have hlt : k < z.ts.length := by unfold there at hn; omega
  rw [show ((k : Int) + 1 - 1).toNat = k from by omega] at R
  obtain ⟨t, ht⟩ : ∃ t, t = thAt z.ts ((k : Int) + 1) := ⟨_, rfl⟩
  rw [← ht] at R
  obtain ⟨e1, e2, e3, e4, e5, e6, e7, e8, e9, e10, e11⟩ := range_cells R
  have hw1 : wrap64 (k : Int) = (k : Int) := by unfold wrap64; omega
  have hlt' : (k : Int) < z.ts.length := by omega
  obtain ⟨pd, cd, ev, _⟩ := own_slice Z.oh0
  have HZ : Hid (ZG 93 [] w b Sb z (.slice (some ⟨g, off, none⟩) z.ts.length cap) d0 d1 h0 h1) := Z
  have HEV : Hid (h0 = .slice pd (z.hd 0).length cd) := ev
  have hto : t.owner = 0 := by rw [ht]; exact ho
  have htp : t.place = 2 := by rw [ht]; exact hp
  have HFn : Hid (z.Fine ((k : Int) + 1)) := F
  have HHo : Hid ((thAt z.ts ((k : Int) + 1)).owner = 0) := ho
  have HHp : Hid ((thAt z.ts ((k : Int) + 1)).place = 2) := hp
  rw [ev] at c3
  rw [hto] at e2
  rw [htp] at e3
  have hbw : b < w.heap.size := block_lt Z.blk
  obtain ⟨V, hV⟩ : ∃ V, V = w.alloc (.cells #[.int .i64 t.card, .int .i64 0, .int .u8 2, .int .i64 t.stamp, .int .i64 t.hurt, .int .i64 t.m0, .int .i64 t.m1, .int .i64 t.m2, .int .i64 t.m3, .int .i64 t.done, .bool t.fresh] 38) := ⟨_, rfl⟩
  have HGV : Hid (w.grownBy V none) := by rw [hV]; exact World.grownBy_alloc _ _ _
  have s1 : V.cell? ⟨w.heap.size, 1, none⟩ = some (.int .i64 0) := by rw [hV, block_cell (alloc_at _ _ _)]; rfl
  have s2 : V.cell? ⟨b, 3, none⟩ = some (.slice pd (z.hd 0).length cd) := HGV.out.cell c3 (by simp)
  have CW := without_two (.slice pd (z.hd 0).length cd) (z.hd 0) ((k : Int) + 1) V.drew (by rw [← ev]; exact own_grow Z.oh0 (grown_trans HGV.out (grown_drew V))) hl
  have HSo : Hid (Old w Sb) := hS
  have HV : Hid (V = w.alloc (.cells #[.int .i64 t.card, .int .i64 0, .int .u8 2, .int .i64 t.stamp, .int .i64 t.hurt, .int .i64 t.m0, .int .i64 t.m1, .int .i64 t.m2, .int .i64 t.m3, .int .i64 t.done, .bool t.fresh] 38)) := hV
  clear T R Z F hS hn ev ho hp ht hV hto htp hf
  go_enter Try.func97, Try.ntmps97
  go_upto_region 5 with fail
  rw [← HV.out]
  refine wp_region_held_drew (S := fun w' => w'.cell? ⟨w.heap.size, 1, none⟩ = some (.int .i64 0)) (by kernel_rfl) (s1) (fun hHeld => ?_)
  refine wpAnyH_take (i := 0) (v := ?_) rfl (by kernel_rfl) (by kernel_rfl) (by kernel_rfl) (fun _ _ _ h => h) (Or.inl ⟨by rfl, ?_⟩) (by assumption) ?_
  rotate_left 1
  · (intro w0 hSw; go_simp; try with_reducible rfl)
  simp only [List.getElem_toArray, List.getElem_cons_zero]
  go_frame
  refine wpAnyH_take (i := 1) (v := ?_) rfl (by kernel_rfl) (by kernel_rfl) (by kernel_rfl) (fun _ _ _ h => h) (Or.inl ⟨by rfl, ?_⟩) (by assumption) ?_
  rotate_left 1
  · (intro w0 hSw; go_simp; try with_reducible rfl)
  simp only [List.getElem_toArray, List.getElem_cons_zero, List.getElem_cons_succ]
  go_frame
  refine wpAnyH_take (i := 2) (v := ?_) rfl (by kernel_rfl) (by kernel_rfl) (by kernel_rfl) (fun _ _ _ h => h) (Or.inl ⟨by rfl, ?_⟩) (by assumption) ?_
  rotate_left 1
  · (intro w0 hSw; go_simp; try with_reducible rfl)
  simp only [List.getElem_toArray, List.getElem_cons_zero, List.getElem_cons_succ]
  go_frame
  refine wpAnyH_take (i := 3) (v := ?_) rfl (by kernel_rfl) (by kernel_rfl) (by kernel_rfl) (fun _ _ _ h => h) (Or.inl ⟨by rfl, ?_⟩) (by assumption) ?_
  rotate_left 1
  · (intro w0 hSw; go_simp; try with_reducible rfl)
  simp only [List.getElem_toArray, List.getElem_cons_zero, List.getElem_cons_succ]
  go_frame
  refine wpAnyH_take (i := 4) (v := ?_) rfl (by kernel_rfl) (by kernel_rfl) (by kernel_rfl) (fun _ _ _ h => h) (Or.inl ⟨by rfl, ?_⟩) (by assumption) ?_
  rotate_left 1
  · (intro w0 hSw; go_simp; try with_reducible rfl)
  simp only [List.getElem_toArray, List.getElem_cons_zero, List.getElem_cons_succ]
  go_frame
  refine wpAnyH_take (i := 5) (v := ?_) rfl (by kernel_rfl) (by kernel_rfl) (by kernel_rfl) (fun _ _ _ h => h) (Or.inl ⟨by rfl, ?_⟩) (by assumption) ?_
  rotate_left 1
  · (intro w0 hSw; go_simp; try with_reducible rfl)
  simp only [List.getElem_toArray, List.getElem_cons_zero, List.getElem_cons_succ]
  go_frame
  refine wpAnyH_take (i := 6) (v := ?_) rfl (by kernel_rfl) (by kernel_rfl) (by kernel_rfl) (fun _ _ _ h => h) (Or.inl ⟨by rfl, ?_⟩) (by assumption) ?_
  rotate_left 1
  · (intro w0 hSw; go_simp; try with_reducible rfl)
  simp only [List.getElem_toArray, List.getElem_cons_zero, List.getElem_cons_succ]
  go_frame
  refine wpAnyH_take (i := 7) (v := ?_) rfl (by kernel_rfl) (by kernel_rfl) (by kernel_rfl) (fun _ _ _ h => h) (Or.inl ⟨by rfl, ?_⟩) (by assumption) ?_
  rotate_left 1
  · (intro w0 hSw; go_simp; try with_reducible rfl)
  simp only [List.getElem_toArray, List.getElem_cons_zero, List.getElem_cons_succ]
  go_frame
  refine wpAnyH_take (i := 8) (v := ?_) rfl (by kernel_rfl) (by kernel_rfl) (by kernel_rfl) (fun _ _ _ h => h) (Or.inl ⟨by rfl, ?_⟩) (by assumption) ?_
  rotate_left 1
  · (intro w0 hSw; go_simp; try with_reducible rfl)
  simp only [List.getElem_toArray, List.getElem_cons_zero, List.getElem_cons_succ]
  go_frame
  refine wpAnyH_take (i := 10) (v := ?_) rfl (by kernel_rfl) (by kernel_rfl) (by kernel_rfl) (fun _ _ _ h => h) (Or.inl ⟨by rfl, ?_⟩) (by assumption) ?_
  rotate_left 1
  · (intro w0 hSw; go_simp; try with_reducible rfl)
  simp only [List.getElem_toArray, List.getElem_cons_zero, List.getElem_cons_succ]
  go_frame
  refine wpAnyH_take (i := 12) (v := ?_) rfl (by kernel_rfl) (by kernel_rfl) (by kernel_rfl) (fun _ _ _ h => h) (Or.inl ⟨by rfl, ?_⟩) (by assumption) ?_
  rotate_left 1
  · (intro w0 hSw; go_simp; try with_reducible rfl)
  simp only [List.getElem_toArray, List.getElem_cons_zero, List.getElem_cons_succ]
  go_frame
  refine wpAnyH_take (i := 13) (v := ?_) rfl (by kernel_rfl) (by kernel_rfl) (by kernel_rfl) (fun _ _ _ h => h) (Or.inl ⟨by rfl, ?_⟩) (by assumption) ?_
  rotate_left 1
  · (intro w0 hSw; go_simp; try with_reducible rfl)
  simp only [List.getElem_toArray, List.getElem_cons_zero, List.getElem_cons_succ]
  go_frame
  refine wpAnyH_ready (rs := [9]) (by kernel_rfl) (by simp) ?_
  refine AllReadyH.cons rfl (fun K9 hK => ?_) AllReadyH.nil
  simp only [List.getElem_toArray, List.getElem_cons_zero, List.getElem_cons_succ]
  go_simp
  refine hK.out _ _ (s1) (fun hHeld3 => ?_)
  clear hK K9
  (try go_frame)
  refine wpAnyH_ready (rs := [11]) (by kernel_rfl) (by simp) ?_
  refine AllReadyH.cons rfl (fun K hK => ?_) AllReadyH.nil
  simp only [List.getElem_toArray, List.getElem_cons_zero, List.getElem_cons_succ]
  go_simp
  go_at_call 121
  refine (CW).mono ?_
  rintro e w2 ⟨v2, rfl, o2, l2, g2⟩
  have HO2 : Hid (OwnI w2 0 v2 ((z.hd 0).erase ((k : Int) + 1))) := o2
  have HL2 : Hid (v2.ownBlock = (Value.slice pd (z.hd 0).length cd).ownBlock ∨ ∀ x, v2.ownBlock = some x → V.drew.heap.size ≤ x) := l2
  have HG2 : Hid (V.drew.grownBy w2 none) := g2
  have t2 : w2.cell? ⟨b, 3, none⟩ = some (.slice pd (z.hd 0).length cd) := g2.cell s2 (by simp)
  have f2 : w2.frozen? ⟨b, 3, none⟩ = false := by
    have hb2 := (HZ.out.grow (grown_trans HGV.out (grown_trans (grown_drew V) g2))).blk
    exact block_free hb2 3
  have t1 : w2.cell? ⟨w.heap.size, 1, none⟩ = some (.int .i64 0) := g2.cell s1 (by simp)
  obtain ⟨pv, cv, rfl, _⟩ := own_slice o2
  clear o2 l2 g2 CW
  refine hK.out _ _ (t1) (fun hHeld2 => ?_)
  clear hK K
  (try go_frame)
  refine wpAnyH_take (i := 14) (v := ?_) rfl (by kernel_rfl) (by kernel_rfl) (by kernel_rfl) (fun _ _ _ h => h) (Or.inl ⟨by rfl, ?_⟩) (by assumption) ?_
  rotate_left 1
  · (intro w0 hSw; go_simp; try with_reducible rfl)
  simp only [List.getElem_toArray, List.getElem_cons_zero, List.getElem_cons_succ]
  go_frame
  refine wpAnyH_ready (rs := [15]) (by kernel_rfl) (by simp) ?_
  refine AllReadyH.cons rfl (fun K9 hK => ?_) AllReadyH.nil
  simp only [List.getElem_toArray, List.getElem_cons_zero, List.getElem_cons_succ]
  go_simp
  have t3 : (w2.setCell ⟨b, 3, none⟩ (.slice pv ((z.hd 0).erase ((k : Int) + 1)).length cv)).cell? ⟨w.heap.size, 1, none⟩ = some (.int .i64 0) := (grown_set w2 b 3 _).cell t1 (by intro q; simp at q; omega)
  refine hK.out _ _ (t3) (fun hHeld3 => ?_)
  clear hK K9
  (try go_frame)
  refine wpAnyH_done (by kernel_rfl) ?_ _
  have G2 : w.grownBy w2 none := grown_trans HGV.out (grown_trans (grown_drew V) HG2.out)
  have Z2 := HZ.out.grow G2
  have P := HZ.out.pairs
  have L2 : (Value.slice pv ((z.hd 0).erase ((k : Int) + 1)).length cv).ownBlock = h0.ownBlock ∨ ∀ x, (Value.slice pv ((z.hd 0).erase ((k : Int) + 1)).length cv).ownBlock = some x → w.heap.size ≤ x := by
    rw [HEV.out]
    rcases HL2.out with q | q
    · exact Or.inl q
    · exact Or.inr fun x hx => Nat.le_trans (HGV.out.size) (q x hx)
  have Z3 := Z2.set_h0 tgs_z HO2.out (apart_new L2 P.1.2.1.symm HZ.out.od0) (apart_new L2 P.2.1.1.symm HZ.out.od1) (apart_new L2 P.2.2 HZ.out.oh1)
  have HF : Hid (TnPost w b Sb (z.left ((k : Int) + 1)) (.tuple #[]) (.returned (.tuple #[])) (w2.setCell ⟨b, 3, none⟩ (.slice pv ((z.hd 0).erase ((k : Int) + 1)).length cv))) := by
    refine ⟨rfl, _, ⟨_, _, _, _, _, Z3.congr rfl rfl ?_ ?_ ?_ ?_⟩, turn_more G2 (kpt_set _ _ _ _) HZ.out.inb HSo.out L2 (fun x hx => HZ.out.inS h0 (by simp) x hx) (own_lt HO2.out)⟩
    · show (if (0 : Int) = (thAt z.ts ((k : Int) + 1)).owner then (z.dk 0).filter (· != ((k : Int) + 1)) else z.dk 0) = z.dk 0
      have q := HFn.out.dn (by rw [HHp.out]; decide)
      rw [HHo.out] at q
      rw [HHo.out, if_pos rfl, filter_out q]
    · show (if (1 : Int) = (thAt z.ts ((k : Int) + 1)).owner then (z.dk 1).filter (· != ((k : Int) + 1)) else z.dk 1) = z.dk 1
      rw [HHo.out, if_neg (by decide)]
    · show (if (0 : Int) = (thAt z.ts ((k : Int) + 1)).owner then (z.hd 0).filter (· != ((k : Int) + 1)) else z.hd 0) = (if (0 : Int) = 0 then (z.hd 0).erase ((k : Int) + 1) else z.hd 0)
      have q := HFn.out.hnd
      rw [HHo.out] at q
      rw [HHo.out, if_pos rfl, if_pos rfl, erase_out q]
    · show (if (1 : Int) = (thAt z.ts ((k : Int) + 1)).owner then (z.hd 1).filter (· != ((k : Int) + 1)) else z.hd 1) = (if (1 : Int) = 0 then (z.hd 0).erase ((k : Int) + 1) else z.hd 1)
      rw [HHo.out, if_neg (by decide), if_neg (by decide)]
  clear Z2 Z3 P L2 G2
  go_wp2
  go_end0
  exact HF.out
set_option maxRecDepth 100000 in
set_option maxHeartbeats 4000000 in
theorem leave_hand1 (b : Nat) (Sb : List Nat) (z : Zs) (n : Int) (w : World) (Z : ZAt w b Sb z) (F : z.Fine n) (hS : Old w Sb) (hf : z.ts.length ≤ 2048) (hl : (z.hd 1).length ≤ 2048) (hp : (thAt z.ts n).place = 2) (ho : (thAt z.ts n).owner = 1) : Calls Try.prog 97 #[.pointer (some ⟨b, 0, none⟩), .int .i64 n] w (TnPost w b Sb (z.left n) (.tuple #[])) := by
  obtain ⟨vt, d0, d1, h0, h1, Z⟩ := Z
  obtain ⟨c0, c1, c2, c3, c4, c5⟩ := Z.cell
  have T := Z.ts.at
  have hn := F.at_
  obtain ⟨g, off, cap, rfl, R⟩ := ths_there T hn
  obtain ⟨k, hk⟩ : ∃ k : Nat, n = (k : Int) + 1 := ⟨(n - 1).toNat, by unfold there at hn; omega⟩
  subst hk
  have hlt : k < z.ts.length := by unfold there at hn; omega
  rw [show ((k : Int) + 1 - 1).toNat = k from by omega] at R
  obtain ⟨t, ht⟩ : ∃ t, t = thAt z.ts ((k : Int) + 1) := ⟨_, rfl⟩
  rw [← ht] at R
  obtain ⟨e1, e2, e3, e4, e5, e6, e7, e8, e9, e10, e11⟩ := range_cells R
  have hw1 : wrap64 (k : Int) = (k : Int) := by unfold wrap64; omega
  have hlt' : (k : Int) < z.ts.length := by omega
  obtain ⟨pd, cd, ev, _⟩ := own_slice Z.oh1
  have HZ : Hid (ZG 93 [] w b Sb z (.slice (some ⟨g, off, none⟩) z.ts.length cap) d0 d1 h0 h1) := Z
  have HEV : Hid (h1 = .slice pd (z.hd 1).length cd) := ev
  have hto : t.owner = 1 := by rw [ht]; exact ho
  have htp : t.place = 2 := by rw [ht]; exact hp
  have HFn : Hid (z.Fine ((k : Int) + 1)) := F
  have HHo : Hid ((thAt z.ts ((k : Int) + 1)).owner = 1) := ho
  have HHp : Hid ((thAt z.ts ((k : Int) + 1)).place = 2) := hp
  rw [ev] at c4
  rw [hto] at e2
  rw [htp] at e3
  have hbw : b < w.heap.size := block_lt Z.blk
  obtain ⟨V, hV⟩ : ∃ V, V = w.alloc (.cells #[.int .i64 t.card, .int .i64 1, .int .u8 2, .int .i64 t.stamp, .int .i64 t.hurt, .int .i64 t.m0, .int .i64 t.m1, .int .i64 t.m2, .int .i64 t.m3, .int .i64 t.done, .bool t.fresh] 38) := ⟨_, rfl⟩
  have HGV : Hid (w.grownBy V none) := by rw [hV]; exact World.grownBy_alloc _ _ _
  have s1 : V.cell? ⟨w.heap.size, 1, none⟩ = some (.int .i64 1) := by rw [hV, block_cell (alloc_at _ _ _)]; rfl
  have s2 : V.cell? ⟨b, 4, none⟩ = some (.slice pd (z.hd 1).length cd) := HGV.out.cell c4 (by simp)
  have CW := without_two (.slice pd (z.hd 1).length cd) (z.hd 1) ((k : Int) + 1) V.drew (by rw [← ev]; exact own_grow Z.oh1 (grown_trans HGV.out (grown_drew V))) hl
  have HSo : Hid (Old w Sb) := hS
  have HV : Hid (V = w.alloc (.cells #[.int .i64 t.card, .int .i64 1, .int .u8 2, .int .i64 t.stamp, .int .i64 t.hurt, .int .i64 t.m0, .int .i64 t.m1, .int .i64 t.m2, .int .i64 t.m3, .int .i64 t.done, .bool t.fresh] 38)) := hV
  clear T R Z F hS hn ev ho hp ht hV hto htp hf
  go_enter Try.func97, Try.ntmps97
  go_upto_region 5 with fail
  rw [← HV.out]
  refine wp_region_held_drew (S := fun w' => w'.cell? ⟨w.heap.size, 1, none⟩ = some (.int .i64 1)) (by kernel_rfl) (s1) (fun hHeld => ?_)
  refine wpAnyH_take (i := 0) (v := ?_) rfl (by kernel_rfl) (by kernel_rfl) (by kernel_rfl) (fun _ _ _ h => h) (Or.inl ⟨by rfl, ?_⟩) (by assumption) ?_
  rotate_left 1
  · (intro w0 hSw; go_simp; try with_reducible rfl)
  simp only [List.getElem_toArray, List.getElem_cons_zero]
  go_frame
  refine wpAnyH_take (i := 1) (v := ?_) rfl (by kernel_rfl) (by kernel_rfl) (by kernel_rfl) (fun _ _ _ h => h) (Or.inl ⟨by rfl, ?_⟩) (by assumption) ?_
  rotate_left 1
  · (intro w0 hSw; go_simp; try with_reducible rfl)
  simp only [List.getElem_toArray, List.getElem_cons_zero, List.getElem_cons_succ]
  go_frame
  refine wpAnyH_take (i := 2) (v := ?_) rfl (by kernel_rfl) (by kernel_rfl) (by kernel_rfl) (fun _ _ _ h => h) (Or.inl ⟨by rfl, ?_⟩) (by assumption) ?_
  rotate_left 1
  · (intro w0 hSw; go_simp; try with_reducible rfl)
  simp only [List.getElem_toArray, List.getElem_cons_zero, List.getElem_cons_succ]
  go_frame
  refine wpAnyH_take (i := 3) (v := ?_) rfl (by kernel_rfl) (by kernel_rfl) (by kernel_rfl) (fun _ _ _ h => h) (Or.inl ⟨by rfl, ?_⟩) (by assumption) ?_
  rotate_left 1
  · (intro w0 hSw; go_simp; try with_reducible rfl)
  simp only [List.getElem_toArray, List.getElem_cons_zero, List.getElem_cons_succ]
  go_frame
  refine wpAnyH_take (i := 4) (v := ?_) rfl (by kernel_rfl) (by kernel_rfl) (by kernel_rfl) (fun _ _ _ h => h) (Or.inl ⟨by rfl, ?_⟩) (by assumption) ?_
  rotate_left 1
  · (intro w0 hSw; go_simp; try with_reducible rfl)
  simp only [List.getElem_toArray, List.getElem_cons_zero, List.getElem_cons_succ]
  go_frame
  refine wpAnyH_take (i := 5) (v := ?_) rfl (by kernel_rfl) (by kernel_rfl) (by kernel_rfl) (fun _ _ _ h => h) (Or.inl ⟨by rfl, ?_⟩) (by assumption) ?_
  rotate_left 1
  · (intro w0 hSw; go_simp; try with_reducible rfl)
  simp only [List.getElem_toArray, List.getElem_cons_zero, List.getElem_cons_succ]
  go_frame
  refine wpAnyH_take (i := 6) (v := ?_) rfl (by kernel_rfl) (by kernel_rfl) (by kernel_rfl) (fun _ _ _ h => h) (Or.inl ⟨by rfl, ?_⟩) (by assumption) ?_
  rotate_left 1
  · (intro w0 hSw; go_simp; try with_reducible rfl)
  simp only [List.getElem_toArray, List.getElem_cons_zero, List.getElem_cons_succ]
  go_frame
  refine wpAnyH_take (i := 7) (v := ?_) rfl (by kernel_rfl) (by kernel_rfl) (by kernel_rfl) (fun _ _ _ h => h) (Or.inl ⟨by rfl, ?_⟩) (by assumption) ?_
  rotate_left 1
  · (intro w0 hSw; go_simp; try with_reducible rfl)
  simp only [List.getElem_toArray, List.getElem_cons_zero, List.getElem_cons_succ]
  go_frame
  refine wpAnyH_take (i := 8) (v := ?_) rfl (by kernel_rfl) (by kernel_rfl) (by kernel_rfl) (fun _ _ _ h => h) (Or.inl ⟨by rfl, ?_⟩) (by assumption) ?_
  rotate_left 1
  · (intro w0 hSw; go_simp; try with_reducible rfl)
  simp only [List.getElem_toArray, List.getElem_cons_zero, List.getElem_cons_succ]
  go_frame
  refine wpAnyH_take (i := 10) (v := ?_) rfl (by kernel_rfl) (by kernel_rfl) (by kernel_rfl) (fun _ _ _ h => h) (Or.inl ⟨by rfl, ?_⟩) (by assumption) ?_
  rotate_left 1
  · (intro w0 hSw; go_simp; try with_reducible rfl)
  simp only [List.getElem_toArray, List.getElem_cons_zero, List.getElem_cons_succ]
  go_frame
  refine wpAnyH_take (i := 12) (v := ?_) rfl (by kernel_rfl) (by kernel_rfl) (by kernel_rfl) (fun _ _ _ h => h) (Or.inl ⟨by rfl, ?_⟩) (by assumption) ?_
  rotate_left 1
  · (intro w0 hSw; go_simp; try with_reducible rfl)
  simp only [List.getElem_toArray, List.getElem_cons_zero, List.getElem_cons_succ]
  go_frame
  refine wpAnyH_take (i := 13) (v := ?_) rfl (by kernel_rfl) (by kernel_rfl) (by kernel_rfl) (fun _ _ _ h => h) (Or.inl ⟨by rfl, ?_⟩) (by assumption) ?_
  rotate_left 1
  · (intro w0 hSw; go_simp; try with_reducible rfl)
  simp only [List.getElem_toArray, List.getElem_cons_zero, List.getElem_cons_succ]
  go_frame
  refine wpAnyH_ready (rs := [9]) (by kernel_rfl) (by simp) ?_
  refine AllReadyH.cons rfl (fun K9 hK => ?_) AllReadyH.nil
  simp only [List.getElem_toArray, List.getElem_cons_zero, List.getElem_cons_succ]
  go_simp
  refine hK.out _ _ (s1) (fun hHeld3 => ?_)
  clear hK K9
  (try go_frame)
  refine wpAnyH_ready (rs := [11]) (by kernel_rfl) (by simp) ?_
  refine AllReadyH.cons rfl (fun K hK => ?_) AllReadyH.nil
  simp only [List.getElem_toArray, List.getElem_cons_zero, List.getElem_cons_succ]
  go_simp
  go_at_call 121
  refine (CW).mono ?_
  rintro e w2 ⟨v2, rfl, o2, l2, g2⟩
  have HO2 : Hid (OwnI w2 0 v2 ((z.hd 1).erase ((k : Int) + 1))) := o2
  have HL2 : Hid (v2.ownBlock = (Value.slice pd (z.hd 1).length cd).ownBlock ∨ ∀ x, v2.ownBlock = some x → V.drew.heap.size ≤ x) := l2
  have HG2 : Hid (V.drew.grownBy w2 none) := g2
  have t2 : w2.cell? ⟨b, 4, none⟩ = some (.slice pd (z.hd 1).length cd) := g2.cell s2 (by simp)
  have f2 : w2.frozen? ⟨b, 4, none⟩ = false := by
    have hb2 := (HZ.out.grow (grown_trans HGV.out (grown_trans (grown_drew V) g2))).blk
    exact block_free hb2 4
  have t1 : w2.cell? ⟨w.heap.size, 1, none⟩ = some (.int .i64 1) := g2.cell s1 (by simp)
  obtain ⟨pv, cv, rfl, _⟩ := own_slice o2
  clear o2 l2 g2 CW
  refine hK.out _ _ (t1) (fun hHeld2 => ?_)
  clear hK K
  (try go_frame)
  refine wpAnyH_take (i := 14) (v := ?_) rfl (by kernel_rfl) (by kernel_rfl) (by kernel_rfl) (fun _ _ _ h => h) (Or.inl ⟨by rfl, ?_⟩) (by assumption) ?_
  rotate_left 1
  · (intro w0 hSw; go_simp; try with_reducible rfl)
  simp only [List.getElem_toArray, List.getElem_cons_zero, List.getElem_cons_succ]
  go_frame
  refine wpAnyH_ready (rs := [15]) (by kernel_rfl) (by simp) ?_
  refine AllReadyH.cons rfl (fun K9 hK => ?_) AllReadyH.nil
  simp only [List.getElem_toArray, List.getElem_cons_zero, List.getElem_cons_succ]
  go_simp
  have t3 : (w2.setCell ⟨b, 4, none⟩ (.slice pv ((z.hd 1).erase ((k : Int) + 1)).length cv)).cell? ⟨w.heap.size, 1, none⟩ = some (.int .i64 1) := (grown_set w2 b 4 _).cell t1 (by intro q; simp at q; omega)
  refine hK.out _ _ (t3) (fun hHeld3 => ?_)
  clear hK K9
  (try go_frame)
  refine wpAnyH_done (by kernel_rfl) ?_ _
  have G2 : w.grownBy w2 none := grown_trans HGV.out (grown_trans (grown_drew V) HG2.out)
  have Z2 := HZ.out.grow G2
  have P := HZ.out.pairs
  have L2 : (Value.slice pv ((z.hd 1).erase ((k : Int) + 1)).length cv).ownBlock = h1.ownBlock ∨ ∀ x, (Value.slice pv ((z.hd 1).erase ((k : Int) + 1)).length cv).ownBlock = some x → w.heap.size ≤ x := by
    rw [HEV.out]
    rcases HL2.out with q | q
    · exact Or.inl q
    · exact Or.inr fun x hx => Nat.le_trans (HGV.out.size) (q x hx)
  have Z3 := Z2.set_h1 tgs_z HO2.out (apart_new L2 P.1.2.2.symm HZ.out.od0) (apart_new L2 P.2.1.2.symm HZ.out.od1) (apart_new L2 P.2.2.symm HZ.out.oh0)
  have HF : Hid (TnPost w b Sb (z.left ((k : Int) + 1)) (.tuple #[]) (.returned (.tuple #[])) (w2.setCell ⟨b, 4, none⟩ (.slice pv ((z.hd 1).erase ((k : Int) + 1)).length cv))) := by
    refine ⟨rfl, _, ⟨_, _, _, _, _, Z3.congr rfl rfl ?_ ?_ ?_ ?_⟩, turn_more G2 (kpt_set _ _ _ _) HZ.out.inb HSo.out L2 (fun x hx => HZ.out.inS h1 (by simp) x hx) (own_lt HO2.out)⟩
    · show (if (0 : Int) = (thAt z.ts ((k : Int) + 1)).owner then (z.dk 0).filter (· != ((k : Int) + 1)) else z.dk 0) = z.dk 0
      rw [HHo.out, if_neg (by decide)]
    · show (if (1 : Int) = (thAt z.ts ((k : Int) + 1)).owner then (z.dk 1).filter (· != ((k : Int) + 1)) else z.dk 1) = z.dk 1
      have q := HFn.out.dn (by rw [HHp.out]; decide)
      rw [HHo.out] at q
      rw [HHo.out, if_pos rfl, filter_out q]
    · show (if (0 : Int) = (thAt z.ts ((k : Int) + 1)).owner then (z.hd 0).filter (· != ((k : Int) + 1)) else z.hd 0) = (if (0 : Int) = 1 then (z.hd 1).erase ((k : Int) + 1) else z.hd 0)
      rw [HHo.out, if_neg (by decide), if_neg (by decide)]
    · show (if (1 : Int) = (thAt z.ts ((k : Int) + 1)).owner then (z.hd 1).filter (· != ((k : Int) + 1)) else z.hd 1) = (if (1 : Int) = 1 then (z.hd 1).erase ((k : Int) + 1) else z.hd 1)
      have q := HFn.out.hnd
      rw [HHo.out] at q
      rw [HHo.out, if_pos rfl, if_pos rfl, erase_out q]
  clear Z2 Z3 P L2 G2
  go_wp2
  go_end0
  exact HF.out
set_option maxRecDepth 100000 in
set_option maxHeartbeats 4000000 in
theorem leave_else (b : Nat) (Sb : List Nat) (z : Zs) (n : Int) (w : World) (Z : ZAt w b Sb z) (F : z.Fine n) (hS : Old w Sb) (hf : z.ts.length ≤ 2048) (h1 : (thAt z.ts n).place ≠ 1) (h2 : (thAt z.ts n).place ≠ 2) : Calls Try.prog 97 #[.pointer (some ⟨b, 0, none⟩), .int .i64 n] w (TnPost w b Sb (z.left n) (.tuple #[])) := by
  obtain ⟨vt, d0, d1, v0, v1, Z⟩ := Z
  obtain ⟨c0, c1, c2, c3, c4, c5⟩ := Z.cell
  have T := Z.ts.at
  have hn := F.at_
  obtain ⟨g, off, cap, rfl, R⟩ := ths_there T hn
  obtain ⟨k, hk⟩ : ∃ k : Nat, n = (k : Int) + 1 := ⟨(n - 1).toNat, by unfold there at hn; omega⟩
  subst hk
  have hlt : k < z.ts.length := by unfold there at hn; omega
  rw [show ((k : Int) + 1 - 1).toNat = k from by omega] at R
  obtain ⟨t, ht⟩ : ∃ t, t = thAt z.ts ((k : Int) + 1) := ⟨_, rfl⟩
  rw [← ht] at R
  obtain ⟨e1, e2, e3, e4, e5, e6, e7, e8, e9, e10, e11⟩ := range_cells R
  have hw1 : wrap64 (k : Int) = (k : Int) := by unfold wrap64; omega
  have hlt' : (k : Int) < z.ts.length := by omega
  have q1 : (t.place == 1) = false := by rw [ht]; simpa using h1
  have q2 : (t.place == 2) = false := by rw [ht]; simpa using h2
  have Zl : ZAt w b Sb (z.left ((k : Int) + 1)) := by
    refine ⟨_, _, _, _, _, Z.congr rfl rfl ?_ ?_ ?_ ?_⟩
    · show (if (0 : Int) = (thAt z.ts ((k : Int) + 1)).owner then (z.dk 0).filter (· != ((k : Int) + 1)) else z.dk 0) = z.dk 0
      split
      · next q => have := F.dn h1; rw [← q] at this; exact filter_out this
      · rfl
    · show (if (1 : Int) = (thAt z.ts ((k : Int) + 1)).owner then (z.dk 1).filter (· != ((k : Int) + 1)) else z.dk 1) = z.dk 1
      split
      · next q => have := F.dn h1; rw [← q] at this; exact filter_out this
      · rfl
    · show (if (0 : Int) = (thAt z.ts ((k : Int) + 1)).owner then (z.hd 0).filter (· != ((k : Int) + 1)) else z.hd 0) = z.hd 0
      split
      · next q => have := F.hn h2; rw [← q] at this; exact filter_out this
      · rfl
    · show (if (1 : Int) = (thAt z.ts ((k : Int) + 1)).owner then (z.hd 1).filter (· != ((k : Int) + 1)) else z.hd 1) = z.hd 1
      split
      · next q => have := F.hn h2; rw [← q] at this; exact filter_out this
      · rfl
  have HF : Hid (∀ o, TnPost w b Sb (z.left ((k : Int) + 1)) (.tuple #[]) (.returned (.tuple #[])) (w.alloc o)) := fun o => ⟨rfl, Sb, Zl.grow (World.grownBy_alloc _ _ _), Turn.of_grow (World.grownBy_alloc _ _ _) hS⟩
  clear T R Z F hS hn ht hf h1 h2 Zl
  go_enter Try.func97, Try.ntmps97
  go_wp2
  go_end0
  exact HF.out _
theorem leave_any (b : Nat) (Sb : List Nat) (z : Zs) (n : Int) (w : World) (Z : ZAt w b Sb z) (F : z.Fine n) (hS : Old w Sb) (hf : z.ts.length ≤ 2048) (hd : ∀ p, p = 0 ∨ p = 1 → (z.dk p).length ≤ 2048) (hh : ∀ p, p = 0 ∨ p = 1 → (z.hd p).length ≤ 2048) : Calls Try.prog 97 #[.pointer (some ⟨b, 0, none⟩), .int .i64 n] w (TnPost w b Sb (z.left n) (.tuple #[])) := by
  by_cases h1 : (thAt z.ts n).place = 1
  · rcases F.own with h | h
    · exact leave_deck0 b Sb z n w Z F hS hf (hd 0 (Or.inl rfl)) h1 h
    · exact leave_deck1 b Sb z n w Z F hS hf (hd 1 (Or.inr rfl)) h1 h
  · by_cases h2 : (thAt z.ts n).place = 2
    · rcases F.own with h | h
      · exact leave_hand0 b Sb z n w Z F hS hf (hh 0 (Or.inl rfl)) h2 h
      · exact leave_hand1 b Sb z n w Z F hS hf (hh 1 (Or.inr rfl)) h2 h
    · exact leave_else b Sb z n w Z F hS hf h1 h2
end Go.Proofs.Ytogpgldbbegniaa
