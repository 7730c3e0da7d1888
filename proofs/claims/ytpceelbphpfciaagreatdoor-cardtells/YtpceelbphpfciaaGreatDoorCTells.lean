/-
  CardTells, walked: of every card whether it may be, its text, a copy, whether it means one, as the document's own answers tell it; what was handed in stays, and may be written over; a copy lies in memory of its own.
-/
import Derived.Test.YtpceelbphpfciaaGreatDoorCTells0
import Derived.Test.YtpceelbphpfciaaGreatDoorR6Prt
import Derived.Test.YtpceelbphpfciaaGreatDoorRE
import Derived.Test.YtpceelbphpfciaaGreatDoorCPrint
import Derived.Test.YtpceelbphpfciaaGreatDoorCSame
import Derived.Deep.CutRange
import Derived.Maps.RangeWalk
namespace Go.Proofs.YtpceelbphpfciaaGreatDoor
open Go.RowKit

theorem own_head {w : World} {base g cap : Nat} {ps qs : List Pt} (h : POwn w base (.slice (some ⟨g, 0, none⟩) (ps.length + qs.length) cap) (ps ++ qs)) : PsAt w (.slice (some ⟨g, 0, none⟩) ps.length cap) ps := by
  have k := h.at
  rcases k with ⟨e, _⟩ | ⟨ad, cp, e, hc, h⟩
  · cases e
  · injection e with e1 _ e3
    injection e1 with e1
    subst e1
    subst e3
    refine Or.inr ⟨_, _, rfl, by rw [List.length_append] at hc; omega, fun j u hu => h j u ?_⟩
    rw [pcells_app, List.getElem?_append_left (List.getElem?_eq_some_iff.1 hu).1]
    exact hu
/-- A list that the call has made itself, as one of those that lie apart. -/
theorem own_lst' {w : World} {base : Nat} {v : Value} {ps : List Pt} (h : POwn w base v ps) : ∃ x : Lst, v = .slice (x.a.map fun g => ⟨g, 0, none⟩) x.n x.cap ∧ x.ok w ∧ ∀ g, x.a = some g → base ≤ g ∧ g < w.heap.size := by
  obtain ⟨_, ⟨rfl, _⟩ | ⟨g, cap, cur, rfl, hb, hh, hn, hc, hz, _⟩⟩ := h
  · exact ⟨⟨none, 0, 0⟩, rfl, Or.inl ⟨rfl, rfl, rfl⟩, fun g e => by cases e⟩
  · exact ⟨⟨some g, _, cap⟩, rfl, Or.inr ⟨g, rfl, hn, hc, cur, hh, hz⟩, fun g' e => by cases e; exact ⟨hb, block_lt hh⟩⟩
/-- What stands all along: the card as it came, the card that is lent, its list. -/
structure TS (w : World) (h : Hd) (v : Value) (ps : List Pt) (g q3 : Nat) (W : World) : Prop where
  gr : w.grownBy W none
  c : CAt W w.heap.size h v
  i : CAt W q3 h (.slice (some ⟨g, 0, none⟩) ps.length (ps.length + 2))
  f : POwn W 0 (.slice (some ⟨g, 0, none⟩) (ps.length + 2) (ps.length + 2)) (ps ++ [mkP, mkP])
theorem TS.keep {w W W' : World} {h : Hd} {v : Value} {ps : List Pt} {g q3 : Nat} (t : TS w h v ps g q3 W) (k : W.grownBy W' none) : TS w h v ps g q3 W' := ⟨grown_trans t.gr k, t.c.keep k, t.i.keep k, t.f.keep k (by simp)⟩
theorem tag_no {w : World} {q : Nat} {h : Hd} {v : Value} {b : Nat} {cs : Array Value} {z : Nat × Nat} (c : CAt w q h v) (k : w.heap[b]? = some (.cells cs 29 z)) : b ≠ q := fun e => by
  subst e
  have := Option.some.inj (k.symm.trans c)
  injection this with _ e2
  exact absurd e2 (by decide)
theorem POwn.keepC {w w' : World} {base q : Nat} {u v : Value} {h : Hd} {l : List Pt} (k : POwn w base u l) (c : CAt w q h v) (g : w.grownBy w' (some q)) : POwn w' base u l := by
  obtain ⟨h1, h2⟩ := k
  refine ⟨h1, ?_⟩
  rcases h2 with h2 | ⟨b, cap, cur, e, hb, hh, h3⟩
  · exact Or.inl h2
  · exact Or.inr ⟨b, cap, cur, e, hb, grown_keep g hh (fun e => tag_no c hh (Option.some.inj e)), h3⟩
theorem TS.keepC {w W W' : World} {h k : Hd} {v u : Value} {ps : List Pt} {g q3 q : Nat} (t : TS w h v ps g q3 W) (c : CAt W q k u) (hq : q3 < q) (hw : w.heap.size < q3) (gw : W.grownBy W' (some q)) : TS w h v ps g q3 W' :=
  ⟨grown_own t.gr gw (fun x e => by cases e; omega), t.c.keepR gw (by simp; omega), t.i.keepR gw (by simp; omega), t.f.keepC c gw⟩
/-- A copy's list. -/
structure T1 (ps : List Pt) (lo : Nat) (x : Lst) (W : World) : Prop where
  own : POwn W 0 (.slice (x.a.map fun g => ⟨g, 0, none⟩) x.n x.cap) ps
  ok : x.ok W
  lo : ∀ b, x.a = some b → lo ≤ b ∧ b < W.heap.size
theorem Lst.ok.keep2 {w w' : World} {x : Lst} {r : Option Nat} (h : x.ok w) (g : w.grownBy w' r) (hr : ∀ b, x.a = some b → some b ≠ r) : x.ok w' := by
  rcases h with h | ⟨b, h1, h2, h3, h4⟩
  · exact Or.inl h
  · exact Or.inr ⟨b, h1, h2, h3, h4.keep g (hr b h1)⟩
theorem T1.keep {W W' : World} {ps : List Pt} {lo : Nat} {x : Lst} (t : T1 ps lo x W) (g : W.grownBy W' none) : T1 ps lo x W' := ⟨t.own.keep g (by simp), t.ok.keep2 g (by simp), fun b hb => ⟨(t.lo b hb).1, Nat.lt_of_lt_of_le (t.lo b hb).2 g.size⟩⟩
theorem T1.keepC {W W' : World} {ps : List Pt} {lo q : Nat} {x : Lst} {h : Hd} {v : Value} (t : T1 ps lo x W) (c : CAt W q h v) (g : W.grownBy W' (some q)) : T1 ps lo x W' :=
  ⟨t.own.keepC c g, t.ok.keep2 g (fun b hb e => by
    rcases t.ok with ⟨h1, _⟩ | ⟨b', h1, _, _, cs, h2, _⟩
    · rw [h1] at hb; cases hb
    · rw [h1] at hb
      obtain rfl := Option.some.inj hb
      exact tag_no c h2 (Option.some.inj e)), fun b hb => ⟨(t.lo b hb).1, Nat.lt_of_lt_of_le (t.lo b hb).2 g.size⟩⟩
theorem three_cells {w : World} {x y z : Lst} : ∀ (j : Nat) t, [x, y, z][j]? = some t → (w.alloc (.cells #[.slice (x.a.map fun g => ⟨g, 0, none⟩) x.n x.cap, .slice (y.a.map fun g => ⟨g, 0, none⟩) y.n y.cap, .slice (z.a.map fun g => ⟨g, 0, none⟩) z.n z.cap] 38)).cell? ⟨w.heap.size, j, none⟩ = some t.v := fun j t hj => by
  rw [block_cell (alloc_at w _ _)]
  match j, hj with
  | 0, hj => obtain rfl := Option.some.inj hj; rfl
  | 1, hj => obtain rfl := Option.some.inj hj; rfl
  | 2, hj => obtain rfl := Option.some.inj hj; rfl
theorem three_diff {x y z : Lst} (h1 : ∀ g, x.a = some g → y.a = some g → False) (h2 : ∀ g, x.a = some g → z.a = some g → False) (h3 : ∀ g, y.a = some g → z.a = some g → False) : Diff [x, y, z] := fun i j a b g hi hj ha hb => by
  match i, j, hi, hj with
  | 0, 0, _, _ => rfl
  | 1, 1, _, _ => rfl
  | 2, 2, _, _ => rfl
  | 0, 1, hi, hj =>
    obtain rfl := Option.some.inj hi
    obtain rfl := Option.some.inj hj
    exact (h1 g ha hb).elim
  | 1, 0, hi, hj =>
    obtain rfl := Option.some.inj hi
    obtain rfl := Option.some.inj hj
    exact (h1 g hb ha).elim
  | 0, 2, hi, hj =>
    obtain rfl := Option.some.inj hi
    obtain rfl := Option.some.inj hj
    exact (h2 g ha hb).elim
  | 2, 0, hi, hj =>
    obtain rfl := Option.some.inj hi
    obtain rfl := Option.some.inj hj
    exact (h2 g hb ha).elim
  | 1, 2, hi, hj =>
    obtain rfl := Option.some.inj hi
    obtain rfl := Option.some.inj hj
    exact (h3 g ha hb).elim
  | 2, 1, hi, hj =>
    obtain rfl := Option.some.inj hi
    obtain rfl := Option.some.inj hj
    exact (h3 g hb ha).elim
/-- The two copies, each in its block, their lists apart. -/
structure T2 (h : Hd) (ps : List Pt) (g q3 q8 q9 : Nat) (x1 x2 : Lst) (W : World) : Prop where
  c8 : CAt W q8 h (.slice (x1.a.map fun g => ⟨g, 0, none⟩) x1.n x1.cap)
  c9 : CAt W q9 h (.slice (x2.a.map fun g => ⟨g, 0, none⟩) x2.n x2.cap)
  t1 : T1 ps (g + 1) x1 W
  t2 : T1 ps (g + 1) x2 W
  df : ∀ b, x1.a = some b → x2.a = some b → False
theorem T2.keep {W W' : World} {h : Hd} {ps : List Pt} {g q3 q8 q9 : Nat} {x1 x2 : Lst} (t : T2 h ps g q3 q8 q9 x1 x2 W) (k : W.grownBy W' none) : T2 h ps g q3 q8 q9 x1 x2 W' := ⟨t.c8.keep k, t.c9.keep k, t.t1.keep k, t.t2.keep k, t.df⟩
theorem RoomAt.lt {w : World} {g cap : Nat} (h : RoomAt w g cap) : g < w.heap.size := by
  obtain ⟨cs, h1, _⟩ := h
  exact block_lt h1
theorem T1.keepG {W W' : World} {ps : List Pt} {g : Nat} {x : Lst} (t : T1 ps (g + 1) x W) (k : W.grownBy W' (some g)) : T1 ps (g + 1) x W' := by
  refine ⟨?_, t.ok.keep2 k (fun b hb e => by have := (t.lo b hb).1; cases e; omega), fun b hb => ⟨(t.lo b hb).1, Nat.lt_of_lt_of_le (t.lo b hb).2 k.size⟩⟩
  obtain ⟨h1, h2⟩ := t.own
  refine ⟨h1, ?_⟩
  rcases h2 with h2 | ⟨b, cap, cur, e, hb, hh, h3⟩
  · exact Or.inl h2
  · refine Or.inr ⟨b, cap, cur, e, hb, grown_keep k hh (fun e2 => ?_), h3⟩
    injection e with e1 _ _
    cases hx : x.a with
    | none => rw [hx] at e1; cases e1
    | some y =>
      rw [hx] at e1
      have hy := (t.lo y hx).1
      injection e1 with e1
      injection e1 with e1
      cases e2
      omega
theorem T2.keepG {W W' : World} {h : Hd} {ps : List Pt} {g q3 q8 q9 cap : Nat} {x1 x2 : Lst} (t : T2 h ps g q3 q8 q9 x1 x2 W) (k : W.grownBy W' (some g)) (r : RoomAt W g cap) : T2 h ps g q3 q8 q9 x1 x2 W' := by
  obtain ⟨cs, h1, _⟩ := r
  exact ⟨t.c8.keepR k (fun e => tag_no t.c8 h1 (Option.some.inj e).symm), t.c9.keepR k (fun e => tag_no t.c9 h1 (Option.some.inj e).symm), t.t1.keepG k, t.t2.keepG k, t.df⟩
def CIn (q : Nat) (h : Hd) (v : Value) (w : World) : Prop := CAt w q h v
theorem CIn.c {q : Nat} {h : Hd} {v : Value} {w : World} (k : CIn q h v w) : CAt w q h v := k
set_option maxRecDepth 100000 in
set_option maxHeartbeats 2000000 in
theorem tells_any (h : Hd) (v : Value) (ps : List Pt) (w : World) (L : LaidAt w) (hp : PsAt w v ps) (hF : Fits ps.length) (hwf : (h.with ps).wf) : Calls Tryz.prog 4 #[cv h v] w fun e w' => e = .returned (.bool true) ∧ w.grownBy w' none := by
  have HL : Hid (LaidAt w) := L
  have HP : Hid (PsAt w v ps) := hp
  have HFT : Hid (Fits ps.length) := hF
  have HCP : Hid (ps.length * 40 ≤ 140737488355328) := hF.copy
  have HSM : Hid (Small ps.length) := hF.small
  have HWF : Hid ((h.with ps).wf) := hwf
  obtain ⟨va, vc, rfl⟩ := hp.form
  clear L hp hF hwf
  have HA0 : Hid (CAt (w.alloc (.cells (ccs h (.slice va ps.length vc)) 40)) w.heap.size h (.slice va ps.length vc)) := alloc_at w _ _
  unfold ccs at HA0
  unfold cv
  go_enter Tryz.func4, Tryz.ntmps4
  go_wp2_with fail
  refine (lentCard_any h _ ps _ (HP.out.keep (World.grownBy_alloc _ _ none)) HFT.out).mono ?_
  rintro e w1 ⟨g, rfl, hg, o1, g1⟩
  rw [World.size_alloc] at hg
  obtain ⟨Wa, hWa⟩ : ∃ X, X = w1.alloc (.cells (ccs h (.slice (some ⟨g, 0, none⟩) ps.length (ps.length + 2))) 40) := ⟨_, rfl⟩
  obtain ⟨q3, hq3⟩ : ∃ X, X = w1.heap.size := ⟨_, rfl⟩
  have LW : Hid (w.heap.size < q3) := by unfold Hid; rw [hq3]; exact block_lt (HA0.out.keep g1)
  have LG : Hid (w.heap.size < g) := by unfold Hid; omega
  have TSa : Hid (TS w h (.slice va ps.length vc) ps g q3 Wa) := by
    unfold Hid
    rw [hWa, hq3]
    exact ⟨grown_push (grown_trans (World.grownBy_alloc _ _ none) g1) _, (HA0.out.keep g1).keep (World.grownBy_alloc _ _ none), alloc_at w1 _ _, (o1.big (Nat.zero_le _)).keep (World.grownBy_alloc _ _ none) (by simp)⟩
  unfold ccs at hWa
  unfold cv
  clear g1 o1 HA0
  go_upto_region 2 with fail
  rw [← hWa, ← hq3]
  clear hWa hq3 hg
  obtain ⟨c0, c1, c2, c3, c4, c5, c6, c7, c8⟩ := TSa.out.i.cells
  go_wp2_with fail
  refine (ccheck_any h _ ps _ (own_head TSa.out.f) HSM.out).mono ?_
  rintro e wb ⟨rfl, gb⟩
  have TSb : Hid (TS w h (.slice va ps.length vc) ps g q3 wb) := TSa.out.keep gb
  clear gb TSa c0 c1 c2 c3 c4 c5 c6 c7 c8
  obtain ⟨er, her⟩ : ∃ er, er = cchk (h.with ps) := ⟨_, rfl⟩
  have HER : Hid (er = cchk (h.with ps)) := her
  rw [← her]
  clear her
  obtain ⟨c0, c1, c2, c3, c4, c5, c6, c7, c8⟩ := TSb.out.i.cells
  go_wp2_with fail
  refine (cprint_any (h.with ps) (.slice (some ⟨g, 0, none⟩) ps.length (ps.length + 2)) _ (HL.out.keep TSb.out.gr) (own_head TSb.out.f) HSM.out).mono ?_
  rintro e wa ⟨rfl, ga⟩
  have TSa : Hid (TS w h (.slice va ps.length vc) ps g q3 wa) := TSb.out.keep ga
  obtain ⟨tx, htx⟩ : ∃ tx, tx = cprB (h.with ps) := ⟨_, rfl⟩
  have HTX : Hid (tx = cprB (h.with ps)) := htx
  rw [← htx, ← HER.out]
  clear ga TSb c0 c1 c2 c3 c4 c5 c6 c7 c8 htx
  go_upto_region 4 with fail
  go_cut [8, 9] from 25 to 28 (fun v8 v9 wx => ∃ q8 q9 x1 x2, v8 = .pointer (some ⟨q8, 0, none⟩) ∧ v9 = .pointer (some ⟨q9, 0, none⟩) ∧ TS w h (.slice va ps.length vc) ps g q3 wx ∧ T2 h ps g q3 q8 q9 x1 x2 wx)
  case first =>
    obtain ⟨Wa, hWa⟩ : ∃ X, X = wa := ⟨_, rfl⟩
    subst hWa
    obtain ⟨c0, c1, c2, c3, c4, c5, c6, c7, c8⟩ := TSa.out.i.cells
    refine wp_region_held_drew (S := CIn q3 h (.slice (some ⟨g, 0, none⟩) ps.length (ps.length + 2))) (by kernel_rfl) (TSa.out.i.keep (grown_drew _)) (fun hHeld => ?_)
    refine wpAnyH_take (i := 0) (v := ?_) rfl (by kernel_rfl) (by kernel_rfl) (by kernel_rfl) (fun _ _ _ h => h) (Or.inl ⟨by rfl, ?_⟩) (by assumption) ?_
    rotate_left 1
    · (intro w0 hSw; obtain ⟨e0, e1, e2, e3, e4, e5, e6, e7, e8⟩ := (CIn.c hSw).cells; go_simp; try with_reducible rfl)
    simp only [List.getElem_toArray, List.getElem_cons_zero]
    go_frame
    refine wpAnyH_take (i := 2) (v := ?_) rfl (by kernel_rfl) (by kernel_rfl) (by kernel_rfl) (fun _ _ _ h => h) (Or.inl ⟨by rfl, ?_⟩) (by assumption) ?_
    rotate_left 1
    · (intro w0 hSw; obtain ⟨e0, e1, e2, e3, e4, e5, e6, e7, e8⟩ := (CIn.c hSw).cells; go_simp; try with_reducible rfl)
    simp only [List.getElem_toArray, List.getElem_cons_zero, List.getElem_cons_succ]
    go_frame
    clear hHeld c0 c1 c2 c3 c4 c5 c6 c7 c8
    obtain ⟨W0, hW0⟩ : ∃ X, X = Wa.drew := ⟨_, rfl⟩
    have TS0 : Hid (TS w h (.slice va ps.length vc) ps g q3 W0) := by unfold Hid; rw [hW0]; exact TSa.out.keep (grown_drew _)
    rw [← hW0]
    clear hW0
    refine wpAnyH_ready (rs := [1, 4, 5]) (by kernel_rfl) (by simp) ?_
    refine AllReadyH.cons rfl (fun K hK => ?_) (AllReadyH.cons rfl (fun K hK => ?_) (AllReadyH.cons rfl (fun K hK => ?_) AllReadyH.nil))
    · simp only [List.getElem_toArray, List.getElem_cons_zero, List.getElem_cons_succ]
      go_simp
      go_at_call 14
      refine (ccopy_any h _ ps _ (own_head TS0.out.f) HCP.out).mono ?_
      rintro e W1 ⟨uu, rfl, oo, gg⟩
      obtain ⟨x1, rfl, kk, bb⟩ := own_lst' oo
      have U1_1 : Hid (T1 ps (g + 1) x1 W1) := ⟨oo.big (Nat.zero_le _), kk, fun b hb => ⟨Nat.le_trans (Nat.succ_le_of_lt (own_room TS0.out.f).1.lt) (bb b hb).1, (bb b hb).2⟩⟩
      have D12a : Hid (∀ b, x1.a = some b → b < W1.heap.size) := fun b hb => (bb b hb).2
      have TS1 : Hid (TS w h (.slice va ps.length vc) ps g q3 W1) := TS0.out.keep gg
      clear gg oo kk bb
      unfold cv
      refine hK.out _ _ ((TS1.out.i)) (fun _ => ?_)
      clear hK K
      (try go_frame)
      refine wpAnyH_ready (rs := [3, 4, 5]) (by kernel_rfl) (by simp) ?_
      refine AllReadyH.cons rfl (fun K hK => ?_) (AllReadyH.cons rfl (fun K hK => ?_) (AllReadyH.cons rfl (fun K hK => ?_) AllReadyH.nil))
      · simp only [List.getElem_toArray, List.getElem_cons_zero, List.getElem_cons_succ]
        go_simp
        go_at_call 14
        refine (ccopy_any h _ ps _ (own_head TS1.out.f) HCP.out).mono ?_
        rintro e W2 ⟨uu, rfl, oo, gg⟩
        obtain ⟨x2, rfl, kk, bb⟩ := own_lst' oo
        have U2_2 : Hid (T1 ps (g + 1) x2 W2) := ⟨oo.big (Nat.zero_le _), kk, fun b hb => ⟨Nat.le_trans (Nat.succ_le_of_lt (own_room TS1.out.f).1.lt) (bb b hb).1, (bb b hb).2⟩⟩
        have E12 : Hid (∀ b, x2.a = some b → W1.heap.size ≤ b) := fun b hb => (bb b hb).1
        have D12 : Hid (∀ b, x1.a = some b → b < W1.heap.size) := fun b hb => (U1_1.out.lo b hb).2
        have TS2 : Hid (TS w h (.slice va ps.length vc) ps g q3 W2) := TS1.out.keep gg
        have U1_2 : Hid (T1 ps (g + 1) x1 W2) := U1_1.out.keep gg
        clear gg oo kk bb
        unfold cv
        refine hK.out _ _ ((TS2.out.i)) (fun _ => ?_)
        clear hK K
        (try go_frame)
        refine wpAnyH_ready (rs := [4, 5]) (by kernel_rfl) (by simp) ?_
        refine AllReadyH.cons rfl (fun K hK => ?_) (AllReadyH.cons rfl (fun K hK => ?_) AllReadyH.nil)
        · simp only [List.getElem_toArray, List.getElem_cons_zero, List.getElem_cons_succ]
          go_simp
          refine hK.out _ _ (TS2.out.i.keep (World.grownBy_alloc _ _ none)) (fun _ => ?_)
          clear hK K
          (try go_frame)
          obtain ⟨W3, hW3⟩ : ∃ X, X = W2.alloc (.cells #[.string ⟨#[]⟩, .int .u8 0, .int .u8 0, .int .i64 0, .int .i64 0, .int .i64 0, .int .u16 0, .bool false, .slice none 0 0] 40) := ⟨_, rfl⟩
          have A8_3' : CAt W3 W2.heap.size Hd.none (.slice none 0 0) := by rw [hW3]; exact alloc_at W2 _ _
          have gg : W2.grownBy W3 none := by rw [hW3]; exact World.grownBy_alloc _ _ none
          obtain ⟨q8, hq8⟩ : ∃ X, X = W2.heap.size := ⟨_, rfl⟩
          have L8 : Hid (q3 < q8) := by unfold Hid; rw [hq8]; exact block_lt TS2.out.i
          have TS3 : Hid (TS w h (.slice va ps.length vc) ps g q3 W3) := TS2.out.keep gg
          have U1_3 : Hid (T1 ps (g + 1) x1 W3) := U1_2.out.keep gg
          have U2_3 : Hid (T1 ps (g + 1) x2 W3) := U2_2.out.keep gg
          rw [← hW3, ← hq8]
          rw [← hq8] at A8_3'
          have A8_3 : Hid (CAt W3 q8 Hd.none (.slice none 0 0)) := A8_3'
          clear A8_3' gg hW3 hq8
          refine wpAnyH_ready (rs := [5]) (by kernel_rfl) (by simp) ?_
          refine AllReadyH.cons rfl (fun K hK => ?_) AllReadyH.nil
          simp only [List.getElem_toArray, List.getElem_cons_zero, List.getElem_cons_succ]
          go_simp
          refine hK.out _ _ (TS3.out.i.keep (World.grownBy_alloc _ _ none)) (fun _ => ?_)
          clear hK K
          (try go_frame)
          obtain ⟨W4, hW4⟩ : ∃ X, X = W3.alloc (.cells #[.string ⟨#[]⟩, .int .u8 0, .int .u8 0, .int .i64 0, .int .i64 0, .int .i64 0, .int .u16 0, .bool false, .slice none 0 0] 40) := ⟨_, rfl⟩
          have A9_4' : CAt W4 W3.heap.size Hd.none (.slice none 0 0) := by rw [hW4]; exact alloc_at W3 _ _
          have gg : W3.grownBy W4 none := by rw [hW4]; exact World.grownBy_alloc _ _ none
          obtain ⟨q9, hq9⟩ : ∃ X, X = W3.heap.size := ⟨_, rfl⟩
          have L9 : Hid (q3 < q9) := by unfold Hid; rw [hq9]; exact block_lt TS3.out.i
          have LN : Hid (q8 ≠ q9) := by have := block_lt A8_3.out; unfold Hid; omega
          have TS4 : Hid (TS w h (.slice va ps.length vc) ps g q3 W4) := TS3.out.keep gg
          have U1_4 : Hid (T1 ps (g + 1) x1 W4) := U1_3.out.keep gg
          have U2_4 : Hid (T1 ps (g + 1) x2 W4) := U2_3.out.keep gg
          have A8_4 : Hid (CAt W4 q8 Hd.none (.slice none 0 0)) := A8_3.out.keep gg
          rw [← hW4, ← hq9]
          rw [← hq9] at A9_4'
          have A9_4 : Hid (CAt W4 q9 Hd.none (.slice none 0 0)) := A9_4'
          clear A9_4' gg hW4 hq9
          refine wpAnyH_ready (rs := [6]) (by kernel_rfl) (by simp) ?_
          refine AllReadyH.cons rfl (fun K hK => ?_) AllReadyH.nil
          obtain ⟨c0, c1, c2, c3, c4, c5, c6, c7, c8⟩ := A8_4.out.cells
          have cf := fun i => A8_4.out.free i
          simp only [Hd.none] at c0 c1 c2 c3 c4 c5 c6 c7 c8
          simp only [List.getElem_toArray, List.getElem_cons_zero, List.getElem_cons_succ]
          go_simp
          refine hK.out _ _ (TS4.out.i.keepR (row_st9 _ q8 _ _ _ _ _ _ _ _ _) (by have := L8.out; simp; omega)) (fun _ => ?_)
          clear hK K c0 c1 c2 c3 c4 c5 c6 c7 c8 cf
          (try go_frame)
          obtain ⟨W5, hW5⟩ : ∃ X, X = ((((((((((W4.setCell ⟨q8, 0, none⟩ (.string h.nm)).setCell ⟨q8, 1, none⟩ (.int .u8 h.su)).setCell ⟨q8, 2, none⟩ (.int .u8 h.kd)).setCell ⟨q8, 3, none⟩ (.int .i64 h.co)).setCell ⟨q8, 4, none⟩ (.int .i64 h.po)).setCell ⟨q8, 5, none⟩ (.int .i64 h.he)).setCell ⟨q8, 6, none⟩ (.int .u16 h.tr)).setCell ⟨q8, 7, none⟩ (.bool h.tk)).setCell ⟨q8, 8, none⟩ (.slice (x1.a.map fun g => ⟨g, 0, none⟩) x1.n x1.cap))) := ⟨_, rfl⟩
          have gg : W4.grownBy W5 (some q8) := by rw [hW5]; exact row_st9 _ _ _ _ _ _ _ _ _ _ _
          have A8_5 : Hid (CAt W5 q8 h (.slice (x1.a.map fun g => ⟨g, 0, none⟩) x1.n x1.cap)) := by unfold Hid; rw [hW5]; exact CAt.st9 A8_4.out
          have TS5 : Hid (TS w h (.slice va ps.length vc) ps g q3 W5) := TS4.out.keepC A8_4.out L8.out LW.out gg
          have U1_5 : Hid (T1 ps (g + 1) x1 W5) := U1_4.out.keepC A8_4.out gg
          have U2_5 : Hid (T1 ps (g + 1) x2 W5) := U2_4.out.keepC A8_4.out gg
          have A9_5 : Hid (CAt W5 q9 Hd.none (.slice none 0 0)) := A9_4.out.keepR gg (by have := LN.out; simp; omega)
          rw [← hW5]
          clear gg hW5
          refine wpAnyH_ready (rs := [7]) (by kernel_rfl) (by simp) ?_
          refine AllReadyH.cons rfl (fun K hK => ?_) AllReadyH.nil
          obtain ⟨c0, c1, c2, c3, c4, c5, c6, c7, c8⟩ := A9_5.out.cells
          have cf := fun i => A9_5.out.free i
          simp only [Hd.none] at c0 c1 c2 c3 c4 c5 c6 c7 c8
          simp only [List.getElem_toArray, List.getElem_cons_zero, List.getElem_cons_succ]
          go_simp
          refine hK.out _ _ (TS5.out.i.keepR (row_st9 _ q9 _ _ _ _ _ _ _ _ _) (by have := L9.out; simp; omega)) (fun _ => ?_)
          clear hK K c0 c1 c2 c3 c4 c5 c6 c7 c8 cf
          (try go_frame)
          obtain ⟨W6, hW6⟩ : ∃ X, X = ((((((((((W5.setCell ⟨q9, 0, none⟩ (.string h.nm)).setCell ⟨q9, 1, none⟩ (.int .u8 h.su)).setCell ⟨q9, 2, none⟩ (.int .u8 h.kd)).setCell ⟨q9, 3, none⟩ (.int .i64 h.co)).setCell ⟨q9, 4, none⟩ (.int .i64 h.po)).setCell ⟨q9, 5, none⟩ (.int .i64 h.he)).setCell ⟨q9, 6, none⟩ (.int .u16 h.tr)).setCell ⟨q9, 7, none⟩ (.bool h.tk)).setCell ⟨q9, 8, none⟩ (.slice (x2.a.map fun g => ⟨g, 0, none⟩) x2.n x2.cap))) := ⟨_, rfl⟩
          have gg : W5.grownBy W6 (some q9) := by rw [hW6]; exact row_st9 _ _ _ _ _ _ _ _ _ _ _
          have A9_6 : Hid (CAt W6 q9 h (.slice (x2.a.map fun g => ⟨g, 0, none⟩) x2.n x2.cap)) := by unfold Hid; rw [hW6]; exact CAt.st9 A9_5.out
          have TS6 : Hid (TS w h (.slice va ps.length vc) ps g q3 W6) := TS5.out.keepC A9_5.out L9.out LW.out gg
          have U1_6 : Hid (T1 ps (g + 1) x1 W6) := U1_5.out.keepC A9_5.out gg
          have U2_6 : Hid (T1 ps (g + 1) x2 W6) := U2_5.out.keepC A9_5.out gg
          have A8_6 : Hid (CAt W6 q8 h (.slice (x1.a.map fun g => ⟨g, 0, none⟩) x1.n x1.cap)) := A8_5.out.keepR gg (by have := LN.out; simp; omega)
          rw [← hW6]
          clear gg hW6
          refine wpAnyH_done (by kernel_rfl) ?_ _
          go_wp2_with fail
          go_meet
          case rel => exact ⟨q8, q9, x1, x2, rfl, rfl, TS6.out, ⟨A8_6.out, A9_6.out, U1_6.out, U2_6.out, fun b e1 e2 => by have a1 := (D12.out b e1); have a2 := (E12.out b e2); omega⟩⟩
        · simp only [List.getElem_toArray, List.getElem_cons_zero, List.getElem_cons_succ]
          go_simp
          refine hK.out _ _ (TS2.out.i.keep (World.grownBy_alloc _ _ none)) (fun _ => ?_)
          clear hK K
          (try go_frame)
          obtain ⟨W3, hW3⟩ : ∃ X, X = W2.alloc (.cells #[.string ⟨#[]⟩, .int .u8 0, .int .u8 0, .int .i64 0, .int .i64 0, .int .i64 0, .int .u16 0, .bool false, .slice none 0 0] 40) := ⟨_, rfl⟩
          have A9_3' : CAt W3 W2.heap.size Hd.none (.slice none 0 0) := by rw [hW3]; exact alloc_at W2 _ _
          have gg : W2.grownBy W3 none := by rw [hW3]; exact World.grownBy_alloc _ _ none
          obtain ⟨q9, hq9⟩ : ∃ X, X = W2.heap.size := ⟨_, rfl⟩
          have L9 : Hid (q3 < q9) := by unfold Hid; rw [hq9]; exact block_lt TS2.out.i
          have TS3 : Hid (TS w h (.slice va ps.length vc) ps g q3 W3) := TS2.out.keep gg
          have U1_3 : Hid (T1 ps (g + 1) x1 W3) := U1_2.out.keep gg
          have U2_3 : Hid (T1 ps (g + 1) x2 W3) := U2_2.out.keep gg
          rw [← hW3, ← hq9]
          rw [← hq9] at A9_3'
          have A9_3 : Hid (CAt W3 q9 Hd.none (.slice none 0 0)) := A9_3'
          clear A9_3' gg hW3 hq9
          refine wpAnyH_ready (rs := [4]) (by kernel_rfl) (by simp) ?_
          refine AllReadyH.cons rfl (fun K hK => ?_) AllReadyH.nil
          simp only [List.getElem_toArray, List.getElem_cons_zero, List.getElem_cons_succ]
          go_simp
          refine hK.out _ _ (TS3.out.i.keep (World.grownBy_alloc _ _ none)) (fun _ => ?_)
          clear hK K
          (try go_frame)
          obtain ⟨W4, hW4⟩ : ∃ X, X = W3.alloc (.cells #[.string ⟨#[]⟩, .int .u8 0, .int .u8 0, .int .i64 0, .int .i64 0, .int .i64 0, .int .u16 0, .bool false, .slice none 0 0] 40) := ⟨_, rfl⟩
          have A8_4' : CAt W4 W3.heap.size Hd.none (.slice none 0 0) := by rw [hW4]; exact alloc_at W3 _ _
          have gg : W3.grownBy W4 none := by rw [hW4]; exact World.grownBy_alloc _ _ none
          obtain ⟨q8, hq8⟩ : ∃ X, X = W3.heap.size := ⟨_, rfl⟩
          have L8 : Hid (q3 < q8) := by unfold Hid; rw [hq8]; exact block_lt TS3.out.i
          have LN : Hid (q8 ≠ q9) := by have := block_lt A9_3.out; unfold Hid; omega
          have TS4 : Hid (TS w h (.slice va ps.length vc) ps g q3 W4) := TS3.out.keep gg
          have U1_4 : Hid (T1 ps (g + 1) x1 W4) := U1_3.out.keep gg
          have U2_4 : Hid (T1 ps (g + 1) x2 W4) := U2_3.out.keep gg
          have A9_4 : Hid (CAt W4 q9 Hd.none (.slice none 0 0)) := A9_3.out.keep gg
          rw [← hW4, ← hq8]
          rw [← hq8] at A8_4'
          have A8_4 : Hid (CAt W4 q8 Hd.none (.slice none 0 0)) := A8_4'
          clear A8_4' gg hW4 hq8
          refine wpAnyH_ready (rs := [6]) (by kernel_rfl) (by simp) ?_
          refine AllReadyH.cons rfl (fun K hK => ?_) AllReadyH.nil
          obtain ⟨c0, c1, c2, c3, c4, c5, c6, c7, c8⟩ := A8_4.out.cells
          have cf := fun i => A8_4.out.free i
          simp only [Hd.none] at c0 c1 c2 c3 c4 c5 c6 c7 c8
          simp only [List.getElem_toArray, List.getElem_cons_zero, List.getElem_cons_succ]
          go_simp
          refine hK.out _ _ (TS4.out.i.keepR (row_st9 _ q8 _ _ _ _ _ _ _ _ _) (by have := L8.out; simp; omega)) (fun _ => ?_)
          clear hK K c0 c1 c2 c3 c4 c5 c6 c7 c8 cf
          (try go_frame)
          obtain ⟨W5, hW5⟩ : ∃ X, X = ((((((((((W4.setCell ⟨q8, 0, none⟩ (.string h.nm)).setCell ⟨q8, 1, none⟩ (.int .u8 h.su)).setCell ⟨q8, 2, none⟩ (.int .u8 h.kd)).setCell ⟨q8, 3, none⟩ (.int .i64 h.co)).setCell ⟨q8, 4, none⟩ (.int .i64 h.po)).setCell ⟨q8, 5, none⟩ (.int .i64 h.he)).setCell ⟨q8, 6, none⟩ (.int .u16 h.tr)).setCell ⟨q8, 7, none⟩ (.bool h.tk)).setCell ⟨q8, 8, none⟩ (.slice (x1.a.map fun g => ⟨g, 0, none⟩) x1.n x1.cap))) := ⟨_, rfl⟩
          have gg : W4.grownBy W5 (some q8) := by rw [hW5]; exact row_st9 _ _ _ _ _ _ _ _ _ _ _
          have A8_5 : Hid (CAt W5 q8 h (.slice (x1.a.map fun g => ⟨g, 0, none⟩) x1.n x1.cap)) := by unfold Hid; rw [hW5]; exact CAt.st9 A8_4.out
          have TS5 : Hid (TS w h (.slice va ps.length vc) ps g q3 W5) := TS4.out.keepC A8_4.out L8.out LW.out gg
          have U1_5 : Hid (T1 ps (g + 1) x1 W5) := U1_4.out.keepC A8_4.out gg
          have U2_5 : Hid (T1 ps (g + 1) x2 W5) := U2_4.out.keepC A8_4.out gg
          have A9_5 : Hid (CAt W5 q9 Hd.none (.slice none 0 0)) := A9_4.out.keepR gg (by have := LN.out; simp; omega)
          rw [← hW5]
          clear gg hW5
          refine wpAnyH_ready (rs := [7]) (by kernel_rfl) (by simp) ?_
          refine AllReadyH.cons rfl (fun K hK => ?_) AllReadyH.nil
          obtain ⟨c0, c1, c2, c3, c4, c5, c6, c7, c8⟩ := A9_5.out.cells
          have cf := fun i => A9_5.out.free i
          simp only [Hd.none] at c0 c1 c2 c3 c4 c5 c6 c7 c8
          simp only [List.getElem_toArray, List.getElem_cons_zero, List.getElem_cons_succ]
          go_simp
          refine hK.out _ _ (TS5.out.i.keepR (row_st9 _ q9 _ _ _ _ _ _ _ _ _) (by have := L9.out; simp; omega)) (fun _ => ?_)
          clear hK K c0 c1 c2 c3 c4 c5 c6 c7 c8 cf
          (try go_frame)
          obtain ⟨W6, hW6⟩ : ∃ X, X = ((((((((((W5.setCell ⟨q9, 0, none⟩ (.string h.nm)).setCell ⟨q9, 1, none⟩ (.int .u8 h.su)).setCell ⟨q9, 2, none⟩ (.int .u8 h.kd)).setCell ⟨q9, 3, none⟩ (.int .i64 h.co)).setCell ⟨q9, 4, none⟩ (.int .i64 h.po)).setCell ⟨q9, 5, none⟩ (.int .i64 h.he)).setCell ⟨q9, 6, none⟩ (.int .u16 h.tr)).setCell ⟨q9, 7, none⟩ (.bool h.tk)).setCell ⟨q9, 8, none⟩ (.slice (x2.a.map fun g => ⟨g, 0, none⟩) x2.n x2.cap))) := ⟨_, rfl⟩
          have gg : W5.grownBy W6 (some q9) := by rw [hW6]; exact row_st9 _ _ _ _ _ _ _ _ _ _ _
          have A9_6 : Hid (CAt W6 q9 h (.slice (x2.a.map fun g => ⟨g, 0, none⟩) x2.n x2.cap)) := by unfold Hid; rw [hW6]; exact CAt.st9 A9_5.out
          have TS6 : Hid (TS w h (.slice va ps.length vc) ps g q3 W6) := TS5.out.keepC A9_5.out L9.out LW.out gg
          have U1_6 : Hid (T1 ps (g + 1) x1 W6) := U1_5.out.keepC A9_5.out gg
          have U2_6 : Hid (T1 ps (g + 1) x2 W6) := U2_5.out.keepC A9_5.out gg
          have A8_6 : Hid (CAt W6 q8 h (.slice (x1.a.map fun g => ⟨g, 0, none⟩) x1.n x1.cap)) := A8_5.out.keepR gg (by have := LN.out; simp; omega)
          rw [← hW6]
          clear gg hW6
          refine wpAnyH_done (by kernel_rfl) ?_ _
          go_wp2_with fail
          go_meet
          case rel => exact ⟨q8, q9, x1, x2, rfl, rfl, TS6.out, ⟨A8_6.out, A9_6.out, U1_6.out, U2_6.out, fun b e1 e2 => by have a1 := (D12.out b e1); have a2 := (E12.out b e2); omega⟩⟩
      · simp only [List.getElem_toArray, List.getElem_cons_zero, List.getElem_cons_succ]
        go_simp
        refine hK.out _ _ (TS1.out.i.keep (World.grownBy_alloc _ _ none)) (fun _ => ?_)
        clear hK K
        (try go_frame)
        obtain ⟨W2, hW2⟩ : ∃ X, X = W1.alloc (.cells #[.string ⟨#[]⟩, .int .u8 0, .int .u8 0, .int .i64 0, .int .i64 0, .int .i64 0, .int .u16 0, .bool false, .slice none 0 0] 40) := ⟨_, rfl⟩
        have A8_2' : CAt W2 W1.heap.size Hd.none (.slice none 0 0) := by rw [hW2]; exact alloc_at W1 _ _
        have gg : W1.grownBy W2 none := by rw [hW2]; exact World.grownBy_alloc _ _ none
        obtain ⟨q8, hq8⟩ : ∃ X, X = W1.heap.size := ⟨_, rfl⟩
        have L8 : Hid (q3 < q8) := by unfold Hid; rw [hq8]; exact block_lt TS1.out.i
        have TS2 : Hid (TS w h (.slice va ps.length vc) ps g q3 W2) := TS1.out.keep gg
        have U1_2 : Hid (T1 ps (g + 1) x1 W2) := U1_1.out.keep gg
        rw [← hW2, ← hq8]
        rw [← hq8] at A8_2'
        have A8_2 : Hid (CAt W2 q8 Hd.none (.slice none 0 0)) := A8_2'
        clear A8_2' gg hW2 hq8
        refine wpAnyH_ready (rs := [3, 5]) (by kernel_rfl) (by simp) ?_
        refine AllReadyH.cons rfl (fun K hK => ?_) (AllReadyH.cons rfl (fun K hK => ?_) AllReadyH.nil)
        · simp only [List.getElem_toArray, List.getElem_cons_zero, List.getElem_cons_succ]
          go_simp
          go_at_call 14
          refine (ccopy_any h _ ps _ (own_head TS2.out.f) HCP.out).mono ?_
          rintro e W3 ⟨uu, rfl, oo, gg⟩
          obtain ⟨x2, rfl, kk, bb⟩ := own_lst' oo
          have U2_3 : Hid (T1 ps (g + 1) x2 W3) := ⟨oo.big (Nat.zero_le _), kk, fun b hb => ⟨Nat.le_trans (Nat.succ_le_of_lt (own_room TS2.out.f).1.lt) (bb b hb).1, (bb b hb).2⟩⟩
          have E12 : Hid (∀ b, x2.a = some b → W2.heap.size ≤ b) := fun b hb => (bb b hb).1
          have D12 : Hid (∀ b, x1.a = some b → b < W2.heap.size) := fun b hb => (U1_2.out.lo b hb).2
          have TS3 : Hid (TS w h (.slice va ps.length vc) ps g q3 W3) := TS2.out.keep gg
          have U1_3 : Hid (T1 ps (g + 1) x1 W3) := U1_2.out.keep gg
          have A8_3 : Hid (CAt W3 q8 Hd.none (.slice none 0 0)) := A8_2.out.keep gg
          clear gg oo kk bb
          unfold cv
          refine hK.out _ _ ((TS3.out.i)) (fun _ => ?_)
          clear hK K
          (try go_frame)
          refine wpAnyH_ready (rs := [5]) (by kernel_rfl) (by simp) ?_
          refine AllReadyH.cons rfl (fun K hK => ?_) AllReadyH.nil
          simp only [List.getElem_toArray, List.getElem_cons_zero, List.getElem_cons_succ]
          go_simp
          refine hK.out _ _ (TS3.out.i.keep (World.grownBy_alloc _ _ none)) (fun _ => ?_)
          clear hK K
          (try go_frame)
          obtain ⟨W4, hW4⟩ : ∃ X, X = W3.alloc (.cells #[.string ⟨#[]⟩, .int .u8 0, .int .u8 0, .int .i64 0, .int .i64 0, .int .i64 0, .int .u16 0, .bool false, .slice none 0 0] 40) := ⟨_, rfl⟩
          have A9_4' : CAt W4 W3.heap.size Hd.none (.slice none 0 0) := by rw [hW4]; exact alloc_at W3 _ _
          have gg : W3.grownBy W4 none := by rw [hW4]; exact World.grownBy_alloc _ _ none
          obtain ⟨q9, hq9⟩ : ∃ X, X = W3.heap.size := ⟨_, rfl⟩
          have L9 : Hid (q3 < q9) := by unfold Hid; rw [hq9]; exact block_lt TS3.out.i
          have LN : Hid (q8 ≠ q9) := by have := block_lt A8_3.out; unfold Hid; omega
          have TS4 : Hid (TS w h (.slice va ps.length vc) ps g q3 W4) := TS3.out.keep gg
          have U1_4 : Hid (T1 ps (g + 1) x1 W4) := U1_3.out.keep gg
          have U2_4 : Hid (T1 ps (g + 1) x2 W4) := U2_3.out.keep gg
          have A8_4 : Hid (CAt W4 q8 Hd.none (.slice none 0 0)) := A8_3.out.keep gg
          rw [← hW4, ← hq9]
          rw [← hq9] at A9_4'
          have A9_4 : Hid (CAt W4 q9 Hd.none (.slice none 0 0)) := A9_4'
          clear A9_4' gg hW4 hq9
          refine wpAnyH_ready (rs := [6]) (by kernel_rfl) (by simp) ?_
          refine AllReadyH.cons rfl (fun K hK => ?_) AllReadyH.nil
          obtain ⟨c0, c1, c2, c3, c4, c5, c6, c7, c8⟩ := A8_4.out.cells
          have cf := fun i => A8_4.out.free i
          simp only [Hd.none] at c0 c1 c2 c3 c4 c5 c6 c7 c8
          simp only [List.getElem_toArray, List.getElem_cons_zero, List.getElem_cons_succ]
          go_simp
          refine hK.out _ _ (TS4.out.i.keepR (row_st9 _ q8 _ _ _ _ _ _ _ _ _) (by have := L8.out; simp; omega)) (fun _ => ?_)
          clear hK K c0 c1 c2 c3 c4 c5 c6 c7 c8 cf
          (try go_frame)
          obtain ⟨W5, hW5⟩ : ∃ X, X = ((((((((((W4.setCell ⟨q8, 0, none⟩ (.string h.nm)).setCell ⟨q8, 1, none⟩ (.int .u8 h.su)).setCell ⟨q8, 2, none⟩ (.int .u8 h.kd)).setCell ⟨q8, 3, none⟩ (.int .i64 h.co)).setCell ⟨q8, 4, none⟩ (.int .i64 h.po)).setCell ⟨q8, 5, none⟩ (.int .i64 h.he)).setCell ⟨q8, 6, none⟩ (.int .u16 h.tr)).setCell ⟨q8, 7, none⟩ (.bool h.tk)).setCell ⟨q8, 8, none⟩ (.slice (x1.a.map fun g => ⟨g, 0, none⟩) x1.n x1.cap))) := ⟨_, rfl⟩
          have gg : W4.grownBy W5 (some q8) := by rw [hW5]; exact row_st9 _ _ _ _ _ _ _ _ _ _ _
          have A8_5 : Hid (CAt W5 q8 h (.slice (x1.a.map fun g => ⟨g, 0, none⟩) x1.n x1.cap)) := by unfold Hid; rw [hW5]; exact CAt.st9 A8_4.out
          have TS5 : Hid (TS w h (.slice va ps.length vc) ps g q3 W5) := TS4.out.keepC A8_4.out L8.out LW.out gg
          have U1_5 : Hid (T1 ps (g + 1) x1 W5) := U1_4.out.keepC A8_4.out gg
          have U2_5 : Hid (T1 ps (g + 1) x2 W5) := U2_4.out.keepC A8_4.out gg
          have A9_5 : Hid (CAt W5 q9 Hd.none (.slice none 0 0)) := A9_4.out.keepR gg (by have := LN.out; simp; omega)
          rw [← hW5]
          clear gg hW5
          refine wpAnyH_ready (rs := [7]) (by kernel_rfl) (by simp) ?_
          refine AllReadyH.cons rfl (fun K hK => ?_) AllReadyH.nil
          obtain ⟨c0, c1, c2, c3, c4, c5, c6, c7, c8⟩ := A9_5.out.cells
          have cf := fun i => A9_5.out.free i
          simp only [Hd.none] at c0 c1 c2 c3 c4 c5 c6 c7 c8
          simp only [List.getElem_toArray, List.getElem_cons_zero, List.getElem_cons_succ]
          go_simp
          refine hK.out _ _ (TS5.out.i.keepR (row_st9 _ q9 _ _ _ _ _ _ _ _ _) (by have := L9.out; simp; omega)) (fun _ => ?_)
          clear hK K c0 c1 c2 c3 c4 c5 c6 c7 c8 cf
          (try go_frame)
          obtain ⟨W6, hW6⟩ : ∃ X, X = ((((((((((W5.setCell ⟨q9, 0, none⟩ (.string h.nm)).setCell ⟨q9, 1, none⟩ (.int .u8 h.su)).setCell ⟨q9, 2, none⟩ (.int .u8 h.kd)).setCell ⟨q9, 3, none⟩ (.int .i64 h.co)).setCell ⟨q9, 4, none⟩ (.int .i64 h.po)).setCell ⟨q9, 5, none⟩ (.int .i64 h.he)).setCell ⟨q9, 6, none⟩ (.int .u16 h.tr)).setCell ⟨q9, 7, none⟩ (.bool h.tk)).setCell ⟨q9, 8, none⟩ (.slice (x2.a.map fun g => ⟨g, 0, none⟩) x2.n x2.cap))) := ⟨_, rfl⟩
          have gg : W5.grownBy W6 (some q9) := by rw [hW6]; exact row_st9 _ _ _ _ _ _ _ _ _ _ _
          have A9_6 : Hid (CAt W6 q9 h (.slice (x2.a.map fun g => ⟨g, 0, none⟩) x2.n x2.cap)) := by unfold Hid; rw [hW6]; exact CAt.st9 A9_5.out
          have TS6 : Hid (TS w h (.slice va ps.length vc) ps g q3 W6) := TS5.out.keepC A9_5.out L9.out LW.out gg
          have U1_6 : Hid (T1 ps (g + 1) x1 W6) := U1_5.out.keepC A9_5.out gg
          have U2_6 : Hid (T1 ps (g + 1) x2 W6) := U2_5.out.keepC A9_5.out gg
          have A8_6 : Hid (CAt W6 q8 h (.slice (x1.a.map fun g => ⟨g, 0, none⟩) x1.n x1.cap)) := A8_5.out.keepR gg (by have := LN.out; simp; omega)
          rw [← hW6]
          clear gg hW6
          refine wpAnyH_done (by kernel_rfl) ?_ _
          go_wp2_with fail
          go_meet
          case rel => exact ⟨q8, q9, x1, x2, rfl, rfl, TS6.out, ⟨A8_6.out, A9_6.out, U1_6.out, U2_6.out, fun b e1 e2 => by have a1 := (D12.out b e1); have a2 := (E12.out b e2); omega⟩⟩
        · simp only [List.getElem_toArray, List.getElem_cons_zero, List.getElem_cons_succ]
          go_simp
          refine hK.out _ _ (TS2.out.i.keep (World.grownBy_alloc _ _ none)) (fun _ => ?_)
          clear hK K
          (try go_frame)
          obtain ⟨W3, hW3⟩ : ∃ X, X = W2.alloc (.cells #[.string ⟨#[]⟩, .int .u8 0, .int .u8 0, .int .i64 0, .int .i64 0, .int .i64 0, .int .u16 0, .bool false, .slice none 0 0] 40) := ⟨_, rfl⟩
          have A9_3' : CAt W3 W2.heap.size Hd.none (.slice none 0 0) := by rw [hW3]; exact alloc_at W2 _ _
          have gg : W2.grownBy W3 none := by rw [hW3]; exact World.grownBy_alloc _ _ none
          obtain ⟨q9, hq9⟩ : ∃ X, X = W2.heap.size := ⟨_, rfl⟩
          have L9 : Hid (q3 < q9) := by unfold Hid; rw [hq9]; exact block_lt TS2.out.i
          have LN : Hid (q8 ≠ q9) := by have := block_lt A8_2.out; unfold Hid; omega
          have TS3 : Hid (TS w h (.slice va ps.length vc) ps g q3 W3) := TS2.out.keep gg
          have U1_3 : Hid (T1 ps (g + 1) x1 W3) := U1_2.out.keep gg
          have A8_3 : Hid (CAt W3 q8 Hd.none (.slice none 0 0)) := A8_2.out.keep gg
          rw [← hW3, ← hq9]
          rw [← hq9] at A9_3'
          have A9_3 : Hid (CAt W3 q9 Hd.none (.slice none 0 0)) := A9_3'
          clear A9_3' gg hW3 hq9
          refine wpAnyH_ready (rs := [3]) (by kernel_rfl) (by simp) ?_
          refine AllReadyH.cons rfl (fun K hK => ?_) AllReadyH.nil
          simp only [List.getElem_toArray, List.getElem_cons_zero, List.getElem_cons_succ]
          go_simp
          go_at_call 14
          refine (ccopy_any h _ ps _ (own_head TS3.out.f) HCP.out).mono ?_
          rintro e W4 ⟨uu, rfl, oo, gg⟩
          obtain ⟨x2, rfl, kk, bb⟩ := own_lst' oo
          have U2_4 : Hid (T1 ps (g + 1) x2 W4) := ⟨oo.big (Nat.zero_le _), kk, fun b hb => ⟨Nat.le_trans (Nat.succ_le_of_lt (own_room TS3.out.f).1.lt) (bb b hb).1, (bb b hb).2⟩⟩
          have E12 : Hid (∀ b, x2.a = some b → W3.heap.size ≤ b) := fun b hb => (bb b hb).1
          have D12 : Hid (∀ b, x1.a = some b → b < W3.heap.size) := fun b hb => (U1_3.out.lo b hb).2
          have TS4 : Hid (TS w h (.slice va ps.length vc) ps g q3 W4) := TS3.out.keep gg
          have U1_4 : Hid (T1 ps (g + 1) x1 W4) := U1_3.out.keep gg
          have A8_4 : Hid (CAt W4 q8 Hd.none (.slice none 0 0)) := A8_3.out.keep gg
          have A9_4 : Hid (CAt W4 q9 Hd.none (.slice none 0 0)) := A9_3.out.keep gg
          clear gg oo kk bb
          unfold cv
          refine hK.out _ _ ((TS4.out.i)) (fun _ => ?_)
          clear hK K
          (try go_frame)
          refine wpAnyH_ready (rs := [6]) (by kernel_rfl) (by simp) ?_
          refine AllReadyH.cons rfl (fun K hK => ?_) AllReadyH.nil
          obtain ⟨c0, c1, c2, c3, c4, c5, c6, c7, c8⟩ := A8_4.out.cells
          have cf := fun i => A8_4.out.free i
          simp only [Hd.none] at c0 c1 c2 c3 c4 c5 c6 c7 c8
          simp only [List.getElem_toArray, List.getElem_cons_zero, List.getElem_cons_succ]
          go_simp
          refine hK.out _ _ (TS4.out.i.keepR (row_st9 _ q8 _ _ _ _ _ _ _ _ _) (by have := L8.out; simp; omega)) (fun _ => ?_)
          clear hK K c0 c1 c2 c3 c4 c5 c6 c7 c8 cf
          (try go_frame)
          obtain ⟨W5, hW5⟩ : ∃ X, X = ((((((((((W4.setCell ⟨q8, 0, none⟩ (.string h.nm)).setCell ⟨q8, 1, none⟩ (.int .u8 h.su)).setCell ⟨q8, 2, none⟩ (.int .u8 h.kd)).setCell ⟨q8, 3, none⟩ (.int .i64 h.co)).setCell ⟨q8, 4, none⟩ (.int .i64 h.po)).setCell ⟨q8, 5, none⟩ (.int .i64 h.he)).setCell ⟨q8, 6, none⟩ (.int .u16 h.tr)).setCell ⟨q8, 7, none⟩ (.bool h.tk)).setCell ⟨q8, 8, none⟩ (.slice (x1.a.map fun g => ⟨g, 0, none⟩) x1.n x1.cap))) := ⟨_, rfl⟩
          have gg : W4.grownBy W5 (some q8) := by rw [hW5]; exact row_st9 _ _ _ _ _ _ _ _ _ _ _
          have A8_5 : Hid (CAt W5 q8 h (.slice (x1.a.map fun g => ⟨g, 0, none⟩) x1.n x1.cap)) := by unfold Hid; rw [hW5]; exact CAt.st9 A8_4.out
          have TS5 : Hid (TS w h (.slice va ps.length vc) ps g q3 W5) := TS4.out.keepC A8_4.out L8.out LW.out gg
          have U1_5 : Hid (T1 ps (g + 1) x1 W5) := U1_4.out.keepC A8_4.out gg
          have U2_5 : Hid (T1 ps (g + 1) x2 W5) := U2_4.out.keepC A8_4.out gg
          have A9_5 : Hid (CAt W5 q9 Hd.none (.slice none 0 0)) := A9_4.out.keepR gg (by have := LN.out; simp; omega)
          rw [← hW5]
          clear gg hW5
          refine wpAnyH_ready (rs := [7]) (by kernel_rfl) (by simp) ?_
          refine AllReadyH.cons rfl (fun K hK => ?_) AllReadyH.nil
          obtain ⟨c0, c1, c2, c3, c4, c5, c6, c7, c8⟩ := A9_5.out.cells
          have cf := fun i => A9_5.out.free i
          simp only [Hd.none] at c0 c1 c2 c3 c4 c5 c6 c7 c8
          simp only [List.getElem_toArray, List.getElem_cons_zero, List.getElem_cons_succ]
          go_simp
          refine hK.out _ _ (TS5.out.i.keepR (row_st9 _ q9 _ _ _ _ _ _ _ _ _) (by have := L9.out; simp; omega)) (fun _ => ?_)
          clear hK K c0 c1 c2 c3 c4 c5 c6 c7 c8 cf
          (try go_frame)
          obtain ⟨W6, hW6⟩ : ∃ X, X = ((((((((((W5.setCell ⟨q9, 0, none⟩ (.string h.nm)).setCell ⟨q9, 1, none⟩ (.int .u8 h.su)).setCell ⟨q9, 2, none⟩ (.int .u8 h.kd)).setCell ⟨q9, 3, none⟩ (.int .i64 h.co)).setCell ⟨q9, 4, none⟩ (.int .i64 h.po)).setCell ⟨q9, 5, none⟩ (.int .i64 h.he)).setCell ⟨q9, 6, none⟩ (.int .u16 h.tr)).setCell ⟨q9, 7, none⟩ (.bool h.tk)).setCell ⟨q9, 8, none⟩ (.slice (x2.a.map fun g => ⟨g, 0, none⟩) x2.n x2.cap))) := ⟨_, rfl⟩
          have gg : W5.grownBy W6 (some q9) := by rw [hW6]; exact row_st9 _ _ _ _ _ _ _ _ _ _ _
          have A9_6 : Hid (CAt W6 q9 h (.slice (x2.a.map fun g => ⟨g, 0, none⟩) x2.n x2.cap)) := by unfold Hid; rw [hW6]; exact CAt.st9 A9_5.out
          have TS6 : Hid (TS w h (.slice va ps.length vc) ps g q3 W6) := TS5.out.keepC A9_5.out L9.out LW.out gg
          have U1_6 : Hid (T1 ps (g + 1) x1 W6) := U1_5.out.keepC A9_5.out gg
          have U2_6 : Hid (T1 ps (g + 1) x2 W6) := U2_5.out.keepC A9_5.out gg
          have A8_6 : Hid (CAt W6 q8 h (.slice (x1.a.map fun g => ⟨g, 0, none⟩) x1.n x1.cap)) := A8_5.out.keepR gg (by have := LN.out; simp; omega)
          rw [← hW6]
          clear gg hW6
          refine wpAnyH_done (by kernel_rfl) ?_ _
          go_wp2_with fail
          go_meet
          case rel => exact ⟨q8, q9, x1, x2, rfl, rfl, TS6.out, ⟨A8_6.out, A9_6.out, U1_6.out, U2_6.out, fun b e1 e2 => by have a1 := (D12.out b e1); have a2 := (E12.out b e2); omega⟩⟩
      · simp only [List.getElem_toArray, List.getElem_cons_zero, List.getElem_cons_succ]
        go_simp
        refine hK.out _ _ (TS1.out.i.keep (World.grownBy_alloc _ _ none)) (fun _ => ?_)
        clear hK K
        (try go_frame)
        obtain ⟨W2, hW2⟩ : ∃ X, X = W1.alloc (.cells #[.string ⟨#[]⟩, .int .u8 0, .int .u8 0, .int .i64 0, .int .i64 0, .int .i64 0, .int .u16 0, .bool false, .slice none 0 0] 40) := ⟨_, rfl⟩
        have A9_2' : CAt W2 W1.heap.size Hd.none (.slice none 0 0) := by rw [hW2]; exact alloc_at W1 _ _
        have gg : W1.grownBy W2 none := by rw [hW2]; exact World.grownBy_alloc _ _ none
        obtain ⟨q9, hq9⟩ : ∃ X, X = W1.heap.size := ⟨_, rfl⟩
        have L9 : Hid (q3 < q9) := by unfold Hid; rw [hq9]; exact block_lt TS1.out.i
        have TS2 : Hid (TS w h (.slice va ps.length vc) ps g q3 W2) := TS1.out.keep gg
        have U1_2 : Hid (T1 ps (g + 1) x1 W2) := U1_1.out.keep gg
        rw [← hW2, ← hq9]
        rw [← hq9] at A9_2'
        have A9_2 : Hid (CAt W2 q9 Hd.none (.slice none 0 0)) := A9_2'
        clear A9_2' gg hW2 hq9
        refine wpAnyH_ready (rs := [3, 4]) (by kernel_rfl) (by simp) ?_
        refine AllReadyH.cons rfl (fun K hK => ?_) (AllReadyH.cons rfl (fun K hK => ?_) AllReadyH.nil)
        · simp only [List.getElem_toArray, List.getElem_cons_zero, List.getElem_cons_succ]
          go_simp
          go_at_call 14
          refine (ccopy_any h _ ps _ (own_head TS2.out.f) HCP.out).mono ?_
          rintro e W3 ⟨uu, rfl, oo, gg⟩
          obtain ⟨x2, rfl, kk, bb⟩ := own_lst' oo
          have U2_3 : Hid (T1 ps (g + 1) x2 W3) := ⟨oo.big (Nat.zero_le _), kk, fun b hb => ⟨Nat.le_trans (Nat.succ_le_of_lt (own_room TS2.out.f).1.lt) (bb b hb).1, (bb b hb).2⟩⟩
          have E12 : Hid (∀ b, x2.a = some b → W2.heap.size ≤ b) := fun b hb => (bb b hb).1
          have D12 : Hid (∀ b, x1.a = some b → b < W2.heap.size) := fun b hb => (U1_2.out.lo b hb).2
          have TS3 : Hid (TS w h (.slice va ps.length vc) ps g q3 W3) := TS2.out.keep gg
          have U1_3 : Hid (T1 ps (g + 1) x1 W3) := U1_2.out.keep gg
          have A9_3 : Hid (CAt W3 q9 Hd.none (.slice none 0 0)) := A9_2.out.keep gg
          clear gg oo kk bb
          unfold cv
          refine hK.out _ _ ((TS3.out.i)) (fun _ => ?_)
          clear hK K
          (try go_frame)
          refine wpAnyH_ready (rs := [4]) (by kernel_rfl) (by simp) ?_
          refine AllReadyH.cons rfl (fun K hK => ?_) AllReadyH.nil
          simp only [List.getElem_toArray, List.getElem_cons_zero, List.getElem_cons_succ]
          go_simp
          refine hK.out _ _ (TS3.out.i.keep (World.grownBy_alloc _ _ none)) (fun _ => ?_)
          clear hK K
          (try go_frame)
          obtain ⟨W4, hW4⟩ : ∃ X, X = W3.alloc (.cells #[.string ⟨#[]⟩, .int .u8 0, .int .u8 0, .int .i64 0, .int .i64 0, .int .i64 0, .int .u16 0, .bool false, .slice none 0 0] 40) := ⟨_, rfl⟩
          have A8_4' : CAt W4 W3.heap.size Hd.none (.slice none 0 0) := by rw [hW4]; exact alloc_at W3 _ _
          have gg : W3.grownBy W4 none := by rw [hW4]; exact World.grownBy_alloc _ _ none
          obtain ⟨q8, hq8⟩ : ∃ X, X = W3.heap.size := ⟨_, rfl⟩
          have L8 : Hid (q3 < q8) := by unfold Hid; rw [hq8]; exact block_lt TS3.out.i
          have LN : Hid (q8 ≠ q9) := by have := block_lt A9_3.out; unfold Hid; omega
          have TS4 : Hid (TS w h (.slice va ps.length vc) ps g q3 W4) := TS3.out.keep gg
          have U1_4 : Hid (T1 ps (g + 1) x1 W4) := U1_3.out.keep gg
          have U2_4 : Hid (T1 ps (g + 1) x2 W4) := U2_3.out.keep gg
          have A9_4 : Hid (CAt W4 q9 Hd.none (.slice none 0 0)) := A9_3.out.keep gg
          rw [← hW4, ← hq8]
          rw [← hq8] at A8_4'
          have A8_4 : Hid (CAt W4 q8 Hd.none (.slice none 0 0)) := A8_4'
          clear A8_4' gg hW4 hq8
          refine wpAnyH_ready (rs := [6]) (by kernel_rfl) (by simp) ?_
          refine AllReadyH.cons rfl (fun K hK => ?_) AllReadyH.nil
          obtain ⟨c0, c1, c2, c3, c4, c5, c6, c7, c8⟩ := A8_4.out.cells
          have cf := fun i => A8_4.out.free i
          simp only [Hd.none] at c0 c1 c2 c3 c4 c5 c6 c7 c8
          simp only [List.getElem_toArray, List.getElem_cons_zero, List.getElem_cons_succ]
          go_simp
          refine hK.out _ _ (TS4.out.i.keepR (row_st9 _ q8 _ _ _ _ _ _ _ _ _) (by have := L8.out; simp; omega)) (fun _ => ?_)
          clear hK K c0 c1 c2 c3 c4 c5 c6 c7 c8 cf
          (try go_frame)
          obtain ⟨W5, hW5⟩ : ∃ X, X = ((((((((((W4.setCell ⟨q8, 0, none⟩ (.string h.nm)).setCell ⟨q8, 1, none⟩ (.int .u8 h.su)).setCell ⟨q8, 2, none⟩ (.int .u8 h.kd)).setCell ⟨q8, 3, none⟩ (.int .i64 h.co)).setCell ⟨q8, 4, none⟩ (.int .i64 h.po)).setCell ⟨q8, 5, none⟩ (.int .i64 h.he)).setCell ⟨q8, 6, none⟩ (.int .u16 h.tr)).setCell ⟨q8, 7, none⟩ (.bool h.tk)).setCell ⟨q8, 8, none⟩ (.slice (x1.a.map fun g => ⟨g, 0, none⟩) x1.n x1.cap))) := ⟨_, rfl⟩
          have gg : W4.grownBy W5 (some q8) := by rw [hW5]; exact row_st9 _ _ _ _ _ _ _ _ _ _ _
          have A8_5 : Hid (CAt W5 q8 h (.slice (x1.a.map fun g => ⟨g, 0, none⟩) x1.n x1.cap)) := by unfold Hid; rw [hW5]; exact CAt.st9 A8_4.out
          have TS5 : Hid (TS w h (.slice va ps.length vc) ps g q3 W5) := TS4.out.keepC A8_4.out L8.out LW.out gg
          have U1_5 : Hid (T1 ps (g + 1) x1 W5) := U1_4.out.keepC A8_4.out gg
          have U2_5 : Hid (T1 ps (g + 1) x2 W5) := U2_4.out.keepC A8_4.out gg
          have A9_5 : Hid (CAt W5 q9 Hd.none (.slice none 0 0)) := A9_4.out.keepR gg (by have := LN.out; simp; omega)
          rw [← hW5]
          clear gg hW5
          refine wpAnyH_ready (rs := [7]) (by kernel_rfl) (by simp) ?_
          refine AllReadyH.cons rfl (fun K hK => ?_) AllReadyH.nil
          obtain ⟨c0, c1, c2, c3, c4, c5, c6, c7, c8⟩ := A9_5.out.cells
          have cf := fun i => A9_5.out.free i
          simp only [Hd.none] at c0 c1 c2 c3 c4 c5 c6 c7 c8
          simp only [List.getElem_toArray, List.getElem_cons_zero, List.getElem_cons_succ]
          go_simp
          refine hK.out _ _ (TS5.out.i.keepR (row_st9 _ q9 _ _ _ _ _ _ _ _ _) (by have := L9.out; simp; omega)) (fun _ => ?_)
          clear hK K c0 c1 c2 c3 c4 c5 c6 c7 c8 cf
          (try go_frame)
          obtain ⟨W6, hW6⟩ : ∃ X, X = ((((((((((W5.setCell ⟨q9, 0, none⟩ (.string h.nm)).setCell ⟨q9, 1, none⟩ (.int .u8 h.su)).setCell ⟨q9, 2, none⟩ (.int .u8 h.kd)).setCell ⟨q9, 3, none⟩ (.int .i64 h.co)).setCell ⟨q9, 4, none⟩ (.int .i64 h.po)).setCell ⟨q9, 5, none⟩ (.int .i64 h.he)).setCell ⟨q9, 6, none⟩ (.int .u16 h.tr)).setCell ⟨q9, 7, none⟩ (.bool h.tk)).setCell ⟨q9, 8, none⟩ (.slice (x2.a.map fun g => ⟨g, 0, none⟩) x2.n x2.cap))) := ⟨_, rfl⟩
          have gg : W5.grownBy W6 (some q9) := by rw [hW6]; exact row_st9 _ _ _ _ _ _ _ _ _ _ _
          have A9_6 : Hid (CAt W6 q9 h (.slice (x2.a.map fun g => ⟨g, 0, none⟩) x2.n x2.cap)) := by unfold Hid; rw [hW6]; exact CAt.st9 A9_5.out
          have TS6 : Hid (TS w h (.slice va ps.length vc) ps g q3 W6) := TS5.out.keepC A9_5.out L9.out LW.out gg
          have U1_6 : Hid (T1 ps (g + 1) x1 W6) := U1_5.out.keepC A9_5.out gg
          have U2_6 : Hid (T1 ps (g + 1) x2 W6) := U2_5.out.keepC A9_5.out gg
          have A8_6 : Hid (CAt W6 q8 h (.slice (x1.a.map fun g => ⟨g, 0, none⟩) x1.n x1.cap)) := A8_5.out.keepR gg (by have := LN.out; simp; omega)
          rw [← hW6]
          clear gg hW6
          refine wpAnyH_done (by kernel_rfl) ?_ _
          go_wp2_with fail
          go_meet
          case rel => exact ⟨q8, q9, x1, x2, rfl, rfl, TS6.out, ⟨A8_6.out, A9_6.out, U1_6.out, U2_6.out, fun b e1 e2 => by have a1 := (D12.out b e1); have a2 := (E12.out b e2); omega⟩⟩
        · simp only [List.getElem_toArray, List.getElem_cons_zero, List.getElem_cons_succ]
          go_simp
          refine hK.out _ _ (TS2.out.i.keep (World.grownBy_alloc _ _ none)) (fun _ => ?_)
          clear hK K
          (try go_frame)
          obtain ⟨W3, hW3⟩ : ∃ X, X = W2.alloc (.cells #[.string ⟨#[]⟩, .int .u8 0, .int .u8 0, .int .i64 0, .int .i64 0, .int .i64 0, .int .u16 0, .bool false, .slice none 0 0] 40) := ⟨_, rfl⟩
          have A8_3' : CAt W3 W2.heap.size Hd.none (.slice none 0 0) := by rw [hW3]; exact alloc_at W2 _ _
          have gg : W2.grownBy W3 none := by rw [hW3]; exact World.grownBy_alloc _ _ none
          obtain ⟨q8, hq8⟩ : ∃ X, X = W2.heap.size := ⟨_, rfl⟩
          have L8 : Hid (q3 < q8) := by unfold Hid; rw [hq8]; exact block_lt TS2.out.i
          have LN : Hid (q8 ≠ q9) := by have := block_lt A9_2.out; unfold Hid; omega
          have TS3 : Hid (TS w h (.slice va ps.length vc) ps g q3 W3) := TS2.out.keep gg
          have U1_3 : Hid (T1 ps (g + 1) x1 W3) := U1_2.out.keep gg
          have A9_3 : Hid (CAt W3 q9 Hd.none (.slice none 0 0)) := A9_2.out.keep gg
          rw [← hW3, ← hq8]
          rw [← hq8] at A8_3'
          have A8_3 : Hid (CAt W3 q8 Hd.none (.slice none 0 0)) := A8_3'
          clear A8_3' gg hW3 hq8
          refine wpAnyH_ready (rs := [3]) (by kernel_rfl) (by simp) ?_
          refine AllReadyH.cons rfl (fun K hK => ?_) AllReadyH.nil
          simp only [List.getElem_toArray, List.getElem_cons_zero, List.getElem_cons_succ]
          go_simp
          go_at_call 14
          refine (ccopy_any h _ ps _ (own_head TS3.out.f) HCP.out).mono ?_
          rintro e W4 ⟨uu, rfl, oo, gg⟩
          obtain ⟨x2, rfl, kk, bb⟩ := own_lst' oo
          have U2_4 : Hid (T1 ps (g + 1) x2 W4) := ⟨oo.big (Nat.zero_le _), kk, fun b hb => ⟨Nat.le_trans (Nat.succ_le_of_lt (own_room TS3.out.f).1.lt) (bb b hb).1, (bb b hb).2⟩⟩
          have E12 : Hid (∀ b, x2.a = some b → W3.heap.size ≤ b) := fun b hb => (bb b hb).1
          have D12 : Hid (∀ b, x1.a = some b → b < W3.heap.size) := fun b hb => (U1_3.out.lo b hb).2
          have TS4 : Hid (TS w h (.slice va ps.length vc) ps g q3 W4) := TS3.out.keep gg
          have U1_4 : Hid (T1 ps (g + 1) x1 W4) := U1_3.out.keep gg
          have A8_4 : Hid (CAt W4 q8 Hd.none (.slice none 0 0)) := A8_3.out.keep gg
          have A9_4 : Hid (CAt W4 q9 Hd.none (.slice none 0 0)) := A9_3.out.keep gg
          clear gg oo kk bb
          unfold cv
          refine hK.out _ _ ((TS4.out.i)) (fun _ => ?_)
          clear hK K
          (try go_frame)
          refine wpAnyH_ready (rs := [6]) (by kernel_rfl) (by simp) ?_
          refine AllReadyH.cons rfl (fun K hK => ?_) AllReadyH.nil
          obtain ⟨c0, c1, c2, c3, c4, c5, c6, c7, c8⟩ := A8_4.out.cells
          have cf := fun i => A8_4.out.free i
          simp only [Hd.none] at c0 c1 c2 c3 c4 c5 c6 c7 c8
          simp only [List.getElem_toArray, List.getElem_cons_zero, List.getElem_cons_succ]
          go_simp
          refine hK.out _ _ (TS4.out.i.keepR (row_st9 _ q8 _ _ _ _ _ _ _ _ _) (by have := L8.out; simp; omega)) (fun _ => ?_)
          clear hK K c0 c1 c2 c3 c4 c5 c6 c7 c8 cf
          (try go_frame)
          obtain ⟨W5, hW5⟩ : ∃ X, X = ((((((((((W4.setCell ⟨q8, 0, none⟩ (.string h.nm)).setCell ⟨q8, 1, none⟩ (.int .u8 h.su)).setCell ⟨q8, 2, none⟩ (.int .u8 h.kd)).setCell ⟨q8, 3, none⟩ (.int .i64 h.co)).setCell ⟨q8, 4, none⟩ (.int .i64 h.po)).setCell ⟨q8, 5, none⟩ (.int .i64 h.he)).setCell ⟨q8, 6, none⟩ (.int .u16 h.tr)).setCell ⟨q8, 7, none⟩ (.bool h.tk)).setCell ⟨q8, 8, none⟩ (.slice (x1.a.map fun g => ⟨g, 0, none⟩) x1.n x1.cap))) := ⟨_, rfl⟩
          have gg : W4.grownBy W5 (some q8) := by rw [hW5]; exact row_st9 _ _ _ _ _ _ _ _ _ _ _
          have A8_5 : Hid (CAt W5 q8 h (.slice (x1.a.map fun g => ⟨g, 0, none⟩) x1.n x1.cap)) := by unfold Hid; rw [hW5]; exact CAt.st9 A8_4.out
          have TS5 : Hid (TS w h (.slice va ps.length vc) ps g q3 W5) := TS4.out.keepC A8_4.out L8.out LW.out gg
          have U1_5 : Hid (T1 ps (g + 1) x1 W5) := U1_4.out.keepC A8_4.out gg
          have U2_5 : Hid (T1 ps (g + 1) x2 W5) := U2_4.out.keepC A8_4.out gg
          have A9_5 : Hid (CAt W5 q9 Hd.none (.slice none 0 0)) := A9_4.out.keepR gg (by have := LN.out; simp; omega)
          rw [← hW5]
          clear gg hW5
          refine wpAnyH_ready (rs := [7]) (by kernel_rfl) (by simp) ?_
          refine AllReadyH.cons rfl (fun K hK => ?_) AllReadyH.nil
          obtain ⟨c0, c1, c2, c3, c4, c5, c6, c7, c8⟩ := A9_5.out.cells
          have cf := fun i => A9_5.out.free i
          simp only [Hd.none] at c0 c1 c2 c3 c4 c5 c6 c7 c8
          simp only [List.getElem_toArray, List.getElem_cons_zero, List.getElem_cons_succ]
          go_simp
          refine hK.out _ _ (TS5.out.i.keepR (row_st9 _ q9 _ _ _ _ _ _ _ _ _) (by have := L9.out; simp; omega)) (fun _ => ?_)
          clear hK K c0 c1 c2 c3 c4 c5 c6 c7 c8 cf
          (try go_frame)
          obtain ⟨W6, hW6⟩ : ∃ X, X = ((((((((((W5.setCell ⟨q9, 0, none⟩ (.string h.nm)).setCell ⟨q9, 1, none⟩ (.int .u8 h.su)).setCell ⟨q9, 2, none⟩ (.int .u8 h.kd)).setCell ⟨q9, 3, none⟩ (.int .i64 h.co)).setCell ⟨q9, 4, none⟩ (.int .i64 h.po)).setCell ⟨q9, 5, none⟩ (.int .i64 h.he)).setCell ⟨q9, 6, none⟩ (.int .u16 h.tr)).setCell ⟨q9, 7, none⟩ (.bool h.tk)).setCell ⟨q9, 8, none⟩ (.slice (x2.a.map fun g => ⟨g, 0, none⟩) x2.n x2.cap))) := ⟨_, rfl⟩
          have gg : W5.grownBy W6 (some q9) := by rw [hW6]; exact row_st9 _ _ _ _ _ _ _ _ _ _ _
          have A9_6 : Hid (CAt W6 q9 h (.slice (x2.a.map fun g => ⟨g, 0, none⟩) x2.n x2.cap)) := by unfold Hid; rw [hW6]; exact CAt.st9 A9_5.out
          have TS6 : Hid (TS w h (.slice va ps.length vc) ps g q3 W6) := TS5.out.keepC A9_5.out L9.out LW.out gg
          have U1_6 : Hid (T1 ps (g + 1) x1 W6) := U1_5.out.keepC A9_5.out gg
          have U2_6 : Hid (T1 ps (g + 1) x2 W6) := U2_5.out.keepC A9_5.out gg
          have A8_6 : Hid (CAt W6 q8 h (.slice (x1.a.map fun g => ⟨g, 0, none⟩) x1.n x1.cap)) := A8_5.out.keepR gg (by have := LN.out; simp; omega)
          rw [← hW6]
          clear gg hW6
          refine wpAnyH_done (by kernel_rfl) ?_ _
          go_wp2_with fail
          go_meet
          case rel => exact ⟨q8, q9, x1, x2, rfl, rfl, TS6.out, ⟨A8_6.out, A9_6.out, U1_6.out, U2_6.out, fun b e1 e2 => by have a1 := (D12.out b e1); have a2 := (E12.out b e2); omega⟩⟩
    · simp only [List.getElem_toArray, List.getElem_cons_zero, List.getElem_cons_succ]
      go_simp
      refine hK.out _ _ (TS0.out.i.keep (World.grownBy_alloc _ _ none)) (fun _ => ?_)
      clear hK K
      (try go_frame)
      obtain ⟨W1, hW1⟩ : ∃ X, X = W0.alloc (.cells #[.string ⟨#[]⟩, .int .u8 0, .int .u8 0, .int .i64 0, .int .i64 0, .int .i64 0, .int .u16 0, .bool false, .slice none 0 0] 40) := ⟨_, rfl⟩
      have A8_1' : CAt W1 W0.heap.size Hd.none (.slice none 0 0) := by rw [hW1]; exact alloc_at W0 _ _
      have gg : W0.grownBy W1 none := by rw [hW1]; exact World.grownBy_alloc _ _ none
      obtain ⟨q8, hq8⟩ : ∃ X, X = W0.heap.size := ⟨_, rfl⟩
      have L8 : Hid (q3 < q8) := by unfold Hid; rw [hq8]; exact block_lt TS0.out.i
      have TS1 : Hid (TS w h (.slice va ps.length vc) ps g q3 W1) := TS0.out.keep gg
      rw [← hW1, ← hq8]
      rw [← hq8] at A8_1'
      have A8_1 : Hid (CAt W1 q8 Hd.none (.slice none 0 0)) := A8_1'
      clear A8_1' gg hW1 hq8
      refine wpAnyH_ready (rs := [1, 5]) (by kernel_rfl) (by simp) ?_
      refine AllReadyH.cons rfl (fun K hK => ?_) (AllReadyH.cons rfl (fun K hK => ?_) AllReadyH.nil)
      · simp only [List.getElem_toArray, List.getElem_cons_zero, List.getElem_cons_succ]
        go_simp
        go_at_call 14
        refine (ccopy_any h _ ps _ (own_head TS1.out.f) HCP.out).mono ?_
        rintro e W2 ⟨uu, rfl, oo, gg⟩
        obtain ⟨x1, rfl, kk, bb⟩ := own_lst' oo
        have U1_2 : Hid (T1 ps (g + 1) x1 W2) := ⟨oo.big (Nat.zero_le _), kk, fun b hb => ⟨Nat.le_trans (Nat.succ_le_of_lt (own_room TS1.out.f).1.lt) (bb b hb).1, (bb b hb).2⟩⟩
        have D12a : Hid (∀ b, x1.a = some b → b < W2.heap.size) := fun b hb => (bb b hb).2
        have TS2 : Hid (TS w h (.slice va ps.length vc) ps g q3 W2) := TS1.out.keep gg
        have A8_2 : Hid (CAt W2 q8 Hd.none (.slice none 0 0)) := A8_1.out.keep gg
        clear gg oo kk bb
        unfold cv
        refine hK.out _ _ ((TS2.out.i)) (fun _ => ?_)
        clear hK K
        (try go_frame)
        refine wpAnyH_ready (rs := [3, 5]) (by kernel_rfl) (by simp) ?_
        refine AllReadyH.cons rfl (fun K hK => ?_) (AllReadyH.cons rfl (fun K hK => ?_) AllReadyH.nil)
        · simp only [List.getElem_toArray, List.getElem_cons_zero, List.getElem_cons_succ]
          go_simp
          go_at_call 14
          refine (ccopy_any h _ ps _ (own_head TS2.out.f) HCP.out).mono ?_
          rintro e W3 ⟨uu, rfl, oo, gg⟩
          obtain ⟨x2, rfl, kk, bb⟩ := own_lst' oo
          have U2_3 : Hid (T1 ps (g + 1) x2 W3) := ⟨oo.big (Nat.zero_le _), kk, fun b hb => ⟨Nat.le_trans (Nat.succ_le_of_lt (own_room TS2.out.f).1.lt) (bb b hb).1, (bb b hb).2⟩⟩
          have E12 : Hid (∀ b, x2.a = some b → W2.heap.size ≤ b) := fun b hb => (bb b hb).1
          have D12 : Hid (∀ b, x1.a = some b → b < W2.heap.size) := fun b hb => (U1_2.out.lo b hb).2
          have TS3 : Hid (TS w h (.slice va ps.length vc) ps g q3 W3) := TS2.out.keep gg
          have U1_3 : Hid (T1 ps (g + 1) x1 W3) := U1_2.out.keep gg
          have A8_3 : Hid (CAt W3 q8 Hd.none (.slice none 0 0)) := A8_2.out.keep gg
          clear gg oo kk bb
          unfold cv
          refine hK.out _ _ ((TS3.out.i)) (fun _ => ?_)
          clear hK K
          (try go_frame)
          refine wpAnyH_ready (rs := [5]) (by kernel_rfl) (by simp) ?_
          refine AllReadyH.cons rfl (fun K hK => ?_) AllReadyH.nil
          simp only [List.getElem_toArray, List.getElem_cons_zero, List.getElem_cons_succ]
          go_simp
          refine hK.out _ _ (TS3.out.i.keep (World.grownBy_alloc _ _ none)) (fun _ => ?_)
          clear hK K
          (try go_frame)
          obtain ⟨W4, hW4⟩ : ∃ X, X = W3.alloc (.cells #[.string ⟨#[]⟩, .int .u8 0, .int .u8 0, .int .i64 0, .int .i64 0, .int .i64 0, .int .u16 0, .bool false, .slice none 0 0] 40) := ⟨_, rfl⟩
          have A9_4' : CAt W4 W3.heap.size Hd.none (.slice none 0 0) := by rw [hW4]; exact alloc_at W3 _ _
          have gg : W3.grownBy W4 none := by rw [hW4]; exact World.grownBy_alloc _ _ none
          obtain ⟨q9, hq9⟩ : ∃ X, X = W3.heap.size := ⟨_, rfl⟩
          have L9 : Hid (q3 < q9) := by unfold Hid; rw [hq9]; exact block_lt TS3.out.i
          have LN : Hid (q8 ≠ q9) := by have := block_lt A8_3.out; unfold Hid; omega
          have TS4 : Hid (TS w h (.slice va ps.length vc) ps g q3 W4) := TS3.out.keep gg
          have U1_4 : Hid (T1 ps (g + 1) x1 W4) := U1_3.out.keep gg
          have U2_4 : Hid (T1 ps (g + 1) x2 W4) := U2_3.out.keep gg
          have A8_4 : Hid (CAt W4 q8 Hd.none (.slice none 0 0)) := A8_3.out.keep gg
          rw [← hW4, ← hq9]
          rw [← hq9] at A9_4'
          have A9_4 : Hid (CAt W4 q9 Hd.none (.slice none 0 0)) := A9_4'
          clear A9_4' gg hW4 hq9
          refine wpAnyH_ready (rs := [6]) (by kernel_rfl) (by simp) ?_
          refine AllReadyH.cons rfl (fun K hK => ?_) AllReadyH.nil
          obtain ⟨c0, c1, c2, c3, c4, c5, c6, c7, c8⟩ := A8_4.out.cells
          have cf := fun i => A8_4.out.free i
          simp only [Hd.none] at c0 c1 c2 c3 c4 c5 c6 c7 c8
          simp only [List.getElem_toArray, List.getElem_cons_zero, List.getElem_cons_succ]
          go_simp
          refine hK.out _ _ (TS4.out.i.keepR (row_st9 _ q8 _ _ _ _ _ _ _ _ _) (by have := L8.out; simp; omega)) (fun _ => ?_)
          clear hK K c0 c1 c2 c3 c4 c5 c6 c7 c8 cf
          (try go_frame)
          obtain ⟨W5, hW5⟩ : ∃ X, X = ((((((((((W4.setCell ⟨q8, 0, none⟩ (.string h.nm)).setCell ⟨q8, 1, none⟩ (.int .u8 h.su)).setCell ⟨q8, 2, none⟩ (.int .u8 h.kd)).setCell ⟨q8, 3, none⟩ (.int .i64 h.co)).setCell ⟨q8, 4, none⟩ (.int .i64 h.po)).setCell ⟨q8, 5, none⟩ (.int .i64 h.he)).setCell ⟨q8, 6, none⟩ (.int .u16 h.tr)).setCell ⟨q8, 7, none⟩ (.bool h.tk)).setCell ⟨q8, 8, none⟩ (.slice (x1.a.map fun g => ⟨g, 0, none⟩) x1.n x1.cap))) := ⟨_, rfl⟩
          have gg : W4.grownBy W5 (some q8) := by rw [hW5]; exact row_st9 _ _ _ _ _ _ _ _ _ _ _
          have A8_5 : Hid (CAt W5 q8 h (.slice (x1.a.map fun g => ⟨g, 0, none⟩) x1.n x1.cap)) := by unfold Hid; rw [hW5]; exact CAt.st9 A8_4.out
          have TS5 : Hid (TS w h (.slice va ps.length vc) ps g q3 W5) := TS4.out.keepC A8_4.out L8.out LW.out gg
          have U1_5 : Hid (T1 ps (g + 1) x1 W5) := U1_4.out.keepC A8_4.out gg
          have U2_5 : Hid (T1 ps (g + 1) x2 W5) := U2_4.out.keepC A8_4.out gg
          have A9_5 : Hid (CAt W5 q9 Hd.none (.slice none 0 0)) := A9_4.out.keepR gg (by have := LN.out; simp; omega)
          rw [← hW5]
          clear gg hW5
          refine wpAnyH_ready (rs := [7]) (by kernel_rfl) (by simp) ?_
          refine AllReadyH.cons rfl (fun K hK => ?_) AllReadyH.nil
          obtain ⟨c0, c1, c2, c3, c4, c5, c6, c7, c8⟩ := A9_5.out.cells
          have cf := fun i => A9_5.out.free i
          simp only [Hd.none] at c0 c1 c2 c3 c4 c5 c6 c7 c8
          simp only [List.getElem_toArray, List.getElem_cons_zero, List.getElem_cons_succ]
          go_simp
          refine hK.out _ _ (TS5.out.i.keepR (row_st9 _ q9 _ _ _ _ _ _ _ _ _) (by have := L9.out; simp; omega)) (fun _ => ?_)
          clear hK K c0 c1 c2 c3 c4 c5 c6 c7 c8 cf
          (try go_frame)
          obtain ⟨W6, hW6⟩ : ∃ X, X = ((((((((((W5.setCell ⟨q9, 0, none⟩ (.string h.nm)).setCell ⟨q9, 1, none⟩ (.int .u8 h.su)).setCell ⟨q9, 2, none⟩ (.int .u8 h.kd)).setCell ⟨q9, 3, none⟩ (.int .i64 h.co)).setCell ⟨q9, 4, none⟩ (.int .i64 h.po)).setCell ⟨q9, 5, none⟩ (.int .i64 h.he)).setCell ⟨q9, 6, none⟩ (.int .u16 h.tr)).setCell ⟨q9, 7, none⟩ (.bool h.tk)).setCell ⟨q9, 8, none⟩ (.slice (x2.a.map fun g => ⟨g, 0, none⟩) x2.n x2.cap))) := ⟨_, rfl⟩
          have gg : W5.grownBy W6 (some q9) := by rw [hW6]; exact row_st9 _ _ _ _ _ _ _ _ _ _ _
          have A9_6 : Hid (CAt W6 q9 h (.slice (x2.a.map fun g => ⟨g, 0, none⟩) x2.n x2.cap)) := by unfold Hid; rw [hW6]; exact CAt.st9 A9_5.out
          have TS6 : Hid (TS w h (.slice va ps.length vc) ps g q3 W6) := TS5.out.keepC A9_5.out L9.out LW.out gg
          have U1_6 : Hid (T1 ps (g + 1) x1 W6) := U1_5.out.keepC A9_5.out gg
          have U2_6 : Hid (T1 ps (g + 1) x2 W6) := U2_5.out.keepC A9_5.out gg
          have A8_6 : Hid (CAt W6 q8 h (.slice (x1.a.map fun g => ⟨g, 0, none⟩) x1.n x1.cap)) := A8_5.out.keepR gg (by have := LN.out; simp; omega)
          rw [← hW6]
          clear gg hW6
          refine wpAnyH_done (by kernel_rfl) ?_ _
          go_wp2_with fail
          go_meet
          case rel => exact ⟨q8, q9, x1, x2, rfl, rfl, TS6.out, ⟨A8_6.out, A9_6.out, U1_6.out, U2_6.out, fun b e1 e2 => by have a1 := (D12.out b e1); have a2 := (E12.out b e2); omega⟩⟩
        · simp only [List.getElem_toArray, List.getElem_cons_zero, List.getElem_cons_succ]
          go_simp
          refine hK.out _ _ (TS2.out.i.keep (World.grownBy_alloc _ _ none)) (fun _ => ?_)
          clear hK K
          (try go_frame)
          obtain ⟨W3, hW3⟩ : ∃ X, X = W2.alloc (.cells #[.string ⟨#[]⟩, .int .u8 0, .int .u8 0, .int .i64 0, .int .i64 0, .int .i64 0, .int .u16 0, .bool false, .slice none 0 0] 40) := ⟨_, rfl⟩
          have A9_3' : CAt W3 W2.heap.size Hd.none (.slice none 0 0) := by rw [hW3]; exact alloc_at W2 _ _
          have gg : W2.grownBy W3 none := by rw [hW3]; exact World.grownBy_alloc _ _ none
          obtain ⟨q9, hq9⟩ : ∃ X, X = W2.heap.size := ⟨_, rfl⟩
          have L9 : Hid (q3 < q9) := by unfold Hid; rw [hq9]; exact block_lt TS2.out.i
          have LN : Hid (q8 ≠ q9) := by have := block_lt A8_2.out; unfold Hid; omega
          have TS3 : Hid (TS w h (.slice va ps.length vc) ps g q3 W3) := TS2.out.keep gg
          have U1_3 : Hid (T1 ps (g + 1) x1 W3) := U1_2.out.keep gg
          have A8_3 : Hid (CAt W3 q8 Hd.none (.slice none 0 0)) := A8_2.out.keep gg
          rw [← hW3, ← hq9]
          rw [← hq9] at A9_3'
          have A9_3 : Hid (CAt W3 q9 Hd.none (.slice none 0 0)) := A9_3'
          clear A9_3' gg hW3 hq9
          refine wpAnyH_ready (rs := [3]) (by kernel_rfl) (by simp) ?_
          refine AllReadyH.cons rfl (fun K hK => ?_) AllReadyH.nil
          simp only [List.getElem_toArray, List.getElem_cons_zero, List.getElem_cons_succ]
          go_simp
          go_at_call 14
          refine (ccopy_any h _ ps _ (own_head TS3.out.f) HCP.out).mono ?_
          rintro e W4 ⟨uu, rfl, oo, gg⟩
          obtain ⟨x2, rfl, kk, bb⟩ := own_lst' oo
          have U2_4 : Hid (T1 ps (g + 1) x2 W4) := ⟨oo.big (Nat.zero_le _), kk, fun b hb => ⟨Nat.le_trans (Nat.succ_le_of_lt (own_room TS3.out.f).1.lt) (bb b hb).1, (bb b hb).2⟩⟩
          have E12 : Hid (∀ b, x2.a = some b → W3.heap.size ≤ b) := fun b hb => (bb b hb).1
          have D12 : Hid (∀ b, x1.a = some b → b < W3.heap.size) := fun b hb => (U1_3.out.lo b hb).2
          have TS4 : Hid (TS w h (.slice va ps.length vc) ps g q3 W4) := TS3.out.keep gg
          have U1_4 : Hid (T1 ps (g + 1) x1 W4) := U1_3.out.keep gg
          have A8_4 : Hid (CAt W4 q8 Hd.none (.slice none 0 0)) := A8_3.out.keep gg
          have A9_4 : Hid (CAt W4 q9 Hd.none (.slice none 0 0)) := A9_3.out.keep gg
          clear gg oo kk bb
          unfold cv
          refine hK.out _ _ ((TS4.out.i)) (fun _ => ?_)
          clear hK K
          (try go_frame)
          refine wpAnyH_ready (rs := [6]) (by kernel_rfl) (by simp) ?_
          refine AllReadyH.cons rfl (fun K hK => ?_) AllReadyH.nil
          obtain ⟨c0, c1, c2, c3, c4, c5, c6, c7, c8⟩ := A8_4.out.cells
          have cf := fun i => A8_4.out.free i
          simp only [Hd.none] at c0 c1 c2 c3 c4 c5 c6 c7 c8
          simp only [List.getElem_toArray, List.getElem_cons_zero, List.getElem_cons_succ]
          go_simp
          refine hK.out _ _ (TS4.out.i.keepR (row_st9 _ q8 _ _ _ _ _ _ _ _ _) (by have := L8.out; simp; omega)) (fun _ => ?_)
          clear hK K c0 c1 c2 c3 c4 c5 c6 c7 c8 cf
          (try go_frame)
          obtain ⟨W5, hW5⟩ : ∃ X, X = ((((((((((W4.setCell ⟨q8, 0, none⟩ (.string h.nm)).setCell ⟨q8, 1, none⟩ (.int .u8 h.su)).setCell ⟨q8, 2, none⟩ (.int .u8 h.kd)).setCell ⟨q8, 3, none⟩ (.int .i64 h.co)).setCell ⟨q8, 4, none⟩ (.int .i64 h.po)).setCell ⟨q8, 5, none⟩ (.int .i64 h.he)).setCell ⟨q8, 6, none⟩ (.int .u16 h.tr)).setCell ⟨q8, 7, none⟩ (.bool h.tk)).setCell ⟨q8, 8, none⟩ (.slice (x1.a.map fun g => ⟨g, 0, none⟩) x1.n x1.cap))) := ⟨_, rfl⟩
          have gg : W4.grownBy W5 (some q8) := by rw [hW5]; exact row_st9 _ _ _ _ _ _ _ _ _ _ _
          have A8_5 : Hid (CAt W5 q8 h (.slice (x1.a.map fun g => ⟨g, 0, none⟩) x1.n x1.cap)) := by unfold Hid; rw [hW5]; exact CAt.st9 A8_4.out
          have TS5 : Hid (TS w h (.slice va ps.length vc) ps g q3 W5) := TS4.out.keepC A8_4.out L8.out LW.out gg
          have U1_5 : Hid (T1 ps (g + 1) x1 W5) := U1_4.out.keepC A8_4.out gg
          have U2_5 : Hid (T1 ps (g + 1) x2 W5) := U2_4.out.keepC A8_4.out gg
          have A9_5 : Hid (CAt W5 q9 Hd.none (.slice none 0 0)) := A9_4.out.keepR gg (by have := LN.out; simp; omega)
          rw [← hW5]
          clear gg hW5
          refine wpAnyH_ready (rs := [7]) (by kernel_rfl) (by simp) ?_
          refine AllReadyH.cons rfl (fun K hK => ?_) AllReadyH.nil
          obtain ⟨c0, c1, c2, c3, c4, c5, c6, c7, c8⟩ := A9_5.out.cells
          have cf := fun i => A9_5.out.free i
          simp only [Hd.none] at c0 c1 c2 c3 c4 c5 c6 c7 c8
          simp only [List.getElem_toArray, List.getElem_cons_zero, List.getElem_cons_succ]
          go_simp
          refine hK.out _ _ (TS5.out.i.keepR (row_st9 _ q9 _ _ _ _ _ _ _ _ _) (by have := L9.out; simp; omega)) (fun _ => ?_)
          clear hK K c0 c1 c2 c3 c4 c5 c6 c7 c8 cf
          (try go_frame)
          obtain ⟨W6, hW6⟩ : ∃ X, X = ((((((((((W5.setCell ⟨q9, 0, none⟩ (.string h.nm)).setCell ⟨q9, 1, none⟩ (.int .u8 h.su)).setCell ⟨q9, 2, none⟩ (.int .u8 h.kd)).setCell ⟨q9, 3, none⟩ (.int .i64 h.co)).setCell ⟨q9, 4, none⟩ (.int .i64 h.po)).setCell ⟨q9, 5, none⟩ (.int .i64 h.he)).setCell ⟨q9, 6, none⟩ (.int .u16 h.tr)).setCell ⟨q9, 7, none⟩ (.bool h.tk)).setCell ⟨q9, 8, none⟩ (.slice (x2.a.map fun g => ⟨g, 0, none⟩) x2.n x2.cap))) := ⟨_, rfl⟩
          have gg : W5.grownBy W6 (some q9) := by rw [hW6]; exact row_st9 _ _ _ _ _ _ _ _ _ _ _
          have A9_6 : Hid (CAt W6 q9 h (.slice (x2.a.map fun g => ⟨g, 0, none⟩) x2.n x2.cap)) := by unfold Hid; rw [hW6]; exact CAt.st9 A9_5.out
          have TS6 : Hid (TS w h (.slice va ps.length vc) ps g q3 W6) := TS5.out.keepC A9_5.out L9.out LW.out gg
          have U1_6 : Hid (T1 ps (g + 1) x1 W6) := U1_5.out.keepC A9_5.out gg
          have U2_6 : Hid (T1 ps (g + 1) x2 W6) := U2_5.out.keepC A9_5.out gg
          have A8_6 : Hid (CAt W6 q8 h (.slice (x1.a.map fun g => ⟨g, 0, none⟩) x1.n x1.cap)) := A8_5.out.keepR gg (by have := LN.out; simp; omega)
          rw [← hW6]
          clear gg hW6
          refine wpAnyH_done (by kernel_rfl) ?_ _
          go_wp2_with fail
          go_meet
          case rel => exact ⟨q8, q9, x1, x2, rfl, rfl, TS6.out, ⟨A8_6.out, A9_6.out, U1_6.out, U2_6.out, fun b e1 e2 => by have a1 := (D12.out b e1); have a2 := (E12.out b e2); omega⟩⟩
      · simp only [List.getElem_toArray, List.getElem_cons_zero, List.getElem_cons_succ]
        go_simp
        refine hK.out _ _ (TS1.out.i.keep (World.grownBy_alloc _ _ none)) (fun _ => ?_)
        clear hK K
        (try go_frame)
        obtain ⟨W2, hW2⟩ : ∃ X, X = W1.alloc (.cells #[.string ⟨#[]⟩, .int .u8 0, .int .u8 0, .int .i64 0, .int .i64 0, .int .i64 0, .int .u16 0, .bool false, .slice none 0 0] 40) := ⟨_, rfl⟩
        have A9_2' : CAt W2 W1.heap.size Hd.none (.slice none 0 0) := by rw [hW2]; exact alloc_at W1 _ _
        have gg : W1.grownBy W2 none := by rw [hW2]; exact World.grownBy_alloc _ _ none
        obtain ⟨q9, hq9⟩ : ∃ X, X = W1.heap.size := ⟨_, rfl⟩
        have L9 : Hid (q3 < q9) := by unfold Hid; rw [hq9]; exact block_lt TS1.out.i
        have LN : Hid (q8 ≠ q9) := by have := block_lt A8_1.out; unfold Hid; omega
        have TS2 : Hid (TS w h (.slice va ps.length vc) ps g q3 W2) := TS1.out.keep gg
        have A8_2 : Hid (CAt W2 q8 Hd.none (.slice none 0 0)) := A8_1.out.keep gg
        rw [← hW2, ← hq9]
        rw [← hq9] at A9_2'
        have A9_2 : Hid (CAt W2 q9 Hd.none (.slice none 0 0)) := A9_2'
        clear A9_2' gg hW2 hq9
        refine wpAnyH_ready (rs := [1]) (by kernel_rfl) (by simp) ?_
        refine AllReadyH.cons rfl (fun K hK => ?_) AllReadyH.nil
        simp only [List.getElem_toArray, List.getElem_cons_zero, List.getElem_cons_succ]
        go_simp
        go_at_call 14
        refine (ccopy_any h _ ps _ (own_head TS2.out.f) HCP.out).mono ?_
        rintro e W3 ⟨uu, rfl, oo, gg⟩
        obtain ⟨x1, rfl, kk, bb⟩ := own_lst' oo
        have U1_3 : Hid (T1 ps (g + 1) x1 W3) := ⟨oo.big (Nat.zero_le _), kk, fun b hb => ⟨Nat.le_trans (Nat.succ_le_of_lt (own_room TS2.out.f).1.lt) (bb b hb).1, (bb b hb).2⟩⟩
        have D12a : Hid (∀ b, x1.a = some b → b < W3.heap.size) := fun b hb => (bb b hb).2
        have TS3 : Hid (TS w h (.slice va ps.length vc) ps g q3 W3) := TS2.out.keep gg
        have A8_3 : Hid (CAt W3 q8 Hd.none (.slice none 0 0)) := A8_2.out.keep gg
        have A9_3 : Hid (CAt W3 q9 Hd.none (.slice none 0 0)) := A9_2.out.keep gg
        clear gg oo kk bb
        unfold cv
        refine hK.out _ _ ((TS3.out.i)) (fun _ => ?_)
        clear hK K
        (try go_frame)
        refine wpAnyH_ready (rs := [3]) (by kernel_rfl) (by simp) ?_
        refine AllReadyH.cons rfl (fun K hK => ?_) AllReadyH.nil
        simp only [List.getElem_toArray, List.getElem_cons_zero, List.getElem_cons_succ]
        go_simp
        go_at_call 14
        refine (ccopy_any h _ ps _ (own_head TS3.out.f) HCP.out).mono ?_
        rintro e W4 ⟨uu, rfl, oo, gg⟩
        obtain ⟨x2, rfl, kk, bb⟩ := own_lst' oo
        have U2_4 : Hid (T1 ps (g + 1) x2 W4) := ⟨oo.big (Nat.zero_le _), kk, fun b hb => ⟨Nat.le_trans (Nat.succ_le_of_lt (own_room TS3.out.f).1.lt) (bb b hb).1, (bb b hb).2⟩⟩
        have E12 : Hid (∀ b, x2.a = some b → W3.heap.size ≤ b) := fun b hb => (bb b hb).1
        have D12 : Hid (∀ b, x1.a = some b → b < W3.heap.size) := fun b hb => (U1_3.out.lo b hb).2
        have TS4 : Hid (TS w h (.slice va ps.length vc) ps g q3 W4) := TS3.out.keep gg
        have U1_4 : Hid (T1 ps (g + 1) x1 W4) := U1_3.out.keep gg
        have A8_4 : Hid (CAt W4 q8 Hd.none (.slice none 0 0)) := A8_3.out.keep gg
        have A9_4 : Hid (CAt W4 q9 Hd.none (.slice none 0 0)) := A9_3.out.keep gg
        clear gg oo kk bb
        unfold cv
        refine hK.out _ _ ((TS4.out.i)) (fun _ => ?_)
        clear hK K
        (try go_frame)
        refine wpAnyH_ready (rs := [6]) (by kernel_rfl) (by simp) ?_
        refine AllReadyH.cons rfl (fun K hK => ?_) AllReadyH.nil
        obtain ⟨c0, c1, c2, c3, c4, c5, c6, c7, c8⟩ := A8_4.out.cells
        have cf := fun i => A8_4.out.free i
        simp only [Hd.none] at c0 c1 c2 c3 c4 c5 c6 c7 c8
        simp only [List.getElem_toArray, List.getElem_cons_zero, List.getElem_cons_succ]
        go_simp
        refine hK.out _ _ (TS4.out.i.keepR (row_st9 _ q8 _ _ _ _ _ _ _ _ _) (by have := L8.out; simp; omega)) (fun _ => ?_)
        clear hK K c0 c1 c2 c3 c4 c5 c6 c7 c8 cf
        (try go_frame)
        obtain ⟨W5, hW5⟩ : ∃ X, X = ((((((((((W4.setCell ⟨q8, 0, none⟩ (.string h.nm)).setCell ⟨q8, 1, none⟩ (.int .u8 h.su)).setCell ⟨q8, 2, none⟩ (.int .u8 h.kd)).setCell ⟨q8, 3, none⟩ (.int .i64 h.co)).setCell ⟨q8, 4, none⟩ (.int .i64 h.po)).setCell ⟨q8, 5, none⟩ (.int .i64 h.he)).setCell ⟨q8, 6, none⟩ (.int .u16 h.tr)).setCell ⟨q8, 7, none⟩ (.bool h.tk)).setCell ⟨q8, 8, none⟩ (.slice (x1.a.map fun g => ⟨g, 0, none⟩) x1.n x1.cap))) := ⟨_, rfl⟩
        have gg : W4.grownBy W5 (some q8) := by rw [hW5]; exact row_st9 _ _ _ _ _ _ _ _ _ _ _
        have A8_5 : Hid (CAt W5 q8 h (.slice (x1.a.map fun g => ⟨g, 0, none⟩) x1.n x1.cap)) := by unfold Hid; rw [hW5]; exact CAt.st9 A8_4.out
        have TS5 : Hid (TS w h (.slice va ps.length vc) ps g q3 W5) := TS4.out.keepC A8_4.out L8.out LW.out gg
        have U1_5 : Hid (T1 ps (g + 1) x1 W5) := U1_4.out.keepC A8_4.out gg
        have U2_5 : Hid (T1 ps (g + 1) x2 W5) := U2_4.out.keepC A8_4.out gg
        have A9_5 : Hid (CAt W5 q9 Hd.none (.slice none 0 0)) := A9_4.out.keepR gg (by have := LN.out; simp; omega)
        rw [← hW5]
        clear gg hW5
        refine wpAnyH_ready (rs := [7]) (by kernel_rfl) (by simp) ?_
        refine AllReadyH.cons rfl (fun K hK => ?_) AllReadyH.nil
        obtain ⟨c0, c1, c2, c3, c4, c5, c6, c7, c8⟩ := A9_5.out.cells
        have cf := fun i => A9_5.out.free i
        simp only [Hd.none] at c0 c1 c2 c3 c4 c5 c6 c7 c8
        simp only [List.getElem_toArray, List.getElem_cons_zero, List.getElem_cons_succ]
        go_simp
        refine hK.out _ _ (TS5.out.i.keepR (row_st9 _ q9 _ _ _ _ _ _ _ _ _) (by have := L9.out; simp; omega)) (fun _ => ?_)
        clear hK K c0 c1 c2 c3 c4 c5 c6 c7 c8 cf
        (try go_frame)
        obtain ⟨W6, hW6⟩ : ∃ X, X = ((((((((((W5.setCell ⟨q9, 0, none⟩ (.string h.nm)).setCell ⟨q9, 1, none⟩ (.int .u8 h.su)).setCell ⟨q9, 2, none⟩ (.int .u8 h.kd)).setCell ⟨q9, 3, none⟩ (.int .i64 h.co)).setCell ⟨q9, 4, none⟩ (.int .i64 h.po)).setCell ⟨q9, 5, none⟩ (.int .i64 h.he)).setCell ⟨q9, 6, none⟩ (.int .u16 h.tr)).setCell ⟨q9, 7, none⟩ (.bool h.tk)).setCell ⟨q9, 8, none⟩ (.slice (x2.a.map fun g => ⟨g, 0, none⟩) x2.n x2.cap))) := ⟨_, rfl⟩
        have gg : W5.grownBy W6 (some q9) := by rw [hW6]; exact row_st9 _ _ _ _ _ _ _ _ _ _ _
        have A9_6 : Hid (CAt W6 q9 h (.slice (x2.a.map fun g => ⟨g, 0, none⟩) x2.n x2.cap)) := by unfold Hid; rw [hW6]; exact CAt.st9 A9_5.out
        have TS6 : Hid (TS w h (.slice va ps.length vc) ps g q3 W6) := TS5.out.keepC A9_5.out L9.out LW.out gg
        have U1_6 : Hid (T1 ps (g + 1) x1 W6) := U1_5.out.keepC A9_5.out gg
        have U2_6 : Hid (T1 ps (g + 1) x2 W6) := U2_5.out.keepC A9_5.out gg
        have A8_6 : Hid (CAt W6 q8 h (.slice (x1.a.map fun g => ⟨g, 0, none⟩) x1.n x1.cap)) := A8_5.out.keepR gg (by have := LN.out; simp; omega)
        rw [← hW6]
        clear gg hW6
        refine wpAnyH_done (by kernel_rfl) ?_ _
        go_wp2_with fail
        go_meet
        case rel => exact ⟨q8, q9, x1, x2, rfl, rfl, TS6.out, ⟨A8_6.out, A9_6.out, U1_6.out, U2_6.out, fun b e1 e2 => by have a1 := (D12.out b e1); have a2 := (E12.out b e2); omega⟩⟩
    · simp only [List.getElem_toArray, List.getElem_cons_zero, List.getElem_cons_succ]
      go_simp
      refine hK.out _ _ (TS0.out.i.keep (World.grownBy_alloc _ _ none)) (fun _ => ?_)
      clear hK K
      (try go_frame)
      obtain ⟨W1, hW1⟩ : ∃ X, X = W0.alloc (.cells #[.string ⟨#[]⟩, .int .u8 0, .int .u8 0, .int .i64 0, .int .i64 0, .int .i64 0, .int .u16 0, .bool false, .slice none 0 0] 40) := ⟨_, rfl⟩
      have A9_1' : CAt W1 W0.heap.size Hd.none (.slice none 0 0) := by rw [hW1]; exact alloc_at W0 _ _
      have gg : W0.grownBy W1 none := by rw [hW1]; exact World.grownBy_alloc _ _ none
      obtain ⟨q9, hq9⟩ : ∃ X, X = W0.heap.size := ⟨_, rfl⟩
      have L9 : Hid (q3 < q9) := by unfold Hid; rw [hq9]; exact block_lt TS0.out.i
      have TS1 : Hid (TS w h (.slice va ps.length vc) ps g q3 W1) := TS0.out.keep gg
      rw [← hW1, ← hq9]
      rw [← hq9] at A9_1'
      have A9_1 : Hid (CAt W1 q9 Hd.none (.slice none 0 0)) := A9_1'
      clear A9_1' gg hW1 hq9
      refine wpAnyH_ready (rs := [1, 4]) (by kernel_rfl) (by simp) ?_
      refine AllReadyH.cons rfl (fun K hK => ?_) (AllReadyH.cons rfl (fun K hK => ?_) AllReadyH.nil)
      · simp only [List.getElem_toArray, List.getElem_cons_zero, List.getElem_cons_succ]
        go_simp
        go_at_call 14
        refine (ccopy_any h _ ps _ (own_head TS1.out.f) HCP.out).mono ?_
        rintro e W2 ⟨uu, rfl, oo, gg⟩
        obtain ⟨x1, rfl, kk, bb⟩ := own_lst' oo
        have U1_2 : Hid (T1 ps (g + 1) x1 W2) := ⟨oo.big (Nat.zero_le _), kk, fun b hb => ⟨Nat.le_trans (Nat.succ_le_of_lt (own_room TS1.out.f).1.lt) (bb b hb).1, (bb b hb).2⟩⟩
        have D12a : Hid (∀ b, x1.a = some b → b < W2.heap.size) := fun b hb => (bb b hb).2
        have TS2 : Hid (TS w h (.slice va ps.length vc) ps g q3 W2) := TS1.out.keep gg
        have A9_2 : Hid (CAt W2 q9 Hd.none (.slice none 0 0)) := A9_1.out.keep gg
        clear gg oo kk bb
        unfold cv
        refine hK.out _ _ ((TS2.out.i)) (fun _ => ?_)
        clear hK K
        (try go_frame)
        refine wpAnyH_ready (rs := [3, 4]) (by kernel_rfl) (by simp) ?_
        refine AllReadyH.cons rfl (fun K hK => ?_) (AllReadyH.cons rfl (fun K hK => ?_) AllReadyH.nil)
        · simp only [List.getElem_toArray, List.getElem_cons_zero, List.getElem_cons_succ]
          go_simp
          go_at_call 14
          refine (ccopy_any h _ ps _ (own_head TS2.out.f) HCP.out).mono ?_
          rintro e W3 ⟨uu, rfl, oo, gg⟩
          obtain ⟨x2, rfl, kk, bb⟩ := own_lst' oo
          have U2_3 : Hid (T1 ps (g + 1) x2 W3) := ⟨oo.big (Nat.zero_le _), kk, fun b hb => ⟨Nat.le_trans (Nat.succ_le_of_lt (own_room TS2.out.f).1.lt) (bb b hb).1, (bb b hb).2⟩⟩
          have E12 : Hid (∀ b, x2.a = some b → W2.heap.size ≤ b) := fun b hb => (bb b hb).1
          have D12 : Hid (∀ b, x1.a = some b → b < W2.heap.size) := fun b hb => (U1_2.out.lo b hb).2
          have TS3 : Hid (TS w h (.slice va ps.length vc) ps g q3 W3) := TS2.out.keep gg
          have U1_3 : Hid (T1 ps (g + 1) x1 W3) := U1_2.out.keep gg
          have A9_3 : Hid (CAt W3 q9 Hd.none (.slice none 0 0)) := A9_2.out.keep gg
          clear gg oo kk bb
          unfold cv
          refine hK.out _ _ ((TS3.out.i)) (fun _ => ?_)
          clear hK K
          (try go_frame)
          refine wpAnyH_ready (rs := [4]) (by kernel_rfl) (by simp) ?_
          refine AllReadyH.cons rfl (fun K hK => ?_) AllReadyH.nil
          simp only [List.getElem_toArray, List.getElem_cons_zero, List.getElem_cons_succ]
          go_simp
          refine hK.out _ _ (TS3.out.i.keep (World.grownBy_alloc _ _ none)) (fun _ => ?_)
          clear hK K
          (try go_frame)
          obtain ⟨W4, hW4⟩ : ∃ X, X = W3.alloc (.cells #[.string ⟨#[]⟩, .int .u8 0, .int .u8 0, .int .i64 0, .int .i64 0, .int .i64 0, .int .u16 0, .bool false, .slice none 0 0] 40) := ⟨_, rfl⟩
          have A8_4' : CAt W4 W3.heap.size Hd.none (.slice none 0 0) := by rw [hW4]; exact alloc_at W3 _ _
          have gg : W3.grownBy W4 none := by rw [hW4]; exact World.grownBy_alloc _ _ none
          obtain ⟨q8, hq8⟩ : ∃ X, X = W3.heap.size := ⟨_, rfl⟩
          have L8 : Hid (q3 < q8) := by unfold Hid; rw [hq8]; exact block_lt TS3.out.i
          have LN : Hid (q8 ≠ q9) := by have := block_lt A9_3.out; unfold Hid; omega
          have TS4 : Hid (TS w h (.slice va ps.length vc) ps g q3 W4) := TS3.out.keep gg
          have U1_4 : Hid (T1 ps (g + 1) x1 W4) := U1_3.out.keep gg
          have U2_4 : Hid (T1 ps (g + 1) x2 W4) := U2_3.out.keep gg
          have A9_4 : Hid (CAt W4 q9 Hd.none (.slice none 0 0)) := A9_3.out.keep gg
          rw [← hW4, ← hq8]
          rw [← hq8] at A8_4'
          have A8_4 : Hid (CAt W4 q8 Hd.none (.slice none 0 0)) := A8_4'
          clear A8_4' gg hW4 hq8
          refine wpAnyH_ready (rs := [6]) (by kernel_rfl) (by simp) ?_
          refine AllReadyH.cons rfl (fun K hK => ?_) AllReadyH.nil
          obtain ⟨c0, c1, c2, c3, c4, c5, c6, c7, c8⟩ := A8_4.out.cells
          have cf := fun i => A8_4.out.free i
          simp only [Hd.none] at c0 c1 c2 c3 c4 c5 c6 c7 c8
          simp only [List.getElem_toArray, List.getElem_cons_zero, List.getElem_cons_succ]
          go_simp
          refine hK.out _ _ (TS4.out.i.keepR (row_st9 _ q8 _ _ _ _ _ _ _ _ _) (by have := L8.out; simp; omega)) (fun _ => ?_)
          clear hK K c0 c1 c2 c3 c4 c5 c6 c7 c8 cf
          (try go_frame)
          obtain ⟨W5, hW5⟩ : ∃ X, X = ((((((((((W4.setCell ⟨q8, 0, none⟩ (.string h.nm)).setCell ⟨q8, 1, none⟩ (.int .u8 h.su)).setCell ⟨q8, 2, none⟩ (.int .u8 h.kd)).setCell ⟨q8, 3, none⟩ (.int .i64 h.co)).setCell ⟨q8, 4, none⟩ (.int .i64 h.po)).setCell ⟨q8, 5, none⟩ (.int .i64 h.he)).setCell ⟨q8, 6, none⟩ (.int .u16 h.tr)).setCell ⟨q8, 7, none⟩ (.bool h.tk)).setCell ⟨q8, 8, none⟩ (.slice (x1.a.map fun g => ⟨g, 0, none⟩) x1.n x1.cap))) := ⟨_, rfl⟩
          have gg : W4.grownBy W5 (some q8) := by rw [hW5]; exact row_st9 _ _ _ _ _ _ _ _ _ _ _
          have A8_5 : Hid (CAt W5 q8 h (.slice (x1.a.map fun g => ⟨g, 0, none⟩) x1.n x1.cap)) := by unfold Hid; rw [hW5]; exact CAt.st9 A8_4.out
          have TS5 : Hid (TS w h (.slice va ps.length vc) ps g q3 W5) := TS4.out.keepC A8_4.out L8.out LW.out gg
          have U1_5 : Hid (T1 ps (g + 1) x1 W5) := U1_4.out.keepC A8_4.out gg
          have U2_5 : Hid (T1 ps (g + 1) x2 W5) := U2_4.out.keepC A8_4.out gg
          have A9_5 : Hid (CAt W5 q9 Hd.none (.slice none 0 0)) := A9_4.out.keepR gg (by have := LN.out; simp; omega)
          rw [← hW5]
          clear gg hW5
          refine wpAnyH_ready (rs := [7]) (by kernel_rfl) (by simp) ?_
          refine AllReadyH.cons rfl (fun K hK => ?_) AllReadyH.nil
          obtain ⟨c0, c1, c2, c3, c4, c5, c6, c7, c8⟩ := A9_5.out.cells
          have cf := fun i => A9_5.out.free i
          simp only [Hd.none] at c0 c1 c2 c3 c4 c5 c6 c7 c8
          simp only [List.getElem_toArray, List.getElem_cons_zero, List.getElem_cons_succ]
          go_simp
          refine hK.out _ _ (TS5.out.i.keepR (row_st9 _ q9 _ _ _ _ _ _ _ _ _) (by have := L9.out; simp; omega)) (fun _ => ?_)
          clear hK K c0 c1 c2 c3 c4 c5 c6 c7 c8 cf
          (try go_frame)
          obtain ⟨W6, hW6⟩ : ∃ X, X = ((((((((((W5.setCell ⟨q9, 0, none⟩ (.string h.nm)).setCell ⟨q9, 1, none⟩ (.int .u8 h.su)).setCell ⟨q9, 2, none⟩ (.int .u8 h.kd)).setCell ⟨q9, 3, none⟩ (.int .i64 h.co)).setCell ⟨q9, 4, none⟩ (.int .i64 h.po)).setCell ⟨q9, 5, none⟩ (.int .i64 h.he)).setCell ⟨q9, 6, none⟩ (.int .u16 h.tr)).setCell ⟨q9, 7, none⟩ (.bool h.tk)).setCell ⟨q9, 8, none⟩ (.slice (x2.a.map fun g => ⟨g, 0, none⟩) x2.n x2.cap))) := ⟨_, rfl⟩
          have gg : W5.grownBy W6 (some q9) := by rw [hW6]; exact row_st9 _ _ _ _ _ _ _ _ _ _ _
          have A9_6 : Hid (CAt W6 q9 h (.slice (x2.a.map fun g => ⟨g, 0, none⟩) x2.n x2.cap)) := by unfold Hid; rw [hW6]; exact CAt.st9 A9_5.out
          have TS6 : Hid (TS w h (.slice va ps.length vc) ps g q3 W6) := TS5.out.keepC A9_5.out L9.out LW.out gg
          have U1_6 : Hid (T1 ps (g + 1) x1 W6) := U1_5.out.keepC A9_5.out gg
          have U2_6 : Hid (T1 ps (g + 1) x2 W6) := U2_5.out.keepC A9_5.out gg
          have A8_6 : Hid (CAt W6 q8 h (.slice (x1.a.map fun g => ⟨g, 0, none⟩) x1.n x1.cap)) := A8_5.out.keepR gg (by have := LN.out; simp; omega)
          rw [← hW6]
          clear gg hW6
          refine wpAnyH_done (by kernel_rfl) ?_ _
          go_wp2_with fail
          go_meet
          case rel => exact ⟨q8, q9, x1, x2, rfl, rfl, TS6.out, ⟨A8_6.out, A9_6.out, U1_6.out, U2_6.out, fun b e1 e2 => by have a1 := (D12.out b e1); have a2 := (E12.out b e2); omega⟩⟩
        · simp only [List.getElem_toArray, List.getElem_cons_zero, List.getElem_cons_succ]
          go_simp
          refine hK.out _ _ (TS2.out.i.keep (World.grownBy_alloc _ _ none)) (fun _ => ?_)
          clear hK K
          (try go_frame)
          obtain ⟨W3, hW3⟩ : ∃ X, X = W2.alloc (.cells #[.string ⟨#[]⟩, .int .u8 0, .int .u8 0, .int .i64 0, .int .i64 0, .int .i64 0, .int .u16 0, .bool false, .slice none 0 0] 40) := ⟨_, rfl⟩
          have A8_3' : CAt W3 W2.heap.size Hd.none (.slice none 0 0) := by rw [hW3]; exact alloc_at W2 _ _
          have gg : W2.grownBy W3 none := by rw [hW3]; exact World.grownBy_alloc _ _ none
          obtain ⟨q8, hq8⟩ : ∃ X, X = W2.heap.size := ⟨_, rfl⟩
          have L8 : Hid (q3 < q8) := by unfold Hid; rw [hq8]; exact block_lt TS2.out.i
          have LN : Hid (q8 ≠ q9) := by have := block_lt A9_2.out; unfold Hid; omega
          have TS3 : Hid (TS w h (.slice va ps.length vc) ps g q3 W3) := TS2.out.keep gg
          have U1_3 : Hid (T1 ps (g + 1) x1 W3) := U1_2.out.keep gg
          have A9_3 : Hid (CAt W3 q9 Hd.none (.slice none 0 0)) := A9_2.out.keep gg
          rw [← hW3, ← hq8]
          rw [← hq8] at A8_3'
          have A8_3 : Hid (CAt W3 q8 Hd.none (.slice none 0 0)) := A8_3'
          clear A8_3' gg hW3 hq8
          refine wpAnyH_ready (rs := [3]) (by kernel_rfl) (by simp) ?_
          refine AllReadyH.cons rfl (fun K hK => ?_) AllReadyH.nil
          simp only [List.getElem_toArray, List.getElem_cons_zero, List.getElem_cons_succ]
          go_simp
          go_at_call 14
          refine (ccopy_any h _ ps _ (own_head TS3.out.f) HCP.out).mono ?_
          rintro e W4 ⟨uu, rfl, oo, gg⟩
          obtain ⟨x2, rfl, kk, bb⟩ := own_lst' oo
          have U2_4 : Hid (T1 ps (g + 1) x2 W4) := ⟨oo.big (Nat.zero_le _), kk, fun b hb => ⟨Nat.le_trans (Nat.succ_le_of_lt (own_room TS3.out.f).1.lt) (bb b hb).1, (bb b hb).2⟩⟩
          have E12 : Hid (∀ b, x2.a = some b → W3.heap.size ≤ b) := fun b hb => (bb b hb).1
          have D12 : Hid (∀ b, x1.a = some b → b < W3.heap.size) := fun b hb => (U1_3.out.lo b hb).2
          have TS4 : Hid (TS w h (.slice va ps.length vc) ps g q3 W4) := TS3.out.keep gg
          have U1_4 : Hid (T1 ps (g + 1) x1 W4) := U1_3.out.keep gg
          have A8_4 : Hid (CAt W4 q8 Hd.none (.slice none 0 0)) := A8_3.out.keep gg
          have A9_4 : Hid (CAt W4 q9 Hd.none (.slice none 0 0)) := A9_3.out.keep gg
          clear gg oo kk bb
          unfold cv
          refine hK.out _ _ ((TS4.out.i)) (fun _ => ?_)
          clear hK K
          (try go_frame)
          refine wpAnyH_ready (rs := [6]) (by kernel_rfl) (by simp) ?_
          refine AllReadyH.cons rfl (fun K hK => ?_) AllReadyH.nil
          obtain ⟨c0, c1, c2, c3, c4, c5, c6, c7, c8⟩ := A8_4.out.cells
          have cf := fun i => A8_4.out.free i
          simp only [Hd.none] at c0 c1 c2 c3 c4 c5 c6 c7 c8
          simp only [List.getElem_toArray, List.getElem_cons_zero, List.getElem_cons_succ]
          go_simp
          refine hK.out _ _ (TS4.out.i.keepR (row_st9 _ q8 _ _ _ _ _ _ _ _ _) (by have := L8.out; simp; omega)) (fun _ => ?_)
          clear hK K c0 c1 c2 c3 c4 c5 c6 c7 c8 cf
          (try go_frame)
          obtain ⟨W5, hW5⟩ : ∃ X, X = ((((((((((W4.setCell ⟨q8, 0, none⟩ (.string h.nm)).setCell ⟨q8, 1, none⟩ (.int .u8 h.su)).setCell ⟨q8, 2, none⟩ (.int .u8 h.kd)).setCell ⟨q8, 3, none⟩ (.int .i64 h.co)).setCell ⟨q8, 4, none⟩ (.int .i64 h.po)).setCell ⟨q8, 5, none⟩ (.int .i64 h.he)).setCell ⟨q8, 6, none⟩ (.int .u16 h.tr)).setCell ⟨q8, 7, none⟩ (.bool h.tk)).setCell ⟨q8, 8, none⟩ (.slice (x1.a.map fun g => ⟨g, 0, none⟩) x1.n x1.cap))) := ⟨_, rfl⟩
          have gg : W4.grownBy W5 (some q8) := by rw [hW5]; exact row_st9 _ _ _ _ _ _ _ _ _ _ _
          have A8_5 : Hid (CAt W5 q8 h (.slice (x1.a.map fun g => ⟨g, 0, none⟩) x1.n x1.cap)) := by unfold Hid; rw [hW5]; exact CAt.st9 A8_4.out
          have TS5 : Hid (TS w h (.slice va ps.length vc) ps g q3 W5) := TS4.out.keepC A8_4.out L8.out LW.out gg
          have U1_5 : Hid (T1 ps (g + 1) x1 W5) := U1_4.out.keepC A8_4.out gg
          have U2_5 : Hid (T1 ps (g + 1) x2 W5) := U2_4.out.keepC A8_4.out gg
          have A9_5 : Hid (CAt W5 q9 Hd.none (.slice none 0 0)) := A9_4.out.keepR gg (by have := LN.out; simp; omega)
          rw [← hW5]
          clear gg hW5
          refine wpAnyH_ready (rs := [7]) (by kernel_rfl) (by simp) ?_
          refine AllReadyH.cons rfl (fun K hK => ?_) AllReadyH.nil
          obtain ⟨c0, c1, c2, c3, c4, c5, c6, c7, c8⟩ := A9_5.out.cells
          have cf := fun i => A9_5.out.free i
          simp only [Hd.none] at c0 c1 c2 c3 c4 c5 c6 c7 c8
          simp only [List.getElem_toArray, List.getElem_cons_zero, List.getElem_cons_succ]
          go_simp
          refine hK.out _ _ (TS5.out.i.keepR (row_st9 _ q9 _ _ _ _ _ _ _ _ _) (by have := L9.out; simp; omega)) (fun _ => ?_)
          clear hK K c0 c1 c2 c3 c4 c5 c6 c7 c8 cf
          (try go_frame)
          obtain ⟨W6, hW6⟩ : ∃ X, X = ((((((((((W5.setCell ⟨q9, 0, none⟩ (.string h.nm)).setCell ⟨q9, 1, none⟩ (.int .u8 h.su)).setCell ⟨q9, 2, none⟩ (.int .u8 h.kd)).setCell ⟨q9, 3, none⟩ (.int .i64 h.co)).setCell ⟨q9, 4, none⟩ (.int .i64 h.po)).setCell ⟨q9, 5, none⟩ (.int .i64 h.he)).setCell ⟨q9, 6, none⟩ (.int .u16 h.tr)).setCell ⟨q9, 7, none⟩ (.bool h.tk)).setCell ⟨q9, 8, none⟩ (.slice (x2.a.map fun g => ⟨g, 0, none⟩) x2.n x2.cap))) := ⟨_, rfl⟩
          have gg : W5.grownBy W6 (some q9) := by rw [hW6]; exact row_st9 _ _ _ _ _ _ _ _ _ _ _
          have A9_6 : Hid (CAt W6 q9 h (.slice (x2.a.map fun g => ⟨g, 0, none⟩) x2.n x2.cap)) := by unfold Hid; rw [hW6]; exact CAt.st9 A9_5.out
          have TS6 : Hid (TS w h (.slice va ps.length vc) ps g q3 W6) := TS5.out.keepC A9_5.out L9.out LW.out gg
          have U1_6 : Hid (T1 ps (g + 1) x1 W6) := U1_5.out.keepC A9_5.out gg
          have U2_6 : Hid (T1 ps (g + 1) x2 W6) := U2_5.out.keepC A9_5.out gg
          have A8_6 : Hid (CAt W6 q8 h (.slice (x1.a.map fun g => ⟨g, 0, none⟩) x1.n x1.cap)) := A8_5.out.keepR gg (by have := LN.out; simp; omega)
          rw [← hW6]
          clear gg hW6
          refine wpAnyH_done (by kernel_rfl) ?_ _
          go_wp2_with fail
          go_meet
          case rel => exact ⟨q8, q9, x1, x2, rfl, rfl, TS6.out, ⟨A8_6.out, A9_6.out, U1_6.out, U2_6.out, fun b e1 e2 => by have a1 := (D12.out b e1); have a2 := (E12.out b e2); omega⟩⟩
      · simp only [List.getElem_toArray, List.getElem_cons_zero, List.getElem_cons_succ]
        go_simp
        refine hK.out _ _ (TS1.out.i.keep (World.grownBy_alloc _ _ none)) (fun _ => ?_)
        clear hK K
        (try go_frame)
        obtain ⟨W2, hW2⟩ : ∃ X, X = W1.alloc (.cells #[.string ⟨#[]⟩, .int .u8 0, .int .u8 0, .int .i64 0, .int .i64 0, .int .i64 0, .int .u16 0, .bool false, .slice none 0 0] 40) := ⟨_, rfl⟩
        have A8_2' : CAt W2 W1.heap.size Hd.none (.slice none 0 0) := by rw [hW2]; exact alloc_at W1 _ _
        have gg : W1.grownBy W2 none := by rw [hW2]; exact World.grownBy_alloc _ _ none
        obtain ⟨q8, hq8⟩ : ∃ X, X = W1.heap.size := ⟨_, rfl⟩
        have L8 : Hid (q3 < q8) := by unfold Hid; rw [hq8]; exact block_lt TS1.out.i
        have LN : Hid (q8 ≠ q9) := by have := block_lt A9_1.out; unfold Hid; omega
        have TS2 : Hid (TS w h (.slice va ps.length vc) ps g q3 W2) := TS1.out.keep gg
        have A9_2 : Hid (CAt W2 q9 Hd.none (.slice none 0 0)) := A9_1.out.keep gg
        rw [← hW2, ← hq8]
        rw [← hq8] at A8_2'
        have A8_2 : Hid (CAt W2 q8 Hd.none (.slice none 0 0)) := A8_2'
        clear A8_2' gg hW2 hq8
        refine wpAnyH_ready (rs := [1]) (by kernel_rfl) (by simp) ?_
        refine AllReadyH.cons rfl (fun K hK => ?_) AllReadyH.nil
        simp only [List.getElem_toArray, List.getElem_cons_zero, List.getElem_cons_succ]
        go_simp
        go_at_call 14
        refine (ccopy_any h _ ps _ (own_head TS2.out.f) HCP.out).mono ?_
        rintro e W3 ⟨uu, rfl, oo, gg⟩
        obtain ⟨x1, rfl, kk, bb⟩ := own_lst' oo
        have U1_3 : Hid (T1 ps (g + 1) x1 W3) := ⟨oo.big (Nat.zero_le _), kk, fun b hb => ⟨Nat.le_trans (Nat.succ_le_of_lt (own_room TS2.out.f).1.lt) (bb b hb).1, (bb b hb).2⟩⟩
        have D12a : Hid (∀ b, x1.a = some b → b < W3.heap.size) := fun b hb => (bb b hb).2
        have TS3 : Hid (TS w h (.slice va ps.length vc) ps g q3 W3) := TS2.out.keep gg
        have A8_3 : Hid (CAt W3 q8 Hd.none (.slice none 0 0)) := A8_2.out.keep gg
        have A9_3 : Hid (CAt W3 q9 Hd.none (.slice none 0 0)) := A9_2.out.keep gg
        clear gg oo kk bb
        unfold cv
        refine hK.out _ _ ((TS3.out.i)) (fun _ => ?_)
        clear hK K
        (try go_frame)
        refine wpAnyH_ready (rs := [3]) (by kernel_rfl) (by simp) ?_
        refine AllReadyH.cons rfl (fun K hK => ?_) AllReadyH.nil
        simp only [List.getElem_toArray, List.getElem_cons_zero, List.getElem_cons_succ]
        go_simp
        go_at_call 14
        refine (ccopy_any h _ ps _ (own_head TS3.out.f) HCP.out).mono ?_
        rintro e W4 ⟨uu, rfl, oo, gg⟩
        obtain ⟨x2, rfl, kk, bb⟩ := own_lst' oo
        have U2_4 : Hid (T1 ps (g + 1) x2 W4) := ⟨oo.big (Nat.zero_le _), kk, fun b hb => ⟨Nat.le_trans (Nat.succ_le_of_lt (own_room TS3.out.f).1.lt) (bb b hb).1, (bb b hb).2⟩⟩
        have E12 : Hid (∀ b, x2.a = some b → W3.heap.size ≤ b) := fun b hb => (bb b hb).1
        have D12 : Hid (∀ b, x1.a = some b → b < W3.heap.size) := fun b hb => (U1_3.out.lo b hb).2
        have TS4 : Hid (TS w h (.slice va ps.length vc) ps g q3 W4) := TS3.out.keep gg
        have U1_4 : Hid (T1 ps (g + 1) x1 W4) := U1_3.out.keep gg
        have A8_4 : Hid (CAt W4 q8 Hd.none (.slice none 0 0)) := A8_3.out.keep gg
        have A9_4 : Hid (CAt W4 q9 Hd.none (.slice none 0 0)) := A9_3.out.keep gg
        clear gg oo kk bb
        unfold cv
        refine hK.out _ _ ((TS4.out.i)) (fun _ => ?_)
        clear hK K
        (try go_frame)
        refine wpAnyH_ready (rs := [6]) (by kernel_rfl) (by simp) ?_
        refine AllReadyH.cons rfl (fun K hK => ?_) AllReadyH.nil
        obtain ⟨c0, c1, c2, c3, c4, c5, c6, c7, c8⟩ := A8_4.out.cells
        have cf := fun i => A8_4.out.free i
        simp only [Hd.none] at c0 c1 c2 c3 c4 c5 c6 c7 c8
        simp only [List.getElem_toArray, List.getElem_cons_zero, List.getElem_cons_succ]
        go_simp
        refine hK.out _ _ (TS4.out.i.keepR (row_st9 _ q8 _ _ _ _ _ _ _ _ _) (by have := L8.out; simp; omega)) (fun _ => ?_)
        clear hK K c0 c1 c2 c3 c4 c5 c6 c7 c8 cf
        (try go_frame)
        obtain ⟨W5, hW5⟩ : ∃ X, X = ((((((((((W4.setCell ⟨q8, 0, none⟩ (.string h.nm)).setCell ⟨q8, 1, none⟩ (.int .u8 h.su)).setCell ⟨q8, 2, none⟩ (.int .u8 h.kd)).setCell ⟨q8, 3, none⟩ (.int .i64 h.co)).setCell ⟨q8, 4, none⟩ (.int .i64 h.po)).setCell ⟨q8, 5, none⟩ (.int .i64 h.he)).setCell ⟨q8, 6, none⟩ (.int .u16 h.tr)).setCell ⟨q8, 7, none⟩ (.bool h.tk)).setCell ⟨q8, 8, none⟩ (.slice (x1.a.map fun g => ⟨g, 0, none⟩) x1.n x1.cap))) := ⟨_, rfl⟩
        have gg : W4.grownBy W5 (some q8) := by rw [hW5]; exact row_st9 _ _ _ _ _ _ _ _ _ _ _
        have A8_5 : Hid (CAt W5 q8 h (.slice (x1.a.map fun g => ⟨g, 0, none⟩) x1.n x1.cap)) := by unfold Hid; rw [hW5]; exact CAt.st9 A8_4.out
        have TS5 : Hid (TS w h (.slice va ps.length vc) ps g q3 W5) := TS4.out.keepC A8_4.out L8.out LW.out gg
        have U1_5 : Hid (T1 ps (g + 1) x1 W5) := U1_4.out.keepC A8_4.out gg
        have U2_5 : Hid (T1 ps (g + 1) x2 W5) := U2_4.out.keepC A8_4.out gg
        have A9_5 : Hid (CAt W5 q9 Hd.none (.slice none 0 0)) := A9_4.out.keepR gg (by have := LN.out; simp; omega)
        rw [← hW5]
        clear gg hW5
        refine wpAnyH_ready (rs := [7]) (by kernel_rfl) (by simp) ?_
        refine AllReadyH.cons rfl (fun K hK => ?_) AllReadyH.nil
        obtain ⟨c0, c1, c2, c3, c4, c5, c6, c7, c8⟩ := A9_5.out.cells
        have cf := fun i => A9_5.out.free i
        simp only [Hd.none] at c0 c1 c2 c3 c4 c5 c6 c7 c8
        simp only [List.getElem_toArray, List.getElem_cons_zero, List.getElem_cons_succ]
        go_simp
        refine hK.out _ _ (TS5.out.i.keepR (row_st9 _ q9 _ _ _ _ _ _ _ _ _) (by have := L9.out; simp; omega)) (fun _ => ?_)
        clear hK K c0 c1 c2 c3 c4 c5 c6 c7 c8 cf
        (try go_frame)
        obtain ⟨W6, hW6⟩ : ∃ X, X = ((((((((((W5.setCell ⟨q9, 0, none⟩ (.string h.nm)).setCell ⟨q9, 1, none⟩ (.int .u8 h.su)).setCell ⟨q9, 2, none⟩ (.int .u8 h.kd)).setCell ⟨q9, 3, none⟩ (.int .i64 h.co)).setCell ⟨q9, 4, none⟩ (.int .i64 h.po)).setCell ⟨q9, 5, none⟩ (.int .i64 h.he)).setCell ⟨q9, 6, none⟩ (.int .u16 h.tr)).setCell ⟨q9, 7, none⟩ (.bool h.tk)).setCell ⟨q9, 8, none⟩ (.slice (x2.a.map fun g => ⟨g, 0, none⟩) x2.n x2.cap))) := ⟨_, rfl⟩
        have gg : W5.grownBy W6 (some q9) := by rw [hW6]; exact row_st9 _ _ _ _ _ _ _ _ _ _ _
        have A9_6 : Hid (CAt W6 q9 h (.slice (x2.a.map fun g => ⟨g, 0, none⟩) x2.n x2.cap)) := by unfold Hid; rw [hW6]; exact CAt.st9 A9_5.out
        have TS6 : Hid (TS w h (.slice va ps.length vc) ps g q3 W6) := TS5.out.keepC A9_5.out L9.out LW.out gg
        have U1_6 : Hid (T1 ps (g + 1) x1 W6) := U1_5.out.keepC A9_5.out gg
        have U2_6 : Hid (T1 ps (g + 1) x2 W6) := U2_5.out.keepC A9_5.out gg
        have A8_6 : Hid (CAt W6 q8 h (.slice (x1.a.map fun g => ⟨g, 0, none⟩) x1.n x1.cap)) := A8_5.out.keepR gg (by have := LN.out; simp; omega)
        rw [← hW6]
        clear gg hW6
        refine wpAnyH_done (by kernel_rfl) ?_ _
        go_wp2_with fail
        go_meet
        case rel => exact ⟨q8, q9, x1, x2, rfl, rfl, TS6.out, ⟨A8_6.out, A9_6.out, U1_6.out, U2_6.out, fun b e1 e2 => by have a1 := (D12.out b e1); have a2 := (E12.out b e2); omega⟩⟩
  case rest =>
  obtain ⟨q8, q9, x1, x2, rfl, rfl, ts, t2⟩ := hcut
  have TS1 : Hid (TS w h (.slice va ps.length vc) ps g q3 wc) := ts
  have HT1 : Hid (T2 h ps g q3 q8 q9 x1 x2 wc) := t2
  clear ts t2 TSa
  obtain ⟨W1, hW1⟩ : ∃ X, X = wc := ⟨_, rfl⟩
  subst hW1
  obtain ⟨c0, c1, c2, c3, c4, c5, c6, c7, c8⟩ := TS1.out.i.cells
  go_wp2_with fail
  refine (means_any h _ ps _ (own_head TS1.out.f) HSM.out).mono ?_
  rintro e w2 ⟨rfl, g2⟩
  have TS2 : Hid (TS w h (.slice va ps.length vc) ps g q3 w2) := TS1.out.keep g2
  have HT2 : Hid (T2 h ps g q3 q8 q9 x1 x2 w2) := HT1.out.keep g2
  obtain ⟨mn, hmn⟩ : ∃ mn, mn = cmeans ps := ⟨_, rfl⟩
  have HMN : Hid (mn = cmeans ps) := hmn
  rw [← hmn]
  clear g2 TS1 HT1 c0 c1 c2 c3 c4 c5 c6 c7 c8 hmn
  obtain ⟨c0, c1, c2, c3, c4, c5, c6, c7, c8⟩ := TS2.out.c.cells
  go_wp2_with fail
  refine (r6print_any (h.with ps) (.slice va ps.length vc) _ (HP.out.keep TS2.out.gr) HSM.out HWF.out).mono ?_
  rintro e w3 ⟨rfl, g3⟩
  have TS3 : Hid (TS w h (.slice va ps.length vc) ps g q3 w3) := TS2.out.keep g3
  have HT3 : Hid (T2 h ps g q3 q8 q9 x1 x2 w3) := HT2.out.keep g3
  rw [← HTX.out, ← HER.out]
  clear g3 TS2 HT2 c0 c1 c2 c3 c4 c5 c6 c7 c8
  obtain ⟨c0, c1, c2, c3, c4, c5, c6, c7, c8⟩ := TS3.out.c.cells
  go_wp2_with fail
  refine (r6check_any h (.slice va ps.length vc) ps _ (HP.out.keep TS3.out.gr) HSM.out HWF.out).mono ?_
  rintro e w4 ⟨rfl, g4⟩
  have TS4 : Hid (TS w h (.slice va ps.length vc) ps g q3 w4) := TS3.out.keep g4
  have HT4 : Hid (T2 h ps g q3 q8 q9 x1 x2 w4) := HT3.out.keep g4
  rw [← HER.out]
  clear g4 TS3 HT3 c0 c1 c2 c3 c4 c5 c6 c7 c8
  obtain ⟨c0, c1, c2, c3, c4, c5, c6, c7, c8⟩ := TS4.out.c.cells
  go_wp2_with fail
  refine (rmeans_any h (.slice va ps.length vc) ps _ (HP.out.keep TS4.out.gr) HSM.out).mono ?_
  rintro e w5 ⟨rfl, g5⟩
  have TS5 : Hid (TS w h (.slice va ps.length vc) ps g q3 w5) := TS4.out.keep g5
  have HT5 : Hid (T2 h ps g q3 q8 q9 x1 x2 w5) := HT4.out.keep g5
  rw [← HMN.out]
  clear g5 TS4 HT4 c0 c1 c2 c3 c4 c5 c6 c7 c8
  obtain ⟨c0, c1, c2, c3, c4, c5, c6, c7, c8⟩ := TS5.out.c.cells
  go_wp2_with fail
  refine (kept_any (.slice (some ⟨g, 0, none⟩) (ps.length + 2) (ps.length + 2)) (.slice va ps.length vc) (ps ++ [mkP, mkP]) ps _ TS5.out.f.at (HP.out.keep TS5.out.gr) (by rw [List.length_append]; exact HFT.out.small2) HFT.out).mono ?_
  rintro e w6 ⟨rfl, g6⟩
  rw [samePs_refl]
  have TS6 : Hid (TS w h (.slice va ps.length vc) ps g q3 w6) := TS5.out.keep g6
  have HT6 : Hid (T2 h ps g q3 q8 q9 x1 x2 w6) := HT5.out.keep g6
  clear g6 TS5 HT5 c0 c1 c2 c3 c4 c5 c6 c7 c8
  go_wp2_with fail
  refine (over_any g (ps.length + 2) (ps.length + 2) _ (own_room TS6.out.f).1 (Nat.le_refl _) (own_room TS6.out.f).2.1).mono ?_
  rintro e w7 ⟨⟨ve, rfl⟩, r7, g7⟩
  have HG7 : Hid (w.grownBy w7 none) := grown_own TS6.out.gr g7 (fun x e => by cases e; exact Nat.le_of_lt LG.out)
  have HR7 : Hid (RoomAt w7 g (ps.length + 2)) := r7
  have HLM : Hid (lim (ps.length + 2)) := (own_room TS6.out.f).2.1
  have HT7 : Hid (T2 h ps g q3 q8 q9 x1 x2 w7) := HT6.out.keepG g7 (own_room TS6.out.f).1
  have HC7 : Hid (CAt w7 w.heap.size h (.slice va ps.length vc)) := TS6.out.c.keepR g7 (by have := LG.out; simp; omega)
  clear g7 r7 TS6 HT6
  obtain ⟨c0, c1, c2, c3, c4, c5, c6, c7, c8⟩ := HT7.out.c8.cells
  obtain ⟨d0, d1, d2, d3, d4, d5, d6, d7, d8⟩ := HC7.out.cells
  go_wp2_with fail
  refine (sameCard_any h h (.slice (x1.a.map fun g => ⟨g, 0, none⟩) x1.n x1.cap) (.slice va ps.length vc) ps ps _ HT7.out.t1.own.at (HP.out.keep HG7.out) HSM.out).mono ?_
  rintro e w8 ⟨rfl, g8⟩
  rw [sameHd_refl, samePs_refl]
  have HG8 : Hid (w.grownBy w8 none) := grown_trans HG7.out g8
  have HR8 : Hid (RoomAt w8 g (ps.length + 2)) := HR7.out.keep g8 (by simp)
  have HT8 : Hid (T2 h ps g q3 q8 q9 x1 x2 w8) := HT7.out.keep g8
  have HC8 : Hid (CAt w8 w.heap.size h (.slice va ps.length vc)) := HC7.out.keep g8
  clear g8 HG7 HR7 HT7 HC7 c0 c1 c2 c3 c4 c5 c6 c7 c8 d0 d1 d2 d3 d4 d5 d6 d7 d8
  obtain ⟨c0, c1, c2, c3, c4, c5, c6, c7, c8⟩ := HT8.out.c9.cells
  obtain ⟨d0, d1, d2, d3, d4, d5, d6, d7, d8⟩ := HC8.out.cells
  go_wp2_with fail
  refine (sameCard_any h h (.slice (x2.a.map fun g => ⟨g, 0, none⟩) x2.n x2.cap) (.slice va ps.length vc) ps ps _ HT8.out.t2.own.at (HP.out.keep HG8.out) HSM.out).mono ?_
  rintro e w9 ⟨rfl, g9⟩
  rw [sameHd_refl, samePs_refl]
  have HG9 : Hid (w.grownBy w9 none) := grown_trans HG8.out g9
  have HR9 : Hid (RoomAt w9 g (ps.length + 2)) := HR8.out.keep g9 (by simp)
  have HT9 : Hid (T2 h ps g q3 q8 q9 x1 x2 w9) := HT8.out.keep g9
  clear g9 HG8 HR8 HT8 HC8 c0 c1 c2 c3 c4 c5 c6 c7 c8 d0 d1 d2 d3 d4 d5 d6 d7 d8
  have c8 := HT9.out.c8.cells.2.2.2.2.2.2.2.2
  have d8 := HT9.out.c9.cells.2.2.2.2.2.2.2.2
  obtain ⟨xf, hxf⟩ : ∃ xf : Lst, xf = ⟨some g, ps.length + 2, ps.length + 2⟩ := ⟨_, rfl⟩
  have HXF : Hid (xf = ⟨some g, ps.length + 2, ps.length + 2⟩) := hxf
  clear hxf
  go_wp2_with fail
  have AP := apart_any w9.heap.size 3 [xf, x1, x2] (w9.alloc (.cells #[.slice (xf.a.map fun g => ⟨g, 0, none⟩) xf.n xf.cap, .slice (x1.a.map fun g => ⟨g, 0, none⟩) x1.n x1.cap, .slice (x2.a.map fun g => ⟨g, 0, none⟩) x2.n x2.cap] 38)) (by simp) (by simp) three_cells (fun x hx => by
    simp only [List.mem_cons, List.not_mem_nil, or_false] at hx
    rcases hx with rfl | rfl | rfl
    · rw [HXF.out]
      exact Or.inr ⟨g, rfl, Nat.le_refl _, HLM.out, HR9.out.keep (World.grownBy_alloc _ _ none) (by simp)⟩
    · exact HT9.out.t1.ok.keep2 (World.grownBy_alloc _ _ none) (by simp)
    · exact HT9.out.t2.ok.keep2 (World.grownBy_alloc _ _ none) (by simp)) (three_diff (fun b h1 h2 => by
      rw [HXF.out] at h1
      have := (HT9.out.t1.lo b h2).1
      injection h1 with h1
      omega) (fun b h1 h2 => by
      rw [HXF.out] at h1
      have := (HT9.out.t2.lo b h2).1
      injection h1 with h1
      omega) HT9.out.df)
  have HKN : Hid (∀ x, x ∈ blocks [xf, x1, x2] → w.heap.size ≤ x) := fun x hx => by
    obtain ⟨y, hy, e⟩ := List.mem_filterMap.1 hx
    simp only [List.mem_cons, List.not_mem_nil, or_false] at hy
    have hg := LG.out
    rcases hy with rfl | rfl | rfl
    · rw [HXF.out] at e
      injection e with e
      omega
    · have := (HT9.out.t1.lo x e).1
      omega
    · have := (HT9.out.t2.lo x e).1
      omega
  rw [HXF.out] at AP HKN
  refine AP.mono ?_
  rintro e w10 ⟨rfl, k10⟩
  have HG10 : Hid (w.grownBy w10 none) := Kpt.new (grown_push HG9.out _) k10 HKN.out
  clear k10 AP HKN
  go_wp2
  go_ret
  exact ⟨rfl, HG10.out⟩
end Go.Proofs.YtpceelbphpfciaaGreatDoor
