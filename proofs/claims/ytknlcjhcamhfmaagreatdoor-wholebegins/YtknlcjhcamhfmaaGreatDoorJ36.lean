/-
  The closure of fill; addAll of traits.
  The document's fill of any of the six.
-/
import Derived.Test.YtknlcjhcamhfmaaGreatDoorJ28
import Derived.Test.YtknlcjhcamhfmaaGreatDoorRwF
namespace Go.Proofs.YtknlcjhcamhfmaaGreatDoor
open Go.RowKit

theorem NamesAt.keepR {w w' : World} {r : Option Nat} (h : NamesAt w) (g : w.grownBy w' r) (hr : some 0 ≠ r) : NamesAt w' := ⟨g.cell h.1 hr, g.cell h.2.1 hr, g.cell h.2.2.1 hr, g.cell h.2.2.2.1 hr, g.cell h.2.2.2.2.1 hr, g.cell h.2.2.2.2.2.1 hr, g.cell h.2.2.2.2.2.2.1 hr, g.cell h.2.2.2.2.2.2.2 hr⟩
set_option maxRecDepth 100000 in
set_option maxHeartbeats 4000000 in
theorem fill1_any (ok : Nat → Prop) (b x : Nat) (es : List Ent) (p : Pl) (t : Int) (w : World) (B : Book ok w b es p) (hok : ¬ ok b) (N : NamesAt w) (hx : w.cell? ⟨x, 0, none⟩ = some (.pointer (some ⟨b, 0, none⟩))) (hxb : ¬ x = b) (ht : 1 ≤ t ∧ t ≤ 8) : Calls Tryz.prog 184 #[.int .u8 t, .pointer (some ⟨x, 0, none⟩)] w fun e w' => e = .returned (.int .i64 (trE p t (tName t))) ∧ Book ok w' b es (trP p t (tName t)) ∧ w.grownBy w' (some b) := by
  have C1 : Calls Tryz.prog 185 #[.int .u8 t] w.drew fun e w' => e = .returned (.string (tName t)) ∧ w' = w.drew := tname_any t ht w.drew (N.keep (grown_drew _))
  have C2 : Calls Tryz.prog 26 #[.pointer (some ⟨b, 0, none⟩), .int .u8 t, .string (tName t)] w.drew fun e w' => e = .returned (.int .i64 (trE p t (tName t))) ∧ Book ok w' b es (trP p t (tName t)) ∧ w.drew.grownBy w' (some b) := btrait ok b es p t (tName t) w.drew (B.keep (grown_drew _)) hok
  obtain ⟨s, hs⟩ : ∃ s, s = tName t := ⟨_, rfl⟩
  rw [← hs] at C1 C2
  rw [← hs]
  obtain ⟨r, hr⟩ : ∃ r, r = trE p t s := ⟨_, rfl⟩
  rw [← hr] at C2
  rw [← hr]
  have H0 : w.grownBy w.drew (some b) := grown_drew' _ _
  clear B N ht hok hs hr
  go_enter Tryz.func184, Tryz.ntmps184
  go_upto_region 1 with fail
  refine wp_region_held_drew (S := fun w' => w.grownBy w' (some b)) (by kernel_rfl) H0 (fun hHeld => ?_)
  refine wpAnyH_take (i := 0) (v := ?_) rfl (by kernel_rfl) (by kernel_rfl) (by kernel_rfl) (fun _ _ _ h => h) (Or.inl ⟨by rfl, ?_⟩) (by assumption) ?_
  rotate_left 1
  · (intro w0 hSw; have a9 := World.grownBy.cell hSw hx (by simpa using hxb); go_simp; try with_reducible rfl)
  simp only [List.getElem_toArray, List.getElem_cons_zero]
  go_frame
  refine wpAnyH_take (i := 1) (v := ?_) rfl (by kernel_rfl) (by kernel_rfl) (by kernel_rfl) (fun _ _ _ h => h) (Or.inl ⟨by rfl, ?_⟩) (by assumption) ?_
  rotate_left 1
  · (intro w0 hSw; go_simp; try with_reducible rfl)
  simp only [List.getElem_toArray, List.getElem_cons_zero, List.getElem_cons_succ]
  go_frame
  refine wpAnyH_take (i := 2) (v := ?_) rfl (by kernel_rfl) (by kernel_rfl) (by kernel_rfl) (fun _ _ _ h => h) (Or.inl ⟨by rfl, ?_⟩) (by assumption) ?_
  rotate_left 1
  · (intro w0 hSw; go_simp; try with_reducible rfl)
  simp only [List.getElem_toArray, List.getElem_cons_zero, List.getElem_cons_succ]
  go_frame
  refine wpAnyH_ready (rs := [3]) (by kernel_rfl) (by simp) ?_
  refine AllReadyH.cons rfl (fun K hK => ?_) AllReadyH.nil
  simp only [List.getElem_toArray, List.getElem_cons_zero, List.getElem_cons_succ]
  go_simp
  go_at_call 185
  refine (C1).mono ?_
  rintro e U3 ⟨rfl, h3⟩
  subst h3
  refine hK.out _ _ (hHeld) (fun hHeld2 => ?_)
  clear hK K
  (try go_frame)
  refine wpAnyH_ready (rs := [4]) (by kernel_rfl) (by simp) ?_
  refine AllReadyH.cons rfl (fun K hK => ?_) AllReadyH.nil
  simp only [List.getElem_toArray, List.getElem_cons_zero, List.getElem_cons_succ]
  go_simp
  go_at_call 26
  refine (C2).mono ?_
  rintro e U4 ⟨rfl, B4, g4⟩
  refine hK.out _ _ (grown_own' (grown_drew _) g4) (fun hHeld2 => ?_)
  clear hK K
  (try go_frame)
  refine wpAnyH_take (i := 5) (v := ?_) rfl (by kernel_rfl) (by kernel_rfl) (by kernel_rfl) (fun _ _ _ h => h) (Or.inl ⟨by rfl, ?_⟩) (by assumption) ?_
  rotate_left 1
  · (intro w0 hSw; go_simp; try with_reducible rfl)
  simp only [List.getElem_toArray, List.getElem_cons_zero, List.getElem_cons_succ]
  go_frame
  refine wpAnyH_done (by kernel_rfl) ?_ _
  have HF : Hid (Book ok U4 b es (trP p t s) ∧ w.grownBy U4 (some b)) := ⟨B4, grown_own' (grown_drew _) g4⟩
  clear B4 g4 hHeld hHeld2 H0 C1 C2
  go_wp2
  go_ret
  exact ⟨rfl, HF.out.1, HF.out.2⟩
theorem ts_at {w : World} {g : Nat} {ts : List Int} (h : w.heap[g]? = some (.cells (ts.map (Value.int .u8)).toArray 57 (0, 0))) {j : Nat} {t : Int} (ht : ts[j]? = some t) : w.cell? ⟨g, j, none⟩ = some (.int .u8 t) := by
  rw [block_cell h, List.getElem?_toArray, List.getElem?_map, ht]
  rfl
set_option maxRecDepth 100000 in
set_option maxHeartbeats 4000000 in
theorem addT_any (ok : Nat → Prop) (b x : Nat) (es : List Ent) (p : Pl) (ts : List Int) (v : Value) (w : World) (B : Book ok w b es p) (hok : ¬ ok b) (N : NamesAt w) (h0 : ¬ b = 0) (hx : w.cell? ⟨x, 0, none⟩ = some (.pointer (some ⟨b, 0, none⟩))) (hxb : ¬ x = b) (hT : TsAt w b v ts) (hk : okTs p ts) (h4 : ts.length ≤ 4) : Calls Tryz.prog 186 #[v, .func (.func 184) #[] #[.pointer (some ⟨x, 0, none⟩)]] w fun e w' => e = .returned (.int .i64 0) ∧ Book ok w' b es (pTs p ts) ∧ w.grownBy w' (some b) := by
  obtain ⟨a, rfl, HM0⟩ := hT
  have HM : Hid (0 < ts.length → ∃ g, a = some ⟨g, 0, none⟩ ∧ ¬ g = b ∧ w.heap[g]? = some (.cells (ts.map (Value.int .u8)).toArray 57 (0, 0))) := HM0
  have HK : Hid (okTs p ts) := hk
  have HB : Hid (Book ok w b es p) := B
  have HN : Hid (NamesAt w) := N
  have HX : Hid (w.cell? ⟨x, 0, none⟩ = some (.pointer (some ⟨b, 0, none⟩))) := hx
  have hsm : Small ts.length := by unfold Small; omega
  clear HM0 hk B h4 N hx
  go_enter Tryz.func186, Tryz.ntmps186
  go_wp2_with fail
  go_loopw [10] (fun x wr => ∃ j : Nat, j ≤ ts.length ∧ x = .int .i64 (j : Int) ∧ Book ok wr b es (pTs p (ts.take j)) ∧ w.grownBy wr (some b)) (fun x _ => ts.length - (intOf x).toNat)
  case atStart => exact ⟨0, Nat.zero_le _, rfl, HB.out, grown_refl _ _⟩
  case round =>
    clear HB
    obtain ⟨j, hj, rfl, B, Gr⟩ := hrel
    obtain ⟨U, hU⟩ : ∃ U, U = wr := ⟨_, rfl⟩
    subst hU
    have HB : Hid (Book ok U b es (pTs p (ts.take j))) := B
    have HG : Hid (w.grownBy U (some b)) := Gr
    clear B Gr
    rcases (show j < ts.length ∨ j = ts.length from by omega) with h1 | h1
    · have h1' : (j : Int) < (ts.length : Int) := by omega
      have j0 : (0 : Int) ≤ (j : Int) := by omega
      obtain ⟨g, rfl, hgb, Hg⟩ := HM.out (by omega)
      obtain ⟨t, ht⟩ : ∃ m, ts[j]? = some m := ⟨_, List.getElem?_eq_getElem h1⟩
      have c0 := ts_at (grown_keep HG.out Hg (fun e => hgb (by injection e))) ht
      obtain ⟨HR, HZ⟩ := okTs_at HK.out ht
      have HNx : Hid (pTs p (ts.take (j + 1)) = trP (pTs p (ts.take j)) t (tName t)) := pTs_snoc p ts ht
      have CM := fill1_any ok b x es (pTs p (ts.take j)) t U HB.out hok (HN.out.keepR HG.out (by simpa using fun e => h0 e.symm)) (HG.out.cell HX.out (by simpa using hxb)) hxb HR
      rw [HZ] at CM
      clear ht Hg HZ HR
      go_wp2_with fail
      refine CM.mono ?_
      rintro e U2 ⟨rfl, B2, g2⟩
      have HB2 : Hid (Book ok U2 b es (pTs p (ts.take (j + 1)))) := by rw [HNx.out]; exact B2
      have HG2 : Hid (w.grownBy U2 (some b)) := HG.out.trans g2
      clear B2 g2 CM c0
      go_wp2_with fail
      go_roundw
      case rel => exact ⟨j + 1, h1, by first | rfl | (rw [hsm.wrap h1]; rfl), HB2.out, HG2.out⟩
      case measure => first | exact meas_next h1 | (rw [hsm.wrap h1]; exact meas_next h1)
    · have h1' : ¬ (j : Int) < (ts.length : Int) := by omega
      have HF : Hid (Book ok U b es (pTs p ts)) := by have h9 := HB.out; rw [h1, List.take_of_length_le (Nat.le_refl _)] at h9; exact h9
      clear h1 HB
      go_wp2
      go_ret
      exact ⟨rfl, HF.out, HG.out⟩
end Go.Proofs.YtknlcjhcamhfmaaGreatDoor
namespace Go.Proofs.YtknlcjhcamhfmaaGreatDoor
open Go.RowKit

/-- The document's book. -/
structure RB (w : World) (r : Nat) (v : Value) (fs : List Ent) (p : Pl) : Prop where
  rj : RJ w r v p
  rl : RL w v fs
  own : ∀ k, v.ownBlock = some k → r < k ∧ k < w.heap.size
  good : Good (fun k => r < k) w fs
  srt : Srt fs
  len : fs.length ≤ 64
  mkd : MkD p
  zero : p.nms[0]? = some ⟨#[]⟩
theorem RB.keepR {w w' : World} {r : Nat} {v : Value} {fs : List Ent} {p : Pl} {x : Option Nat} (h : RB w r v fs p) (g : w.grownBy w' x) (hr : ∀ k, r ≤ k → some k ≠ x) : RB w' r v fs p := ⟨h.rj.keepR g (hr r (Nat.le_refl _)), h.rl.keepR g (fun k hk => hr k (Nat.le_of_lt (h.own k hk).1)), fun k hk => ⟨(h.own k hk).1, Nat.lt_of_lt_of_le (h.own k hk).2 g.size⟩, h.good.keepR g (fun k hk => hr k (Nat.le_of_lt hk)), h.srt, h.len, h.mkd, h.zero⟩
theorem RB.keep {w w' : World} {r : Nat} {v : Value} {fs : List Ent} {p : Pl} (h : RB w r v fs p) (g : w.grownBy w' none) : RB w' r v fs p := h.keepR g (by simp)
theorem trP_zero {p : Pl} {t : Int} {s : ByteArray} (hz : p.nms[0]? = some ⟨#[]⟩) : (trP p t s).nms[0]? = some ⟨#[]⟩ := by
  unfold trP
  split
  · rename_i h0
    have h1 := (trE_zero h0).2.1
    show (p.nms.set t.toNat s)[0]? = _
    rw [List.getElem?_set, if_neg (by omega)]
    exact hz
  · exact hz
theorem maP_zero {p : Pl} {m : Mk} (hz : p.nms[0]? = some ⟨#[]⟩) : (maP p m).nms[0]? = some ⟨#[]⟩ := by
  unfold maP
  split <;> exact hz
theorem trP_mkd {p : Pl} {t : Int} {s : ByteArray} (h : MkD p) : MkD (trP p t s) := by
  unfold trP
  split <;> exact h
theorem RB.mark {w w' : World} {r : Nat} {v : Value} {fs : List Ent} {p : Pl} (h : RB w r v fs p) (m : Mk) (R : RJ w' r v (maP p m)) (g : w.grownBy w' (some r)) : RB w' r v fs (maP p m) := ⟨R, h.rl.keepR g (fun k hk e => by have := (h.own k hk).1; injection e with e; omega), fun k hk => ⟨(h.own k hk).1, Nat.lt_of_lt_of_le (h.own k hk).2 g.size⟩, h.good.keepR g (fun k hk e => by injection e with e; omega), h.srt, h.len, maP_mkd h.mkd m, maP_zero h.zero⟩
theorem RB.trait {w w' : World} {r : Nat} {v : Value} {fs : List Ent} {p : Pl} (h : RB w r v fs p) (t : Int) (s : ByteArray) (R : RJ w' r v (trP p t s)) (g : w.grownBy w' (some r)) : RB w' r v fs (trP p t s) := ⟨R, h.rl.keepR g (fun k hk e => by have := (h.own k hk).1; injection e with e; omega), fun k hk => ⟨(h.own k hk).1, Nat.lt_of_lt_of_le (h.own k hk).2 g.size⟩, h.good.keepR g (fun k hk e => by injection e with e; omega), h.srt, h.len, trP_mkd h.mkd, trP_zero h.zero⟩
theorem rcard_taken {w w' : World} {r : Nat} {v : Value} {fs : List Ent} {p : Pl} (h : RB w r v fs p) {hd : Hd} {ps : List Pt} {e : Ending} (h64 : fs.length < 64) (h0 : caE p fs (hd.with ps) = 0) (k : RcPost (fun k => r < k) r v p fs hd ps w 0 e w') : e = .returned (.int .i64 0) ∧ ∃ u v', RB w' r v' (ins fs ⟨hd, u, ps⟩) p ∧ w.grownBy w' (some r) := by
  obtain ⟨u, v', e1, R, L, ow, G, g⟩ := k
  rw [if_pos rfl] at L G
  have hrw : r < w.heap.size := block_lt h.rj.lies
  refine ⟨e1, u, v', ⟨R, L, ?_, ?_, ?_, ?_, h.mkd, h.zero⟩, g⟩
  · rcases ow with rfl | ow
    · exact fun k hk => ⟨(h.own k hk).1, Nat.lt_of_lt_of_le (h.own k hk).2 g.size⟩
    · exact fun k hk => ⟨by have := (ow k hk).1; omega, (ow k hk).2⟩
  · exact G.mono fun i hi => by rcases hi with hi | hi <;> omega
  · refine ins_srt fs _ h.srt fun x hx e => ?_
    exact (caE_zero h0).2.2 (by show hd.nm ∈ names fs; exact List.mem_map.2 ⟨x, hx, e⟩)
  · rw [ins_len]; omega
set_option maxRecDepth 100000 in
set_option maxHeartbeats 8000000 in
theorem rfill_any (k : Nat) (hk : k < 6) (base r : Nat) (c t m v : Value) (fs : List Ent) (p q : Pl) (d : List (Hd × List Pt)) (w : World) (B : RB w r v fs p) (hrb : r < base) (F : Fd base w k c t m) (hS : stepOk k p q) (hq : q.shut = false) (hE : (fs.map hp).Perm d) (hN : ((d ++ sCs k).map fun x => x.1.nm).Nodup) (h64 : d.length + 6 ≤ 64) (no : Value) (s : ByteArray) (hno : ∃ z, no = .int .i64 z) : Calls Tryz.prog 64 #[.pointer (some ⟨r, 0, none⟩), .agg #[.string s, c, t, m, no]] w fun e w' => e = .returned (.int .i64 0) ∧ ∃ v' fs', RB w' r v' fs' q ∧ (fs'.map hp).Perm (d ++ sCs k) ∧ w.grownBy w' (some r) := by
  obtain ⟨z, rfl⟩ := hno
  obtain ⟨gc, cs, rfl, HIs, HLc, HOw, hgc⟩ := F.cs
  obtain ⟨ta, rfl, HT0⟩ := F.ts
  obtain ⟨ma, rfl, HM0⟩ := F.ms
  have HM : Hid (0 < (sMs k).length → ∃ g, ma = some ⟨g, 0, none⟩ ∧ base ≤ g ∧ w.heap[g]? = some (.cells (mcells (sMs k)).toArray 60 (0, 0))) := HM0
  have HT : Hid (0 < (sTs k).length → ∃ g, ta = some ⟨g, 0, none⟩ ∧ base ≤ g ∧ w.heap[g]? = some (.cells ((sTs k).map (Value.int .u8)).toArray 57 (0, 0))) := HT0
  have HI : Hid (cs.map hp = sCs k) := HIs
  have HL : Hid (w.heap[gc]? = some (.cells (ecells cs).toArray 56 (0, 0))) := HLc
  have HO : Hid (∀ e ∈ cs, Own8 base w e.v e.ps) := HOw
  have HB : Hid (RB w r v fs p) := B
  have HS : Hid (stepOk k p q) := hS
  have HQ : Hid (q.shut = false) := hq
  have HE : Hid ((fs.map hp).Perm d) := hE
  have HNo : Hid (((d ++ sCs k).map fun x => x.1.nm).Nodup) := hN
  have H64 : Hid (d.length + 6 ≤ 64) := h64
  have HLen : Hid ((sCs k).length = 6) := sCs_len hk
  have HIn : Hid (∀ x ∈ sCs k, x ∈ cAll) := fun x hx => sCs_mem hk hx
  have hml : (sMs k).length ≤ 4 := by rcases (show k = 0 ∨ k = 1 ∨ k = 2 ∨ k = 3 ∨ k = 4 ∨ k = 5 by omega) with rfl | rfl | rfl | rfl | rfl | rfl <;> decide
  have htl : (sTs k).length ≤ 4 := by rcases (show k = 0 ∨ k = 1 ∨ k = 2 ∨ k = 3 ∨ k = 4 ∨ k = 5 by omega) with rfl | rfl | rfl | rfl | rfl | rfl <;> decide
  have hsM : Small (sMs k).length := by unfold Small; omega
  have hsT : Small (sTs k).length := by unfold Small; omega
  have sm6 : Small 6 := by unfold Small; decide
  have hrw : r < w.heap.size := block_lt B.rj.lies
  obtain ⟨X, hX⟩ : ∃ X, X = w.heap.size := ⟨_, rfl⟩
  obtain ⟨W1, hW1⟩ : ∃ W1, W1 = w.alloc (.cells #[.string s, .slice (some ⟨gc, 0, none⟩) 6 6, .slice ta (sTs k).length (sTs k).length, .slice ma (sMs k).length (sMs k).length, .int .i64 z] 122) := ⟨_, rfl⟩
  have Z : W1.heap[X]? = some (.cells #[.string s, .slice (some ⟨gc, 0, none⟩) 6 6, .slice ta (sTs k).length (sTs k).length, .slice ma (sMs k).length (sMs k).length, .int .i64 z] 122 (0, 0)) := by rw [hW1, hX]; exact alloc_at _ _ _
  have HX1 : Hid (W1.cell? ⟨X, 1, none⟩ = some (.slice (some ⟨gc, 0, none⟩) 6 6)) := block_cell Z 1
  have HX2 : Hid (W1.cell? ⟨X, 2, none⟩ = some (.slice ta (sTs k).length (sTs k).length)) := block_cell Z 2
  have HX3 : Hid (W1.cell? ⟨X, 3, none⟩ = some (.slice ma (sMs k).length (sMs k).length)) := block_cell Z 3
  have HG1 : Hid (w.grownBy W1 none) := by rw [hW1]; exact World.grownBy_alloc _ _ none
  have hXr : ¬ X = r := by omega
  have HXs : Hid (X = w.heap.size) := hX
  have HW1 : Hid (W1 = w.alloc (.cells #[.string s, .slice (some ⟨gc, 0, none⟩) 6 6, .slice ta (sTs k).length (sTs k).length, .slice ma (sMs k).length (sMs k).length, .int .i64 z] 122)) := hW1
  have HB1 : Hid (RB W1 r v fs (pMs p ((sMs k).take 0))) := by show RB W1 r v fs (pMs p ((sMs k).take 0)); rw [List.take_zero]; exact HB.out.keep HG1.out
  clear HM0 HT0 HIs HLc HOw B hS hq hE hN h64 F Z hX hW1 HB
  go_enter Tryz.func64, Tryz.ntmps64
  go_upto_block 0 with fail
  rw [← HXs.out, ← HW1.out]
  clear HW1
  go_wp2_with fail
  go_loopw [5] (fun x wr => ∃ j : Nat, j ≤ (sMs k).length ∧ x = .int .i64 (j : Int) ∧ RB wr r v fs (pMs p ((sMs k).take j)) ∧ W1.grownBy wr (some r)) (fun x _ => (sMs k).length - (intOf x).toNat)
  case atStart =>
    refine ⟨0, Nat.zero_le _, rfl, ?_, ?_⟩
    · exact HB1.out
    · exact grown_refl _ _
  case round =>
    clear HB1
    obtain ⟨j, hj, rfl, B, Gr⟩ := hrel
    obtain ⟨U, hU⟩ : ∃ U, U = wr := ⟨_, rfl⟩
    subst hU
    have HB : Hid (RB U r v fs (pMs p ((sMs k).take j))) := B
    have HG : Hid (W1.grownBy U (some r)) := Gr
    clear B Gr
    have x3 := HG.out.cell HX3.out (by simpa using hXr)
    rcases (show j < (sMs k).length ∨ j = (sMs k).length from by omega) with h1 | h1
    · have h1' : (j : Int) < ((sMs k).length : Int) := by omega
      have j0 : (0 : Int) ≤ (j : Int) := by omega
      obtain ⟨g, rfl, hgb, Hg⟩ := HM.out (by omega)
      obtain ⟨mm, hm⟩ : ∃ m, (sMs k)[j]? = some m := ⟨_, List.getElem?_eq_getElem h1⟩
      have HC := m4_of (grown_keep HG.out (grown_keep HG1.out Hg (by simp)) (fun e => by injection e with e; omega)) hm
      have HZ := okMs_at HS.out.1 hm
      have hmi := (maE_zero HZ).2
      have HNx : Hid (pMs p ((sMs k).take (j + 1)) = maP (pMs p ((sMs k).take j)) mm) := pMs_snoc p _ hm
      have CM := rmark_any r v (pMs p ((sMs k).take j)) mm U HB.out.rj ⟨by omega, by omega⟩ HB.out.mkd
      rw [HZ] at CM
      clear hm Hg hmi HZ
      obtain ⟨mi, nm, po, he⟩ := mm
      obtain ⟨c0, c1, c2, c3⟩ := HC
      simp only at c0 c1 c2 c3
      unfold mv at CM
      simp only at CM
      go_wp2_with fail
      refine CM.mono ?_
      rintro e U2 ⟨rfl, R2, g2⟩
      have HB2 : Hid (RB U2 r v fs (pMs p ((sMs k).take (j + 1)))) := by show RB U2 r v fs _; rw [HNx.out]; exact HB.out.mark _ R2 g2
      have HG2 : Hid (W1.grownBy U2 (some r)) := HG.out.trans g2
      clear R2 g2 CM c0 c1 c2 c3 x3
      go_wp2_with fail
      go_roundw
      case rel => exact ⟨j + 1, h1, by first | rfl | (rw [hsM.wrap h1]; rfl), HB2.out, HG2.out⟩
      case measure => first | exact meas_next h1 | (rw [hsM.wrap h1]; exact meas_next h1)
    have h1' : ¬ (j : Int) < ((sMs k).length : Int) := by omega
    have HBb : Hid (RB U r v fs (pTs (pMs p (sMs k)) ((sTs k).take 0))) := by have h9 := HB.out; rw [h1, List.take_of_length_le (Nat.le_refl _)] at h9; exact h9
    clear h1 HB
    go_wp2_with fail
    go_loopw [7] (fun x wr => ∃ j : Nat, j ≤ (sTs k).length ∧ x = .int .i64 (j : Int) ∧ RB wr r v fs (pTs (pMs p (sMs k)) ((sTs k).take j)) ∧ W1.grownBy wr (some r)) (fun x _ => (sTs k).length - (intOf x).toNat)
    case atStart =>
      refine ⟨0, Nat.zero_le _, rfl, ?_, ?_⟩
      · exact HBb.out
      · exact HG.out
    case round =>
      clear HBb HG x3
      obtain ⟨j, hj, rfl, B, Gr⟩ := hrel
      obtain ⟨U, hU⟩ : ∃ U, U = wr := ⟨_, rfl⟩
      subst hU
      have HB : Hid (RB U r v fs (pTs (pMs p (sMs k)) ((sTs k).take j))) := B
      have HG : Hid (W1.grownBy U (some r)) := Gr
      clear B Gr
      have x2 := HG.out.cell HX2.out (by simpa using hXr)
      rcases (show j < (sTs k).length ∨ j = (sTs k).length from by omega) with h1 | h1
      · have h1' : (j : Int) < ((sTs k).length : Int) := by omega
        have j0 : (0 : Int) ≤ (j : Int) := by omega
        obtain ⟨g, rfl, hgb, Hg⟩ := HT.out (by omega)
        obtain ⟨tt, ht⟩ : ∃ m, (sTs k)[j]? = some m := ⟨_, List.getElem?_eq_getElem h1⟩
        have c0 := ts_at (grown_keep HG.out (grown_keep HG1.out Hg (by simp)) (fun e => by injection e with e; omega)) ht
        obtain ⟨HR, HZ⟩ := okTs_at HS.out.2.1 ht
        have HNx : Hid (pTs (pMs p (sMs k)) ((sTs k).take (j + 1)) = trP (pTs (pMs p (sMs k)) ((sTs k).take j)) tt (tName tt)) := pTs_snoc _ _ ht
        have hgr : ¬ g = r := by omega
        have C1 := r4name_any tt HR U.drew
        have C2 := fun W (gr : U.grownBy W none) => rtrait_any r v (pTs (pMs p (sMs k)) ((sTs k).take j)) tt.toNat (tName tt) W (HB.out.keep gr).rj (by omega) HB.out.zero
        rw [show ((tt.toNat : Nat) : Int) = tt from by omega, HZ] at C2
        have H0 : U.grownBy U.drew (some r) := grown_drew' _ _
        obtain ⟨ss, hss⟩ : ∃ s, s = tName tt := ⟨_, rfl⟩
        rw [← hss] at C1 C2 HNx
        clear ht Hg HZ hss
        have HC2 : Hid (∀ W, U.grownBy W none → Calls Tryz.prog 139 #[.pointer (some ⟨r, 0, none⟩), .int .u8 tt, .string ss] W fun e w' => e = .returned (.int .i64 0) ∧ RJ w' r v (trP (pTs (pMs p (sMs k)) ((sTs k).take j)) tt ss) ∧ W.grownBy w' (some r)) := C2
        clear C2 HR
        go_upto_region 10 with fail
        refine wp_region_held_drew (S := fun w' => U.grownBy w' (some r)) (by kernel_rfl) H0 (fun hHeld => ?_)
        refine wpAnyH_take (i := 0) (v := ?_) rfl (by kernel_rfl) (by kernel_rfl) (by kernel_rfl) (fun _ _ _ h => h) (Or.inl ⟨by rfl, ?_⟩) (by assumption) ?_
        rotate_left 1
        · (intro w0 hSw; go_simp; try with_reducible rfl)
        simp only [List.getElem_toArray, List.getElem_cons_zero]
        go_frame
        refine wpAnyH_take (i := 1) (v := ?_) rfl (by kernel_rfl) (by kernel_rfl) (by kernel_rfl) (fun _ _ _ h => h) (Or.inl ⟨by rfl, ?_⟩) (by assumption) ?_
        rotate_left 1
        · (intro w0 hSw; go_simp; try with_reducible rfl)
        simp only [List.getElem_toArray, List.getElem_cons_zero, List.getElem_cons_succ]
        go_frame
        refine wpAnyH_take (i := 2) (v := ?_) rfl (by kernel_rfl) (by kernel_rfl) (by kernel_rfl) (fun _ _ _ h => h) (Or.inl ⟨by rfl, ?_⟩) (by assumption) ?_
        rotate_left 1
        · (intro w0 hSw; have a9 := World.grownBy.cell hSw x2 (by simpa using hXr); go_simp; try with_reducible rfl)
        simp only [List.getElem_toArray, List.getElem_cons_zero, List.getElem_cons_succ]
        go_frame
        refine wpAnyH_take (i := 3) (v := ?_) rfl (by kernel_rfl) (by kernel_rfl) (by kernel_rfl) (fun _ _ _ h => h) (Or.inl ⟨by rfl, ?_⟩) (by assumption) ?_
        rotate_left 1
        · (intro w0 hSw; go_simp; try with_reducible rfl)
        simp only [List.getElem_toArray, List.getElem_cons_zero, List.getElem_cons_succ]
        go_frame
        refine wpAnyH_take (i := 4) (v := ?_) rfl (by kernel_rfl) (by kernel_rfl) (by kernel_rfl) (fun _ _ _ h => h) (Or.inl ⟨by rfl, ?_⟩) (by assumption) ?_
        rotate_left 1
        · (intro w0 hSw; go_simp; try with_reducible rfl)
        simp only [List.getElem_toArray, List.getElem_cons_zero, List.getElem_cons_succ]
        go_frame
        refine wpAnyH_take (i := 5) (v := ?_) rfl (by kernel_rfl) (by kernel_rfl) (by kernel_rfl) (fun _ _ _ h => h) (Or.inl ⟨by rfl, ?_⟩) (by assumption) ?_
        rotate_left 1
        · (intro w0 hSw; have a9 := World.grownBy.cell hSw c0 (by simpa using hgr); go_simp; try with_reducible rfl)
        simp only [List.getElem_toArray, List.getElem_cons_zero, List.getElem_cons_succ]
        go_frame
        refine wpAnyH_take (i := 6) (v := ?_) rfl (by kernel_rfl) (by kernel_rfl) (by kernel_rfl) (fun _ _ _ h => h) (Or.inl ⟨by rfl, ?_⟩) (by assumption) ?_
        rotate_left 1
        · (intro w0 hSw; go_simp; try with_reducible rfl)
        simp only [List.getElem_toArray, List.getElem_cons_zero, List.getElem_cons_succ]
        go_frame
        refine wpAnyH_take (i := 7) (v := ?_) rfl (by kernel_rfl) (by kernel_rfl) (by kernel_rfl) (fun _ _ _ h => h) (Or.inl ⟨by rfl, ?_⟩) (by assumption) ?_
        rotate_left 1
        · (intro w0 hSw; have a9 := World.grownBy.cell hSw x2 (by simpa using hXr); go_simp; try with_reducible rfl)
        simp only [List.getElem_toArray, List.getElem_cons_zero, List.getElem_cons_succ]
        go_frame
        refine wpAnyH_take (i := 8) (v := ?_) rfl (by kernel_rfl) (by kernel_rfl) (by kernel_rfl) (fun _ _ _ h => h) (Or.inl ⟨by rfl, ?_⟩) (by assumption) ?_
        rotate_left 1
        · (intro w0 hSw; go_simp; try with_reducible rfl)
        simp only [List.getElem_toArray, List.getElem_cons_zero, List.getElem_cons_succ]
        go_frame
        refine wpAnyH_take (i := 9) (v := ?_) rfl (by kernel_rfl) (by kernel_rfl) (by kernel_rfl) (fun _ _ _ h => h) (Or.inl ⟨by rfl, ?_⟩) (by assumption) ?_
        rotate_left 1
        · (intro w0 hSw; go_simp; try with_reducible rfl)
        simp only [List.getElem_toArray, List.getElem_cons_zero, List.getElem_cons_succ]
        go_frame
        refine wpAnyH_take (i := 10) (v := ?_) rfl (by kernel_rfl) (by kernel_rfl) (by kernel_rfl) (fun _ _ _ h => h) (Or.inl ⟨by rfl, ?_⟩) (by assumption) ?_
        rotate_left 1
        · (intro w0 hSw; have a9 := World.grownBy.cell hSw c0 (by simpa using hgr); go_simp; try with_reducible rfl)
        simp only [List.getElem_toArray, List.getElem_cons_zero, List.getElem_cons_succ]
        go_frame
        refine wpAnyH_ready (rs := [11]) (by kernel_rfl) (by simp) ?_
        refine AllReadyH.cons rfl (fun K hK => ?_) AllReadyH.nil
        simp only [List.getElem_toArray, List.getElem_cons_zero, List.getElem_cons_succ]
        go_simp
        go_at_call 140
        refine (C1).mono ?_
        rintro e U3 ⟨rfl, g3⟩
        refine hK.out _ _ (grown_own' (grown_trans (grown_drew _) g3) (grown_refl _ _)) (fun hHeld2 => ?_)
        clear hK K
        (try go_frame)
        refine wpAnyH_ready (rs := [12]) (by kernel_rfl) (by simp) ?_
        refine AllReadyH.cons rfl (fun K hK => ?_) AllReadyH.nil
        simp only [List.getElem_toArray, List.getElem_cons_zero, List.getElem_cons_succ]
        go_simp
        go_at_call 139
        refine (HC2.out U3 (grown_trans (grown_drew _) g3)).mono ?_
        rintro e U4 ⟨rfl, R4, g4⟩
        refine hK.out _ _ (grown_own' (grown_trans (grown_drew _) g3) g4) (fun hHeld2 => ?_)
        clear hK K
        (try go_frame)
        refine wpAnyH_take (i := 13) (v := ?_) rfl (by kernel_rfl) (by kernel_rfl) (by kernel_rfl) (fun _ _ _ h => h) (Or.inl ⟨by rfl, ?_⟩) (by assumption) ?_
        rotate_left 1
        · (intro w0 hSw; go_simp; try with_reducible rfl)
        simp only [List.getElem_toArray, List.getElem_cons_zero, List.getElem_cons_succ]
        go_frame
        refine wpAnyH_done (by kernel_rfl) ?_ _
        have HB4 : Hid (RB U4 r v fs (pTs (pMs p (sMs k)) ((sTs k).take (j + 1)))) := by show RB U4 r v fs _; rw [HNx.out]; exact (HB.out.keep (grown_trans (grown_drew _) g3)).trait _ _ R4 g4
        have HG4 : Hid (W1.grownBy U4 (some r)) := HG.out.trans (grown_own' (grown_trans (grown_drew _) g3) g4)
        clear R4 g4 g3 hHeld hHeld2 H0 C1 HC2 c0 x2
        go_wp2_with fail
        go_roundw
        case rel => exact ⟨j + 1, h1, by first | rfl | (rw [hsT.wrap h1]; rfl), HB4.out, HG4.out⟩
        case measure => first | exact meas_next h1 | (rw [hsT.wrap h1]; exact meas_next h1)
      have h1' : ¬ (j : Int) < ((sTs k).length : Int) := by omega
      have HBc : Hid (RB U r v fs q) := by have h9 := HB.out; rw [h1, List.take_of_length_le (Nat.le_refl _), HS.out.2.2] at h9; exact h9
      clear h1 HB
      go_wp2_with fail
      go_loopw [9] (fun x wr => ∃ (j : Nat) (v' : Value) (fs' : List Ent), j ≤ 6 ∧ x = .int .i64 (j : Int) ∧ RB wr r v' fs' q ∧ (fs'.map hp).Perm (d ++ (sCs k).take j) ∧ W1.grownBy wr (some r)) (fun x _ => 6 - (intOf x).toNat)
      case atStart =>
        refine ⟨0, v, fs, Nat.zero_le _, rfl, ?_, ?_, ?_⟩
        · exact HBc.out
        · rw [List.take_zero, List.append_nil]; exact HE.out
        · exact HG.out
      case round =>
        clear HBc HG x2 HE
        obtain ⟨j, v', fs', hj, rfl, B, Pm, Gr⟩ := hrel
        obtain ⟨U, hU⟩ : ∃ U, U = wr := ⟨_, rfl⟩
        subst hU
        have HB : Hid (RB U r v' fs' q) := B
        have HG : Hid (W1.grownBy U (some r)) := Gr
        have HPm : Hid ((fs'.map hp).Perm (d ++ (sCs k).take j)) := Pm
        clear B Gr Pm
        have x1 := HG.out.cell HX1.out (by simpa using hXr)
        have hgr : ¬ gc = r := by omega
        rcases (show j < 6 ∨ j = 6 from by omega) with h1 | h1
        · have h1' : (j : Int) < 6 := by omega
          have j0 : (0 : Int) ≤ (j : Int) := by omega
          have hcl : cs.length = 6 := by have h9 := congrArg List.length HI.out; rw [List.length_map, HLen.out] at h9; exact h9
          obtain ⟨e0, he0⟩ : ∃ e, cs[j]? = some e := ⟨_, List.getElem?_eq_getElem (by omega)⟩
          have hsp : (sCs k)[j]? = some (hp e0) := by rw [← HI.out, List.getElem?_map, he0]; rfl
          have mem0 := List.mem_of_getElem? hsp
          have hl64 : fs'.length < 64 := by have h7 := H64.out; have h8 := HPm.out.length_eq; simp only [List.length_map, List.length_append, List.length_take] at h8; have h6 := HLen.out; omega
          have HTk : caE q fs' (e0.h.with e0.ps) = 0 := card_taken (c := hp e0) HPm.out (fresh_at HNo.out hsp) (cAll_chk _ (HIn.out _ mem0)) (by have h7 := H64.out; have h8 := HLen.out; simp only [List.length_append, List.length_take]; omega) HQ.out
          have Hps : e0.ps.length ≤ 4 := cAll_four _ (HIn.out _ mem0)
          have HOe := ((HO.out e0 (List.mem_of_getElem? he0)).keep HG1.out).keepR HG.out (fun k hk e => by injection e with e; omega)
          have HD : C9 U gc (j * 9) e0.h e0.v := Lie.row (es := cs) ⟨[], by rw [List.append_nil]; exact grown_keep HG.out (grown_keep HG1.out HL.out (by simp)) (fun e => hgr (by injection e))⟩ he0
          have HNx : Hid (∀ u, ((ins fs' ⟨e0.h, u, e0.ps⟩).map hp).Perm (d ++ (sCs k).take (j + 1))) := fun u => perm_next hsp HPm.out (ins_hp fs' ⟨e0.h, u, e0.ps⟩)
          have CK := rcard_any (fun k => r < k) r v' q fs' e0.h e0.v e0.ps U HB.out.rj HB.out.rl HB.out.len HB.out.good (Nat.lt_irrefl r) HOe.at (by unfold Small; omega) (cAll_wf _ (HIn.out _ mem0))
          rw [HTk] at CK
          have CK2 := CK.mono fun e w' h => rcard_taken HB.out hl64 HTk h
          have hfm := HOe.at.form
          clear he0 hsp mem0 Hps HTk CK hl64 HOe
          obtain ⟨⟨nm, su, kd, co, po, he, tr, tk⟩, vv, ps⟩ := e0
          simp only at HD HNx CK2 hfm
          obtain ⟨xx, yy, rfl⟩ := hfm
          unfold cv at CK2
          simp only at CK2
          obtain ⟨z0, z1, z2, z3, z4, z5, z6, z7, z8⟩ := HD
          clear hcl
          go_wp2_with fail
          refine CK2.mono ?_
          rintro e U3 ⟨rfl, u, v2, B3, g3⟩
          have HB3 : Hid (RB U3 r v2 (ins fs' ⟨⟨nm, su, kd, co, po, he, tr, tk⟩, u, ps⟩) q) := B3
          have HG3 : Hid (W1.grownBy U3 (some r)) := HG.out.trans g3
          clear B3 g3 CK2 z0 z1 z2 z3 z4 z5 z6 z7 z8 x1
          go_wp2_with fail
          go_roundw
          case rel => exact ⟨j + 1, v2, _, h1, by first | rfl | (rw [sm6.wrap h1]; rfl), HB3.out, HNx.out u, HG3.out⟩
          case measure => first | exact meas_next h1 | (rw [sm6.wrap h1]; exact meas_next h1)
        · have h1' : ¬ (j : Int) < 6 := by omega
          have HF : Hid ((fs'.map hp).Perm (d ++ sCs k)) := by have h9 := HPm.out; rw [h1, List.take_of_length_le (by rw [HLen.out]; exact Nat.le_refl _)] at h9; exact h9
          clear h1 HPm
          go_wp2
          go_ret
          exact ⟨rfl, v', fs', HB.out, HF.out, grown_own' HG1.out HG.out⟩
end Go.Proofs.YtknlcjhcamhfmaaGreatDoor
