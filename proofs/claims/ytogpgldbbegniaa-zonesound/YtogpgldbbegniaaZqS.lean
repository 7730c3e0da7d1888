/-
  ZoneSound, of every two decks and every list of calls.
-/
import Derived.Test.YtogpgldbbegniaaZqO
import Derived.Deep.MidRow
namespace Go.Proofs.Ytogpgldbbegniaa
open Go.RowKit

theorem OpsAt.keep {w w' : World} {v : Value} {os : List Oq} (h : OpsAt w v os) (g : w.grownBy w' none) : OpsAt w' v os := by
  obtain ⟨⟨a, k, e, h1⟩, h2⟩ := h
  refine ⟨⟨a, k, e, fun h0 => ?_⟩, fun o ho => ⟨(h2 o ho).1.keep g, (h2 o ho).2⟩⟩
  obtain ⟨x, off, e1, e2⟩ := h1 h0
  exact ⟨x, off, e1, fun j o ho => rangeAt_keep (e2 j o ho) g⟩
theorem IntsB.frm {w : World} {v : Value} {l : List Int} (h : IntsB w v l) : ∃ a k, v = .slice a l.length k := by
  rcases h with ⟨_, rfl, rfl⟩ | ⟨g, off, cap, rfl, _⟩
  · exact ⟨_, _, rfl⟩
  · exact ⟨_, _, rfl⟩
/-- Sound zones, all of whose blocks are newer than w. -/
structure ZS (w wr : World) (b : Nat) (S : List Nat) (z : Zs) : Prop where
  at_ : ZAt wr b S z
  sd : z.Sound
  old : Old wr S
  new : ∀ x, x ∈ S → w.heap.size ≤ x
  g : w.grownBy wr none
theorem ZS.grow {w wr w2 : World} {b : Nat} {S : List Nat} {z : Zs} (h : ZS w wr b S z) (k : wr.grownBy w2 none) : ZS w w2 b S z := ⟨h.at_.grow k, h.sd, fun x hx => Nat.lt_of_lt_of_le (h.old x hx) k.size, h.new, grown_trans h.g k⟩
theorem ZS.turn {w wr w2 : World} {b : Nat} {S S2 : List Nat} {z : Zs} {q : Opc} (h : ZS w wr b S z) (Z : ZAt w2 b S2 (z.doZ q)) (t : Turn wr w2 S S2) : ZS w w2 b S2 (z.doZ q) := ⟨Z, h.sd.doZ q, t.old, t.keep h.new h.g.size, t.grown h.g h.new⟩
theorem newE_few {one two : List Int} (h : newE one two = 0) : one.length + two.length ≤ 2048 := by
  rw [newE_any] at h
  split at h
  · omega
  · omega
theorem wo_kpt {w w' : World} {base : Nat} {z : Zs} {vt d0 d1 h0 h1 : Value} {S : List Nat} (h : WoAt w base z vt d0 d1 h0 h1) (k : Kpt S w w') (hS : ∀ x, x ∈ S → x < base) : WoAt w' base z vt d0 d1 h0 h1 := by
  have key : ∀ {e size n : Nat} {v : Value} {xs : List Value}, w.ownsRow base e size v n xs → ∀ x, v.ownBlock = some x → x ∉ S := fun q x hx hs => by
    have := (World.ownsRow.lt q x hx).1
    have := hS x hs
    omega
  exact ⟨kpt_own h.ts k (key h.ts), kpt_own h.od0 k (key h.od0), kpt_own h.od1 k (key h.od1), kpt_own h.oh0 k (key h.oh0), kpt_own h.oh1 k (key h.oh1)⟩
theorem wo_grow {w w' : World} {base : Nat} {z : Zs} {vt d0 d1 h0 h1 : Value} (h : WoAt w base z vt d0 d1 h0 h1) (g : w.grownBy w' none) : WoAt w' base z vt d0 d1 h0 h1 := wo_kpt h (Kpt.of_grown g) (by simp)
theorem own_intsA {w : World} {base : Nat} {v : Value} {l : List Int} (h : OwnI w base v l) : IntsA w v l := by
  rcases h.2 with ⟨e1, h1⟩ | ⟨g, cap, cur, e1, hb, hh, hc, hm, hs, ht⟩
  · exact Or.inl ⟨e1, List.eq_nil_of_length_eq_zero h1⟩
  · subst e1
    refine Or.inr ⟨⟨g, 0, none⟩, cap, rfl, fun j u hu => ?_⟩
    have hj : j < l.length * 1 := by have := (List.getElem?_eq_some_iff.1 hu).1; rw [length_ints] at this; omega
    have q := World.ownsRow.cellAt h j hj
    rw [add_plain, Nat.zero_add, q]
    exact hu
theorem sound_short {z : Zs} (S : z.Sound) : ¬ z.long := by
  have a := deck_few S (p := 0) (Or.inl rfl)
  have b := deck_few S (p := 1) (Or.inr rfl)
  have c := S.few
  unfold Zs.long
  omega
theorem opv_cs (q : Opc) (v : Value) : Value.agg (opcs q v).toArray = opv q v := rfl
set_option maxRecDepth 100000 in
set_option maxHeartbeats 16000000 in
theorem sound17 (v1 v2 v3 : Value) (one two : List Int) (os : List Oq) (w : World) (h1 : IntsB w v1 one) (h2 : IntsB w v2 two) (b1 : (one.length + 2) * 8 ≤ 140737488355328) (b2 : (two.length + 2) * 8 ≤ 140737488355328) (hO : OpsAt w v3 os) : Calls Try.prog 3 #[v1, v2, v3] w fun e w' => e = .returned (.bool true) ∧ w.grownBy w' none := by
  have HO : Hid (OpsAt w v3 os) := hO
  have HNw := fun (X : World) (g : w.grownBy X none) => new_any v1 v2 one two X (h1.keep g).a (h2.keep g).a b1 b2
  unfold NwPost at HNw
  obtain ⟨a1, k1, rfl⟩ := h1.frm
  obtain ⟨a2, k2, rfl⟩ := h2.frm
  obtain ⟨⟨a3, k3, e3, _⟩, _⟩ := hO
  subst e3
  obtain ⟨n1, hn1⟩ : ∃ n, n = one.length := ⟨_, rfl⟩
  obtain ⟨n2, hn2⟩ : ∃ n, n = two.length := ⟨_, rfl⟩
  obtain ⟨n, hn⟩ : ∃ n, n = os.length := ⟨_, rfl⟩
  have HN : Hid (n1 = one.length ∧ n2 = two.length ∧ n = os.length) := ⟨hn1, hn2, hn⟩
  simp only [← hn1, ← hn2] at HNw ⊢
  simp only [← hn] at HO ⊢
  have hL := lives_any w
  clear h1 h2 b1 b2 hn1 hn2 hn
  go_enter Try.func3, Try.ntmps3
  go_wp2_with fail
  refine hL.mono ?_
  rintro e w1 ⟨rfl, g1⟩
  have HG1 : Hid (w.grownBy w1 none) := g1
  have HC := HNw w1 g1
  clear hL g1 HNw
  go_wp2_with fail
  refine HC.mono ?_
  intro e w2 Q
  rcases Q with ⟨hE, b, S, rfl, Z, hS, hOld, g2⟩ | ⟨hE, rfl, g2⟩
  case inr =>
    obtain ⟨ne, hne⟩ : ∃ ne, ne = newE one two := ⟨_, rfl⟩
    rw [← hne] at hE ⊢
    have e1 : (ne != 0) = true := by simpa using hE
    have e2 : (ne == 0) = false := by simpa using hE
    have HG2 : Hid (w.grownBy w2 none) := grown_trans HG1.out g2
    clear hE hne HC g2
    go_wp2
    go_ret
    exact ⟨rfl, HG2.out⟩
  have HZ : Hid (ZS w w2 b S (newZ one two)) := ⟨Z, newE_ok hE, hOld, fun x hx => Nat.le_trans HG1.out.size (hS x hx), grown_trans HG1.out g2⟩
  have hs : (n1 : Int) + (n2 : Int) ≤ 2048 := by have a := newE_few hE; have c := HN.out; omega
  obtain ⟨z, hz⟩ : ∃ z, z = newZ one two := ⟨_, rfl⟩
  rw [← hz] at HZ
  obtain ⟨s, hsum⟩ : ∃ s : Int, s = (n1 : Int) + (n2 : Int) := ⟨_, rfl⟩
  have hw : wrap64 ((n1 : Int) + (n2 : Int)) = s := by rw [hsum]; unfold wrap64; omega
  clear hE Z hS hOld g2 HC hz hs hsum
  by_cases h100 : 100 < s
  · go_wp2
    go_ret
    exact ⟨rfl, HZ.out.g⟩
  by_cases h60 : (60 : Int) < (n : Int)
  · go_wp2
    go_ret
    exact ⟨rfl, HZ.out.g⟩
  have Hn60 : Hid (n ≤ 60) := by show _ ≤ _; omega
  go_upto_region 6 with fail
  clear hw h100 h60
  go_upto_block 0 with fail
  go_cut [9, 10, 11, 12] from 45 to 73 (fun _ _ _ _ wc => ∃ S z, ZS w wc b S z)
  case first =>
    go_wp2_with fail
    go_loopw [9, 10, 11, 12] (fun i _ _ _ wr => ∃ (k : Nat) (S : List Nat) (z : Zs), k ≤ n ∧ i = .int .i64 (k : Int) ∧ Hid (ZS w wr b S z)) (fun i _ _ _ _ => n - (intOf i).toNat)
    case atStart => exact ⟨0, S, z, Nat.zero_le _, rfl, HZ⟩
    case round =>
      obtain ⟨k, S, z, hk, rfl, HR⟩ := hrel
      clear HZ
      obtain ⟨U, hU⟩ : ∃ U, U = wr := ⟨_, rfl⟩
      subst hU
      by_cases hlt : k < n
      · obtain ⟨oq, hoq⟩ : ∃ oq, os[k]? = some oq := ⟨_, List.getElem?_eq_getElem (by have := HN.out.2.2; omega)⟩
        obtain ⟨q, vq⟩ := oq
        obtain ⟨⟨a4, k4, e4, hR4⟩, hI4⟩ := HO.out
        obtain ⟨og, off, ea, hcell⟩ := hR4 (by have := HN.out.2.2; omega)
        have e4' : a3 = a4 := by injection e4
        rw [← e4'] at ea
        subst ea
        have HRg : Hid (w.rangeAt og (off + k * 16) (opcs q vq)) := hcell k _ hoq
        have HIq : Hid (IntsB w vq q.l) := (hI4 _ (List.mem_of_getElem? hoq)).1
        have hlt' : (k : Int) < (n : Int) := by omega
        have hk0 : (0 : Int) ≤ (k : Int) := by omega
        have HKn : Hid (k + 1 ≤ n) := hlt
        have HMe : Hid (n - (intOf (.int .i64 ((k : Int) + 1))).toNat < n - (intOf (.int .i64 (k : Int))).toNat) := meas_next hlt
        have HWk : Hid (wrap64 ((k : Int) + 1) = (k : Int) + 1) := by have := Hn60.out; show _ = _; unfold wrap64; omega
        have HWh := whole_any b S z U HR.out.at_ HR.out.sd HR.out.old
        unfold WhPost at HWh
        clear hoq hR4 hI4 hcell e4 e4' hlt hk
        go_wp2_with fail
        refine HWh.mono ?_
        rintro e r1 ⟨vt, d0, d1, h0, h1, rfl, W1, g1⟩
        obtain ⟨pt, ct, rfl, -⟩ := own_slice W1.ts
        obtain ⟨p0, c0, rfl⟩ := W1.od0.form
        obtain ⟨p1, c1, rfl⟩ := W1.od1.form
        obtain ⟨q0, e0, rfl⟩ := W1.oh0.form
        obtain ⟨q1, e1, rfl⟩ := W1.oh1.form
        unfold wov
        obtain ⟨V1, hV1⟩ : ∃ V1, V1 = r1.alloc (.cells #[.slice pt z.ts.length ct, .slice p0 (z.dk 0).length c0, .slice p1 (z.dk 1).length c1, .slice q0 (z.hd 0).length e0, .slice q1 (z.hd 1).length e1, .int .i64 z.nx] 32) := ⟨_, rfl⟩
        have HW1 : Hid (WoAt V1 U.heap.size z (.slice pt z.ts.length ct) (.slice p0 (z.dk 0).length c0) (.slice p1 (z.dk 1).length c1) (.slice q0 (z.hd 0).length e0) (.slice q1 (z.hd 1).length e1)) := by rw [hV1]; exact wo_grow W1 (World.grownBy_alloc _ _ none)
        have HB1 : Hid (V1.heap[r1.heap.size]? = some (.cells #[.slice pt z.ts.length ct, .slice p0 (z.dk 0).length c0, .slice p1 (z.dk 1).length c1, .slice q0 (z.hd 0).length e0, .slice q1 (z.hd 1).length e1, .int .i64 z.nx] 32 (0, 0))) := by rw [hV1]; exact alloc_at _ _ _
        have HZ1 : Hid (ZS w V1 b S z) := by rw [hV1]; exact (HR.out.grow g1).grow (World.grownBy_alloc _ _ none)
        have HUo : Hid (∀ x, x ∈ S → x < U.heap.size) := HR.out.old
        have HRb : Hid (U.heap.size ≤ r1.heap.size) := g1.size
        have HDo := do_any b S z q vq V1 HZ1.out.at_ HZ1.out.sd HZ1.out.old (HIq.out.keep HZ1.out.g).a
        rw [← opv_cs] at HDo
        have HRg1 : Hid (V1.rangeAt og (off + k * 16) (opcs q vq)) := rangeAt_keep HRg.out HZ1.out.g
        unfold TnPost at HDo
        clear W1 g1 HR HWh
        go_upto_region 10 with fail
        rw [← hV1]
        clear hV1
        obtain ⟨X1, hX1⟩ : ∃ X1, X1 = r1.heap.size := ⟨_, rfl⟩
        rw [← hX1] at HB1 HRb ⊢
        clear hX1
        go_wp2_with (refine wpList_load_mid (by rfl) 40 (.tmp 56) rfl og (off + k * 16) rfl _ _ HRg1.out Try.underlying40 rfl (by kernel_rfl) ?_)
        refine HDo.mono ?_
        rintro e V2 ⟨rfl, S2, Z2, T2⟩
        have HZ2 : Hid (ZS w V2 b S2 (z.doZ q)) := HZ1.out.turn Z2 T2
        have HW2 : Hid (WoAt V2 U.heap.size z (.slice pt z.ts.length ct) (.slice p0 (z.dk 0).length c0) (.slice p1 (z.dk 1).length c1) (.slice q0 (z.hd 0).length e0) (.slice q1 (z.hd 1).length e1)) := wo_kpt HW1.out T2.kpt HUo.out
        have HB2 : Hid (V2.heap[X1]? = some (.cells #[.slice pt z.ts.length ct, .slice p0 (z.dk 0).length c0, .slice p1 (z.dk 1).length c1, .slice q0 (z.hd 0).length e0, .slice q1 (z.hd 1).length e1, .int .i64 z.nx] 32 (0, 0))) := by
          have a := T2.kpt.block X1 (block_lt HB1.out) (fun hx => by have := HUo.out X1 hx; have := HRb.out; omega)
          exact a.trans HB1.out
        have HPl := placed_ok b S2 (z.doZ q) V2 Z2 HZ2.out.sd HZ2.out.sd.few
        clear Z2 T2 HDo HRg1 HZ1 HB1 HW1 HUo HRb
        go_wp2_with fail
        refine HPl.mono ?_
        rintro e V3 ⟨rfl, g3⟩
        have HZ3 : Hid (ZS w V3 b S2 (z.doZ q)) := HZ2.out.grow g3
        have HW3 : Hid (WoAt V3 U.heap.size z (.slice pt z.ts.length ct) (.slice p0 (z.dk 0).length c0) (.slice p1 (z.dk 1).length c1) (.slice q0 (z.hd 0).length e0) (.slice q1 (z.hd 1).length e1)) := wo_grow HW2.out g3
        have HB3 : Hid (V3.heap[X1]? = some (.cells #[.slice pt z.ts.length ct, .slice p0 (z.dk 0).length c0, .slice p1 (z.dk 1).length c1, .slice q0 (z.hd 0).length e0, .slice q1 (z.hd 1).length e1, .int .i64 z.nx] 32 (0, 0))) := grown_keep g3 HB2.out (by simp)
        have HNo : Hid (z.doB q = false → z.doZ q = z) := fun h => Zs.doZ_no h
        clear g3 HPl HZ2 HW2 HB2 HRg HIq
        obtain ⟨z2, hz2⟩ : ∃ z2, z2 = z.doZ q := ⟨_, rfl⟩
        rw [← hz2] at HZ3 HNo
        clear hz2
        go_upto_region 12 with fail
        cases hdb : z.doB q with
        | true =>
          clear HNo hdb
          go_quiet (fail)
          go_wp2_with fail
          go_roundw
          case rel => exact ⟨k + 1, S2, z2, HKn.out, by first | rfl | (rw [HWk.out]; rfl), HZ3.out.grow (grown_drewN _ _ _)⟩
          case measure => first | exact HMe.out | (rw [HWk.out]; exact HMe.out)
        | false =>
          have hzz := HNo.out hdb
          rw [hzz] at HZ3
          clear HNo hdb hzz z2
          have H0 : V3.grownBy V3.drew none := grown_drew _
          have HWh := whole_any b S2 z V3.drew (HZ3.out.grow H0).at_ HZ3.out.sd (HZ3.out.grow H0).old
          unfold WhPost at HWh
          refine wp_region_held_drew (S := fun w' => V3.grownBy w' none) (by kernel_rfl) (H0) (fun hHeld => ?_)
          refine wpAnyH_take (i := 0) (v := ?_) rfl (by kernel_rfl) (by kernel_rfl) (by kernel_rfl) (fun _ _ _ h => h) (Or.inl ⟨by rfl, ?_⟩) (by assumption) ?_
          rotate_left 1
          · (intro w0 hSw; go_simp; try with_reducible rfl)
          simp only [List.getElem_toArray, List.getElem_cons_zero]
          go_frame
          refine wpAnyH_take (i := 1) (v := ?_) rfl (by kernel_rfl) (by kernel_rfl) (by kernel_rfl) (fun _ _ _ h => h) (Or.inl ⟨by rfl, ?_⟩) (by assumption) ?_
          rotate_left 1
          · (intro w0 hSw; go_simp; try with_reducible rfl)
          simp only [List.getElem_toArray, List.getElem_cons_zero, List.getElem_cons_succ]
          go_frame
          refine wpAnyH_take (i := 2) (v := ?_) rfl (by kernel_rfl) (by kernel_rfl) (by kernel_rfl) (fun _ _ _ h => h) (Or.inl ⟨by rfl, ?_⟩) (by assumption) ?_
          rotate_left 1
          · (intro w0 hSw; go_simp; try with_reducible rfl)
          simp only [List.getElem_toArray, List.getElem_cons_zero, List.getElem_cons_succ]
          go_frame
          refine wpAnyH_take (i := 3) (v := ?_) rfl (by kernel_rfl) (by kernel_rfl) (by kernel_rfl) (fun _ _ _ h => h) (Or.inl ⟨by rfl, ?_⟩) (by assumption) ?_
          rotate_left 1
          · (intro w0 hSw; go_simp; try with_reducible rfl)
          simp only [List.getElem_toArray, List.getElem_cons_zero, List.getElem_cons_succ]
          go_frame
          refine wpAnyH_take (i := 4) (v := ?_) rfl (by kernel_rfl) (by kernel_rfl) (by kernel_rfl) (fun _ _ _ h => h) (Or.inl ⟨by rfl, ?_⟩) (by assumption) ?_
          rotate_left 1
          · (intro w0 hSw; go_simp; try with_reducible rfl)
          simp only [List.getElem_toArray, List.getElem_cons_zero, List.getElem_cons_succ]
          go_frame
          refine wpAnyH_take (i := 5) (v := ?_) rfl (by kernel_rfl) (by kernel_rfl) (by kernel_rfl) (fun _ _ _ h => h) (Or.inl ⟨by rfl, ?_⟩) (by assumption) ?_
          rotate_left 1
          · (intro w0 hSw; go_simp; try with_reducible rfl)
          simp only [List.getElem_toArray, List.getElem_cons_zero, List.getElem_cons_succ]
          go_frame
          refine wpAnyH_take (i := 6) (v := ?_) rfl (by kernel_rfl) (by kernel_rfl) (by kernel_rfl) (fun _ _ _ h => h) (Or.inl ⟨by rfl, ?_⟩) (by assumption) ?_
          rotate_left 1
          · (intro w0 hSw; have d0 := hSw.cell (block_cell HB3.out 0) (by simp); have d1 := hSw.cell (block_cell HB3.out 1) (by simp); have d2 := hSw.cell (block_cell HB3.out 2) (by simp); have d3 := hSw.cell (block_cell HB3.out 3) (by simp); have d4 := hSw.cell (block_cell HB3.out 4) (by simp); have d5 := hSw.cell (block_cell HB3.out 5) (by simp); go_simp; try with_reducible rfl)
          simp only [List.getElem_toArray, List.getElem_cons_zero, List.getElem_cons_succ]
          go_frame
          refine wpAnyH_take (i := 7) (v := ?_) rfl (by kernel_rfl) (by kernel_rfl) (by kernel_rfl) (fun _ _ _ h => h) (Or.inl ⟨by rfl, ?_⟩) (by assumption) ?_
          rotate_left 1
          · (intro w0 hSw; go_simp; try with_reducible rfl)
          simp only [List.getElem_toArray, List.getElem_cons_zero, List.getElem_cons_succ]
          go_frame
          refine wpAnyH_ready (rs := [8]) (by kernel_rfl) (by simp) ?_
          refine AllReadyH.cons rfl (fun K hK => ?_) AllReadyH.nil
          simp only [List.getElem_toArray, List.getElem_cons_zero, List.getElem_cons_succ]
          rw [if_pos (by rfl)]
          go_simp
          go_at_call 8
          refine (HWh).mono ?_
          rintro e r9 ⟨yt, y0, y1, u0, u1, rfl, W9, g9⟩
          have HG8 : Hid (V3.grownBy r9 none) := grown_trans H0 g9
          have HSm := sameWorld_eq z (.slice pt z.ts.length ct) (.slice p0 (z.dk 0).length c0) (.slice p1 (z.dk 1).length c1) (.slice q0 (z.hd 0).length e0) (.slice q1 (z.hd 1).length e1) yt y0 y1 u0 u1 U.heap.size V3.drew.heap.size r9 (wo_grow HW3.out HG8.out) W9
          obtain ⟨yp, yc, rfl, -⟩ := own_slice W9.ts
          obtain ⟨y0p, y0c, rfl⟩ := W9.od0.form
          obtain ⟨y1p, y1c, rfl⟩ := W9.od1.form
          obtain ⟨u0p, u0c, rfl⟩ := W9.oh0.form
          obtain ⟨u1p, u1c, rfl⟩ := W9.oh1.form
          unfold wov at HSm ⊢
          clear W9 g9 HWh
          refine hK.out _ _ (HG8.out) (fun hHeld2 => ?_)
          clear hK K
          (try go_frame)
          refine wpAnyH_ready (rs := [9]) (by kernel_rfl) (by simp) ?_
          refine AllReadyH.cons rfl (fun K hK => ?_) AllReadyH.nil
          simp only [List.getElem_toArray, List.getElem_cons_zero, List.getElem_cons_succ]
          rw [if_pos (by rfl)]
          go_simp
          go_at_call 11
          refine (HSm).mono ?_
          rintro e r8 ⟨rfl, g8⟩
          have HG9 : Hid (V3.grownBy r8 none) := grown_trans HG8.out g8
          clear g8 HSm
          refine hK.out _ _ (HG9.out) (fun hHeld2 => ?_)
          clear hK K
          (try go_frame)
          refine wpAnyH_take (i := 10) (v := ?_) rfl (by kernel_rfl) (by kernel_rfl) (by kernel_rfl) (fun _ _ _ h => h) (Or.inl ⟨by rfl, ?_⟩) (by assumption) ?_
          rotate_left 1
          · (intro w0 hSw; go_simp; try with_reducible rfl)
          simp only [List.getElem_toArray, List.getElem_cons_zero, List.getElem_cons_succ]
          go_frame
          refine wpAnyH_take (i := 11) (v := ?_) rfl (by kernel_rfl) (by kernel_rfl) (by kernel_rfl) (fun _ _ _ h => h) (Or.inl ⟨by rfl, ?_⟩) (by assumption) ?_
          rotate_left 1
          · (intro w0 hSw; go_simp; try with_reducible rfl)
          simp only [List.getElem_toArray, List.getElem_cons_zero, List.getElem_cons_succ]
          go_frame
          refine wpAnyH_take (i := 12) (v := ?_) rfl (by kernel_rfl) (by kernel_rfl) (by kernel_rfl) (fun _ _ _ h => h) (Or.inl ⟨by rfl, ?_⟩) (by assumption) ?_
          rotate_left 1
          · (intro w0 hSw; go_simp; try with_reducible rfl)
          simp only [List.getElem_toArray, List.getElem_cons_zero, List.getElem_cons_succ]
          go_frame
          refine wpAnyH_done (by kernel_rfl) ?_ _
          go_wp2_with fail
          go_roundw
          case rel => exact ⟨k + 1, S2, z, HKn.out, by first | rfl | (rw [HWk.out]; rfl), HZ3.out.grow HG9.out⟩
          case measure => first | exact HMe.out | (rw [HWk.out]; exact HMe.out)
      · have hlt' : ¬ (k : Int) < (n : Int) := by omega
        clear hlt hk
        go_wp2_with fail
        go_meet
        case rel => exact ⟨S, z, HR.out⟩
  case rest =>
    obtain ⟨S1, z1, hZ⟩ := hcut
    obtain ⟨Wa, hWa⟩ : ∃ Wa, Wa = wc := ⟨_, rfl⟩
    subst hWa
    have HR : Hid (ZS w Wa b S1 z1) := hZ
    clear hZ HZ
    have HWh := whole_any b S1 z1 Wa HR.out.at_ HR.out.sd HR.out.old
    unfold WhPost at HWh
    go_wp2_with fail
    refine HWh.mono ?_
    rintro e r1 ⟨vt, d0, d1, h0, h1, rfl, W1, g1⟩
    obtain ⟨pt, ct, rfl, -⟩ := own_slice W1.ts
    obtain ⟨p0, c0, rfl⟩ := W1.od0.form
    obtain ⟨p1, c1, rfl⟩ := W1.od1.form
    obtain ⟨q0, e0, rfl⟩ := W1.oh0.form
    obtain ⟨q1, e1, rfl⟩ := W1.oh1.form
    unfold wov
    obtain ⟨V1, hV1⟩ : ∃ V1, V1 = r1.alloc (.cells #[.slice pt z1.ts.length ct, .slice p0 (z1.dk 0).length c0, .slice p1 (z1.dk 1).length c1, .slice q0 (z1.hd 0).length e0, .slice q1 (z1.hd 1).length e1, .int .i64 z1.nx] 32) := ⟨_, rfl⟩
    have HW1 : Hid (WoAt V1 Wa.heap.size z1 (.slice pt z1.ts.length ct) (.slice p0 (z1.dk 0).length c0) (.slice p1 (z1.dk 1).length c1) (.slice q0 (z1.hd 0).length e0) (.slice q1 (z1.hd 1).length e1)) := by rw [hV1]; exact wo_grow W1 (World.grownBy_alloc _ _ none)
    have HB1 : Hid (V1.heap[r1.heap.size]? = some (.cells #[.slice pt z1.ts.length ct, .slice p0 (z1.dk 0).length c0, .slice p1 (z1.dk 1).length c1, .slice q0 (z1.hd 0).length e0, .slice q1 (z1.hd 1).length e1, .int .i64 z1.nx] 32 (0, 0))) := by rw [hV1]; exact alloc_at _ _ _
    have HZ1 : Hid (ZS w V1 b S1 z1) := by rw [hV1]; exact (HR.out.grow g1).grow (World.grownBy_alloc _ _ none)
    have HFr := from_any (.slice pt z1.ts.length ct) (.slice p0 (z1.dk 0).length c0) (.slice p1 (z1.dk 1).length c1) (.slice q0 (z1.hd 0).length e0) (.slice q1 (z1.hd 1).length e1) z1 V1 HW1.out.ts.at (own_intsA HW1.out.od0) (own_intsA HW1.out.od1) (own_intsA HW1.out.oh0) (own_intsA HW1.out.oh1)
    unfold FrPost at HFr
    clear W1 g1 HR HWh
    go_upto_region 15 with fail
    rw [← hV1]
    clear hV1
    obtain ⟨X1, hX1⟩ : ∃ X1, X1 = r1.heap.size := ⟨_, rfl⟩
    rw [← hX1] at HB1 ⊢
    clear hX1
    have x0 := block_cell HB1.out 0
    have x1 := block_cell HB1.out 1
    have x2 := block_cell HB1.out 2
    have x3 := block_cell HB1.out 3
    have x4 := block_cell HB1.out 4
    have x5 := block_cell HB1.out 5
    go_wp2_with fail
    refine HFr.mono ?_
    intro e V2 Q
    rcases Q with ⟨hlong, _⟩ | ⟨_, hns, _⟩ | ⟨_, _, b2, S2, rfl, Z2, hS2, hO2, g2⟩
    · exact absurd hlong (sound_short HZ1.out.sd)
    · exact absurd HZ1.out.sd hns
    have HZ2 : Hid (ZS w V2 b S1 z1) := HZ1.out.grow g2
    have HY2 : Hid (ZS w V2 b2 S2 z1) := ⟨Z2, HZ1.out.sd, hO2, fun x hx => Nat.le_trans HZ1.out.g.size (hS2 x hx), HZ2.out.g⟩
    have HDj : Hid (∀ x, x ∈ S1 → x ∉ S2) := fun x h1 h2 => by have := HZ1.out.old x h1; have := hS2 x h2; omega
    have HW2 : Hid (WoAt V2 Wa.heap.size z1 (.slice pt z1.ts.length ct) (.slice p0 (z1.dk 0).length c0) (.slice p1 (z1.dk 1).length c1) (.slice q0 (z1.hd 0).length e0) (.slice q1 (z1.hd 1).length e1)) := wo_grow HW1.out g2
    have HB2 : Hid (V2.heap[X1]? = some (.cells #[.slice pt z1.ts.length ct, .slice p0 (z1.dk 0).length c0, .slice p1 (z1.dk 1).length c1, .slice q0 (z1.hd 0).length e0, .slice q1 (z1.hd 1).length e1, .int .i64 z1.nx] 32 (0, 0))) := grown_keep g2 HB1.out (by simp)
    clear Z2 hS2 hO2 g2 HFr HZ1 HW1 HB1 x0 x1 x2 x3 x4 x5
    go_upto_region 16 with fail
    have H0 : V2.grownBy V2.drew none := grown_drew _
    have HWh := whole_any b2 S2 z1 V2.drew (HY2.out.grow H0).at_ HY2.out.sd (HY2.out.grow H0).old
    unfold WhPost at HWh
    refine wp_region_held_drew (S := fun w' => V2.grownBy w' none) (by kernel_rfl) (H0) (fun hHeld => ?_)
    refine wpAnyH_take (i := 0) (v := ?_) rfl (by kernel_rfl) (by kernel_rfl) (by kernel_rfl) (fun _ _ _ h => h) (Or.inl ⟨by rfl, ?_⟩) (by assumption) ?_
    rotate_left 1
    · (intro w0 hSw; go_simp; try with_reducible rfl)
    simp only [List.getElem_toArray, List.getElem_cons_zero]
    go_frame
    refine wpAnyH_take (i := 1) (v := ?_) rfl (by kernel_rfl) (by kernel_rfl) (by kernel_rfl) (fun _ _ _ h => h) (Or.inl ⟨by rfl, ?_⟩) (by assumption) ?_
    rotate_left 1
    · (intro w0 hSw; go_simp; try with_reducible rfl)
    simp only [List.getElem_toArray, List.getElem_cons_zero, List.getElem_cons_succ]
    go_frame
    refine wpAnyH_take (i := 2) (v := ?_) rfl (by kernel_rfl) (by kernel_rfl) (by kernel_rfl) (fun _ _ _ h => h) (Or.inl ⟨by rfl, ?_⟩) (by assumption) ?_
    rotate_left 1
    · (intro w0 hSw; go_simp; try with_reducible rfl)
    simp only [List.getElem_toArray, List.getElem_cons_zero, List.getElem_cons_succ]
    go_frame
    refine wpAnyH_take (i := 3) (v := ?_) rfl (by kernel_rfl) (by kernel_rfl) (by kernel_rfl) (fun _ _ _ h => h) (Or.inl ⟨by rfl, ?_⟩) (by assumption) ?_
    rotate_left 1
    · (intro w0 hSw; go_simp; try with_reducible rfl)
    simp only [List.getElem_toArray, List.getElem_cons_zero, List.getElem_cons_succ]
    go_frame
    refine wpAnyH_take (i := 4) (v := ?_) rfl (by kernel_rfl) (by kernel_rfl) (by kernel_rfl) (fun _ _ _ h => h) (Or.inl ⟨by rfl, ?_⟩) (by assumption) ?_
    rotate_left 1
    · (intro w0 hSw; go_simp; try with_reducible rfl)
    simp only [List.getElem_toArray, List.getElem_cons_zero, List.getElem_cons_succ]
    go_frame
    refine wpAnyH_take (i := 5) (v := ?_) rfl (by kernel_rfl) (by kernel_rfl) (by kernel_rfl) (fun _ _ _ h => h) (Or.inl ⟨by rfl, ?_⟩) (by assumption) ?_
    rotate_left 1
    · (intro w0 hSw; go_simp; try with_reducible rfl)
    simp only [List.getElem_toArray, List.getElem_cons_zero, List.getElem_cons_succ]
    go_frame
    refine wpAnyH_take (i := 6) (v := ?_) rfl (by kernel_rfl) (by kernel_rfl) (by kernel_rfl) (fun _ _ _ h => h) (Or.inl ⟨by rfl, ?_⟩) (by assumption) ?_
    rotate_left 1
    · (intro w0 hSw; go_simp; try with_reducible rfl)
    simp only [List.getElem_toArray, List.getElem_cons_zero, List.getElem_cons_succ]
    go_frame
    refine wpAnyH_take (i := 7) (v := ?_) rfl (by kernel_rfl) (by kernel_rfl) (by kernel_rfl) (fun _ _ _ h => h) (Or.inl ⟨by rfl, ?_⟩) (by assumption) ?_
    rotate_left 1
    · (intro w0 hSw; have d0 := hSw.cell (block_cell HB2.out 0) (by simp); have d1 := hSw.cell (block_cell HB2.out 1) (by simp); have d2 := hSw.cell (block_cell HB2.out 2) (by simp); have d3 := hSw.cell (block_cell HB2.out 3) (by simp); have d4 := hSw.cell (block_cell HB2.out 4) (by simp); have d5 := hSw.cell (block_cell HB2.out 5) (by simp); go_simp; try with_reducible rfl)
    simp only [List.getElem_toArray, List.getElem_cons_zero, List.getElem_cons_succ]
    go_frame
    refine wpAnyH_take (i := 8) (v := ?_) rfl (by kernel_rfl) (by kernel_rfl) (by kernel_rfl) (fun _ _ _ h => h) (Or.inl ⟨by rfl, ?_⟩) (by assumption) ?_
    rotate_left 1
    · (intro w0 hSw; go_simp; try with_reducible rfl)
    simp only [List.getElem_toArray, List.getElem_cons_zero, List.getElem_cons_succ]
    go_frame
    refine wpAnyH_ready (rs := [9]) (by kernel_rfl) (by simp) ?_
    refine AllReadyH.cons rfl (fun K hK => ?_) AllReadyH.nil
    simp only [List.getElem_toArray, List.getElem_cons_zero, List.getElem_cons_succ]
    rw [if_pos (by rfl)]
    go_simp
    go_at_call 8
    refine (HWh).mono ?_
    rintro e r9 ⟨yt, y0, y1, u0, u1, rfl, W9, g9⟩
    have HG8 : Hid (V2.grownBy r9 none) := grown_trans H0 g9
    have HSm := sameWorld_eq z1 (.slice pt z1.ts.length ct) (.slice p0 (z1.dk 0).length c0) (.slice p1 (z1.dk 1).length c1) (.slice q0 (z1.hd 0).length e0) (.slice q1 (z1.hd 1).length e1) yt y0 y1 u0 u1 Wa.heap.size V2.drew.heap.size r9 (wo_grow HW2.out HG8.out) W9
    obtain ⟨yp, yc, rfl, -⟩ := own_slice W9.ts
    obtain ⟨y0p, y0c, rfl⟩ := W9.od0.form
    obtain ⟨y1p, y1c, rfl⟩ := W9.od1.form
    obtain ⟨u0p, u0c, rfl⟩ := W9.oh0.form
    obtain ⟨u1p, u1c, rfl⟩ := W9.oh1.form
    unfold wov at HSm ⊢
    clear W9 g9 HWh
    refine hK.out _ _ (HG8.out) (fun hHeld2 => ?_)
    clear hK K
    (try go_frame)
    refine wpAnyH_ready (rs := [10]) (by kernel_rfl) (by simp) ?_
    refine AllReadyH.cons rfl (fun K hK => ?_) AllReadyH.nil
    simp only [List.getElem_toArray, List.getElem_cons_zero, List.getElem_cons_succ]
    rw [if_pos (by rfl)]
    go_simp
    go_at_call 11
    refine (HSm).mono ?_
    rintro e r8 ⟨rfl, g8⟩
    have HG9 : Hid (V2.grownBy r8 none) := grown_trans HG8.out g8
    clear g8 HSm
    refine hK.out _ _ (HG9.out) (fun hHeld2 => ?_)
    clear hK K
    (try go_frame)
    refine wpAnyH_take (i := 11) (v := ?_) rfl (by kernel_rfl) (by kernel_rfl) (by kernel_rfl) (fun _ _ _ h => h) (Or.inl ⟨by rfl, ?_⟩) (by assumption) ?_
    rotate_left 1
    · (intro w0 hSw; go_simp; try with_reducible rfl)
    simp only [List.getElem_toArray, List.getElem_cons_zero, List.getElem_cons_succ]
    go_frame
    refine wpAnyH_take (i := 12) (v := ?_) rfl (by kernel_rfl) (by kernel_rfl) (by kernel_rfl) (fun _ _ _ h => h) (Or.inl ⟨by rfl, ?_⟩) (by assumption) ?_
    rotate_left 1
    · (intro w0 hSw; go_simp; try with_reducible rfl)
    simp only [List.getElem_toArray, List.getElem_cons_zero, List.getElem_cons_succ]
    go_frame
    refine wpAnyH_done (by kernel_rfl) ?_ _
    obtain ⟨V3, hV3⟩ : ∃ V3, V3 = r8 := ⟨_, rfl⟩
    rw [← hV3] at HG9 ⊢
    have HZ3 : Hid (ZS w V3 b S1 z1) := HZ2.out.grow HG9.out
    have HY3 : Hid (ZS w V3 b2 S2 z1) := HY2.out.grow HG9.out
    clear hV3 HG9 HG8 HZ2 HY2 HW2 HB2 H0 hHeld hHeld2
    go_upto_block 2 with fail
    go_cut [15] from 101 to 119 (fun _ wc => ∃ S z S', ZS w wc b S z ∧ ZS w wc b2 S' z)
    case first =>
      go_wp2_with fail
      go_loopw [15] (fun i wr => ∃ (k : Nat) (S : List Nat) (z : Zs) (S' : List Nat), k ≤ n ∧ i = .int .i64 (k : Int) ∧ Hid (ZS w wr b S z ∧ ZS w wr b2 S' z ∧ ∀ x, x ∈ S → x ∉ S')) (fun i _ => n - (intOf i).toNat)
      case atStart => exact ⟨0, S1, z1, S2, Nat.zero_le _, rfl, HZ3.out, HY3.out, HDj.out⟩
      case round =>
        obtain ⟨k, S, z, S', hk, rfl, HR⟩ := hrel
        clear HZ3 HY3 HDj
        obtain ⟨U, hU⟩ : ∃ U, U = wr := ⟨_, rfl⟩
        subst hU
        by_cases hlt : k < n
        · obtain ⟨oq, hoq⟩ : ∃ oq, os[k]? = some oq := ⟨_, List.getElem?_eq_getElem (by have := HN.out.2.2; omega)⟩
          obtain ⟨q, vq⟩ := oq
          obtain ⟨⟨a4, k4, e4, hR4⟩, hI4⟩ := HO.out
          obtain ⟨og, off, ea, hcell⟩ := hR4 (by have := HN.out.2.2; omega)
          have e4' : a3 = a4 := by injection e4
          rw [← e4'] at ea
          subst ea
          have HRg : Hid (w.rangeAt og (off + k * 16) (opcs q vq)) := hcell k _ hoq
          have HIq : Hid (IntsB w vq q.l) := (hI4 _ (List.mem_of_getElem? hoq)).1
          have hlt' : (k : Int) < (n : Int) := by omega
          have hk0 : (0 : Int) ≤ (k : Int) := by omega
          have HKn : Hid (k + 1 ≤ n) := hlt
          have HMe : Hid (n - (intOf (.int .i64 ((k : Int) + 1))).toNat < n - (intOf (.int .i64 (k : Int))).toNat) := meas_next hlt
          have HWk : Hid (wrap64 ((k : Int) + 1) = (k : Int) + 1) := by have := Hn60.out; show _ = _; unfold wrap64; omega
          have H0 : w.grownBy U.drew none := grown_trans HR.out.1.g (grown_drew _)
          have HZd : Hid (ZS w U.drew b S z) := HR.out.1.grow (grown_drew _)
          have HYd : Hid (ZS w U.drew b2 S' z) := HR.out.2.1.grow (grown_drew _)
          have HDd : Hid (∀ x, x ∈ S → x ∉ S') := HR.out.2.2
          have HDo := do_any b S z q vq U.drew HZd.out.at_ HZd.out.sd HZd.out.old (HIq.out.keep HZd.out.g).a
          rw [← opv_cs] at HDo
          unfold TnPost at HDo
          clear hoq hR4 hI4 hcell e4 e4' hlt hk HR
          go_upto_region 21 with fail
          refine wp_region_held_drew (S := fun w' => w.grownBy w' none) (by kernel_rfl) (H0) (fun hHeld => ?_)
          refine wpAnyH_take (i := 0) (v := ?_) rfl (by kernel_rfl) (by kernel_rfl) (by kernel_rfl) (fun _ _ _ h => h) (Or.inl ⟨by rfl, ?_⟩) (by assumption) ?_
          rotate_left 1
          · (intro w0 hSw; go_simp; try with_reducible rfl)
          simp only [List.getElem_toArray, List.getElem_cons_zero]
          go_frame
          refine wpAnyH_take (i := 1) (v := ?_) rfl (by kernel_rfl) (by kernel_rfl) (by kernel_rfl) (fun _ _ _ h => h) (Or.inl ⟨by rfl, ?_⟩) (by assumption) ?_
          rotate_left 1
          · (intro w0 hSw; go_simp; try with_reducible rfl)
          simp only [List.getElem_toArray, List.getElem_cons_zero, List.getElem_cons_succ]
          go_frame
          refine wpAnyH_take (i := 2) (v := ?_) rfl (by kernel_rfl) (by kernel_rfl) (by kernel_rfl) (fun _ _ _ h => h) (Or.inl ⟨by rfl, ?_⟩) (by assumption) ?_
          rotate_left 1
          · (intro w0 hSw; go_simp; try with_reducible rfl)
          simp only [List.getElem_toArray, List.getElem_cons_zero, List.getElem_cons_succ]
          go_frame
          refine wpAnyH_take (i := 3) (v := ?_) rfl (by kernel_rfl) (by kernel_rfl) (by kernel_rfl) (fun _ _ _ h => h) (Or.inl ⟨by rfl, ?_⟩) (by assumption) ?_
          rotate_left 1
          · (intro w0 hSw; go_simp; try with_reducible rfl)
          simp only [List.getElem_toArray, List.getElem_cons_zero, List.getElem_cons_succ]
          go_frame
          refine wpAnyH_take (i := 4) (v := .agg (opcs q vq).toArray) rfl (by kernel_rfl) (by kernel_rfl) (by kernel_rfl) (fun _ _ _ h => h) (yieldsIf_load_mid (by rfl) 40 (.tmp 110) rfl og (off + k * 16) rfl (opcs q vq) _ (fun w0 hSw => rangeAt_keep HRg.out hSw) Try.underlying40 rfl (by kernel_rfl)) (by assumption) ?_
          simp only [List.getElem_toArray, List.getElem_cons_zero, List.getElem_cons_succ]
          go_frame
          refine wpAnyH_take (i := 6) (v := ?_) rfl (by kernel_rfl) (by kernel_rfl) (by kernel_rfl) (fun _ _ _ h => h) (Or.inl ⟨by rfl, ?_⟩) (by assumption) ?_
          rotate_left 1
          · (intro w0 hSw; go_simp; try with_reducible rfl)
          simp only [List.getElem_toArray, List.getElem_cons_zero, List.getElem_cons_succ]
          go_frame
          refine wpAnyH_take (i := 7) (v := ?_) rfl (by kernel_rfl) (by kernel_rfl) (by kernel_rfl) (fun _ _ _ h => h) (Or.inl ⟨by rfl, ?_⟩) (by assumption) ?_
          rotate_left 1
          · (intro w0 hSw; go_simp; try with_reducible rfl)
          simp only [List.getElem_toArray, List.getElem_cons_zero, List.getElem_cons_succ]
          go_frame
          refine wpAnyH_take (i := 8) (v := ?_) rfl (by kernel_rfl) (by kernel_rfl) (by kernel_rfl) (fun _ _ _ h => h) (Or.inl ⟨by rfl, ?_⟩) (by assumption) ?_
          rotate_left 1
          · (intro w0 hSw; go_simp; try with_reducible rfl)
          simp only [List.getElem_toArray, List.getElem_cons_zero, List.getElem_cons_succ]
          go_frame
          refine wpAnyH_take (i := 9) (v := ?_) rfl (by kernel_rfl) (by kernel_rfl) (by kernel_rfl) (fun _ _ _ h => h) (Or.inl ⟨by rfl, ?_⟩) (by assumption) ?_
          rotate_left 1
          · (intro w0 hSw; go_simp; try with_reducible rfl)
          simp only [List.getElem_toArray, List.getElem_cons_zero, List.getElem_cons_succ]
          go_frame
          refine wpAnyH_take (i := 10) (v := .agg (opcs q vq).toArray) rfl (by kernel_rfl) (by kernel_rfl) (by kernel_rfl) (fun _ _ _ h => h) (yieldsIf_load_mid (by rfl) 40 (.tmp 116) rfl og (off + k * 16) rfl (opcs q vq) _ (fun w0 hSw => rangeAt_keep HRg.out hSw) Try.underlying40 rfl (by kernel_rfl)) (by assumption) ?_
          simp only [List.getElem_toArray, List.getElem_cons_zero, List.getElem_cons_succ]
          go_frame
          refine wpAnyH_ready (rs := [5]) (by kernel_rfl) (by simp) ?_
          refine AllReadyH.cons rfl (fun K hK => ?_) AllReadyH.nil
          simp only [List.getElem_toArray, List.getElem_cons_zero, List.getElem_cons_succ]
          go_simp
          go_at_call 9
          refine (HDo).mono ?_
          rintro e V5 ⟨rfl, T1, Z5, K5⟩
          have HZ5 : Hid (ZS w V5 b T1 (z.doZ q)) := HZd.out.turn Z5 K5
          have HY5 : Hid (ZS w V5 b2 S' z) := ⟨HYd.out.at_.keep K5.kpt (fun x hx hs => HDd.out x hs hx), HYd.out.sd, fun x hx => Nat.lt_of_lt_of_le (HYd.out.old x hx) K5.kpt.size, HYd.out.new, HZ5.out.g⟩
          have HD5 : Hid (∀ x, x ∈ T1 → x ∉ S') := fun x h1 h2 => by
            rcases K5.new x h1 with h3 | h3
            · exact HDd.out x h3 h2
            · have := HYd.out.old x h2; omega
          have HDo2 := do_any b2 S' z q vq V5 HY5.out.at_ HY5.out.sd HY5.out.old (HIq.out.keep HY5.out.g).a
          rw [← opv_cs] at HDo2
          unfold TnPost at HDo2
          obtain ⟨dbq, hdbq⟩ : ∃ dbq, dbq = z.doB q := ⟨_, rfl⟩
          rw [← hdbq] at HDo2 ⊢
          clear Z5 K5 HDo hdbq HZd HYd HDd
          refine hK.out _ _ (HZ5.out.g) (fun hHeld2 => ?_)
          clear hK K
          (try go_frame)
          refine wpAnyH_ready (rs := [11]) (by kernel_rfl) (by simp) ?_
          refine AllReadyH.cons rfl (fun K hK => ?_) AllReadyH.nil
          simp only [List.getElem_toArray, List.getElem_cons_zero, List.getElem_cons_succ]
          go_simp
          go_at_call 9
          refine (HDo2).mono ?_
          rintro e V6 ⟨rfl, T2, Z6, K6⟩
          have HYe : Hid (ZS w V6 b2 T2 (z.doZ q)) := HY5.out.turn Z6 K6
          have HZe : Hid (ZS w V6 b T1 (z.doZ q)) := ⟨HZ5.out.at_.keep K6.kpt (fun x hx hs => HD5.out x hx hs), HZ5.out.sd, fun x hx => Nat.lt_of_lt_of_le (HZ5.out.old x hx) K6.kpt.size, HZ5.out.new, HYe.out.g⟩
          have HDe : Hid (∀ x, x ∈ T1 → x ∉ T2) := fun x h1 h2 => by
            rcases K6.new x h2 with h3 | h3
            · exact HD5.out x h1 h3
            · have := HZ5.out.old x h1; omega
          clear Z6 K6 HDo2 HZ5 HY5 HD5
          refine hK.out _ _ (HYe.out.g) (fun hHeld2 => ?_)
          clear hK K
          (try go_frame)
          refine wpAnyH_take (i := 12) (v := ?_) rfl (by kernel_rfl) (by kernel_rfl) (by kernel_rfl) (fun _ _ _ h => h) (Or.inl ⟨by rfl, ?_⟩) (by assumption) ?_
          rotate_left 1
          · (intro w0 hSw; go_simp; try with_reducible rfl)
          simp only [List.getElem_toArray, List.getElem_cons_zero, List.getElem_cons_succ]
          go_frame
          refine wpAnyH_done (by kernel_rfl) ?_ _
          have hbb : (dbq != dbq) = false := by simp
          go_wp2_with fail
          go_roundw
          case rel => exact ⟨k + 1, T1, z.doZ q, T2, HKn.out, by first | rfl | (rw [HWk.out]; rfl), HZe.out, HYe.out, HDe.out⟩
          case measure => first | exact HMe.out | (rw [HWk.out]; exact HMe.out)
        · have hlt' : ¬ (k : Int) < (n : Int) := by omega
          clear hlt hk
          go_wp2_with fail
          go_meet
          case rel => exact ⟨S, z, S', HR.out.1, HR.out.2.1⟩
    case rest =>
      obtain ⟨S, z, S', hZ, hY⟩ := hcut
      obtain ⟨Wb, hWb⟩ : ∃ Wb, Wb = wc := ⟨_, rfl⟩
      subst hWb
      have HZ : Hid (ZS w Wb b S z) := hZ
      have HY : Hid (ZS w Wb b2 S' z) := hY
      have HW1 := whole_any b S z Wb hZ.at_ hZ.sd hZ.old
      unfold WhPost at HW1
      clear hZ hY HZ3 HY3 HDj
      go_wp2_with fail
      refine HW1.mono ?_
      rintro e r1 ⟨vt, d0, d1, h0, h1, rfl, W1, g1⟩
      have HWo1 : Hid (WoAt r1 Wb.heap.size z vt d0 d1 h0 h1) := W1
      have HY1 : Hid (ZS w r1 b2 S' z) := HY.out.grow g1
      have HW2 := whole_any b2 S' z r1 HY1.out.at_ HY1.out.sd HY1.out.old
      unfold WhPost at HW2
      obtain ⟨va, hva⟩ : ∃ va, va = wov z vt d0 d1 h0 h1 := ⟨_, rfl⟩
      have Hva : Hid (va = wov z vt d0 d1 h0 h1) := hva
      rw [← hva]
      clear hva W1 g1 HW1
      go_wp2_with fail
      refine HW2.mono ?_
      rintro e r2 ⟨yt, y0, y1, u0, u1, rfl, W2, g2⟩
      have HSm := sameWorld_eq z vt d0 d1 h0 h1 yt y0 y1 u0 u1 Wb.heap.size r1.heap.size r2 (wo_grow HWo1.out g2) W2
      rw [← Hva.out] at HSm
      obtain ⟨vb, hvb⟩ : ∃ vb, vb = wov z yt y0 y1 u0 u1 := ⟨_, rfl⟩
      rw [← hvb] at HSm ⊢
      have HG2 : Hid (w.grownBy r2 none) := grown_trans HY1.out.g g2
      clear hvb W2 g2 HW2
      go_wp2_with fail
      refine HSm.mono ?_
      rintro e r3 ⟨rfl, g3⟩
      have HG3 : Hid (w.grownBy r3 none) := grown_trans HG2.out g3
      clear HSm g3
      go_wp2
      go_ret
      exact ⟨rfl, HG3.out⟩
end Go.Proofs.Ytogpgldbbegniaa
