/-
  BookNumbers, walked.
-/
import Derived.Test.YtmepidalecdmkaaNumP
namespace Go.Proofs.Ytmepidalecdmkaa
open Go.RowKit

set_option maxRecDepth 100000 in
set_option maxHeartbeats 4000000 in
theorem numbers_any (vc vt vm v : Value) (h : Hd) (cs : List Ent) (ts : List ByteArray) (ms : List Mk) (ps : List Pt) (w : World) (F : FillAt w vc vt vm cs ts ms) (hp : PsAt w v ps) (sm : Small ps.length) : Calls Try.prog 4 #[fv vc vt vm, cv h v] w fun e w' => e = .returned (.bool true) ∧ w.grownBy w' none := by
  have HF : Hid (FillAt w vc vt vm cs ts ms) := F
  have HP : Hid (PsAt w v ps) := hp
  obtain ⟨⟨ca, ck, rfl, _⟩, ⟨ta, tk, rfl, _⟩, ⟨ma, mk', rfl, _⟩, _⟩ := F
  obtain ⟨px, py, rfl⟩ := hp.form
  clear hp
  obtain ⟨W1, hW1⟩ : ∃ W1, W1 = (w.alloc (.cells #[.slice ca cs.length ck, .slice ta ts.length tk, .slice ma ms.length mk'] 26)).alloc (.cells (ccs h (.slice px ps.length py)) 44) := ⟨_, rfl⟩
  have HG1 : Hid (w.grownBy W1 none) := by rw [hW1]; exact grown_push (World.grownBy_alloc _ _ none) _
  have HA1 : Hid (W1.heap[w.heap.size]? = some (.cells #[.slice ca cs.length ck, .slice ta ts.length tk, .slice ma ms.length mk'] 26 (0, 0))) := by rw [hW1]; exact grown_keep (World.grownBy_alloc _ _ none) (alloc_at w _ _) (by simp)
  have HC1 : Hid (CAt W1 (w.heap.size + 1) h (.slice px ps.length py)) := by rw [hW1]; have := alloc_at (w.alloc (.cells #[.slice ca cs.length ck, .slice ta ts.length tk, .slice ma ms.length mk'] 26)) (ccs h (.slice px ps.length py)) 44; rw [World.size_alloc] at this; exact this
  unfold ccs at hW1
  unfold fv cv
  go_enter Try.func4, Try.ntmps4
  go_upto_region 1 with fail
  rw [← hW1]
  clear hW1
  go_wp2_with fail
  refine (awake_any _).mono ?_
  rintro e W2 ⟨rfl, g2⟩
  have HG2 : Hid (w.grownBy W2 none) := grown_trans HG1.out g2
  have A2 := grown_keep g2 HA1.out (by simp)
  have HC2 : Hid (CAt W2 (w.heap.size + 1) h (.slice px ps.length py)) := HC1.out.keepR g2 (by simp)
  have a0 : W2.cell? ⟨w.heap.size, 0, none⟩ = some (.slice ca cs.length ck) := block_cell A2 0
  have a1 : W2.cell? ⟨w.heap.size, 1, none⟩ = some (.slice ta ts.length tk) := block_cell A2 1
  have a2 : W2.cell? ⟨w.heap.size, 2, none⟩ = some (.slice ma ms.length mk') := block_cell A2 2
  clear HG1 HA1 HC1 g2 A2
  by_cases h1 : 80 < cs.length
  · have h1' : (80 : Int) < (cs.length : Int) := by omega
    go_wp2
    go_ret
    exact ⟨rfl, HG2.out⟩
  by_cases h2 : 8 < ts.length
  · have h1' : ¬ (80 : Int) < (cs.length : Int) := by omega
    have h2' : (8 : Int) < (ts.length : Int) := by omega
    go_wp2
    go_ret
    exact ⟨rfl, HG2.out⟩
  by_cases h3 : 8 < ms.length
  · have h1' : ¬ (80 : Int) < (cs.length : Int) := by omega
    have h2' : ¬ (8 : Int) < (ts.length : Int) := by omega
    have h3' : (8 : Int) < (ms.length : Int) := by omega
    go_wp2
    go_ret
    exact ⟨rfl, HG2.out⟩
  have h1' : ¬ (80 : Int) < (cs.length : Int) := by omega
  have h2' : ¬ (8 : Int) < (ts.length : Int) := by omega
  have h3' : ¬ (8 : Int) < (ms.length : Int) := by omega
  have HA := added_any _ _ _ (.slice none 0 0) cs ts ms [] W2 (HF.out.keep HG2.out) ⟨none, 0, rfl, fun h0 => by simp at h0⟩ (by omega) (by omega) (by omega) (by simp)
  unfold fv at HA
  go_wp2_with fail
  refine HA.mono ?_
  rintro e W3 ⟨l, es, p, r, rfl, Fl, _, B3, g3⟩
  clear HA a0 a1 a2 h1 h2 h3 h1' h2' h3'
  obtain ⟨b, hb⟩ : ∃ b, b = W2.heap.size + 1 := ⟨_, rfl⟩
  rw [← hb] at B3 ⊢
  obtain ⟨ok, hok⟩ : ∃ ok : Nat → Prop, ok = fun k => ¬ k = b := ⟨_, rfl⟩
  have nb : ¬ ok b := by rw [hok]; simp
  have hwb : w.heap.size ≤ b := by rw [hb]; have := HG2.out.size; omega
  have hcb : w.heap.size + 1 < b := by have := block_lt HC2.out; omega
  have HB3 : Hid (Book ok W3 b es p) := B3.mono (fun i hi => by rw [hok]; intro e; rw [e] at hi; exact absurd hi (by rw [hb]; omega))
  have nw : ∀ W : World, b < W.heap.size → ∀ k, W.heap.size ≤ k → ok k := fun W h k hk => by rw [hok]; intro e; omega
  have HG3 : Hid (w.grownBy W3 none) := grown_trans HG2.out g3
  have HC3 : Hid (CAt W3 (w.heap.size + 1) h (.slice px ps.length py)) := HC2.out.keepR g3 (by simp)
  have opn := Fl.opn
  have HU : Hid ((names es).Nodup) := Fl.unlike
  have HR : Hid (HF.out = HF.out) := rfl
  clear B3 g3 Fl HC2 HG2 HF HR hb hok
  go_wp2_with fail
  refine (bseal ok b es p _ HB3.out nb).mono ?_
  rintro e W4 ⟨rfl, B4, g4⟩
  have HG4 : Hid (w.grownBy W4 none) := grown_own HG3.out g4 (fun x e => by cases e; exact hwb)
  have HC4 : Hid (CAt W4 (w.heap.size + 1) h (.slice px ps.length py)) := HC3.out.keepR g4 (by simp; omega)
  clear g4 HB3 HG3 HC3
  rcases sealE_vals es opn with h0 | h6 | h8
  rotate_left
  · rw [sealP_no (by rw [h6]; decide)] at B4
    rw [h6]
    have HS := sealed_yes b es.length p W4 B4.lies.flags
    rw [opn] at HS
    clear B4
    go_wp2_with fail
    refine HS.mono ?_
    rintro e W5 ⟨rfl, rfl⟩
    go_wp2
    go_ret
    exact ⟨rfl, HG4.out⟩
  · rw [sealP_no (by rw [h8]; decide)] at B4
    rw [h8]
    have HS := sealed_yes b es.length p W4 B4.lies.flags
    rw [opn] at HS
    clear B4
    go_wp2_with fail
    refine HS.mono ?_
    rintro e W5 ⟨rfl, rfl⟩
    go_wp2
    go_ret
    exact ⟨rfl, HG4.out⟩
  rw [sealP_zero h0] at B4
  have HL0 : Hid (∀ e ∈ es, callsE es e.ps = 0) := by unfold sealE at h0; rw [opn, if_neg (by simp)] at h0; exact sealL_mem h0
  rw [h0]
  clear h0 opn
  obtain ⟨q, hq⟩ : ∃ q, q = shutP p := ⟨_, rfl⟩
  have qs : q.shut = true := by rw [hq]; rfl
  have q1 : sealE q es = 7 := by rw [hq]; exact sealE_shut p es
  have q2 : sealP q es = q := by rw [hq]; exact sealP_shut p es
  have q3 : ∀ c, caE q es c = 7 := fun c => by rw [hq]; exact caE_shut p es c
  have q4 : ∀ t s, trE q t s = 7 := fun t s => by rw [hq]; exact trE_shut p t s
  have q5 : ∀ t s, trP q t s = q := fun t s => by rw [hq]; exact trP_shut p t s
  have q6 : ∀ m, maE q m = 7 := fun m => by rw [hq]; exact maE_shut p m
  have q7 : ∀ m, maP q m = q := fun m => by rw [hq]; exact maP_shut p m
  rw [← hq] at B4
  clear hq
  have HB4 : Hid (Book ok W4 b es q) := B4
  clear B4
  go_wp2_with fail
  refine (len_yes b es.length HB4.out.lies.len q _ HB4.out.lies.flags).mono ?_
  rintro e W5 ⟨rfl, g5, s5⟩
  have HB5 : Hid (Book ok W5 b es q) := HB4.out.keep g5
  have HG5 : Hid (w.grownBy W5 none) := grown_trans HG4.out g5
  have HC5 : Hid (CAt W5 (w.heap.size + 1) h (.slice px ps.length py)) := HC4.out.keepR g5 (by simp)
  clear g5 s5 HB4 HG4 HC4
  go_wp2_with fail
  refine (bseal ok b es q _ HB5.out nb).mono ?_
  rw [q1, q2]
  rintro e W6 ⟨rfl, B6, g6⟩
  have HG6 : Hid (w.grownBy W6 none) := grown_own HG5.out g6 (fun x e => by cases e; exact hwb)
  have HC6 : Hid (CAt W6 (w.heap.size + 1) h (.slice px ps.length py)) := HC5.out.keepR g6 (by simp; omega)
  clear g6 HB5 HG5 HC5
  have HK := bcard ok b es q h (.slice px ps.length py) ps W6 B6 nb (nw _ B6.lt) (HP.out.keep HG6.out) sm
  rw [q3] at HK
  unfold cv at HK
  obtain ⟨z0, z1, z2, z3, z4, z5, z6, z7, z8⟩ := HC6.out.cells
  clear HC6 B6
  go_wp2_with fail
  refine HK.mono ?_
  rintro e W7 ⟨_, rfl, B7, g7⟩
  rw [if_neg (by decide)] at B7
  have HG7 : Hid (w.grownBy W7 none) := grown_own HG6.out g7 (fun x e => by cases e; exact hwb)
  clear g7 HG6 HK z0 z1 z2 z3 z4 z5 z6 z7 z8
  go_wp2_with fail
  refine (btrait ok b es q 1 _ _ B7 nb).mono ?_
  rw [q4, q5]
  rintro e W8 ⟨rfl, B8, g8⟩
  have HG8 : Hid (w.grownBy W8 none) := grown_own HG7.out g8 (fun x e => by cases e; exact hwb)
  clear g8 HG7 B7
  have HM := bmark ok b es q ⟨1, ⟨#[109, 111, 114, 101]⟩, 0, 0⟩ _ B8 nb
  rw [q6, q7] at HM
  unfold mv at HM
  go_wp2_with fail
  refine HM.mono ?_
  rintro e W9 ⟨rfl, B9, g9⟩
  have HG9 : Hid (w.grownBy W9 none) := grown_own HG8.out g9 (fun x e => by cases e; exact hwb)
  have hl : es.length ≤ 64 := B9.lies.len
  clear g9 HG8 B8 HM
  go_wp2_with fail
  refine (len_yes b es.length B9.lies.len q _ B9.lies.flags).mono ?_
  rintro e W10 ⟨rfl, g10, s10⟩
  have HG10 : Hid (w.grownBy W10 none) := grown_trans HG9.out g10
  obtain ⟨ok2, hok2⟩ : ∃ ok2 : Nat → Prop, ok2 = fun k => ok k ∧ k < W10.heap.size := ⟨_, rfl⟩
  have B10 : Book ok2 W10 b es q := by rw [hok2]; exact (B9.keep g10).old
  obtain ⟨L, hL⟩ : ∃ L, L = W9.heap.size := ⟨_, rfl⟩
  have hL2 : W10.heap.size = L := by rw [s10, hL]
  have nL : ∀ k, ok2 k → some k ≠ some L := fun k hk e => by rw [hok2] at hk; cases e; have := hk.2; omega
  have nbL : some b ≠ some L := fun e => by cases e; have := B10.lt; omega
  have hwL : w.heap.size ≤ L := by have := HG10.out.size; omega
  clear hok2
  obtain ⟨W11, hW11⟩ : ∃ W11, W11 = W10.alloc (.cells (ccs Hd.none (.slice none 0 0)) 44) := ⟨_, rfl⟩
  have HG11 : Hid (w.grownBy W11 none) := by rw [hW11]; exact grown_push HG10.out _
  have HB11 : Hid (Book ok2 W11 b es q) := by rw [hW11]; exact B10.keep (World.grownBy_alloc _ _ none)
  have HC11 : Hid (CAt W11 L Hd.none (.slice none 0 0)) := by rw [hW11, ← hL2]; exact alloc_at W10 _ _
  unfold ccs Hd.none at hW11
  have hl' : ¬ (64 : Int) < (es.length : Int) := by omega
  have HL2 : Hid (W10.heap.size = L) := hL2
  clear g10 HG9 B9 B10 HG10 hL2 s10
  go_upto_region 12 with fail
  rw [← hW11, HL2.out]
  clear hW11 hL HL2 hl'
  have hsm : Small (es.length + 2) := by unfold Small; omega
  go_wp2_with fail
  go_loopw [11] (fun x11 wr => ∃ n : Nat, 1 ≤ n ∧ n ≤ es.length + 1 ∧ x11 = .int .i64 (n : Int) ∧ Book ok2 wr b es q ∧ (∃ hl a k c, CAt wr L hl (.slice a k c) ∧ ∀ e, 1 < n → es[n - 2]? = some e → hl = e.h) ∧ w.grownBy wr none) (fun x11 _ => es.length + 2 - (intOf x11).toNat)
  case atStart => exact ⟨1, Nat.le_refl _, by omega, rfl, HB11.out, ⟨_, _, _, _, HC11.out, fun e h1 => absurd h1 (by decide)⟩, HG11.out⟩
  case round =>
    obtain ⟨n, hn1, hn, rfl, B, ⟨hl, la, lk, lc, C, HLs⟩, G⟩ := hrel
    have HB : Hid (Book ok2 wr b es q) := B
    have HC : Hid (CAt wr L hl (.slice la lk lc)) := C
    have HLa : Hid (∀ e, 1 < n → es[n - 2]? = some e → hl = e.h) := HLs
    have HG : Hid (w.grownBy wr none) := G
    clear B C HLs G HB11 HC11 HG11
    rcases (show n = es.length + 1 ∨ n < es.length + 1 from by omega) with hne | hlt
    · have ne : ¬ (n : Int) ≤ (es.length : Int) := by omega
      have HN : Hid (¬ atIn q es 0 ∧ ¬ atIn q es ((es.length : Int) + 1)) := ⟨fun h => by have := h.2.1; omega, fun h => by have := h.2.2; omega⟩
      have HwN : Hid (wrap64 ((es.length : Int) + 1) = (es.length : Int) + 1) := hsm.wrap (by omega)
      have HA := at_out b es q 0 wr HB.out.lies HN.out.1
      clear hne hn1 hn
      unfold cv Hd.none at HA
      go_wp2_with fail
      refine HA.mono ?_
      rintro e V1 ⟨rfl, g1⟩
      have HA2 := fun W (g : V1.grownBy W none) => at_out b es q ((es.length : Int) + 1) W ((HB.out.keep g1).keep g).lies HN.out.2
      unfold cv Hd.none at HA2
      have wN := HwN.out
      go_wp2_with fail
      clear wN
      refine (HA2 _ (World.grownBy_alloc _ _ none)).mono ?_
      rintro e V2 ⟨rfl, g2⟩
      go_wp2
      go_ret
      exact ⟨rfl, grown_push (grown_trans (grown_push (grown_trans HG.out g1) _) g2) _⟩
    · obtain ⟨m, hm⟩ : ∃ m, m = n - 1 := ⟨_, rfl⟩
      have en : (n : Int) = (m : Int) + 1 := by omega
      have ml : m < es.length := by omega
      obtain ⟨e0, he0⟩ : ∃ e, es[m]? = some e := ⟨_, List.getElem?_eq_getElem ml⟩
      have mem0 : e0 ∈ es := List.mem_of_getElem? he0
      have HA := at_in ok2 b es q m e0 wr HB.out.lies HB.out.good qs he0 (HB.out.parts e0 mem0)
      rw [← en] at HA
      have HCalls : Hid (∀ p ∈ e0.ps, callE es p = 0) := callsE_mem (HL0.out e0 mem0)
      have HAh : Hid (1 < n → Ahd hl e0.h) := fun h1 => by
        obtain ⟨e1, he1⟩ : ∃ e, es[n - 2]? = some e := ⟨_, List.getElem?_eq_getElem (by omega)⟩
        rw [HLa.out e1 h1 he1]
        exact HB.out.srt.at he1 he0 (by omega)
      have HPos : Hid (pos (names es) e0.h.nm = m) := pos_at HU.out he0
      have HNext : Hid (∀ e, 1 < n + 1 → es[n + 1 - 2]? = some e → e0.h = e.h) := fun e _ he => by
        rw [show n + 1 - 2 = m by omega, he0] at he
        rw [Option.some.inj he]
      have p4 : e0.ps.length ≤ 4 := HB.out.parts e0 mem0
      have HEn : Hid ((n : Int) = (m : Int) + 1) := en
      clear he0 mem0 hm HLa en
      obtain ⟨hd, v0, ps0⟩ := e0
      simp only at HA HCalls HAh HPos HNext p4
      unfold cv at HA
      have nle : (n : Int) ≤ (es.length : Int) := by omega
      go_wp2_with fail
      refine HA.mono ?_
      rintro e V1 ⟨u, rfl, O1, g1⟩
      have HP1 : Hid (PsAt V1 u ps0) := O1.at
      obtain ⟨x, y, rfl⟩ := O1.at.form
      obtain ⟨X, hX⟩ : ∃ X, X = V1.heap.size := ⟨_, rfl⟩
      obtain ⟨V2, hV2⟩ : ∃ V2, V2 = V1.alloc (.cells (ccs hd (.slice x ps0.length y)) 44) := ⟨_, rfl⟩
      have g2 : V1.grownBy V2 none := by rw [hV2]; exact World.grownBy_alloc _ _ none
      have HX : Hid (CAt V2 X hd (.slice x ps0.length y)) := by rw [hV2, hX]; exact alloc_at V1 _ _
      have HB2 : Hid (Book ok2 V2 b es q) := (HB.out.keep g1).keep g2
      have HC2 : Hid (CAt V2 L hl (.slice la lk lc)) := (HC.out.keepR g1 (by simp)).keepR g2 (by simp)
      have HG2 : Hid (w.grownBy V2 none) := grown_trans HG.out (grown_trans g1 g2)
      have HP2 : Hid (PsAt V2 (.slice x ps0.length y) ps0) := HP1.out.keep g2
      unfold ccs at hV2
      clear O1 HP1 HB HC HG HA g1 g2
      go_upto_region 16 with fail
      rw [← hV2, ← hX]
      clear hV2 hX
      have HF := find_yes b es q hd.nm V2 HB2.out.lies HB2.out.good.slc
      rw [HPos.out, show fndN q.shut (m : Int) = (n : Int) by unfold fndN; rw [qs, if_pos ⟨rfl, by omega⟩, HEn.out], show fndE q.shut (m : Int) = 0 by unfold fndE; rw [qs, if_pos ⟨rfl, by omega⟩]] at HF
      obtain ⟨z0, z1, z2, z3, z4, z5, z6, z7, z8⟩ := HX.out.cells
      go_wp2_with fail
      refine HF.mono ?_
      rintro e V3 ⟨rfl, g3⟩
      clear z0 z1 z2 z3 z4 z5 z6 z7 z8 HF
      have HX3 : Hid (CAt V3 X hd (.slice x ps0.length y)) := HX.out.keepR g3 (by simp)
      have HB3 : Hid (Book ok2 V3 b es q) := HB2.out.keep g3
      have HC3 : Hid (CAt V3 L hl (.slice la lk lc)) := HC2.out.keepR g3 (by simp)
      have HG3 : Hid (w.grownBy V3 none) := grown_trans HG2.out g3
      have HP3 : Hid (PsAt V3 (.slice x ps0.length y) ps0) := HP2.out.keep g3
      clear HX HB2 HC2 HG2 HP2 g3
      obtain ⟨z0, z1, z2, z3, z4, z5, z6, z7, z8⟩ := HX3.out.cells
      obtain ⟨y0, y1, y2, y3, y4, y5, y6, y7, y8⟩ := HC3.out.cells
      go_upto_region 17 with fail
      go_cut [151] from 116 to 150 (fun v wc => v = .bool false ∧ wc = V3)
      case first =>
        rcases (show n = 1 ∨ 1 < n from by omega) with h1 | h1
        · have h1' : ¬ (1 : Int) < (n : Int) := by omega
          clear h1
          go_wp2_with fail
          go_meet
          case rel => exact ⟨rfl, rfl⟩
        · have h1' : (1 : Int) < (n : Int) := by omega
          rcases HAh.out h1 with k1 | ⟨k1, k2⟩
          · have k3 : ¬ hd.su < hl.su := by omega
            have k4 : ¬ hd.su = hl.su := by omega
            have k5 : (hd.su == hl.su) = false := by simpa using k4
            go_wp2_with fail
            go_meet
            case rel => exact ⟨rfl, rfl⟩
          · have k3 : ¬ hd.su < hl.su := by omega
            have k5 : (hd.su == hl.su) = true := by simpa using k1.symm
            have k7 : Op.bytesLess hd.nm.toList hl.nm.toList = false := by have h9 := bLt_eq hd.nm hl.nm; unfold bLt at h9; rw [h9]; exact decide_eq_false (fun h => List.lt_irrefl _ (List.lt_trans k2 h))
            have k8 : (hd.nm.toList == hl.nm.toList) = false := bytes_no (fun e => by rw [e] at k2; exact List.lt_irrefl _ k2)
            clear k1 k2
            go_wp2_with fail
            go_meet
            case rel => exact ⟨rfl, rfl⟩
      case rest =>
        obtain ⟨rfl, hwc⟩ := hcut
        obtain rfl : V3 = wc := hwc.symm
        clear y0 y1 y2 y3 y4 y5 y6 y7 y8 z0 z1 z2 z3 z4 z5 z6 z7 z8 HAh HPos
        have hs4 : Small ps0.length := by unfold Small; omega
        go_wp2_with fail
        go_loopw [16] (fun x16 wr => ∃ j : Nat, j ≤ ps0.length ∧ x16 = .int .i64 (j : Int) ∧ V3.grownBy wr none) (fun x16 _ => ps0.length - (intOf x16).toNat)
        case atStart => exact ⟨0, Nat.zero_le _, rfl, grown_refl _ _⟩
        case round =>
          obtain ⟨j, hj, rfl, Gj⟩ := hrel
          obtain ⟨U, hU⟩ : ∃ U, U = wr := ⟨_, rfl⟩
          subst hU
          have HGj : Hid (V3.grownBy U none) := Gj
          clear Gj
          have HXj := HX3.out.keepR HGj.out (by simp)
          obtain ⟨z0, z1, z2, z3, z4, z5, z6, z7, z8⟩ := HXj.cells
          rcases (show j = ps0.length ∨ j < ps0.length from by omega) with hje | hjl
          · have jn : ¬ (j : Int) < (ps0.length : Int) := by omega
            have HCj := HC3.out.keepR HGj.out (by simp)
            have yf := fun i => HCj.free i
            obtain ⟨y0, y1, y2, y3, y4, y5, y6, y7, y8⟩ := HCj.cells
            obtain ⟨U9, hU9⟩ : ∃ U9, U9 = set9 U L 0 hd (.slice x ps0.length y) := ⟨_, rfl⟩
            have HBj : Hid (Book ok2 U9 b es q) := by rw [hU9]; exact (HB3.out.keep HGj.out).keepR (grown_s9 _ _ _ _ _) nbL nL
            have HCs : Hid (CAt U9 L hd (.slice x ps0.length y)) := by rw [hU9]; exact HCj.s9 _ _
            have HGs : Hid (w.grownBy U9 none) := by rw [hU9]; exact grown_own (grown_trans HG3.out HGj.out) (grown_s9 _ _ _ _ _) (fun x e => by cases e; exact hwL)
            have hn2 : n < es.length + 2 := by omega
            have hn3 : 1 ≤ n + 1 := by omega
            have hn4 : n + 1 ≤ es.length + 1 := by omega
            clear hje HCj HXj
            unfold set9 at hU9
            simp only [Nat.zero_add] at hU9
            go_upto_region 14 with fail
            rw [← hU9]
            clear hU9
            go_wp2_with fail
            go_roundw
            case rel => exact ⟨n + 1, hn3, hn4, by first | rfl | (rw [hsm.wrap hn2]; rfl), HBj.out, ⟨_, _, _, _, HCs.out, HNext.out⟩, HGs.out⟩
            case measure => first | exact meas_next hn2 | (rw [hsm.wrap hn2]; exact meas_next hn2)
          · have jl : (j : Int) < (ps0.length : Int) := by omega
            have j0 : (0 : Int) ≤ (j : Int) := by omega
            obtain ⟨g, off, cap, ev, hP8⟩ := (HP3.out.keep HGj.out).part (by omega)
            injection ev with e1 _ e3
            subst e1
            subst e3
            obtain ⟨p, hp⟩ : ∃ p, ps0[j]? = some p := ⟨_, List.getElem?_eq_getElem hjl⟩
            have HCp := HCalls.out p (List.mem_of_getElem? hp)
            obtain ⟨q0, q1', q2', q3', q4', q5', q6', q7'⟩ := hP8 j p hp
            by_cases h7 : p.vb = 7
            · obtain ⟨m', e', he', hpos, hkd⟩ := callE_zero HCp h7
              have HF := find_yes b es q p.nm U (HB3.out.keep HGj.out).lies HB3.out.good.slc
              rw [hpos, show fndN q.shut (m' : Int) = (m' : Int) + 1 by unfold fndN; rw [qs, if_pos ⟨rfl, by omega⟩], show fndE q.shut (m' : Int) = 0 by unfold fndE; rw [qs, if_pos ⟨rfl, by omega⟩]] at HF
              have hv : (p.vb != 7) = false := by simp [h7]
              have hk' : (e'.h.kd == 2) = false := by simpa using hkd
              clear HCp h7 hpos hP8 hp
              go_wp2_with fail
              refine HF.mono ?_
              rintro e U2 ⟨rfl, g2⟩
              have B2 := (HB3.out.keep HGj.out).keep g2
              have HA := at_in ok2 b es q m' e' U2 B2.lies B2.good qs he' (B2.parts e' (List.mem_of_getElem? he'))
              clear B2
              unfold cv at HA
              go_wp2_with fail
              refine HA.mono ?_
              rintro e U3 ⟨u3, rfl, O3, g3⟩
              obtain ⟨x3, y3, rfl⟩ := O3.at.form
              have HG4 : Hid (V3.grownBy U3 none) := grown_trans HGj.out (grown_trans g2 g3)
              clear O3 g2 g3 HA HF z0 z1 z2 z3 z4 z5 z6 z7 z8 q0 q1' q2' q3' q4' q5' q6' q7'
              go_wp2_with fail
              go_roundw
              case rel => exact ⟨j + 1, hjl, by first | rfl | (rw [hs4.wrap hjl]; rfl), grown_push HG4.out _⟩
              case measure => first | exact meas_next hjl | (rw [hs4.wrap hjl]; exact meas_next hjl)
            · have hv : (p.vb != 7) = true := by simpa using h7
              go_wp2_with fail
              go_roundw
              case rel => exact ⟨j + 1, hjl, by first | rfl | (rw [hs4.wrap hjl]; rfl), HGj.out⟩
              case measure => first | exact meas_next hjl | (rw [hs4.wrap hjl]; exact meas_next hjl)
end Go.Proofs.Ytmepidalecdmkaa
