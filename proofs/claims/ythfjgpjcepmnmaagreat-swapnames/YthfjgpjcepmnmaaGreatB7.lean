/-
  own: a card of which nothing lies in the memory of whoever handed it in.
-/
import Derived.Test.YthfjgpjcepmnmaaGreatS7
namespace Go.Proofs.YthfjgpjcepmnmaaGreat
open Go.RowKit

theorem setCell_self {w : World} {b i : Nat} {v : Value} {cs : Array Value} {t : TypeId} {z : Nat × Nat} (h : w.heap[b]? = some (.cells cs t z)) (hv : cs[i]? = some v) : w.setCell ⟨b, i, none⟩ v = w := by
  have hlt : b < w.heap.size := (Array.getElem?_eq_some_iff.1 h).1
  have hb : w.heap[b] = .cells cs t z := (Array.getElem?_eq_some_iff.1 h).2
  have hs : cs.setIfInBounds i v = cs := by
    apply Array.ext_getElem?
    intro k
    rw [Array.getElem?_setIfInBounds]
    split
    · rename_i e
      subst e
      rw [hv, if_pos (Array.getElem?_eq_some_iff.1 hv).1]
    · rfl
  unfold World.setCell
  cases w with
  | mk heap tape drawn os output =>
    congr 1
    apply Array.ext
    · simp
    · intro k h1 h2
      simp only [Array.getElem_modify]
      split
      · rename_i hk
        subst hk
        simp at hb
        simp [hb, hs]
      · rfl
def set9 (w : World) (b o : Nat) (h : Hd) (v : Value) : World := ((((((((w.setCell ⟨b, o, none⟩ (.string h.nm)).setCell ⟨b, o + 1, none⟩ (.int .u8 h.su)).setCell ⟨b, o + 2, none⟩ (.int .u8 h.kd)).setCell ⟨b, o + 3, none⟩ (.int .i64 h.co)).setCell ⟨b, o + 4, none⟩ (.int .i64 h.po)).setCell ⟨b, o + 5, none⟩ (.int .i64 h.he)).setCell ⟨b, o + 6, none⟩ (.int .u16 h.tr)).setCell ⟨b, o + 7, none⟩ (.bool h.tk)).setCell ⟨b, o + 8, none⟩ v
theorem grown_s9 (w : World) (b o : Nat) (h : Hd) (v : Value) : w.grownBy (set9 w b o h v) (some b) := ((((((((grown_set _ b _ _).trans (grown_set _ b _ _)).trans (grown_set _ b _ _)).trans (grown_set _ b _ _)).trans (grown_set _ b _ _)).trans (grown_set _ b _ _)).trans (grown_set _ b _ _)).trans (grown_set _ b _ _)).trans (grown_set _ b _ _)
theorem CAt.st9 {w : World} {s : Nat} {h0 h : Hd} {v0 v : Value} (k : CAt w s h0 v0) : CAt (((((((((w.setCell ⟨s, 0, none⟩ (.string h.nm)).setCell ⟨s, 1, none⟩ (.int .u8 h.su)).setCell ⟨s, 2, none⟩ (.int .u8 h.kd)).setCell ⟨s, 3, none⟩ (.int .i64 h.co)).setCell ⟨s, 4, none⟩ (.int .i64 h.po)).setCell ⟨s, 5, none⟩ (.int .i64 h.he)).setCell ⟨s, 6, none⟩ (.int .u16 h.tr)).setCell ⟨s, 7, none⟩ (.bool h.tk)).setCell ⟨s, 8, none⟩ v) s h v := by
  have k0 : w.heap[s]? = some (.cells #[(.string h0.nm), (.int .u8 h0.su), (.int .u8 h0.kd), (.int .i64 h0.co), (.int .i64 h0.po), (.int .i64 h0.he), (.int .u16 h0.tr), (.bool h0.tk), v0] 54 (0, 0)) := k
  clear k
  obtain ⟨w1, e1⟩ : ∃ x, x = w.setCell ⟨s, 0, none⟩ (.string h.nm) := ⟨_, rfl⟩
  have k1 : w1.heap[s]? = some (.cells #[(.string h.nm), (.int .u8 h0.su), (.int .u8 h0.kd), (.int .i64 h0.co), (.int .i64 h0.po), (.int .i64 h0.he), (.int .u16 h0.tr), (.bool h0.tk), v0] 54 (0, 0)) := by rw [e1]; exact block_set k0 0 _
  rw [← e1]
  clear k0 e1
  obtain ⟨w2, e2⟩ : ∃ x, x = w1.setCell ⟨s, 1, none⟩ (.int .u8 h.su) := ⟨_, rfl⟩
  have k2 : w2.heap[s]? = some (.cells #[(.string h.nm), (.int .u8 h.su), (.int .u8 h0.kd), (.int .i64 h0.co), (.int .i64 h0.po), (.int .i64 h0.he), (.int .u16 h0.tr), (.bool h0.tk), v0] 54 (0, 0)) := by rw [e2]; exact block_set k1 1 _
  rw [← e2]
  clear k1 e2
  obtain ⟨w3, e3⟩ : ∃ x, x = w2.setCell ⟨s, 2, none⟩ (.int .u8 h.kd) := ⟨_, rfl⟩
  have k3 : w3.heap[s]? = some (.cells #[(.string h.nm), (.int .u8 h.su), (.int .u8 h.kd), (.int .i64 h0.co), (.int .i64 h0.po), (.int .i64 h0.he), (.int .u16 h0.tr), (.bool h0.tk), v0] 54 (0, 0)) := by rw [e3]; exact block_set k2 2 _
  rw [← e3]
  clear k2 e3
  obtain ⟨w4, e4⟩ : ∃ x, x = w3.setCell ⟨s, 3, none⟩ (.int .i64 h.co) := ⟨_, rfl⟩
  have k4 : w4.heap[s]? = some (.cells #[(.string h.nm), (.int .u8 h.su), (.int .u8 h.kd), (.int .i64 h.co), (.int .i64 h0.po), (.int .i64 h0.he), (.int .u16 h0.tr), (.bool h0.tk), v0] 54 (0, 0)) := by rw [e4]; exact block_set k3 3 _
  rw [← e4]
  clear k3 e4
  obtain ⟨w5, e5⟩ : ∃ x, x = w4.setCell ⟨s, 4, none⟩ (.int .i64 h.po) := ⟨_, rfl⟩
  have k5 : w5.heap[s]? = some (.cells #[(.string h.nm), (.int .u8 h.su), (.int .u8 h.kd), (.int .i64 h.co), (.int .i64 h.po), (.int .i64 h0.he), (.int .u16 h0.tr), (.bool h0.tk), v0] 54 (0, 0)) := by rw [e5]; exact block_set k4 4 _
  rw [← e5]
  clear k4 e5
  obtain ⟨w6, e6⟩ : ∃ x, x = w5.setCell ⟨s, 5, none⟩ (.int .i64 h.he) := ⟨_, rfl⟩
  have k6 : w6.heap[s]? = some (.cells #[(.string h.nm), (.int .u8 h.su), (.int .u8 h.kd), (.int .i64 h.co), (.int .i64 h.po), (.int .i64 h.he), (.int .u16 h0.tr), (.bool h0.tk), v0] 54 (0, 0)) := by rw [e6]; exact block_set k5 5 _
  rw [← e6]
  clear k5 e6
  obtain ⟨w7, e7⟩ : ∃ x, x = w6.setCell ⟨s, 6, none⟩ (.int .u16 h.tr) := ⟨_, rfl⟩
  have k7 : w7.heap[s]? = some (.cells #[(.string h.nm), (.int .u8 h.su), (.int .u8 h.kd), (.int .i64 h.co), (.int .i64 h.po), (.int .i64 h.he), (.int .u16 h.tr), (.bool h0.tk), v0] 54 (0, 0)) := by rw [e7]; exact block_set k6 6 _
  rw [← e7]
  clear k6 e7
  obtain ⟨w8, e8⟩ : ∃ x, x = w7.setCell ⟨s, 7, none⟩ (.bool h.tk) := ⟨_, rfl⟩
  have k8 : w8.heap[s]? = some (.cells #[(.string h.nm), (.int .u8 h.su), (.int .u8 h.kd), (.int .i64 h.co), (.int .i64 h.po), (.int .i64 h.he), (.int .u16 h.tr), (.bool h.tk), v0] 54 (0, 0)) := by rw [e8]; exact block_set k7 7 _
  rw [← e8]
  clear k7 e8
  obtain ⟨w9, e9⟩ : ∃ x, x = w8.setCell ⟨s, 8, none⟩ v := ⟨_, rfl⟩
  have k9 : w9.heap[s]? = some (.cells #[(.string h.nm), (.int .u8 h.su), (.int .u8 h.kd), (.int .i64 h.co), (.int .i64 h.po), (.int .i64 h.he), (.int .u16 h.tr), (.bool h.tk), v] 54 (0, 0)) := by rw [e9]; exact block_set k8 8 _
  rw [← e9]
  clear k8 e9
  exact k9
theorem CAt.s9 {w : World} {b : Nat} {k : Hd} {u : Value} (h : CAt w b k u) (c : Hd) (v : Value) : CAt (set9 w b 0 c v) b c v := by
  unfold set9
  simp only [Nat.zero_add]
  exact h.st9
def Nmd (ps : List Pt) : Prop := ∀ p ∈ ps, p.nm.size ≤ 281474976710656
theorem POwn.name {w : World} {base g n cap : Nat} {ps : List Pt} (h : POwn w base (.slice (some ⟨g, 0, none⟩) n cap) ps) {k : Nat} {p : Pt} (hp : ps[k]? = some p) : w.setCell ⟨g, k * 8 + 7, none⟩ (.string p.nm) = w ∧ w.frozen? ⟨g, k * 8 + 7, none⟩ = false ∧ w.cell? ⟨g, k * 8 + 7, none⟩ = some (.string p.nm) := by
  obtain ⟨h1, ⟨h2, _⟩ | ⟨g', cap', cur, e, hb, hh, hn, hc, hz, ht⟩⟩ := h
  · cases h2
  · injection e with e1 e2 e3
    injection e1 with e1
    injection e1 with e1 _ _
    subst e1
    have hk : k < ps.length := (List.getElem?_eq_some_iff.1 hp).1
    have hv : cur[k * 8 + 7]? = some (.string p.nm) := by
      have := pcells_at ps k p hp 7 (by omega)
      rw [← ht, List.getElem?_take_of_lt (by omega)] at this
      simpa [pvs] using this
    exact ⟨setCell_self hh hv, by simp [World.frozen?, hh], by simp only [World.cell?, hh]; exact hv⟩
set_option maxRecDepth 100000 in
set_option maxHeartbeats 1000000 in
theorem own_any (h : Hd) (v : Value) (ps : List Pt) (w : World) (hp : PsAt w v ps) (hl : ps.length ≤ 4) (hn : h.nm.size ≤ 281474976710656) (hN : Nmd ps) : Calls Tryz.prog 125 #[cv h v] w fun e w' => ∃ u, e = .returned (cv h u) ∧ POwn w' w.heap.size u ps ∧ w.grownBy w' none := by
  have hb : ps.length * 40 ≤ 140737488355328 := by omega
  have hm' : Small ps.length := by unfold Small; omega
  have HN : Hid (Nmd ps) := hN
  obtain ⟨a, c, rfl⟩ := hp.form
  obtain ⟨W2, hW2⟩ : ∃ W2, W2 = (w.alloc (.cells (ccs h (.slice a ps.length c)) 54)).alloc (.cells (ccs Hd.none (.slice none 0 0)) 54) := ⟨_, rfl⟩
  have G2 : w.grownBy W2 none := by rw [hW2]; exact grown_push (World.grownBy_alloc _ _ none) _
  have A2 : CAt W2 w.heap.size h (.slice a ps.length c) := by rw [hW2]; exact CAt.keep (alloc_at w _ _) (World.grownBy_alloc _ _ none)
  have Z2 : CAt W2 (w.heap.size + 1) Hd.none (.slice none 0 0) := by
    have := alloc_at (w.alloc (.cells (ccs h (.slice a ps.length c)) 54)) (ccs Hd.none (.slice none 0 0)) 54
    rw [World.size_alloc] at this
    rw [hW2]
    exact this
  have hs2 : W2.heap.size = w.heap.size + 2 := by rw [hW2]; simp
  have HC := ccopy_any h (.slice a ps.length c) ps W2 (hp.keep G2) hb
  have HA2 : Hid (CAt W2 w.heap.size h (.slice a ps.length c)) := A2
  have HZ2 : Hid (CAt W2 (w.heap.size + 1) Hd.none (.slice none 0 0)) := Z2
  have HG2 : Hid (w.grownBy W2 none) := G2
  obtain ⟨c0, c1, c2, c3, c4, c5, c6, c7, c8⟩ := A2.cells
  unfold ccs Hd.none at hW2
  clear G2 A2 Z2 hp hN
  unfold cv at HC ⊢
  go_enter Tryz.func125, Tryz.ntmps125
  go_upto_region 1 with fail
  rw [← hW2]
  clear hW2
  go_upto_region 2 with (first | (go_at_call 193; refine HC.mono ?_; rintro e w3 ⟨u, rfl, o3, g3⟩; obtain ⟨a3, k3, rfl⟩ := o3.at.form; have HO3 : Hid (POwn w3 W2.heap.size (.slice a3 ps.length k3) ps) := o3; have HG3 : Hid (W2.grownBy w3 none) := g3; have C3 := HA2.out.keep g3; obtain ⟨d0, d1, d2, d3, d4, d5, d6, d7, d8⟩ := C3.cells; have df := fun i => C3.free i; clear o3 C3 c0 c1 c2 c3 c4 c5 c6 c7 c8) | fail)
  obtain ⟨W4, hW4⟩ : ∃ W4, W4 = set9 w3 w.heap.size 0 h (.slice a3 ps.length k3) := ⟨_, rfl⟩
  have A4 : CAt W4 w.heap.size h (.slice a3 ps.length k3) := by rw [hW4]; exact (HA2.out.keep HG3.out).s9 h _
  have Z4 : CAt W4 (w.heap.size + 1) Hd.none (.slice none 0 0) := by rw [hW4]; exact (HZ2.out.keep HG3.out).keepR (grown_s9 _ _ _ _ _) (by simp)
  have O4 : POwn W4 W2.heap.size (.slice a3 ps.length k3) ps := by rw [hW4]; exact HO3.out.keep (grown_s9 _ _ _ _ _) (fun x e => by cases e; omega)
  have G4 : w.grownBy W4 none := by rw [hW4]; exact grown_own (grown_trans HG2.out HG3.out) (grown_s9 _ _ _ _ _) (fun x e => by cases e; exact Nat.le_refl _)
  unfold set9 at hW4
  simp only [Nat.zero_add] at hW4
  rw [← hW4]
  clear hW4 d0 d1 d2 d3 d4 d5 d6 d7 d8 df HO3 HG3 g3 HA2 HZ2 HC
  have e0 := A4.cells.1
  have HA4 : Hid (CAt W4 w.heap.size h (.slice a3 ps.length k3)) := A4
  have HZ4 : Hid (CAt W4 (w.heap.size + 1) Hd.none (.slice none 0 0)) := Z4
  have HO4 : Hid (POwn W4 W2.heap.size (.slice a3 ps.length k3) ps) := O4
  have HG4 : Hid (w.grownBy W4 none) := G4
  clear A4 Z4 O4 G4
  go_upto_region 3 with (first | (go_at_call 144; refine (clone_any h.nm hn _).mono ?_; rintro e w5 ⟨rfl, g5⟩; have A5 := HA4.out.keep g5; have f0 := A5.cells.1; have ff := fun i => A5.free i; have SS : w5.setCell ⟨w.heap.size, 0, none⟩ (.string h.nm) = w5 := setCell_self A5 rfl; have HA5 : Hid (CAt w5 w.heap.size h (.slice a3 ps.length k3)) := A5; have HZ5 : Hid (CAt w5 (w.heap.size + 1) Hd.none (.slice none 0 0)) := HZ4.out.keep g5; have HO5 : Hid (POwn w5 W2.heap.size (.slice a3 ps.length k3) ps) := HO4.out.keep g5 (by simp); have HG5 : Hid (w.grownBy w5 none) := grown_trans HG4.out g5; clear A5 e0) | fail)
  have x8 := HA5.out.cells.2.2.2.2.2.2.2.2
  clear ff f0 SS
  go_wp2_with fail
  go_loopw [13] (fun i wr => ∃ k : Nat, k ≤ ps.length ∧ i = .int .i64 k ∧ CAt wr w.heap.size h (.slice a3 ps.length k3) ∧ CAt wr (w.heap.size + 1) Hd.none (.slice none 0 0) ∧ POwn wr W2.heap.size (.slice a3 ps.length k3) ps ∧ w.grownBy wr none) (fun i _ => ps.length - (intOf i).toNat)
  case atStart => exact ⟨0, Nat.zero_le _, rfl, HA5.out, HZ5.out, HO5.out, HG5.out⟩
  case round =>
    obtain ⟨k, hk, rfl, A, Z, O, G⟩ := hrel
    have HA : Hid (CAt wr w.heap.size h (.slice a3 ps.length k3)) := A
    have HZ : Hid (CAt wr (w.heap.size + 1) Hd.none (.slice none 0 0)) := Z
    have HO : Hid (POwn wr W2.heap.size (.slice a3 ps.length k3) ps) := O
    have HG : Hid (w.grownBy wr none) := G
    clear A Z O G HA5 HZ5 HO5 HG5 x8
    rcases (show k = ps.length ∨ k < ps.length from by omega) with hke | hlt
    · clear hk hl hb
      subst hke
      obtain ⟨c0, c1, c2, c3, c4, c5, c6, c7, c8⟩ := HA.out.cells
      obtain ⟨z0, z1, z2, z3, z4, z5, z6, z7, z8⟩ := HZ.out.cells
      have zf := fun i => HZ.out.free i
      simp only [Hd.none] at z0 z1 z2 z3 z4 z5 z6 z7 z8
      go_wp2
      refine bodyPost_ret (v := cv h (.slice a3 ps.length k3)) (by simp [results, Tryz.results125, go_sem, z0, z1, z2, z3, z4, z5, z6, z7, z8, cv]) rfl ⟨.slice a3 ps.length k3, rfl, ?_, ?_⟩
      · have := (HO.out.keep (grown_s9 wr (w.heap.size + 1) 0 h (.slice a3 ps.length k3)) (fun x e => by cases e; omega)).big (show w.heap.size ≤ W2.heap.size by omega)
        unfold set9 at this
        simp only [Nat.zero_add] at this
        exact this
      · have := grown_own HG.out (grown_s9 wr (w.heap.size + 1) 0 h (.slice a3 ps.length k3)) (fun x e => by cases e; omega)
        unfold set9 at this
        simp only [Nat.zero_add] at this
        exact this
    · have hlt' : (k : Int) < (ps.length : Int) := by omega
      have hk0 : (0 : Int) ≤ (k : Int) := by omega
      have hw := hm'.wrap hlt
      obtain ⟨p, hp⟩ : ∃ p, ps[k]? = some p := ⟨_, List.getElem?_eq_getElem hlt⟩
      obtain ⟨g, rfl⟩ : ∃ g, a3 = some ⟨g, 0, none⟩ := by
        rcases HO.out with ⟨_, ⟨e, h2⟩ | ⟨g, cap, cur, e, _⟩⟩
        · rw [h2] at hlt; omega
        · injection e with e1; exact ⟨g, e1⟩
      obtain ⟨_, _, n1⟩ := HO.out.name hp
      have c8 := HA.out.cells.2.2.2.2.2.2.2.2
      have hsz := HN.out p (List.mem_of_getElem? hp)
      have HP : Hid (ps[k]? = some p) := hp
      clear hp
      go_upto_region 6 with fail
      go_region_with (first | (go_at_call 144; refine (clone_any p.nm hsz _).mono ?_; rintro e w6 ⟨rfl, g6⟩; have G6 : Hid (wr.grownBy w6 none) := grown_trans (grown_drew _) g6; have c86 := (HA.out.keep G6.out).cells.2.2.2.2.2.2.2.2; obtain ⟨S6, F6, N6⟩ := (HO.out.keep G6.out (by simp)).name HP.out) | fail)
      all_goals
        go_wp2_with fail
        go_roundw
        case rel => exact ⟨k + 1, hlt, by first | rfl | (rw [hw]; rfl), HA.out.keep G6.out, HZ.out.keep G6.out, HO.out.keep G6.out (by simp), grown_trans HG.out G6.out⟩
        case measure => first | exact meas_next hlt | (rw [hw]; exact meas_next hlt)
end Go.Proofs.YthfjgpjcepmnmaaGreat
