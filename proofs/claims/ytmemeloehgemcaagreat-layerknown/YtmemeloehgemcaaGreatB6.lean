/-
  slices.BinarySearchFunc over a row of cards in their order: how many stand ahead of a card.
-/
import Derived.Test.YtmemeloehgemcaaGreatK9
namespace Go.Proofs.YtmemeloehgemcaaGreat
open Go.RowKit

def AheadTo (es : List Ent) (c : Hd) (m : Nat) : Prop := ∀ (j : Nat) e, es[j]? = some e → (ord e.h c < 0 ↔ j < m)
theorem meas_bs {x q y : Nat} (h : x ≤ q) (k : q < y) : (intOf (.int .i64 (y : Int))).toNat - (intOf (.int .i64 ((q : Int) + 1))).toNat < (intOf (.int .i64 (y : Int))).toNat - (intOf (.int .i64 (x : Int))).toNat := by simp [intOf]; omega
theorem meas_bs2 {x q y : Nat} (h : x ≤ q) (k : q < y) : (intOf (.int .i64 (q : Int))).toNat - (intOf (.int .i64 (x : Int))).toNat < (intOf (.int .i64 (y : Int))).toNat - (intOf (.int .i64 (x : Int))).toNat := by simp [intOf]; omega
set_option maxRecDepth 100000 in
set_option maxHeartbeats 1000000 in
theorem bsearch_any (g o cap : Nat) (es : List Ent) (c : Hd) (vc : Value) (m : Nat) (w : World) (hE : EsAt w g o es) (hs : Slc es) (hc : ∃ a n k, vc = .slice a n k) (hm : AheadTo es c m) (hl : es.length ≤ 64) (hml : m ≤ es.length) : Calls Tryz.prog 121 #[.slice (some ⟨g, o, none⟩) es.length cap, cv c vc, .func (.func 122) #[] #[]] w fun e w' => (∃ f, e = .returned (.tuple #[.int .i64 m, .bool f])) ∧ w.grownBy w' none := by
  obtain ⟨a, n, k, rfl⟩ := hc
  obtain ⟨W1, hW1⟩ : ∃ W1, W1 = w.alloc (.cells (ccs c (.slice a n k)) 88) := ⟨_, rfl⟩
  have HG1 : Hid (w.grownBy W1 none) := by rw [hW1]; exact World.grownBy_alloc _ _ none
  have HC1 : Hid (CAt W1 w.heap.size c (.slice a n k)) := by rw [hW1]; exact alloc_at w _ _
  have HE : Hid (EsAt W1 g o es) := hE.keep HG1.out
  have HS : Hid (Slc es) := hs
  have HM : Hid (AheadTo es c m) := hm
  unfold ccs at hW1
  unfold cv
  clear hE hs hm
  go_enter Tryz.func121, Tryz.ntmps121
  go_upto_region 1 with fail
  rw [← hW1]
  clear hW1
  go_wp2_with fail
  go_loopw [9, 10] (fun i j wr => ∃ x y : Nat, i = .int .i64 x ∧ j = .int .i64 y ∧ x ≤ m ∧ m ≤ y ∧ y ≤ es.length ∧ W1.grownBy wr none) (fun i j _ => (intOf j).toNat - (intOf i).toNat)
  case atStart => exact ⟨0, es.length, rfl, rfl, Nat.zero_le _, hml, Nat.le_refl _, grown_refl _ _⟩
  case round =>
    obtain ⟨x, y, rfl, rfl, hx, hy, hyl, G⟩ := hrel
    have HG : Hid (W1.grownBy wr none) := G
    clear G
    rcases (show x = y ∨ x < y from by omega) with hxy | hxy
    · obtain rfl : x = m := by omega
      subst hxy
      clear hx hy
      rcases (show x = es.length ∨ x < es.length from by omega) with hxl | hQ
      · subst hxl
        go_upto_region 8 with fail
        go_quiet (fail)
        go_wp2
        go_ret2
        exact ⟨⟨_, rfl⟩, grown_trans (grown_trans HG1.out HG.out) (grown_drewN _ _ _)⟩
      · have hb : (x : Int) < (es.length : Int) := by omega
        have hb' : (0 : Int) ≤ (x : Int) := by omega
        obtain ⟨e, hent⟩ : ∃ e, es[x]? = some e := ⟨_, List.getElem?_eq_getElem hQ⟩
        obtain ⟨a1, a2, a3, hv⟩ := HS.out e (List.mem_of_getElem? hent)
        have D := (HE.out x e hent).keep (grown_trans HG.out (grown_drew _))
        rw [hv] at D
        have CC := HC1.out.keep (grown_trans HG.out (grown_drew _))
        have KD : Hid (∀ ww, wr.drew.grownBy ww none → C9 ww g (o + x * 9) e.h (.slice a1 a2 a3)) := fun ww hh => D.keep hh
        have KC : Hid (∀ ww, wr.drew.grownBy ww none → CAt ww w.heap.size c (.slice a n k)) := fun ww hh => CC.keep hh
        have HO : Hid (ord e.h c < 0 ↔ x < x) := HM.out x e hent
        obtain ⟨d0, d1, d2, d3, d4, d5, d6, d7, d8⟩ := D
        obtain ⟨z0, z1, z2, z3, z4, z5, z6, z7, z8⟩ := CC.cells
        clear CC hent hv
        go_upto_region 8 with fail
        go_region_held3 (fun w' => w'.cell? ⟨g, o + x * 9, none⟩ = some (.string e.h.nm) ∧ w'.cell? ⟨g, o + x * 9 + 1, none⟩ = some (.int .u8 e.h.su) ∧ w'.cell? ⟨g, o + x * 9 + 2, none⟩ = some (.int .u8 e.h.kd) ∧ w'.cell? ⟨g, o + x * 9 + 3, none⟩ = some (.int .i64 e.h.co) ∧ w'.cell? ⟨g, o + x * 9 + 4, none⟩ = some (.int .i64 e.h.po) ∧ w'.cell? ⟨g, o + x * 9 + 5, none⟩ = some (.int .i64 e.h.he) ∧ w'.cell? ⟨g, o + x * 9 + 6, none⟩ = some (.int .u16 e.h.tr) ∧ w'.cell? ⟨g, o + x * 9 + 7, none⟩ = some (.bool e.h.tk) ∧ w'.cell? ⟨g, o + x * 9 + 8, none⟩ = some (.slice a1 a2 a3) ∧ w'.cell? ⟨w.heap.size, 0, none⟩ = some (.string c.nm) ∧ w'.cell? ⟨w.heap.size, 1, none⟩ = some (.int .u8 c.su) ∧ w'.cell? ⟨w.heap.size, 2, none⟩ = some (.int .u8 c.kd) ∧ w'.cell? ⟨w.heap.size, 3, none⟩ = some (.int .i64 c.co) ∧ w'.cell? ⟨w.heap.size, 4, none⟩ = some (.int .i64 c.po) ∧ w'.cell? ⟨w.heap.size, 5, none⟩ = some (.int .i64 c.he) ∧ w'.cell? ⟨w.heap.size, 6, none⟩ = some (.int .u16 c.tr) ∧ w'.cell? ⟨w.heap.size, 7, none⟩ = some (.bool c.tk) ∧ w'.cell? ⟨w.heap.size, 8, none⟩ = some (.slice a n k)) (first | exact ⟨d0, d1, d2, d3, d4, d5, d6, d7, d8, z0, z1, z2, z3, z4, z5, z6, z7, z8⟩ | exact ⟨p0, p1, p2, p3, p4, p5, p6, p7, p8, q0, q1, q2, q3, q4, q5, q6, q7, q8⟩) (first | (go_at_call 122; refine (inOrder_any e.h c (.slice a1 a2 a3) (.slice a n k) _ ⟨_, _, _, rfl⟩ ⟨_, _, _, rfl⟩).mono ?_; rintro e1 w3 ⟨rfl, g3⟩; have G3 : Hid (W1.grownBy w3 none) := grown_trans (grown_trans HG.out (grown_drew _)) g3; obtain ⟨p0, p1, p2, p3, p4, p5, p6, p7, p8⟩ := KD.out _ g3; obtain ⟨q0, q1, q2, q3, q4, q5, q6, q7, q8⟩ := (KC.out _ g3).cells))
        go_wp2
        go_ret2
        exact ⟨⟨_, rfl⟩, grown_trans HG1.out G3.out⟩
    · have hxy' : (x : Int) < (y : Int) := by omega
      have w1 : wrap64 ((x : Int) + (y : Int)) = (x : Int) + (y : Int) := by unfold wrap64; omega
      obtain ⟨q, hq⟩ : ∃ q : Nat, ((x : Int) + (y : Int)) / 2 = (q : Int) := ⟨(x + y) / 2, by omega⟩
      have hQ : q < es.length := by omega
      have hqx : x ≤ q := by omega
      have hqy : q < y := by omega
      have w2 : wrap64 ((q : Int) + 1) = (q : Int) + 1 := by unfold wrap64; omega
      have k0 : (0 : Int) ≤ (q : Int) := by omega
      have k1 : (q : Int) < (es.length : Int) := by omega
      have HQ : Hid (((x : Int) + (y : Int)) / 2 = (q : Int)) := hq
      clear hq
      obtain ⟨e, hent⟩ : ∃ e, es[q]? = some e := ⟨_, List.getElem?_eq_getElem hQ⟩
      obtain ⟨a1, a2, a3, hv⟩ := HS.out e (List.mem_of_getElem? hent)
      have D := (HE.out q e hent).keep (grown_trans HG.out (grown_drew _))
      rw [hv] at D
      have CC := HC1.out.keep (grown_trans HG.out (grown_drew _))
      have KD : Hid (∀ ww, wr.drew.grownBy ww none → C9 ww g (o + q * 9) e.h (.slice a1 a2 a3)) := fun ww hh => D.keep hh
      have KC : Hid (∀ ww, wr.drew.grownBy ww none → CAt ww w.heap.size c (.slice a n k)) := fun ww hh => CC.keep hh
      have HO : Hid (ord e.h c < 0 ↔ q < m) := HM.out q e hent
      obtain ⟨d0, d1, d2, d3, d4, d5, d6, d7, d8⟩ := D
      obtain ⟨z0, z1, z2, z3, z4, z5, z6, z7, z8⟩ := CC.cells
      clear CC hent hv
      go_upto_region 5 with fail
      rw [HQ.out]
      by_cases hord : ord e.h c < 0
      · have hqm : q < m := HO.out.1 hord
        go_region_held3 (fun w' => w'.cell? ⟨g, o + q * 9, none⟩ = some (.string e.h.nm) ∧ w'.cell? ⟨g, o + q * 9 + 1, none⟩ = some (.int .u8 e.h.su) ∧ w'.cell? ⟨g, o + q * 9 + 2, none⟩ = some (.int .u8 e.h.kd) ∧ w'.cell? ⟨g, o + q * 9 + 3, none⟩ = some (.int .i64 e.h.co) ∧ w'.cell? ⟨g, o + q * 9 + 4, none⟩ = some (.int .i64 e.h.po) ∧ w'.cell? ⟨g, o + q * 9 + 5, none⟩ = some (.int .i64 e.h.he) ∧ w'.cell? ⟨g, o + q * 9 + 6, none⟩ = some (.int .u16 e.h.tr) ∧ w'.cell? ⟨g, o + q * 9 + 7, none⟩ = some (.bool e.h.tk) ∧ w'.cell? ⟨g, o + q * 9 + 8, none⟩ = some (.slice a1 a2 a3) ∧ w'.cell? ⟨w.heap.size, 0, none⟩ = some (.string c.nm) ∧ w'.cell? ⟨w.heap.size, 1, none⟩ = some (.int .u8 c.su) ∧ w'.cell? ⟨w.heap.size, 2, none⟩ = some (.int .u8 c.kd) ∧ w'.cell? ⟨w.heap.size, 3, none⟩ = some (.int .i64 c.co) ∧ w'.cell? ⟨w.heap.size, 4, none⟩ = some (.int .i64 c.po) ∧ w'.cell? ⟨w.heap.size, 5, none⟩ = some (.int .i64 c.he) ∧ w'.cell? ⟨w.heap.size, 6, none⟩ = some (.int .u16 c.tr) ∧ w'.cell? ⟨w.heap.size, 7, none⟩ = some (.bool c.tk) ∧ w'.cell? ⟨w.heap.size, 8, none⟩ = some (.slice a n k)) (first | exact ⟨d0, d1, d2, d3, d4, d5, d6, d7, d8, z0, z1, z2, z3, z4, z5, z6, z7, z8⟩ | exact ⟨p0, p1, p2, p3, p4, p5, p6, p7, p8, q0, q1, q2, q3, q4, q5, q6, q7, q8⟩) (first | (go_at_call 122; refine (inOrder_any e.h c (.slice a1 a2 a3) (.slice a n k) _ ⟨_, _, _, rfl⟩ ⟨_, _, _, rfl⟩).mono ?_; rintro e1 w3 ⟨rfl, g3⟩; have G3 : Hid (W1.grownBy w3 none) := grown_trans (grown_trans HG.out (grown_drew _)) g3; obtain ⟨p0, p1, p2, p3, p4, p5, p6, p7, p8⟩ := KD.out _ g3; obtain ⟨q0, q1, q2, q3, q4, q5, q6, q7, q8⟩ := (KC.out _ g3).cells))
        go_wp2_with fail
        go_roundw
        case rel => exact ⟨q + 1, y, by first | rfl | (rw [w2]; rfl), rfl, by omega, hy, hyl, G3.out⟩
        case measure => first | exact meas_bs hqx hqy | (rw [w2]; exact meas_bs hqx hqy)
      · have hqm : m ≤ q := by have := mt HO.out.2 hord; omega
        have hord' : 0 ≤ ord e.h c := by omega
        clear hord
        go_region_held3 (fun w' => w'.cell? ⟨g, o + q * 9, none⟩ = some (.string e.h.nm) ∧ w'.cell? ⟨g, o + q * 9 + 1, none⟩ = some (.int .u8 e.h.su) ∧ w'.cell? ⟨g, o + q * 9 + 2, none⟩ = some (.int .u8 e.h.kd) ∧ w'.cell? ⟨g, o + q * 9 + 3, none⟩ = some (.int .i64 e.h.co) ∧ w'.cell? ⟨g, o + q * 9 + 4, none⟩ = some (.int .i64 e.h.po) ∧ w'.cell? ⟨g, o + q * 9 + 5, none⟩ = some (.int .i64 e.h.he) ∧ w'.cell? ⟨g, o + q * 9 + 6, none⟩ = some (.int .u16 e.h.tr) ∧ w'.cell? ⟨g, o + q * 9 + 7, none⟩ = some (.bool e.h.tk) ∧ w'.cell? ⟨g, o + q * 9 + 8, none⟩ = some (.slice a1 a2 a3) ∧ w'.cell? ⟨w.heap.size, 0, none⟩ = some (.string c.nm) ∧ w'.cell? ⟨w.heap.size, 1, none⟩ = some (.int .u8 c.su) ∧ w'.cell? ⟨w.heap.size, 2, none⟩ = some (.int .u8 c.kd) ∧ w'.cell? ⟨w.heap.size, 3, none⟩ = some (.int .i64 c.co) ∧ w'.cell? ⟨w.heap.size, 4, none⟩ = some (.int .i64 c.po) ∧ w'.cell? ⟨w.heap.size, 5, none⟩ = some (.int .i64 c.he) ∧ w'.cell? ⟨w.heap.size, 6, none⟩ = some (.int .u16 c.tr) ∧ w'.cell? ⟨w.heap.size, 7, none⟩ = some (.bool c.tk) ∧ w'.cell? ⟨w.heap.size, 8, none⟩ = some (.slice a n k)) (first | exact ⟨d0, d1, d2, d3, d4, d5, d6, d7, d8, z0, z1, z2, z3, z4, z5, z6, z7, z8⟩ | exact ⟨p0, p1, p2, p3, p4, p5, p6, p7, p8, q0, q1, q2, q3, q4, q5, q6, q7, q8⟩) (first | (go_at_call 122; refine (inOrder_any e.h c (.slice a1 a2 a3) (.slice a n k) _ ⟨_, _, _, rfl⟩ ⟨_, _, _, rfl⟩).mono ?_; rintro e1 w3 ⟨rfl, g3⟩; have G3 : Hid (W1.grownBy w3 none) := grown_trans (grown_trans HG.out (grown_drew _)) g3; obtain ⟨p0, p1, p2, p3, p4, p5, p6, p7, p8⟩ := KD.out _ g3; obtain ⟨q0, q1, q2, q3, q4, q5, q6, q7, q8⟩ := (KC.out _ g3).cells))
        go_wp2_with fail
        go_roundw
        case rel => exact ⟨x, q, rfl, rfl, hx, hqm, by omega, G3.out⟩
        case measure => exact meas_bs2 hqx hqy
end Go.Proofs.YtmemeloehgemcaaGreat
