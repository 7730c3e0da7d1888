/-
  thing.Marked, of every book made, features and marks.
-/
import Derived.Test.YtogpgldbbegniabA21
namespace Go.Proofs.Ytogpgldbbegniab
open Go.RowKit

/-- While marks are added: where the features and the answer lie. -/
structure MkS (w wr : World) (F R : Nat) (a b c d e : Int) : Prop where
  g : w.grownBy wr none
  f : wr.heap[F]? = some (.cells #[.int .i64 a, .int .u8 b, .int .u16 c, .int .i64 d, .int .i64 e] 30 (0, 0))
  r : wr.heap[R]? = some (.cells #[.int .i64 0, .int .u8 0, .int .u16 0, .int .i64 0, .int .i64 0] 30 (0, 0))
  hF : w.heap.size ≤ F
  hR : w.heap.size ≤ R
  ne : ¬ F = R
theorem MkS.grow {w wr w2 : World} {F R : Nat} {a b c d e : Int} (h : MkS w wr F R a b c d e) (g : wr.grownBy w2 none) : MkS w w2 F R a b c d e := ⟨grown_trans h.g g, grown_keep g h.f (by simp), grown_keep g h.r (by simp), h.hF, h.hR, h.ne⟩
theorem MkS.set3 {w wr : World} {F R : Nat} {a b c d e : Int} (h : MkS w wr F R a b c d e) (x : Int) : MkS w (wr.setCell ⟨F, 3, none⟩ (.int .i64 x)) F R a b c x e := ⟨grown_own h.g (grown_set _ _ _ _) (fun y e => by cases e; exact h.hF), block_set h.f _ _, grown_keep (grown_set wr F 3 (.int .i64 x)) h.r (fun e => by injection e with e; exact h.ne e.symm), h.hF, h.hR, h.ne⟩
theorem MkS.set4 {w wr : World} {F R : Nat} {a b c d e : Int} (h : MkS w wr F R a b c d e) (x : Int) : MkS w (wr.setCell ⟨F, 4, none⟩ (.int .i64 x)) F R a b c d x := ⟨grown_own h.g (grown_set _ _ _ _) (fun y e => by cases e; exact h.hF), block_set h.f _ _, grown_keep (grown_set wr F 4 (.int .i64 x)) h.r (fun e => by injection e with e; exact h.ne e.symm), h.hF, h.hR, h.ne⟩
theorem alloc2_at (w : World) (o : Obj) (cs : Array Value) (t : TypeId) : ((w.alloc o).alloc (.cells cs t)).heap[w.heap.size + 1]? = some (.cells cs t (0, 0)) := by have := alloc_at (w.alloc o) cs t; rwa [World.size_alloc] at this
theorem alloc3_at (w : World) (o o2 : Obj) (cs : Array Value) (t : TypeId) : (((w.alloc o).alloc o2).alloc (.cells cs t)).heap[w.heap.size + 1 + 1]? = some (.cells cs t (0, 0)) := by have := alloc_at ((w.alloc o).alloc o2) cs t; rwa [World.size_alloc, World.size_alloc] at this
/-- The first k marks, added. -/
def zk (p : Pl) (c0 c1 c2 c3 : Int) (k : Nat) : List (Int × Mk) := (zs p c0 c1 c2 c3).take k
theorem low0_max (a : Int) : low0 a = max a 0 := by unfold low0; split <;> omega
set_option maxRecDepth 100000 in
set_option maxHeartbeats 8000000 in
theorem marked_yes (ok : Nat → Prop) (b : Nat) (es : List Ent) (p : Pl) (f : Fe) (c0 c1 c2 c3 : Int) (w : World) (B : Book ok w b es p) (hc : okcs c0 c1 c2 c3 = true) : Calls Try.prog 6 #[.pointer (some ⟨b, 0, none⟩), fev f, .agg #[.int .i64 c0, .int .i64 c1, .int .i64 c2, .int .i64 c3]] w fun e w' => e = .returned (.tuple #[fev (mkdF p f c0 c1 c2 c3), .int .i64 0]) ∧ w.grownBy w' none := by
  have i0 := ixf0 c0 c1 c2 c3
  have i1 := ixf1 c0 c1 c2 c3
  have i2 := ixf2 c0 c1 c2 c3
  have i3 := ixf3 c0 c1 c2 c3
  obtain ⟨W, hW⟩ : ∃ W, W = ((w.alloc (.cells (fcs f) 30)).alloc (.cells #[.int .i64 c0, .int .i64 c1, .int .i64 c2, .int .i64 c3] 31)).alloc (.cells #[.int .i64 0, .int .u8 0, .int .u16 0, .int .i64 0, .int .i64 0] 30) := ⟨_, rfl⟩
  have HS0 : Hid (MkS w W w.heap.size (w.heap.size + 1 + 1) f.ho f.su f.tr f.po f.he) := by
    rw [hW]
    refine ⟨grown_push (grown_push (World.grownBy_alloc _ _ none) _) _, ?_, ?_, Nat.le_refl _, by omega, by omega⟩
    · exact grown_keep (World.grownBy_alloc _ _ none) (grown_keep (World.grownBy_alloc _ _ none) (alloc_at w _ _) (by simp)) (by simp)
    · exact alloc3_at _ _ _ _ _
  have HA4 : Hid (W.heap[w.heap.size + 1]? = some (.cells #[.int .i64 c0, .int .i64 c1, .int .i64 c2, .int .i64 c3] 31 (0, 0))) := by
    rw [hW]
    exact grown_keep (World.grownBy_alloc _ _ none) (alloc2_at _ _ _ _) (by simp)
  have HB : Hid (Book ok w b es p) := B
  have HIB := tisBook_yes ok b es p W (B.keep HS0.out.g)
  have HML := fun X => tmayLie_any c0 c1 c2 c3 X
  rw [hc] at HML
  unfold fcs at hW
  unfold fev
  clear B hc
  go_enter Try.func6, Try.ntmps6
  go_upto_region 1 with fail
  rw [← hW]
  clear hW
  obtain ⟨F, hF⟩ : ∃ F, F = w.heap.size := ⟨_, rfl⟩
  rw [← hF] at HS0 HA4 ⊢
  obtain ⟨V, hV⟩ : ∃ V, V = F + 1 := ⟨_, rfl⟩
  simp only [← hV] at HS0 HA4 ⊢
  obtain ⟨R, hR⟩ : ∃ R, R = V + 1 := ⟨_, rfl⟩
  simp only [← hR] at HS0 ⊢
  clear hF hR hV
  go_wp2_with fail
  refine HIB.mono ?_
  rintro e w1 ⟨rfl, g1⟩
  have HS1 : Hid (MkS w w1 F R f.ho f.su f.tr f.po f.he) := HS0.out.grow g1
  have HA1 : Hid (w1.heap[V]? = some (.cells #[.int .i64 c0, .int .i64 c1, .int .i64 c2, .int .i64 c3] 31 (0, 0))) := grown_keep g1 HA4.out (by simp)
  clear HS0 HA4 g1 HIB
  have x0 := block_cell HA1.out 0
  have x1 := block_cell HA1.out 1
  have x2 := block_cell HA1.out 2
  have x3 := block_cell HA1.out 3
  go_wp2_with fail
  refine (HML w1).mono ?_
  rintro e w2 ⟨rfl, g2⟩
  have HS2 : Hid (MkS w w2 F R f.ho f.su f.tr f.po f.he) := HS1.out.grow g2
  have HA2 : Hid (w2.heap[V]? = some (.cells #[.int .i64 c0, .int .i64 c1, .int .i64 c2, .int .i64 c3] 31 (0, 0))) := grown_keep g2 HA1.out (by simp)
  clear HS1 HA1 g2 HML x0 x1 x2 x3
  have x0 := block_cell HA2.out 0
  have x1 := block_cell HA2.out 1
  have x2 := block_cell HA2.out 2
  have x3 := block_cell HA2.out 3
  go_wp2_with fail
  clear x0 x1 x2 x3
  go_loopw [8, 9, 10, 11, 23] (fun _ _ _ _ x wr => ∃ k : Nat, k ≤ 4 ∧ x = .int .i64 (k : Int) ∧ Hid (MkS w wr F R f.ho f.su f.tr (addP f.po (zk p c0 c1 c2 c3 k)) (addH f.he (zk p c0 c1 c2 c3 k)))) (fun _ _ _ _ x _ => 4 - (intOf x).toNat)
  case atStart => exact ⟨0, by decide, rfl, HS2⟩
  case round =>
    obtain ⟨k, hk, rfl, HS⟩ := hrel
    clear HS2 HA2
    obtain ⟨pk, hpk⟩ : ∃ pk, pk = addP f.po (zk p c0 c1 c2 c3 k) := ⟨_, rfl⟩
    obtain ⟨hk2, hhk⟩ : ∃ hk2, hk2 = addH f.he (zk p c0 c1 c2 c3 k) := ⟨_, rfl⟩
    rw [← hpk, ← hhk] at HS
    have HPk : Hid (pk = addP f.po (zk p c0 c1 c2 c3 k)) := hpk
    have HHk : Hid (hk2 = addH f.he (zk p c0 c1 c2 c3 k)) := hhk
    clear hpk hhk
    rcases (show k = 0 ∨ k = 1 ∨ k = 2 ∨ k = 3 ∨ k = 4 from by omega) with rfl | rfl | rfl | rfl | rfl
    · obtain ⟨⟨mi, mn, mp, mh⟩, hm⟩ : ∃ m, m = moM p 1 := ⟨_, rfl⟩
      have HM := markOf_yes b es p 1 (by decide) wr (HB.out.keep HS.out.g).lies
      rw [← hm] at HM
      unfold mv at HM
      have HP : Hid (addP f.po (zk p c0 c1 c2 c3 1) = wrap64 (pk + wrap64 (c0 * mp))) := by
        have q := HPk.out
        show addP f.po (zk p c0 c1 c2 c3 0 ++ [(c0, moM p 1)]) = _
        rw [addP_snoc, ← hm, ← q]
        rfl
      have HH : Hid (addH f.he (zk p c0 c1 c2 c3 1) = wrap64 (hk2 + wrap64 (c0 * mh))) := by
        have q := HHk.out
        show addH f.he (zk p c0 c1 c2 c3 0 ++ [(c0, moM p 1)]) = _
        rw [addH_snoc, ← hm, ← q]
        rfl
      have HMo : Hid (moB p 1 = moB p 1) := rfl
      obtain ⟨mb, hmb⟩ : ∃ mb, mb = moB p 1 := ⟨_, rfl⟩
      rw [← hmb] at HM
      clear hm hmb HPk HHk HMo
      go_upto_region 9 with (first | (go_at_call 24; refine HM.mono ?_; rintro e w2 ⟨rfl, g2⟩; have HG2 : Hid (wr.grownBy w2 none) := g2; clear g2) | fail)
      obtain ⟨X, hX⟩ : ∃ X, X = w2.alloc (.cells #[.int .u8 mi, .string mn, .int .i64 mp, .int .i64 mh] 69) := ⟨_, rfl⟩
      have HX : Hid (MkS w X F R f.ho f.su f.tr pk hk2) := by rw [hX]; exact (HS.out.grow HG2.out).grow (World.grownBy_alloc _ _ none)
      have HXm : Hid (X.heap[w2.heap.size]? = some (.cells #[.int .u8 mi, .string mn, .int .i64 mp, .int .i64 mh] 69 (0, 0))) := by rw [hX]; exact alloc_at _ _ _
      rw [← hX]
      clear hX HM
      obtain ⟨G, hG⟩ : ∃ G, G = w2.heap.size := ⟨_, rfl⟩
      rw [← hG] at HXm ⊢
      clear hG
      have y3 := block_cell HX.out.f 3
      have y4 := block_cell HX.out.f 4
      have yf := fun i => block_free HX.out.f i
      have z2 := block_cell HXm.out 2
      have z3 := block_cell HXm.out 3
      have HN : Hid (¬ F = G) := fun e => by
        have a := HX.out.f
        have c := HXm.out
        rw [e, c] at a
        cases a
      have hne : ¬ F = G := HN.out
      have hne' : ¬ G = F := fun e => HN.out e.symm
      clear HN
      go_wp2
      go_roundw
      case rel => exact ⟨1, by decide, rfl, by rw [HP.out, HH.out]; exact (HX.out.set3 _).set4 _⟩
      case measure => simp [intOf]
    · obtain ⟨⟨mi, mn, mp, mh⟩, hm⟩ : ∃ m, m = moM p 2 := ⟨_, rfl⟩
      have HM := markOf_yes b es p 2 (by decide) wr (HB.out.keep HS.out.g).lies
      rw [← hm] at HM
      unfold mv at HM
      have HP : Hid (addP f.po (zk p c0 c1 c2 c3 2) = wrap64 (pk + wrap64 (c1 * mp))) := by
        have q := HPk.out
        show addP f.po (zk p c0 c1 c2 c3 1 ++ [(c1, moM p 2)]) = _
        rw [addP_snoc, ← hm, ← q]
        rfl
      have HH : Hid (addH f.he (zk p c0 c1 c2 c3 2) = wrap64 (hk2 + wrap64 (c1 * mh))) := by
        have q := HHk.out
        show addH f.he (zk p c0 c1 c2 c3 1 ++ [(c1, moM p 2)]) = _
        rw [addH_snoc, ← hm, ← q]
        rfl
      have HMo : Hid (moB p 2 = moB p 2) := rfl
      obtain ⟨mb, hmb⟩ : ∃ mb, mb = moB p 2 := ⟨_, rfl⟩
      rw [← hmb] at HM
      clear hm hmb HPk HHk HMo
      go_upto_region 9 with (first | (go_at_call 24; refine HM.mono ?_; rintro e w2 ⟨rfl, g2⟩; have HG2 : Hid (wr.grownBy w2 none) := g2; clear g2) | fail)
      obtain ⟨X, hX⟩ : ∃ X, X = w2.alloc (.cells #[.int .u8 mi, .string mn, .int .i64 mp, .int .i64 mh] 69) := ⟨_, rfl⟩
      have HX : Hid (MkS w X F R f.ho f.su f.tr pk hk2) := by rw [hX]; exact (HS.out.grow HG2.out).grow (World.grownBy_alloc _ _ none)
      have HXm : Hid (X.heap[w2.heap.size]? = some (.cells #[.int .u8 mi, .string mn, .int .i64 mp, .int .i64 mh] 69 (0, 0))) := by rw [hX]; exact alloc_at _ _ _
      rw [← hX]
      clear hX HM
      obtain ⟨G, hG⟩ : ∃ G, G = w2.heap.size := ⟨_, rfl⟩
      rw [← hG] at HXm ⊢
      clear hG
      have y3 := block_cell HX.out.f 3
      have y4 := block_cell HX.out.f 4
      have yf := fun i => block_free HX.out.f i
      have z2 := block_cell HXm.out 2
      have z3 := block_cell HXm.out 3
      have HN : Hid (¬ F = G) := fun e => by
        have a := HX.out.f
        have c := HXm.out
        rw [e, c] at a
        cases a
      have hne : ¬ F = G := HN.out
      have hne' : ¬ G = F := fun e => HN.out e.symm
      clear HN
      go_wp2
      go_roundw
      case rel => exact ⟨2, by decide, rfl, by rw [HP.out, HH.out]; exact (HX.out.set3 _).set4 _⟩
      case measure => simp [intOf]
    · obtain ⟨⟨mi, mn, mp, mh⟩, hm⟩ : ∃ m, m = moM p 3 := ⟨_, rfl⟩
      have HM := markOf_yes b es p 3 (by decide) wr (HB.out.keep HS.out.g).lies
      rw [← hm] at HM
      unfold mv at HM
      have HP : Hid (addP f.po (zk p c0 c1 c2 c3 3) = wrap64 (pk + wrap64 (c2 * mp))) := by
        have q := HPk.out
        show addP f.po (zk p c0 c1 c2 c3 2 ++ [(c2, moM p 3)]) = _
        rw [addP_snoc, ← hm, ← q]
        rfl
      have HH : Hid (addH f.he (zk p c0 c1 c2 c3 3) = wrap64 (hk2 + wrap64 (c2 * mh))) := by
        have q := HHk.out
        show addH f.he (zk p c0 c1 c2 c3 2 ++ [(c2, moM p 3)]) = _
        rw [addH_snoc, ← hm, ← q]
        rfl
      have HMo : Hid (moB p 3 = moB p 3) := rfl
      obtain ⟨mb, hmb⟩ : ∃ mb, mb = moB p 3 := ⟨_, rfl⟩
      rw [← hmb] at HM
      clear hm hmb HPk HHk HMo
      go_upto_region 9 with (first | (go_at_call 24; refine HM.mono ?_; rintro e w2 ⟨rfl, g2⟩; have HG2 : Hid (wr.grownBy w2 none) := g2; clear g2) | fail)
      obtain ⟨X, hX⟩ : ∃ X, X = w2.alloc (.cells #[.int .u8 mi, .string mn, .int .i64 mp, .int .i64 mh] 69) := ⟨_, rfl⟩
      have HX : Hid (MkS w X F R f.ho f.su f.tr pk hk2) := by rw [hX]; exact (HS.out.grow HG2.out).grow (World.grownBy_alloc _ _ none)
      have HXm : Hid (X.heap[w2.heap.size]? = some (.cells #[.int .u8 mi, .string mn, .int .i64 mp, .int .i64 mh] 69 (0, 0))) := by rw [hX]; exact alloc_at _ _ _
      rw [← hX]
      clear hX HM
      obtain ⟨G, hG⟩ : ∃ G, G = w2.heap.size := ⟨_, rfl⟩
      rw [← hG] at HXm ⊢
      clear hG
      have y3 := block_cell HX.out.f 3
      have y4 := block_cell HX.out.f 4
      have yf := fun i => block_free HX.out.f i
      have z2 := block_cell HXm.out 2
      have z3 := block_cell HXm.out 3
      have HN : Hid (¬ F = G) := fun e => by
        have a := HX.out.f
        have c := HXm.out
        rw [e, c] at a
        cases a
      have hne : ¬ F = G := HN.out
      have hne' : ¬ G = F := fun e => HN.out e.symm
      clear HN
      go_wp2
      go_roundw
      case rel => exact ⟨3, by decide, rfl, by rw [HP.out, HH.out]; exact (HX.out.set3 _).set4 _⟩
      case measure => simp [intOf]
    · obtain ⟨⟨mi, mn, mp, mh⟩, hm⟩ : ∃ m, m = moM p 4 := ⟨_, rfl⟩
      have HM := markOf_yes b es p 4 (by decide) wr (HB.out.keep HS.out.g).lies
      rw [← hm] at HM
      unfold mv at HM
      have HP : Hid (addP f.po (zk p c0 c1 c2 c3 4) = wrap64 (pk + wrap64 (c3 * mp))) := by
        have q := HPk.out
        show addP f.po (zk p c0 c1 c2 c3 3 ++ [(c3, moM p 4)]) = _
        rw [addP_snoc, ← hm, ← q]
        rfl
      have HH : Hid (addH f.he (zk p c0 c1 c2 c3 4) = wrap64 (hk2 + wrap64 (c3 * mh))) := by
        have q := HHk.out
        show addH f.he (zk p c0 c1 c2 c3 3 ++ [(c3, moM p 4)]) = _
        rw [addH_snoc, ← hm, ← q]
        rfl
      have HMo : Hid (moB p 4 = moB p 4) := rfl
      obtain ⟨mb, hmb⟩ : ∃ mb, mb = moB p 4 := ⟨_, rfl⟩
      rw [← hmb] at HM
      clear hm hmb HPk HHk HMo
      go_upto_region 9 with (first | (go_at_call 24; refine HM.mono ?_; rintro e w2 ⟨rfl, g2⟩; have HG2 : Hid (wr.grownBy w2 none) := g2; clear g2) | fail)
      obtain ⟨X, hX⟩ : ∃ X, X = w2.alloc (.cells #[.int .u8 mi, .string mn, .int .i64 mp, .int .i64 mh] 69) := ⟨_, rfl⟩
      have HX : Hid (MkS w X F R f.ho f.su f.tr pk hk2) := by rw [hX]; exact (HS.out.grow HG2.out).grow (World.grownBy_alloc _ _ none)
      have HXm : Hid (X.heap[w2.heap.size]? = some (.cells #[.int .u8 mi, .string mn, .int .i64 mp, .int .i64 mh] 69 (0, 0))) := by rw [hX]; exact alloc_at _ _ _
      rw [← hX]
      clear hX HM
      obtain ⟨G, hG⟩ : ∃ G, G = w2.heap.size := ⟨_, rfl⟩
      rw [← hG] at HXm ⊢
      clear hG
      have y3 := block_cell HX.out.f 3
      have y4 := block_cell HX.out.f 4
      have yf := fun i => block_free HX.out.f i
      have z2 := block_cell HXm.out 2
      have z3 := block_cell HXm.out 3
      have HN : Hid (¬ F = G) := fun e => by
        have a := HX.out.f
        have c := HXm.out
        rw [e, c] at a
        cases a
      have hne : ¬ F = G := HN.out
      have hne' : ¬ G = F := fun e => HN.out e.symm
      clear HN
      go_wp2
      go_roundw
      case rel => exact ⟨4, by decide, rfl, by rw [HP.out, HH.out]; exact (HX.out.set3 _).set4 _⟩
      case measure => simp [intOf]
    · have HE : Hid (mkdF p f c0 c1 c2 c3 = ⟨f.ho, f.su, f.tr, max pk 0, hk2⟩) := by
        show mkdF p f c0 c1 c2 c3 = _
        unfold mkdF
        rw [low0_max, HPk.out, HHk.out]
        rfl
      clear HPk HHk i0 i1 i2 i3
      have y0 := block_cell HS.out.f 0
      have y1 := block_cell HS.out.f 1
      have y2 := block_cell HS.out.f 2
      have y3 := block_cell HS.out.f 3
      have y4 := block_cell HS.out.f 4
      have yf := fun i => block_free HS.out.f i
      have r0 := block_cell HS.out.r 0
      have r1 := block_cell HS.out.r 1
      have r2 := block_cell HS.out.r 2
      have r3 := block_cell HS.out.r 3
      have r4 := block_cell HS.out.r 4
      have rf := fun i => block_free HS.out.r i
      have hne : ¬ F = R := HS.out.ne
      have hne' : ¬ R = F := fun e => HS.out.ne e.symm
      go_wp2
      refine bodyPost_ret (v := .tuple #[fev ⟨f.ho, f.su, f.tr, max pk 0, hk2⟩, .int .i64 0]) (by simp [results, Try.results6, go_sem, fev, r0, r1, r2, r3, r4]) rfl ⟨by rw [HE.out]; rfl, ?_⟩
      exact grown_own (grown_own HS.out.g (grown_set _ _ _ _) (fun y e => by cases e; exact HS.out.hF)) (((((grown_set _ _ _ _).trans (grown_set _ _ _ _)).trans (grown_set _ _ _ _)).trans (grown_set _ _ _ _)).trans (grown_set _ _ _ _)) (fun y e => by cases e; exact HS.out.hR)
end Go.Proofs.Ytogpgldbbegniab
