/-
  A power with marks, ahead of the least one: the law's raw.
  one: the i-th of what a book is filled with is added.
  What has been added (plain), and the list of what is done; Pick.
-/
import Derived.Test.YtogpgldbbegniabA28
import Derived.BigQuiet
import Derived.Test.YtogpgldbbegniabA12
namespace Go.Proofs.Ytogpgldbbegniab
open Go.RowKit

set_option maxRecDepth 100000 in
set_option maxHeartbeats 8000000 in
theorem raw_any (ok : Nat → Prop) (b : Nat) (es : List Ent) (p : Pl) (f : Fe) (c0 c1 c2 c3 : Int) (w : World) (B : Book ok w b es p) (hD : MkD p) (hI : InI f.po) : Calls Try.prog 7 #[.pointer (some ⟨b, 0, none⟩), fev f, .agg #[.int .i64 c0, .int .i64 c1, .int .i64 c2, .int .i64 c3]] w fun e w' => e = .returned (.int .i64 (addP f.po (zs p c0 c1 c2 c3))) ∧ w.grownBy w' none := by
  obtain ⟨W, hW⟩ : ∃ W, W = (w.alloc (.cells #[.int .i64 f.ho, .int .u8 f.su, .int .u16 f.tr, .int .i64 f.po, .int .i64 f.he] 30)).alloc (.cells #[.int .i64 c0, .int .i64 c1, .int .i64 c2, .int .i64 c3] 31) := ⟨_, rfl⟩
  have HG : Hid (w.grownBy W none) := by rw [hW]; exact grown_push (World.grownBy_alloc _ _ none) _
  have HF : Hid (W.heap[w.heap.size]? = some (.cells #[.int .i64 f.ho, .int .u8 f.su, .int .u16 f.tr, .int .i64 f.po, .int .i64 f.he] 30 (0, 0))) := by rw [hW]; exact grown_keep (World.grownBy_alloc _ _ none) (alloc_at w _ _) (by simp)
  have HV : Hid (W.heap[w.heap.size + 1]? = some (.cells #[.int .i64 c0, .int .i64 c1, .int .i64 c2, .int .i64 c3] 31 (0, 0))) := by rw [hW]; exact alloc2_at _ _ _ _
  have HB : Hid (Book ok w b es p) := B
  have HD : Hid (MkD p) := hD
  have HIn : Hid (InI f.po) := hI
  clear B hD hI
  unfold fev
  go_enter Try.func7, Try.ntmps7
  go_upto_region 1 with fail
  rw [← hW]
  clear hW
  obtain ⟨n0, h0⟩ : ∃ n0, n0 = w.heap.size := ⟨_, rfl⟩
  simp only [← h0] at HF HV ⊢
  obtain ⟨V, h1⟩ : ∃ V, V = n0 + 1 := ⟨_, rfl⟩
  simp only [← h1] at HV ⊢
  clear h0 h1
  have y3 := block_cell HF.out 3
  go_wp2_with fail
  clear y3
  go_loopw [7, 8, 9, 10] (fun v x _ _ wr => ∃ k : Nat, k ≤ 4 ∧ x = .int .i64 (k : Int) ∧ v = .int .i64 (addP f.po (zk p c0 c1 c2 c3 k)) ∧ Hid (w.grownBy wr none) ∧ Hid (wr.heap[V]? = some (.cells #[.int .i64 c0, .int .i64 c1, .int .i64 c2, .int .i64 c3] 31 (0, 0)))) (fun _ x _ _ _ => 4 - (intOf x).toNat)
  case atStart => exact ⟨0, by decide, rfl, rfl, HG, HV⟩
  case round =>
    obtain ⟨k, hk, rfl, rfl, HS, HV⟩ := hrel
    clear HF HG
    obtain ⟨pk, hpk⟩ : ∃ pk, pk = addP f.po (zk p c0 c1 c2 c3 k) := ⟨_, rfl⟩
    rw [← hpk]
    have HPk : Hid (pk = addP f.po (zk p c0 c1 c2 c3 k)) := hpk
    clear hpk
    rcases (show k = 0 ∨ k = 1 ∨ k = 2 ∨ k = 3 ∨ k = 4 from by omega) with rfl | rfl | rfl | rfl | rfl
    · obtain ⟨⟨mi, mn, mp, mh⟩, hm⟩ : ∃ m, m = moM p 1 := ⟨_, rfl⟩
      have HM := markOf_yes b es p 1 (by decide) wr (HB.out.keep HS.out).lies
      rw [← hm] at HM
      unfold mv at HM
      have HP : Hid (addP f.po (zk p c0 c1 c2 c3 1) = wrap64 (pk + wrap64 (c0 * mp))) := by
        have q := HPk.out
        show addP f.po (zk p c0 c1 c2 c3 0 ++ [(c0, moM p 1)]) = _
        rw [addP_snoc, ← hm, ← q]
        rfl
      have HNo : Hid (moB p 1 = false → addP f.po (zk p c0 c1 c2 c3 1) = pk) := fun hb => by
        have q := moM_no HD.out hb
        rw [← hm] at q
        have q1 : mp = 0 := q.1
        rw [HP.out, q1]
        simp only [Int.mul_zero]
        have i1 : InI pk := by rw [HPk.out]; exact addP_in HIn.out _
        have z : wrap64 0 = 0 := by unfold wrap64; omega
        simp only [z, Int.add_zero]
        exact wrap_in i1
      obtain ⟨mb, hmb⟩ : ∃ mb, mb = moB p 1 := ⟨_, rfl⟩
      rw [← hmb] at HM HNo
      clear hm hmb HPk
      go_upto_region 6 with (first | (go_at_call 24; refine HM.mono ?_; rintro e w2 ⟨rfl, g2⟩; have HG2 : Hid (wr.grownBy w2 none) := g2; clear g2) | fail)
      obtain ⟨X, hX⟩ : ∃ X, X = w2.alloc (.cells #[.int .u8 mi, .string mn, .int .i64 mp, .int .i64 mh] 69) := ⟨_, rfl⟩
      have HX : Hid (w.grownBy X none) := by rw [hX]; exact grown_push (grown_trans HS.out HG2.out) _
      have HXr : Hid (wr.grownBy X none) := by rw [hX]; exact grown_push HG2.out _
      have HXm : Hid (X.heap[w2.heap.size]? = some (.cells #[.int .u8 mi, .string mn, .int .i64 mp, .int .i64 mh] 69 (0, 0))) := by rw [hX]; exact alloc_at _ _ _
      have HXv : Hid (X.heap[V]? = some (.cells #[.int .i64 c0, .int .i64 c1, .int .i64 c2, .int .i64 c3] 31 (0, 0))) := grown_keep HXr.out HV.out (by simp)
      rw [← hX]
      clear hX HM HXr HG2 HV
      obtain ⟨G, hG⟩ : ∃ G, G = w2.heap.size := ⟨_, rfl⟩
      rw [← hG] at HXm ⊢
      clear hG
      cases mb with
      | false =>
        have HX2 : Hid (addP f.po (zk p c0 c1 c2 c3 1) = pk) := HNo.out rfl
        clear HNo HP
        go_wp2_with fail
        go_roundw
        case rel => exact ⟨1, by decide, rfl, by rw [HX2.out], HX, HXv⟩
        case measure => simp [intOf]
      | true =>
        clear HNo
        have z2 := block_cell HXm.out 2
        have x0 := block_cell HXv.out 0
        go_wp2_with fail
        go_quiet (fail)
        go_wp2_with fail
        go_roundw
        case rel => exact ⟨1, by decide, rfl, by rw [HP.out], grown_trans HX.out (grown_drewN _ _ none), grown_keep (grown_drewN _ _ none) HXv.out (by simp)⟩
        case measure => simp [intOf]
    · obtain ⟨⟨mi, mn, mp, mh⟩, hm⟩ : ∃ m, m = moM p 2 := ⟨_, rfl⟩
      have HM := markOf_yes b es p 2 (by decide) wr (HB.out.keep HS.out).lies
      rw [← hm] at HM
      unfold mv at HM
      have HP : Hid (addP f.po (zk p c0 c1 c2 c3 2) = wrap64 (pk + wrap64 (c1 * mp))) := by
        have q := HPk.out
        show addP f.po (zk p c0 c1 c2 c3 1 ++ [(c1, moM p 2)]) = _
        rw [addP_snoc, ← hm, ← q]
        rfl
      have HNo : Hid (moB p 2 = false → addP f.po (zk p c0 c1 c2 c3 2) = pk) := fun hb => by
        have q := moM_no HD.out hb
        rw [← hm] at q
        have q1 : mp = 0 := q.1
        rw [HP.out, q1]
        simp only [Int.mul_zero]
        have i1 : InI pk := by rw [HPk.out]; exact addP_in HIn.out _
        have z : wrap64 0 = 0 := by unfold wrap64; omega
        simp only [z, Int.add_zero]
        exact wrap_in i1
      obtain ⟨mb, hmb⟩ : ∃ mb, mb = moB p 2 := ⟨_, rfl⟩
      rw [← hmb] at HM HNo
      clear hm hmb HPk
      go_upto_region 6 with (first | (go_at_call 24; refine HM.mono ?_; rintro e w2 ⟨rfl, g2⟩; have HG2 : Hid (wr.grownBy w2 none) := g2; clear g2) | fail)
      obtain ⟨X, hX⟩ : ∃ X, X = w2.alloc (.cells #[.int .u8 mi, .string mn, .int .i64 mp, .int .i64 mh] 69) := ⟨_, rfl⟩
      have HX : Hid (w.grownBy X none) := by rw [hX]; exact grown_push (grown_trans HS.out HG2.out) _
      have HXr : Hid (wr.grownBy X none) := by rw [hX]; exact grown_push HG2.out _
      have HXm : Hid (X.heap[w2.heap.size]? = some (.cells #[.int .u8 mi, .string mn, .int .i64 mp, .int .i64 mh] 69 (0, 0))) := by rw [hX]; exact alloc_at _ _ _
      have HXv : Hid (X.heap[V]? = some (.cells #[.int .i64 c0, .int .i64 c1, .int .i64 c2, .int .i64 c3] 31 (0, 0))) := grown_keep HXr.out HV.out (by simp)
      rw [← hX]
      clear hX HM HXr HG2 HV
      obtain ⟨G, hG⟩ : ∃ G, G = w2.heap.size := ⟨_, rfl⟩
      rw [← hG] at HXm ⊢
      clear hG
      cases mb with
      | false =>
        have HX2 : Hid (addP f.po (zk p c0 c1 c2 c3 2) = pk) := HNo.out rfl
        clear HNo HP
        go_wp2_with fail
        go_roundw
        case rel => exact ⟨2, by decide, rfl, by rw [HX2.out], HX, HXv⟩
        case measure => simp [intOf]
      | true =>
        clear HNo
        have z2 := block_cell HXm.out 2
        have x1 := block_cell HXv.out 1
        go_wp2_with fail
        go_quiet (fail)
        go_wp2_with fail
        go_roundw
        case rel => exact ⟨2, by decide, rfl, by rw [HP.out], grown_trans HX.out (grown_drewN _ _ none), grown_keep (grown_drewN _ _ none) HXv.out (by simp)⟩
        case measure => simp [intOf]
    · obtain ⟨⟨mi, mn, mp, mh⟩, hm⟩ : ∃ m, m = moM p 3 := ⟨_, rfl⟩
      have HM := markOf_yes b es p 3 (by decide) wr (HB.out.keep HS.out).lies
      rw [← hm] at HM
      unfold mv at HM
      have HP : Hid (addP f.po (zk p c0 c1 c2 c3 3) = wrap64 (pk + wrap64 (c2 * mp))) := by
        have q := HPk.out
        show addP f.po (zk p c0 c1 c2 c3 2 ++ [(c2, moM p 3)]) = _
        rw [addP_snoc, ← hm, ← q]
        rfl
      have HNo : Hid (moB p 3 = false → addP f.po (zk p c0 c1 c2 c3 3) = pk) := fun hb => by
        have q := moM_no HD.out hb
        rw [← hm] at q
        have q1 : mp = 0 := q.1
        rw [HP.out, q1]
        simp only [Int.mul_zero]
        have i1 : InI pk := by rw [HPk.out]; exact addP_in HIn.out _
        have z : wrap64 0 = 0 := by unfold wrap64; omega
        simp only [z, Int.add_zero]
        exact wrap_in i1
      obtain ⟨mb, hmb⟩ : ∃ mb, mb = moB p 3 := ⟨_, rfl⟩
      rw [← hmb] at HM HNo
      clear hm hmb HPk
      go_upto_region 6 with (first | (go_at_call 24; refine HM.mono ?_; rintro e w2 ⟨rfl, g2⟩; have HG2 : Hid (wr.grownBy w2 none) := g2; clear g2) | fail)
      obtain ⟨X, hX⟩ : ∃ X, X = w2.alloc (.cells #[.int .u8 mi, .string mn, .int .i64 mp, .int .i64 mh] 69) := ⟨_, rfl⟩
      have HX : Hid (w.grownBy X none) := by rw [hX]; exact grown_push (grown_trans HS.out HG2.out) _
      have HXr : Hid (wr.grownBy X none) := by rw [hX]; exact grown_push HG2.out _
      have HXm : Hid (X.heap[w2.heap.size]? = some (.cells #[.int .u8 mi, .string mn, .int .i64 mp, .int .i64 mh] 69 (0, 0))) := by rw [hX]; exact alloc_at _ _ _
      have HXv : Hid (X.heap[V]? = some (.cells #[.int .i64 c0, .int .i64 c1, .int .i64 c2, .int .i64 c3] 31 (0, 0))) := grown_keep HXr.out HV.out (by simp)
      rw [← hX]
      clear hX HM HXr HG2 HV
      obtain ⟨G, hG⟩ : ∃ G, G = w2.heap.size := ⟨_, rfl⟩
      rw [← hG] at HXm ⊢
      clear hG
      cases mb with
      | false =>
        have HX2 : Hid (addP f.po (zk p c0 c1 c2 c3 3) = pk) := HNo.out rfl
        clear HNo HP
        go_wp2_with fail
        go_roundw
        case rel => exact ⟨3, by decide, rfl, by rw [HX2.out], HX, HXv⟩
        case measure => simp [intOf]
      | true =>
        clear HNo
        have z2 := block_cell HXm.out 2
        have x2 := block_cell HXv.out 2
        go_wp2_with fail
        go_quiet (fail)
        go_wp2_with fail
        go_roundw
        case rel => exact ⟨3, by decide, rfl, by rw [HP.out], grown_trans HX.out (grown_drewN _ _ none), grown_keep (grown_drewN _ _ none) HXv.out (by simp)⟩
        case measure => simp [intOf]
    · obtain ⟨⟨mi, mn, mp, mh⟩, hm⟩ : ∃ m, m = moM p 4 := ⟨_, rfl⟩
      have HM := markOf_yes b es p 4 (by decide) wr (HB.out.keep HS.out).lies
      rw [← hm] at HM
      unfold mv at HM
      have HP : Hid (addP f.po (zk p c0 c1 c2 c3 4) = wrap64 (pk + wrap64 (c3 * mp))) := by
        have q := HPk.out
        show addP f.po (zk p c0 c1 c2 c3 3 ++ [(c3, moM p 4)]) = _
        rw [addP_snoc, ← hm, ← q]
        rfl
      have HNo : Hid (moB p 4 = false → addP f.po (zk p c0 c1 c2 c3 4) = pk) := fun hb => by
        have q := moM_no HD.out hb
        rw [← hm] at q
        have q1 : mp = 0 := q.1
        rw [HP.out, q1]
        simp only [Int.mul_zero]
        have i1 : InI pk := by rw [HPk.out]; exact addP_in HIn.out _
        have z : wrap64 0 = 0 := by unfold wrap64; omega
        simp only [z, Int.add_zero]
        exact wrap_in i1
      obtain ⟨mb, hmb⟩ : ∃ mb, mb = moB p 4 := ⟨_, rfl⟩
      rw [← hmb] at HM HNo
      clear hm hmb HPk
      go_upto_region 6 with (first | (go_at_call 24; refine HM.mono ?_; rintro e w2 ⟨rfl, g2⟩; have HG2 : Hid (wr.grownBy w2 none) := g2; clear g2) | fail)
      obtain ⟨X, hX⟩ : ∃ X, X = w2.alloc (.cells #[.int .u8 mi, .string mn, .int .i64 mp, .int .i64 mh] 69) := ⟨_, rfl⟩
      have HX : Hid (w.grownBy X none) := by rw [hX]; exact grown_push (grown_trans HS.out HG2.out) _
      have HXr : Hid (wr.grownBy X none) := by rw [hX]; exact grown_push HG2.out _
      have HXm : Hid (X.heap[w2.heap.size]? = some (.cells #[.int .u8 mi, .string mn, .int .i64 mp, .int .i64 mh] 69 (0, 0))) := by rw [hX]; exact alloc_at _ _ _
      have HXv : Hid (X.heap[V]? = some (.cells #[.int .i64 c0, .int .i64 c1, .int .i64 c2, .int .i64 c3] 31 (0, 0))) := grown_keep HXr.out HV.out (by simp)
      rw [← hX]
      clear hX HM HXr HG2 HV
      obtain ⟨G, hG⟩ : ∃ G, G = w2.heap.size := ⟨_, rfl⟩
      rw [← hG] at HXm ⊢
      clear hG
      cases mb with
      | false =>
        have HX2 : Hid (addP f.po (zk p c0 c1 c2 c3 4) = pk) := HNo.out rfl
        clear HNo HP
        go_wp2_with fail
        go_roundw
        case rel => exact ⟨4, by decide, rfl, by rw [HX2.out], HX, HXv⟩
        case measure => simp [intOf]
      | true =>
        clear HNo
        have z2 := block_cell HXm.out 2
        have x3 := block_cell HXv.out 3
        go_wp2_with fail
        go_quiet (fail)
        go_wp2_with fail
        go_roundw
        case rel => exact ⟨4, by decide, rfl, by rw [HP.out], grown_trans HX.out (grown_drewN _ _ none), grown_keep (grown_drewN _ _ none) HXv.out (by simp)⟩
        case measure => simp [intOf]
    · have HE : Hid (pk = addP f.po (zs p c0 c1 c2 c3)) := HPk.out
      clear HPk
      go_wp2
      go_ret
      exact ⟨ret_int HE.out, HS.out⟩
end Go.Proofs.Ytogpgldbbegniab
namespace Go.Proofs.Ytogpgldbbegniab
open Go.RowKit

/-- What a book is filled with: where its three lists lie. -/
structure FillAt (w : World) (vc vt vm : Value) (cs : List Ent) (ts : List ByteArray) (ms : List Mk) : Prop where
  c : ∃ a k, vc = .slice a cs.length k ∧ (0 < cs.length → ∃ g o, a = some ⟨g, o, none⟩ ∧ EsAt w g o cs)
  t : ∃ a k, vt = .slice a ts.length k ∧ (0 < ts.length → ∃ g o, a = some ⟨g, o, none⟩ ∧ StrAt w g o ts)
  m : ∃ a k, vm = .slice a ms.length k ∧ (0 < ms.length → ∃ g o, a = some ⟨g, o, none⟩ ∧ MAt w g o ms)
  ps : ∀ e ∈ cs, PsAt w e.v e.ps ∧ Small e.ps.length
theorem StrAt.keep {w w' : World} {g o : Nat} {l : List ByteArray} (h : StrAt w g o l) (k : w.grownBy w' none) : StrAt w' g o l := fun j s hs => k.cell (h j s hs) (by simp)
theorem FillAt.keep {w w' : World} {vc vt vm : Value} {cs : List Ent} {ts : List ByteArray} {ms : List Mk} (h : FillAt w vc vt vm cs ts ms) (g : w.grownBy w' none) : FillAt w' vc vt vm cs ts ms := by
  obtain ⟨⟨a, k, e, h1⟩, ⟨b, l, f, h2⟩, ⟨c, m, i, h3⟩, h4⟩ := h
  refine ⟨⟨a, k, e, fun h0 => ?_⟩, ⟨b, l, f, fun h0 => ?_⟩, ⟨c, m, i, fun h0 => ?_⟩, fun e he => ⟨(h4 e he).1.keep g, (h4 e he).2⟩⟩
  · obtain ⟨x, o, e1, e2⟩ := h1 h0; exact ⟨x, o, e1, e2.keep g⟩
  · obtain ⟨x, o, e1, e2⟩ := h2 h0; exact ⟨x, o, e1, e2.keep g⟩
  · obtain ⟨x, o, e1, e2⟩ := h3 h0; exact ⟨x, o, e1, e2.keep g⟩
/-- What is told of the i-th, and what becomes of the book (u: where its parts lie). -/
def oneE (p : Pl) (es : List Ent) (cs : List Ent) (ts : List ByteArray) (ms : List Mk) (i : Nat) : Int :=
  if i < cs.length then caE p es (match cs[i]? with
    | some e => e.cd
    | none => Cd.none)
  else if i < cs.length + ts.length then trE p ((i - cs.length : Nat) + 1 : Int) (ts.getD (i - cs.length) ⟨#[]⟩)
  else maE p (ms.getD (i - cs.length - ts.length) Mk.none)
def oneEs (p : Pl) (es : List Ent) (cs : List Ent) (u : Value) (i : Nat) : List Ent := match cs[i]? with
  | some e => if caE p es e.cd = 0 then ins es ⟨e.h, u, e.ps⟩ else es
  | none => es
def oneP (p : Pl) (cs : List Ent) (ts : List ByteArray) (ms : List Mk) (i : Nat) : Pl :=
  if i < cs.length then p else if i < cs.length + ts.length then trP p ((i - cs.length : Nat) + 1 : Int) (ts.getD (i - cs.length) ⟨#[]⟩)
  else maP p (ms.getD (i - cs.length - ts.length) Mk.none)
def fv (vc vt vm : Value) : Value := .agg #[vc, vt, vm]
theorem w64_of (x : Int) (h0 : 0 ≤ x) (h1 : x < 1000) : wrap64 x = x := by unfold wrap64; omega
theorem w8_of (x : Int) (h0 : 0 ≤ x) (h1 : x < 100) : wrap64 (1 + x) % 256 = x + 1 := by rw [w64_of (1 + x) (by omega) (by omega)]; omega
theorem one_w {i c d : Nat} (h : d = i - c) (h1 : ¬ i < c) (h2 : i < 200) : wrap64 ((i : Int) - (c : Int)) = (d : Int) := by
  rw [w64_of ((i : Int) - (c : Int)) (by omega) (by omega)]; omega
end Go.Proofs.Ytogpgldbbegniab
namespace Go.Proofs.Ytogpgldbbegniab
open Go.RowKit

def many (cs : List Ent) (ts : List ByteArray) (ms : List Mk) : Nat := cs.length + ts.length + ms.length
/-- l: what was added, the last first; es, p: the book; r: how many were refused. -/
def Fil (cs : List Ent) (ts : List ByteArray) (ms : List Mk) : List Nat → List Ent → Pl → Nat → Prop
  | [], es, p, r => es = [] ∧ p = plNew ∧ r = 0
  | i :: l, es, p, r => ∃ (es0 : List Ent) (p0 : Pl) (r0 : Nat) (u : Value), Fil cs ts ms l es0 p0 r0 ∧ ¬ i ∈ l ∧ i < many cs ts ms ∧ es = oneEs p0 es0 cs u i ∧ p = oneP p0 cs ts ms i ∧ r = r0 + if oneE p0 es0 cs ts ms i = 0 then 0 else 1
theorem Fil.nil {cs : List Ent} {ts : List ByteArray} {ms : List Mk} : Fil cs ts ms [] [] plNew 0 := ⟨rfl, rfl, rfl⟩
theorem Fil.step {cs : List Ent} {ts : List ByteArray} {ms : List Mk} {l : List Nat} {es : List Ent} {p : Pl} {r : Nat} (i : Nat) (u : Value) (h : Fil cs ts ms l es p r) (hi : ¬ i ∈ l) (hm : i < many cs ts ms) : Fil cs ts ms (i :: l) (oneEs p es cs u i) (oneP p cs ts ms i) (r + if oneE p es cs ts ms i = 0 then 0 else 1) := ⟨es, p, r, u, h, hi, hm, rfl, rfl, rfl⟩
/-- What holds of an empty book, and stays so at each step, holds. -/
theorem Fil.ind {cs : List Ent} {ts : List ByteArray} {ms : List Mk} {M : List Nat → List Ent → Pl → Nat → Prop} (h0 : M [] [] plNew 0) (hs : ∀ (l : List Nat) (es : List Ent) (p : Pl) (r i : Nat) (u : Value), Fil cs ts ms l es p r → ¬ i ∈ l → i < many cs ts ms → M l es p r → M (i :: l) (oneEs p es cs u i) (oneP p cs ts ms i) (r + if oneE p es cs ts ms i = 0 then 0 else 1)) : ∀ {l : List Nat} {es : List Ent} {p : Pl} {r : Nat}, Fil cs ts ms l es p r → M l es p r := by
  intro l
  induction l with
  | nil =>
    rintro es p r ⟨rfl, rfl, rfl⟩
    exact h0
  | cons i l ih =>
    rintro es p r ⟨es0, p0, r0, u, hf, hi, hm, rfl, rfl, rfl⟩
    exact hs l es0 p0 r0 i u hf hi hm (ih hf)
/-- The list of what is done. -/
def dn (n : Nat) (l : List Nat) : List Value := (List.range n).map fun i => .bool (decide (i ∈ l))
theorem dn_at {n i : Nat} (l : List Nat) (h : i < n) : (dn n l)[i]? = some (.bool (decide (i ∈ l))) := by simp [dn, h]
theorem dn_nil (n : Nat) : dn n [] = List.replicate n (.bool false) := by
  apply List.ext_getElem?
  intro i
  by_cases h : i < n
  · rw [dn_at _ h]; simp [h]
  · simp [dn, h]
theorem dn_set {n i : Nat} (l : List Nat) (h : i < n) : (dn n l).set i (.bool true) = dn n (i :: l) := by
  apply List.ext_getElem?
  intro j
  by_cases hj : j < n
  · rw [dn_at _ hj, List.getElem?_set]
    by_cases hij : i = j
    · subst hij
      rw [if_pos rfl, if_pos (by simp [dn, h])]
      simp
    · rw [if_neg hij, dn_at _ hj]
      have : (j ∈ i :: l) ↔ j ∈ l := by simp [Ne.symm hij]
      simp [this]
  · have h1 : (dn n (i :: l))[j]? = none := by simp [dn, hj]
    have h2 : ((dn n l).set i (.bool true))[j]? = none := by simp [dn, hj]
    rw [h1, h2]
/-- Where it lies: in a list of the call's own. -/
def DnAt (w : World) (base d n : Nat) (l : List Nat) : Prop := w.ownsRow base 4 1 (.slice (some ⟨d, 0, none⟩) n n) n (dn n l)
theorem DnAt.cell {w : World} {base d n i : Nat} {l : List Nat} (h : DnAt w base d n l) (hi : i < n) : w.cell? ⟨d, i, none⟩ = some (.bool (decide (i ∈ l))) := by
  rw [World.ownsRow.cellAt h i (by omega), dn_at l hi]
theorem DnAt.free {w : World} {base d n : Nat} {l : List Nat} (h : DnAt w base d n l) (i : Nat) : w.frozen? ⟨d, i, none⟩ = false := World.ownsRow.frozenAt h i
theorem DnAt.put {w : World} {base d n i : Nat} {l : List Nat} (h : DnAt w base d n l) (hi : i < n) : DnAt (w.setCell ⟨d, i, none⟩ (.bool true)) base d n (i :: l) ∧ w.grownBy (w.setCell ⟨d, i, none⟩ (.bool true)) (some d) := by
  have := World.ownsRow.stored h i (.bool true)
  rw [dn_set l hi] at this
  exact this
theorem DnAt.keepR {w w' : World} {base d n : Nat} {l : List Nat} {r : Option Nat} (h : DnAt w base d n l) (g : w.grownBy w' r) (hr : some d ≠ r) : DnAt w' base d n l := World.ownsRow.kept h g (Or.inr hr)
theorem DnAt.made {w : World} {base d n : Nat} (h : w.ownsRow base 4 1 (.slice (some ⟨d, 0, none⟩) n n) n (madeCells (Value.bool false).cells (n * 1)).toList) : DnAt w base d n [] := by
  unfold DnAt
  rw [dn_nil, ← toList_madeCells_one]
  rw [Nat.mul_one] at h
  exact h
set_option maxHeartbeats 1000000 in
theorem pick_any (k : Int) (n : Nat) (w : World) (hn : 0 < n) (hm : n ≤ 4294967296) : Calls Try.prog 5 #[.int .i64 k, .int .i64 n] w fun e w' => (∃ r : Nat, r < n ∧ e = .returned (.int .i64 r)) ∧ w' = w := by
  have h1 : ¬ ((n : Int) < 1) := by omega
  have h0 : ((n : Int) == 0) = false := by simpa using (show ¬ ((n : Int) = 0) by omega)
  have b1 : k.tmod n < n := Int.tmod_lt_of_pos k (by omega)
  have b2 : -(n : Int) < k.tmod n := by
    have h := Int.tmod_lt_of_pos (-k) (show (0 : Int) < n by omega)
    rw [Int.neg_tmod] at h
    omega
  go_enter Try.func5, Try.ntmps5
  go_wp2
  · go_ret
    exact ⟨⟨(k.tmod n + n).toNat, by omega, ret_int (Int.toNat_of_nonneg (by omega)).symm⟩, rfl⟩
  · go_ret
    exact ⟨⟨(k.tmod n).toNat, by omega, ret_int (Int.toNat_of_nonneg (by omega)).symm⟩, rfl⟩
end Go.Proofs.Ytogpgldbbegniab
