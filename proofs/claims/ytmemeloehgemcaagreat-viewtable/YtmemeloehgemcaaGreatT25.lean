/-
  Lists of parts that are written over: OverParts; markParts.
  BookScript: a pair of books; a card is added to both.
  thing.Card, and the document's: of every book made and every number the card in memory of its own, or the fault.
  thing's isBook, mayLie and Marked, of every book made, features and marks.
  thing.Marked, of every book made, features and marks.
  thing's Card, Printed and Unit, and the document's: of whatever answers a card.
-/
import Derived.Test.YtmemeloehgemcaaGreatT9
import Derived.OwnWalk
import Derived.Test.YtmemeloehgemcaaGreatRCa
import Derived.Test.YtmemeloehgemcaaGreatT13
import Derived.Test.YtmemeloehgemcaaGreatT22
import Derived.Deep.MidRow
import Derived.Test.YtmemeloehgemcaaGreatT14
namespace Go.Proofs.YtmemeloehgemcaaGreat
open Go.RowKit

end Go.Proofs.YtmemeloehgemcaaGreat
namespace Go.Proofs.YtmemeloehgemcaaGreat
open Go.RowKit

structure Pr (ok : Nat → Prop) (w : World) (b r : Nat) (v : Value) (es fs : List Ent) (p : Pl) : Prop where
  book : Book ok w b es p
  rj : RJ w r v p
  rl : RL w v fs
  own : ∀ k, v.ownBlock = some k → ok k ∧ k < w.heap.size
  good : Good ok w fs
  same : es.map hp = fs.map hp
  mkd : MkD p
  zero : p.nms[0]? = some ⟨#[]⟩
theorem hp_len {es fs : List Ent} (h : es.map hp = fs.map hp) : es.length = fs.length := by have := congrArg List.length h; simpa using this
theorem hp_names {es fs : List Ent} (h : es.map hp = fs.map hp) : names es = names fs := by
  have := congrArg (List.map fun x : Hd × List Pt => x.1.nm) h
  rw [List.map_map, List.map_map] at this
  exact this
theorem hp_caE {es fs : List Ent} (h : es.map hp = fs.map hp) (p : Pl) (c : Cd) : caE p es c = caE p fs c := by
  unfold caE
  rw [hp_names h, hp_len h]
theorem hp_rk : ∀ {es fs : List Ent} (_ : es.map hp = fs.map hp) (h : Hd), rk es h = rk fs h
  | [], [], _, _ => rfl
  | [], _ :: _, e, _ => by simp at e
  | _ :: _, [], e, _ => by simp at e
  | x :: r, y :: t, e, h => by
    rw [List.map_cons, List.map_cons] at e
    injection e with e1 e2
    injection e1 with e1 _
    simp only [rk]
    rw [e1, hp_rk e2 h]
theorem hp_ins {es fs : List Ent} (h : es.map hp = fs.map hp) (hd : Hd) (u u' : Value) (ps : List Pt) : (ins es ⟨hd, u, ps⟩).map hp = (ins fs ⟨hd, u', ps⟩).map hp := by
  unfold ins
  simp only [List.map_append, List.map_cons, List.map_take, List.map_drop]
  rw [h, hp_rk h]
  rfl
end Go.Proofs.YtmemeloehgemcaaGreat
namespace Go.Proofs.YtmemeloehgemcaaGreat
open Go.RowKit

theorem atC_in {p : Pl} {es : List Ent} {m : Nat} {e : Ent} (hs : p.shut = true) (he : es[m]? = some e) : atC p es ((m : Int) + 1) = (e.h, e.ps) := by
  unfold atC
  rw [if_pos ⟨hs, by omega⟩, show ((m : Int) + 1 - 1).toNat = m by omega, he]
theorem atC_out {p : Pl} {es : List Ent} {n : Int} (h : ¬ atIn p es n) : atC p es n = (Hd.none, []) := by
  unfold atC
  split
  · rename_i h1
    have : es[(n - 1).toNat]? = none := List.getElem?_eq_none (by
      have : ¬ n ≤ (es.length : Int) := fun h2 => h ⟨h1.1, h1.2, h2⟩
      omega)
    rw [this]
  · rfl
theorem atX_in {p : Pl} {es : List Ent} {n : Int} (h : atIn p es n) : atX p es n = 0 := by unfold atX; exact if_pos h
theorem atX_out {p : Pl} {es : List Ent} {n : Int} (h : ¬ atIn p es n) : atX p es n = 6 := by unfold atX; exact if_neg h
def CaPost (p : Pl) (es : List Ent) (n : Int) (w : World) (e : Ending) (w' : World) : Prop := ∃ u, e = .returned (.tuple #[cv (atC p es n).1 u, .int .i64 (atX p es n)]) ∧ POwn w' w.heap.size u (atC p es n).2 ∧ w.grownBy w' none
theorem at_own (ok : Nat → Prop) (b : Nat) (es : List Ent) (p : Pl) (n : Int) (w : World) (B : Book ok w b es p) : Calls Tryz.prog 58 #[.pointer (some ⟨b, 0, none⟩), .int .i64 n] w (CaPost p es n w) := by
  by_cases h : atIn p es n
  · obtain ⟨m, rfl⟩ : ∃ m : Nat, n = (m : Int) + 1 := ⟨(n - 1).toNat, by have := h.2.1; omega⟩
    have hm : m < es.length := by have := h.2.2; omega
    refine (at_in ok b es p m es[m] w B.lies B.good h.1 (List.getElem?_eq_getElem hm) (B.parts _ (List.getElem_mem _))).mono ?_
    rintro e w' ⟨u, rfl, o, g⟩
    unfold CaPost
    rw [atX_in h, atC_in h.1 (List.getElem?_eq_getElem hm)]
    exact ⟨u, rfl, o, g⟩
  · refine (at_out b es p n w B.lies h).mono ?_
    rintro e w' ⟨rfl, g⟩
    unfold CaPost
    rw [atX_out h, atC_out h]
    exact ⟨_, rfl, POwn.nil _ _, g⟩
end Go.Proofs.YtmemeloehgemcaaGreat
namespace Go.Proofs.YtmemeloehgemcaaGreat
open Go.RowKit

def okc (c : Int) : Bool := decide (0 ≤ c) && decide (c ≤ 99)
def okcs (c0 c1 c2 c3 : Int) : Bool := okc c0 && (okc c1 && (okc c2 && okc c3))
theorem okc_yes {c : Int} (h : okc c = true) : 0 ≤ c ∧ c ≤ 99 := by unfold okc at h; simpa using h
theorem okc_no {c : Int} (h : okc c = false) : c < 0 ∨ 99 < c := by
  unfold okc at h
  have : ¬ (0 ≤ c ∧ c ≤ 99) := fun q => by simp [q.1, q.2] at h
  omega
theorem retB {a b : Bool} (h : a = b) : Ending.returned (.bool a) = Ending.returned (.bool b) := by rw [h]
def MlR (c0 c1 c2 c3 : Int) (k : Nat) : Prop := (k ≥ 1 → okc c0 = true) ∧ (k ≥ 2 → okc c1 = true) ∧ (k ≥ 3 → okc c2 = true) ∧ (k ≥ 4 → okc c3 = true)
theorem ixf0 (c0 c1 c2 c3 : Int) (w : World) : (Instr.index 58 (.agg #[.int .i64 c0, .int .i64 c1, .int .i64 c2, .int .i64 c3]) (.int .i64 0)).run Tryz.prog w = .ok (.int .i64 c0) w := by kernel_rfl
theorem ixf1 (c0 c1 c2 c3 : Int) (w : World) : (Instr.index 58 (.agg #[.int .i64 c0, .int .i64 c1, .int .i64 c2, .int .i64 c3]) (.int .i64 1)).run Tryz.prog w = .ok (.int .i64 c1) w := by kernel_rfl
theorem ixf2 (c0 c1 c2 c3 : Int) (w : World) : (Instr.index 58 (.agg #[.int .i64 c0, .int .i64 c1, .int .i64 c2, .int .i64 c3]) (.int .i64 2)).run Tryz.prog w = .ok (.int .i64 c2) w := by kernel_rfl
theorem ixf3 (c0 c1 c2 c3 : Int) (w : World) : (Instr.index 58 (.agg #[.int .i64 c0, .int .i64 c1, .int .i64 c2, .int .i64 c3]) (.int .i64 3)).run Tryz.prog w = .ok (.int .i64 c3) w := by kernel_rfl
set_option maxRecDepth 100000 in
set_option maxHeartbeats 4000000 in
theorem tisBook_yes (ok : Nat → Prop) (b : Nat) (es : List Ent) (p : Pl) (w : World) (B : Book ok w b es p) : Calls Tryz.prog 76 #[.pointer (some ⟨b, 0, none⟩)] w fun e w' => e = .returned (.bool true) ∧ w.grownBy w' none := by
  have HA := at_out b es p 0 w B.lies (fun h => by have := h.2.1; omega)
  unfold cv Hd.none at HA
  clear B
  go_enter Tryz.func76, Tryz.ntmps76
  go_wp2_with fail
  refine HA.mono ?_
  rintro e w1 ⟨rfl, g1⟩
  have HG : Hid (w.grownBy w1 none) := g1
  clear HA g1
  go_wp2_with fail
  go_ret
  exact ⟨rfl, grown_push HG.out _⟩
set_option maxRecDepth 100000 in
set_option maxHeartbeats 4000000 in
theorem tisBook_no (v : Value) (w : World) (B : NoBk w v) : Calls Tryz.prog 76 #[v] w fun e w' => e = .returned (.bool false) ∧ w.grownBy w' none := by
  have HA := at_no v 0 w B
  unfold cv Hd.none at HA
  clear B
  go_enter Tryz.func76, Tryz.ntmps76
  go_wp2_with fail
  refine HA.mono ?_
  rintro e w1 ⟨rfl, g1⟩
  have HG : Hid (w.grownBy w1 none) := g1
  clear HA g1
  go_wp2_with fail
  go_ret
  exact ⟨rfl, grown_push HG.out _⟩
set_option maxRecDepth 100000 in
set_option maxHeartbeats 4000000 in
theorem tmayLie_any (c0 c1 c2 c3 : Int) (w : World) : Calls Tryz.prog 77 #[.agg #[.int .i64 c0, .int .i64 c1, .int .i64 c2, .int .i64 c3]] w fun e w' => e = .returned (.bool (okcs c0 c1 c2 c3)) ∧ w.grownBy w' none := by
  have i0 := ixf0 c0 c1 c2 c3
  have i1 := ixf1 c0 c1 c2 c3
  have i2 := ixf2 c0 c1 c2 c3
  have i3 := ixf3 c0 c1 c2 c3
  obtain ⟨W, hW⟩ : ∃ W, W = w.alloc (.cells #[.int .i64 c0, .int .i64 c1, .int .i64 c2, .int .i64 c3] 58) := ⟨_, rfl⟩
  have HG : Hid (w.grownBy W none) := by rw [hW]; exact World.grownBy_alloc _ _ none
  have HB : Hid (W.heap[w.heap.size]? = some (.cells #[.int .i64 c0, .int .i64 c1, .int .i64 c2, .int .i64 c3] 58 (0, 0))) := by rw [hW]; exact alloc_at w _ _
  go_enter Tryz.func77, Tryz.ntmps77
  go_upto_region 1 with fail
  rw [← hW]
  clear hW
  have x0 := block_cell HB.out 0
  have x1 := block_cell HB.out 1
  have x2 := block_cell HB.out 2
  have x3 := block_cell HB.out 3
  go_wp2_with fail
  clear x0 x1 x2 x3
  go_loopw [4, 6] (fun _ x wr => ∃ k : Nat, k ≤ 4 ∧ x = .int .i64 (k : Int) ∧ Hid (wr = W ∧ MlR c0 c1 c2 c3 k)) (fun _ x _ => 4 - (intOf x).toNat)
  case atStart => exact ⟨0, by decide, rfl, rfl, fun h => absurd h (by decide), fun h => absurd h (by decide), fun h => absurd h (by decide), fun h => absurd h (by decide)⟩
  case round =>
    obtain ⟨k, hk, rfl, HR⟩ := hrel
    obtain ⟨rfl, hK⟩ := HR.out
    have HK : Hid (MlR c0 c1 c2 c3 k) := hK
    clear hK HR
    rcases (show k = 0 ∨ k = 1 ∨ k = 2 ∨ k = 3 ∨ k = 4 from by omega) with rfl | rfl | rfl | rfl | rfl
    · cases h0 : okc c0 with
      | false =>
        have E : okcs c0 c1 c2 c3 = false := by unfold okcs; have q := HK.out; unfold MlR at q; simp [h0]
        have HE : Hid (okcs c0 c1 c2 c3 = false) := E
        clear E HK
        rcases okc_no h0 with l | l
        · clear h0
          have l' : (decide (c0 < 0)) = true := by simpa using l
          go_wp2
          go_ret
          exact ⟨retB HE.out.symm, HG.out⟩
        · clear h0
          have l1 : ¬ c0 < 0 := by omega
          go_wp2
          go_ret
          exact ⟨retB HE.out.symm, HG.out⟩
      | true =>
        have HK2 : Hid (MlR c0 c1 c2 c3 1) := by have q := HK.out; have r := h0; exact ⟨fun _ => r, fun h => absurd h (by decide), fun h => absurd h (by decide), fun h => absurd h (by decide)⟩
        have l := okc_yes h0
        have l1 : ¬ c0 < 0 := by omega
        have l2 : ¬ 99 < c0 := by omega
        clear h0 HK l
        go_wp2
        go_roundw
        case rel => exact ⟨1, by decide, rfl, by first | exact ⟨rfl, HK2.out⟩ | exact ⟨trivial, HK2.out⟩⟩
        case measure => simp [intOf]
    · cases h1 : okc c1 with
      | false =>
        have E : okcs c0 c1 c2 c3 = false := by unfold okcs; have q := HK.out; unfold MlR at q; simp [h1]
        have HE : Hid (okcs c0 c1 c2 c3 = false) := E
        clear E HK
        rcases okc_no h1 with l | l
        · clear h1
          have l' : (decide (c1 < 0)) = true := by simpa using l
          go_wp2
          go_ret
          exact ⟨retB HE.out.symm, HG.out⟩
        · clear h1
          have l1 : ¬ c1 < 0 := by omega
          go_wp2
          go_ret
          exact ⟨retB HE.out.symm, HG.out⟩
      | true =>
        have HK2 : Hid (MlR c0 c1 c2 c3 2) := by have q := HK.out; have r := h1; exact ⟨fun _ => q.1 (by decide), fun _ => r, fun h => absurd h (by decide), fun h => absurd h (by decide)⟩
        have l := okc_yes h1
        have l1 : ¬ c1 < 0 := by omega
        have l2 : ¬ 99 < c1 := by omega
        clear h1 HK l
        go_wp2
        go_roundw
        case rel => exact ⟨2, by decide, rfl, by first | exact ⟨rfl, HK2.out⟩ | exact ⟨trivial, HK2.out⟩⟩
        case measure => simp [intOf]
    · cases h2 : okc c2 with
      | false =>
        have E : okcs c0 c1 c2 c3 = false := by unfold okcs; have q := HK.out; unfold MlR at q; simp [h2]
        have HE : Hid (okcs c0 c1 c2 c3 = false) := E
        clear E HK
        rcases okc_no h2 with l | l
        · clear h2
          have l' : (decide (c2 < 0)) = true := by simpa using l
          go_wp2
          go_ret
          exact ⟨retB HE.out.symm, HG.out⟩
        · clear h2
          have l1 : ¬ c2 < 0 := by omega
          go_wp2
          go_ret
          exact ⟨retB HE.out.symm, HG.out⟩
      | true =>
        have HK2 : Hid (MlR c0 c1 c2 c3 3) := by have q := HK.out; have r := h2; exact ⟨fun _ => q.1 (by decide), fun _ => q.2.1 (by decide), fun _ => r, fun h => absurd h (by decide)⟩
        have l := okc_yes h2
        have l1 : ¬ c2 < 0 := by omega
        have l2 : ¬ 99 < c2 := by omega
        clear h2 HK l
        go_wp2
        go_roundw
        case rel => exact ⟨3, by decide, rfl, by first | exact ⟨rfl, HK2.out⟩ | exact ⟨trivial, HK2.out⟩⟩
        case measure => simp [intOf]
    · cases h3 : okc c3 with
      | false =>
        have E : okcs c0 c1 c2 c3 = false := by unfold okcs; have q := HK.out; unfold MlR at q; simp [h3]
        have HE : Hid (okcs c0 c1 c2 c3 = false) := E
        clear E HK
        rcases okc_no h3 with l | l
        · clear h3
          have l' : (decide (c3 < 0)) = true := by simpa using l
          go_wp2
          go_ret
          exact ⟨retB HE.out.symm, HG.out⟩
        · clear h3
          have l1 : ¬ c3 < 0 := by omega
          go_wp2
          go_ret
          exact ⟨retB HE.out.symm, HG.out⟩
      | true =>
        have HK2 : Hid (MlR c0 c1 c2 c3 4) := by have q := HK.out; have r := h3; exact ⟨fun _ => q.1 (by decide), fun _ => q.2.1 (by decide), fun _ => q.2.2.1 (by decide), fun _ => r⟩
        have l := okc_yes h3
        have l1 : ¬ c3 < 0 := by omega
        have l2 : ¬ 99 < c3 := by omega
        clear h3 HK l
        go_wp2
        go_roundw
        case rel => exact ⟨4, by decide, rfl, by first | exact ⟨rfl, HK2.out⟩ | exact ⟨trivial, HK2.out⟩⟩
        case measure => simp [intOf]
    · have E : okcs c0 c1 c2 c3 = true := by have q := HK.out; unfold okcs; simp [q.1 (by decide), q.2.1 (by decide), q.2.2.1 (by decide), q.2.2.2 (by decide)]
      have HE : Hid (okcs c0 c1 c2 c3 = true) := E
      clear E HK
      go_wp2
      go_ret
      exact ⟨retB HE.out.symm, HG.out⟩
end Go.Proofs.YtmemeloehgemcaaGreat
namespace Go.Proofs.YtmemeloehgemcaaGreat
open Go.RowKit

structure MkS (w wr : World) (F R : Nat) (a b c d e : Int) : Prop where
  g : w.grownBy wr none
  f : wr.heap[F]? = some (.cells #[.int .i64 a, .int .u8 b, .int .u16 c, .int .i64 d, .int .i64 e] 64 (0, 0))
  r : wr.heap[R]? = some (.cells #[.int .i64 0, .int .u8 0, .int .u16 0, .int .i64 0, .int .i64 0] 64 (0, 0))
  hF : w.heap.size ≤ F
  hR : w.heap.size ≤ R
  ne : ¬ F = R
theorem MkS.grow {w wr w2 : World} {F R : Nat} {a b c d e : Int} (h : MkS w wr F R a b c d e) (g : wr.grownBy w2 none) : MkS w w2 F R a b c d e := ⟨grown_trans h.g g, grown_keep g h.f (by simp), grown_keep g h.r (by simp), h.hF, h.hR, h.ne⟩
theorem MkS.set3 {w wr : World} {F R : Nat} {a b c d e : Int} (h : MkS w wr F R a b c d e) (x : Int) : MkS w (wr.setCell ⟨F, 3, none⟩ (.int .i64 x)) F R a b c x e := ⟨grown_own h.g (grown_set _ _ _ _) (fun y e => by cases e; exact h.hF), block_set h.f _ _, grown_keep (grown_set wr F 3 (.int .i64 x)) h.r (fun e => by injection e with e; exact h.ne e.symm), h.hF, h.hR, h.ne⟩
theorem MkS.set4 {w wr : World} {F R : Nat} {a b c d e : Int} (h : MkS w wr F R a b c d e) (x : Int) : MkS w (wr.setCell ⟨F, 4, none⟩ (.int .i64 x)) F R a b c d x := ⟨grown_own h.g (grown_set _ _ _ _) (fun y e => by cases e; exact h.hF), block_set h.f _ _, grown_keep (grown_set wr F 4 (.int .i64 x)) h.r (fun e => by injection e with e; exact h.ne e.symm), h.hF, h.hR, h.ne⟩
theorem alloc2_at (w : World) (o : Obj) (cs : Array Value) (t : TypeId) : ((w.alloc o).alloc (.cells cs t)).heap[w.heap.size + 1]? = some (.cells cs t (0, 0)) := by have := alloc_at (w.alloc o) cs t; rwa [World.size_alloc] at this
theorem alloc3_at (w : World) (o o2 : Obj) (cs : Array Value) (t : TypeId) : (((w.alloc o).alloc o2).alloc (.cells cs t)).heap[w.heap.size + 1 + 1]? = some (.cells cs t (0, 0)) := by have := alloc_at ((w.alloc o).alloc o2) cs t; rwa [World.size_alloc, World.size_alloc] at this
def zk (p : Pl) (c0 c1 c2 c3 : Int) (k : Nat) : List (Int × Mk) := (zs p c0 c1 c2 c3).take k
theorem low0_max (a : Int) : low0 a = max a 0 := by unfold low0; split <;> omega
set_option maxRecDepth 100000 in
set_option maxHeartbeats 8000000 in
theorem marked_yes (ok : Nat → Prop) (b : Nat) (es : List Ent) (p : Pl) (f : Fe) (c0 c1 c2 c3 : Int) (w : World) (B : Book ok w b es p) (hc : okcs c0 c1 c2 c3 = true) : Calls Tryz.prog 39 #[.pointer (some ⟨b, 0, none⟩), fev f, .agg #[.int .i64 c0, .int .i64 c1, .int .i64 c2, .int .i64 c3]] w fun e w' => e = .returned (.tuple #[fev (mkdF p f c0 c1 c2 c3), .int .i64 0]) ∧ w.grownBy w' none := by
  have i0 := ixf0 c0 c1 c2 c3
  have i1 := ixf1 c0 c1 c2 c3
  have i2 := ixf2 c0 c1 c2 c3
  have i3 := ixf3 c0 c1 c2 c3
  obtain ⟨W, hW⟩ : ∃ W, W = ((w.alloc (.cells (fcs f) 64)).alloc (.cells #[.int .i64 c0, .int .i64 c1, .int .i64 c2, .int .i64 c3] 58)).alloc (.cells #[.int .i64 0, .int .u8 0, .int .u16 0, .int .i64 0, .int .i64 0] 64) := ⟨_, rfl⟩
  have HS0 : Hid (MkS w W w.heap.size (w.heap.size + 1 + 1) f.ho f.su f.tr f.po f.he) := by
    rw [hW]
    refine ⟨grown_push (grown_push (World.grownBy_alloc _ _ none) _) _, ?_, ?_, Nat.le_refl _, by omega, by omega⟩
    · exact grown_keep (World.grownBy_alloc _ _ none) (grown_keep (World.grownBy_alloc _ _ none) (alloc_at w _ _) (by simp)) (by simp)
    · exact alloc3_at _ _ _ _ _
  have HA4 : Hid (W.heap[w.heap.size + 1]? = some (.cells #[.int .i64 c0, .int .i64 c1, .int .i64 c2, .int .i64 c3] 58 (0, 0))) := by
    rw [hW]
    exact grown_keep (World.grownBy_alloc _ _ none) (alloc2_at _ _ _ _) (by simp)
  have HB : Hid (Book ok w b es p) := B
  have HIB := tisBook_yes ok b es p W (B.keep HS0.out.g)
  have HML := fun X => tmayLie_any c0 c1 c2 c3 X
  rw [hc] at HML
  unfold fcs at hW
  unfold fev
  clear B hc
  go_enter Tryz.func39, Tryz.ntmps39
  go_upto_region 1 with fail
  rw [← hW]
  clear hW
  obtain ⟨F, hF⟩ : ∃ F, F = w.heap.size := ⟨_, rfl⟩
  rw [← hF] at HS0 HA4 ⊢
  obtain ⟨V, hV⟩ : ∃ V, V = F + 1 := ⟨_, rfl⟩
  simp only [← hV] at HS0 HA4 ⊢
  obtain ⟨R, hR⟩ : ∃ R, R = V + 1 := ⟨_, rfl⟩
  simp only [← hR] at HS0 ⊢
  clear hF hR hV
  go_wp2_with fail
  refine HIB.mono ?_
  rintro e w1 ⟨rfl, g1⟩
  have HS1 : Hid (MkS w w1 F R f.ho f.su f.tr f.po f.he) := HS0.out.grow g1
  have HA1 : Hid (w1.heap[V]? = some (.cells #[.int .i64 c0, .int .i64 c1, .int .i64 c2, .int .i64 c3] 58 (0, 0))) := grown_keep g1 HA4.out (by simp)
  clear HS0 HA4 g1 HIB
  have x0 := block_cell HA1.out 0
  have x1 := block_cell HA1.out 1
  have x2 := block_cell HA1.out 2
  have x3 := block_cell HA1.out 3
  go_wp2_with fail
  refine (HML w1).mono ?_
  rintro e w2 ⟨rfl, g2⟩
  have HS2 : Hid (MkS w w2 F R f.ho f.su f.tr f.po f.he) := HS1.out.grow g2
  have HA2 : Hid (w2.heap[V]? = some (.cells #[.int .i64 c0, .int .i64 c1, .int .i64 c2, .int .i64 c3] 58 (0, 0))) := grown_keep g2 HA1.out (by simp)
  clear HS1 HA1 g2 HML x0 x1 x2 x3
  have x0 := block_cell HA2.out 0
  have x1 := block_cell HA2.out 1
  have x2 := block_cell HA2.out 2
  have x3 := block_cell HA2.out 3
  go_wp2_with fail
  clear x0 x1 x2 x3
  go_loopw [8, 9, 10, 11, 23] (fun _ _ _ _ x wr => ∃ k : Nat, k ≤ 4 ∧ x = .int .i64 (k : Int) ∧ Hid (MkS w wr F R f.ho f.su f.tr (addP f.po (zk p c0 c1 c2 c3 k)) (addH f.he (zk p c0 c1 c2 c3 k)))) (fun _ _ _ _ x _ => 4 - (intOf x).toNat)
  case atStart => exact ⟨0, by decide, rfl, HS2⟩
  case round =>
    obtain ⟨k, hk, rfl, HS⟩ := hrel
    clear HS2 HA2
    obtain ⟨pk, hpk⟩ : ∃ pk, pk = addP f.po (zk p c0 c1 c2 c3 k) := ⟨_, rfl⟩
    obtain ⟨hk2, hhk⟩ : ∃ hk2, hk2 = addH f.he (zk p c0 c1 c2 c3 k) := ⟨_, rfl⟩
    rw [← hpk, ← hhk] at HS
    have HPk : Hid (pk = addP f.po (zk p c0 c1 c2 c3 k)) := hpk
    have HHk : Hid (hk2 = addH f.he (zk p c0 c1 c2 c3 k)) := hhk
    clear hpk hhk
    rcases (show k = 0 ∨ k = 1 ∨ k = 2 ∨ k = 3 ∨ k = 4 from by omega) with rfl | rfl | rfl | rfl | rfl
    · obtain ⟨⟨mi, mn, mp, mh⟩, hm⟩ : ∃ m, m = moM p 1 := ⟨_, rfl⟩
      have HM := markOf_yes b es p 1 (by decide) wr (HB.out.keep HS.out.g).lies
      rw [← hm] at HM
      unfold mv at HM
      have HP : Hid (addP f.po (zk p c0 c1 c2 c3 1) = wrap64 (pk + wrap64 (c0 * mp))) := by
        have q := HPk.out
        show addP f.po (zk p c0 c1 c2 c3 0 ++ [(c0, moM p 1)]) = _
        rw [addP_snoc, ← hm, ← q]
        rfl
      have HH : Hid (addH f.he (zk p c0 c1 c2 c3 1) = wrap64 (hk2 + wrap64 (c0 * mh))) := by
        have q := HHk.out
        show addH f.he (zk p c0 c1 c2 c3 0 ++ [(c0, moM p 1)]) = _
        rw [addH_snoc, ← hm, ← q]
        rfl
      have HMo : Hid (moB p 1 = moB p 1) := rfl
      obtain ⟨mb, hmb⟩ : ∃ mb, mb = moB p 1 := ⟨_, rfl⟩
      rw [← hmb] at HM
      clear hm hmb HPk HHk HMo
      go_upto_region 9 with (first | (go_at_call 78; refine HM.mono ?_; rintro e w2 ⟨rfl, g2⟩; have HG2 : Hid (wr.grownBy w2 none) := g2; clear g2) | fail)
      obtain ⟨X, hX⟩ : ∃ X, X = w2.alloc (.cells #[.int .u8 mi, .string mn, .int .i64 mp, .int .i64 mh] 92) := ⟨_, rfl⟩
      have HX : Hid (MkS w X F R f.ho f.su f.tr pk hk2) := by rw [hX]; exact (HS.out.grow HG2.out).grow (World.grownBy_alloc _ _ none)
      have HXm : Hid (X.heap[w2.heap.size]? = some (.cells #[.int .u8 mi, .string mn, .int .i64 mp, .int .i64 mh] 92 (0, 0))) := by rw [hX]; exact alloc_at _ _ _
      rw [← hX]
      clear hX HM
      obtain ⟨G, hG⟩ : ∃ G, G = w2.heap.size := ⟨_, rfl⟩
      rw [← hG] at HXm ⊢
      clear hG
      have y3 := block_cell HX.out.f 3
      have y4 := block_cell HX.out.f 4
      have yf := fun i => block_free HX.out.f i
      have z2 := block_cell HXm.out 2
      have z3 := block_cell HXm.out 3
      have HN : Hid (¬ F = G) := fun e => by
        have a := HX.out.f
        have c := HXm.out
        rw [e, c] at a
        cases a
      have hne : ¬ F = G := HN.out
      have hne' : ¬ G = F := fun e => HN.out e.symm
      clear HN
      go_wp2
      go_roundw
      case rel => exact ⟨1, by decide, rfl, by rw [HP.out, HH.out]; exact (HX.out.set3 _).set4 _⟩
      case measure => simp [intOf]
    · obtain ⟨⟨mi, mn, mp, mh⟩, hm⟩ : ∃ m, m = moM p 2 := ⟨_, rfl⟩
      have HM := markOf_yes b es p 2 (by decide) wr (HB.out.keep HS.out.g).lies
      rw [← hm] at HM
      unfold mv at HM
      have HP : Hid (addP f.po (zk p c0 c1 c2 c3 2) = wrap64 (pk + wrap64 (c1 * mp))) := by
        have q := HPk.out
        show addP f.po (zk p c0 c1 c2 c3 1 ++ [(c1, moM p 2)]) = _
        rw [addP_snoc, ← hm, ← q]
        rfl
      have HH : Hid (addH f.he (zk p c0 c1 c2 c3 2) = wrap64 (hk2 + wrap64 (c1 * mh))) := by
        have q := HHk.out
        show addH f.he (zk p c0 c1 c2 c3 1 ++ [(c1, moM p 2)]) = _
        rw [addH_snoc, ← hm, ← q]
        rfl
      have HMo : Hid (moB p 2 = moB p 2) := rfl
      obtain ⟨mb, hmb⟩ : ∃ mb, mb = moB p 2 := ⟨_, rfl⟩
      rw [← hmb] at HM
      clear hm hmb HPk HHk HMo
      go_upto_region 9 with (first | (go_at_call 78; refine HM.mono ?_; rintro e w2 ⟨rfl, g2⟩; have HG2 : Hid (wr.grownBy w2 none) := g2; clear g2) | fail)
      obtain ⟨X, hX⟩ : ∃ X, X = w2.alloc (.cells #[.int .u8 mi, .string mn, .int .i64 mp, .int .i64 mh] 92) := ⟨_, rfl⟩
      have HX : Hid (MkS w X F R f.ho f.su f.tr pk hk2) := by rw [hX]; exact (HS.out.grow HG2.out).grow (World.grownBy_alloc _ _ none)
      have HXm : Hid (X.heap[w2.heap.size]? = some (.cells #[.int .u8 mi, .string mn, .int .i64 mp, .int .i64 mh] 92 (0, 0))) := by rw [hX]; exact alloc_at _ _ _
      rw [← hX]
      clear hX HM
      obtain ⟨G, hG⟩ : ∃ G, G = w2.heap.size := ⟨_, rfl⟩
      rw [← hG] at HXm ⊢
      clear hG
      have y3 := block_cell HX.out.f 3
      have y4 := block_cell HX.out.f 4
      have yf := fun i => block_free HX.out.f i
      have z2 := block_cell HXm.out 2
      have z3 := block_cell HXm.out 3
      have HN : Hid (¬ F = G) := fun e => by
        have a := HX.out.f
        have c := HXm.out
        rw [e, c] at a
        cases a
      have hne : ¬ F = G := HN.out
      have hne' : ¬ G = F := fun e => HN.out e.symm
      clear HN
      go_wp2
      go_roundw
      case rel => exact ⟨2, by decide, rfl, by rw [HP.out, HH.out]; exact (HX.out.set3 _).set4 _⟩
      case measure => simp [intOf]
    · obtain ⟨⟨mi, mn, mp, mh⟩, hm⟩ : ∃ m, m = moM p 3 := ⟨_, rfl⟩
      have HM := markOf_yes b es p 3 (by decide) wr (HB.out.keep HS.out.g).lies
      rw [← hm] at HM
      unfold mv at HM
      have HP : Hid (addP f.po (zk p c0 c1 c2 c3 3) = wrap64 (pk + wrap64 (c2 * mp))) := by
        have q := HPk.out
        show addP f.po (zk p c0 c1 c2 c3 2 ++ [(c2, moM p 3)]) = _
        rw [addP_snoc, ← hm, ← q]
        rfl
      have HH : Hid (addH f.he (zk p c0 c1 c2 c3 3) = wrap64 (hk2 + wrap64 (c2 * mh))) := by
        have q := HHk.out
        show addH f.he (zk p c0 c1 c2 c3 2 ++ [(c2, moM p 3)]) = _
        rw [addH_snoc, ← hm, ← q]
        rfl
      have HMo : Hid (moB p 3 = moB p 3) := rfl
      obtain ⟨mb, hmb⟩ : ∃ mb, mb = moB p 3 := ⟨_, rfl⟩
      rw [← hmb] at HM
      clear hm hmb HPk HHk HMo
      go_upto_region 9 with (first | (go_at_call 78; refine HM.mono ?_; rintro e w2 ⟨rfl, g2⟩; have HG2 : Hid (wr.grownBy w2 none) := g2; clear g2) | fail)
      obtain ⟨X, hX⟩ : ∃ X, X = w2.alloc (.cells #[.int .u8 mi, .string mn, .int .i64 mp, .int .i64 mh] 92) := ⟨_, rfl⟩
      have HX : Hid (MkS w X F R f.ho f.su f.tr pk hk2) := by rw [hX]; exact (HS.out.grow HG2.out).grow (World.grownBy_alloc _ _ none)
      have HXm : Hid (X.heap[w2.heap.size]? = some (.cells #[.int .u8 mi, .string mn, .int .i64 mp, .int .i64 mh] 92 (0, 0))) := by rw [hX]; exact alloc_at _ _ _
      rw [← hX]
      clear hX HM
      obtain ⟨G, hG⟩ : ∃ G, G = w2.heap.size := ⟨_, rfl⟩
      rw [← hG] at HXm ⊢
      clear hG
      have y3 := block_cell HX.out.f 3
      have y4 := block_cell HX.out.f 4
      have yf := fun i => block_free HX.out.f i
      have z2 := block_cell HXm.out 2
      have z3 := block_cell HXm.out 3
      have HN : Hid (¬ F = G) := fun e => by
        have a := HX.out.f
        have c := HXm.out
        rw [e, c] at a
        cases a
      have hne : ¬ F = G := HN.out
      have hne' : ¬ G = F := fun e => HN.out e.symm
      clear HN
      go_wp2
      go_roundw
      case rel => exact ⟨3, by decide, rfl, by rw [HP.out, HH.out]; exact (HX.out.set3 _).set4 _⟩
      case measure => simp [intOf]
    · obtain ⟨⟨mi, mn, mp, mh⟩, hm⟩ : ∃ m, m = moM p 4 := ⟨_, rfl⟩
      have HM := markOf_yes b es p 4 (by decide) wr (HB.out.keep HS.out.g).lies
      rw [← hm] at HM
      unfold mv at HM
      have HP : Hid (addP f.po (zk p c0 c1 c2 c3 4) = wrap64 (pk + wrap64 (c3 * mp))) := by
        have q := HPk.out
        show addP f.po (zk p c0 c1 c2 c3 3 ++ [(c3, moM p 4)]) = _
        rw [addP_snoc, ← hm, ← q]
        rfl
      have HH : Hid (addH f.he (zk p c0 c1 c2 c3 4) = wrap64 (hk2 + wrap64 (c3 * mh))) := by
        have q := HHk.out
        show addH f.he (zk p c0 c1 c2 c3 3 ++ [(c3, moM p 4)]) = _
        rw [addH_snoc, ← hm, ← q]
        rfl
      have HMo : Hid (moB p 4 = moB p 4) := rfl
      obtain ⟨mb, hmb⟩ : ∃ mb, mb = moB p 4 := ⟨_, rfl⟩
      rw [← hmb] at HM
      clear hm hmb HPk HHk HMo
      go_upto_region 9 with (first | (go_at_call 78; refine HM.mono ?_; rintro e w2 ⟨rfl, g2⟩; have HG2 : Hid (wr.grownBy w2 none) := g2; clear g2) | fail)
      obtain ⟨X, hX⟩ : ∃ X, X = w2.alloc (.cells #[.int .u8 mi, .string mn, .int .i64 mp, .int .i64 mh] 92) := ⟨_, rfl⟩
      have HX : Hid (MkS w X F R f.ho f.su f.tr pk hk2) := by rw [hX]; exact (HS.out.grow HG2.out).grow (World.grownBy_alloc _ _ none)
      have HXm : Hid (X.heap[w2.heap.size]? = some (.cells #[.int .u8 mi, .string mn, .int .i64 mp, .int .i64 mh] 92 (0, 0))) := by rw [hX]; exact alloc_at _ _ _
      rw [← hX]
      clear hX HM
      obtain ⟨G, hG⟩ : ∃ G, G = w2.heap.size := ⟨_, rfl⟩
      rw [← hG] at HXm ⊢
      clear hG
      have y3 := block_cell HX.out.f 3
      have y4 := block_cell HX.out.f 4
      have yf := fun i => block_free HX.out.f i
      have z2 := block_cell HXm.out 2
      have z3 := block_cell HXm.out 3
      have HN : Hid (¬ F = G) := fun e => by
        have a := HX.out.f
        have c := HXm.out
        rw [e, c] at a
        cases a
      have hne : ¬ F = G := HN.out
      have hne' : ¬ G = F := fun e => HN.out e.symm
      clear HN
      go_wp2
      go_roundw
      case rel => exact ⟨4, by decide, rfl, by rw [HP.out, HH.out]; exact (HX.out.set3 _).set4 _⟩
      case measure => simp [intOf]
    · have HE : Hid (mkdF p f c0 c1 c2 c3 = ⟨f.ho, f.su, f.tr, max pk 0, hk2⟩) := by
        show mkdF p f c0 c1 c2 c3 = _
        unfold mkdF
        rw [low0_max, HPk.out, HHk.out]
        rfl
      clear HPk HHk i0 i1 i2 i3
      have y0 := block_cell HS.out.f 0
      have y1 := block_cell HS.out.f 1
      have y2 := block_cell HS.out.f 2
      have y3 := block_cell HS.out.f 3
      have y4 := block_cell HS.out.f 4
      have yf := fun i => block_free HS.out.f i
      have r0 := block_cell HS.out.r 0
      have r1 := block_cell HS.out.r 1
      have r2 := block_cell HS.out.r 2
      have r3 := block_cell HS.out.r 3
      have r4 := block_cell HS.out.r 4
      have rf := fun i => block_free HS.out.r i
      have hne : ¬ F = R := HS.out.ne
      have hne' : ¬ R = F := fun e => HS.out.ne e.symm
      go_wp2
      refine bodyPost_ret (v := .tuple #[fev ⟨f.ho, f.su, f.tr, max pk 0, hk2⟩, .int .i64 0]) (by simp [results, Tryz.results39, go_sem, fev, r0, r1, r2, r3, r4]) rfl ⟨by rw [HE.out]; rfl, ?_⟩
      exact grown_own (grown_own HS.out.g (grown_set _ _ _ _) (fun y e => by cases e; exact HS.out.hF)) (((((grown_set _ _ _ _).trans (grown_set _ _ _ _)).trans (grown_set _ _ _ _)).trans (grown_set _ _ _ _)).trans (grown_set _ _ _ _)) (fun y e => by cases e; exact HS.out.hR)
end Go.Proofs.YtmemeloehgemcaaGreat
namespace Go.Proofs.YtmemeloehgemcaaGreat
open Go.RowKit

def CrPost (h : Hd) (ps : List Pt) (x : Int) (w : World) (e : Ending) (w' : World) : Prop := ∃ u, e = .returned (.tuple #[cv h u, .int .i64 x]) ∧ POwn w' w.heap.size u ps ∧ w.grownBy w' none
def own01 (t : Th) : Bool := decide (t.owner = 0) || decide (t.owner = 1)
def ptF (h : Hd) (x : Int) (t : Th) : Fe := if x = 0 ∧ own01 t = true then ⟨t.owner, h.su, h.tr, h.po, h.he⟩ else Fe.none
def ptE (x : Int) (t : Th) : Int := if x = 0 then (if own01 t = true then 0 else 2) else x
set_option maxRecDepth 100000 in
set_option maxHeartbeats 4000000 in
theorem tcard_of (bv : Value) (t : Th) (h : Hd) (ps : List Pt) (x : Int) (w : World) (HAt : ∀ X, w.grownBy X none → Calls Tryz.prog 58 #[bv, .int .i64 t.card] X (CrPost h ps x X)) : Calls Tryz.prog 75 #[bv, thv t] w (CrPost h ps x w) := by
  obtain ⟨W0, hW0⟩ : ∃ W0, W0 = w.alloc (.cells #[.int .i64 t.card, .int .i64 t.owner, .int .u8 t.place, .int .i64 t.stamp, .int .i64 t.hurt, .int .i64 t.m0, .int .i64 t.m1, .int .i64 t.m2, .int .i64 t.m3, .int .i64 t.done, .bool t.fresh] 60) := ⟨_, rfl⟩
  obtain ⟨W1, hW1⟩ : ∃ W1, W1 = W0.alloc (.cells (ccs Hd.none (.slice none 0 0)) 88) := ⟨_, rfl⟩
  have HG0 : Hid (w.grownBy W0 none) := by rw [hW0]; exact World.grownBy_alloc _ _ none
  have HG1 : Hid (w.grownBy W1 none) := by rw [hW1]; exact grown_push HG0.out _
  have HC1 : Hid (CAt W1 W0.heap.size Hd.none (.slice none 0 0)) := by rw [hW1]; exact alloc_at W0 _ _
  have HS : Hid (W0.heap.size = w.heap.size + 1 ∧ W1.heap.size = W0.heap.size + 1) := ⟨by rw [hW0, World.size_alloc], by rw [hW1, World.size_alloc]⟩
  have HT : Hid (W1.heap[w.heap.size]? = some (.cells #[.int .i64 t.card, .int .i64 t.owner, .int .u8 t.place, .int .i64 t.stamp, .int .i64 t.hurt, .int .i64 t.m0, .int .i64 t.m1, .int .i64 t.m2, .int .i64 t.m3, .int .i64 t.done, .bool t.fresh] 60 (0, 0))) := by rw [hW1]; exact grown_keep (World.grownBy_alloc _ _ none) (by rw [hW0]; exact alloc_at w _ _) (by simp)
  have HA := HAt W1 HG1.out
  unfold CrPost at HA
  obtain ⟨K, hK⟩ : ∃ K, K = W0.heap.size := ⟨_, rfl⟩
  have HK : Hid (K = W0.heap.size) := hK
  rw [← hK] at HC1
  have hK2 : K = w.heap.size + 1 := by rw [hK, HS.out.1]
  unfold cv at HA
  unfold thv
  unfold ccs Hd.none at hW1
  rw [hW0] at hW1
  clear hW0 HAt hK
  go_enter Tryz.func75, Tryz.ntmps75
  go_upto_region 1 with fail
  rw [← hW1]
  clear hW1
  rw [← hK2]
  clear hK2
  have x0 := block_cell HT.out 0
  go_wp2_with (first | (go_at_call 58; refine HA.mono ?_; rintro e w2 ⟨u, rfl, o2, g2⟩; obtain ⟨a2, k2, rfl⟩ := o2.at.form; have HO2 : Hid (POwn w2 W1.heap.size (.slice a2 ps.length k2) ps) := o2; have HG2 : Hid (w.grownBy w2 none) := grown_trans HG1.out g2; have C2 := HC1.out.keep g2; obtain ⟨z0, z1, z2, z3, z4, z5, z6, z7, z8⟩ := C2.cells; have zf := fun i => C2.free i; simp only [Hd.none] at z0 z1 z2 z3 z4 z5 z6 z7 z8; clear o2 C2) | fail)
  refine bodyPost_ret (v := .tuple #[cv h (.slice a2 ps.length k2), .int .i64 x]) (by simp [results, Tryz.results75, go_sem, z0, z1, z2, z3, z4, z5, z6, z7, z8, cv]) rfl ⟨.slice a2 ps.length k2, rfl, ?_, ?_⟩
  · have := (HO2.out.keep (grown_s9 w2 K 0 h (.slice a2 ps.length k2)) (fun x e => by cases e; have := HS.out; have := HK.out; omega)).big (show w.heap.size ≤ W1.heap.size by have := HS.out; omega)
    unfold set9 at this
    simp only [Nat.zero_add] at this
    exact this
  · have := grown_own HG2.out (grown_s9 w2 K 0 h (.slice a2 ps.length k2)) (fun x e => by cases e; have := HS.out; have := HK.out; omega)
    unfold set9 at this
    simp only [Nat.zero_add] at this
    exact this
set_option maxRecDepth 100000 in
set_option maxHeartbeats 4000000 in
theorem tprinted_of (bv : Value) (t : Th) (h : Hd) (ps : List Pt) (x : Int) (w : World) (HC : ∀ X, w.grownBy X none → Calls Tryz.prog 75 #[bv, thv t] X (CrPost h ps x X)) : Calls Tryz.prog 38 #[bv, thv t] w fun e w' => e = .returned (.tuple #[fev (ptF h x t), .int .i64 (ptE x t)]) ∧ w.grownBy w' none := by
  obtain ⟨W1, hW1⟩ : ∃ W1, W1 = (w.alloc (.cells #[.int .i64 t.card, .int .i64 t.owner, .int .u8 t.place, .int .i64 t.stamp, .int .i64 t.hurt, .int .i64 t.m0, .int .i64 t.m1, .int .i64 t.m2, .int .i64 t.m3, .int .i64 t.done, .bool t.fresh] 60)).alloc (.cells #[.int .i64 0, .int .u8 0, .int .u16 0, .int .i64 0, .int .i64 0] 64) := ⟨_, rfl⟩
  have HG1 : Hid (w.grownBy W1 none) := by rw [hW1]; exact grown_push (World.grownBy_alloc _ _ none) _
  have HT : Hid (W1.heap[w.heap.size]? = some (.cells #[.int .i64 t.card, .int .i64 t.owner, .int .u8 t.place, .int .i64 t.stamp, .int .i64 t.hurt, .int .i64 t.m0, .int .i64 t.m1, .int .i64 t.m2, .int .i64 t.m3, .int .i64 t.done, .bool t.fresh] 60 (0, 0))) := by rw [hW1]; exact grown_keep (World.grownBy_alloc _ _ none) (alloc_at w _ _) (by simp)
  have HR : Hid (W1.heap[w.heap.size + 1]? = some (.cells #[.int .i64 0, .int .u8 0, .int .u16 0, .int .i64 0, .int .i64 0] 64 (0, 0))) := by rw [hW1]; exact alloc2_at _ _ _ _
  have HC1 := HC W1 HG1.out
  unfold CrPost cv thv at HC1
  unfold fev thv
  clear HC
  go_enter Tryz.func38, Tryz.ntmps38
  go_upto_region 1 with fail
  rw [← hW1]
  clear hW1
  obtain ⟨n0, h0⟩ : ∃ n0, n0 = w.heap.size := ⟨_, rfl⟩
  have HN : Hid (w.heap.size ≤ n0 + 1) := by show _ ≤ _; omega
  simp only [← h0] at HT HR ⊢
  obtain ⟨R, h1⟩ : ∃ R, R = n0 + 1 := ⟨_, rfl⟩
  simp only [← h1] at HR HN ⊢
  clear h0 h1
  have x0 := block_cell HT.out 0
  have x1 := block_cell HT.out 1
  have x2 := block_cell HT.out 2
  have x3 := block_cell HT.out 3
  have x4 := block_cell HT.out 4
  have x5 := block_cell HT.out 5
  have x6 := block_cell HT.out 6
  have x7 := block_cell HT.out 7
  have x8 := block_cell HT.out 8
  have x9 := block_cell HT.out 9
  have x10 := block_cell HT.out 10
  go_wp2_with fail
  refine HC1.mono ?_
  rintro e w2 ⟨u, rfl, o2, g2⟩
  obtain ⟨a2, k2, rfl⟩ := o2.at.form
  obtain ⟨W3, hW3⟩ : ∃ W3, W3 = w2.alloc (.cells (ccs h (.slice a2 ps.length k2)) 88) := ⟨_, rfl⟩
  have HG3 : Hid (W1.grownBy W3 none) := by rw [hW3]; exact grown_push g2 _
  have HG4 : Hid (w.grownBy W3 none) := grown_trans HG1.out HG3.out
  have HK : Hid (W3.heap[w2.heap.size]? = some (.cells (ccs h (.slice a2 ps.length k2)) 88 (0, 0))) := by rw [hW3]; exact alloc_at _ _ _
  have HT3 : Hid (W3.heap[n0]? = some (.cells #[.int .i64 t.card, .int .i64 t.owner, .int .u8 t.place, .int .i64 t.stamp, .int .i64 t.hurt, .int .i64 t.m0, .int .i64 t.m1, .int .i64 t.m2, .int .i64 t.m3, .int .i64 t.done, .bool t.fresh] 60 (0, 0))) := grown_keep HG3.out HT.out (by simp)
  have HR3 : Hid (W3.heap[R]? = some (.cells #[.int .i64 0, .int .u8 0, .int .u16 0, .int .i64 0, .int .i64 0] 64 (0, 0))) := grown_keep HG3.out HR.out (by simp)
  unfold ccs at hW3
  clear HC1 o2 g2 HG3 HT HR HG1 x0 x1 x2 x3 x4 x5 x6 x7 x8 x9 x10
  go_upto_region 2 with fail
  rw [← hW3]
  clear hW3
  obtain ⟨k, hk⟩ : ∃ k, k = w2.heap.size := ⟨_, rfl⟩
  rw [← hk] at HK ⊢
  clear hk
  have y1 := block_cell HT3.out 1
  have q1 := block_cell HK.out 1
  have q4 := block_cell HK.out 4
  have q5 := block_cell HK.out 5
  have q6 := block_cell HK.out 6
  simp only [ccs] at q1 q4 q5 q6
  have r0 := block_cell HR3.out 0
  have r1 := block_cell HR3.out 1
  have r2 := block_cell HR3.out 2
  have r3 := block_cell HR3.out 3
  have r4 := block_cell HR3.out 4
  have rf := fun i => block_free HR3.out i
  by_cases hx : x = 0
  · subst hx
    cases ho : own01 t with
    | true =>
      have HE : Hid (ptF h 0 t = ⟨t.owner, h.su, h.tr, h.po, h.he⟩ ∧ ptE 0 t = 0) := by unfold ptF ptE; rw [ho]; exact ⟨rfl, rfl⟩
      rcases (show t.owner = 0 ∨ t.owner = 1 from by unfold own01 at ho; simpa using ho) with e | e
      · clear ho
        rw [e] at y1
        have HEo : Hid (t.owner = 0) := e
        clear e
        go_wp2
        refine bodyPost_ret (v := .tuple #[fev ⟨0, h.su, h.tr, h.po, h.he⟩, .int .i64 0]) (by simp [results, Tryz.results38, go_sem, fev, r0, r1, r2, r3, r4]) rfl ⟨by rw [HE.out.1, HE.out.2, HEo.out]; rfl, ?_⟩
        exact grown_own HG4.out (((((grown_set _ _ _ _).trans (grown_set _ _ _ _)).trans (grown_set _ _ _ _)).trans (grown_set _ _ _ _)).trans (grown_set _ _ _ _)) (fun y e => by cases e; exact HN.out)
      · clear ho
        rw [e] at y1
        have HEo : Hid (t.owner = 1) := e
        clear e
        go_wp2
        refine bodyPost_ret (v := .tuple #[fev ⟨1, h.su, h.tr, h.po, h.he⟩, .int .i64 0]) (by simp [results, Tryz.results38, go_sem, fev, r0, r1, r2, r3, r4]) rfl ⟨by rw [HE.out.1, HE.out.2, HEo.out]; rfl, ?_⟩
        exact grown_own HG4.out (((((grown_set _ _ _ _).trans (grown_set _ _ _ _)).trans (grown_set _ _ _ _)).trans (grown_set _ _ _ _)).trans (grown_set _ _ _ _)) (fun y e => by cases e; exact HN.out)
    | false =>
      have HE : Hid (ptF h 0 t = Fe.none ∧ ptE 0 t = 2) := by unfold ptF ptE; rw [ho]; exact ⟨rfl, rfl⟩
      have hne : ¬ (t.owner = 0 ∨ t.owner = 1) := by unfold own01 at ho; simpa using ho
      have e1 : (t.owner != 0) = true := by simp; omega
      have e2 : (t.owner != 1) = true := by simp; omega
      clear ho hne
      go_wp2
      refine bodyPost_ret (v := .tuple #[fev Fe.none, .int .i64 2]) (by simp [results, Tryz.results38, go_sem, fev, Fe.none, r0, r1, r2, r3, r4]) rfl ⟨by rw [HE.out.1, HE.out.2]; rfl, ?_⟩
      exact grown_own HG4.out (((((grown_set _ _ _ _).trans (grown_set _ _ _ _)).trans (grown_set _ _ _ _)).trans (grown_set _ _ _ _)).trans (grown_set _ _ _ _)) (fun y e => by cases e; exact HN.out)
  · have HE : Hid (ptF h x t = Fe.none ∧ ptE x t = x) := by unfold ptF ptE; rw [if_neg (fun q => hx q.1), if_neg hx]; exact ⟨rfl, rfl⟩
    have e1 : (x != 0) = true := by simpa using hx
    clear hx
    go_wp2
    refine bodyPost_ret (v := .tuple #[fev Fe.none, .int .i64 x]) (by simp [results, Tryz.results38, go_sem, fev, Fe.none, r0, r1, r2, r3, r4]) rfl ⟨by rw [HE.out.1, HE.out.2]; rfl, ?_⟩
    exact grown_own HG4.out (((((grown_set _ _ _ _).trans (grown_set _ _ _ _)).trans (grown_set _ _ _ _)).trans (grown_set _ _ _ _)).trans (grown_set _ _ _ _)) (fun y e => by cases e; exact HN.out)
theorem tcard_book (ok : Nat → Prop) (b : Nat) (es : List Ent) (p : Pl) (t : Th) (w : World) (B : Book ok w b es p) : Calls Tryz.prog 75 #[.pointer (some ⟨b, 0, none⟩), thv t] w (CrPost (atC p es t.card).1 (atC p es t.card).2 (atX p es t.card) w) := tcard_of _ t _ _ _ w (fun X g => at_own ok b es p t.card X (B.keep g))
theorem tcard_none (v : Value) (t : Th) (w : World) (B : NoBk w v) : Calls Tryz.prog 75 #[v, thv t] w (CrPost Hd.none [] 1 w) := tcard_of _ t _ _ _ w (fun X g => (at_no v t.card X (B.keep g)).mono fun _ _ q => ⟨_, q.1, POwn.nil _ _, q.2⟩)
end Go.Proofs.YtmemeloehgemcaaGreat
