/-
  Lists of parts that are written over: OverParts; markParts.
  BookScript: a pair of books; a card is added to both.
  thing.Card, and the document's: of every book made and every number the card in memory of its own, or the fault.
  thing's isBook, mayLie and Marked, of every book made, features and marks.
  thing.Marked, of every book made, features and marks.
  thing's Card, Printed and Unit, and the document's: of whatever answers a card.
-/
import Derived.Test.YtblkghfnjahkeaaGreatL10
import Derived.OwnWalk
import Derived.Test.YtblkghfnjahkeaaGreatRCa
import Derived.Test.YtblkghfnjahkeaaGreatL16
import Derived.Test.YtblkghfnjahkeaaGreatL14
import Derived.Test.YtblkghfnjahkeaaGreatL25
import Derived.Deep.MidRow
import Derived.Test.YtblkghfnjahkeaaGreatL17
namespace Go.Proofs.YtblkghfnjahkeaaGreat
open Go.RowKit

/-- A block that has room for so many parts. -/
def RoomAt (w : World) (g cap : Nat) : Prop := ∃ cs, w.heap[g]? = some (.cells cs 33 (0, 0)) ∧ cs.size = cap * 8
theorem RoomAt.keep {w w' : World} {g cap : Nat} {r : Option Nat} (h : RoomAt w g cap) (k : w.grownBy w' r) (hr : some g ≠ r) : RoomAt w' g cap := by
  obtain ⟨cs, h1, h2⟩ := h
  exact ⟨cs, grown_keep k h1 hr, h2⟩
theorem RoomAt.cell {w : World} {g cap : Nat} (h : RoomAt w g cap) {i : Nat} (hi : i < cap * 8) : ∃ u, w.cell? ⟨g, i, none⟩ = some u := by
  obtain ⟨cs, h1, h2⟩ := h
  exact ⟨cs[i]'(by omega), by rw [block_cell h1]; exact Array.getElem?_eq_getElem (by omega)⟩
theorem RoomAt.free {w : World} {g cap : Nat} (h : RoomAt w g cap) (i : Nat) : w.frozen? ⟨g, i, none⟩ = false := by
  obtain ⟨cs, h1, _⟩ := h
  exact block_free h1 i
theorem RoomAt.set {w : World} {g cap : Nat} (h : RoomAt w g cap) (i : Nat) (v : Value) : RoomAt (w.setCell ⟨g, i, none⟩ v) g cap := by
  obtain ⟨cs, h1, h2⟩ := h
  exact ⟨cs.setIfInBounds i v, block_set h1 i v, by simpa using h2⟩
theorem own_room {w : World} {base g n cap : Nat} {ps : List Pt} (h : POwn w base (.slice (some ⟨g, 0, none⟩) n cap) ps) : RoomAt w g cap ∧ cap ≤ maxLen ∧ base ≤ g := by
  obtain ⟨_, ⟨e, _⟩ | ⟨g', cap', cur, e, hb, hh, _, hc, hz, _⟩⟩ := h
  · cases e
  · injection e with e1 _ e3
    injection e1 with e1
    injection e1 with e1
    subst e1
    subst e3
    exact ⟨⟨cur, hh, hz⟩, hc, hb⟩
def lim (n : Nat) : Prop := n ≤ maxLen
theorem lim.wrap {n k : Nat} (h : lim n) (hk : k < n) : wrap64 ((k : Int) + 1) = (k : Int) + 1 := by unfold lim maxLen at h; unfold wrap64; omega
/-- What is written at place k of list i. -/
def mkN (i k : Int) : Int := wrap64 (wrap64 (wrap64 (-1000003 * i) - k) - 5)
def mkM (i k : Int) : Pt := ⟨0, 0, 0, mkN i k, 0, 0, 0, ⟨#[]⟩⟩
end Go.Proofs.YtblkghfnjahkeaaGreat
namespace Go.Proofs.YtblkghfnjahkeaaGreat
open Go.RowKit

/-- A book beside the document's. -/
structure Pr (ok : Nat → Prop) (w : World) (b r : Nat) (v : Value) (es fs : List Ent) (p : Pl) : Prop where
  book : Book ok w b es p
  rj : RJ w r v p
  rl : RL w v fs
  own : ∀ k, v.ownBlock = some k → ok k ∧ k < w.heap.size
  good : Good ok w fs
  same : es.map hp = fs.map hp
  mkd : MkD p
  zero : p.nms[0]? = some ⟨#[]⟩
theorem hp_len {es fs : List Ent} (h : es.map hp = fs.map hp) : es.length = fs.length := by have := congrArg List.length h; simpa using this
theorem hp_names {es fs : List Ent} (h : es.map hp = fs.map hp) : names es = names fs := by
  have := congrArg (List.map fun x : Hd × List Pt => x.1.nm) h
  rw [List.map_map, List.map_map] at this
  exact this
theorem hp_caE {es fs : List Ent} (h : es.map hp = fs.map hp) (p : Pl) (c : Cd) : caE p es c = caE p fs c := by
  unfold caE
  rw [hp_names h, hp_len h]
theorem hp_rk : ∀ {es fs : List Ent} (_ : es.map hp = fs.map hp) (h : Hd), rk es h = rk fs h
  | [], [], _, _ => rfl
  | [], _ :: _, e, _ => by simp at e
  | _ :: _, [], e, _ => by simp at e
  | x :: r, y :: t, e, h => by
    rw [List.map_cons, List.map_cons] at e
    injection e with e1 e2
    injection e1 with e1 _
    simp only [rk]
    rw [e1, hp_rk e2 h]
theorem hp_ins {es fs : List Ent} (h : es.map hp = fs.map hp) (hd : Hd) (u u' : Value) (ps : List Pt) : (ins es ⟨hd, u, ps⟩).map hp = (ins fs ⟨hd, u', ps⟩).map hp := by
  unfold ins
  simp only [List.map_append, List.map_cons, List.map_take, List.map_drop]
  rw [h, hp_rk h]
  rfl
/-- One book is written, then the other. -/
def Both2 (w w' : World) (b r : Nat) : Prop := ∃ x, w.grownBy x (some b) ∧ x.grownBy w' (some r)
theorem grown_new {a x y : World} {r : Option Nat} {g : Nat} (h : a.grownBy x r) (k : x.grownBy y (some g)) (hg : a.heap.size ≤ g) : a.grownBy y r := by
  obtain ⟨h1, h2, h3, h4, h5⟩ := h
  obtain ⟨k1, k2, k3, k4, k5⟩ := k
  refine ⟨k1.trans h1, k2.trans h2, k3.trans h3, Nat.le_trans h4 k4, fun j hj hr => ?_⟩
  rw [k5 j (by omega) (fun e => by cases e; omega)]
  exact h5 j hj hr
theorem PsAt.pre {w : World} {g cap n : Nat} {ps qs : List Pt} (h : PsAt w (.slice (some ⟨g, 0, none⟩) n cap) (ps ++ qs)) : PsAt w (.slice (some ⟨g, 0, none⟩) ps.length cap) ps := by
  rcases h with ⟨e, _⟩ | ⟨ad, cp, e, hc, hcell⟩
  · cases e
  · injection e with e1 e2 e3
    injection e1 with e1
    subst e1
    subst e3
    refine Or.inr ⟨_, _, rfl, by rw [List.length_append] at hc; omega, fun j u hu => hcell j u ?_⟩
    rw [pcells_app, List.getElem?_append_left (List.getElem?_eq_some_iff.1 hu).1]
    exact hu
end Go.Proofs.YtblkghfnjahkeaaGreat
namespace Go.Proofs.YtblkghfnjahkeaaGreat
open Go.RowKit

theorem hp_atC {es fs : List Ent} (h : es.map hp = fs.map hp) (p : Pl) (n : Int) : atC p es n = atC p fs n := by
  unfold atC
  have e : (es.map hp)[(n - 1).toNat]? = (fs.map hp)[(n - 1).toNat]? := by rw [h]
  rw [List.getElem?_map, List.getElem?_map] at e
  split
  · cases h1 : es[(n - 1).toNat]? with
    | none =>
      cases h2 : fs[(n - 1).toNat]? with
      | none => rfl
      | some y => rw [h1, h2] at e; cases e
    | some x =>
      cases h2 : fs[(n - 1).toNat]? with
      | none => rw [h1, h2] at e; cases e
      | some y =>
        rw [h1, h2] at e
        simp only [Option.map_some, Option.some.injEq] at e
        exact e
  · rfl
theorem hp_atX {es fs : List Ent} (h : es.map hp = fs.map hp) (p : Pl) (n : Int) : atX p es n = atX p fs n := by unfold atX; rw [hp_len h]
theorem atC_in {p : Pl} {es : List Ent} {m : Nat} {e : Ent} (hs : p.shut = true) (he : es[m]? = some e) : atC p es ((m : Int) + 1) = (e.h, e.ps) := by
  unfold atC
  rw [if_pos ⟨hs, by omega⟩, show ((m : Int) + 1 - 1).toNat = m by omega, he]
theorem atC_out {p : Pl} {es : List Ent} {n : Int} (h : ¬ atIn p es n) : atC p es n = (Hd.none, []) := by
  unfold atC
  split
  · rename_i h1
    have : es[(n - 1).toNat]? = none := List.getElem?_eq_none (by
      have : ¬ n ≤ (es.length : Int) := fun h2 => h ⟨h1.1, h1.2, h2⟩
      omega)
    rw [this]
  · rfl
theorem atX_in {p : Pl} {es : List Ent} {n : Int} (h : atIn p es n) : atX p es n = 0 := by unfold atX; exact if_pos h
theorem atX_out {p : Pl} {es : List Ent} {n : Int} (h : ¬ atIn p es n) : atX p es n = 6 := by unfold atX; exact if_neg h
/-- The card and the fault: what is told of a number. -/
def CaPost (p : Pl) (es : List Ent) (n : Int) (w : World) (e : Ending) (w' : World) : Prop := ∃ u, e = .returned (.tuple #[cv (atC p es n).1 u, .int .i64 (atX p es n)]) ∧ POwn w' w.heap.size u (atC p es n).2 ∧ w.grownBy w' none
theorem at_own (ok : Nat → Prop) (b : Nat) (es : List Ent) (p : Pl) (n : Int) (w : World) (B : Book ok w b es p) : Calls Tryz.prog 56 #[.pointer (some ⟨b, 0, none⟩), .int .i64 n] w (CaPost p es n w) := by
  by_cases h : atIn p es n
  · obtain ⟨m, rfl⟩ : ∃ m : Nat, n = (m : Int) + 1 := ⟨(n - 1).toNat, by have := h.2.1; omega⟩
    have hm : m < es.length := by have := h.2.2; omega
    refine (at_in ok b es p m es[m] w B.lies B.good h.1 (List.getElem?_eq_getElem hm) (B.parts _ (List.getElem_mem _))).mono ?_
    rintro e w' ⟨u, rfl, o, g⟩
    unfold CaPost
    rw [atX_in h, atC_in h.1 (List.getElem?_eq_getElem hm)]
    exact ⟨u, rfl, o, g⟩
  · refine (at_out b es p n w B.lies h).mono ?_
    rintro e w' ⟨rfl, g⟩
    unfold CaPost
    rw [atX_out h, atC_out h]
    exact ⟨_, rfl, POwn.nil _ _, g⟩
/-- A book of the document's own, as the telling of things sees it. -/
structure RD (ok : Nat → Prop) (w : World) (r : Nat) (v : Value) (p : Pl) (fs : List Ent) : Prop where
  rj : RJ w r v p
  rl : RL w v fs
  good : Good ok w fs
  len : fs.length ≤ 64
  par : ∀ e ∈ fs, e.ps.length ≤ 4
  mkd : MkD p
theorem RD.keep {ok : Nat → Prop} {w w' : World} {r : Nat} {v : Value} {p : Pl} {fs : List Ent} (h : RD ok w r v p fs) (g : w.grownBy w' none) : RD ok w' r v p fs := ⟨h.rj.keep g, h.rl.keep g, h.good.keep g, h.len, h.par, h.mkd⟩
theorem hp_memD {es fs : List Ent} (h : es.map hp = fs.map hp) {e : Ent} (he : e ∈ fs) : ∃ d ∈ es, d.h = e.h ∧ d.ps = e.ps := by
  have : hp e ∈ es.map hp := by rw [h]; exact List.mem_map_of_mem he
  obtain ⟨d, hd, e1⟩ := List.mem_map.1 this
  exact ⟨d, hd, congrArg Prod.fst e1, congrArg Prod.snd e1⟩
theorem Pr.rd {ok : Nat → Prop} {w : World} {b r : Nat} {v : Value} {es fs : List Ent} {p : Pl} (P : Pr ok w b r v es fs p) : RD ok w r v p fs := ⟨P.rj, P.rl, P.good, by rw [← hp_len P.same]; exact P.book.lies.len, fun e he => by
  obtain ⟨d, hd, _, h2⟩ := hp_memD P.same he
  rw [← h2]
  exact P.book.parts d hd, P.mkd⟩
end Go.Proofs.YtblkghfnjahkeaaGreat
namespace Go.Proofs.YtblkghfnjahkeaaGreat
open Go.RowKit

def okc (c : Int) : Bool := decide (0 ≤ c) && decide (c ≤ 99)
def okcs (c0 c1 c2 c3 : Int) : Bool := okc c0 && (okc c1 && (okc c2 && okc c3))
theorem okc_yes {c : Int} (h : okc c = true) : 0 ≤ c ∧ c ≤ 99 := by unfold okc at h; simpa using h
theorem okc_no {c : Int} (h : okc c = false) : c < 0 ∨ 99 < c := by
  unfold okc at h
  have : ¬ (0 ≤ c ∧ c ≤ 99) := fun q => by simp [q.1, q.2] at h
  omega
theorem retB {a b : Bool} (h : a = b) : Ending.returned (.bool a) = Ending.returned (.bool b) := by rw [h]
def MlR (c0 c1 c2 c3 : Int) (k : Nat) : Prop := (k ≥ 1 → okc c0 = true) ∧ (k ≥ 2 → okc c1 = true) ∧ (k ≥ 3 → okc c2 = true) ∧ (k ≥ 4 → okc c3 = true)
def fovT (c0 c1 c2 c3 : Int) : Value := .agg #[.int .i64 c0, .int .i64 c1, .int .i64 c2, .int .i64 c3]
theorem ixf0 (c0 c1 c2 c3 : Int) (w : World) : (Instr.index 84 (.agg #[.int .i64 c0, .int .i64 c1, .int .i64 c2, .int .i64 c3]) (.int .i64 0)).run Tryz.prog w = .ok (.int .i64 c0) w := by kernel_rfl
theorem ixf1 (c0 c1 c2 c3 : Int) (w : World) : (Instr.index 84 (.agg #[.int .i64 c0, .int .i64 c1, .int .i64 c2, .int .i64 c3]) (.int .i64 1)).run Tryz.prog w = .ok (.int .i64 c1) w := by kernel_rfl
theorem ixf2 (c0 c1 c2 c3 : Int) (w : World) : (Instr.index 84 (.agg #[.int .i64 c0, .int .i64 c1, .int .i64 c2, .int .i64 c3]) (.int .i64 2)).run Tryz.prog w = .ok (.int .i64 c2) w := by kernel_rfl
theorem ixf3 (c0 c1 c2 c3 : Int) (w : World) : (Instr.index 84 (.agg #[.int .i64 c0, .int .i64 c1, .int .i64 c2, .int .i64 c3]) (.int .i64 3)).run Tryz.prog w = .ok (.int .i64 c3) w := by kernel_rfl
end Go.Proofs.YtblkghfnjahkeaaGreat
namespace Go.Proofs.YtblkghfnjahkeaaGreat
open Go.RowKit

/-- While marks are added: where the features and the answer lie. -/
structure MkS (w wr : World) (F R : Nat) (a b c d e : Int) : Prop where
  g : w.grownBy wr none
  f : wr.heap[F]? = some (.cells #[.int .i64 a, .int .u8 b, .int .u16 c, .int .i64 d, .int .i64 e] 88 (0, 0))
  r : wr.heap[R]? = some (.cells #[.int .i64 0, .int .u8 0, .int .u16 0, .int .i64 0, .int .i64 0] 88 (0, 0))
  hF : w.heap.size ≤ F
  hR : w.heap.size ≤ R
  ne : ¬ F = R
theorem MkS.grow {w wr w2 : World} {F R : Nat} {a b c d e : Int} (h : MkS w wr F R a b c d e) (g : wr.grownBy w2 none) : MkS w w2 F R a b c d e := ⟨grown_trans h.g g, grown_keep g h.f (by simp), grown_keep g h.r (by simp), h.hF, h.hR, h.ne⟩
theorem MkS.set3 {w wr : World} {F R : Nat} {a b c d e : Int} (h : MkS w wr F R a b c d e) (x : Int) : MkS w (wr.setCell ⟨F, 3, none⟩ (.int .i64 x)) F R a b c x e := ⟨grown_own h.g (grown_set _ _ _ _) (fun y e => by cases e; exact h.hF), block_set h.f _ _, grown_keep (grown_set wr F 3 (.int .i64 x)) h.r (fun e => by injection e with e; exact h.ne e.symm), h.hF, h.hR, h.ne⟩
theorem MkS.set4 {w wr : World} {F R : Nat} {a b c d e : Int} (h : MkS w wr F R a b c d e) (x : Int) : MkS w (wr.setCell ⟨F, 4, none⟩ (.int .i64 x)) F R a b c d x := ⟨grown_own h.g (grown_set _ _ _ _) (fun y e => by cases e; exact h.hF), block_set h.f _ _, grown_keep (grown_set wr F 4 (.int .i64 x)) h.r (fun e => by injection e with e; exact h.ne e.symm), h.hF, h.hR, h.ne⟩
theorem alloc2_at (w : World) (o : Obj) (cs : Array Value) (t : TypeId) : ((w.alloc o).alloc (.cells cs t)).heap[w.heap.size + 1]? = some (.cells cs t (0, 0)) := by have := alloc_at (w.alloc o) cs t; rwa [World.size_alloc] at this
theorem alloc3_at (w : World) (o o2 : Obj) (cs : Array Value) (t : TypeId) : (((w.alloc o).alloc o2).alloc (.cells cs t)).heap[w.heap.size + 1 + 1]? = some (.cells cs t (0, 0)) := by have := alloc_at ((w.alloc o).alloc o2) cs t; rwa [World.size_alloc, World.size_alloc] at this
/-- The first k marks, added. -/
def zk (p : Pl) (c0 c1 c2 c3 : Int) (k : Nat) : List (Int × Mk) := (zs p c0 c1 c2 c3).take k
theorem low0_max (a : Int) : low0 a = max a 0 := by unfold low0; split <;> omega
end Go.Proofs.YtblkghfnjahkeaaGreat
namespace Go.Proofs.YtblkghfnjahkeaaGreat
open Go.RowKit

/-- A card and the fault are told, the parts in memory of their own. -/
def CrPost (h : Hd) (ps : List Pt) (x : Int) (w : World) (e : Ending) (w' : World) : Prop := ∃ u, e = .returned (.tuple #[cv h u, .int .i64 x]) ∧ POwn w' w.heap.size u ps ∧ w.grownBy w' none
/-- The features printed on a card, and the fault. -/
def own01 (t : Th) : Bool := decide (t.owner = 0) || decide (t.owner = 1)
def ptF (h : Hd) (x : Int) (t : Th) : Fe := if x = 0 ∧ own01 t = true then ⟨t.owner, h.su, h.tr, h.po, h.he⟩ else Fe.none
def ptE (x : Int) (t : Th) : Int := if x = 0 then (if own01 t = true then 0 else 2) else x
def unB (h : Hd) (x : Int) (t : Th) : Bool := decide (x = 0) && (decide (t.place = 4) && decide (h.kd = 1))
set_option maxRecDepth 100000 in
set_option maxHeartbeats 4000000 in
theorem tcard_of (bv : Value) (t : Th) (h : Hd) (ps : List Pt) (x : Int) (w : World) (HAt : ∀ X, w.grownBy X none → Calls Tryz.prog 56 #[bv, .int .i64 t.card] X (CrPost h ps x X)) : Calls Tryz.prog 111 #[bv, thv t] w (CrPost h ps x w) := by
  obtain ⟨W0, hW0⟩ : ∃ W0, W0 = w.alloc (.cells #[.int .i64 t.card, .int .i64 t.owner, .int .u8 t.place, .int .i64 t.stamp, .int .i64 t.hurt, .int .i64 t.m0, .int .i64 t.m1, .int .i64 t.m2, .int .i64 t.m3, .int .i64 t.done, .bool t.fresh] 86) := ⟨_, rfl⟩
  obtain ⟨W1, hW1⟩ : ∃ W1, W1 = W0.alloc (.cells (ccs Hd.none (.slice none 0 0)) 43) := ⟨_, rfl⟩
  have HG0 : Hid (w.grownBy W0 none) := by rw [hW0]; exact World.grownBy_alloc _ _ none
  have HG1 : Hid (w.grownBy W1 none) := by rw [hW1]; exact grown_push HG0.out _
  have HC1 : Hid (CAt W1 W0.heap.size Hd.none (.slice none 0 0)) := by rw [hW1]; exact alloc_at W0 _ _
  have HS : Hid (W0.heap.size = w.heap.size + 1 ∧ W1.heap.size = W0.heap.size + 1) := ⟨by rw [hW0, World.size_alloc], by rw [hW1, World.size_alloc]⟩
  have HT : Hid (W1.heap[w.heap.size]? = some (.cells #[.int .i64 t.card, .int .i64 t.owner, .int .u8 t.place, .int .i64 t.stamp, .int .i64 t.hurt, .int .i64 t.m0, .int .i64 t.m1, .int .i64 t.m2, .int .i64 t.m3, .int .i64 t.done, .bool t.fresh] 86 (0, 0))) := by rw [hW1]; exact grown_keep (World.grownBy_alloc _ _ none) (by rw [hW0]; exact alloc_at w _ _) (by simp)
  have HA := HAt W1 HG1.out
  unfold CrPost at HA
  obtain ⟨K, hK⟩ : ∃ K, K = W0.heap.size := ⟨_, rfl⟩
  have HK : Hid (K = W0.heap.size) := hK
  rw [← hK] at HC1
  have hK2 : K = w.heap.size + 1 := by rw [hK, HS.out.1]
  unfold cv at HA
  unfold thv
  unfold ccs Hd.none at hW1
  rw [hW0] at hW1
  clear hW0 HAt hK
  go_enter Tryz.func111, Tryz.ntmps111
  go_upto_region 1 with fail
  rw [← hW1]
  clear hW1
  rw [← hK2]
  clear hK2
  have x0 := block_cell HT.out 0
  go_wp2_with (first | (go_at_call 56; refine HA.mono ?_; rintro e w2 ⟨u, rfl, o2, g2⟩; obtain ⟨a2, k2, rfl⟩ := o2.at.form; have HO2 : Hid (POwn w2 W1.heap.size (.slice a2 ps.length k2) ps) := o2; have HG2 : Hid (w.grownBy w2 none) := grown_trans HG1.out g2; have C2 := HC1.out.keep g2; obtain ⟨z0, z1, z2, z3, z4, z5, z6, z7, z8⟩ := C2.cells; have zf := fun i => C2.free i; simp only [Hd.none] at z0 z1 z2 z3 z4 z5 z6 z7 z8; clear o2 C2) | fail)
  refine bodyPost_ret (v := .tuple #[cv h (.slice a2 ps.length k2), .int .i64 x]) (by simp [results, Tryz.results111, go_sem, z0, z1, z2, z3, z4, z5, z6, z7, z8, cv]) rfl ⟨.slice a2 ps.length k2, rfl, ?_, ?_⟩
  · have := (HO2.out.keep (grown_s9 w2 K 0 h (.slice a2 ps.length k2)) (fun x e => by cases e; have := HS.out; have := HK.out; omega)).big (show w.heap.size ≤ W1.heap.size by have := HS.out; omega)
    unfold set9 at this
    simp only [Nat.zero_add] at this
    exact this
  · have := grown_own HG2.out (grown_s9 w2 K 0 h (.slice a2 ps.length k2)) (fun x e => by cases e; have := HS.out; have := HK.out; omega)
    unfold set9 at this
    simp only [Nat.zero_add] at this
    exact this
theorem ret_b {a b : Bool} (h : a = b) : Ending.returned (.bool a) = Ending.returned (.bool b) := by rw [h]
theorem tcard_book (ok : Nat → Prop) (b : Nat) (es : List Ent) (p : Pl) (t : Th) (w : World) (B : Book ok w b es p) : Calls Tryz.prog 111 #[.pointer (some ⟨b, 0, none⟩), thv t] w (CrPost (atC p es t.card).1 (atC p es t.card).2 (atX p es t.card) w) := tcard_of _ t _ _ _ w (fun X g => at_own ok b es p t.card X (B.keep g))
theorem tcard_none (v : Value) (t : Th) (w : World) (B : NoBk w v) : Calls Tryz.prog 111 #[v, thv t] w (CrPost Hd.none [] 1 w) := tcard_of _ t _ _ _ w (fun X g => (at_no v t.card X (B.keep g)).mono fun _ _ q => ⟨_, q.1, POwn.nil _ _, q.2⟩)
end Go.Proofs.YtblkghfnjahkeaaGreat
