/-
  CopyParts: the same parts, in new memory.
  LentParts, SameParts, KeptParts: a list is lent with two more behind it; two lists are held against each other; a lent list is as it was.
  KeptParts: is a lent list as it was? LentCard: a card with its parts lent.
  Lists of parts that are written over: OverParts; markParts.
  BookScript: a pair of books; a card is added to both.
  thing.Card, and the document's: of every book made and every number the card in memory of its own, or the fault.
  thing's isBook, mayLie and Marked, of every book made, features and marks.
-/
import Derived.Test.YtogpgldbbegniabA4
import Derived.Test.YtogpgldbbegniabA12
import Derived.OwnWalk
import Derived.Test.YtogpgldbbegniabRCa
import Derived.Test.YtogpgldbbegniabA16
import Derived.Test.YtogpgldbbegniabA18
import Derived.Deep.MidRow
namespace Go.Proofs.Ytogpgldbbegniab
open Go.RowKit

set_option maxHeartbeats 1000000 in
/-- CopyParts: the same parts, in new memory. -/
theorem copy_any (v : Value) (ps : List Pt) (w : World) (h : PsAt w v ps) (hb : ps.length * 40 ≤ 140737488355328) : Calls Try.prog 33 #[v] w fun e w' => ∃ u, e = .returned u ∧ POwn w' w.heap.size u ps ∧ w.grownBy w' none := by
  obtain ⟨i0, hi, hz0, hz1, hz2⟩ := info_of Try.info60
  go_enter Try.func33, Try.ntmps33
  rcases h with ⟨rfl, rfl⟩ | ⟨ad, cap, rfl, hc, h⟩
  · go_wp2
    go_ret
    exact ⟨_, rfl, POwn.nil _ _, grown_refl _ _⟩
  · go_wp2_with (at_builtin; refine wpList_append_own_at _ rfl _ _ 45 rfl w.heap.size 60 i0 _ 8 40 Try.underlying45 hi hz0 hz1 hz2 rfl (by decide) _ 0 [] rfl (POwn.nil w _) ad ps.length cap (pcells ps) rfl (pcells_len ps) h (pcells_one ps) (by unfold maxLen; omega) (by rw [Nat.zero_add]; exact hb) (Nat.le_refl _) ?_; intro v1 w1 o1 g1 _ _)
    go_ret
    refine ⟨_, rfl, ?_, g1⟩
    simpa [POwn] using o1
end Go.Proofs.Ytogpgldbbegniab
namespace Go.Proofs.Ytogpgldbbegniab
open Go.RowKit

def mkP : Pt := ⟨0, 0, 0, 0, 0, 0, 0, ⟨#[109, 97, 114, 107]⟩⟩
theorem mk_cells {w : World} {g : Nat} (h : w.heap[g]? = some (.cells #[.int .u8 0, .int .u8 0, .int .u8 0, .int .i64 0, .int .u8 0, .int .u8 0, .int .u8 0, .string ⟨#[109, 97, 114, 107]⟩, .int .u8 0, .int .u8 0, .int .u8 0, .int .i64 0, .int .u8 0, .int .u8 0, .int .u8 0, .string ⟨#[109, 97, 114, 107]⟩] 60 (0, 0))) : ∀ j u, (pcells [mkP, mkP])[j]? = some u → w.cell? ((⟨g, 0, none⟩ : Addr).add j) = some u := fun j u hu => by
  rw [add_plain, Nat.zero_add, block_cell h]
  simpa [pcells, pvs, mkP] using hu
theorem own_app {w : World} {base : Nat} {v : Value} {a b : List Pt} (h : w.ownsRow base 60 8 v (a.length + b.length) (pcells a ++ pcells b)) : POwn w base v (a ++ b) := by
  unfold POwn
  rw [List.length_append, pcells_app]
  exact h
end Go.Proofs.Ytogpgldbbegniab
namespace Go.Proofs.Ytogpgldbbegniab
open Go.RowKit

end Go.Proofs.Ytogpgldbbegniab
namespace Go.Proofs.Ytogpgldbbegniab
open Go.RowKit

/-- A block that has room for so many parts. -/
def RoomAt (w : World) (g cap : Nat) : Prop := ∃ cs, w.heap[g]? = some (.cells cs 60 (0, 0)) ∧ cs.size = cap * 8
theorem RoomAt.keep {w w' : World} {g cap : Nat} {r : Option Nat} (h : RoomAt w g cap) (k : w.grownBy w' r) (hr : some g ≠ r) : RoomAt w' g cap := by
  obtain ⟨cs, h1, h2⟩ := h
  exact ⟨cs, grown_keep k h1 hr, h2⟩
theorem RoomAt.cell {w : World} {g cap : Nat} (h : RoomAt w g cap) {i : Nat} (hi : i < cap * 8) : ∃ u, w.cell? ⟨g, i, none⟩ = some u := by
  obtain ⟨cs, h1, h2⟩ := h
  exact ⟨cs[i]'(by omega), by rw [block_cell h1]; exact Array.getElem?_eq_getElem (by omega)⟩
theorem RoomAt.free {w : World} {g cap : Nat} (h : RoomAt w g cap) (i : Nat) : w.frozen? ⟨g, i, none⟩ = false := by
  obtain ⟨cs, h1, _⟩ := h
  exact block_free h1 i
theorem RoomAt.set {w : World} {g cap : Nat} (h : RoomAt w g cap) (i : Nat) (v : Value) : RoomAt (w.setCell ⟨g, i, none⟩ v) g cap := by
  obtain ⟨cs, h1, h2⟩ := h
  exact ⟨cs.setIfInBounds i v, block_set h1 i v, by simpa using h2⟩
theorem own_room {w : World} {base g n cap : Nat} {ps : List Pt} (h : POwn w base (.slice (some ⟨g, 0, none⟩) n cap) ps) : RoomAt w g cap ∧ cap ≤ maxLen ∧ base ≤ g := by
  obtain ⟨_, ⟨e, _⟩ | ⟨g', cap', cur, e, hb, hh, _, hc, hz, _⟩⟩ := h
  · cases e
  · injection e with e1 _ e3
    injection e1 with e1
    injection e1 with e1
    subst e1
    subst e3
    exact ⟨⟨cur, hh, hz⟩, hc, hb⟩
def lim (n : Nat) : Prop := n ≤ maxLen
theorem lim.wrap {n k : Nat} (h : lim n) (hk : k < n) : wrap64 ((k : Int) + 1) = (k : Int) + 1 := by unfold lim maxLen at h; unfold wrap64; omega
/-- What is written at place k of list i. -/
def mkN (i k : Int) : Int := wrap64 (wrap64 (wrap64 (-1000003 * i) - k) - 5)
def mkM (i k : Int) : Pt := ⟨0, 0, 0, mkN i k, 0, 0, 0, ⟨#[]⟩⟩
end Go.Proofs.Ytogpgldbbegniab
namespace Go.Proofs.Ytogpgldbbegniab
open Go.RowKit

/-- A book beside the document's. -/
structure Pr (ok : Nat → Prop) (w : World) (b r : Nat) (v : Value) (es fs : List Ent) (p : Pl) : Prop where
  book : Book ok w b es p
  rj : RJ w r v p
  rl : RL w v fs
  own : ∀ k, v.ownBlock = some k → ok k ∧ k < w.heap.size
  good : Good ok w fs
  same : es.map hp = fs.map hp
  mkd : MkD p
  zero : p.nms[0]? = some ⟨#[]⟩
theorem hp_len {es fs : List Ent} (h : es.map hp = fs.map hp) : es.length = fs.length := by have := congrArg List.length h; simpa using this
theorem hp_names {es fs : List Ent} (h : es.map hp = fs.map hp) : names es = names fs := by
  have := congrArg (List.map fun x : Hd × List Pt => x.1.nm) h
  rw [List.map_map, List.map_map] at this
  exact this
theorem hp_caE {es fs : List Ent} (h : es.map hp = fs.map hp) (p : Pl) (c : Cd) : caE p es c = caE p fs c := by
  unfold caE
  rw [hp_names h, hp_len h]
theorem hp_rk : ∀ {es fs : List Ent} (_ : es.map hp = fs.map hp) (h : Hd), rk es h = rk fs h
  | [], [], _, _ => rfl
  | [], _ :: _, e, _ => by simp at e
  | _ :: _, [], e, _ => by simp at e
  | x :: r, y :: t, e, h => by
    rw [List.map_cons, List.map_cons] at e
    injection e with e1 e2
    injection e1 with e1 _
    simp only [rk]
    rw [e1, hp_rk e2 h]
theorem hp_ins {es fs : List Ent} (h : es.map hp = fs.map hp) (hd : Hd) (u u' : Value) (ps : List Pt) : (ins es ⟨hd, u, ps⟩).map hp = (ins fs ⟨hd, u', ps⟩).map hp := by
  unfold ins
  simp only [List.map_append, List.map_cons, List.map_take, List.map_drop]
  rw [h, hp_rk h]
  rfl
/-- One book is written, then the other. -/
def Both2 (w w' : World) (b r : Nat) : Prop := ∃ x, w.grownBy x (some b) ∧ x.grownBy w' (some r)
theorem grown_new {a x y : World} {r : Option Nat} {g : Nat} (h : a.grownBy x r) (k : x.grownBy y (some g)) (hg : a.heap.size ≤ g) : a.grownBy y r := by
  obtain ⟨h1, h2, h3, h4, h5⟩ := h
  obtain ⟨k1, k2, k3, k4, k5⟩ := k
  refine ⟨k1.trans h1, k2.trans h2, k3.trans h3, Nat.le_trans h4 k4, fun j hj hr => ?_⟩
  rw [k5 j (by omega) (fun e => by cases e; omega)]
  exact h5 j hj hr
theorem PsAt.pre {w : World} {g cap n : Nat} {ps qs : List Pt} (h : PsAt w (.slice (some ⟨g, 0, none⟩) n cap) (ps ++ qs)) : PsAt w (.slice (some ⟨g, 0, none⟩) ps.length cap) ps := by
  rcases h with ⟨e, _⟩ | ⟨ad, cp, e, hc, hcell⟩
  · cases e
  · injection e with e1 e2 e3
    injection e1 with e1
    subst e1
    subst e3
    refine Or.inr ⟨_, _, rfl, by rw [List.length_append] at hc; omega, fun j u hu => hcell j u ?_⟩
    rw [pcells_app, List.getElem?_append_left (List.getElem?_eq_some_iff.1 hu).1]
    exact hu
end Go.Proofs.Ytogpgldbbegniab
namespace Go.Proofs.Ytogpgldbbegniab
open Go.RowKit

theorem hp_atC {es fs : List Ent} (h : es.map hp = fs.map hp) (p : Pl) (n : Int) : atC p es n = atC p fs n := by
  unfold atC
  have e : (es.map hp)[(n - 1).toNat]? = (fs.map hp)[(n - 1).toNat]? := by rw [h]
  rw [List.getElem?_map, List.getElem?_map] at e
  split
  · cases h1 : es[(n - 1).toNat]? with
    | none =>
      cases h2 : fs[(n - 1).toNat]? with
      | none => rfl
      | some y => rw [h1, h2] at e; cases e
    | some x =>
      cases h2 : fs[(n - 1).toNat]? with
      | none => rw [h1, h2] at e; cases e
      | some y =>
        rw [h1, h2] at e
        simp only [Option.map_some, Option.some.injEq] at e
        exact e
  · rfl
theorem hp_atX {es fs : List Ent} (h : es.map hp = fs.map hp) (p : Pl) (n : Int) : atX p es n = atX p fs n := by unfold atX; rw [hp_len h]
theorem atC_in {p : Pl} {es : List Ent} {m : Nat} {e : Ent} (hs : p.shut = true) (he : es[m]? = some e) : atC p es ((m : Int) + 1) = (e.h, e.ps) := by
  unfold atC
  rw [if_pos ⟨hs, by omega⟩, show ((m : Int) + 1 - 1).toNat = m by omega, he]
theorem atC_out {p : Pl} {es : List Ent} {n : Int} (h : ¬ atIn p es n) : atC p es n = (Hd.none, []) := by
  unfold atC
  split
  · rename_i h1
    have : es[(n - 1).toNat]? = none := List.getElem?_eq_none (by
      have : ¬ n ≤ (es.length : Int) := fun h2 => h ⟨h1.1, h1.2, h2⟩
      omega)
    rw [this]
  · rfl
theorem atX_in {p : Pl} {es : List Ent} {n : Int} (h : atIn p es n) : atX p es n = 0 := by unfold atX; exact if_pos h
theorem atX_out {p : Pl} {es : List Ent} {n : Int} (h : ¬ atIn p es n) : atX p es n = 6 := by unfold atX; exact if_neg h
/-- The card and the fault: what is told of a number. -/
def CaPost (p : Pl) (es : List Ent) (n : Int) (w : World) (e : Ending) (w' : World) : Prop := ∃ u, e = .returned (.tuple #[cv (atC p es n).1 u, .int .i64 (atX p es n)]) ∧ POwn w' w.heap.size u (atC p es n).2 ∧ w.grownBy w' none
theorem at_own (ok : Nat → Prop) (b : Nat) (es : List Ent) (p : Pl) (n : Int) (w : World) (B : Book ok w b es p) : Calls Try.prog 25 #[.pointer (some ⟨b, 0, none⟩), .int .i64 n] w (CaPost p es n w) := by
  by_cases h : atIn p es n
  · obtain ⟨m, rfl⟩ : ∃ m : Nat, n = (m : Int) + 1 := ⟨(n - 1).toNat, by have := h.2.1; omega⟩
    have hm : m < es.length := by have := h.2.2; omega
    refine (at_in ok b es p m es[m] w B.lies B.good h.1 (List.getElem?_eq_getElem hm) (B.parts _ (List.getElem_mem _))).mono ?_
    rintro e w' ⟨u, rfl, o, g⟩
    unfold CaPost
    rw [atX_in h, atC_in h.1 (List.getElem?_eq_getElem hm)]
    exact ⟨u, rfl, o, g⟩
  · refine (at_out b es p n w B.lies h).mono ?_
    rintro e w' ⟨rfl, g⟩
    unfold CaPost
    rw [atX_out h, atC_out h]
    exact ⟨_, rfl, POwn.nil _ _, g⟩
/-- A book of the document's own, as the telling of things sees it. -/
structure RD (ok : Nat → Prop) (w : World) (r : Nat) (v : Value) (p : Pl) (fs : List Ent) : Prop where
  rj : RJ w r v p
  rl : RL w v fs
  good : Good ok w fs
  len : fs.length ≤ 64
  par : ∀ e ∈ fs, e.ps.length ≤ 4
  mkd : MkD p
theorem RD.keep {ok : Nat → Prop} {w w' : World} {r : Nat} {v : Value} {p : Pl} {fs : List Ent} (h : RD ok w r v p fs) (g : w.grownBy w' none) : RD ok w' r v p fs := ⟨h.rj.keep g, h.rl.keep g, h.good.keep g, h.len, h.par, h.mkd⟩
theorem hp_memD {es fs : List Ent} (h : es.map hp = fs.map hp) {e : Ent} (he : e ∈ fs) : ∃ d ∈ es, d.h = e.h ∧ d.ps = e.ps := by
  have : hp e ∈ es.map hp := by rw [h]; exact List.mem_map_of_mem he
  obtain ⟨d, hd, e1⟩ := List.mem_map.1 this
  exact ⟨d, hd, congrArg Prod.fst e1, congrArg Prod.snd e1⟩
theorem Pr.rd {ok : Nat → Prop} {w : World} {b r : Nat} {v : Value} {es fs : List Ent} {p : Pl} (P : Pr ok w b r v es fs p) : RD ok w r v p fs := ⟨P.rj, P.rl, P.good, by rw [← hp_len P.same]; exact P.book.lies.len, fun e he => by
  obtain ⟨d, hd, _, h2⟩ := hp_memD P.same he
  rw [← h2]
  exact P.book.parts d hd, P.mkd⟩
end Go.Proofs.Ytogpgldbbegniab
namespace Go.Proofs.Ytogpgldbbegniab
open Go.RowKit

def okc (c : Int) : Bool := decide (0 ≤ c) && decide (c ≤ 99)
def okcs (c0 c1 c2 c3 : Int) : Bool := okc c0 && (okc c1 && (okc c2 && okc c3))
theorem okc_yes {c : Int} (h : okc c = true) : 0 ≤ c ∧ c ≤ 99 := by unfold okc at h; simpa using h
theorem okc_no {c : Int} (h : okc c = false) : c < 0 ∨ 99 < c := by
  unfold okc at h
  have : ¬ (0 ≤ c ∧ c ≤ 99) := fun q => by simp [q.1, q.2] at h
  omega
theorem retB {a b : Bool} (h : a = b) : Ending.returned (.bool a) = Ending.returned (.bool b) := by rw [h]
def MlR (c0 c1 c2 c3 : Int) (k : Nat) : Prop := (k ≥ 1 → okc c0 = true) ∧ (k ≥ 2 → okc c1 = true) ∧ (k ≥ 3 → okc c2 = true) ∧ (k ≥ 4 → okc c3 = true)
def fovT (c0 c1 c2 c3 : Int) : Value := .agg #[.int .i64 c0, .int .i64 c1, .int .i64 c2, .int .i64 c3]
theorem ixf0 (c0 c1 c2 c3 : Int) (w : World) : (Instr.index 31 (.agg #[.int .i64 c0, .int .i64 c1, .int .i64 c2, .int .i64 c3]) (.int .i64 0)).run Try.prog w = .ok (.int .i64 c0) w := by kernel_rfl
theorem ixf1 (c0 c1 c2 c3 : Int) (w : World) : (Instr.index 31 (.agg #[.int .i64 c0, .int .i64 c1, .int .i64 c2, .int .i64 c3]) (.int .i64 1)).run Try.prog w = .ok (.int .i64 c1) w := by kernel_rfl
theorem ixf2 (c0 c1 c2 c3 : Int) (w : World) : (Instr.index 31 (.agg #[.int .i64 c0, .int .i64 c1, .int .i64 c2, .int .i64 c3]) (.int .i64 2)).run Try.prog w = .ok (.int .i64 c2) w := by kernel_rfl
theorem ixf3 (c0 c1 c2 c3 : Int) (w : World) : (Instr.index 31 (.agg #[.int .i64 c0, .int .i64 c1, .int .i64 c2, .int .i64 c3]) (.int .i64 3)).run Try.prog w = .ok (.int .i64 c3) w := by kernel_rfl
set_option maxRecDepth 100000 in
set_option maxHeartbeats 4000000 in
theorem tisBook_yes (ok : Nat → Prop) (b : Nat) (es : List Ent) (p : Pl) (w : World) (B : Book ok w b es p) : Calls Try.prog 22 #[.pointer (some ⟨b, 0, none⟩)] w fun e w' => e = .returned (.bool true) ∧ w.grownBy w' none := by
  have HA := at_out b es p 0 w B.lies (fun h => by have := h.2.1; omega)
  unfold cv Hd.none at HA
  clear B
  go_enter Try.func22, Try.ntmps22
  go_wp2_with fail
  refine HA.mono ?_
  rintro e w1 ⟨rfl, g1⟩
  have HG : Hid (w.grownBy w1 none) := g1
  clear HA g1
  go_wp2_with fail
  go_ret
  exact ⟨rfl, grown_push HG.out _⟩
set_option maxRecDepth 100000 in
set_option maxHeartbeats 4000000 in
theorem tisBook_no (v : Value) (w : World) (B : NoBk w v) : Calls Try.prog 22 #[v] w fun e w' => e = .returned (.bool false) ∧ w.grownBy w' none := by
  have HA := at_no v 0 w B
  unfold cv Hd.none at HA
  clear B
  go_enter Try.func22, Try.ntmps22
  go_wp2_with fail
  refine HA.mono ?_
  rintro e w1 ⟨rfl, g1⟩
  have HG : Hid (w.grownBy w1 none) := g1
  clear HA g1
  go_wp2_with fail
  go_ret
  exact ⟨rfl, grown_push HG.out _⟩
set_option maxRecDepth 100000 in
set_option maxHeartbeats 4000000 in
theorem tmayLie_any (c0 c1 c2 c3 : Int) (w : World) : Calls Try.prog 23 #[.agg #[.int .i64 c0, .int .i64 c1, .int .i64 c2, .int .i64 c3]] w fun e w' => e = .returned (.bool (okcs c0 c1 c2 c3)) ∧ w.grownBy w' none := by
  have i0 := ixf0 c0 c1 c2 c3
  have i1 := ixf1 c0 c1 c2 c3
  have i2 := ixf2 c0 c1 c2 c3
  have i3 := ixf3 c0 c1 c2 c3
  obtain ⟨W, hW⟩ : ∃ W, W = w.alloc (.cells #[.int .i64 c0, .int .i64 c1, .int .i64 c2, .int .i64 c3] 31) := ⟨_, rfl⟩
  have HG : Hid (w.grownBy W none) := by rw [hW]; exact World.grownBy_alloc _ _ none
  have HB : Hid (W.heap[w.heap.size]? = some (.cells #[.int .i64 c0, .int .i64 c1, .int .i64 c2, .int .i64 c3] 31 (0, 0))) := by rw [hW]; exact alloc_at w _ _
  go_enter Try.func23, Try.ntmps23
  go_upto_region 1 with fail
  rw [← hW]
  clear hW
  have x0 := block_cell HB.out 0
  have x1 := block_cell HB.out 1
  have x2 := block_cell HB.out 2
  have x3 := block_cell HB.out 3
  go_wp2_with fail
  clear x0 x1 x2 x3
  go_loopw [4, 6] (fun _ x wr => ∃ k : Nat, k ≤ 4 ∧ x = .int .i64 (k : Int) ∧ Hid (wr = W ∧ MlR c0 c1 c2 c3 k)) (fun _ x _ => 4 - (intOf x).toNat)
  case atStart => exact ⟨0, by decide, rfl, rfl, fun h => absurd h (by decide), fun h => absurd h (by decide), fun h => absurd h (by decide), fun h => absurd h (by decide)⟩
  case round =>
    obtain ⟨k, hk, rfl, HR⟩ := hrel
    obtain ⟨rfl, hK⟩ := HR.out
    have HK : Hid (MlR c0 c1 c2 c3 k) := hK
    clear hK HR
    rcases (show k = 0 ∨ k = 1 ∨ k = 2 ∨ k = 3 ∨ k = 4 from by omega) with rfl | rfl | rfl | rfl | rfl
    · cases h0 : okc c0 with
      | false =>
        have E : okcs c0 c1 c2 c3 = false := by unfold okcs; have q := HK.out; unfold MlR at q; simp [h0]
        have HE : Hid (okcs c0 c1 c2 c3 = false) := E
        clear E HK
        rcases okc_no h0 with l | l
        · clear h0
          have l' : (decide (c0 < 0)) = true := by simpa using l
          go_wp2
          go_ret
          exact ⟨retB HE.out.symm, HG.out⟩
        · clear h0
          have l1 : ¬ c0 < 0 := by omega
          go_wp2
          go_ret
          exact ⟨retB HE.out.symm, HG.out⟩
      | true =>
        have HK2 : Hid (MlR c0 c1 c2 c3 1) := by have q := HK.out; have r := h0; exact ⟨fun _ => r, fun h => absurd h (by decide), fun h => absurd h (by decide), fun h => absurd h (by decide)⟩
        have l := okc_yes h0
        have l1 : ¬ c0 < 0 := by omega
        have l2 : ¬ 99 < c0 := by omega
        clear h0 HK l
        go_wp2
        go_roundw
        case rel => exact ⟨1, by decide, rfl, by first | exact ⟨rfl, HK2.out⟩ | exact ⟨trivial, HK2.out⟩⟩
        case measure => simp [intOf]
    · cases h1 : okc c1 with
      | false =>
        have E : okcs c0 c1 c2 c3 = false := by unfold okcs; have q := HK.out; unfold MlR at q; simp [h1]
        have HE : Hid (okcs c0 c1 c2 c3 = false) := E
        clear E HK
        rcases okc_no h1 with l | l
        · clear h1
          have l' : (decide (c1 < 0)) = true := by simpa using l
          go_wp2
          go_ret
          exact ⟨retB HE.out.symm, HG.out⟩
        · clear h1
          have l1 : ¬ c1 < 0 := by omega
          go_wp2
          go_ret
          exact ⟨retB HE.out.symm, HG.out⟩
      | true =>
        have HK2 : Hid (MlR c0 c1 c2 c3 2) := by have q := HK.out; have r := h1; exact ⟨fun _ => q.1 (by decide), fun _ => r, fun h => absurd h (by decide), fun h => absurd h (by decide)⟩
        have l := okc_yes h1
        have l1 : ¬ c1 < 0 := by omega
        have l2 : ¬ 99 < c1 := by omega
        clear h1 HK l
        go_wp2
        go_roundw
        case rel => exact ⟨2, by decide, rfl, by first | exact ⟨rfl, HK2.out⟩ | exact ⟨trivial, HK2.out⟩⟩
        case measure => simp [intOf]
    · cases h2 : okc c2 with
      | false =>
        have E : okcs c0 c1 c2 c3 = false := by unfold okcs; have q := HK.out; unfold MlR at q; simp [h2]
        have HE : Hid (okcs c0 c1 c2 c3 = false) := E
        clear E HK
        rcases okc_no h2 with l | l
        · clear h2
          have l' : (decide (c2 < 0)) = true := by simpa using l
          go_wp2
          go_ret
          exact ⟨retB HE.out.symm, HG.out⟩
        · clear h2
          have l1 : ¬ c2 < 0 := by omega
          go_wp2
          go_ret
          exact ⟨retB HE.out.symm, HG.out⟩
      | true =>
        have HK2 : Hid (MlR c0 c1 c2 c3 3) := by have q := HK.out; have r := h2; exact ⟨fun _ => q.1 (by decide), fun _ => q.2.1 (by decide), fun _ => r, fun h => absurd h (by decide)⟩
        have l := okc_yes h2
        have l1 : ¬ c2 < 0 := by omega
        have l2 : ¬ 99 < c2 := by omega
        clear h2 HK l
        go_wp2
        go_roundw
        case rel => exact ⟨3, by decide, rfl, by first | exact ⟨rfl, HK2.out⟩ | exact ⟨trivial, HK2.out⟩⟩
        case measure => simp [intOf]
    · cases h3 : okc c3 with
      | false =>
        have E : okcs c0 c1 c2 c3 = false := by unfold okcs; have q := HK.out; unfold MlR at q; simp [h3]
        have HE : Hid (okcs c0 c1 c2 c3 = false) := E
        clear E HK
        rcases okc_no h3 with l | l
        · clear h3
          have l' : (decide (c3 < 0)) = true := by simpa using l
          go_wp2
          go_ret
          exact ⟨retB HE.out.symm, HG.out⟩
        · clear h3
          have l1 : ¬ c3 < 0 := by omega
          go_wp2
          go_ret
          exact ⟨retB HE.out.symm, HG.out⟩
      | true =>
        have HK2 : Hid (MlR c0 c1 c2 c3 4) := by have q := HK.out; have r := h3; exact ⟨fun _ => q.1 (by decide), fun _ => q.2.1 (by decide), fun _ => q.2.2.1 (by decide), fun _ => r⟩
        have l := okc_yes h3
        have l1 : ¬ c3 < 0 := by omega
        have l2 : ¬ 99 < c3 := by omega
        clear h3 HK l
        go_wp2
        go_roundw
        case rel => exact ⟨4, by decide, rfl, by first | exact ⟨rfl, HK2.out⟩ | exact ⟨trivial, HK2.out⟩⟩
        case measure => simp [intOf]
    · have E : okcs c0 c1 c2 c3 = true := by have q := HK.out; unfold okcs; simp [q.1 (by decide), q.2.1 (by decide), q.2.2.1 (by decide), q.2.2.2 (by decide)]
      have HE : Hid (okcs c0 c1 c2 c3 = true) := E
      clear E HK
      go_wp2
      go_ret
      exact ⟨retB HE.out.symm, HG.out⟩
end Go.Proofs.Ytogpgldbbegniab
