/-
  CopyParts: the same parts, in new memory.
  LentParts, SameParts, KeptParts: a list is lent with two more behind it; two lists are held against each other; a lent list is as it was.
  KeptParts: is a lent list as it was? LentCard: a card with its parts lent.
  Lists of parts that are written over: OverParts; markParts.
  BookScript: a pair of books; a card is added to both.
  thing.Card, and the document's: of every book made and every number the card in memory of its own, or the fault.
  Zones, plainly: things, decks, hands, the next stamp; when they are sound; a thing comes to a place; each call keeps them sound.
-/
import Derived.Test.YtogpgldbbegniaaGreatT3
import Derived.Test.YtogpgldbbegniaaGreatT4
import Derived.Test.YtogpgldbbegniaaGreatT13
import Derived.OwnWalk
import Derived.Test.YtogpgldbbegniaaGreatRCa
import Derived.Test.YtogpgldbbegniaaGreatT17
import Derived.Test.YtogpgldbbegniaaGreatT19
import Derived.WalkKit
namespace Go.Proofs.YtogpgldbbegniaaGreat
open Go.RowKit

set_option maxHeartbeats 1000000 in
/-- CopyParts: the same parts, in new memory. -/
theorem copy_any (v : Value) (ps : List Pt) (w : World) (h : PsAt w v ps) (hb : ps.length * 40 ≤ 140737488355328) : Calls Tryz.prog 116 #[v] w fun e w' => ∃ u, e = .returned u ∧ POwn w' w.heap.size u ps ∧ w.grownBy w' none := by
  obtain ⟨i0, hi, hz0, hz1, hz2⟩ := info_of Tryz.info125
  go_enter Tryz.func116, Tryz.ntmps116
  rcases h with ⟨rfl, rfl⟩ | ⟨ad, cap, rfl, hc, h⟩
  · go_wp2
    go_ret
    exact ⟨_, rfl, POwn.nil _ _, grown_refl _ _⟩
  · go_wp2_with (at_builtin; refine wpList_append_own_at _ rfl _ _ 67 rfl w.heap.size 125 i0 _ 8 40 Tryz.underlying67 hi hz0 hz1 hz2 rfl (by decide) _ 0 [] rfl (POwn.nil w _) ad ps.length cap (pcells ps) rfl (pcells_len ps) h (pcells_one ps) (by unfold maxLen; omega) (by rw [Nat.zero_add]; exact hb) (Nat.le_refl _) ?_; intro v1 w1 o1 g1 _ _)
    go_ret
    refine ⟨_, rfl, ?_, g1⟩
    simpa [POwn] using o1
end Go.Proofs.YtogpgldbbegniaaGreat
namespace Go.Proofs.YtogpgldbbegniaaGreat
open Go.RowKit

def mkP : Pt := ⟨0, 0, 0, 0, 0, 0, 0, ⟨#[109, 97, 114, 107]⟩⟩
theorem mk_cells {w : World} {g : Nat} (h : w.heap[g]? = some (.cells #[.int .u8 0, .int .u8 0, .int .u8 0, .int .i64 0, .int .u8 0, .int .u8 0, .int .u8 0, .string ⟨#[109, 97, 114, 107]⟩, .int .u8 0, .int .u8 0, .int .u8 0, .int .i64 0, .int .u8 0, .int .u8 0, .int .u8 0, .string ⟨#[109, 97, 114, 107]⟩] 125 (0, 0))) : ∀ j u, (pcells [mkP, mkP])[j]? = some u → w.cell? ((⟨g, 0, none⟩ : Addr).add j) = some u := fun j u hu => by
  rw [add_plain, Nat.zero_add, block_cell h]
  simpa [pcells, pvs, mkP] using hu
theorem own_app {w : World} {base : Nat} {v : Value} {a b : List Pt} (h : w.ownsRow base 125 8 v (a.length + b.length) (pcells a ++ pcells b)) : POwn w base v (a ++ b) := by
  unfold POwn
  rw [List.length_append, pcells_app]
  exact h
end Go.Proofs.YtogpgldbbegniaaGreat
namespace Go.Proofs.YtogpgldbbegniaaGreat
open Go.RowKit

end Go.Proofs.YtogpgldbbegniaaGreat
namespace Go.Proofs.YtogpgldbbegniaaGreat
open Go.RowKit

/-- A block that has room for so many parts. -/
def RoomAt (w : World) (g cap : Nat) : Prop := ∃ cs, w.heap[g]? = some (.cells cs 125 (0, 0)) ∧ cs.size = cap * 8
theorem RoomAt.keep {w w' : World} {g cap : Nat} {r : Option Nat} (h : RoomAt w g cap) (k : w.grownBy w' r) (hr : some g ≠ r) : RoomAt w' g cap := by
  obtain ⟨cs, h1, h2⟩ := h
  exact ⟨cs, grown_keep k h1 hr, h2⟩
theorem RoomAt.cell {w : World} {g cap : Nat} (h : RoomAt w g cap) {i : Nat} (hi : i < cap * 8) : ∃ u, w.cell? ⟨g, i, none⟩ = some u := by
  obtain ⟨cs, h1, h2⟩ := h
  exact ⟨cs[i]'(by omega), by rw [block_cell h1]; exact Array.getElem?_eq_getElem (by omega)⟩
theorem RoomAt.free {w : World} {g cap : Nat} (h : RoomAt w g cap) (i : Nat) : w.frozen? ⟨g, i, none⟩ = false := by
  obtain ⟨cs, h1, _⟩ := h
  exact block_free h1 i
theorem RoomAt.set {w : World} {g cap : Nat} (h : RoomAt w g cap) (i : Nat) (v : Value) : RoomAt (w.setCell ⟨g, i, none⟩ v) g cap := by
  obtain ⟨cs, h1, h2⟩ := h
  exact ⟨cs.setIfInBounds i v, block_set h1 i v, by simpa using h2⟩
theorem own_room {w : World} {base g n cap : Nat} {ps : List Pt} (h : POwn w base (.slice (some ⟨g, 0, none⟩) n cap) ps) : RoomAt w g cap ∧ cap ≤ maxLen ∧ base ≤ g := by
  obtain ⟨_, ⟨e, _⟩ | ⟨g', cap', cur, e, hb, hh, _, hc, hz, _⟩⟩ := h
  · cases e
  · injection e with e1 _ e3
    injection e1 with e1
    injection e1 with e1
    subst e1
    subst e3
    exact ⟨⟨cur, hh, hz⟩, hc, hb⟩
def lim (n : Nat) : Prop := n ≤ maxLen
theorem lim.wrap {n k : Nat} (h : lim n) (hk : k < n) : wrap64 ((k : Int) + 1) = (k : Int) + 1 := by unfold lim maxLen at h; unfold wrap64; omega
/-- What is written at place k of list i. -/
def mkN (i k : Int) : Int := wrap64 (wrap64 (wrap64 (-1000003 * i) - k) - 5)
def mkM (i k : Int) : Pt := ⟨0, 0, 0, mkN i k, 0, 0, 0, ⟨#[]⟩⟩
set_option maxHeartbeats 1000000 in
theorem mark_any (i k : Int) (w : World) : Calls Tryz.prog 86 #[.int .i64 i, .int .i64 k] w fun e w' => e = .returned (.agg #[.int .u8 0, .int .u8 0, .int .u8 0, .int .i64 (mkN i k), .int .u8 0, .int .u8 0, .int .u8 0, .string ⟨#[]⟩]) ∧ w.grownBy w' none := by
  go_enter Tryz.func86, Tryz.ntmps86
  go_wp2
  refine bodyPost_ret (v := .agg #[.int .u8 0, .int .u8 0, .int .u8 0, .int .i64 (mkN i k), .int .u8 0, .int .u8 0, .int .u8 0, .string ⟨#[]⟩]) (by simp [results, Tryz.results86, go_sem, mkN]) rfl ⟨rfl, ?_⟩
  exact World.grownBy_alloc _ _ _
end Go.Proofs.YtogpgldbbegniaaGreat
namespace Go.Proofs.YtogpgldbbegniaaGreat
open Go.RowKit

/-- A book beside the document's. -/
structure Pr (ok : Nat → Prop) (w : World) (b r : Nat) (v : Value) (es fs : List Ent) (p : Pl) : Prop where
  book : Book ok w b es p
  rj : RJ w r v p
  rl : RL w v fs
  own : ∀ k, v.ownBlock = some k → ok k ∧ k < w.heap.size
  good : Good ok w fs
  same : es.map hp = fs.map hp
  mkd : MkD p
  zero : p.nms[0]? = some ⟨#[]⟩
theorem hp_len {es fs : List Ent} (h : es.map hp = fs.map hp) : es.length = fs.length := by have := congrArg List.length h; simpa using this
theorem hp_names {es fs : List Ent} (h : es.map hp = fs.map hp) : names es = names fs := by
  have := congrArg (List.map fun x : Hd × List Pt => x.1.nm) h
  rw [List.map_map, List.map_map] at this
  exact this
theorem hp_caE {es fs : List Ent} (h : es.map hp = fs.map hp) (p : Pl) (c : Cd) : caE p es c = caE p fs c := by
  unfold caE
  rw [hp_names h, hp_len h]
theorem hp_rk : ∀ {es fs : List Ent} (_ : es.map hp = fs.map hp) (h : Hd), rk es h = rk fs h
  | [], [], _, _ => rfl
  | [], _ :: _, e, _ => by simp at e
  | _ :: _, [], e, _ => by simp at e
  | x :: r, y :: t, e, h => by
    rw [List.map_cons, List.map_cons] at e
    injection e with e1 e2
    injection e1 with e1 _
    simp only [rk]
    rw [e1, hp_rk e2 h]
theorem hp_ins {es fs : List Ent} (h : es.map hp = fs.map hp) (hd : Hd) (u u' : Value) (ps : List Pt) : (ins es ⟨hd, u, ps⟩).map hp = (ins fs ⟨hd, u', ps⟩).map hp := by
  unfold ins
  simp only [List.map_append, List.map_cons, List.map_take, List.map_drop]
  rw [h, hp_rk h]
  rfl
/-- One book is written, then the other. -/
def Both2 (w w' : World) (b r : Nat) : Prop := ∃ x, w.grownBy x (some b) ∧ x.grownBy w' (some r)
theorem grown_new {a x y : World} {r : Option Nat} {g : Nat} (h : a.grownBy x r) (k : x.grownBy y (some g)) (hg : a.heap.size ≤ g) : a.grownBy y r := by
  obtain ⟨h1, h2, h3, h4, h5⟩ := h
  obtain ⟨k1, k2, k3, k4, k5⟩ := k
  refine ⟨k1.trans h1, k2.trans h2, k3.trans h3, Nat.le_trans h4 k4, fun j hj hr => ?_⟩
  rw [k5 j (by omega) (fun e => by cases e; omega)]
  exact h5 j hj hr
theorem PsAt.pre {w : World} {g cap n : Nat} {ps qs : List Pt} (h : PsAt w (.slice (some ⟨g, 0, none⟩) n cap) (ps ++ qs)) : PsAt w (.slice (some ⟨g, 0, none⟩) ps.length cap) ps := by
  rcases h with ⟨e, _⟩ | ⟨ad, cp, e, hc, hcell⟩
  · cases e
  · injection e with e1 e2 e3
    injection e1 with e1
    subst e1
    subst e3
    refine Or.inr ⟨_, _, rfl, by rw [List.length_append] at hc; omega, fun j u hu => hcell j u ?_⟩
    rw [pcells_app, List.getElem?_append_left (List.getElem?_eq_some_iff.1 hu).1]
    exact hu
end Go.Proofs.YtogpgldbbegniaaGreat
namespace Go.Proofs.YtogpgldbbegniaaGreat
open Go.RowKit

theorem hp_atC {es fs : List Ent} (h : es.map hp = fs.map hp) (p : Pl) (n : Int) : atC p es n = atC p fs n := by
  unfold atC
  have e : (es.map hp)[(n - 1).toNat]? = (fs.map hp)[(n - 1).toNat]? := by rw [h]
  rw [List.getElem?_map, List.getElem?_map] at e
  split
  · cases h1 : es[(n - 1).toNat]? with
    | none =>
      cases h2 : fs[(n - 1).toNat]? with
      | none => rfl
      | some y => rw [h1, h2] at e; cases e
    | some x =>
      cases h2 : fs[(n - 1).toNat]? with
      | none => rw [h1, h2] at e; cases e
      | some y =>
        rw [h1, h2] at e
        simp only [Option.map_some, Option.some.injEq] at e
        exact e
  · rfl
theorem hp_atX {es fs : List Ent} (h : es.map hp = fs.map hp) (p : Pl) (n : Int) : atX p es n = atX p fs n := by unfold atX; rw [hp_len h]
theorem atC_in {p : Pl} {es : List Ent} {m : Nat} {e : Ent} (hs : p.shut = true) (he : es[m]? = some e) : atC p es ((m : Int) + 1) = (e.h, e.ps) := by
  unfold atC
  rw [if_pos ⟨hs, by omega⟩, show ((m : Int) + 1 - 1).toNat = m by omega, he]
theorem atC_out {p : Pl} {es : List Ent} {n : Int} (h : ¬ atIn p es n) : atC p es n = (Hd.none, []) := by
  unfold atC
  split
  · rename_i h1
    have : es[(n - 1).toNat]? = none := List.getElem?_eq_none (by
      have : ¬ n ≤ (es.length : Int) := fun h2 => h ⟨h1.1, h1.2, h2⟩
      omega)
    rw [this]
  · rfl
theorem atX_in {p : Pl} {es : List Ent} {n : Int} (h : atIn p es n) : atX p es n = 0 := by unfold atX; exact if_pos h
theorem atX_out {p : Pl} {es : List Ent} {n : Int} (h : ¬ atIn p es n) : atX p es n = 6 := by unfold atX; exact if_neg h
/-- The card and the fault: what is told of a number. -/
def CaPost (p : Pl) (es : List Ent) (n : Int) (w : World) (e : Ending) (w' : World) : Prop := ∃ u, e = .returned (.tuple #[cv (atC p es n).1 u, .int .i64 (atX p es n)]) ∧ POwn w' w.heap.size u (atC p es n).2 ∧ w.grownBy w' none
theorem at_own (ok : Nat → Prop) (b : Nat) (es : List Ent) (p : Pl) (n : Int) (w : World) (B : Book ok w b es p) : Calls Tryz.prog 81 #[.pointer (some ⟨b, 0, none⟩), .int .i64 n] w (CaPost p es n w) := by
  by_cases h : atIn p es n
  · obtain ⟨m, rfl⟩ : ∃ m : Nat, n = (m : Int) + 1 := ⟨(n - 1).toNat, by have := h.2.1; omega⟩
    have hm : m < es.length := by have := h.2.2; omega
    refine (at_in ok b es p m es[m] w B.lies B.good h.1 (List.getElem?_eq_getElem hm) (B.parts _ (List.getElem_mem _))).mono ?_
    rintro e w' ⟨u, rfl, o, g⟩
    unfold CaPost
    rw [atX_in h, atC_in h.1 (List.getElem?_eq_getElem hm)]
    exact ⟨u, rfl, o, g⟩
  · refine (at_out b es p n w B.lies h).mono ?_
    rintro e w' ⟨rfl, g⟩
    unfold CaPost
    rw [atX_out h, atC_out h]
    exact ⟨_, rfl, POwn.nil _ _, g⟩
/-- A book of the document's own, as the telling of things sees it. -/
structure RD (ok : Nat → Prop) (w : World) (r : Nat) (v : Value) (p : Pl) (fs : List Ent) : Prop where
  rj : RJ w r v p
  rl : RL w v fs
  good : Good ok w fs
  len : fs.length ≤ 64
  par : ∀ e ∈ fs, e.ps.length ≤ 4
  mkd : MkD p
theorem RD.keep {ok : Nat → Prop} {w w' : World} {r : Nat} {v : Value} {p : Pl} {fs : List Ent} (h : RD ok w r v p fs) (g : w.grownBy w' none) : RD ok w' r v p fs := ⟨h.rj.keep g, h.rl.keep g, h.good.keep g, h.len, h.par, h.mkd⟩
theorem hp_memD {es fs : List Ent} (h : es.map hp = fs.map hp) {e : Ent} (he : e ∈ fs) : ∃ d ∈ es, d.h = e.h ∧ d.ps = e.ps := by
  have : hp e ∈ es.map hp := by rw [h]; exact List.mem_map_of_mem he
  obtain ⟨d, hd, e1⟩ := List.mem_map.1 this
  exact ⟨d, hd, congrArg Prod.fst e1, congrArg Prod.snd e1⟩
theorem Pr.rd {ok : Nat → Prop} {w : World} {b r : Nat} {v : Value} {es fs : List Ent} {p : Pl} (P : Pr ok w b r v es fs p) : RD ok w r v p fs := ⟨P.rj, P.rl, P.good, by rw [← hp_len P.same]; exact P.book.lies.len, fun e he => by
  obtain ⟨d, hd, _, h2⟩ := hp_memD P.same he
  rw [← h2]
  exact P.book.parts d hd, P.mkd⟩
theorem rat_own (ok : Nat → Prop) (r : Nat) (v : Value) (p : Pl) (fs : List Ent) (n : Int) (w : World) (B : RD ok w r v p fs) : Calls Tryz.prog 83 #[.pointer (some ⟨r, 0, none⟩), .int .i64 n] w (CaPost p fs n w) := by
  by_cases h : atIn p fs n
  · obtain ⟨m, rfl⟩ : ∃ m : Nat, n = (m : Int) + 1 := ⟨(n - 1).toNat, by have := h.2.1; omega⟩
    have hm : m < fs.length := by have := h.2.2; omega
    refine (rat_in ok r v p fs m fs[m] w B.rj B.rl B.len B.good h.1 (List.getElem?_eq_getElem hm) (B.par _ (List.getElem_mem _))).mono ?_
    rintro e w' ⟨u, rfl, o, g⟩
    unfold CaPost
    rw [atX_in h, atC_in h.1 (List.getElem?_eq_getElem hm)]
    exact ⟨u, rfl, o, g⟩
  · refine (rat_out r v p fs n w B.rj B.rl h).mono ?_
    rintro e w' ⟨rfl, g⟩
    unfold CaPost
    rw [atX_out h, atC_out h]
    exact ⟨_, rfl, POwn.nil _ _, g⟩
end Go.Proofs.YtogpgldbbegniaaGreat
namespace Go.Proofs.YtogpgldbbegniaaGreat

/-- A thing. -/
structure Th where
  card : Int
  owner : Int
  place : Int
  stamp : Int
  hurt : Int
  m0 : Int
  m1 : Int
  m2 : Int
  m3 : Int
  done : Int
  fresh : Bool

/-- A thing at home, in a place. -/
def Th.home (t : Th) (tp : Int) : Th := ⟨t.card, t.owner, tp, 0, 0, 0, 0, 0, 0, 0, false⟩
/-- A thing that has come to the table. -/
def Th.tabled (t : Th) (nx : Int) : Th := ⟨t.card, t.owner, 4, nx, 0, 0, 0, 0, 0, 0, true⟩
def Th.off (t : Th) : Prop := t = t.home t.place
def Th.marked (t : Th) : Prop := (0 ≤ t.m0 ∧ t.m0 ≤ 99) ∧ (0 ≤ t.m1 ∧ t.m1 ≤ 99) ∧ (0 ≤ t.m2 ∧ t.m2 ≤ 99) ∧ (0 ≤ t.m3 ∧ t.m3 ≤ 99)
/-- May a thing be, by itself? -/
def Th.alone (t : Th) (nx : Int) : Prop := 1 ≤ t.card ∧ (t.owner = 0 ∨ t.owner = 1) ∧ (1 ≤ t.place ∧ t.place ≤ 5) ∧ (t.place ≠ 4 → t.off) ∧ (t.place = 4 → 1 ≤ t.stamp ∧ t.stamp < nx ∧ 0 ≤ t.hurt ∧ 0 ≤ t.done ∧ t.marked)
def Th.none : Th := ⟨0, 0, 0, 0, 0, 0, 0, 0, 0, 0, false⟩
def thAt (ts : List Th) (n : Int) : Th := ts.getD (n - 1).toNat Th.none
/-- Is there a thing of that number? -/
def there (ts : List Th) (n : Int) : Prop := 1 ≤ n ∧ n ≤ (ts.length : Int)
/-- Is n an owner's thing in a place? -/
def inn (ts : List Th) (p pl n : Int) : Prop := there ts n ∧ (thAt ts n).owner = p ∧ (thAt ts n).place = pl
def Holds (ts : List Th) (l : List Int) (p pl : Int) : Prop := l.Nodup ∧ ∀ n, n ∈ l ↔ inn ts p pl n
def onTab (p : Int) (t : Th) : Bool := decide (t.owner = p) && decide (t.place = 4)
def owned (ts : List Th) (p : Int) : Nat := ts.countP (onTab p)
structure Zs where
  ts : List Th
  dk : Int → List Int
  hd : Int → List Int
  nx : Int
structure Zs.Sound (z : Zs) : Prop where
  few : z.ts.length ≤ 2048
  nx1 : 1 ≤ z.nx
  nx2 : z.nx ≤ 1099511627776
  each : ∀ t ∈ z.ts, t.alone z.nx
  tab : ∀ p, p = 0 ∨ p = 1 → owned z.ts p ≤ 8
  hand : ∀ p, p = 0 ∨ p = 1 → (z.hd p).length ≤ 10
  dks : ∀ p, p = 0 ∨ p = 1 → Holds z.ts (z.dk p) p 1
  hds : ∀ p, p = 0 ∨ p = 1 → Holds z.ts (z.hd p) p 2
  stamps : ∀ n m, there z.ts n → there z.ts m → (thAt z.ts n).place = 4 → (thAt z.ts m).place = 4 → (thAt z.ts n).stamp = (thAt z.ts m).stamp → n = m

theorem there_at {ts : List Th} {n : Int} (h : there ts n) : ts[(n - 1).toNat]? = some (thAt ts n) := by
  have : (n - 1).toNat < ts.length := by unfold there at h; omega
  unfold thAt
  rw [List.getD_eq_getElem?_getD, List.getElem?_eq_getElem this]
  rfl
theorem there_mem {ts : List Th} {n : Int} (h : there ts n) : thAt ts n ∈ ts := List.mem_of_getElem? (there_at h)
theorem there_set {ts : List Th} {n : Int} (i : Nat) (t : Th) : there (ts.set i t) n ↔ there ts n := by unfold there; rw [List.length_set]
theorem thAt_set {ts : List Th} {n m : Int} (hn : there ts n) (hm : there ts m) (t : Th) : thAt (ts.set (n - 1).toNat t) m = if m = n then t else thAt ts m := by
  have h1 : (n - 1).toNat < ts.length := by unfold there at hn; omega
  unfold thAt
  rw [List.getD_eq_getElem?_getD, List.getElem?_set]
  unfold there at hn hm
  by_cases e : m = n
  · subst e
    rw [if_pos rfl, if_pos h1, if_pos rfl]
    rfl
  · rw [if_neg (by omega), if_neg e, List.getD_eq_getElem?_getD]
theorem alone_mono {t : Th} {a b : Int} (h : t.alone a) (hab : a ≤ b) : t.alone b := ⟨h.1, h.2.1, h.2.2.1, h.2.2.2.1, fun q => by
  obtain ⟨q1, q2, q3⟩ := h.2.2.2.2 q
  exact ⟨q1, by omega, q3⟩⟩
theorem alone_home {t : Th} {nx tp : Int} (h : t.alone nx) (h1 : 1 ≤ tp) (h2 : tp ≤ 5) (h4 : tp ≠ 4) : (t.home tp).alone nx := ⟨h.1, h.2.1, ⟨h1, h2⟩, fun _ => rfl, fun q => absurd q h4⟩
theorem alone_tabled {t : Th} {nx : Int} (h : t.alone nx) (hn : 1 ≤ nx) : (t.tabled nx).alone (nx + 1) := ⟨h.1, h.2.1, ⟨by show (1 : Int) ≤ 4; decide, by show (4 : Int) ≤ 5; decide⟩, fun q => absurd rfl q, fun _ => ⟨hn, by show nx < nx + 1; omega, Int.le_refl _, Int.le_refl _, ⟨⟨Int.le_refl _, by show (0 : Int) ≤ 99; decide⟩, ⟨Int.le_refl _, by show (0 : Int) ≤ 99; decide⟩, ⟨Int.le_refl _, by show (0 : Int) ≤ 99; decide⟩, ⟨Int.le_refl _, by show (0 : Int) ≤ 99; decide⟩⟩⟩⟩
theorem cntP_set {α : Type} (P : α → Bool) : ∀ (l : List α) (i : Nat) (y x : α), l[i]? = some y → (l.set i x).countP P + (if P y = true then 1 else 0) = l.countP P + (if P x = true then 1 else 0)
  | [], i, y, x, h => by simp at h
  | z :: l, 0, y, x, h => by
    simp at h
    subst h
    rw [List.set_cons_zero, List.countP_cons, List.countP_cons]
    omega
  | z :: l, i + 1, y, x, h => by
    have := cntP_set P l i y x (by simpa using h)
    rw [List.set_cons_succ, List.countP_cons, List.countP_cons]
    omega
theorem owned_set {ts : List Th} {n : Int} (hn : there ts n) (t : Th) (p : Int) : owned (ts.set (n - 1).toNat t) p + (if onTab p (thAt ts n) = true then 1 else 0) = owned ts p + (if onTab p t = true then 1 else 0) := cntP_set _ _ _ _ _ (there_at hn)
/-- A thing comes to a place. -/
def Zs.come (z : Zs) (n tp : Int) : Zs where
  ts := z.ts.set (n - 1).toNat (if tp = 4 then (thAt z.ts n).tabled z.nx else (thAt z.ts n).home tp)
  dk := fun p => if p = (thAt z.ts n).owner then (z.dk p).filter (· != n) ++ (if tp = 1 then [n] else []) else z.dk p
  hd := fun p => if p = (thAt z.ts n).owner then (z.hd p).filter (· != n) ++ (if tp = 2 then [n] else []) else z.hd p
  nx := if tp = 4 then z.nx + 1 else z.nx
/-- What it is then. -/
def Zs.coming (z : Zs) (n tp : Int) : Th := if tp = 4 then (thAt z.ts n).tabled z.nx else (thAt z.ts n).home tp
theorem coming_owner (z : Zs) (n tp : Int) : (z.coming n tp).owner = (thAt z.ts n).owner := by unfold Zs.coming; split <;> rfl
theorem coming_place (z : Zs) (n tp : Int) : (z.coming n tp).place = tp := by
  unfold Zs.coming
  split
  · next h => exact h.symm
  · rfl
theorem come_at {z : Zs} {n m : Int} (tp : Int) (hn : there z.ts n) (hm : there z.ts m) : thAt (z.come n tp).ts m = if m = n then z.coming n tp else thAt z.ts m := thAt_set hn hm _
theorem come_there {z : Zs} {n m tp : Int} : there (z.come n tp).ts m ↔ there z.ts m := there_set _ _
theorem inn_come {z : Zs} {n tp : Int} (hn : there z.ts n) (p pl m : Int) : inn (z.come n tp).ts p pl m ↔ there z.ts m ∧ (if m = n then (thAt z.ts n).owner = p ∧ tp = pl else (thAt z.ts m).owner = p ∧ (thAt z.ts m).place = pl) := by
  unfold inn
  rw [come_there]
  constructor
  · rintro ⟨h1, h2, h3⟩
    rw [come_at tp hn h1] at h2 h3
    refine ⟨h1, ?_⟩
    split
    · next e => rw [if_pos e] at h2 h3; rw [coming_owner] at h2; rw [coming_place] at h3; exact ⟨h2, h3⟩
    · next e => rw [if_neg e] at h2 h3; exact ⟨h2, h3⟩
  · rintro ⟨h1, h2⟩
    rw [come_at tp hn h1]
    refine ⟨h1, ?_⟩
    split
    · next e => rw [if_pos e] at h2; rw [coming_owner, coming_place]; exact h2
    · next e => rw [if_neg e] at h2; exact h2
theorem holds_come {z : Zs} {n tp : Int} (hn : there z.ts n) (p pl : Int) (l : List Int) (h : Holds z.ts l p pl) : Holds (z.come n tp).ts (if p = (thAt z.ts n).owner then l.filter (· != n) ++ (if tp = pl then [n] else []) else l) p pl := by
  by_cases hp : p = (thAt z.ts n).owner
  · rw [if_pos hp]
    constructor
    · refine List.nodup_append.2 ⟨h.1.filter _, by split <;> simp, ?_⟩
      intro a ha b hb
      split at hb
      · simp at hb ha
        omega
      · simp at hb
    · intro m
      rw [inn_come hn, List.mem_append, List.mem_filter, h.2]
      by_cases e : m = n
      · subst e
        rw [if_pos rfl]
        by_cases e2 : tp = pl
        · simp [e2, hn, hp]
        · simp [e2]
      · rw [if_neg e]
        unfold inn
        have : ¬ m ∈ (if tp = pl then [n] else []) := by split <;> simp [e]
        simp [this, e]
  · rw [if_neg hp]
    refine ⟨h.1, fun m => ?_⟩
    rw [inn_come hn, h.2]
    unfold inn
    by_cases e : m = n
    · subst e
      rw [if_pos rfl]
      constructor
      · rintro ⟨_, h1, _⟩
        exact absurd h1.symm hp
      · rintro ⟨_, h1, _⟩
        exact absurd h1.symm hp
    · rw [if_neg e]
theorem filter_lt {l : List Int} {n : Int} (h : n ∈ l) : (l.filter (· != n)).length < l.length := by
  refine Nat.lt_of_le_of_ne (List.length_filter_le _ _) (fun e => ?_)
  have := (List.length_filter_eq_length_iff.1 e) n h
  simp at this
theorem onTab_iff {p : Int} {t : Th} : onTab p t = true ↔ t.owner = p ∧ t.place = 4 := by unfold onTab; simp
/-- What lets a thing come to a place. -/
structure Zs.May (z : Zs) (n tp : Int) : Prop where
  at_ : there z.ts n
  lo : 1 ≤ tp
  hi : tp ≤ 5
  hand : tp = 2 → (thAt z.ts n).place ≠ 2 → (z.hd (thAt z.ts n).owner).length < 10
  tab : tp = 4 → (thAt z.ts n).place ≠ 4 → owned z.ts (thAt z.ts n).owner < 8
  nx : tp = 4 → z.nx < 1099511627776
theorem Zs.Sound.own {z : Zs} (S : z.Sound) {n : Int} (h : there z.ts n) : (thAt z.ts n).owner = 0 ∨ (thAt z.ts n).owner = 1 := (S.each _ (there_mem h)).2.1
theorem Zs.Sound.come {z : Zs} (S : z.Sound) {n tp : Int} (M : z.May n tp) : (z.come n tp).Sound := by
  have hn := M.at_
  have A := S.each _ (there_mem hn)
  have hown := S.own hn
  constructor
  · show (z.ts.set _ _).length ≤ _
    rw [List.length_set]
    exact S.few
  · show 1 ≤ (if tp = 4 then z.nx + 1 else z.nx)
    have := S.nx1
    split <;> omega
  · show (if tp = 4 then z.nx + 1 else z.nx) ≤ _
    have h1 := S.nx2
    split
    · next e => have := M.nx e; omega
    · exact h1
  · intro t ht
    show t.alone (if tp = 4 then z.nx + 1 else z.nx)
    rcases List.mem_or_eq_of_mem_set ht with h | h
    · refine alone_mono (S.each t h) ?_
      split <;> omega
    · rw [h]
      split
      · exact alone_tabled A S.nx1
      · next e => exact alone_home A M.lo M.hi e
  · intro p hp
    have e := owned_set hn (z.coming n tp) p
    have h8 := S.tab p hp
    show owned (z.ts.set _ (z.coming n tp)) p ≤ 8
    by_cases h4 : tp = 4
    · by_cases ho : (thAt z.ts n).owner = p
      · by_cases hq : (thAt z.ts n).place = 4
        · rw [if_pos (onTab_iff.2 ⟨ho, hq⟩)] at e
          split at e <;> omega
        · have := M.tab h4 hq
          rw [ho] at this
          split at e <;> split at e <;> omega
      · rw [if_neg (c := onTab p (z.coming n tp) = true) (fun q => ho (by rw [← coming_owner z n tp]; exact (onTab_iff.1 q).1))] at e
        omega
    · rw [if_neg (c := onTab p (z.coming n tp) = true) (fun q => h4 (by rw [← coming_place z n tp]; exact (onTab_iff.1 q).2))] at e
      omega
  · intro p hp
    show (if p = (thAt z.ts n).owner then (z.hd p).filter (· != n) ++ (if tp = 2 then [n] else []) else z.hd p).length ≤ 10
    have h10 := S.hand p hp
    split
    · next e =>
      rw [List.length_append]
      have hf := List.length_filter_le (fun x => x != n) (z.hd p)
      by_cases h2 : tp = 2
      · rw [if_pos h2]
        by_cases hq : (thAt z.ts n).place = 2
        · have := filter_lt (((S.hds p hp).2 n).2 ⟨hn, e.symm, hq⟩)
          simp only [List.length_singleton]
          omega
        · have := M.hand h2 hq
          rw [← e] at this
          simp only [List.length_singleton]
          omega
      · rw [if_neg h2]
        simp only [List.length_nil]
        omega
    · exact h10
  · intro p hp
    exact holds_come hn p 1 _ (S.dks p hp)
  · intro p hp
    exact holds_come hn p 2 _ (S.hds p hp)
  · intro a b ha hb pa pb hs
    rw [come_there] at ha hb
    rw [come_at tp hn ha] at pa hs
    rw [come_at tp hn hb] at pb hs
    by_cases ea : a = n
    · by_cases eb : b = n
      · rw [ea, eb]
      · rw [if_pos ea] at pa hs
        rw [if_neg eb] at pb hs
        rw [coming_place] at pa
        have h1 := ((S.each _ (there_mem hb)).2.2.2.2 pb).2.1
        rw [← hs] at h1
        unfold Zs.coming at h1
        rw [if_pos pa] at h1
        exact absurd h1 (Int.lt_irrefl _)
    · rw [if_neg ea] at pa hs
      by_cases eb : b = n
      · rw [if_pos eb] at pb hs
        rw [coming_place] at pb
        have h1 := ((S.each _ (there_mem ha)).2.2.2.2 pa).2.1
        rw [hs] at h1
        unfold Zs.coming at h1
        rw [if_pos pb] at h1
        exact absurd h1 (Int.lt_irrefl _)
      · rw [if_neg eb] at pb hs
        exact S.stamps a b ha hb pa pb hs
end Go.Proofs.YtogpgldbbegniaaGreat
