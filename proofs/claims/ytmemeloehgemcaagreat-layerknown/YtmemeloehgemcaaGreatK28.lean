/-
  The document's own book: Mark.
  The document's own book: Seal.
  The document's Copy of a card; Ahead; the document's At.
  The document's own book: At.
  The document's own book: its list of cards in memory of its own; Cards.
  The document's own book: a card laid at its place, plainly.
  Sets of traits as bits: which numbers are sets.
  The document's own Check of every card.
  The document's own book: Card.
  Lists of parts that are written over: OverParts; markParts.
  BookScript: a pair of books; a card is added to both.
  thing.Card, and the document's: of every book made and every number the card in memory of its own, or the fault.
  thing's isBook, mayLie and Marked, of every book made, features and marks.
  thing.Marked, of every book made, features and marks.
  thing's Card, Printed and Unit, and the document's: of whatever answers a card.
-/
import Derived.Test.YtmemeloehgemcaaGreatK16
import Derived.Deep.Cut
import Derived.Test.YtmemeloehgemcaaGreatK0
import Derived.Test.YtmemeloehgemcaaGreatK15
import Derived.OwnWalk
import Derived.Test.YtmemeloehgemcaaGreatK18
import Derived.Deep.MidRow
namespace Go.Proofs.YtmemeloehgemcaaGreat
open Go.RowKit

end Go.Proofs.YtmemeloehgemcaaGreat
namespace Go.Proofs.YtmemeloehgemcaaGreat
open Go.RowKit

end Go.Proofs.YtmemeloehgemcaaGreat
namespace Go.Proofs.YtmemeloehgemcaaGreat
open Go.RowKit

end Go.Proofs.YtmemeloehgemcaaGreat
namespace Go.Proofs.YtmemeloehgemcaaGreat
open Go.RowKit

end Go.Proofs.YtmemeloehgemcaaGreat
namespace Go.Proofs.YtmemeloehgemcaaGreat
open Go.RowKit

theorem cell_block' {w : World} {g o : Nat} {v : Value} (h : w.cell? ⟨g, o, none⟩ = some v) : g < w.heap.size := by
  by_cases hg : g < w.heap.size
  · exact hg
  · have : w.heap[g]? = none := Array.getElem?_eq_none (by omega)
    simp [World.cell?, this] at h
theorem PsOk.old {ok : Nat → Prop} {w : World} {v : Value} {ps : List Pt} (h : PsOk ok w v ps) : PsOk (fun k => ok k ∧ k < w.heap.size) w v ps := by
  obtain ⟨h1, h2⟩ := h
  refine ⟨h1, fun g o n c ev hn => ⟨h2 g o n c ev hn, ?_⟩⟩
  obtain ⟨x, y, hf⟩ := h1.form
  rw [hf] at ev
  injection ev with e1 e2 e3
  have h0 : 0 < ps.length := by omega
  obtain ⟨g', off, cap, ev', hP⟩ := h1.part h0
  rw [hf] at ev'
  injection ev' with e1' _ _
  rw [e1] at e1'
  injection e1' with e1'
  injection e1' with e1' _ _
  subst e1'
  obtain ⟨p, hp⟩ : ∃ p, ps[0]? = some p := ⟨_, List.getElem?_eq_getElem h0⟩
  exact cell_block' (hP 0 p hp).c0
theorem POwn.ok {w : World} {base : Nat} {v : Value} {ps : List Pt} (h : POwn w base v ps) : PsOk (fun k => base ≤ k) w v ps := ⟨h.at, fun g o n c ev _ => h.block g (by rw [ev]; rfl)⟩
def hp (e : Ent) : Hd × List Pt := (e.h, e.ps)
end Go.Proofs.YtmemeloehgemcaaGreat
namespace Go.Proofs.YtmemeloehgemcaaGreat
open Go.RowKit

end Go.Proofs.YtmemeloehgemcaaGreat
namespace Go.Proofs.YtmemeloehgemcaaGreat
open Go.RowKit

def bv (s : Int) : BitVec 16 := BitVec.ofInt 16 s
end Go.Proofs.YtmemeloehgemcaaGreat
namespace Go.Proofs.YtmemeloehgemcaaGreat
open Go.RowKit

end Go.Proofs.YtmemeloehgemcaaGreat
namespace Go.Proofs.YtmemeloehgemcaaGreat
open Go.RowKit

end Go.Proofs.YtmemeloehgemcaaGreat
namespace Go.Proofs.YtmemeloehgemcaaGreat
open Go.RowKit

end Go.Proofs.YtmemeloehgemcaaGreat
namespace Go.Proofs.YtmemeloehgemcaaGreat
open Go.RowKit

end Go.Proofs.YtmemeloehgemcaaGreat
namespace Go.Proofs.YtmemeloehgemcaaGreat
open Go.RowKit

theorem atC_in {p : Pl} {es : List Ent} {m : Nat} {e : Ent} (hs : p.shut = true) (he : es[m]? = some e) : atC p es ((m : Int) + 1) = (e.h, e.ps) := by
  unfold atC
  rw [if_pos ⟨hs, by omega⟩, show ((m : Int) + 1 - 1).toNat = m by omega, he]
theorem atC_out {p : Pl} {es : List Ent} {n : Int} (h : ¬ atIn p es n) : atC p es n = (Hd.none, []) := by
  unfold atC
  split
  · rename_i h1
    have : es[(n - 1).toNat]? = none := List.getElem?_eq_none (by
      have : ¬ n ≤ (es.length : Int) := fun h2 => h ⟨h1.1, h1.2, h2⟩
      omega)
    rw [this]
  · rfl
theorem atX_in {p : Pl} {es : List Ent} {n : Int} (h : atIn p es n) : atX p es n = 0 := by unfold atX; exact if_pos h
theorem atX_out {p : Pl} {es : List Ent} {n : Int} (h : ¬ atIn p es n) : atX p es n = 6 := by unfold atX; exact if_neg h
def CaPost (p : Pl) (es : List Ent) (n : Int) (w : World) (e : Ending) (w' : World) : Prop := ∃ u, e = .returned (.tuple #[cv (atC p es n).1 u, .int .i64 (atX p es n)]) ∧ POwn w' w.heap.size u (atC p es n).2 ∧ w.grownBy w' none
theorem at_own (ok : Nat → Prop) (b : Nat) (es : List Ent) (p : Pl) (n : Int) (w : World) (B : Book ok w b es p) : Calls Tryz.prog 58 #[.pointer (some ⟨b, 0, none⟩), .int .i64 n] w (CaPost p es n w) := by
  by_cases h : atIn p es n
  · obtain ⟨m, rfl⟩ : ∃ m : Nat, n = (m : Int) + 1 := ⟨(n - 1).toNat, by have := h.2.1; omega⟩
    have hm : m < es.length := by have := h.2.2; omega
    refine (at_in ok b es p m es[m] w B.lies B.good h.1 (List.getElem?_eq_getElem hm) (B.parts _ (List.getElem_mem _))).mono ?_
    rintro e w' ⟨u, rfl, o, g⟩
    unfold CaPost
    rw [atX_in h, atC_in h.1 (List.getElem?_eq_getElem hm)]
    exact ⟨u, rfl, o, g⟩
  · refine (at_out b es p n w B.lies h).mono ?_
    rintro e w' ⟨rfl, g⟩
    unfold CaPost
    rw [atX_out h, atC_out h]
    exact ⟨_, rfl, POwn.nil _ _, g⟩
end Go.Proofs.YtmemeloehgemcaaGreat
namespace Go.Proofs.YtmemeloehgemcaaGreat
open Go.RowKit

end Go.Proofs.YtmemeloehgemcaaGreat
namespace Go.Proofs.YtmemeloehgemcaaGreat
open Go.RowKit

end Go.Proofs.YtmemeloehgemcaaGreat
namespace Go.Proofs.YtmemeloehgemcaaGreat
open Go.RowKit

def CrPost (h : Hd) (ps : List Pt) (x : Int) (w : World) (e : Ending) (w' : World) : Prop := ∃ u, e = .returned (.tuple #[cv h u, .int .i64 x]) ∧ POwn w' w.heap.size u ps ∧ w.grownBy w' none
set_option maxRecDepth 100000 in
set_option maxHeartbeats 4000000 in
theorem tcard_of (bv : Value) (t : Th) (h : Hd) (ps : List Pt) (x : Int) (w : World) (HAt : ∀ X, w.grownBy X none → Calls Tryz.prog 58 #[bv, .int .i64 t.card] X (CrPost h ps x X)) : Calls Tryz.prog 75 #[bv, thv t] w (CrPost h ps x w) := by
  obtain ⟨W0, hW0⟩ : ∃ W0, W0 = w.alloc (.cells #[.int .i64 t.card, .int .i64 t.owner, .int .u8 t.place, .int .i64 t.stamp, .int .i64 t.hurt, .int .i64 t.m0, .int .i64 t.m1, .int .i64 t.m2, .int .i64 t.m3, .int .i64 t.done, .bool t.fresh] 60) := ⟨_, rfl⟩
  obtain ⟨W1, hW1⟩ : ∃ W1, W1 = W0.alloc (.cells (ccs Hd.none (.slice none 0 0)) 88) := ⟨_, rfl⟩
  have HG0 : Hid (w.grownBy W0 none) := by rw [hW0]; exact World.grownBy_alloc _ _ none
  have HG1 : Hid (w.grownBy W1 none) := by rw [hW1]; exact grown_push HG0.out _
  have HC1 : Hid (CAt W1 W0.heap.size Hd.none (.slice none 0 0)) := by rw [hW1]; exact alloc_at W0 _ _
  have HS : Hid (W0.heap.size = w.heap.size + 1 ∧ W1.heap.size = W0.heap.size + 1) := ⟨by rw [hW0, World.size_alloc], by rw [hW1, World.size_alloc]⟩
  have HT : Hid (W1.heap[w.heap.size]? = some (.cells #[.int .i64 t.card, .int .i64 t.owner, .int .u8 t.place, .int .i64 t.stamp, .int .i64 t.hurt, .int .i64 t.m0, .int .i64 t.m1, .int .i64 t.m2, .int .i64 t.m3, .int .i64 t.done, .bool t.fresh] 60 (0, 0))) := by rw [hW1]; exact grown_keep (World.grownBy_alloc _ _ none) (by rw [hW0]; exact alloc_at w _ _) (by simp)
  have HA := HAt W1 HG1.out
  unfold CrPost at HA
  obtain ⟨K, hK⟩ : ∃ K, K = W0.heap.size := ⟨_, rfl⟩
  have HK : Hid (K = W0.heap.size) := hK
  rw [← hK] at HC1
  have hK2 : K = w.heap.size + 1 := by rw [hK, HS.out.1]
  unfold cv at HA
  unfold thv
  unfold ccs Hd.none at hW1
  rw [hW0] at hW1
  clear hW0 HAt hK
  go_enter Tryz.func75, Tryz.ntmps75
  go_upto_region 1 with fail
  rw [← hW1]
  clear hW1
  rw [← hK2]
  clear hK2
  have x0 := block_cell HT.out 0
  go_wp2_with (first | (go_at_call 58; refine HA.mono ?_; rintro e w2 ⟨u, rfl, o2, g2⟩; obtain ⟨a2, k2, rfl⟩ := o2.at.form; have HO2 : Hid (POwn w2 W1.heap.size (.slice a2 ps.length k2) ps) := o2; have HG2 : Hid (w.grownBy w2 none) := grown_trans HG1.out g2; have C2 := HC1.out.keep g2; obtain ⟨z0, z1, z2, z3, z4, z5, z6, z7, z8⟩ := C2.cells; have zf := fun i => C2.free i; simp only [Hd.none] at z0 z1 z2 z3 z4 z5 z6 z7 z8; clear o2 C2) | fail)
  refine bodyPost_ret (v := .tuple #[cv h (.slice a2 ps.length k2), .int .i64 x]) (by simp [results, Tryz.results75, go_sem, z0, z1, z2, z3, z4, z5, z6, z7, z8, cv]) rfl ⟨.slice a2 ps.length k2, rfl, ?_, ?_⟩
  · have := (HO2.out.keep (grown_s9 w2 K 0 h (.slice a2 ps.length k2)) (fun x e => by cases e; have := HS.out; have := HK.out; omega)).big (show w.heap.size ≤ W1.heap.size by have := HS.out; omega)
    unfold set9 at this
    simp only [Nat.zero_add] at this
    exact this
  · have := grown_own HG2.out (grown_s9 w2 K 0 h (.slice a2 ps.length k2)) (fun x e => by cases e; have := HS.out; have := HK.out; omega)
    unfold set9 at this
    simp only [Nat.zero_add] at this
    exact this
theorem tcard_book (ok : Nat → Prop) (b : Nat) (es : List Ent) (p : Pl) (t : Th) (w : World) (B : Book ok w b es p) : Calls Tryz.prog 75 #[.pointer (some ⟨b, 0, none⟩), thv t] w (CrPost (atC p es t.card).1 (atC p es t.card).2 (atX p es t.card) w) := tcard_of _ t _ _ _ w (fun X g => at_own ok b es p t.card X (B.keep g))
end Go.Proofs.YtmemeloehgemcaaGreat
