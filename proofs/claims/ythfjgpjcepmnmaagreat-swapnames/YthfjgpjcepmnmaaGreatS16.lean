/-
  The document's own book: Mark.
  The document's own book: Seal.
  The document's Copy of a card; Ahead; the document's At.
  The document's own book: At.
  The document's own book: its list of cards in memory of its own; Cards.
  The document's own book: a card laid at its place, plainly.
  Sets of traits as bits: which numbers are sets.
  The document's own Check of every card.
  The document's own book: Card.
  Lists of parts that are written over: OverParts; markParts.
  BookScript: a pair of books; a card is added to both.
  thing.Card, and the document's: of every book made and every number the card in memory of its own, or the fault.
  thing's isBook, mayLie and Marked, of every book made, features and marks.
  thing.Marked, of every book made, features and marks.
  thing's Card, Printed and Unit, and the document's: of whatever answers a card.
-/
import Derived.Test.YthfjgpjcepmnmaaGreatS12
import Derived.Deep.Cut
import Derived.Test.YthfjgpjcepmnmaaGreatS0
import Derived.OwnWalk
import Derived.Test.YthfjgpjcepmnmaaGreatS13
import Derived.Deep.MidRow
namespace Go.Proofs.YthfjgpjcepmnmaaGreat
open Go.RowKit

end Go.Proofs.YthfjgpjcepmnmaaGreat
namespace Go.Proofs.YthfjgpjcepmnmaaGreat
open Go.RowKit

end Go.Proofs.YthfjgpjcepmnmaaGreat
namespace Go.Proofs.YthfjgpjcepmnmaaGreat
open Go.RowKit

end Go.Proofs.YthfjgpjcepmnmaaGreat
namespace Go.Proofs.YthfjgpjcepmnmaaGreat
open Go.RowKit

end Go.Proofs.YthfjgpjcepmnmaaGreat
namespace Go.Proofs.YthfjgpjcepmnmaaGreat
open Go.RowKit

theorem POwn.ok {w : World} {base : Nat} {v : Value} {ps : List Pt} (h : POwn w base v ps) : PsOk (fun k => base ≤ k) w v ps := ⟨h.at, fun g o n c ev _ => h.block g (by rw [ev]; rfl)⟩
def hp (e : Ent) : Hd × List Pt := (e.h, e.ps)
end Go.Proofs.YthfjgpjcepmnmaaGreat
namespace Go.Proofs.YthfjgpjcepmnmaaGreat
open Go.RowKit

end Go.Proofs.YthfjgpjcepmnmaaGreat
namespace Go.Proofs.YthfjgpjcepmnmaaGreat
open Go.RowKit

def bv (s : Int) : BitVec 16 := BitVec.ofInt 16 s
theorem wrap_bv (x : BitVec 16) : IntKind.u16.wrap (x.toNat : Int) = (x.toNat : Int) := by
  have := x.isLt
  rw [IntKind.wrap_u16]
  omega
theorem bv_nat (x : BitVec 16) : bv (x.toNat : Int) = x := by
  unfold bv
  rw [BitVec.ofInt_natCast, BitVec.ofNat_toNat, BitVec.setWidth_eq]
theorem bits_andNot (a b : Int) : bits .andNot .u16 a b = ((bv a &&& ~~~bv b).toNat : Int) := by
  show IntKind.u16.wrap ((BitVec.ofInt 16 a &&& ~~~BitVec.ofInt 16 b).toNat : Int) = _
  rw [wrap_bv]; rfl
theorem bits_or (a b : Int) : bits .or .u16 a b = ((bv a ||| bv b).toNat : Int) := by
  show IntKind.u16.wrap ((BitVec.ofInt 16 a ||| BitVec.ofInt 16 b).toNat : Int) = _
  rw [wrap_bv]; rfl
theorem check_bv (s : Int) : tCheck s = (bv s &&& ~~~255#16 == 0#16) := by
  unfold tCheck; rw [bits_andNot]
  have e : bv 255 = 255#16 := by decide
  rw [e]
  by_cases h : bv s &&& ~~~255#16 = 0#16
  · rw [h]; rfl
  · have hn : ¬ (bv s &&& ~~~255#16).toNat = 0 := fun e => h (BitVec.eq_of_toNat_eq (by rw [e]; rfl))
    have h1 : ¬ ((bv s &&& ~~~255#16).toNat : Int) = 0 := by omega
    rw [beq_eq_false_iff_ne.2 h1, beq_eq_false_iff_ne.2 h]
end Go.Proofs.YthfjgpjcepmnmaaGreat
namespace Go.Proofs.YthfjgpjcepmnmaaGreat
open Go.RowKit

end Go.Proofs.YthfjgpjcepmnmaaGreat
namespace Go.Proofs.YthfjgpjcepmnmaaGreat
open Go.RowKit

end Go.Proofs.YthfjgpjcepmnmaaGreat
namespace Go.Proofs.YthfjgpjcepmnmaaGreat
open Go.RowKit

end Go.Proofs.YthfjgpjcepmnmaaGreat
namespace Go.Proofs.YthfjgpjcepmnmaaGreat
open Go.RowKit

end Go.Proofs.YthfjgpjcepmnmaaGreat
namespace Go.Proofs.YthfjgpjcepmnmaaGreat
open Go.RowKit

theorem atC_in {p : Pl} {es : List Ent} {m : Nat} {e : Ent} (hs : p.shut = true) (he : es[m]? = some e) : atC p es ((m : Int) + 1) = (e.h, e.ps) := by
  unfold atC
  rw [if_pos ⟨hs, by omega⟩, show ((m : Int) + 1 - 1).toNat = m by omega, he]
theorem atC_out {p : Pl} {es : List Ent} {n : Int} (h : ¬ atIn p es n) : atC p es n = (Hd.none, []) := by
  unfold atC
  split
  · rename_i h1
    have : es[(n - 1).toNat]? = none := List.getElem?_eq_none (by
      have : ¬ n ≤ (es.length : Int) := fun h2 => h ⟨h1.1, h1.2, h2⟩
      omega)
    rw [this]
  · rfl
theorem atX_in {p : Pl} {es : List Ent} {n : Int} (h : atIn p es n) : atX p es n = 0 := by unfold atX; exact if_pos h
theorem atX_out {p : Pl} {es : List Ent} {n : Int} (h : ¬ atIn p es n) : atX p es n = 6 := by unfold atX; exact if_neg h
def CaPost (p : Pl) (es : List Ent) (n : Int) (w : World) (e : Ending) (w' : World) : Prop := ∃ u, e = .returned (.tuple #[cv (atC p es n).1 u, .int .i64 (atX p es n)]) ∧ POwn w' w.heap.size u (atC p es n).2 ∧ w.grownBy w' none
theorem at_own (ok : Nat → Prop) (b : Nat) (es : List Ent) (p : Pl) (n : Int) (w : World) (B : Book ok w b es p) : Calls Tryz.prog 215 #[.pointer (some ⟨b, 0, none⟩), .int .i64 n] w (CaPost p es n w) := by
  by_cases h : atIn p es n
  · obtain ⟨m, rfl⟩ : ∃ m : Nat, n = (m : Int) + 1 := ⟨(n - 1).toNat, by have := h.2.1; omega⟩
    have hm : m < es.length := by have := h.2.2; omega
    refine (at_in ok b es p m es[m] w B.lies B.good h.1 (List.getElem?_eq_getElem hm) (B.parts _ (List.getElem_mem _))).mono ?_
    rintro e w' ⟨u, rfl, o, g⟩
    unfold CaPost
    rw [atX_in h, atC_in h.1 (List.getElem?_eq_getElem hm)]
    exact ⟨u, rfl, o, g⟩
  · refine (at_out b es p n w B.lies h).mono ?_
    rintro e w' ⟨rfl, g⟩
    unfold CaPost
    rw [atX_out h, atC_out h]
    exact ⟨_, rfl, POwn.nil _ _, g⟩
end Go.Proofs.YthfjgpjcepmnmaaGreat
namespace Go.Proofs.YthfjgpjcepmnmaaGreat
open Go.RowKit

end Go.Proofs.YthfjgpjcepmnmaaGreat
namespace Go.Proofs.YthfjgpjcepmnmaaGreat
open Go.RowKit

end Go.Proofs.YthfjgpjcepmnmaaGreat
namespace Go.Proofs.YthfjgpjcepmnmaaGreat
open Go.RowKit

def CrPost (h : Hd) (ps : List Pt) (x : Int) (w : World) (e : Ending) (w' : World) : Prop := ∃ u, e = .returned (.tuple #[cv h u, .int .i64 x]) ∧ POwn w' w.heap.size u ps ∧ w.grownBy w' none
def unB (h : Hd) (x : Int) (t : Th) : Bool := decide (x = 0) && (decide (t.place = 4) && decide (h.kd = 1))
set_option maxRecDepth 100000 in
set_option maxHeartbeats 4000000 in
theorem tcard_of (bv : Value) (t : Th) (h : Hd) (ps : List Pt) (x : Int) (w : World) (HAt : ∀ X, w.grownBy X none → Calls Tryz.prog 215 #[bv, .int .i64 t.card] X (CrPost h ps x X)) : Calls Tryz.prog 197 #[bv, thv t] w (CrPost h ps x w) := by
  obtain ⟨W0, hW0⟩ : ∃ W0, W0 = w.alloc (.cells #[.int .i64 t.card, .int .i64 t.owner, .int .u8 t.place, .int .i64 t.stamp, .int .i64 t.hurt, .int .i64 t.m0, .int .i64 t.m1, .int .i64 t.m2, .int .i64 t.m3, .int .i64 t.done, .bool t.fresh] 100) := ⟨_, rfl⟩
  obtain ⟨W1, hW1⟩ : ∃ W1, W1 = W0.alloc (.cells (ccs Hd.none (.slice none 0 0)) 54) := ⟨_, rfl⟩
  have HG0 : Hid (w.grownBy W0 none) := by rw [hW0]; exact World.grownBy_alloc _ _ none
  have HG1 : Hid (w.grownBy W1 none) := by rw [hW1]; exact grown_push HG0.out _
  have HC1 : Hid (CAt W1 W0.heap.size Hd.none (.slice none 0 0)) := by rw [hW1]; exact alloc_at W0 _ _
  have HS : Hid (W0.heap.size = w.heap.size + 1 ∧ W1.heap.size = W0.heap.size + 1) := ⟨by rw [hW0, World.size_alloc], by rw [hW1, World.size_alloc]⟩
  have HT : Hid (W1.heap[w.heap.size]? = some (.cells #[.int .i64 t.card, .int .i64 t.owner, .int .u8 t.place, .int .i64 t.stamp, .int .i64 t.hurt, .int .i64 t.m0, .int .i64 t.m1, .int .i64 t.m2, .int .i64 t.m3, .int .i64 t.done, .bool t.fresh] 100 (0, 0))) := by rw [hW1]; exact grown_keep (World.grownBy_alloc _ _ none) (by rw [hW0]; exact alloc_at w _ _) (by simp)
  have HA := HAt W1 HG1.out
  unfold CrPost at HA
  obtain ⟨K, hK⟩ : ∃ K, K = W0.heap.size := ⟨_, rfl⟩
  have HK : Hid (K = W0.heap.size) := hK
  rw [← hK] at HC1
  have hK2 : K = w.heap.size + 1 := by rw [hK, HS.out.1]
  unfold cv at HA
  unfold thv
  unfold ccs Hd.none at hW1
  rw [hW0] at hW1
  clear hW0 HAt hK
  go_enter Tryz.func197, Tryz.ntmps197
  go_upto_region 1 with fail
  rw [← hW1]
  clear hW1
  rw [← hK2]
  clear hK2
  have x0 := block_cell HT.out 0
  go_wp2_with (first | (go_at_call 215; refine HA.mono ?_; rintro e w2 ⟨u, rfl, o2, g2⟩; obtain ⟨a2, k2, rfl⟩ := o2.at.form; have HO2 : Hid (POwn w2 W1.heap.size (.slice a2 ps.length k2) ps) := o2; have HG2 : Hid (w.grownBy w2 none) := grown_trans HG1.out g2; have C2 := HC1.out.keep g2; obtain ⟨z0, z1, z2, z3, z4, z5, z6, z7, z8⟩ := C2.cells; have zf := fun i => C2.free i; simp only [Hd.none] at z0 z1 z2 z3 z4 z5 z6 z7 z8; clear o2 C2) | fail)
  refine bodyPost_ret (v := .tuple #[cv h (.slice a2 ps.length k2), .int .i64 x]) (by simp [results, Tryz.results197, go_sem, z0, z1, z2, z3, z4, z5, z6, z7, z8, cv]) rfl ⟨.slice a2 ps.length k2, rfl, ?_, ?_⟩
  · have := (HO2.out.keep (grown_s9 w2 K 0 h (.slice a2 ps.length k2)) (fun x e => by cases e; have := HS.out; have := HK.out; omega)).big (show w.heap.size ≤ W1.heap.size by have := HS.out; omega)
    unfold set9 at this
    simp only [Nat.zero_add] at this
    exact this
  · have := grown_own HG2.out (grown_s9 w2 K 0 h (.slice a2 ps.length k2)) (fun x e => by cases e; have := HS.out; have := HK.out; omega)
    unfold set9 at this
    simp only [Nat.zero_add] at this
    exact this
theorem ret_b {a b : Bool} (h : a = b) : Ending.returned (.bool a) = Ending.returned (.bool b) := by rw [h]
set_option maxRecDepth 100000 in
set_option maxHeartbeats 4000000 in
theorem tunit_of (bv : Value) (t : Th) (h : Hd) (ps : List Pt) (x : Int) (w : World) (HC : ∀ X, w.grownBy X none → Calls Tryz.prog 197 #[bv, thv t] X (CrPost h ps x X)) : Calls Tryz.prog 133 #[bv, thv t] w fun e w' => e = .returned (.bool (unB h x t)) ∧ w.grownBy w' none := by
  obtain ⟨W1, hW1⟩ : ∃ W1, W1 = w.alloc (.cells #[.int .i64 t.card, .int .i64 t.owner, .int .u8 t.place, .int .i64 t.stamp, .int .i64 t.hurt, .int .i64 t.m0, .int .i64 t.m1, .int .i64 t.m2, .int .i64 t.m3, .int .i64 t.done, .bool t.fresh] 100) := ⟨_, rfl⟩
  have HG1 : Hid (w.grownBy W1 none) := by rw [hW1]; exact World.grownBy_alloc _ _ none
  have HT : Hid (W1.heap[w.heap.size]? = some (.cells #[.int .i64 t.card, .int .i64 t.owner, .int .u8 t.place, .int .i64 t.stamp, .int .i64 t.hurt, .int .i64 t.m0, .int .i64 t.m1, .int .i64 t.m2, .int .i64 t.m3, .int .i64 t.done, .bool t.fresh] 100 (0, 0))) := by rw [hW1]; exact alloc_at w _ _
  have HC1 := HC W1 HG1.out
  unfold CrPost cv thv at HC1
  unfold thv
  clear HC
  go_enter Tryz.func133, Tryz.ntmps133
  go_upto_region 1 with fail
  rw [← hW1]
  clear hW1
  obtain ⟨n0, h0⟩ : ∃ n0, n0 = w.heap.size := ⟨_, rfl⟩
  simp only [← h0] at HT ⊢
  clear h0
  have x0 := block_cell HT.out 0
  have x1 := block_cell HT.out 1
  have x2 := block_cell HT.out 2
  have x3 := block_cell HT.out 3
  have x4 := block_cell HT.out 4
  have x5 := block_cell HT.out 5
  have x6 := block_cell HT.out 6
  have x7 := block_cell HT.out 7
  have x8 := block_cell HT.out 8
  have x9 := block_cell HT.out 9
  have x10 := block_cell HT.out 10
  go_wp2_with fail
  refine HC1.mono ?_
  rintro e w2 ⟨u, rfl, o2, g2⟩
  obtain ⟨a2, k2, rfl⟩ := o2.at.form
  obtain ⟨W3, hW3⟩ : ∃ W3, W3 = w2.alloc (.cells (ccs h (.slice a2 ps.length k2)) 54) := ⟨_, rfl⟩
  have HG3 : Hid (W1.grownBy W3 none) := by rw [hW3]; exact grown_push g2 _
  have HG4 : Hid (w.grownBy W3 none) := grown_trans HG1.out HG3.out
  have HK : Hid (W3.heap[w2.heap.size]? = some (.cells (ccs h (.slice a2 ps.length k2)) 54 (0, 0))) := by rw [hW3]; exact alloc_at _ _ _
  have HT3 : Hid (W3.heap[n0]? = some (.cells #[.int .i64 t.card, .int .i64 t.owner, .int .u8 t.place, .int .i64 t.stamp, .int .i64 t.hurt, .int .i64 t.m0, .int .i64 t.m1, .int .i64 t.m2, .int .i64 t.m3, .int .i64 t.done, .bool t.fresh] 100 (0, 0))) := grown_keep HG3.out HT.out (by simp)
  unfold ccs at hW3
  clear HC1 o2 g2 HG3 HT HG1 x0 x1 x2 x3 x4 x5 x6 x7 x8 x9 x10
  go_upto_region 2 with fail
  rw [← hW3]
  clear hW3
  obtain ⟨k, hk⟩ : ∃ k, k = w2.heap.size := ⟨_, rfl⟩
  rw [← hk] at HK ⊢
  clear hk
  have y2 := block_cell HT3.out 2
  have q2 := block_cell HK.out 2
  simp only [ccs] at q2
  by_cases hx : x = 0
  · subst hx
    by_cases hp : t.place = 4
    · have e2 : (t.place == 4) = true := by simpa using hp
      by_cases hd : h.kd = 1
      · have e3 : (h.kd == 1) = true := by simpa using hd
        have HE : Hid (unB h 0 t = true) := by show unB h 0 t = true; unfold unB; simp [hp, hd]
        clear hp hd
        go_wp2
        go_ret
        exact ⟨ret_b HE.out.symm, HG4.out⟩
      · have e3 : (h.kd == 1) = false := by simpa using hd
        have HE : Hid (unB h 0 t = false) := by show unB h 0 t = false; unfold unB; simp [hd]
        clear hp hd
        go_wp2
        go_ret
        exact ⟨ret_b HE.out.symm, HG4.out⟩
    · have e2 : (t.place == 4) = false := by simpa using hp
      have HE : Hid (unB h 0 t = false) := by show unB h 0 t = false; unfold unB; simp [hp]
      clear hp
      go_wp2
      go_ret
      exact ⟨ret_b HE.out.symm, HG4.out⟩
  · have e1 : (x == 0) = false := by simpa using hx
    have HE : Hid (unB h x t = false) := by show unB h x t = false; unfold unB; simp [hx]
    clear hx
    go_wp2
    go_ret
    exact ⟨ret_b HE.out.symm, HG4.out⟩
theorem tcard_book (ok : Nat → Prop) (b : Nat) (es : List Ent) (p : Pl) (t : Th) (w : World) (B : Book ok w b es p) : Calls Tryz.prog 197 #[.pointer (some ⟨b, 0, none⟩), thv t] w (CrPost (atC p es t.card).1 (atC p es t.card).2 (atX p es t.card) w) := tcard_of _ t _ _ _ w (fun X g => at_own ok b es p t.card X (B.keep g))
end Go.Proofs.YthfjgpjcepmnmaaGreat
