/-
  The document's own book: Mark.
  The document's own book: Seal.
  The document's Copy of a card; Ahead; the document's At.
  The document's own book: At.
  The document's own book: its list of cards in memory of its own; Cards.
  The document's own book: a card laid at its place, plainly.
  Sets of traits as bits: which numbers are sets.
  The document's own Check of every card.
  The document's own book: Card.
  Lists of parts that are written over: OverParts; markParts.
  BookScript: a pair of books; a card is added to both.
  thing.Card, and the document's: of every book made and every number the card in memory of its own, or the fault.
  thing's isBook, mayLie and Marked, of every book made, features and marks.
-/
import Derived.Test.YtmemeloehgemcaaGreatV12
import Derived.Deep.Cut
import Derived.Test.YtmemeloehgemcaaGreatV0
import Derived.Test.YtmemeloehgemcaaGreatV11
import Derived.OwnWalk
import Derived.Test.YtmemeloehgemcaaGreatV13
import Derived.Deep.MidRow
namespace Go.Proofs.YtmemeloehgemcaaGreat
open Go.RowKit

end Go.Proofs.YtmemeloehgemcaaGreat
namespace Go.Proofs.YtmemeloehgemcaaGreat
open Go.RowKit

end Go.Proofs.YtmemeloehgemcaaGreat
namespace Go.Proofs.YtmemeloehgemcaaGreat
open Go.RowKit

end Go.Proofs.YtmemeloehgemcaaGreat
namespace Go.Proofs.YtmemeloehgemcaaGreat
open Go.RowKit

end Go.Proofs.YtmemeloehgemcaaGreat
namespace Go.Proofs.YtmemeloehgemcaaGreat
open Go.RowKit

theorem cell_block' {w : World} {g o : Nat} {v : Value} (h : w.cell? ⟨g, o, none⟩ = some v) : g < w.heap.size := by
  by_cases hg : g < w.heap.size
  · exact hg
  · have : w.heap[g]? = none := Array.getElem?_eq_none (by omega)
    simp [World.cell?, this] at h
theorem PsOk.old {ok : Nat → Prop} {w : World} {v : Value} {ps : List Pt} (h : PsOk ok w v ps) : PsOk (fun k => ok k ∧ k < w.heap.size) w v ps := by
  obtain ⟨h1, h2⟩ := h
  refine ⟨h1, fun g o n c ev hn => ⟨h2 g o n c ev hn, ?_⟩⟩
  obtain ⟨x, y, hf⟩ := h1.form
  rw [hf] at ev
  injection ev with e1 e2 e3
  have h0 : 0 < ps.length := by omega
  obtain ⟨g', off, cap, ev', hP⟩ := h1.part h0
  rw [hf] at ev'
  injection ev' with e1' _ _
  rw [e1] at e1'
  injection e1' with e1'
  injection e1' with e1' _ _
  subst e1'
  obtain ⟨p, hp⟩ : ∃ p, ps[0]? = some p := ⟨_, List.getElem?_eq_getElem h0⟩
  exact cell_block' (hP 0 p hp).c0
theorem POwn.ok {w : World} {base : Nat} {v : Value} {ps : List Pt} (h : POwn w base v ps) : PsOk (fun k => base ≤ k) w v ps := ⟨h.at, fun g o n c ev _ => h.block g (by rw [ev]; rfl)⟩
/-- What is alike of two cards: all but where the parts lie. -/
def hp (e : Ent) : Hd × List Pt := (e.h, e.ps)
end Go.Proofs.YtmemeloehgemcaaGreat
namespace Go.Proofs.YtmemeloehgemcaaGreat
open Go.RowKit

end Go.Proofs.YtmemeloehgemcaaGreat
namespace Go.Proofs.YtmemeloehgemcaaGreat
open Go.RowKit

def bv (s : Int) : BitVec 16 := BitVec.ofInt 16 s
theorem wrap_bv (x : BitVec 16) : IntKind.u16.wrap (x.toNat : Int) = (x.toNat : Int) := by
  have := x.isLt
  rw [IntKind.wrap_u16]
  omega
theorem bv_nat (x : BitVec 16) : bv (x.toNat : Int) = x := by
  unfold bv
  rw [BitVec.ofInt_natCast, BitVec.ofNat_toNat, BitVec.setWidth_eq]
theorem bits_andNot (a b : Int) : bits .andNot .u16 a b = ((bv a &&& ~~~bv b).toNat : Int) := by
  show IntKind.u16.wrap ((BitVec.ofInt 16 a &&& ~~~BitVec.ofInt 16 b).toNat : Int) = _
  rw [wrap_bv]; rfl
theorem bits_or (a b : Int) : bits .or .u16 a b = ((bv a ||| bv b).toNat : Int) := by
  show IntKind.u16.wrap ((BitVec.ofInt 16 a ||| BitVec.ofInt 16 b).toNat : Int) = _
  rw [wrap_bv]; rfl
theorem check_bv (s : Int) : tCheck s = (bv s &&& ~~~255#16 == 0#16) := by
  unfold tCheck; rw [bits_andNot]
  have e : bv 255 = 255#16 := by decide
  rw [e]
  by_cases h : bv s &&& ~~~255#16 = 0#16
  · rw [h]; rfl
  · have hn : ¬ (bv s &&& ~~~255#16).toNat = 0 := fun e => h (BitVec.eq_of_toNat_eq (by rw [e]; rfl))
    have h1 : ¬ ((bv s &&& ~~~255#16).toNat : Int) = 0 := by omega
    rw [beq_eq_false_iff_ne.2 h1, beq_eq_false_iff_ne.2 h]
end Go.Proofs.YtmemeloehgemcaaGreat
namespace Go.Proofs.YtmemeloehgemcaaGreat
open Go.RowKit

end Go.Proofs.YtmemeloehgemcaaGreat
namespace Go.Proofs.YtmemeloehgemcaaGreat
open Go.RowKit

end Go.Proofs.YtmemeloehgemcaaGreat
namespace Go.Proofs.YtmemeloehgemcaaGreat
open Go.RowKit

end Go.Proofs.YtmemeloehgemcaaGreat
namespace Go.Proofs.YtmemeloehgemcaaGreat
open Go.RowKit

end Go.Proofs.YtmemeloehgemcaaGreat
namespace Go.Proofs.YtmemeloehgemcaaGreat
open Go.RowKit

theorem atC_in {p : Pl} {es : List Ent} {m : Nat} {e : Ent} (hs : p.shut = true) (he : es[m]? = some e) : atC p es ((m : Int) + 1) = (e.h, e.ps) := by
  unfold atC
  rw [if_pos ⟨hs, by omega⟩, show ((m : Int) + 1 - 1).toNat = m by omega, he]
theorem atC_out {p : Pl} {es : List Ent} {n : Int} (h : ¬ atIn p es n) : atC p es n = (Hd.none, []) := by
  unfold atC
  split
  · rename_i h1
    have : es[(n - 1).toNat]? = none := List.getElem?_eq_none (by
      have : ¬ n ≤ (es.length : Int) := fun h2 => h ⟨h1.1, h1.2, h2⟩
      omega)
    rw [this]
  · rfl
theorem atX_in {p : Pl} {es : List Ent} {n : Int} (h : atIn p es n) : atX p es n = 0 := by unfold atX; exact if_pos h
theorem atX_out {p : Pl} {es : List Ent} {n : Int} (h : ¬ atIn p es n) : atX p es n = 6 := by unfold atX; exact if_neg h
/-- The card and the fault: what is told of a number. -/
def CaPost (p : Pl) (es : List Ent) (n : Int) (w : World) (e : Ending) (w' : World) : Prop := ∃ u, e = .returned (.tuple #[cv (atC p es n).1 u, .int .i64 (atX p es n)]) ∧ POwn w' w.heap.size u (atC p es n).2 ∧ w.grownBy w' none
theorem at_own (ok : Nat → Prop) (b : Nat) (es : List Ent) (p : Pl) (n : Int) (w : World) (B : Book ok w b es p) : Calls Tryz.prog 58 #[.pointer (some ⟨b, 0, none⟩), .int .i64 n] w (CaPost p es n w) := by
  by_cases h : atIn p es n
  · obtain ⟨m, rfl⟩ : ∃ m : Nat, n = (m : Int) + 1 := ⟨(n - 1).toNat, by have := h.2.1; omega⟩
    have hm : m < es.length := by have := h.2.2; omega
    refine (at_in ok b es p m es[m] w B.lies B.good h.1 (List.getElem?_eq_getElem hm) (B.parts _ (List.getElem_mem _))).mono ?_
    rintro e w' ⟨u, rfl, o, g⟩
    unfold CaPost
    rw [atX_in h, atC_in h.1 (List.getElem?_eq_getElem hm)]
    exact ⟨u, rfl, o, g⟩
  · refine (at_out b es p n w B.lies h).mono ?_
    rintro e w' ⟨rfl, g⟩
    unfold CaPost
    rw [atX_out h, atC_out h]
    exact ⟨_, rfl, POwn.nil _ _, g⟩
end Go.Proofs.YtmemeloehgemcaaGreat
namespace Go.Proofs.YtmemeloehgemcaaGreat
open Go.RowKit

def okc (c : Int) : Bool := decide (0 ≤ c) && decide (c ≤ 99)
def okcs (c0 c1 c2 c3 : Int) : Bool := okc c0 && (okc c1 && (okc c2 && okc c3))
theorem okc_yes {c : Int} (h : okc c = true) : 0 ≤ c ∧ c ≤ 99 := by unfold okc at h; simpa using h
theorem okc_no {c : Int} (h : okc c = false) : c < 0 ∨ 99 < c := by
  unfold okc at h
  have : ¬ (0 ≤ c ∧ c ≤ 99) := fun q => by simp [q.1, q.2] at h
  omega
theorem retB {a b : Bool} (h : a = b) : Ending.returned (.bool a) = Ending.returned (.bool b) := by rw [h]
def MlR (c0 c1 c2 c3 : Int) (k : Nat) : Prop := (k ≥ 1 → okc c0 = true) ∧ (k ≥ 2 → okc c1 = true) ∧ (k ≥ 3 → okc c2 = true) ∧ (k ≥ 4 → okc c3 = true)
theorem ixf0 (c0 c1 c2 c3 : Int) (w : World) : (Instr.index 58 (.agg #[.int .i64 c0, .int .i64 c1, .int .i64 c2, .int .i64 c3]) (.int .i64 0)).run Tryz.prog w = .ok (.int .i64 c0) w := by kernel_rfl
theorem ixf1 (c0 c1 c2 c3 : Int) (w : World) : (Instr.index 58 (.agg #[.int .i64 c0, .int .i64 c1, .int .i64 c2, .int .i64 c3]) (.int .i64 1)).run Tryz.prog w = .ok (.int .i64 c1) w := by kernel_rfl
theorem ixf2 (c0 c1 c2 c3 : Int) (w : World) : (Instr.index 58 (.agg #[.int .i64 c0, .int .i64 c1, .int .i64 c2, .int .i64 c3]) (.int .i64 2)).run Tryz.prog w = .ok (.int .i64 c2) w := by kernel_rfl
theorem ixf3 (c0 c1 c2 c3 : Int) (w : World) : (Instr.index 58 (.agg #[.int .i64 c0, .int .i64 c1, .int .i64 c2, .int .i64 c3]) (.int .i64 3)).run Tryz.prog w = .ok (.int .i64 c3) w := by kernel_rfl
set_option maxRecDepth 100000 in
set_option maxHeartbeats 4000000 in
theorem tisBook_yes (ok : Nat → Prop) (b : Nat) (es : List Ent) (p : Pl) (w : World) (B : Book ok w b es p) : Calls Tryz.prog 76 #[.pointer (some ⟨b, 0, none⟩)] w fun e w' => e = .returned (.bool true) ∧ w.grownBy w' none := by
  have HA := at_out b es p 0 w B.lies (fun h => by have := h.2.1; omega)
  unfold cv Hd.none at HA
  clear B
  go_enter Tryz.func76, Tryz.ntmps76
  go_wp2_with fail
  refine HA.mono ?_
  rintro e w1 ⟨rfl, g1⟩
  have HG : Hid (w.grownBy w1 none) := g1
  clear HA g1
  go_wp2_with fail
  go_ret
  exact ⟨rfl, grown_push HG.out _⟩
set_option maxRecDepth 100000 in
set_option maxHeartbeats 4000000 in
theorem tisBook_no (v : Value) (w : World) (B : NoBk w v) : Calls Tryz.prog 76 #[v] w fun e w' => e = .returned (.bool false) ∧ w.grownBy w' none := by
  have HA := at_no v 0 w B
  unfold cv Hd.none at HA
  clear B
  go_enter Tryz.func76, Tryz.ntmps76
  go_wp2_with fail
  refine HA.mono ?_
  rintro e w1 ⟨rfl, g1⟩
  have HG : Hid (w.grownBy w1 none) := g1
  clear HA g1
  go_wp2_with fail
  go_ret
  exact ⟨rfl, grown_push HG.out _⟩
set_option maxRecDepth 100000 in
set_option maxHeartbeats 4000000 in
theorem tmayLie_any (c0 c1 c2 c3 : Int) (w : World) : Calls Tryz.prog 77 #[.agg #[.int .i64 c0, .int .i64 c1, .int .i64 c2, .int .i64 c3]] w fun e w' => e = .returned (.bool (okcs c0 c1 c2 c3)) ∧ w.grownBy w' none := by
  have i0 := ixf0 c0 c1 c2 c3
  have i1 := ixf1 c0 c1 c2 c3
  have i2 := ixf2 c0 c1 c2 c3
  have i3 := ixf3 c0 c1 c2 c3
  obtain ⟨W, hW⟩ : ∃ W, W = w.alloc (.cells #[.int .i64 c0, .int .i64 c1, .int .i64 c2, .int .i64 c3] 58) := ⟨_, rfl⟩
  have HG : Hid (w.grownBy W none) := by rw [hW]; exact World.grownBy_alloc _ _ none
  have HB : Hid (W.heap[w.heap.size]? = some (.cells #[.int .i64 c0, .int .i64 c1, .int .i64 c2, .int .i64 c3] 58 (0, 0))) := by rw [hW]; exact alloc_at w _ _
  go_enter Tryz.func77, Tryz.ntmps77
  go_upto_region 1 with fail
  rw [← hW]
  clear hW
  have x0 := block_cell HB.out 0
  have x1 := block_cell HB.out 1
  have x2 := block_cell HB.out 2
  have x3 := block_cell HB.out 3
  go_wp2_with fail
  clear x0 x1 x2 x3
  go_loopw [4, 6] (fun _ x wr => ∃ k : Nat, k ≤ 4 ∧ x = .int .i64 (k : Int) ∧ Hid (wr = W ∧ MlR c0 c1 c2 c3 k)) (fun _ x _ => 4 - (intOf x).toNat)
  case atStart => exact ⟨0, by decide, rfl, rfl, fun h => absurd h (by decide), fun h => absurd h (by decide), fun h => absurd h (by decide), fun h => absurd h (by decide)⟩
  case round =>
    obtain ⟨k, hk, rfl, HR⟩ := hrel
    obtain ⟨rfl, hK⟩ := HR.out
    have HK : Hid (MlR c0 c1 c2 c3 k) := hK
    clear hK HR
    rcases (show k = 0 ∨ k = 1 ∨ k = 2 ∨ k = 3 ∨ k = 4 from by omega) with rfl | rfl | rfl | rfl | rfl
    · cases h0 : okc c0 with
      | false =>
        have E : okcs c0 c1 c2 c3 = false := by unfold okcs; have q := HK.out; unfold MlR at q; simp [h0]
        have HE : Hid (okcs c0 c1 c2 c3 = false) := E
        clear E HK
        rcases okc_no h0 with l | l
        · clear h0
          have l' : (decide (c0 < 0)) = true := by simpa using l
          go_wp2
          go_ret
          exact ⟨retB HE.out.symm, HG.out⟩
        · clear h0
          have l1 : ¬ c0 < 0 := by omega
          go_wp2
          go_ret
          exact ⟨retB HE.out.symm, HG.out⟩
      | true =>
        have HK2 : Hid (MlR c0 c1 c2 c3 1) := by have q := HK.out; have r := h0; exact ⟨fun _ => r, fun h => absurd h (by decide), fun h => absurd h (by decide), fun h => absurd h (by decide)⟩
        have l := okc_yes h0
        have l1 : ¬ c0 < 0 := by omega
        have l2 : ¬ 99 < c0 := by omega
        clear h0 HK l
        go_wp2
        go_roundw
        case rel => exact ⟨1, by decide, rfl, by first | exact ⟨rfl, HK2.out⟩ | exact ⟨trivial, HK2.out⟩⟩
        case measure => simp [intOf]
    · cases h1 : okc c1 with
      | false =>
        have E : okcs c0 c1 c2 c3 = false := by unfold okcs; have q := HK.out; unfold MlR at q; simp [h1]
        have HE : Hid (okcs c0 c1 c2 c3 = false) := E
        clear E HK
        rcases okc_no h1 with l | l
        · clear h1
          have l' : (decide (c1 < 0)) = true := by simpa using l
          go_wp2
          go_ret
          exact ⟨retB HE.out.symm, HG.out⟩
        · clear h1
          have l1 : ¬ c1 < 0 := by omega
          go_wp2
          go_ret
          exact ⟨retB HE.out.symm, HG.out⟩
      | true =>
        have HK2 : Hid (MlR c0 c1 c2 c3 2) := by have q := HK.out; have r := h1; exact ⟨fun _ => q.1 (by decide), fun _ => r, fun h => absurd h (by decide), fun h => absurd h (by decide)⟩
        have l := okc_yes h1
        have l1 : ¬ c1 < 0 := by omega
        have l2 : ¬ 99 < c1 := by omega
        clear h1 HK l
        go_wp2
        go_roundw
        case rel => exact ⟨2, by decide, rfl, by first | exact ⟨rfl, HK2.out⟩ | exact ⟨trivial, HK2.out⟩⟩
        case measure => simp [intOf]
    · cases h2 : okc c2 with
      | false =>
        have E : okcs c0 c1 c2 c3 = false := by unfold okcs; have q := HK.out; unfold MlR at q; simp [h2]
        have HE : Hid (okcs c0 c1 c2 c3 = false) := E
        clear E HK
        rcases okc_no h2 with l | l
        · clear h2
          have l' : (decide (c2 < 0)) = true := by simpa using l
          go_wp2
          go_ret
          exact ⟨retB HE.out.symm, HG.out⟩
        · clear h2
          have l1 : ¬ c2 < 0 := by omega
          go_wp2
          go_ret
          exact ⟨retB HE.out.symm, HG.out⟩
      | true =>
        have HK2 : Hid (MlR c0 c1 c2 c3 3) := by have q := HK.out; have r := h2; exact ⟨fun _ => q.1 (by decide), fun _ => q.2.1 (by decide), fun _ => r, fun h => absurd h (by decide)⟩
        have l := okc_yes h2
        have l1 : ¬ c2 < 0 := by omega
        have l2 : ¬ 99 < c2 := by omega
        clear h2 HK l
        go_wp2
        go_roundw
        case rel => exact ⟨3, by decide, rfl, by first | exact ⟨rfl, HK2.out⟩ | exact ⟨trivial, HK2.out⟩⟩
        case measure => simp [intOf]
    · cases h3 : okc c3 with
      | false =>
        have E : okcs c0 c1 c2 c3 = false := by unfold okcs; have q := HK.out; unfold MlR at q; simp [h3]
        have HE : Hid (okcs c0 c1 c2 c3 = false) := E
        clear E HK
        rcases okc_no h3 with l | l
        · clear h3
          have l' : (decide (c3 < 0)) = true := by simpa using l
          go_wp2
          go_ret
          exact ⟨retB HE.out.symm, HG.out⟩
        · clear h3
          have l1 : ¬ c3 < 0 := by omega
          go_wp2
          go_ret
          exact ⟨retB HE.out.symm, HG.out⟩
      | true =>
        have HK2 : Hid (MlR c0 c1 c2 c3 4) := by have q := HK.out; have r := h3; exact ⟨fun _ => q.1 (by decide), fun _ => q.2.1 (by decide), fun _ => q.2.2.1 (by decide), fun _ => r⟩
        have l := okc_yes h3
        have l1 : ¬ c3 < 0 := by omega
        have l2 : ¬ 99 < c3 := by omega
        clear h3 HK l
        go_wp2
        go_roundw
        case rel => exact ⟨4, by decide, rfl, by first | exact ⟨rfl, HK2.out⟩ | exact ⟨trivial, HK2.out⟩⟩
        case measure => simp [intOf]
    · have E : okcs c0 c1 c2 c3 = true := by have q := HK.out; unfold okcs; simp [q.1 (by decide), q.2.1 (by decide), q.2.2.1 (by decide), q.2.2.2 (by decide)]
      have HE : Hid (okcs c0 c1 c2 c3 = true) := E
      clear E HK
      go_wp2
      go_ret
      exact ⟨retB HE.out.symm, HG.out⟩
end Go.Proofs.YtmemeloehgemcaaGreat
