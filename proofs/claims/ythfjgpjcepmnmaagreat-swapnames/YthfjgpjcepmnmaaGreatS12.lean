/-
  == of what two books hold beside their cards.
  slices.EqualFunc over two rows of cards; Same.
  A book as the laws see it, and what each call makes of it; the document's examples (awake).
  What the document's own within, counted, Name and about tell: the same as fitU, cfit, nameOk and abt.
  What the document's own Check tells of every part: the same as chk.
  The document's own test of a card's name, its bounds, its numbers.
  The document's own book: where it lies, and what its small calls tell.
  The document's own book: Trait, TraitName.
  The document's own book: MarkOf, Mark.
  Things, plainly: features, what marks add, the places of a card's parts of a moment.
  Zones, plainly: things, decks, hands, the next stamp; when they are sound; a thing comes to a place; each call keeps them sound.
  Traits: what Has, With, Without tell of a set and a number; the layer of a verb.
  Layers, plainly: what lies on the table, whom an effect is about, what it makes of features, which depends on which, which comes next.
  Whom a part is about, plainly: its own thing; a unit.
-/
import Derived.Test.YthfjgpjcepmnmaaGreatS7
import Derived.DeepKeys
import Derived.ChangeKeysEq
import Derived.Test.YthfjgpjcepmnmaaGreatS11
import Derived.Deep.MidRow
import Derived.Test.YthfjgpjcepmnmaaGreatCheck
import Derived.Deep.QuietTactic
import Derived.BigQuiet
import Derived.Test.YthfjgpjcepmnmaaGreatS5
import Derived.WalkKit
namespace Go.Proofs.YthfjgpjcepmnmaaGreat
open Go.RowKit

structure Pl.fine (p : Pl) : Prop where
  nine : p.nms.length = 9
  five : p.mks.length = 5
  nms : ∀ s ∈ p.nms, s.size ≤ 20
  mks : ∀ m ∈ p.mks, 0 ≤ m.mi ∧ m.mi ≤ 4 ∧ -9 ≤ m.po ∧ m.po ≤ 9 ∧ -9 ≤ m.he ∧ m.he ≤ 9 ∧ m.nm.size ≤ 20
end Go.Proofs.YthfjgpjcepmnmaaGreat
namespace Go.Proofs.YthfjgpjcepmnmaaGreat
open Go.RowKit

theorem BkJ.range {w : World} {b : Nat} {es : List Ent} {junk : List Value} {p : Pl} (h : BkJ w b es junk p) : w.rangeAt b 576 (plc es.length p) := fun j v hv => by
  rw [h.tail, hv]
theorem Flags.keep {w w' : World} {b n : Nat} {p : Pl} (h : Flags w b n p) (g : w.grownBy w' none) : Flags w' b n p := ⟨g.cell h.made (by simp), g.cell h.shut (by simp), g.cell h.count (by simp)⟩
theorem NoBk.form {w : World} {v : Value} (h : NoBk w v) : ∃ a, v = .pointer a := by
  rcases h with rfl | ⟨b, rfl, _⟩
  · exact ⟨_, rfl⟩
  · exact ⟨_, rfl⟩
end Go.Proofs.YthfjgpjcepmnmaaGreat
namespace Go.Proofs.YthfjgpjcepmnmaaGreat
open Go.RowKit

structure Book (ok : Nat → Prop) (w : World) (b : Nat) (es : List Ent) (p : Pl) : Prop where
  lies : BkIn w b es p
  good : Good ok w es
  srt : Srt es
  fine : p.fine
  may : ∀ e ∈ es, cchk e.cd = 0
theorem Book.keep {ok : Nat → Prop} {w w' : World} {b : Nat} {es : List Ent} {p : Pl} (h : Book ok w b es p) (g : w.grownBy w' none) : Book ok w' b es p := ⟨h.lies.keep g, h.good.keep g, h.srt, h.fine, h.may⟩
theorem Book.keepR {ok : Nat → Prop} {w w' : World} {b : Nat} {es : List Ent} {p : Pl} {r : Option Nat} (h : Book ok w b es p) (g : w.grownBy w' r) (hb : some b ≠ r) (hr : ∀ k, ok k → some k ≠ r) : Book ok w' b es p := ⟨h.lies.keepR g hb, h.good.keepR g hr, h.srt, h.fine, h.may⟩
theorem Book.parts {ok : Nat → Prop} {w : World} {b : Nat} {es : List Ent} {p : Pl} (h : Book ok w b es p) : ∀ e ∈ es, e.ps.length ≤ 4 := fun e he => (cchk_facts (h.may e he)).2.2.1
theorem Book.lt {ok : Nat → Prop} {w : World} {b : Nat} {es : List Ent} {p : Pl} (h : Book ok w b es p) : b < w.heap.size := by obtain ⟨j, J⟩ := h.lies; exact block_lt J.lies
theorem plNew_fine : plNew.fine := ⟨rfl, rfl, fun s hs => by simp [plNew] at hs; rw [hs]; decide, fun m hm => by simp [plNew] at hm; rw [hm]; decide⟩
theorem bnew (ok : Nat → Prop) (w : World) : Calls Tryz.prog 58 #[] w fun e w' => e = .returned (.pointer (some ⟨w.heap.size, 0, none⟩)) ∧ Book ok w' w.heap.size [] plNew ∧ w.grownBy w' none ∧ w'.heap.size = w.heap.size + 1 :=
  (new_any w).mono fun e w' ⟨h1, h2, h3, h4⟩ => ⟨h1, ⟨h2, fun e he => by simp at he, by unfold Srt; exact List.Pairwise.nil, plNew_fine, fun e he => by simp at he⟩, h3, h4⟩
theorem names_mem {es : List Ent} {e : Ent} (h : e ∈ es) : e.h.nm ∈ names es := List.mem_map.2 ⟨e, h, rfl⟩
theorem bcard (ok : Nat → Prop) (b : Nat) (es : List Ent) (p : Pl) (h : Hd) (v : Value) (ps : List Pt) (w : World) (B : Book ok w b es p) (hok : ¬ ok b) (hnew : ∀ k, w.heap.size ≤ k → ok k) (hp : PsAt w v ps) (hm : Small ps.length) : Calls Tryz.prog 59 #[.pointer (some ⟨b, 0, none⟩), cv h v] w fun e w' => ∃ u, e = .returned (.int .i64 (caE p es (h.with ps))) ∧ Book ok w' b (if caE p es (h.with ps) = 0 then ins es ⟨h, u, ps⟩ else es) p ∧ w.grownBy w' (some b) := by
  refine (card_yes ok b es p h v ps w B.lies B.good B.srt hok hp hm).mono ?_
  rintro e w' ⟨u, he, h1, h2, h3⟩
  have G2 := h2.mono (ok' := ok) (fun k hk => hk.elim id (hnew k))
  refine ⟨u, he, ?_, h3⟩
  by_cases h0 : caE p es (h.with ps) = 0
  · rw [if_pos h0] at h1 G2 ⊢
    have hc : cchk (h.with ps) = 0 ∧ pos (names es) h.nm < 0 := by
      unfold caE at h0
      split at h0
      · omega
      · split at h0
        · exact absurd h0 (by assumption)
        · rename_i hq
          split at h0
          · omega
          · rename_i hz
            exact ⟨by simpa using hq, Int.not_le.1 hz⟩
    refine ⟨h1, G2, ins_srt es _ B.srt (fun x hx e => pos_no hc.2 (e ▸ names_mem hx)), B.fine, fun x hx => ?_⟩
    rcases (ins_mem es _ x).1 hx with rfl | hx
    · exact hc.1
    · exact B.may x hx
  · rw [if_neg h0] at h1 G2 ⊢
    exact ⟨h1, G2, B.srt, B.fine, B.may⟩
theorem sealP_fine {p : Pl} (h : p.fine) (es : List Ent) : (sealP p es).fine := by
  unfold sealP
  split
  · exact ⟨h.nine, h.five, h.nms, h.mks⟩
  · exact h
theorem bseal (ok : Nat → Prop) (b : Nat) (es : List Ent) (p : Pl) (w : World) (B : Book ok w b es p) (hok : ¬ ok b) : Calls Tryz.prog 61 #[.pointer (some ⟨b, 0, none⟩)] w fun e w' => e = .returned (.int .i64 (sealE p es)) ∧ Book ok w' b es (sealP p es) ∧ w.grownBy w' (some b) :=
  (seal_yes ok b es p w B.lies B.good B.parts).mono fun e w' ⟨h1, h2, h3⟩ => ⟨h1, ⟨h2, B.good.keepR h3 (fun k hk e => by cases e; exact hok hk), B.srt, sealP_fine B.fine es, B.may⟩, h3⟩
end Go.Proofs.YthfjgpjcepmnmaaGreat
namespace Go.Proofs.YthfjgpjcepmnmaaGreat
open Go.RowKit

end Go.Proofs.YthfjgpjcepmnmaaGreat
namespace Go.Proofs.YthfjgpjcepmnmaaGreat
open Go.RowKit

end Go.Proofs.YthfjgpjcepmnmaaGreat
namespace Go.Proofs.YthfjgpjcepmnmaaGreat
open Go.RowKit

end Go.Proofs.YthfjgpjcepmnmaaGreat
namespace Go.Proofs.YthfjgpjcepmnmaaGreat
open Go.RowKit

theorem C9.keepR {w w' : World} {g o : Nat} {h : Hd} {v : Value} {r : Option Nat} (k : C9 w g o h v) (hg : w.grownBy w' r) (hr : some g ≠ r) : C9 w' g o h v :=
  ⟨hg.cell k.c0 hr, hg.cell k.c1 hr, hg.cell k.c2 hr, hg.cell k.c3 hr, hg.cell k.c4 hr, hg.cell k.c5 hr, hg.cell k.c6 hr, hg.cell k.c7 hr, hg.cell k.c8 hr⟩
end Go.Proofs.YthfjgpjcepmnmaaGreat
namespace Go.Proofs.YthfjgpjcepmnmaaGreat
open Go.RowKit

end Go.Proofs.YthfjgpjcepmnmaaGreat
namespace Go.Proofs.YthfjgpjcepmnmaaGreat
open Go.RowKit

end Go.Proofs.YthfjgpjcepmnmaaGreat
namespace Go.Proofs.YthfjgpjcepmnmaaGreat
open Go.RowKit

structure Fe where
  ho : Int
  su : Int
  tr : Int
  po : Int
  he : Int
def Fe.none : Fe := ⟨0, 0, 0, 0, 0⟩
def fev (f : Fe) : Value := .agg #[.int .i64 f.ho, .int .u8 f.su, .int .u16 f.tr, .int .i64 f.po, .int .i64 f.he]
def atC (p : Pl) (es : List Ent) (n : Int) : Hd × List Pt := if p.shut = true ∧ 1 ≤ n then (match es[(n - 1).toNat]? with | some e => (e.h, e.ps) | none => (Hd.none, [])) else (Hd.none, [])
def atX (p : Pl) (es : List Ent) (n : Int) : Int := if p.shut = true ∧ 1 ≤ n ∧ n ≤ (es.length : Int) then 0 else 6
def plF : List Pt → Nat → Int → List Int
  | [], _, _ => []
  | q :: r, k, w => if q.wn = w then (k : Int) :: plF r (k + 1) w else plF r (k + 1) w
end Go.Proofs.YthfjgpjcepmnmaaGreat
namespace Go.Proofs.YthfjgpjcepmnmaaGreat

structure Th where
  card : Int
  owner : Int
  place : Int
  stamp : Int
  hurt : Int
  m0 : Int
  m1 : Int
  m2 : Int
  m3 : Int
  done : Int
  fresh : Bool

def Th.home (t : Th) (tp : Int) : Th := ⟨t.card, t.owner, tp, 0, 0, 0, 0, 0, 0, 0, false⟩
def Th.off (t : Th) : Prop := t = t.home t.place
def Th.marked (t : Th) : Prop := (0 ≤ t.m0 ∧ t.m0 ≤ 99) ∧ (0 ≤ t.m1 ∧ t.m1 ≤ 99) ∧ (0 ≤ t.m2 ∧ t.m2 ≤ 99) ∧ (0 ≤ t.m3 ∧ t.m3 ≤ 99)
def Th.alone (t : Th) (nx : Int) : Prop := 1 ≤ t.card ∧ (t.owner = 0 ∨ t.owner = 1) ∧ (1 ≤ t.place ∧ t.place ≤ 5) ∧ (t.place ≠ 4 → t.off) ∧ (t.place = 4 → 1 ≤ t.stamp ∧ t.stamp < nx ∧ 0 ≤ t.hurt ∧ 0 ≤ t.done ∧ t.marked)
def Th.none : Th := ⟨0, 0, 0, 0, 0, 0, 0, 0, 0, 0, false⟩
def thAt (ts : List Th) (n : Int) : Th := ts.getD (n - 1).toNat Th.none
def there (ts : List Th) (n : Int) : Prop := 1 ≤ n ∧ n ≤ (ts.length : Int)
def inn (ts : List Th) (p pl n : Int) : Prop := there ts n ∧ (thAt ts n).owner = p ∧ (thAt ts n).place = pl
def Holds (ts : List Th) (l : List Int) (p pl : Int) : Prop := l.Nodup ∧ ∀ n, n ∈ l ↔ inn ts p pl n
end Go.Proofs.YthfjgpjcepmnmaaGreat
namespace Go.Proofs.YthfjgpjcepmnmaaGreat
open Go.RowKit

def tHas (s k : Int) : Bool := bits .and .u16 s (tBit k) != 0
def tWith (s k : Int) : Int := bits .or .u16 s (tBit k)
def tWithout (s k : Int) : Int := bits .andNot .u16 s (tBit k)
theorem eight_or (k : Int) : (k = 1 ∨ k = 2 ∨ k = 3 ∨ k = 4 ∨ k = 5 ∨ k = 6 ∨ k = 7 ∨ k = 8) ∨ (k < 1 ∨ 8 < k) := by omega
theorem tBit_no {k : Int} (h : k < 1 ∨ 8 < k) : tBit k = 0 := by
  unfold tBit
  rw [if_neg (by omega), if_neg (by omega), if_neg (by omega), if_neg (by omega), if_neg (by omega), if_neg (by omega), if_neg (by omega), if_neg (by omega)]
theorem isTrait_yes (k : Int) (h1 : 1 ≤ k) (h2 : k ≤ 8) (w : World) : Calls Tryz.prog 258 #[.int .u8 k] w fun e w' => e = .returned (.bool true) ∧ w' = w := by
  go_enter Tryz.func258, Tryz.ntmps258
  go_wp2
  go_ret
  exact ⟨rfl, rfl⟩
theorem isTrait_no (k : Int) (h : k < 1 ∨ 8 < k) (w : World) : Calls Tryz.prog 258 #[.int .u8 k] w fun e w' => e = .returned (.bool false) ∧ w' = w := by
  rcases h with h | h
  · go_enter Tryz.func258, Tryz.ntmps258
    go_wp2
    go_ret
    exact ⟨rfl, rfl⟩
  · have h1 : (1 : Int) ≤ k := by omega
    have h2 : decide (k ≤ 8) = false := decide_eq_false (by omega)
    clear h
    go_enter Tryz.func258, Tryz.ntmps258
    go_wp2
    go_ret
    exact ⟨rfl, rfl⟩
set_option maxHeartbeats 1000000 in
theorem bit_any (k : Int) (w : World) : Calls Tryz.prog 196 #[.int .u8 k] w fun e w' => e = .returned (.int .u16 (tBit k)) ∧ w' = w := by
  rcases eight_or k with h | h
  · rcases h with rfl | rfl | rfl | rfl | rfl | rfl | rfl | rfl
    all_goals
      go_enter Tryz.func196, Tryz.ntmps196
      go_wp2_with fail
      refine (isTrait_yes _ (by omega) (by omega) _).mono ?_
      rintro e w1 ⟨rfl, rfl⟩
      go_wp2
      go_ret
      exact ⟨rfl, rfl⟩
  · rw [tBit_no h]
    go_enter Tryz.func196, Tryz.ntmps196
    go_wp2_with fail
    refine (isTrait_no _ h _).mono ?_
    rintro e w1 ⟨rfl, rfl⟩
    go_wp2
    go_ret
    exact ⟨rfl, rfl⟩
set_option maxHeartbeats 1000000 in
theorem has_any (s k : Int) (w : World) : Calls Tryz.prog 129 #[.int .u16 s, .int .u8 k] w fun e w' => e = .returned (.bool (tHas s k)) ∧ w' = w := by
  go_enter Tryz.func129, Tryz.ntmps129
  go_wp2_with fail
  refine (bit_any _ _).mono ?_
  rintro e w1 ⟨rfl, rfl⟩
  go_wp2
  go_ret
  exact ⟨rfl, rfl⟩
theorem lay_no {v : Int} (h : ¬ (10 ≤ v ∧ v ≤ 15)) : lay v = 0 := by
  unfold lay
  rw [if_neg (by omega), if_neg (by omega), if_neg (by omega), if_neg (by omega), if_neg (by omega)]
set_option maxHeartbeats 1000000 in
theorem layer_any (v : Int) (w : World) : Calls Tryz.prog 237 #[.int .u8 v] w fun e w' => e = .returned (.int .i64 (lay v)) ∧ w' = w := by
  by_cases h : 10 ≤ v ∧ v ≤ 15
  · have : v = 10 ∨ v = 11 ∨ v = 12 ∨ v = 13 ∨ v = 14 ∨ v = 15 := by omega
    rcases this with rfl | rfl | rfl | rfl | rfl | rfl
    all_goals
      go_enter Tryz.func237, Tryz.ntmps237
      go_wp2
      go_ret
      exact ⟨rfl, rfl⟩
  · rw [lay_no h]
    have e1 : (v == 10) = false := by simp; omega
    have e2 : (v == 11) = false := by simp; omega
    have e3 : (v == 12) = false := by simp; omega
    have e4 : (v == 13) = false := by simp; omega
    have e5 : (v == 14) = false := by simp; omega
    have e6 : (v == 15) = false := by simp; omega
    clear h
    go_enter Tryz.func237, Tryz.ntmps237
    go_wp2
    go_ret
    exact ⟨rfl, rfl⟩
end Go.Proofs.YthfjgpjcepmnmaaGreat
namespace Go.Proofs.YthfjgpjcepmnmaaGreat
open Go.RowKit

structure Sd where
  th : Int
  pl : Int
  wh : Pt
structure Se where
  s : Sd
  ro : Nat
structure Rw where
  nu : Int
  st : Int
  h : Hd
  ps : List Pt
def Sd.none : Sd := ⟨0, 0, Pt.none⟩
def Se.none : Se := ⟨Sd.none, 0⟩
def Rw.none : Rw := ⟨0, 0, Hd.none, []⟩
def isPl (x : Int) : Bool := decide (x = 0) || decide (x = 1)
def mayBeB (n : Int) (t : Th) : Bool := decide (1 ≤ t.card) && decide (t.card ≤ n) && isPl t.owner && decide (1 ≤ t.place) && decide (t.place ≤ 5)
def mayLieB (t : Th) (f : Fe) : Bool := decide (0 < t.stamp) && isPl f.ho && tCheck f.tr
def layF (n : Int) (cd : Int → Hd × List Pt) : List (Th × Fe) → Nat → List Rw → Option (List Rw)
  | [], _, acc => some acc
  | (t, f) :: r, i, acc =>
    if mayBeB n t = false then none
    else if t.place ≠ 4 then layF n cd r (i + 1) acc
    else if acc.length = 16 ∨ mayLieB t f = false then none
    else if (cd t.card).1.kd = 2 then none
    else layF n cd r (i + 1) (acc ++ [⟨(i : Int) + 1, t.stamp, (cd t.card).1, (cd t.card).2⟩])
def dif : List Int → Bool
  | [] => true
  | a :: l => (match l with | [] => true | b :: _ => decide (a ≠ b)) && dif l
def stampsR (R : List Rw) : List Int := R.map Rw.st
def sortR (R : List Rw) : List Rw := R.mergeSort fun a b => decide (a.st ≤ b.st)
def tabR (n : Int) (cd : Int → Hd × List Pt) (ts : List Th) (fs : List Fe) : Option (List Rw) :=
  if ts.length = fs.length then
    match layF n cd (ts.zip fs) 0 [] with
    | some acc => if dif (stampsR (sortR acc)) then some (sortR acc) else none
    | none => none
  else none
def pickF (R : List Rw) (fs : List Fe) : List Fe := R.map fun r => fs.getD (r.nu - 1).toNat Fe.none
def meantB (wh : Pt) (own : Bool) (kd : Int) (f : Fe) (ho : Int) : Bool :=
  if wh.wm = 4 then own
  else if kd ≠ 1 then false
  else if wh.wm = 5 then decide (f.ho = ho)
  else if wh.wm = 8 then decide (f.ho = ho) && !own
  else if wh.wm = 6 then !decide (f.ho = ho)
  else if wh.wm = 7 then true
  else if wh.wm = 9 then decide (f.su = wh.su)
  else if wh.wm = 10 then tHas f.tr wh.tr
  else false
def isAbB (R : List Rw) (F : List Fe) (s : Se) (i : Nat) : Bool := meantB s.s.wh (decide (i = s.ro)) (R.getD i Rw.none).h.kd (F.getD i Fe.none) (F.getD s.ro Fe.none).ho
def aboutU (R : List Rw) (F : List Fe) (s : Se) (k : Nat) : List Bool := (List.range k).map (isAbB R F s)
def aboutL (R : List Rw) (F : List Fe) (s : Se) : List Bool := aboutU R F s R.length
def doneF (f : Fe) (wh : Pt) (ho : Int) : Fe :=
  if wh.vb = 10 then { f with ho := ho }
  else if wh.vb = 11 then { f with su := wh.su }
  else if wh.vb = 12 then { f with tr := tWith f.tr wh.tr }
  else if wh.vb = 13 then { f with tr := tWithout f.tr wh.tr }
  else if wh.vb = 14 then { f with po := wh.ct, he := wh.ct }
  else if wh.vb = 15 then { f with po := wrap64 (f.po + wh.ct), he := wrap64 (f.he + wh.ct) }
  else f
def applyAt (R : List Rw) (F : List Fe) (s : Se) (i : Nat) : Fe := if isAbB R F s i then doneF (F.getD i Fe.none) s.s.wh (F.getD s.ro Fe.none).ho else F.getD i Fe.none
def applyL (R : List Rw) (F : List Fe) (s : Se) : List Fe := (List.range F.length).map (applyAt R F s)
def depB (R : List Rw) (F : List Fe) (s o : Se) : Bool := !decide (aboutL R F s = aboutL R (applyL R F o) s)
def freeB (R : List Rw) (F : List Fe) (L : List Se) (i : Nat) : Bool := (List.range L.length).all fun j => decide (i = j) || !depB R F (L.getD i Se.none) (L.getD j Se.none)
def nextN (R : List Rw) (F : List Fe) (L : List Se) : Nat := ((List.range L.length).find? (freeB R F L)).getD 0
def effP (k : Int) (nu : Int) (ro : Nat) (ps : List Pt) (m : Nat) : List Se := (List.range m).filterMap fun i => if (ps.getD i Pt.none).wn = 5 ∧ lay (ps.getD i Pt.none).vb = k then some ⟨⟨nu, (i : Int), ps.getD i Pt.none⟩, ro⟩ else none
def effR (R : List Rw) (F : List Fe) (k : Int) (i : Nat) : List Se := if tHas (F.getD i Fe.none).tr 6 then [] else effP k (R.getD i Rw.none).nu i (R.getD i Rw.none).ps (R.getD i Rw.none).ps.length
def effU (R : List Rw) (F : List Fe) (k : Int) (m : Nat) : List Se := (List.range m).flatMap (effR R F k)
def effL (R : List Rw) (F : List Fe) (k : Int) : List Se := effU R F k R.length
def allL (R : List Rw) : Nat → List Fe → List Se → List Se → List Fe × List Se
  | 0, F, _, acc => (F, acc)
  | n + 1, F, L, acc => if L = [] then (F, acc) else allL R n (applyL R F (L.getD (nextN R F L) Se.none)) (L.eraseIdx (nextN R F L)) (acc ++ [L.getD (nextN R F L) Se.none])
def amgU (fs : List Fe) (R : List Rw) (F : List Fe) (m : Nat) : List Fe := (List.range m).foldl (fun a i => a.set ((R.getD i Rw.none).nu - 1).toNat (F.getD i Fe.none)) fs
def amgL (fs : List Fe) (R : List Rw) (F : List Fe) : List Fe := amgU fs R F R.length
def hasSt (ps : List Pt) (s : Sd) : Bool := decide (0 ≤ s.pl) && decide (s.pl < (ps.length : Int)) && (decide (s.wh.wn = 5) && samep (ps.getD s.pl.toNat Pt.none) s.wh)
def rowOf (R : List Rw) (n : Int) : Option Nat := R.findIdx? fun r => decide (r.nu = n)
def findF (R : List Rw) (s : Sd) : Option Se := match rowOf R s.th with
  | some i => if hasSt (R.getD i Rw.none).ps s then some ⟨s, i⟩ else none
  | none => none
def clashB (s o : Se) : Bool := (decide (s.s.th = o.s.th) && decide (s.s.pl = o.s.pl)) || !decide (lay s.s.wh.vb = lay o.s.wh.vb)
def joinsB (s : Se) (L : List Se) : Bool := L.all fun o => !clashB s o
def listF (R : List Rw) : List Sd → List Se → Option (List Se)
  | [], acc => some acc
  | s :: l, acc => match findF R s with
    | some e => if joinsB e acc then listF R l (acc ++ [e]) else none
    | none => none
end Go.Proofs.YthfjgpjcepmnmaaGreat
namespace Go.Proofs.YthfjgpjcepmnmaaGreat
open Go.RowKit

def othU (wh : Pt) (own : Bool) (f : Fe) (ho : Int) : Bool :=
  if wh.wm = 5 then decide (f.ho = ho)
  else if wh.wm = 8 then decide (f.ho = ho) && !own
  else if wh.wm = 6 then !decide (f.ho = ho)
  else if wh.wm = 7 then true
  else if wh.wm = 9 then decide (f.su = wh.su)
  else if wh.wm = 10 then tHas f.tr wh.tr
  else false
def meantU (wh : Pt) (own u : Bool) (f : Fe) (ho : Int) : Bool := if wh.wm = 4 then own else if u = false then false else othU wh own f ho
theorem meantU_oth {wh : Pt} {own : Bool} {f : Fe} {ho : Int} (h : ¬ wh.wm = 4) : meantU wh own true f ho = othU wh own f ho := by unfold meantU; rw [if_neg h, if_neg (by simp)]
end Go.Proofs.YthfjgpjcepmnmaaGreat
