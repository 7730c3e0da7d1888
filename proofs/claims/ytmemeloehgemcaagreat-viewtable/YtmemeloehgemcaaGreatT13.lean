/-
  The document's own book: Trait, TraitName.
  The document's own book: MarkOf, Mark.
  Things, plainly: features, what marks add, the places of a card's parts of a moment.
  Zones, plainly: things, decks, hands, the next stamp; when they are sound; a thing comes to a place; each call keeps them sound.
  Traits: what Has, With, Without tell of a set and a number; the layer of a verb.
  Layers, plainly: what lies on the table, whom an effect is about, what it makes of features, which depends on which, which comes next.
  Lists of records, each of k cells: read where they lie, of one's own, grown, written over at a place.
  A card that was handed in, read as data: its fields, and where its parts lie.
  CopyParts: the same parts, in new memory.
  LentParts, SameParts, KeptParts: a list is lent with two more behind it; two lists are held against each other; a lent list is as it was.
  KeptParts: is a lent list as it was? LentCard: a card with its parts lent.
-/
import Derived.Test.YtmemeloehgemcaaGreatT12
import Derived.Test.YtmemeloehgemcaaGreatT9
import Derived.WalkKit
import Derived.Test.YtmemeloehgemcaaGreatT3
import Derived.Test.YtmemeloehgemcaaGreatT0
import Derived.Deep.MidRow
import Derived.ProofKit
import Derived.OpenShut
import Derived.ChangeOld
import Derived.Deep.Slices
import Derived.SizedLaws
namespace Go.Proofs.YtmemeloehgemcaaGreat
open Go.RowKit

theorem empty_name : nameOk (ByteArray.mk #[]).data.toList = false := rfl
end Go.Proofs.YtmemeloehgemcaaGreat
namespace Go.Proofs.YtmemeloehgemcaaGreat
open Go.RowKit

def MkD (p : Pl) : Prop := p.mks[0]? = some Mk.none ∧ ∀ m ∈ p.mks, m = Mk.none ∨ (¬ m.mi = 0 ∧ ¬ m.nm = ⟨#[]⟩)
end Go.Proofs.YtmemeloehgemcaaGreat
namespace Go.Proofs.YtmemeloehgemcaaGreat
open Go.RowKit

structure Fe where
  ho : Int
  su : Int
  tr : Int
  po : Int
  he : Int
def Fe.none : Fe := ⟨0, 0, 0, 0, 0⟩
def fev (f : Fe) : Value := .agg #[.int .i64 f.ho, .int .u8 f.su, .int .u16 f.tr, .int .i64 f.po, .int .i64 f.he]
def fcs (f : Fe) : Array Value := #[.int .i64 f.ho, .int .u8 f.su, .int .u16 f.tr, .int .i64 f.po, .int .i64 f.he]
def InI (a : Int) : Prop := -9223372036854775808 ≤ a ∧ a ≤ 9223372036854775807
def adw (a c m : Int) : Int := wrap64 (a + wrap64 (c * m))
def addP (a : Int) (l : List (Int × Mk)) : Int := l.foldl (fun a x => adw a x.1 x.2.po) a
def addH (a : Int) (l : List (Int × Mk)) : Int := l.foldl (fun a x => adw a x.1 x.2.he) a
theorem addP_snoc (a : Int) (l : List (Int × Mk)) (x : Int × Mk) : addP a (l ++ [x]) = adw (addP a l) x.1 x.2.po := by unfold addP; rw [List.foldl_append]; rfl
theorem addH_snoc (a : Int) (l : List (Int × Mk)) (x : Int × Mk) : addH a (l ++ [x]) = adw (addH a l) x.1 x.2.he := by unfold addH; rw [List.foldl_append]; rfl
def zs (p : Pl) (c0 c1 c2 c3 : Int) : List (Int × Mk) := [(c0, moM p 1), (c1, moM p 2), (c2, moM p 3), (c3, moM p 4)]
def low0 (a : Int) : Int := if a < 0 then 0 else a
def mkdF (p : Pl) (f : Fe) (c0 c1 c2 c3 : Int) : Fe := ⟨f.ho, f.su, f.tr, low0 (addP f.po (zs p c0 c1 c2 c3)), addH f.he (zs p c0 c1 c2 c3)⟩
def atC (p : Pl) (es : List Ent) (n : Int) : Hd × List Pt := if p.shut = true ∧ 1 ≤ n then (match es[(n - 1).toNat]? with | some e => (e.h, e.ps) | none => (Hd.none, [])) else (Hd.none, [])
def atX (p : Pl) (es : List Ent) (n : Int) : Int := if p.shut = true ∧ 1 ≤ n ∧ n ≤ (es.length : Int) then 0 else 6
end Go.Proofs.YtmemeloehgemcaaGreat
namespace Go.Proofs.YtmemeloehgemcaaGreat

structure Th where
  card : Int
  owner : Int
  place : Int
  stamp : Int
  hurt : Int
  m0 : Int
  m1 : Int
  m2 : Int
  m3 : Int
  done : Int
  fresh : Bool

def Th.home (t : Th) (tp : Int) : Th := ⟨t.card, t.owner, tp, 0, 0, 0, 0, 0, 0, 0, false⟩
def Th.off (t : Th) : Prop := t = t.home t.place
def Th.marked (t : Th) : Prop := (0 ≤ t.m0 ∧ t.m0 ≤ 99) ∧ (0 ≤ t.m1 ∧ t.m1 ≤ 99) ∧ (0 ≤ t.m2 ∧ t.m2 ≤ 99) ∧ (0 ≤ t.m3 ∧ t.m3 ≤ 99)
def Th.alone (t : Th) (nx : Int) : Prop := 1 ≤ t.card ∧ (t.owner = 0 ∨ t.owner = 1) ∧ (1 ≤ t.place ∧ t.place ≤ 5) ∧ (t.place ≠ 4 → t.off) ∧ (t.place = 4 → 1 ≤ t.stamp ∧ t.stamp < nx ∧ 0 ≤ t.hurt ∧ 0 ≤ t.done ∧ t.marked)
def Th.none : Th := ⟨0, 0, 0, 0, 0, 0, 0, 0, 0, 0, false⟩
def thAt (ts : List Th) (n : Int) : Th := ts.getD (n - 1).toNat Th.none
def there (ts : List Th) (n : Int) : Prop := 1 ≤ n ∧ n ≤ (ts.length : Int)
def inn (ts : List Th) (p pl n : Int) : Prop := there ts n ∧ (thAt ts n).owner = p ∧ (thAt ts n).place = pl
end Go.Proofs.YtmemeloehgemcaaGreat
namespace Go.Proofs.YtmemeloehgemcaaGreat
open Go.RowKit

def tHas (s k : Int) : Bool := bits .and .u16 s (tBit k) != 0
def tWith (s k : Int) : Int := bits .or .u16 s (tBit k)
def tWithout (s k : Int) : Int := bits .andNot .u16 s (tBit k)
theorem eight_or (k : Int) : (k = 1 ∨ k = 2 ∨ k = 3 ∨ k = 4 ∨ k = 5 ∨ k = 6 ∨ k = 7 ∨ k = 8) ∨ (k < 1 ∨ 8 < k) := by omega
theorem tBit_no {k : Int} (h : k < 1 ∨ 8 < k) : tBit k = 0 := by
  unfold tBit
  rw [if_neg (by omega), if_neg (by omega), if_neg (by omega), if_neg (by omega), if_neg (by omega), if_neg (by omega), if_neg (by omega), if_neg (by omega)]
theorem isTrait_yes (k : Int) (h1 : 1 ≤ k) (h2 : k ≤ 8) (w : World) : Calls Tryz.prog 141 #[.int .u8 k] w fun e w' => e = .returned (.bool true) ∧ w' = w := by
  go_enter Tryz.func141, Tryz.ntmps141
  go_wp2
  go_ret
  exact ⟨rfl, rfl⟩
theorem isTrait_no (k : Int) (h : k < 1 ∨ 8 < k) (w : World) : Calls Tryz.prog 141 #[.int .u8 k] w fun e w' => e = .returned (.bool false) ∧ w' = w := by
  rcases h with h | h
  · go_enter Tryz.func141, Tryz.ntmps141
    go_wp2
    go_ret
    exact ⟨rfl, rfl⟩
  · have h1 : (1 : Int) ≤ k := by omega
    have h2 : decide (k ≤ 8) = false := decide_eq_false (by omega)
    clear h
    go_enter Tryz.func141, Tryz.ntmps141
    go_wp2
    go_ret
    exact ⟨rfl, rfl⟩
set_option maxHeartbeats 1000000 in
theorem bit_any (k : Int) (w : World) : Calls Tryz.prog 104 #[.int .u8 k] w fun e w' => e = .returned (.int .u16 (tBit k)) ∧ w' = w := by
  rcases eight_or k with h | h
  · rcases h with rfl | rfl | rfl | rfl | rfl | rfl | rfl | rfl
    all_goals
      go_enter Tryz.func104, Tryz.ntmps104
      go_wp2_with fail
      refine (isTrait_yes _ (by omega) (by omega) _).mono ?_
      rintro e w1 ⟨rfl, rfl⟩
      go_wp2
      go_ret
      exact ⟨rfl, rfl⟩
  · rw [tBit_no h]
    go_enter Tryz.func104, Tryz.ntmps104
    go_wp2_with fail
    refine (isTrait_no _ h _).mono ?_
    rintro e w1 ⟨rfl, rfl⟩
    go_wp2
    go_ret
    exact ⟨rfl, rfl⟩
set_option maxHeartbeats 1000000 in
theorem has_any (s k : Int) (w : World) : Calls Tryz.prog 131 #[.int .u16 s, .int .u8 k] w fun e w' => e = .returned (.bool (tHas s k)) ∧ w' = w := by
  go_enter Tryz.func131, Tryz.ntmps131
  go_wp2_with fail
  refine (bit_any _ _).mono ?_
  rintro e w1 ⟨rfl, rfl⟩
  go_wp2
  go_ret
  exact ⟨rfl, rfl⟩
set_option maxHeartbeats 1000000 in
theorem with_any (s k : Int) (w : World) : Calls Tryz.prog 56 #[.int .u16 s, .int .u8 k] w fun e w' => e = .returned (.int .u16 (tWith s k)) ∧ w' = w := by
  go_enter Tryz.func56, Tryz.ntmps56
  go_wp2_with fail
  refine (bit_any _ _).mono ?_
  rintro e w1 ⟨rfl, rfl⟩
  go_wp2
  go_ret
  exact ⟨rfl, rfl⟩
set_option maxHeartbeats 1000000 in
theorem without_any (s k : Int) (w : World) : Calls Tryz.prog 57 #[.int .u16 s, .int .u8 k] w fun e w' => e = .returned (.int .u16 (tWithout s k)) ∧ w' = w := by
  go_enter Tryz.func57, Tryz.ntmps57
  go_wp2_with fail
  refine (bit_any _ _).mono ?_
  rintro e w1 ⟨rfl, rfl⟩
  go_wp2
  go_ret
  exact ⟨rfl, rfl⟩
theorem lay_no {v : Int} (h : ¬ (10 ≤ v ∧ v ≤ 15)) : lay v = 0 := by
  unfold lay
  rw [if_neg (by omega), if_neg (by omega), if_neg (by omega), if_neg (by omega), if_neg (by omega)]
set_option maxHeartbeats 1000000 in
theorem layer_any (v : Int) (w : World) : Calls Tryz.prog 132 #[.int .u8 v] w fun e w' => e = .returned (.int .i64 (lay v)) ∧ w' = w := by
  by_cases h : 10 ≤ v ∧ v ≤ 15
  · have : v = 10 ∨ v = 11 ∨ v = 12 ∨ v = 13 ∨ v = 14 ∨ v = 15 := by omega
    rcases this with rfl | rfl | rfl | rfl | rfl | rfl
    all_goals
      go_enter Tryz.func132, Tryz.ntmps132
      go_wp2
      go_ret
      exact ⟨rfl, rfl⟩
  · rw [lay_no h]
    have e1 : (v == 10) = false := by simp; omega
    have e2 : (v == 11) = false := by simp; omega
    have e3 : (v == 12) = false := by simp; omega
    have e4 : (v == 13) = false := by simp; omega
    have e5 : (v == 14) = false := by simp; omega
    have e6 : (v == 15) = false := by simp; omega
    clear h
    go_enter Tryz.func132, Tryz.ntmps132
    go_wp2
    go_ret
    exact ⟨rfl, rfl⟩
end Go.Proofs.YtmemeloehgemcaaGreat
namespace Go.Proofs.YtmemeloehgemcaaGreat
open Go.RowKit

structure Sd where
  th : Int
  pl : Int
  wh : Pt
structure Se where
  s : Sd
  ro : Nat
structure Rw where
  nu : Int
  st : Int
  h : Hd
  ps : List Pt
def Sd.none : Sd := ⟨0, 0, Pt.none⟩
def Se.none : Se := ⟨Sd.none, 0⟩
def Rw.none : Rw := ⟨0, 0, Hd.none, []⟩
def isPl (x : Int) : Bool := decide (x = 0) || decide (x = 1)
def mayBeB (n : Int) (t : Th) : Bool := decide (1 ≤ t.card) && decide (t.card ≤ n) && isPl t.owner && decide (1 ≤ t.place) && decide (t.place ≤ 5)
def mayLieB (t : Th) (f : Fe) : Bool := decide (0 < t.stamp) && isPl f.ho && tCheck f.tr
def layF (n : Int) (cd : Int → Hd × List Pt) : List (Th × Fe) → Nat → List Rw → Option (List Rw)
  | [], _, acc => some acc
  | (t, f) :: r, i, acc =>
    if mayBeB n t = false then none
    else if t.place ≠ 4 then layF n cd r (i + 1) acc
    else if acc.length = 16 ∨ mayLieB t f = false then none
    else if (cd t.card).1.kd = 2 then none
    else layF n cd r (i + 1) (acc ++ [⟨(i : Int) + 1, t.stamp, (cd t.card).1, (cd t.card).2⟩])
def dif : List Int → Bool
  | [] => true
  | a :: l => (match l with | [] => true | b :: _ => decide (a ≠ b)) && dif l
def stampsR (R : List Rw) : List Int := R.map Rw.st
def sortR (R : List Rw) : List Rw := R.mergeSort fun a b => decide (a.st ≤ b.st)
def tabR (n : Int) (cd : Int → Hd × List Pt) (ts : List Th) (fs : List Fe) : Option (List Rw) :=
  if ts.length = fs.length then
    match layF n cd (ts.zip fs) 0 [] with
    | some acc => if dif (stampsR (sortR acc)) then some (sortR acc) else none
    | none => none
  else none
def pickF (R : List Rw) (fs : List Fe) : List Fe := R.map fun r => fs.getD (r.nu - 1).toNat Fe.none
def meantB (wh : Pt) (own : Bool) (kd : Int) (f : Fe) (ho : Int) : Bool :=
  if wh.wm = 4 then own
  else if kd ≠ 1 then false
  else if wh.wm = 5 then decide (f.ho = ho)
  else if wh.wm = 8 then decide (f.ho = ho) && !own
  else if wh.wm = 6 then !decide (f.ho = ho)
  else if wh.wm = 7 then true
  else if wh.wm = 9 then decide (f.su = wh.su)
  else if wh.wm = 10 then tHas f.tr wh.tr
  else false
def isAbB (R : List Rw) (F : List Fe) (s : Se) (i : Nat) : Bool := meantB s.s.wh (decide (i = s.ro)) (R.getD i Rw.none).h.kd (F.getD i Fe.none) (F.getD s.ro Fe.none).ho
def aboutU (R : List Rw) (F : List Fe) (s : Se) (k : Nat) : List Bool := (List.range k).map (isAbB R F s)
def aboutL (R : List Rw) (F : List Fe) (s : Se) : List Bool := aboutU R F s R.length
def doneF (f : Fe) (wh : Pt) (ho : Int) : Fe :=
  if wh.vb = 10 then { f with ho := ho }
  else if wh.vb = 11 then { f with su := wh.su }
  else if wh.vb = 12 then { f with tr := tWith f.tr wh.tr }
  else if wh.vb = 13 then { f with tr := tWithout f.tr wh.tr }
  else if wh.vb = 14 then { f with po := wh.ct, he := wh.ct }
  else if wh.vb = 15 then { f with po := wrap64 (f.po + wh.ct), he := wrap64 (f.he + wh.ct) }
  else f
def applyAt (R : List Rw) (F : List Fe) (s : Se) (i : Nat) : Fe := if isAbB R F s i then doneF (F.getD i Fe.none) s.s.wh (F.getD s.ro Fe.none).ho else F.getD i Fe.none
def applyL (R : List Rw) (F : List Fe) (s : Se) : List Fe := (List.range F.length).map (applyAt R F s)
def depB (R : List Rw) (F : List Fe) (s o : Se) : Bool := !decide (aboutL R F s = aboutL R (applyL R F o) s)
def freeB (R : List Rw) (F : List Fe) (L : List Se) (i : Nat) : Bool := (List.range L.length).all fun j => decide (i = j) || !depB R F (L.getD i Se.none) (L.getD j Se.none)
def nextN (R : List Rw) (F : List Fe) (L : List Se) : Nat := ((List.range L.length).find? (freeB R F L)).getD 0
def effP (k : Int) (nu : Int) (ro : Nat) (ps : List Pt) (m : Nat) : List Se := (List.range m).filterMap fun i => if (ps.getD i Pt.none).wn = 5 ∧ lay (ps.getD i Pt.none).vb = k then some ⟨⟨nu, (i : Int), ps.getD i Pt.none⟩, ro⟩ else none
def effR (R : List Rw) (F : List Fe) (k : Int) (i : Nat) : List Se := if tHas (F.getD i Fe.none).tr 6 then [] else effP k (R.getD i Rw.none).nu i (R.getD i Rw.none).ps (R.getD i Rw.none).ps.length
def effU (R : List Rw) (F : List Fe) (k : Int) (m : Nat) : List Se := (List.range m).flatMap (effR R F k)
def effL (R : List Rw) (F : List Fe) (k : Int) : List Se := effU R F k R.length
def allL (R : List Rw) : Nat → List Fe → List Se → List Se → List Fe × List Se
  | 0, F, _, acc => (F, acc)
  | n + 1, F, L, acc => if L = [] then (F, acc) else allL R n (applyL R F (L.getD (nextN R F L) Se.none)) (L.eraseIdx (nextN R F L)) (acc ++ [L.getD (nextN R F L) Se.none])
def amgU (fs : List Fe) (R : List Rw) (F : List Fe) (m : Nat) : List Fe := (List.range m).foldl (fun a i => a.set ((R.getD i Rw.none).nu - 1).toNat (F.getD i Fe.none)) fs
def amgL (fs : List Fe) (R : List Rw) (F : List Fe) : List Fe := amgU fs R F R.length
def hasSt (ps : List Pt) (s : Sd) : Bool := decide (0 ≤ s.pl) && decide (s.pl < (ps.length : Int)) && (decide (s.wh.wn = 5) && samep (ps.getD s.pl.toNat Pt.none) s.wh)
def rowOf (R : List Rw) (n : Int) : Option Nat := R.findIdx? fun r => decide (r.nu = n)
def findF (R : List Rw) (s : Sd) : Option Se := match rowOf R s.th with
  | some i => if hasSt (R.getD i Rw.none).ps s then some ⟨s, i⟩ else none
  | none => none
def clashB (s o : Se) : Bool := (decide (s.s.th = o.s.th) && decide (s.s.pl = o.s.pl)) || !decide (lay s.s.wh.vb = lay o.s.wh.vb)
def joinsB (s : Se) (L : List Se) : Bool := L.all fun o => !clashB s o
def listF (R : List Rw) : List Sd → List Se → Option (List Se)
  | [], acc => some acc
  | s :: l, acc => match findF R s with
    | some e => if joinsB e acc then listF R l (acc ++ [e]) else none
    | none => none
end Go.Proofs.YtmemeloehgemcaaGreat
namespace Go.Proofs.YtmemeloehgemcaaGreat
open Go.RowKit

theorem alloc2_b (w : World) (o : Obj) (cs : Array Value) (t : TypeId) : ((w.alloc o).alloc (.cells cs t)).heap[w.heap.size + 1]? = some (.cells cs t (0, 0)) := by have := alloc_at (w.alloc o) cs t; rwa [World.size_alloc] at this
structure RecT (α : Type) where
  k : Nat
  enc : α → List Value
  hk : ∀ x, (enc x).length = k
  h1 : ∀ x, ∀ v ∈ enc x, v.oneCell' = true
  hp : 0 < k
def RecT.cs {α : Type} (R : RecT α) : List α → List Value
  | [] => []
  | x :: l => R.enc x ++ R.cs l
theorem RecT.len {α : Type} (R : RecT α) : ∀ l : List α, (R.cs l).length = l.length * R.k
  | [] => by simp [RecT.cs]
  | x :: l => by
    show (R.enc x ++ R.cs l).length = _
    rw [List.length_append, R.hk, R.len l, List.length_cons, Nat.succ_mul]
    omega
theorem RecT.app {α : Type} (R : RecT α) : ∀ a b : List α, R.cs (a ++ b) = R.cs a ++ R.cs b
  | [], b => rfl
  | x :: a, b => by
    show R.enc x ++ R.cs (a ++ b) = (R.enc x ++ R.cs a) ++ R.cs b
    rw [R.app a b, List.append_assoc]
theorem RecT.one {α : Type} (R : RecT α) (x : α) : R.cs [x] = R.enc x := List.append_nil _
theorem RecT.at' {α : Type} (R : RecT α) : ∀ {l : List α} {j : Nat} {x : α}, l[j]? = some x → ∀ i, i < R.k → (R.cs l)[j * R.k + i]? = (R.enc x)[i]?
  | [], j, x, h, i, hi => by simp at h
  | y :: l, 0, x, h, i, hi => by
    simp at h
    subst h
    show (R.enc y ++ R.cs l)[0 * R.k + i]? = _
    rw [Nat.zero_mul, Nat.zero_add, List.getElem?_append_left (by rw [R.hk]; exact hi)]
  | y :: l, j + 1, x, h, i, hi => by
    show (R.enc y ++ R.cs l)[(j + 1) * R.k + i]? = _
    rw [List.getElem?_append_right (by rw [R.hk, Nat.succ_mul]; omega), R.hk, show (j + 1) * R.k + i - R.k = j * R.k + i from by rw [Nat.succ_mul]; omega]
    exact R.at' (by simpa using h) i hi
theorem RecT.ones {α : Type} (R : RecT α) : ∀ l : List α, ∀ u ∈ R.cs l, u.oneCell' = true
  | [], u, h => by cases h
  | x :: l, u, h => by
    rcases List.mem_append.1 h with h | h
    · exact R.h1 x u h
    · exact R.ones l u h
theorem RecT.take {α : Type} (R : RecT α) : ∀ (l : List α) (j : Nat), (R.cs l).take (j * R.k) = R.cs (l.take j)
  | [], j => by simp [RecT.cs]
  | x :: l, 0 => by simp [RecT.cs]
  | x :: l, j + 1 => by
    show (R.enc x ++ R.cs l).take ((j + 1) * R.k) = R.enc x ++ R.cs (l.take j)
    rw [List.take_append, R.hk, List.take_of_length_le (by rw [R.hk, Nat.succ_mul]; omega), show (j + 1) * R.k - R.k = j * R.k from by rw [Nat.succ_mul]; omega, R.take l j]
theorem RecT.drop {α : Type} (R : RecT α) : ∀ (l : List α) (j : Nat), (R.cs l).drop (j * R.k) = R.cs (l.drop j)
  | [], j => by simp [RecT.cs]
  | x :: l, 0 => by simp [RecT.cs]
  | x :: l, j + 1 => by
    show (R.enc x ++ R.cs l).drop ((j + 1) * R.k) = R.cs (l.drop j)
    rw [List.drop_append, R.hk, List.drop_eq_nil_of_le (by rw [R.hk, Nat.succ_mul]; omega), show (j + 1) * R.k - R.k = j * R.k from by rw [Nat.succ_mul]; omega, R.drop l j, List.nil_append]
def setFrom : List Value → Nat → List Value → List Value
  | xs, _, [] => xs
  | xs, o, v :: vs => setFrom (xs.set o v) (o + 1) vs
theorem setFrom_eq : ∀ (vs xs : List Value) (o : Nat), o + vs.length ≤ xs.length → setFrom xs o vs = xs.take o ++ (vs ++ xs.drop (o + vs.length))
  | [], xs, o, h => by simp [setFrom]
  | v :: vs, xs, o, h => by
    rw [List.length_cons] at h
    show setFrom (xs.set o v) (o + 1) vs = _
    rw [setFrom_eq vs (xs.set o v) (o + 1) (by rw [List.length_set]; omega), List.take_add_one, List.getElem?_set_self (by omega), List.take_set_of_le (by omega), List.drop_set_of_lt (by omega), List.length_cons]
    simp [Nat.add_assoc, Nat.add_comm 1]
theorem setFrom_all {xs vs : List Value} (h : vs.length = xs.length) : setFrom xs 0 vs = vs := by
  rw [setFrom_eq vs xs 0 (by omega), List.take_zero, List.nil_append, List.drop_eq_nil_of_le (by omega), List.append_nil]
theorem own_setCells {base e size g n cap : Nat} : ∀ (vs xs : List Value) (o : Nat) (w : World), w.ownsRow base e size (.slice (some ⟨g, 0, none⟩) n cap) n xs → (w.setCells g o vs).ownsRow base e size (.slice (some ⟨g, 0, none⟩) n cap) n (setFrom xs o vs) ∧ w.grownBy (w.setCells g o vs) (some g)
  | [], xs, o, w, h => ⟨h, grown_refl _ _⟩
  | v :: vs, xs, o, w, h => by
    obtain ⟨h1, h2⟩ := World.ownsRow.stored h o v
    obtain ⟨h3, h4⟩ := own_setCells vs (xs.set o v) (o + 1) _ h1
    exact ⟨h3, grown_trans h2 h4⟩
theorem RecT.set {α : Type} (R : RecT α) {l : List α} {j : Nat} (x : α) (h : j < l.length) : setFrom (R.cs l) (j * R.k) (R.enc x) = R.cs (l.set j x) := by
  have h2 : (j + 1) * R.k ≤ l.length * R.k := Nat.mul_le_mul_right _ h
  rw [setFrom_eq _ _ _ (by rw [R.len, R.hk]; rw [Nat.succ_mul] at h2; exact h2), R.take, R.hk, show j * R.k + R.k = (j + 1) * R.k from by rw [Nat.succ_mul], R.drop, List.set_eq_take_append_cons_drop, if_pos h, R.app]
  rfl
def RecT.At {α : Type} (R : RecT α) (w : World) (v : Value) (l : List α) : Prop := ∃ p cap, v = .slice p l.length cap ∧ l.length ≤ maxLen ∧ (0 < l.length → ∃ g off, p = some ⟨g, off, none⟩ ∧ ∀ (j : Nat) x, l[j]? = some x → w.rangeAt g (off + j * R.k) (R.enc x))
theorem rangeAt_keep {w w' : World} {g off : Nat} {cs : List Value} (h : w.rangeAt g off cs) (k : w.grownBy w' none) : w'.rangeAt g off cs := fun i u hu => k.cell (h i u hu) (by simp)
theorem RecT.At.keep {α : Type} {R : RecT α} {w w' : World} {v : Value} {l : List α} (h : R.At w v l) (k : w.grownBy w' none) : R.At w' v l := by
  obtain ⟨p, cap, e, hm, h⟩ := h
  refine ⟨p, cap, e, hm, fun h0 => ?_⟩
  obtain ⟨g, off, e2, h2⟩ := h h0
  exact ⟨g, off, e2, fun j t ht => rangeAt_keep (h2 j t ht) k⟩
theorem RecT.At.nil {α : Type} (R : RecT α) (w : World) : R.At w (.slice none 0 0) [] := ⟨none, 0, rfl, Nat.zero_le _, fun h => absurd h (Nat.lt_irrefl _)⟩
theorem RecT.At.form {α : Type} {R : RecT α} {w : World} {v : Value} {l : List α} (h : R.At w v l) : ∃ p cap, v = .slice p l.length cap := by
  obtain ⟨p, cap, e, _⟩ := h
  exact ⟨p, cap, e⟩
theorem RecT.At.there {α : Type} {R : RecT α} {w : World} {v : Value} {l : List α} (h : R.At w v l) {j : Nat} (hj : j < l.length) : ∃ g off cap, v = .slice (some ⟨g, off, none⟩) l.length cap ∧ w.rangeAt g (off + j * R.k) (R.enc l[j]) := by
  obtain ⟨p, cap, e, _, h⟩ := h
  obtain ⟨g, off, e2, h2⟩ := h (by omega)
  subst e2
  exact ⟨g, off, cap, e, h2 j _ (List.getElem?_eq_getElem hj)⟩
def RecT.Own {α : Type} (R : RecT α) (T : TypeId) (w : World) (base : Nat) (v : Value) (l : List α) : Prop := w.ownsRow base T R.k v l.length (R.cs l)
theorem own_cell {w : World} {base e size n : Nat} {v : Value} {xs : List Value} (h : w.ownsRow base e size v n xs) (h0 : 0 < n) : ∃ g cap, v = .slice (some ⟨g, 0, none⟩) n cap ∧ base ≤ g ∧ g < w.heap.size ∧ n ≤ cap ∧ cap ≤ maxLen ∧ ∀ (j : Nat), j < n * size → w.cell? ⟨g, j, none⟩ = xs[j]? ∧ w.frozen? ⟨g, j, none⟩ = false := by
  rcases h.2 with ⟨_, h1⟩ | ⟨g, cap, cur, e, hb, hh, hc, hm, hs, ht⟩
  · omega
  · refine ⟨g, cap, e, hb, block_lt hh, hc, hm, fun j hj => ⟨?_, block_free hh j⟩⟩
    rw [block_cell hh, ← ht, List.getElem?_take, if_pos hj]
    simp
theorem own_slice {w : World} {base e size n : Nat} {v : Value} {xs : List Value} (h : w.ownsRow base e size v n xs) : ∃ p cap, v = .slice p n cap ∧ n ≤ maxLen := by
  rcases h.2 with ⟨e1, h1⟩ | ⟨g, cap, cur, e1, hb, hh, hc, hm, hs, ht⟩
  · exact ⟨none, 0, by rw [e1, h1], by rw [h1]; exact Nat.zero_le _⟩
  · exact ⟨_, _, e1, Nat.le_trans hc hm⟩
theorem own_grow {w w' : World} {base e size n : Nat} {v : Value} {xs : List Value} (h : w.ownsRow base e size v n xs) (g : w.grownBy w' none) : w'.ownsRow base e size v n xs := by
  refine World.ownsRow.kept h g ?_
  cases hv : v.ownBlock with
  | none => exact Or.inl rfl
  | some x => exact Or.inr (by simp)
theorem own_big {w : World} {base base' e size n : Nat} {v : Value} {xs : List Value} (h : w.ownsRow base e size v n xs) (hb : base' ≤ base) : w.ownsRow base' e size v n xs := by
  refine ⟨h.1, ?_⟩
  rcases h.2 with h1 | ⟨g, cap, cur, e1, hg, rest⟩
  · exact Or.inl h1
  · exact Or.inr ⟨g, cap, cur, e1, Nat.le_trans hb hg, rest⟩
theorem RecT.Own.nil {α : Type} (R : RecT α) (T : TypeId) (w : World) (base : Nat) : R.Own T w base (.slice none 0 0) [] := ⟨by simp [RecT.cs], Or.inl ⟨rfl, rfl⟩⟩
theorem RecT.Own.grow {α : Type} {R : RecT α} {T : TypeId} {w w' : World} {base : Nat} {v : Value} {l : List α} (h : R.Own T w base v l) (g : w.grownBy w' none) : R.Own T w' base v l := own_grow h g
theorem RecT.Own.big {α : Type} {R : RecT α} {T : TypeId} {w : World} {base base' : Nat} {v : Value} {l : List α} (h : R.Own T w base v l) (hb : base' ≤ base) : R.Own T w base' v l := own_big h hb
theorem RecT.Own.form {α : Type} {R : RecT α} {T : TypeId} {w : World} {base : Nat} {v : Value} {l : List α} (h : R.Own T w base v l) : ∃ p c, v = .slice p l.length c := by
  obtain ⟨p, c, e, _⟩ := own_slice h
  exact ⟨p, c, e⟩
theorem RecT.Own.at {α : Type} {R : RecT α} {T : TypeId} {w : World} {base : Nat} {v : Value} {l : List α} (h : R.Own T w base v l) : R.At w v l := by
  obtain ⟨p, cap, e, hm⟩ := own_slice h
  refine ⟨p, cap, e, hm, fun h0 => ?_⟩
  obtain ⟨g, cap', e', _, _, _, _, hc⟩ := own_cell h h0
  rw [e] at e'
  cases e'
  refine ⟨g, 0, rfl, fun j t ht i u hu => ?_⟩
  have hi : i < R.k := by have := (List.getElem?_eq_some_iff.1 hu).1; rwa [R.hk] at this
  have hj := (List.getElem?_eq_some_iff.1 ht).1
  have h2 : (j + 1) * R.k ≤ l.length * R.k := Nat.mul_le_mul_right _ hj
  rw [Nat.succ_mul] at h2
  rw [Nat.zero_add, (hc (j * R.k + i) (by omega)).1, R.at' ht i hi]
  exact hu
theorem add_plain' (g o j : Nat) : (⟨g, o, none⟩ : Addr).add j = ⟨g, o + j, none⟩ := Addr.add_mid g o j
def Src (w : World) (vx : Value) (m size : Nat) (ys : List Value) : Prop := ∃ p c, vx = .slice p m c ∧ ys.length = m * size ∧ (0 < m → ∃ ad, p = some ad ∧ ∀ j u, ys[j]? = some u → w.cell? (Addr.add ad j) = some u)
theorem Src.keep {w w' : World} {vx : Value} {m size : Nat} {ys : List Value} (h : Src w vx m size ys) (k : w.grownBy w' none) : Src w' vx m size ys := by
  obtain ⟨p, c, e, hl, h⟩ := h
  refine ⟨p, c, e, hl, fun h0 => ?_⟩
  obtain ⟨ad, e2, h2⟩ := h h0
  exact ⟨ad, e2, fun j u hu => k.cell (h2 j u hu) (by simp)⟩
theorem RecT.At.src {α : Type} {R : RecT α} {w : World} {v : Value} {l : List α} (h : R.At w v l) : Src w v l.length R.k (R.cs l) := by
  obtain ⟨p, c, e, _, h⟩ := h
  refine ⟨p, c, e, R.len l, fun h0 => ?_⟩
  obtain ⟨g, off, e2, h2⟩ := h h0
  refine ⟨_, e2, fun j u hu => ?_⟩
  have hj : j < l.length * R.k := by have := (List.getElem?_eq_some_iff.1 hu).1; rwa [R.len] at this
  have hq : j / R.k < l.length := Nat.div_lt_of_lt_mul (by rw [Nat.mul_comm]; exact hj)
  have hr : j % R.k < R.k := Nat.mod_lt _ R.hp
  have e3 : j = j / R.k * R.k + j % R.k := by rw [Nat.mul_comm]; exact (Nat.div_add_mod _ _).symm
  have h4 := h2 (j / R.k) l[j / R.k] (List.getElem?_eq_getElem hq) (j % R.k) u (by
    rw [← R.at' (List.getElem?_eq_getElem hq) (j % R.k) hr, ← e3]
    exact hu)
  rw [add_plain', show off + j = off + j / R.k * R.k + j % R.k from by omega]
  exact h4
theorem lit_Src {w : World} {g e m size : Nat} {cs : Array Value} (h : w.heap[g]? = some (.cells cs e (0, 0))) (hs : cs.size = m * size) (c : Nat) : Src w (.slice (some ⟨g, 0, none⟩) m c) m size cs.toList :=
  ⟨_, c, rfl, by simp [hs], fun _ => ⟨_, rfl, fun j u hu => by rw [add_plain', Nat.zero_add, block_cell h]; simpa using hu⟩⟩
theorem RecT.more {α : Type} {R : RecT α} {T : TypeId} {w : World} {base n : Nat} {v : Value} {l : List α} {x : α} (h : w.ownsRow base T R.k v (n + 1) (R.cs l ++ R.enc x)) (hn : n = l.length) : R.Own T w base v (l ++ [x]) := by
  unfold RecT.Own
  rw [List.length_append, List.length_singleton, R.app, R.one, ← hn]
  exact h
theorem RecT.Own.set {α : Type} {R : RecT α} {T : TypeId} {w : World} {base g n cap j : Nat} {l : List α} (h : R.Own T w base (.slice (some ⟨g, 0, none⟩) n cap) l) (hn : l.length = n) (hj : j < n) (x : α) : R.Own T (w.setCells g (j * R.k) (R.enc x)) base (.slice (some ⟨g, 0, none⟩) n cap) (l.set j x) ∧ w.grownBy (w.setCells g (j * R.k) (R.enc x)) (some g) := by
  unfold RecT.Own at h ⊢
  rw [hn] at h
  obtain ⟨h1, h2⟩ := own_setCells (R.enc x) (R.cs l) (j * R.k) w h
  rw [R.set x (by omega)] at h1
  rw [List.length_set, hn]
  exact ⟨h1, h2⟩
theorem RecT.Own.there {α : Type} {R : RecT α} {T : TypeId} {w : World} {base g n cap j : Nat} {l : List α} (h : R.Own T w base (.slice (some ⟨g, 0, none⟩) n cap) l) (hn : l.length = n) (hj : j < n) : w.there g (j * R.k) R.k := by
  unfold RecT.Own at h
  rw [hn] at h
  have h2 : (j + 1) * R.k ≤ n * R.k := Nat.mul_le_mul_right _ hj
  rw [Nat.succ_mul] at h2
  intro i hi
  refine ⟨?_, World.ownsRow.frozenAt h _⟩
  rw [World.ownsRow.cellAt h (j * R.k + i) (by omega), List.getElem?_eq_getElem (by rw [R.len, hn]; omega)]
  rfl
theorem RecT.Own.lt {α : Type} {R : RecT α} {T : TypeId} {w : World} {base : Nat} {v : Value} {l : List α} (h : R.Own T w base v l) : ∀ x, v.ownBlock = some x → base ≤ x ∧ x < w.heap.size := fun x hx => World.ownsRow.lt h x hx
end Go.Proofs.YtmemeloehgemcaaGreat
namespace Go.Proofs.YtmemeloehgemcaaGreat
open Go.ChangeShapes Go.WideShapes Go.ChangeAt Go.RowKit Go.Deep

theorem Tryz.cells3' : Tryz.prog.cellsOf 3 = 1 := by kernel_rfl
theorem Tryz.cells4' : Tryz.prog.cellsOf 4 = 1 := by kernel_rfl
theorem Tryz.cells9' : Tryz.prog.cellsOf 9 = 1 := by kernel_rfl
theorem Tryz.cells88' : Tryz.prog.cellsOf 88 = 9 := by kernel_rfl
theorem Tryz.cells85' : Tryz.prog.cellsOf 85 = 1 := by kernel_rfl
theorem Tryz.cells45' : Tryz.prog.cellsOf 45 = 1 := by kernel_rfl
theorem Tryz.cells47' : Tryz.prog.cellsOf 47 = 8 := by kernel_rfl
theorem Tryz.cells43' : Tryz.prog.cellsOf 43 = 1 := by kernel_rfl
theorem Tryz.cells62' : Tryz.prog.cellsOf 62 = 1 := by kernel_rfl
theorem Tryz.cells44' : Tryz.prog.cellsOf 44 = 1 := by kernel_rfl
theorem Tryz.cells41' : Tryz.prog.cellsOf 41 = 1 := by kernel_rfl
theorem Tryz.cells40' : Tryz.prog.cellsOf 40 = 1 := by kernel_rfl
theorem Tryz.cells42' : Tryz.prog.cellsOf 42 = 1 := by kernel_rfl
theorem Tryz.cells86' : Tryz.prog.cellsOf 86 = 1 := by kernel_rfl
theorem Tryz.bytes47' : Tryz.prog.bytesOf 47 = 40 := by kernel_rfl
structure Pwf (p : Pt) : Prop where
  wn : (Lit.int .u8 p.wn).wf = true
  vb : (Lit.int .u8 p.vb).wf = true
  wm : (Lit.int .u8 p.wm).wf = true
  ct : (Lit.int .i64 p.ct).wf = true
  su : (Lit.int .u8 p.su).wf = true
  tr : (Lit.int .u8 p.tr).wf = true
  mr : (Lit.int .u8 p.mr).wf = true
  nm : p.nm.size ≤ maxLen
structure Hwf (h : Hd) : Prop where
  nm : h.nm.size ≤ maxLen
  su : (Lit.int .u8 h.su).wf = true
  kd : (Lit.int .u8 h.kd).wf = true
  co : (Lit.int .i64 h.co).wf = true
  po : (Lit.int .i64 h.po).wf = true
  he : (Lit.int .i64 h.he).wf = true
  tr : (Lit.int .u16 h.tr).wf = true
set_option maxRecDepth 100000 in
theorem part_open {H : Type} {enc : TypeId × Value → H} {w : World} {base : Nat} {sp : Nat → Bool} {held : Bool} {n : Nat} {a : Addr} {cs : List Value} {x : DataW H × List MemPlace}
    (h : w.cells? base a 8 = some cs) (ht : DataW.trod enc Tryz.prog w base sp held n 47 cs = some x) : ∃ p : Pt, Pwf p ∧ ∀ k u, (pvs p)[k]? = some u → w.cell? (a.add k) = some u := by
  obtain ⟨xs, m, _, hx, _, hn, hfl⟩ := DataW.trod_struct Tryz.underlying47 ht
  obtain ⟨_, hl, hc⟩ := World.cells?_some h
  match cs, hl, xs, hn with
  | [c0, c1, c2, c3, c4, c5, c6, c7], _, [y0, y1, y2, y3, y4, y5, y6, y7], _ =>
    have t0 : DataW.trod enc Tryz.prog w base sp held m 40 (([c0, c1, c2, c3, c4, c5, c6, c7].drop 0).take (Tryz.prog.cellsOf 40)) = some y0 := hfl 0 _ rfl
    rw [Tryz.cells40'] at t0
    change DataW.trod enc Tryz.prog w base sp held m 40 [c0] = some y0 at t0
    obtain ⟨z0, e0, hy0, w0⟩ := DataW.trod_int Tryz.underlying40 t0
    have t1 : DataW.trod enc Tryz.prog w base sp held m 41 (([c0, c1, c2, c3, c4, c5, c6, c7].drop 1).take (Tryz.prog.cellsOf 41)) = some y1 := hfl 1 _ rfl
    rw [Tryz.cells41'] at t1
    change DataW.trod enc Tryz.prog w base sp held m 41 [c1] = some y1 at t1
    obtain ⟨z1, e1, hy1, w1⟩ := DataW.trod_int Tryz.underlying41 t1
    have t2 : DataW.trod enc Tryz.prog w base sp held m 42 (([c0, c1, c2, c3, c4, c5, c6, c7].drop 2).take (Tryz.prog.cellsOf 42)) = some y2 := hfl 2 _ rfl
    rw [Tryz.cells42'] at t2
    change DataW.trod enc Tryz.prog w base sp held m 42 [c2] = some y2 at t2
    obtain ⟨z2, e2, hy2, w2⟩ := DataW.trod_int Tryz.underlying42 t2
    have t3 : DataW.trod enc Tryz.prog w base sp held m 3 (([c0, c1, c2, c3, c4, c5, c6, c7].drop 3).take (Tryz.prog.cellsOf 3)) = some y3 := hfl 3 _ rfl
    rw [Tryz.cells3'] at t3
    change DataW.trod enc Tryz.prog w base sp held m 3 [c3] = some y3 at t3
    obtain ⟨z3, e3, hy3, w3⟩ := DataW.trod_int Tryz.underlying3 t3
    have t4 : DataW.trod enc Tryz.prog w base sp held m 43 (([c0, c1, c2, c3, c4, c5, c6, c7].drop 4).take (Tryz.prog.cellsOf 43)) = some y4 := hfl 4 _ rfl
    rw [Tryz.cells43'] at t4
    change DataW.trod enc Tryz.prog w base sp held m 43 [c4] = some y4 at t4
    obtain ⟨z4, e4, hy4, w4⟩ := DataW.trod_int Tryz.underlying43 t4
    have t5 : DataW.trod enc Tryz.prog w base sp held m 44 (([c0, c1, c2, c3, c4, c5, c6, c7].drop 5).take (Tryz.prog.cellsOf 44)) = some y5 := hfl 5 _ rfl
    rw [Tryz.cells44'] at t5
    change DataW.trod enc Tryz.prog w base sp held m 44 [c5] = some y5 at t5
    obtain ⟨z5, e5, hy5, w5⟩ := DataW.trod_int Tryz.underlying44 t5
    have t6 : DataW.trod enc Tryz.prog w base sp held m 45 (([c0, c1, c2, c3, c4, c5, c6, c7].drop 6).take (Tryz.prog.cellsOf 45)) = some y6 := hfl 6 _ rfl
    rw [Tryz.cells45'] at t6
    change DataW.trod enc Tryz.prog w base sp held m 45 [c6] = some y6 at t6
    obtain ⟨z6, e6, hy6, w6⟩ := DataW.trod_int Tryz.underlying45 t6
    have t7 : DataW.trod enc Tryz.prog w base sp held m 9 (([c0, c1, c2, c3, c4, c5, c6, c7].drop 7).take (Tryz.prog.cellsOf 9)) = some y7 := hfl 7 _ rfl
    rw [Tryz.cells9'] at t7
    change DataW.trod enc Tryz.prog w base sp held m 9 [c7] = some y7 at t7
    obtain ⟨z7, e7, hy7, w7⟩ := DataW.trod_string Tryz.underlying9 t7
    simp only [List.cons.injEq, and_true] at e0 e1 e2 e3 e4 e5 e6 e7
    subst e0 e1 e2 e3 e4 e5 e6 e7
    refine ⟨⟨z0, z1, z2, z3, z4, z5, z6, z7⟩, ⟨w0, w1, w2, w3, w4, w5, w6, w7⟩, fun k u hk => ?_⟩
    have hk8 : k < 8 := (List.getElem?_eq_some_iff.1 hk).1
    have := hc k hk8
    rw [this]
    rw [← hk]
    rcases (show k = 0 ∨ k = 1 ∨ k = 2 ∨ k = 3 ∨ k = 4 ∨ k = 5 ∨ k = 6 ∨ k = 7 from by omega) with rfl | rfl | rfl | rfl | rfl | rfl | rfl | rfl <;> rfl
theorem add_add {a : Addr} (h : a = ⟨a.block, a.off, none⟩) (i j : Nat) : (a.add i).add j = a.add (i + j) := by
  rw [h, add_plain, add_plain, add_plain, Nat.add_assoc]
set_option maxRecDepth 100000 in
theorem parts_open {H : Type} {enc : TypeId × Value → H} {w : World} {base : Nat} {sp : Nat → Bool} {held : Bool} {fuel : Nat} {v : Value} {x : DataW H × List MemPlace}
    (h : DataW.trod enc Tryz.prog w base sp held fuel 86 [v] = some x) (hz : ∀ n ∈ x.1.weights Tryz.prog 86, n ≤ reachBytes) : ∃ l, PsAt w v l ∧ Fits l.length ∧ ∀ p ∈ l, Pwf p := by
  rcases open_slice Tryz.underlying86 h with ⟨hcs, _⟩ | ⟨a, len, cp, m, f, D, Pl, hcs, _, hl, hm, hmm, hxx, hx⟩
  · simp at hcs
    subst hcs
    exact ⟨[], Or.inl ⟨rfl, rfl⟩, by unfold Fits; decide, by simp⟩
  · simp at hcs
    subst hcs
    rw [Tryz.cells47'] at hx
    have hnm : len ≤ m := by rw [hmm]; split <;> omega
    have hp : ∀ i, i < len → ∃ p : Pt, Pwf p ∧ ∀ k u, (pvs p)[k]? = some u → w.cell? ((a.add (i * 8)).add k) = some u := fun i hi => by
      obtain ⟨cs', h1, h2⟩ := hx i (by omega)
      exact part_open h1 h2
    haveI : Inhabited Pt := ⟨⟨0, 0, 0, 0, 0, 0, 0, ⟨#[]⟩⟩⟩
    obtain ⟨F, hF⟩ := choose_lt (α := Pt) hp
    refine ⟨(List.range len).map F, Or.inr ⟨a, cp, by simp, by simpa using hl, fun j u hu => ?_⟩, ?_, ?_⟩
    · have hj : j < len * 8 := by
        have := (List.getElem?_eq_some_iff.1 hu).1
        rw [pcells_len] at this
        simpa using this
      have h0 : 0 < len := by omega
      have hi : j / 8 < len := by omega
      have hs : ((List.range len).map F)[j / 8]? = some (F (j / 8)) := by simp [hi]
      have hq := pcells_at _ _ _ hs (j % 8) (by omega)
      rw [show j / 8 * 8 + j % 8 = j from by omega, hu] at hq
      have c0 := (hF 0 h0).2 0 _ rfl
      have ex : (a.add (0 * 8)).add 0 = a := by simp [Addr.add]
      rw [ex] at c0
      have := (hF (j / 8) hi).2 (j % 8) u hq.symm
      rw [add_add (addr_plain c0), show j / 8 * 8 + j % 8 = j from by omega] at this
      exact this
    · have hb := hz ((len + (m - len)) * 40) (by rw [hxx]; simp [DataW.weights, Tryz.underlying86, Tryz.bytes47'])
      unfold Fits
      unfold reachBytes at hb
      simp only [List.length_map, List.length_range]
      omega
    · intro p hpm
      obtain ⟨i, hi, rfl⟩ := List.mem_map.1 hpm
      exact (hF i (List.mem_range.1 hi)).1
set_option maxRecDepth 100000 in
theorem card_cells {H : Type} {enc : TypeId × Value → H} {w : World} {base : Nat} {sp : Nat → Bool} {held : Bool} {fuel : Nat} {l : List Value} {x : DataW H × List MemPlace} (hsz : l.length = 9) (hf : DataW.trod enc Tryz.prog w base sp held fuel 88 l = some x) (hz : ∀ n ∈ x.1.weights Tryz.prog 88, n ≤ reachBytes) : ∃ (h : Hd) (u : Value) (ps : List Pt), l = cvs h u ∧ PsAt w u ps ∧ Fits ps.length ∧ Hwf h ∧ ∀ p ∈ ps, Pwf p := by
  obtain ⟨c0, c1, c2, c3, c4, c5, c6, c7, c8, rfl⟩ : ∃ c0 c1 c2 c3 c4 c5 c6 c7 c8, l = [c0, c1, c2, c3, c4, c5, c6, c7, c8] := by
    match l, hsz with
    | [c0, c1, c2, c3, c4, c5, c6, c7, c8], _ => exact ⟨c0, c1, c2, c3, c4, c5, c6, c7, c8, rfl⟩
  obtain ⟨xs, n, _, hx, _, hlen, hfl⟩ := DataW.trod_struct Tryz.underlying88 hf
  match xs, hlen with
  | [y0, y1, y2, y3, y4, y5, y6, y7, y8], _ =>
    have t0 : DataW.trod enc Tryz.prog w base sp held n 9 (([c0, c1, c2, c3, c4, c5, c6, c7, c8].drop 0).take (Tryz.prog.cellsOf 9)) = some y0 := hfl 0 _ rfl
    rw [Tryz.cells9'] at t0
    change DataW.trod enc Tryz.prog w base sp held n 9 [c0] = some y0 at t0
    obtain ⟨z0, e0, hy0, w0⟩ := DataW.trod_string Tryz.underlying9 t0
    have t1 : DataW.trod enc Tryz.prog w base sp held n 43 (([c0, c1, c2, c3, c4, c5, c6, c7, c8].drop 1).take (Tryz.prog.cellsOf 43)) = some y1 := hfl 1 _ rfl
    rw [Tryz.cells43'] at t1
    change DataW.trod enc Tryz.prog w base sp held n 43 [c1] = some y1 at t1
    obtain ⟨z1, e1, hy1, w1⟩ := DataW.trod_int Tryz.underlying43 t1
    have t2 : DataW.trod enc Tryz.prog w base sp held n 85 (([c0, c1, c2, c3, c4, c5, c6, c7, c8].drop 2).take (Tryz.prog.cellsOf 85)) = some y2 := hfl 2 _ rfl
    rw [Tryz.cells85'] at t2
    change DataW.trod enc Tryz.prog w base sp held n 85 [c2] = some y2 at t2
    obtain ⟨z2, e2, hy2, w2⟩ := DataW.trod_int Tryz.underlying85 t2
    have t3 : DataW.trod enc Tryz.prog w base sp held n 3 (([c0, c1, c2, c3, c4, c5, c6, c7, c8].drop 3).take (Tryz.prog.cellsOf 3)) = some y3 := hfl 3 _ rfl
    rw [Tryz.cells3'] at t3
    change DataW.trod enc Tryz.prog w base sp held n 3 [c3] = some y3 at t3
    obtain ⟨z3, e3, hy3, w3⟩ := DataW.trod_int Tryz.underlying3 t3
    have t4 : DataW.trod enc Tryz.prog w base sp held n 3 (([c0, c1, c2, c3, c4, c5, c6, c7, c8].drop 4).take (Tryz.prog.cellsOf 3)) = some y4 := hfl 4 _ rfl
    rw [Tryz.cells3'] at t4
    change DataW.trod enc Tryz.prog w base sp held n 3 [c4] = some y4 at t4
    obtain ⟨z4, e4, hy4, w4⟩ := DataW.trod_int Tryz.underlying3 t4
    have t5 : DataW.trod enc Tryz.prog w base sp held n 3 (([c0, c1, c2, c3, c4, c5, c6, c7, c8].drop 5).take (Tryz.prog.cellsOf 3)) = some y5 := hfl 5 _ rfl
    rw [Tryz.cells3'] at t5
    change DataW.trod enc Tryz.prog w base sp held n 3 [c5] = some y5 at t5
    obtain ⟨z5, e5, hy5, w5⟩ := DataW.trod_int Tryz.underlying3 t5
    have t6 : DataW.trod enc Tryz.prog w base sp held n 62 (([c0, c1, c2, c3, c4, c5, c6, c7, c8].drop 6).take (Tryz.prog.cellsOf 62)) = some y6 := hfl 6 _ rfl
    rw [Tryz.cells62'] at t6
    change DataW.trod enc Tryz.prog w base sp held n 62 [c6] = some y6 at t6
    obtain ⟨z6, e6, hy6, w6⟩ := DataW.trod_int Tryz.underlying62 t6
    have t7 : DataW.trod enc Tryz.prog w base sp held n 4 (([c0, c1, c2, c3, c4, c5, c6, c7, c8].drop 7).take (Tryz.prog.cellsOf 4)) = some y7 := hfl 7 _ rfl
    rw [Tryz.cells4'] at t7
    change DataW.trod enc Tryz.prog w base sp held n 4 [c7] = some y7 at t7
    obtain ⟨z7, e7, hy7⟩ := DataW.trod_bool Tryz.underlying4 t7
    have t8 : DataW.trod enc Tryz.prog w base sp held n 86 (([c0, c1, c2, c3, c4, c5, c6, c7, c8].drop 8).take (Tryz.prog.cellsOf 86)) = some y8 := hfl 8 _ rfl
    rw [Tryz.cells86'] at t8
    change DataW.trod enc Tryz.prog w base sp held n 86 [c8] = some y8 at t8
    simp only [List.cons.injEq, and_true] at e0 e1 e2 e3 e4 e5 e6 e7
    subst e0 e1 e2 e3 e4 e5 e6 e7
    obtain ⟨L, h1, h2, h3⟩ := parts_open t8 (fun n hn => hz n (by
      rw [hx]
      simp only [DataW.weights, Tryz.underlying88]
      exact DataW.weights_mem_each (j := 8) rfl rfl n hn))
    exact ⟨⟨z0, z1, z2, z3, z4, z5, z6, z7⟩, c8, L, rfl, h1, h2, ⟨w0, w1, w2, w3, w4, w5, w6⟩, h3⟩
end Go.Proofs.YtmemeloehgemcaaGreat
namespace Go.Proofs.YtmemeloehgemcaaGreat
open Go.RowKit

set_option maxHeartbeats 1000000 in
theorem copy_any (v : Value) (ps : List Pt) (w : World) (h : PsAt w v ps) (hb : ps.length * 40 ≤ 140737488355328) : Calls Tryz.prog 84 #[v] w fun e w' => ∃ u, e = .returned u ∧ POwn w' w.heap.size u ps ∧ w.grownBy w' none := by
  obtain ⟨i0, hi, hz0, hz1, hz2⟩ := info_of Tryz.info47
  go_enter Tryz.func84, Tryz.ntmps84
  rcases h with ⟨rfl, rfl⟩ | ⟨ad, cap, rfl, hc, h⟩
  · go_wp2
    go_ret
    exact ⟨_, rfl, POwn.nil _ _, grown_refl _ _⟩
  · go_wp2_with (at_builtin; refine wpList_append_own_at _ rfl _ _ 86 rfl w.heap.size 47 i0 _ 8 40 Tryz.underlying86 hi hz0 hz1 hz2 rfl (by decide) _ 0 [] rfl (POwn.nil w _) ad ps.length cap (pcells ps) rfl (pcells_len ps) h (pcells_one ps) (by unfold maxLen; omega) (by rw [Nat.zero_add]; exact hb) (Nat.le_refl _) ?_; intro v1 w1 o1 g1 _ _)
    go_ret
    refine ⟨_, rfl, ?_, g1⟩
    simpa [POwn] using o1
end Go.Proofs.YtmemeloehgemcaaGreat
namespace Go.Proofs.YtmemeloehgemcaaGreat
open Go.RowKit

end Go.Proofs.YtmemeloehgemcaaGreat
namespace Go.Proofs.YtmemeloehgemcaaGreat
open Go.RowKit

end Go.Proofs.YtmemeloehgemcaaGreat
