/-
  Zones, plainly: things, decks, hands, the next stamp; when they are sound; a thing comes to a place; each call keeps them sound.
  A card that was handed in, read as data: its fields, and where its parts lie.
-/
import Derived.WalkKit
import Derived.Test.YtogpgldbbegniaaM13
import Derived.ProofKit
import Derived.OpenShut
import Derived.ChangeOld
import Derived.Deep.Slices
import Derived.SizedLaws
namespace Go.Proofs.Ytogpgldbbegniaa

/-- A thing. -/
structure Th where
  card : Int
  owner : Int
  place : Int
  stamp : Int
  hurt : Int
  m0 : Int
  m1 : Int
  m2 : Int
  m3 : Int
  done : Int
  fresh : Bool

/-- A thing at home, in a place. -/
def Th.home (t : Th) (tp : Int) : Th := ⟨t.card, t.owner, tp, 0, 0, 0, 0, 0, 0, 0, false⟩
/-- A thing that has come to the table. -/
def Th.tabled (t : Th) (nx : Int) : Th := ⟨t.card, t.owner, 4, nx, 0, 0, 0, 0, 0, 0, true⟩
def Th.off (t : Th) : Prop := t = t.home t.place
def Th.marked (t : Th) : Prop := (0 ≤ t.m0 ∧ t.m0 ≤ 99) ∧ (0 ≤ t.m1 ∧ t.m1 ≤ 99) ∧ (0 ≤ t.m2 ∧ t.m2 ≤ 99) ∧ (0 ≤ t.m3 ∧ t.m3 ≤ 99)
/-- May a thing be, by itself? -/
def Th.alone (t : Th) (nx : Int) : Prop := 1 ≤ t.card ∧ (t.owner = 0 ∨ t.owner = 1) ∧ (1 ≤ t.place ∧ t.place ≤ 5) ∧ (t.place ≠ 4 → t.off) ∧ (t.place = 4 → 1 ≤ t.stamp ∧ t.stamp < nx ∧ 0 ≤ t.hurt ∧ 0 ≤ t.done ∧ t.marked)
def Th.none : Th := ⟨0, 0, 0, 0, 0, 0, 0, 0, 0, 0, false⟩
def thAt (ts : List Th) (n : Int) : Th := ts.getD (n - 1).toNat Th.none
/-- Is there a thing of that number? -/
def there (ts : List Th) (n : Int) : Prop := 1 ≤ n ∧ n ≤ (ts.length : Int)
/-- Is n an owner's thing in a place? -/
def inn (ts : List Th) (p pl n : Int) : Prop := there ts n ∧ (thAt ts n).owner = p ∧ (thAt ts n).place = pl
def Holds (ts : List Th) (l : List Int) (p pl : Int) : Prop := l.Nodup ∧ ∀ n, n ∈ l ↔ inn ts p pl n
def onTab (p : Int) (t : Th) : Bool := decide (t.owner = p) && decide (t.place = 4)
def owned (ts : List Th) (p : Int) : Nat := ts.countP (onTab p)
structure Zs where
  ts : List Th
  dk : Int → List Int
  hd : Int → List Int
  nx : Int
structure Zs.Sound (z : Zs) : Prop where
  few : z.ts.length ≤ 2048
  nx1 : 1 ≤ z.nx
  nx2 : z.nx ≤ 1099511627776
  each : ∀ t ∈ z.ts, t.alone z.nx
  tab : ∀ p, p = 0 ∨ p = 1 → owned z.ts p ≤ 8
  hand : ∀ p, p = 0 ∨ p = 1 → (z.hd p).length ≤ 10
  dks : ∀ p, p = 0 ∨ p = 1 → Holds z.ts (z.dk p) p 1
  hds : ∀ p, p = 0 ∨ p = 1 → Holds z.ts (z.hd p) p 2
  stamps : ∀ n m, there z.ts n → there z.ts m → (thAt z.ts n).place = 4 → (thAt z.ts m).place = 4 → (thAt z.ts n).stamp = (thAt z.ts m).stamp → n = m

theorem there_at {ts : List Th} {n : Int} (h : there ts n) : ts[(n - 1).toNat]? = some (thAt ts n) := by
  have : (n - 1).toNat < ts.length := by unfold there at h; omega
  unfold thAt
  rw [List.getD_eq_getElem?_getD, List.getElem?_eq_getElem this]
  rfl
theorem there_mem {ts : List Th} {n : Int} (h : there ts n) : thAt ts n ∈ ts := List.mem_of_getElem? (there_at h)
theorem there_set {ts : List Th} {n : Int} (i : Nat) (t : Th) : there (ts.set i t) n ↔ there ts n := by unfold there; rw [List.length_set]
theorem thAt_set {ts : List Th} {n m : Int} (hn : there ts n) (hm : there ts m) (t : Th) : thAt (ts.set (n - 1).toNat t) m = if m = n then t else thAt ts m := by
  have h1 : (n - 1).toNat < ts.length := by unfold there at hn; omega
  unfold thAt
  rw [List.getD_eq_getElem?_getD, List.getElem?_set]
  unfold there at hn hm
  by_cases e : m = n
  · subst e
    rw [if_pos rfl, if_pos h1, if_pos rfl]
    rfl
  · rw [if_neg (by omega), if_neg e, List.getD_eq_getElem?_getD]
theorem alone_mono {t : Th} {a b : Int} (h : t.alone a) (hab : a ≤ b) : t.alone b := ⟨h.1, h.2.1, h.2.2.1, h.2.2.2.1, fun q => by
  obtain ⟨q1, q2, q3⟩ := h.2.2.2.2 q
  exact ⟨q1, by omega, q3⟩⟩
theorem alone_home {t : Th} {nx tp : Int} (h : t.alone nx) (h1 : 1 ≤ tp) (h2 : tp ≤ 5) (h4 : tp ≠ 4) : (t.home tp).alone nx := ⟨h.1, h.2.1, ⟨h1, h2⟩, fun _ => rfl, fun q => absurd q h4⟩
theorem alone_tabled {t : Th} {nx : Int} (h : t.alone nx) (hn : 1 ≤ nx) : (t.tabled nx).alone (nx + 1) := ⟨h.1, h.2.1, ⟨by show (1 : Int) ≤ 4; decide, by show (4 : Int) ≤ 5; decide⟩, fun q => absurd rfl q, fun _ => ⟨hn, by show nx < nx + 1; omega, Int.le_refl _, Int.le_refl _, ⟨⟨Int.le_refl _, by show (0 : Int) ≤ 99; decide⟩, ⟨Int.le_refl _, by show (0 : Int) ≤ 99; decide⟩, ⟨Int.le_refl _, by show (0 : Int) ≤ 99; decide⟩, ⟨Int.le_refl _, by show (0 : Int) ≤ 99; decide⟩⟩⟩⟩
theorem cntP_set {α : Type} (P : α → Bool) : ∀ (l : List α) (i : Nat) (y x : α), l[i]? = some y → (l.set i x).countP P + (if P y = true then 1 else 0) = l.countP P + (if P x = true then 1 else 0)
  | [], i, y, x, h => by simp at h
  | z :: l, 0, y, x, h => by
    simp at h
    subst h
    rw [List.set_cons_zero, List.countP_cons, List.countP_cons]
    omega
  | z :: l, i + 1, y, x, h => by
    have := cntP_set P l i y x (by simpa using h)
    rw [List.set_cons_succ, List.countP_cons, List.countP_cons]
    omega
theorem owned_set {ts : List Th} {n : Int} (hn : there ts n) (t : Th) (p : Int) : owned (ts.set (n - 1).toNat t) p + (if onTab p (thAt ts n) = true then 1 else 0) = owned ts p + (if onTab p t = true then 1 else 0) := cntP_set _ _ _ _ _ (there_at hn)
/-- A thing comes to a place. -/
def Zs.come (z : Zs) (n tp : Int) : Zs where
  ts := z.ts.set (n - 1).toNat (if tp = 4 then (thAt z.ts n).tabled z.nx else (thAt z.ts n).home tp)
  dk := fun p => if p = (thAt z.ts n).owner then (z.dk p).filter (· != n) ++ (if tp = 1 then [n] else []) else z.dk p
  hd := fun p => if p = (thAt z.ts n).owner then (z.hd p).filter (· != n) ++ (if tp = 2 then [n] else []) else z.hd p
  nx := if tp = 4 then z.nx + 1 else z.nx
/-- What it is then. -/
def Zs.coming (z : Zs) (n tp : Int) : Th := if tp = 4 then (thAt z.ts n).tabled z.nx else (thAt z.ts n).home tp
theorem coming_owner (z : Zs) (n tp : Int) : (z.coming n tp).owner = (thAt z.ts n).owner := by unfold Zs.coming; split <;> rfl
theorem coming_place (z : Zs) (n tp : Int) : (z.coming n tp).place = tp := by
  unfold Zs.coming
  split
  · next h => exact h.symm
  · rfl
theorem come_at {z : Zs} {n m : Int} (tp : Int) (hn : there z.ts n) (hm : there z.ts m) : thAt (z.come n tp).ts m = if m = n then z.coming n tp else thAt z.ts m := thAt_set hn hm _
theorem come_there {z : Zs} {n m tp : Int} : there (z.come n tp).ts m ↔ there z.ts m := there_set _ _
theorem inn_come {z : Zs} {n tp : Int} (hn : there z.ts n) (p pl m : Int) : inn (z.come n tp).ts p pl m ↔ there z.ts m ∧ (if m = n then (thAt z.ts n).owner = p ∧ tp = pl else (thAt z.ts m).owner = p ∧ (thAt z.ts m).place = pl) := by
  unfold inn
  rw [come_there]
  constructor
  · rintro ⟨h1, h2, h3⟩
    rw [come_at tp hn h1] at h2 h3
    refine ⟨h1, ?_⟩
    split
    · next e => rw [if_pos e] at h2 h3; rw [coming_owner] at h2; rw [coming_place] at h3; exact ⟨h2, h3⟩
    · next e => rw [if_neg e] at h2 h3; exact ⟨h2, h3⟩
  · rintro ⟨h1, h2⟩
    rw [come_at tp hn h1]
    refine ⟨h1, ?_⟩
    split
    · next e => rw [if_pos e] at h2; rw [coming_owner, coming_place]; exact h2
    · next e => rw [if_neg e] at h2; exact h2
theorem holds_come {z : Zs} {n tp : Int} (hn : there z.ts n) (p pl : Int) (l : List Int) (h : Holds z.ts l p pl) : Holds (z.come n tp).ts (if p = (thAt z.ts n).owner then l.filter (· != n) ++ (if tp = pl then [n] else []) else l) p pl := by
  by_cases hp : p = (thAt z.ts n).owner
  · rw [if_pos hp]
    constructor
    · refine List.nodup_append.2 ⟨h.1.filter _, by split <;> simp, ?_⟩
      intro a ha b hb
      split at hb
      · simp at hb ha
        omega
      · simp at hb
    · intro m
      rw [inn_come hn, List.mem_append, List.mem_filter, h.2]
      by_cases e : m = n
      · subst e
        rw [if_pos rfl]
        by_cases e2 : tp = pl
        · simp [e2, hn, hp]
        · simp [e2]
      · rw [if_neg e]
        unfold inn
        have : ¬ m ∈ (if tp = pl then [n] else []) := by split <;> simp [e]
        simp [this, e]
  · rw [if_neg hp]
    refine ⟨h.1, fun m => ?_⟩
    rw [inn_come hn, h.2]
    unfold inn
    by_cases e : m = n
    · subst e
      rw [if_pos rfl]
      constructor
      · rintro ⟨_, h1, _⟩
        exact absurd h1.symm hp
      · rintro ⟨_, h1, _⟩
        exact absurd h1.symm hp
    · rw [if_neg e]
theorem filter_lt {l : List Int} {n : Int} (h : n ∈ l) : (l.filter (· != n)).length < l.length := by
  refine Nat.lt_of_le_of_ne (List.length_filter_le _ _) (fun e => ?_)
  have := (List.length_filter_eq_length_iff.1 e) n h
  simp at this
theorem onTab_iff {p : Int} {t : Th} : onTab p t = true ↔ t.owner = p ∧ t.place = 4 := by unfold onTab; simp
/-- What lets a thing come to a place. -/
structure Zs.May (z : Zs) (n tp : Int) : Prop where
  at_ : there z.ts n
  lo : 1 ≤ tp
  hi : tp ≤ 5
  hand : tp = 2 → (thAt z.ts n).place ≠ 2 → (z.hd (thAt z.ts n).owner).length < 10
  tab : tp = 4 → (thAt z.ts n).place ≠ 4 → owned z.ts (thAt z.ts n).owner < 8
  nx : tp = 4 → z.nx < 1099511627776
theorem Zs.Sound.own {z : Zs} (S : z.Sound) {n : Int} (h : there z.ts n) : (thAt z.ts n).owner = 0 ∨ (thAt z.ts n).owner = 1 := (S.each _ (there_mem h)).2.1
theorem Zs.Sound.come {z : Zs} (S : z.Sound) {n tp : Int} (M : z.May n tp) : (z.come n tp).Sound := by
  have hn := M.at_
  have A := S.each _ (there_mem hn)
  have hown := S.own hn
  constructor
  · show (z.ts.set _ _).length ≤ _
    rw [List.length_set]
    exact S.few
  · show 1 ≤ (if tp = 4 then z.nx + 1 else z.nx)
    have := S.nx1
    split <;> omega
  · show (if tp = 4 then z.nx + 1 else z.nx) ≤ _
    have h1 := S.nx2
    split
    · next e => have := M.nx e; omega
    · exact h1
  · intro t ht
    show t.alone (if tp = 4 then z.nx + 1 else z.nx)
    rcases List.mem_or_eq_of_mem_set ht with h | h
    · refine alone_mono (S.each t h) ?_
      split <;> omega
    · rw [h]
      split
      · exact alone_tabled A S.nx1
      · next e => exact alone_home A M.lo M.hi e
  · intro p hp
    have e := owned_set hn (z.coming n tp) p
    have h8 := S.tab p hp
    show owned (z.ts.set _ (z.coming n tp)) p ≤ 8
    by_cases h4 : tp = 4
    · by_cases ho : (thAt z.ts n).owner = p
      · by_cases hq : (thAt z.ts n).place = 4
        · rw [if_pos (onTab_iff.2 ⟨ho, hq⟩)] at e
          split at e <;> omega
        · have := M.tab h4 hq
          rw [ho] at this
          split at e <;> split at e <;> omega
      · rw [if_neg (c := onTab p (z.coming n tp) = true) (fun q => ho (by rw [← coming_owner z n tp]; exact (onTab_iff.1 q).1))] at e
        omega
    · rw [if_neg (c := onTab p (z.coming n tp) = true) (fun q => h4 (by rw [← coming_place z n tp]; exact (onTab_iff.1 q).2))] at e
      omega
  · intro p hp
    show (if p = (thAt z.ts n).owner then (z.hd p).filter (· != n) ++ (if tp = 2 then [n] else []) else z.hd p).length ≤ 10
    have h10 := S.hand p hp
    split
    · next e =>
      rw [List.length_append]
      have hf := List.length_filter_le (fun x => x != n) (z.hd p)
      by_cases h2 : tp = 2
      · rw [if_pos h2]
        by_cases hq : (thAt z.ts n).place = 2
        · have := filter_lt (((S.hds p hp).2 n).2 ⟨hn, e.symm, hq⟩)
          simp only [List.length_singleton]
          omega
        · have := M.hand h2 hq
          rw [← e] at this
          simp only [List.length_singleton]
          omega
      · rw [if_neg h2]
        simp only [List.length_nil]
        omega
    · exact h10
  · intro p hp
    exact holds_come hn p 1 _ (S.dks p hp)
  · intro p hp
    exact holds_come hn p 2 _ (S.hds p hp)
  · intro a b ha hb pa pb hs
    rw [come_there] at ha hb
    rw [come_at tp hn ha] at pa hs
    rw [come_at tp hn hb] at pb hs
    by_cases ea : a = n
    · by_cases eb : b = n
      · rw [ea, eb]
      · rw [if_pos ea] at pa hs
        rw [if_neg eb] at pb hs
        rw [coming_place] at pa
        have h1 := ((S.each _ (there_mem hb)).2.2.2.2 pb).2.1
        rw [← hs] at h1
        unfold Zs.coming at h1
        rw [if_pos pa] at h1
        exact absurd h1 (Int.lt_irrefl _)
    · rw [if_neg ea] at pa hs
      by_cases eb : b = n
      · rw [if_pos eb] at pb hs
        rw [coming_place] at pb
        have h1 := ((S.each _ (there_mem ha)).2.2.2.2 pa).2.1
        rw [hs] at h1
        unfold Zs.coming at h1
        rw [if_pos pb] at h1
        exact absurd h1 (Int.lt_irrefl _)
      · rw [if_neg eb] at pb hs
        exact S.stamps a b ha hb pa pb hs
end Go.Proofs.Ytogpgldbbegniaa
namespace Go.Proofs.Ytogpgldbbegniaa
open Go.ChangeShapes Go.WideShapes Go.ChangeAt Go.RowKit Go.Deep

theorem Try.cells3' : Try.prog.cellsOf 3 = 1 := by kernel_rfl
theorem Try.cells4' : Try.prog.cellsOf 4 = 1 := by kernel_rfl
theorem Try.cells9' : Try.prog.cellsOf 9 = 1 := by kernel_rfl
theorem Try.cells69' : Try.prog.cellsOf 69 = 9 := by kernel_rfl
theorem Try.cells66' : Try.prog.cellsOf 66 = 1 := by kernel_rfl
theorem Try.cells72' : Try.prog.cellsOf 72 = 1 := by kernel_rfl
theorem Try.cells121' : Try.prog.cellsOf 121 = 8 := by kernel_rfl
theorem Try.cells49' : Try.prog.cellsOf 49 = 1 := by kernel_rfl
theorem Try.cells51' : Try.prog.cellsOf 51 = 1 := by kernel_rfl
theorem Try.cells119' : Try.prog.cellsOf 119 = 1 := by kernel_rfl
theorem Try.cells117' : Try.prog.cellsOf 117 = 1 := by kernel_rfl
theorem Try.cells85' : Try.prog.cellsOf 85 = 1 := by kernel_rfl
theorem Try.cells118' : Try.prog.cellsOf 118 = 1 := by kernel_rfl
theorem Try.cells67' : Try.prog.cellsOf 67 = 1 := by kernel_rfl
theorem Try.bytes121' : Try.prog.bytesOf 121 = 40 := by kernel_rfl
/-- Each field is a number of its type. -/
structure Pwf (p : Pt) : Prop where
  wn : (Lit.int .u8 p.wn).wf = true
  vb : (Lit.int .u8 p.vb).wf = true
  wm : (Lit.int .u8 p.wm).wf = true
  ct : (Lit.int .i64 p.ct).wf = true
  su : (Lit.int .u8 p.su).wf = true
  tr : (Lit.int .u8 p.tr).wf = true
  mr : (Lit.int .u8 p.mr).wf = true
  nm : p.nm.size ≤ maxLen
structure Hwf (h : Hd) : Prop where
  nm : h.nm.size ≤ maxLen
  su : (Lit.int .u8 h.su).wf = true
  kd : (Lit.int .u8 h.kd).wf = true
  co : (Lit.int .i64 h.co).wf = true
  po : (Lit.int .i64 h.po).wf = true
  he : (Lit.int .i64 h.he).wf = true
  tr : (Lit.int .u16 h.tr).wf = true
set_option maxRecDepth 100000 in
/-- One part, read as data: eight cells. -/
theorem part_open {H : Type} {enc : TypeId × Value → H} {w : World} {base : Nat} {sp : Nat → Bool} {held : Bool} {n : Nat} {a : Addr} {cs : List Value} {x : DataW H × List MemPlace}
    (h : w.cells? base a 8 = some cs) (ht : DataW.trod enc Try.prog w base sp held n 121 cs = some x) : ∃ p : Pt, Pwf p ∧ ∀ k u, (pvs p)[k]? = some u → w.cell? (a.add k) = some u := by
  obtain ⟨xs, m, _, hx, _, hn, hfl⟩ := DataW.trod_struct Try.underlying121 ht
  obtain ⟨_, hl, hc⟩ := World.cells?_some h
  match cs, hl, xs, hn with
  | [c0, c1, c2, c3, c4, c5, c6, c7], _, [y0, y1, y2, y3, y4, y5, y6, y7], _ =>
    have t0 : DataW.trod enc Try.prog w base sp held m 85 (([c0, c1, c2, c3, c4, c5, c6, c7].drop 0).take (Try.prog.cellsOf 85)) = some y0 := hfl 0 _ rfl
    rw [Try.cells85'] at t0
    change DataW.trod enc Try.prog w base sp held m 85 [c0] = some y0 at t0
    obtain ⟨z0, e0, hy0, w0⟩ := DataW.trod_int Try.underlying85 t0
    have t1 : DataW.trod enc Try.prog w base sp held m 117 (([c0, c1, c2, c3, c4, c5, c6, c7].drop 1).take (Try.prog.cellsOf 117)) = some y1 := hfl 1 _ rfl
    rw [Try.cells117'] at t1
    change DataW.trod enc Try.prog w base sp held m 117 [c1] = some y1 at t1
    obtain ⟨z1, e1, hy1, w1⟩ := DataW.trod_int Try.underlying117 t1
    have t2 : DataW.trod enc Try.prog w base sp held m 118 (([c0, c1, c2, c3, c4, c5, c6, c7].drop 2).take (Try.prog.cellsOf 118)) = some y2 := hfl 2 _ rfl
    rw [Try.cells118'] at t2
    change DataW.trod enc Try.prog w base sp held m 118 [c2] = some y2 at t2
    obtain ⟨z2, e2, hy2, w2⟩ := DataW.trod_int Try.underlying118 t2
    have t3 : DataW.trod enc Try.prog w base sp held m 3 (([c0, c1, c2, c3, c4, c5, c6, c7].drop 3).take (Try.prog.cellsOf 3)) = some y3 := hfl 3 _ rfl
    rw [Try.cells3'] at t3
    change DataW.trod enc Try.prog w base sp held m 3 [c3] = some y3 at t3
    obtain ⟨z3, e3, hy3, w3⟩ := DataW.trod_int Try.underlying3 t3
    have t4 : DataW.trod enc Try.prog w base sp held m 49 (([c0, c1, c2, c3, c4, c5, c6, c7].drop 4).take (Try.prog.cellsOf 49)) = some y4 := hfl 4 _ rfl
    rw [Try.cells49'] at t4
    change DataW.trod enc Try.prog w base sp held m 49 [c4] = some y4 at t4
    obtain ⟨z4, e4, hy4, w4⟩ := DataW.trod_int Try.underlying49 t4
    have t5 : DataW.trod enc Try.prog w base sp held m 119 (([c0, c1, c2, c3, c4, c5, c6, c7].drop 5).take (Try.prog.cellsOf 119)) = some y5 := hfl 5 _ rfl
    rw [Try.cells119'] at t5
    change DataW.trod enc Try.prog w base sp held m 119 [c5] = some y5 at t5
    obtain ⟨z5, e5, hy5, w5⟩ := DataW.trod_int Try.underlying119 t5
    have t6 : DataW.trod enc Try.prog w base sp held m 72 (([c0, c1, c2, c3, c4, c5, c6, c7].drop 6).take (Try.prog.cellsOf 72)) = some y6 := hfl 6 _ rfl
    rw [Try.cells72'] at t6
    change DataW.trod enc Try.prog w base sp held m 72 [c6] = some y6 at t6
    obtain ⟨z6, e6, hy6, w6⟩ := DataW.trod_int Try.underlying72 t6
    have t7 : DataW.trod enc Try.prog w base sp held m 9 (([c0, c1, c2, c3, c4, c5, c6, c7].drop 7).take (Try.prog.cellsOf 9)) = some y7 := hfl 7 _ rfl
    rw [Try.cells9'] at t7
    change DataW.trod enc Try.prog w base sp held m 9 [c7] = some y7 at t7
    obtain ⟨z7, e7, hy7, w7⟩ := DataW.trod_string Try.underlying9 t7
    simp only [List.cons.injEq, and_true] at e0 e1 e2 e3 e4 e5 e6 e7
    subst e0 e1 e2 e3 e4 e5 e6 e7
    refine ⟨⟨z0, z1, z2, z3, z4, z5, z6, z7⟩, ⟨w0, w1, w2, w3, w4, w5, w6, w7⟩, fun k u hk => ?_⟩
    have hk8 : k < 8 := (List.getElem?_eq_some_iff.1 hk).1
    have := hc k hk8
    rw [this]
    rw [← hk]
    rcases (show k = 0 ∨ k = 1 ∨ k = 2 ∨ k = 3 ∨ k = 4 ∨ k = 5 ∨ k = 6 ∨ k = 7 from by omega) with rfl | rfl | rfl | rfl | rfl | rfl | rfl | rfl <;> rfl
theorem add_add {a : Addr} (h : a = ⟨a.block, a.off, none⟩) (i j : Nat) : (a.add i).add j = a.add (i + j) := by
  rw [h, add_plain, add_plain, add_plain, Nat.add_assoc]
theorem range_pick (A : Nat → Pt) (n j : Nat) (p : Pt) (h : ((List.range n).map A)[j]? = some p) : j < n ∧ p = A j := by
  have hj := (List.getElem?_eq_some_iff.1 h).1
  simp at hj
  simp [hj] at h
  exact ⟨hj, h.symm⟩
set_option maxRecDepth 100000 in
/-- A list of parts, read as data. -/
theorem parts_open {H : Type} {enc : TypeId × Value → H} {w : World} {base : Nat} {sp : Nat → Bool} {held : Bool} {fuel : Nat} {v : Value} {x : DataW H × List MemPlace}
    (h : DataW.trod enc Try.prog w base sp held fuel 67 [v] = some x) (hz : ∀ n ∈ x.1.weights Try.prog 67, n ≤ reachBytes) : ∃ l, PsAt w v l ∧ Fits l.length ∧ ∀ p ∈ l, Pwf p := by
  rcases open_slice Try.underlying67 h with ⟨hcs, _⟩ | ⟨a, len, cp, m, f, D, Pl, hcs, _, hl, hm, hmm, hxx, hx⟩
  · simp at hcs
    subst hcs
    exact ⟨[], Or.inl ⟨rfl, rfl⟩, by unfold Fits; decide, by simp⟩
  · simp at hcs
    subst hcs
    rw [Try.cells121'] at hx
    have hnm : len ≤ m := by rw [hmm]; split <;> omega
    have hp : ∀ i, i < len → ∃ p : Pt, Pwf p ∧ ∀ k u, (pvs p)[k]? = some u → w.cell? ((a.add (i * 8)).add k) = some u := fun i hi => by
      obtain ⟨cs', h1, h2⟩ := hx i (by omega)
      exact part_open h1 h2
    haveI : Inhabited Pt := ⟨⟨0, 0, 0, 0, 0, 0, 0, ⟨#[]⟩⟩⟩
    obtain ⟨F, hF⟩ := choose_lt (α := Pt) hp
    refine ⟨(List.range len).map F, Or.inr ⟨a, cp, by simp, by simpa using hl, fun j u hu => ?_⟩, ?_, ?_⟩
    · have hj : j < len * 8 := by
        have := (List.getElem?_eq_some_iff.1 hu).1
        rw [pcells_len] at this
        simpa using this
      have h0 : 0 < len := by omega
      have hi : j / 8 < len := by omega
      have hs : ((List.range len).map F)[j / 8]? = some (F (j / 8)) := by simp [hi]
      have hq := pcells_at _ _ _ hs (j % 8) (by omega)
      rw [show j / 8 * 8 + j % 8 = j from by omega, hu] at hq
      have c0 := (hF 0 h0).2 0 _ rfl
      have ex : (a.add (0 * 8)).add 0 = a := by simp [Addr.add]
      rw [ex] at c0
      have := (hF (j / 8) hi).2 (j % 8) u hq.symm
      rw [add_add (addr_plain c0), show j / 8 * 8 + j % 8 = j from by omega] at this
      exact this
    · have hb := hz ((len + (m - len)) * 40) (by rw [hxx]; simp [DataW.weights, Try.underlying67, Try.bytes121'])
      unfold Fits
      unfold reachBytes at hb
      simp only [List.length_map, List.length_range]
      omega
    · intro p hpm
      obtain ⟨i, hi, rfl⟩ := List.mem_map.1 hpm
      exact (hF i (List.mem_range.1 hi)).1
set_option maxRecDepth 100000 in
/-- The nine cells of a card, read as data. -/
theorem card_cells {H : Type} {enc : TypeId × Value → H} {w : World} {base : Nat} {sp : Nat → Bool} {held : Bool} {fuel : Nat} {l : List Value} {x : DataW H × List MemPlace} (hsz : l.length = 9) (hf : DataW.trod enc Try.prog w base sp held fuel 69 l = some x) (hz : ∀ n ∈ x.1.weights Try.prog 69, n ≤ reachBytes) : ∃ (h : Hd) (u : Value) (ps : List Pt), l = cvs h u ∧ PsAt w u ps ∧ Fits ps.length ∧ Hwf h ∧ ∀ p ∈ ps, Pwf p := by
  obtain ⟨c0, c1, c2, c3, c4, c5, c6, c7, c8, rfl⟩ : ∃ c0 c1 c2 c3 c4 c5 c6 c7 c8, l = [c0, c1, c2, c3, c4, c5, c6, c7, c8] := by
    match l, hsz with
    | [c0, c1, c2, c3, c4, c5, c6, c7, c8], _ => exact ⟨c0, c1, c2, c3, c4, c5, c6, c7, c8, rfl⟩
  obtain ⟨xs, n, _, hx, _, hlen, hfl⟩ := DataW.trod_struct Try.underlying69 hf
  match xs, hlen with
  | [y0, y1, y2, y3, y4, y5, y6, y7, y8], _ =>
    have t0 : DataW.trod enc Try.prog w base sp held n 9 (([c0, c1, c2, c3, c4, c5, c6, c7, c8].drop 0).take (Try.prog.cellsOf 9)) = some y0 := hfl 0 _ rfl
    rw [Try.cells9'] at t0
    change DataW.trod enc Try.prog w base sp held n 9 [c0] = some y0 at t0
    obtain ⟨z0, e0, hy0, w0⟩ := DataW.trod_string Try.underlying9 t0
    have t1 : DataW.trod enc Try.prog w base sp held n 49 (([c0, c1, c2, c3, c4, c5, c6, c7, c8].drop 1).take (Try.prog.cellsOf 49)) = some y1 := hfl 1 _ rfl
    rw [Try.cells49'] at t1
    change DataW.trod enc Try.prog w base sp held n 49 [c1] = some y1 at t1
    obtain ⟨z1, e1, hy1, w1⟩ := DataW.trod_int Try.underlying49 t1
    have t2 : DataW.trod enc Try.prog w base sp held n 66 (([c0, c1, c2, c3, c4, c5, c6, c7, c8].drop 2).take (Try.prog.cellsOf 66)) = some y2 := hfl 2 _ rfl
    rw [Try.cells66'] at t2
    change DataW.trod enc Try.prog w base sp held n 66 [c2] = some y2 at t2
    obtain ⟨z2, e2, hy2, w2⟩ := DataW.trod_int Try.underlying66 t2
    have t3 : DataW.trod enc Try.prog w base sp held n 3 (([c0, c1, c2, c3, c4, c5, c6, c7, c8].drop 3).take (Try.prog.cellsOf 3)) = some y3 := hfl 3 _ rfl
    rw [Try.cells3'] at t3
    change DataW.trod enc Try.prog w base sp held n 3 [c3] = some y3 at t3
    obtain ⟨z3, e3, hy3, w3⟩ := DataW.trod_int Try.underlying3 t3
    have t4 : DataW.trod enc Try.prog w base sp held n 3 (([c0, c1, c2, c3, c4, c5, c6, c7, c8].drop 4).take (Try.prog.cellsOf 3)) = some y4 := hfl 4 _ rfl
    rw [Try.cells3'] at t4
    change DataW.trod enc Try.prog w base sp held n 3 [c4] = some y4 at t4
    obtain ⟨z4, e4, hy4, w4⟩ := DataW.trod_int Try.underlying3 t4
    have t5 : DataW.trod enc Try.prog w base sp held n 3 (([c0, c1, c2, c3, c4, c5, c6, c7, c8].drop 5).take (Try.prog.cellsOf 3)) = some y5 := hfl 5 _ rfl
    rw [Try.cells3'] at t5
    change DataW.trod enc Try.prog w base sp held n 3 [c5] = some y5 at t5
    obtain ⟨z5, e5, hy5, w5⟩ := DataW.trod_int Try.underlying3 t5
    have t6 : DataW.trod enc Try.prog w base sp held n 51 (([c0, c1, c2, c3, c4, c5, c6, c7, c8].drop 6).take (Try.prog.cellsOf 51)) = some y6 := hfl 6 _ rfl
    rw [Try.cells51'] at t6
    change DataW.trod enc Try.prog w base sp held n 51 [c6] = some y6 at t6
    obtain ⟨z6, e6, hy6, w6⟩ := DataW.trod_int Try.underlying51 t6
    have t7 : DataW.trod enc Try.prog w base sp held n 4 (([c0, c1, c2, c3, c4, c5, c6, c7, c8].drop 7).take (Try.prog.cellsOf 4)) = some y7 := hfl 7 _ rfl
    rw [Try.cells4'] at t7
    change DataW.trod enc Try.prog w base sp held n 4 [c7] = some y7 at t7
    obtain ⟨z7, e7, hy7⟩ := DataW.trod_bool Try.underlying4 t7
    have t8 : DataW.trod enc Try.prog w base sp held n 67 (([c0, c1, c2, c3, c4, c5, c6, c7, c8].drop 8).take (Try.prog.cellsOf 67)) = some y8 := hfl 8 _ rfl
    rw [Try.cells67'] at t8
    change DataW.trod enc Try.prog w base sp held n 67 [c8] = some y8 at t8
    simp only [List.cons.injEq, and_true] at e0 e1 e2 e3 e4 e5 e6 e7
    subst e0 e1 e2 e3 e4 e5 e6 e7
    obtain ⟨L, h1, h2, h3⟩ := parts_open t8 (fun n hn => hz n (by
      rw [hx]
      simp only [DataW.weights, Try.underlying69]
      exact DataW.weights_mem_each (j := 8) rfl rfl n hn))
    exact ⟨⟨z0, z1, z2, z3, z4, z5, z6, z7⟩, c8, L, rfl, h1, h2, ⟨w0, w1, w2, w3, w4, w5, w6⟩, h3⟩
set_option maxRecDepth 100000 in
/-- A card, read as data. -/
theorem open_card {H : Type} {enc : TypeId × Value → H} {w : World} {base : Nat} {sp : Nat → Bool} {held : Bool} {r : Reach} {b0 : Nat} {v : Value} {d : DataW H} {pl : List MemPlace} (hval : Value.okWide Try.prog w r b0 69 v) (hd : DataW.Trod enc Try.prog w base sp held 69 v d pl) (hz : ∀ n ∈ d.weights Try.prog 69, n ≤ reachBytes) : ∃ (h : Hd) (u : Value) (l : List Pt), v = cv h u ∧ PsAt w u l ∧ Fits l.length ∧ Hwf h ∧ ∀ p ∈ l, Pwf p := by
  obtain ⟨cs, rfl, hsz⟩ := okWide_struct Try.underlying69 hval
  rw [Try.cells69'] at hsz
  obtain ⟨fuel, hf⟩ := hd
  have hf' : DataW.trod enc Try.prog w base sp held fuel 69 cs.toList = some (d, pl) := hf
  obtain ⟨h, u, ps, e, k⟩ := card_cells (by simpa using hsz) hf' hz
  obtain ⟨l⟩ := cs
  have e' : l = cvs h u := e
  subst e'
  exact ⟨h, u, ps, rfl, k⟩
end Go.Proofs.Ytogpgldbbegniaa
