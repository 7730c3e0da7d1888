/-
  Zones, plainly: the numbers of an owner's things in a place; sorted lists; the table, however it was sorted; what lets a thing come, without soundness.
  Zones in memory: things of eleven cells, decks, hands, the next stamp; each list in a block of its own; what a call may turn.
  Zones: are they made, is there a thing; owners, places; Len, Stamp; the numbers of an owner's things in a place.
  Zones: the numbers of an owner's things in a place.
  Memory: a row written over from a place on; copy of rows of several cells; a list, and a list of things, copied into new memory: the program's own.
  DERIVED: THE SHELF's CONTRACTS AT THIS DUMP, IN PLAIN WORDS (tools/lay-plain.mjs out of 'YtogpgldbbegniaaLib.lean', which tools/lay-shelf.mjs wrote): THE SAME DECLARATIONS UNDER THE SAME NAMES: 'import', 'namespace', 'open', 'def', 'theorem' AND NOTHING ELSE: no command of the shelf's: FOR A HAND-IN. Each laying: the table of numbers ('.._ren') and one theorem, a field a fact of the dump's own or the kernel's comparison; each contract: ONE APPLICATION.
-/
import Derived.Test.YtogpgldbbegniaaS1
import Derived.Deep.MidRow
import Derived.Test.YtogpgldbbegniaaS0
import Derived.Laws.CopyOwn
import Derived.Laws.Tables
import Derived.Shelf.SlGeneric
import Derived.Shelf.SlSortCmp.Whole1
import Derived.Shelf.SlicesG.Cmp
import Derived.Shelf.SlicesG.Equal
import Derived.Shelf.SortG.Plain
import Derived.Shelf.SortG.SortNone
import Derived.Ground.SlsfProg
import Derived.Ground.SlgcProg
import Derived.Ground.SlgnProg
import Derived.Test.YtogpgldbbegniaaProg
namespace Go.Proofs.Ytogpgldbbegniaa

/-- Is n an owner's thing in a place (n being a thing's number)? -/
def innB (ts : List Th) (p pl n : Int) : Bool := decide ((thAt ts n).owner = p) && decide ((thAt ts n).place = pl)
/-- The numbers of an owner's things in a place, rising, of the first k. -/
def numsUp (ts : List Th) (p pl : Int) (k : Nat) : List Int := (nums 0 k).filter (innB ts p pl)
def numsOf (ts : List Th) (p pl : Int) : List Int := numsUp ts p pl ts.length
theorem innB_iff {ts : List Th} {p pl n : Int} : innB ts p pl n = true ↔ (thAt ts n).owner = p ∧ (thAt ts n).place = pl := by unfold innB; simp
theorem numsUp_zero (ts : List Th) (p pl : Int) : numsUp ts p pl 0 = [] := rfl
theorem numsUp_yes {ts : List Th} {p pl : Int} {k : Nat} (h : innB ts p pl ((k : Int) + 1) = true) : numsUp ts p pl (k + 1) = numsUp ts p pl k ++ [(k : Int) + 1] := by
  unfold numsUp
  rw [nums_next, List.filter_append]
  congr 1
  simp only [Int.natCast_zero, Int.zero_add, List.filter_cons, List.filter_nil, h]
  rfl
theorem numsUp_no {ts : List Th} {p pl : Int} {k : Nat} (h : ¬ innB ts p pl ((k : Int) + 1) = true) : numsUp ts p pl (k + 1) = numsUp ts p pl k := by
  unfold numsUp
  rw [nums_next, List.filter_append]
  simp only [Int.natCast_zero, Int.zero_add, List.filter_cons, List.filter_nil, h]
  simp
theorem numsUp_len (ts : List Th) (p pl : Int) (k : Nat) : (numsUp ts p pl k).length ≤ k := by
  unfold numsUp
  refine Nat.le_trans (List.length_filter_le _ _) ?_
  simp [nums]
theorem numsOf_mem {ts : List Th} {p pl n : Int} : n ∈ numsOf ts p pl ↔ inn ts p pl n := by
  unfold numsOf numsUp inn there
  rw [List.mem_filter, nums_mem, innB_iff]
  simp only [Int.natCast_zero, Int.zero_add]
theorem numsOf_nodup (ts : List Th) (p pl : Int) : (numsOf ts p pl).Nodup := (nums_nodup _ _).filter _
theorem nums_rise (a k : Nat) : (nums a k).Pairwise (fun x y => x < y) := by
  unfold nums
  refine List.Pairwise.map _ (fun x y h => ?_) (List.pairwise_lt_range)
  omega
theorem numsOf_rise (ts : List Th) (p pl : Int) : (numsOf ts p pl).Pairwise (fun x y => x < y) := (nums_rise _ _).filter _
theorem numsOf_len (ts : List Th) (p pl : Int) : (numsOf ts p pl).length ≤ ts.length := numsUp_len _ _ _ _
theorem owned_numsOf (ts : List Th) (p : Int) : (numsOf ts p 4).length = owned ts p := by
  have e := owned_nums ts p ts.length (Nat.le_refl _)
  rw [List.take_length] at e
  exact e
def srt (l : List Int) : List Int := l.mergeSort fun x y => decide (x ≤ y)
theorem srt_perm (l : List Int) : (srt l).Perm l := List.mergeSort_perm _ _
theorem srt_up (l : List Int) : (srt l).Pairwise (fun x y => x ≤ y) := by
  have := List.pairwise_mergeSort (le := fun (x y : Int) => decide (x ≤ y)) (fun a b c h1 h2 => by simp at *; omega) (fun a b => by simp; omega) l
  exact this.imp fun h => by simpa using h
theorem srt_len (l : List Int) : (srt l).length = l.length := (srt_perm l).length_eq
/-- A list holds just an owner's things in a place, if it is, sorted, their numbers. -/
theorem holds_srt {ts : List Th} {l : List Int} {p pl : Int} : Holds ts l p pl ↔ srt l = numsOf ts p pl := by
  constructor
  · intro h
    have nd : (srt l).Nodup := (srt_perm l).nodup_iff.2 h.1
    refine rise_one (r := fun a b => a < b) (fun a h => by omega) (fun a b h q => by omega) _ _ ?_ (numsOf_rise _ _ _) fun n => ?_
    · exact ((srt_up l).and nd).imp fun ⟨h1, h2⟩ => Int.lt_iff_le_and_ne.2 ⟨h1, h2⟩
    · rw [numsOf_mem, (srt_perm l).mem_iff, h.2]
  · intro h
    have pm : (numsOf ts p pl).Perm l := by rw [← h]; exact srt_perm l
    exact ⟨pm.nodup_iff.1 (numsOf_nodup _ _ _), fun n => by rw [← pm.mem_iff, numsOf_mem]⟩
theorem holds_len {ts : List Th} {l : List Int} {p pl : Int} (h : Holds ts l p pl) : l.length = (numsOf ts p pl).length := by rw [← holds_srt.1 h, srt_len]
/-- Both owners' numbers on the table. -/
def tabN (ts : List Th) : List Int := numsOf ts 0 4 ++ numsOf ts 1 4
def Owners (ts : List Th) : Prop := ∀ t ∈ ts, t.owner = 0 ∨ t.owner = 1
theorem tabN_mem {ts : List Th} (ho : Owners ts) {n : Int} : n ∈ tabN ts ↔ there ts n ∧ (thAt ts n).place = 4 := by
  unfold tabN
  rw [List.mem_append, numsOf_mem, numsOf_mem]
  unfold inn
  constructor
  · rintro (⟨h1, _, h2⟩ | ⟨h1, _, h2⟩)
    · exact ⟨h1, h2⟩
    · exact ⟨h1, h2⟩
  · rintro ⟨h1, h2⟩
    rcases ho _ (there_mem h1) with h | h
    · exact Or.inl ⟨h1, h, h2⟩
    · exact Or.inr ⟨h1, h, h2⟩
theorem tabN_nodup (ts : List Th) : (tabN ts).Nodup := by
  unfold tabN
  refine List.nodup_append.2 ⟨numsOf_nodup _ _ _, numsOf_nodup _ _ _, fun a ha b hb e => ?_⟩
  subst e
  have h1 := (numsOf_mem.1 ha).2.1
  have h2 := (numsOf_mem.1 hb).2.1
  rw [h1] at h2
  cases h2
theorem tabN_there {ts : List Th} {n : Int} (h : n ∈ tabN ts) : there ts n := by
  rcases List.mem_append.1 h with h | h
  · exact (numsOf_mem.1 h).1
  · exact (numsOf_mem.1 h).1
theorem tabup_of {ts : List Th} (ho : Owners ts) {l : List Int} (hp : l.Perm (tabN ts)) (hs : l.Pairwise fun a b => stOf ts a ≤ stOf ts b) : TabUp ts ts.length l :=
  ⟨fun n => by rw [hp.mem_iff, tabN_mem ho]; rfl, hp.nodup_iff.2 (tabN_nodup _), hs⟩
theorem Zs.Sound.owners {z : Zs} (S : z.Sound) : Owners z.ts := fun t ht => (S.each t ht).2.1
theorem tab_of {z : Zs} (S : z.Sound) {l : List Int} (hp : l.Perm (tabN z.ts)) (hs : l.Pairwise fun a b => stOf z.ts a ≤ stOf z.ts b) : IsTab z.ts l := TabUp.done S (tabup_of S.owners hp hs)
/-- Do no two on the table have one stamp? -/
def StD (ts : List Th) : Prop := ∀ n m, there ts n → there ts m → (thAt ts n).place = 4 → (thAt ts m).place = 4 → (thAt ts n).stamp = (thAt ts m).stamp → n = m
theorem std_iff {ts : List Th} {l : List Int} (h : TabUp ts ts.length l) : StD ts ↔ ∀ i, i + 1 < l.length → stOf ts (l.getD i 0) ≠ stOf ts (l.getD (i + 1) 0) := by
  constructor
  · intro d i hi e
    have a1 := (h.mem _).1 (getD_mem (l := l) (i := i) (by omega))
    have b1 := (h.mem _).1 (getD_mem (l := l) hi)
    have e2 := d _ _ a1.1 b1.1 a1.2 b1.2 e
    have := List.pairwise_iff_getElem.1 h.nd i (i + 1) (by omega) hi (by omega)
    rw [List.getD_eq_getElem?_getD, List.getD_eq_getElem?_getD, List.getElem?_eq_getElem hi, List.getElem?_eq_getElem (show i < l.length by omega)] at e2
    exact this e2
  · intro q
    exact stamps_of h (rise_strict h.up q)
/-- An owner's part of the table, sorted, is the table's part. -/
theorem part_of {z : Zs} (S : z.Sound) {tab l : List Int} (T : IsTab z.ts tab) {p : Int} (hp : l.Perm (numsOf z.ts p 4)) (hs : l.Pairwise fun a b => stOf z.ts a ≤ stOf z.ts b) : l = tab.filter (innB z.ts p 4) := by
  have hm : ∀ n, n ∈ l ↔ inn z.ts p 4 n := fun n => by rw [hp.mem_iff, numsOf_mem]
  have nd : l.Nodup := hp.nodup_iff.2 (numsOf_nodup _ _ _)
  refine rise_one (r := fun a b => stOf z.ts a < stOf z.ts b) (fun a h => by omega) (fun a b h q => by omega) _ _ ?_ (T.2.filter _) fun n => ?_
  · refine List.Pairwise.imp_of_mem ?_ (hs.and nd)
    intro a b ha hb ⟨q1, q2⟩
    have a1 := (hm a).1 ha
    have b1 := (hm b).1 hb
    exact Int.lt_iff_le_and_ne.2 ⟨q1, fun e => q2 (S.stamps a b a1.1 b1.1 a1.2.2 b1.2.2 e)⟩
  · rw [hm, List.mem_filter, T.1, innB_iff]
    unfold inn
    constructor
    · rintro ⟨h1, h2, h3⟩; exact ⟨⟨h1, h3⟩, h2, h3⟩
    · rintro ⟨⟨h1, _⟩, h2, h3⟩; exact ⟨h1, h2, h3⟩
/-- What lets a thing be taken out of the one list that its place says. -/
structure Zs.Fine (z : Zs) (n : Int) : Prop where
  at_ : there z.ts n
  own : (thAt z.ts n).owner = 0 ∨ (thAt z.ts n).owner = 1
  dnd : (z.dk (thAt z.ts n).owner).Nodup
  hnd : (z.hd (thAt z.ts n).owner).Nodup
  dn : (thAt z.ts n).place ≠ 1 → ¬ n ∈ z.dk (thAt z.ts n).owner
  hn : (thAt z.ts n).place ≠ 2 → ¬ n ∈ z.hd (thAt z.ts n).owner
theorem Zs.Sound.fine {z : Zs} (S : z.Sound) {n : Int} (h : there z.ts n) : z.Fine n :=
  ⟨h, S.own h, (S.dks _ (S.own h)).1, (S.hds _ (S.own h)).1, fun q m => q (((S.dks _ (S.own h)).2 n).1 m).2.2, fun q m => q (((S.hds _ (S.own h)).2 n).1 m).2.2⟩
theorem filter_out {l : List Int} {n : Int} (h : ¬ n ∈ l) : l.filter (· != n) = l := by
  rw [List.filter_eq_self]
  intro a ha
  simp only [bne_iff_ne, ne_eq]
  intro e
  subst e
  exact h ha
theorem erase_out {l : List Int} {n : Int} (h : l.Nodup) : l.erase n = l.filter (· != n) := List.Nodup.erase_eq_filter h n
end Go.Proofs.Ytogpgldbbegniaa
namespace Go.Proofs.Ytogpgldbbegniaa
open Go.RowKit

/-- The cells of a thing. -/
def thc (t : Th) : List Value := [.int .i64 t.card, .int .i64 t.owner, .int .u8 t.place, .int .i64 t.stamp, .int .i64 t.hurt, .int .i64 t.m0, .int .i64 t.m1, .int .i64 t.m2, .int .i64 t.m3, .int .i64 t.done, .bool t.fresh]
def thcs : List Th → List Value
  | [] => []
  | t :: ts => thc t ++ thcs ts
theorem thc_len (t : Th) : (thc t).length = 11 := rfl
theorem thcs_len : ∀ (ts : List Th), (thcs ts).length = ts.length * 11
  | [] => rfl
  | t :: ts => by
    show (thc t ++ thcs ts).length = _
    rw [List.length_append, thcs_len ts, thc_len, List.length_cons]
    omega
theorem thcs_app : ∀ (a b : List Th), thcs (a ++ b) = thcs a ++ thcs b
  | [], b => rfl
  | t :: a, b => by
    show thc t ++ thcs (a ++ b) = (thc t ++ thcs a) ++ thcs b
    rw [thcs_app a b, List.append_assoc]
theorem thcs_one (t : Th) : thcs [t] = thc t := List.append_nil _
theorem thcs_at : ∀ {ts : List Th} {j : Nat} {t : Th}, ts[j]? = some t → ∀ k, k < 11 → (thcs ts)[j * 11 + k]? = (thc t)[k]?
  | [], j, t, h, k, hk => by simp at h
  | s :: ts, 0, t, h, k, hk => by
    simp at h
    subst h
    show (thc s ++ thcs ts)[0 * 11 + k]? = _
    rw [Nat.zero_mul, Nat.zero_add, List.getElem?_append_left (by rw [thc_len]; exact hk)]
  | s :: ts, j + 1, t, h, k, hk => by
    show (thc s ++ thcs ts)[(j + 1) * 11 + k]? = _
    rw [List.getElem?_append_right (by rw [thc_len]; omega), thc_len, show (j + 1) * 11 + k - 11 = j * 11 + k from by omega]
    exact thcs_at (by simpa using h) k hk
theorem thcs_ones : ∀ (ts : List Th), ∀ u ∈ thcs ts, u.oneCell' = true
  | [], u, h => by cases h
  | t :: ts, u, h => by
    rcases List.mem_append.1 h with h | h
    · simp only [thc, List.mem_cons, List.not_mem_nil, or_false] at h
      rcases h with h | h | h | h | h | h | h | h | h | h | h <;> (subst h; rfl)
    · exact thcs_ones ts u h
theorem thc_one (t : Th) : (thc t).toArray.all (·.oneCell') = true := all_oneCell_toArray fun u hu => thcs_ones [t] u (by rw [thcs_one]; exact hu)
/-- Things that lie somewhere, as a list reads them. -/
def ThsAt (w : World) (v : Value) (ts : List Th) : Prop := ∃ p cap, v = .slice p ts.length cap ∧ ts.length ≤ maxLen ∧ (0 < ts.length → ∃ g off, p = some ⟨g, off, none⟩ ∧ ∀ (j : Nat) t, ts[j]? = some t → w.rangeAt g (off + j * 11) (thc t))
theorem ThsAt.keep {w w' : World} {v : Value} {ts : List Th} (h : ThsAt w v ts) (k : w.grownBy w' none) : ThsAt w' v ts := by
  obtain ⟨p, cap, e, hm, h⟩ := h
  refine ⟨p, cap, e, hm, fun h0 => ?_⟩
  obtain ⟨g, off, e2, h2⟩ := h h0
  exact ⟨g, off, e2, fun j t ht i u hu => k.cell (h2 j t ht i u hu) (by simp)⟩
theorem rangeAt_keep {w w' : World} {g off : Nat} {cs : List Value} (h : w.rangeAt g off cs) (k : w.grownBy w' none) : w'.rangeAt g off cs := fun i u hu => k.cell (h i u hu) (by simp)
/-- The eleven cells of a thing that lies there. -/
theorem range_cells {w : World} {g o : Nat} {t : Th} (h : w.rangeAt g o (thc t)) : w.cell? ⟨g, o, none⟩ = some (.int .i64 t.card) ∧ w.cell? ⟨g, o + 1, none⟩ = some (.int .i64 t.owner) ∧ w.cell? ⟨g, o + 2, none⟩ = some (.int .u8 t.place) ∧ w.cell? ⟨g, o + 3, none⟩ = some (.int .i64 t.stamp) ∧ w.cell? ⟨g, o + 4, none⟩ = some (.int .i64 t.hurt) ∧ w.cell? ⟨g, o + 5, none⟩ = some (.int .i64 t.m0) ∧ w.cell? ⟨g, o + 6, none⟩ = some (.int .i64 t.m1) ∧ w.cell? ⟨g, o + 7, none⟩ = some (.int .i64 t.m2) ∧ w.cell? ⟨g, o + 8, none⟩ = some (.int .i64 t.m3) ∧ w.cell? ⟨g, o + 9, none⟩ = some (.int .i64 t.done) ∧ w.cell? ⟨g, o + 10, none⟩ = some (.bool t.fresh) :=
  ⟨h 0 _ rfl, h 1 _ rfl, h 2 _ rfl, h 3 _ rfl, h 4 _ rfl, h 5 _ rfl, h 6 _ rfl, h 7 _ rfl, h 8 _ rfl, h 9 _ rfl, h 10 _ rfl⟩
/-- A list of numbers of the call's own. -/
def OwnI (w : World) (base : Nat) (v : Value) (l : List Int) : Prop := w.ownsRow base 3 1 v l.length (ints l)
theorem OwnI.nil (w : World) (base : Nat) : OwnI w base (.slice none 0 0) [] := ⟨rfl, Or.inl ⟨rfl, rfl⟩⟩
theorem OwnI.l {w : World} {base : Nat} {v : Value} {l : List Int} (h : OwnI w base v l) : L.Own w base v l := h
theorem OwnI.form {w : World} {base : Nat} {v : Value} {l : List Int} (h : OwnI w base v l) : ∃ p c, v = .slice p l.length c := h.l.form
theorem OwnI.lay {w : World} {base : Nat} {v : Value} {l : List Int} (h : OwnI w base v l) (o : Obj) : OwnI (w.alloc o) base v l := World.ownsRow.alloc h o
/-- A list of things of the call's own. -/
def OwnT (w : World) (base : Nat) (v : Value) (ts : List Th) : Prop := w.ownsRow base 38 11 v ts.length (thcs ts)
theorem own_cell {w : World} {base e size n : Nat} {v : Value} {xs : List Value} (h : w.ownsRow base e size v n xs) (h0 : 0 < n) : ∃ g cap, v = .slice (some ⟨g, 0, none⟩) n cap ∧ base ≤ g ∧ g < w.heap.size ∧ n ≤ cap ∧ cap ≤ maxLen ∧ ∀ (j : Nat), j < n * size → w.cell? ⟨g, j, none⟩ = xs[j]? ∧ w.frozen? ⟨g, j, none⟩ = false := by
  rcases h.2 with ⟨_, h1⟩ | ⟨g, cap, cur, e, hb, hh, hc, hm, hs, ht⟩
  · omega
  · refine ⟨g, cap, e, hb, block_lt hh, hc, hm, fun j hj => ⟨?_, block_free hh j⟩⟩
    rw [block_cell hh, ← ht, List.getElem?_take, if_pos hj]
    simp
theorem own_slice {w : World} {base e size n : Nat} {v : Value} {xs : List Value} (h : w.ownsRow base e size v n xs) : ∃ p cap, v = .slice p n cap ∧ n ≤ maxLen := by
  rcases h.2 with ⟨e1, h1⟩ | ⟨g, cap, cur, e1, hb, hh, hc, hm, hs, ht⟩
  · exact ⟨none, 0, by rw [e1, h1], by rw [h1]; exact Nat.zero_le _⟩
  · exact ⟨_, _, e1, Nat.le_trans hc hm⟩
theorem OwnT.at {w : World} {base : Nat} {v : Value} {ts : List Th} (h : OwnT w base v ts) : ThsAt w v ts := by
  obtain ⟨p, cap, e, hm⟩ := own_slice h
  refine ⟨p, cap, e, hm, fun h0 => ?_⟩
  obtain ⟨g, cap', e', _, _, _, _, hc⟩ := own_cell h h0
  rw [e] at e'
  cases e'
  refine ⟨g, 0, rfl, fun j t ht k u hu => ?_⟩
  have hk : k < 11 := (List.getElem?_eq_some_iff.1 hu).1
  have hj := (List.getElem?_eq_some_iff.1 ht).1
  rw [Nat.zero_add, (hc (j * 11 + k) (by omega)).1, thcs_at ht k hk]
  exact hu
/-- Zones' own cells. -/
def zc (vt d0 d1 h0 h1 : Value) (nx : Int) (ex : List Value) : Array Value := (vt :: d0 :: d1 :: h0 :: h1 :: .int .i64 nx :: ex).toArray
def Apart2 (x y : Value) : Prop := ∀ a, x.ownBlock = some a → y.ownBlock ≠ some a
/-- Zones at block b; S: all blocks that are theirs. -/
structure ZG (T : TypeId) (ex : List Value) (w : World) (b : Nat) (S : List Nat) (z : Zs) (vt d0 d1 h0 h1 : Value) : Prop where
  blk : w.heap[b]? = some (.cells (zc vt d0 d1 h0 h1 z.nx ex) T (0, 0))
  ts : OwnT w 0 vt z.ts
  od0 : OwnI w 0 d0 (z.dk 0)
  od1 : OwnI w 0 d1 (z.dk 1)
  oh0 : OwnI w 0 h0 (z.hd 0)
  oh1 : OwnI w 0 h1 (z.hd 1)
  inb : b ∈ S
  inS : ∀ v ∈ [vt, d0, d1, h0, h1], ∀ x, v.ownBlock = some x → x ∈ S
  dif : [d0, d1, h0, h1].Pairwise Apart2
def ZA (T : TypeId) (ex : List Value) (w : World) (b : Nat) (S : List Nat) (z : Zs) : Prop := ∃ vt d0 d1 h0 h1, ZG T ex w b S z vt d0 d1 h0 h1
/-- The program's zones. -/
def ZAt (w : World) (b : Nat) (S : List Nat) (z : Zs) : Prop := ZA 93 [] w b S z
theorem kpt_own {w w' : World} {S : List Nat} {base e size n : Nat} {v : Value} {xs : List Value} (h : w.ownsRow base e size v n xs) (k : Kpt S w w') (hv : ∀ x, v.ownBlock = some x → x ∉ S) : w'.ownsRow base e size v n xs := by
  refine ⟨h.1, ?_⟩
  rcases h.2 with h1 | ⟨g, cap, cur, e1, hb, hh, rest⟩
  · exact Or.inl h1
  · exact Or.inr ⟨g, cap, cur, e1, hb, by rw [k.block g (block_lt hh) (hv g (by rw [e1]; rfl))]; exact hh, rest⟩
theorem ZG.keep {T : TypeId} {ex : List Value} {w w' : World} {b : Nat} {S R : List Nat} {z : Zs} {vt d0 d1 h0 h1 : Value} (h : ZG T ex w b S z vt d0 d1 h0 h1) (k : Kpt R w w') (hR : ∀ x, x ∈ S → x ∉ R) : ZG T ex w' b S z vt d0 d1 h0 h1 where
  blk := by rw [k.block b (block_lt h.blk) (hR b h.inb)]; exact h.blk
  ts := kpt_own h.ts k fun x hx => hR x (h.inS vt (by simp) x hx)
  od0 := kpt_own h.od0 k fun x hx => hR x (h.inS d0 (by simp) x hx)
  od1 := kpt_own h.od1 k fun x hx => hR x (h.inS d1 (by simp) x hx)
  oh0 := kpt_own h.oh0 k fun x hx => hR x (h.inS h0 (by simp) x hx)
  oh1 := kpt_own h.oh1 k fun x hx => hR x (h.inS h1 (by simp) x hx)
  inb := h.inb
  inS := h.inS
  dif := h.dif
theorem ZA.keep {T : TypeId} {ex : List Value} {w w' : World} {b : Nat} {S R : List Nat} {z : Zs} (h : ZA T ex w b S z) (k : Kpt R w w') (hR : ∀ x, x ∈ S → x ∉ R) : ZA T ex w' b S z := by
  obtain ⟨vt, d0, d1, h0, h1, h⟩ := h
  exact ⟨vt, d0, d1, h0, h1, h.keep k hR⟩
theorem ZG.grow {T : TypeId} {ex : List Value} {w w' : World} {b : Nat} {S : List Nat} {z : Zs} {vt d0 d1 h0 h1 : Value} (h : ZG T ex w b S z vt d0 d1 h0 h1) (k : w.grownBy w' none) : ZG T ex w' b S z vt d0 d1 h0 h1 := h.keep (Kpt.of_grown k) (by simp)
theorem ZA.grow {T : TypeId} {ex : List Value} {w w' : World} {b : Nat} {S : List Nat} {z : Zs} (h : ZA T ex w b S z) (k : w.grownBy w' none) : ZA T ex w' b S z := h.keep (Kpt.of_grown k) (by simp)
theorem own_lt {w : World} {base e size n : Nat} {v : Value} {xs : List Value} (h : w.ownsRow base e size v n xs) : ∀ x, v.ownBlock = some x → x < w.heap.size := fun x hx => (World.ownsRow.lt h x hx).2
/-- All that is theirs is there. -/
def Old (w : World) (S : List Nat) : Prop := ∀ x, x ∈ S → x < w.heap.size
theorem ZG.cell {T : TypeId} {ex : List Value} {w : World} {b : Nat} {S : List Nat} {z : Zs} {vt d0 d1 h0 h1 : Value} (h : ZG T ex w b S z vt d0 d1 h0 h1) : w.cell? ⟨b, 0, none⟩ = some vt ∧ w.cell? ⟨b, 1, none⟩ = some d0 ∧ w.cell? ⟨b, 2, none⟩ = some d1 ∧ w.cell? ⟨b, 3, none⟩ = some h0 ∧ w.cell? ⟨b, 4, none⟩ = some h1 ∧ w.cell? ⟨b, 5, none⟩ = some (.int .i64 z.nx) :=
  ⟨block_cell h.blk 0, block_cell h.blk 1, block_cell h.blk 2, block_cell h.blk 3, block_cell h.blk 4, block_cell h.blk 5⟩
theorem ZG.free {T : TypeId} {ex : List Value} {w : World} {b : Nat} {S : List Nat} {z : Zs} {vt d0 d1 h0 h1 : Value} (h : ZG T ex w b S z vt d0 d1 h0 h1) (i : Nat) : w.frozen? ⟨b, i, none⟩ = false := block_free h.blk i
/-- Where a thing lies. -/
theorem ths_there {w : World} {v : Value} {ts : List Th} (h : ThsAt w v ts) {n : Int} (hn : there ts n) : ∃ g off cap, v = .slice (some ⟨g, off, none⟩) ts.length cap ∧ w.rangeAt g (off + (n - 1).toNat * 11) (thc (thAt ts n)) := by
  obtain ⟨p, cap, e, hm, h⟩ := h
  unfold there at hn
  obtain ⟨g, off, e2, h2⟩ := h (by omega)
  subst e2
  exact ⟨g, off, cap, e, h2 _ _ (there_at hn)⟩
end Go.Proofs.Ytogpgldbbegniaa
namespace Go.Proofs.Ytogpgldbbegniaa
open Go.RowKit

set_option maxHeartbeats 400000 in
theorem made_yes (b : Nat) (nx : Int) (w : World) (h : w.cell? ⟨b, 5, none⟩ = some (.int .i64 nx)) (hn : nx ≠ 0) : Calls Try.prog 61 #[.pointer (some ⟨b, 0, none⟩)] w fun e w' => e = .returned (.bool true) ∧ w' = w := by
  have hb : (nx != 0) = true := by simpa using hn
  go_enter Try.func61, Try.ntmps61
  go_wp2
  go_ret
  exact ⟨rfl, rfl⟩
set_option maxHeartbeats 400000 in
theorem made_zero (b : Nat) (w : World) (h : w.cell? ⟨b, 5, none⟩ = some (.int .i64 0)) : Calls Try.prog 61 #[.pointer (some ⟨b, 0, none⟩)] w fun e w' => e = .returned (.bool false) ∧ w' = w := by
  go_enter Try.func61, Try.ntmps61
  go_wp2
  go_ret
  exact ⟨rfl, rfl⟩
set_option maxHeartbeats 400000 in
theorem made_nil (w : World) : Calls Try.prog 61 #[.pointer none] w fun e w' => e = .returned (.bool false) ∧ w' = w := by
  go_enter Try.func61, Try.ntmps61
  go_wp2
  go_ret
  exact ⟨rfl, rfl⟩
set_option maxHeartbeats 400000 in
theorem has_any (b len cap : Nat) (p : Option Addr) (n : Int) (w : World) (h : w.cell? ⟨b, 0, none⟩ = some (.slice p len cap)) : Calls Try.prog 62 #[.pointer (some ⟨b, 0, none⟩), .int .i64 n] w fun e w' => e = .returned (.bool (decide (1 ≤ n ∧ n ≤ (len : Int)))) ∧ w' = w := by
  by_cases h1 : 1 ≤ n
  · by_cases h2 : n ≤ (len : Int)
    · rw [decide_eq_true ⟨h1, h2⟩]
      go_enter Try.func62, Try.ntmps62
      go_wp2
      go_ret
      exact ⟨rfl, rfl⟩
    · rw [decide_eq_false (fun q => h2 q.2)]
      go_enter Try.func62, Try.ntmps62
      go_wp2
      go_ret
      exact ⟨rfl, rfl⟩
  · rw [decide_eq_false (fun q => h1 q.1)]
    go_enter Try.func62, Try.ntmps62
    go_wp2
    go_ret
    exact ⟨rfl, rfl⟩
set_option maxHeartbeats 400000 in
theorem isOwner_any (n : Int) (w : World) : Calls Try.prog 68 #[.int .i64 n] w fun e w' => e = .returned (.bool (decide (n = 0 ∨ n = 1))) ∧ w' = w := by
  by_cases h1 : n = 0
  · rw [decide_eq_true (Or.inl h1)]
    have hb : (n == 0) = true := by simpa using h1
    clear h1
    go_enter Try.func68, Try.ntmps68
    go_wp2
    go_ret
    exact ⟨rfl, rfl⟩
  · have hb : (n == 0) = false := by simpa using h1
    by_cases h2 : n = 1
    · rw [decide_eq_true (Or.inr h2)]
      have hc : (n == 1) = true := by simpa using h2
      clear h1 h2
      go_enter Try.func68, Try.ntmps68
      go_wp2
      go_ret
      exact ⟨rfl, rfl⟩
    · rw [decide_eq_false (fun q => q.elim h1 h2)]
      have hc : (n == 1) = false := by simpa using h2
      clear h1 h2
      go_enter Try.func68, Try.ntmps68
      go_wp2
      go_ret
      exact ⟨rfl, rfl⟩
set_option maxHeartbeats 400000 in
theorem isPlace_any (n : Int) (w : World) : Calls Try.prog 63 #[.int .u8 n] w fun e w' => e = .returned (.bool (decide (1 ≤ n ∧ n ≤ 5))) ∧ w' = w := by
  by_cases h1 : 1 ≤ n
  · by_cases h2 : n ≤ 5
    · rw [decide_eq_true ⟨h1, h2⟩]
      go_enter Try.func63, Try.ntmps63
      go_wp2
      go_ret
      exact ⟨rfl, rfl⟩
    · rw [decide_eq_false (fun q => h2 q.2)]
      go_enter Try.func63, Try.ntmps63
      go_wp2
      go_ret
      exact ⟨rfl, rfl⟩
  · rw [decide_eq_false (fun q => h1 q.1)]
    go_enter Try.func63, Try.ntmps63
    go_wp2
    go_ret
    exact ⟨rfl, rfl⟩
set_option maxHeartbeats 400000 in
theorem len_any (b len cap : Nat) (p : Option Addr) (nx : Int) (w : World) (h : w.cell? ⟨b, 0, none⟩ = some (.slice p len cap)) (h5 : w.cell? ⟨b, 5, none⟩ = some (.int .i64 nx)) (hn : nx ≠ 0) : Calls Try.prog 36 #[.pointer (some ⟨b, 0, none⟩)] w fun e w' => e = .returned (.int .i64 (len : Int)) ∧ w' = w := by
  have M := made_yes b nx w h5 hn
  go_enter Try.func36, Try.ntmps36
  go_wp2_with (go_at_call 61; refine M.mono ?_; rintro e w' ⟨rfl, rfl⟩)
  go_ret
  exact ⟨rfl, rfl⟩
set_option maxHeartbeats 400000 in
theorem stamp_any (b : Nat) (nx : Int) (w : World) (h5 : w.cell? ⟨b, 5, none⟩ = some (.int .i64 nx)) (hn : nx ≠ 0) : Calls Try.prog 28 #[.pointer (some ⟨b, 0, none⟩)] w fun e w' => e = .returned (.int .i64 nx) ∧ w' = w := by
  have M := made_yes b nx w h5 hn
  go_enter Try.func28, Try.ntmps28
  go_wp2_with (go_at_call 61; refine M.mono ?_; rintro e w' ⟨rfl, rfl⟩)
  go_ret
  exact ⟨rfl, rfl⟩
theorem Try.info3i' : (Try.prog.info? 3).map (fun i => (i.zero, i.size, i.bytes)) = some (some (.int .i64 0), 1, 8) := by kernel_rfl
end Go.Proofs.Ytogpgldbbegniaa
namespace Go.Proofs.Ytogpgldbbegniaa
open Go.RowKit

theorem one_new (U : World) (x : Int) : ∀ j u, (ints [x])[j]? = some u → (U.alloc (.cells #[.int .i64 x] 3)).cell? ((⟨U.heap.size, 0, none⟩ : Addr).add j) = some u := fun j u hu => by
  rw [add_plain, Nat.zero_add, block_cell (alloc_at _ _ _)]
  simpa [ints] using hu
theorem one_new2 (U : World) (o : Obj) (x : Int) : ∀ j u, (ints [x])[j]? = some u → ((U.alloc o).alloc (.cells #[.int .i64 x] 3)).cell? ((⟨U.heap.size + 1, 0, none⟩ : Addr).add j) = some u := by
  have := one_new (U.alloc o) x
  rwa [World.size_alloc] at this
theorem thAt_at {ts : List Th} {k : Nat} (h : k < ts.length) : thAt ts ((k : Int) + 1) = ts[k] := by
  unfold thAt
  rw [show ((k : Int) + 1 - 1).toNat = k from by omega, List.getD_eq_getElem?_getD, List.getElem?_eq_getElem h]
  rfl
/-- A list of the call's own, one longer. -/
theorem own_more {w' : World} {base n : Nat} {v : Value} {l : List Int} {x : Int} (h : w'.ownsRow base 3 1 v (n + 1) (ints l ++ ints [x])) (hn : n = l.length) : OwnI w' base v (l ++ [x]) := by
  unfold OwnI
  rw [List.length_append, List.length_singleton, ints_app, ← hn]
  exact h
set_option maxRecDepth 100000 in
set_option maxHeartbeats 2000000 in
theorem numbers_any (b : Nat) (vt : Value) (ts : List Th) (p pl : Int) (w : World) (c0 : w.cell? ⟨b, 0, none⟩ = some vt) (T : ThsAt w vt ts) (hf : ts.length ≤ 2048) : Calls Try.prog 96 #[.pointer (some ⟨b, 0, none⟩), .int .i64 p, .int .u8 pl] w fun e w' => ∃ v, e = .returned v ∧ OwnI w' w.heap.size v (numsOf ts p pl) ∧ w.grownBy w' none := by
  obtain ⟨i0, hi, hz0, hz1, hz2⟩ := info_parts Try.info3i'
  obtain ⟨a, cap, rfl, hm, T⟩ := T
  have HT : Hid (0 < ts.length → ∃ g off, a = some ⟨g, off, none⟩ ∧ ∀ (j : Nat) t, ts[j]? = some t → w.rangeAt g (off + j * 11) (thc t)) := T
  clear T hm
  go_enter Try.func96, Try.ntmps96
  go_wp2
  go_loopw [7, 8, 9, 15] (fun v _ _ i wr => ∃ k : Nat, k ≤ ts.length ∧ i = .int .i64 (k : Int) ∧ OwnI wr w.heap.size v (numsUp ts p pl k) ∧ w.grownBy wr none) (fun _ _ _ i _ => ts.length - (intOf i).toNat)
  case atStart => exact ⟨0, Nat.zero_le _, rfl, OwnI.nil _ _, grown_refl _ _⟩
  case round =>
    obtain ⟨k, hk, rfl, O, G⟩ := hrel
    obtain ⟨U, hU⟩ : ∃ U, U = wr := ⟨_, rfl⟩
    subst hU
    obtain ⟨q, cq, rfl⟩ := O.form
    by_cases hlt : k < ts.length
    · obtain ⟨g, off, rfl, R⟩ := HT.out (by omega)
      obtain ⟨t, ht⟩ : ∃ t, ts[k]? = some t := ⟨_, List.getElem?_eq_getElem hlt⟩
      have et : thAt ts ((k : Int) + 1) = t := by rw [thAt_at hlt]; rw [List.getElem?_eq_getElem hlt] at ht; exact Option.some.inj ht
      obtain ⟨c1, c2, c3, c4, c5, c6, c7, c8, c9, c10, c11⟩ := range_cells (rangeAt_keep (R k t ht) G)
      have hwk : wrap64 ((k : Int) + 1) = (k : Int) + 1 := by unfold wrap64; omega
      have HO : Hid (U.ownsRow w.heap.size 3 1 (.slice q (numsUp ts p pl k).length cq) (numsUp ts p pl k).length (ints (numsUp ts p pl k))) := O
      have HG : Hid (w.grownBy U none) := G
      have hY : innB ts p pl ((k : Int) + 1) = (decide (t.owner = p) && decide (t.place = pl)) := by unfold innB; rw [et]
      have hlen := numsUp_len ts p pl k
      have hyes : innB ts p pl ((k : Int) + 1) = true → numsUp ts p pl (k + 1) = numsUp ts p pl k ++ [(k : Int) + 1] := numsUp_yes
      have hno : ¬ innB ts p pl ((k : Int) + 1) = true → numsUp ts p pl (k + 1) = numsUp ts p pl k := numsUp_no
      obtain ⟨l, hl⟩ : ∃ l, l = numsUp ts p pl k := ⟨_, rfl⟩
      rw [← hl] at HO hlen hyes hno ⊢
      obtain ⟨n, hn⟩ : ∃ n, n = l.length := ⟨_, rfl⟩
      rw [← hn] at HO hlen ⊢
      have HN : Hid (n = l.length) := hn
      have HL : Hid (n + 1 ≤ maxLen ∧ (n + 1) * 8 ≤ 140737488355328) := by show _ ∧ _; unfold maxLen; omega
      have HP : Hid (k + 1 ≤ ts.length) := hlt
      have HM : Hid (ts.length - (intOf (.int .i64 ((k : Int) + 1))).toNat < ts.length - (intOf (.int .i64 (k : Int))).toNat) := meas_next hlt
      clear R O G HT ht et hl hn hlen hk
      by_cases h1 : t.owner = p
      · have e1 : (t.owner == p) = true := by simpa using h1
        by_cases h2 : t.place = pl
        · have e2 : (t.place == pl) = true := by simpa using h2
          have HY : Hid (numsUp ts p pl (k + 1) = l ++ [(k : Int) + 1]) := hyes (by rw [hY, h1, h2]; simp)
          clear hyes hno hY h1 h2
          go_wp2_with (first | (at_builtin; go_loud (refine wpList_append_own _ rfl (.tmp 30) (.tmp 33) 22 rfl w.heap.size 3 i0 _ 1 8 Try.underlying22 hi hz0 hz1 hz2 rfl (by decide) _ n (ints l) rfl (World.ownsRow.alloc (World.ownsRow.alloc HO.out _) _) ⟨U.heap.size + 1, 0, none⟩ 1 1 (ints [(k : Int) + 1]) rfl rfl (one_new2 _ _ _) (ints_one _) HL.out.1 (by have := HL.out.2; omega) (by rw [World.size_alloc, World.size_alloc]; have := HG.out.size; omega) ?_; intro v3 w3 o3 g3 _; have HO3 : Hid (OwnI w3 w.heap.size v3 (l ++ [(k : Int) + 1])) := own_more o3 HN.out; have HG3 : Hid (w.grownBy w3 none) := grown_own (grown_push (grown_push HG.out _) _) g3 (fun x e => (World.ownsRow.lt HO.out x e).1); clear o3 g3)) | fail)
          go_roundw
          case rel => exact ⟨k + 1, HP.out, by first | rfl | (rw [hwk]; rfl) | go_num, by rw [HY.out]; exact HO3.out, HG3.out⟩
          case measure => first | exact HM.out | (rw [hwk]; exact HM.out)
        · have e2 : (t.place == pl) = false := by simpa using h2
          have HY : Hid (numsUp ts p pl (k + 1) = l) := hno (by rw [hY]; simp [h2])
          clear hyes hno hY h1 h2
          go_wp2
          go_roundw
          case rel => exact ⟨k + 1, HP.out, by first | rfl | (rw [hwk]; rfl) | go_num, by rw [HY.out]; unfold OwnI; rw [← HN.out]; exact World.ownsRow.alloc HO.out _, grown_push HG.out _⟩
          case measure => first | exact HM.out | (rw [hwk]; exact HM.out)
      · have e1 : (t.owner == p) = false := by simpa using h1
        have HY : Hid (numsUp ts p pl (k + 1) = l) := hno (by rw [hY]; simp [h1])
        clear hyes hno hY h1
        go_wp2
        go_roundw
        case rel => exact ⟨k + 1, HP.out, by first | rfl | (rw [hwk]; rfl) | go_num, by rw [HY.out]; unfold OwnI; rw [← HN.out]; exact World.ownsRow.alloc HO.out _, grown_push HG.out _⟩
        case measure => first | exact HM.out | (rw [hwk]; exact HM.out)
    · obtain rfl : k = ts.length := by omega
      have HF : Hid (OwnI U w.heap.size (.slice q (numsUp ts p pl ts.length).length cq) (numsOf ts p pl) ∧ w.grownBy U none) := ⟨O, G⟩
      clear O G HT
      go_wp2
      go_ret
      exact ⟨_, rfl, HF.out⟩
end Go.Proofs.Ytogpgldbbegniaa
namespace Go.Proofs.Ytogpgldbbegniaa
open Go.RowKit

def setFrom : List Value → Nat → List Value → List Value
  | xs, _, [] => xs
  | xs, o, v :: vs => setFrom (xs.set o v) (o + 1) vs
theorem setFrom_eq : ∀ (vs xs : List Value) (o : Nat), o + vs.length ≤ xs.length → setFrom xs o vs = xs.take o ++ (vs ++ xs.drop (o + vs.length))
  | [], xs, o, h => by simp [setFrom]
  | v :: vs, xs, o, h => by
    rw [List.length_cons] at h
    show setFrom (xs.set o v) (o + 1) vs = _
    rw [setFrom_eq vs (xs.set o v) (o + 1) (by rw [List.length_set]; omega), List.take_add_one, List.getElem?_set_self (by omega), List.take_set_of_le (by omega), List.drop_set_of_lt (by omega), List.length_cons]
    simp [Nat.add_assoc, Nat.add_comm 1]
theorem setFrom_all {xs vs : List Value} (h : vs.length = xs.length) : setFrom xs 0 vs = vs := by
  rw [setFrom_eq vs xs 0 (by omega), List.take_zero, List.nil_append, List.drop_eq_nil_of_le (by omega), List.append_nil]
theorem own_setCells {base e size g n cap : Nat} : ∀ (vs xs : List Value) (o : Nat) (w : World), w.ownsRow base e size (.slice (some ⟨g, 0, none⟩) n cap) n xs → (w.setCells g o vs).ownsRow base e size (.slice (some ⟨g, 0, none⟩) n cap) n (setFrom xs o vs) ∧ w.grownBy (w.setCells g o vs) (some g)
  | [], xs, o, w, h => ⟨h, grown_refl _ _⟩
  | v :: vs, xs, o, w, h => by
    obtain ⟨h1, h2⟩ := World.ownsRow.stored h o v
    obtain ⟨h3, h4⟩ := own_setCells vs (xs.set o v) (o + 1) _ h1
    exact ⟨h3, grown_trans h2 h4⟩
theorem thcs_take : ∀ (ts : List Th) (j : Nat), (thcs ts).take (j * 11) = thcs (ts.take j)
  | [], j => by simp [thcs]
  | t :: ts, 0 => by simp [thcs]
  | t :: ts, j + 1 => by
    show (thc t ++ thcs ts).take ((j + 1) * 11) = thc t ++ thcs (ts.take j)
    rw [List.take_append, thc_len, List.take_of_length_le (by rw [thc_len]; omega), show (j + 1) * 11 - 11 = j * 11 from by omega, thcs_take ts j]
theorem thcs_drop : ∀ (ts : List Th) (j : Nat), (thcs ts).drop (j * 11) = thcs (ts.drop j)
  | [], j => by simp [thcs]
  | t :: ts, 0 => by simp [thcs]
  | t :: ts, j + 1 => by
    show (thc t ++ thcs ts).drop ((j + 1) * 11) = thcs (ts.drop j)
    rw [List.drop_append, thc_len, List.drop_eq_nil_of_le (by rw [thc_len]; omega), show (j + 1) * 11 - 11 = j * 11 from by omega, thcs_drop ts j, List.nil_append]
theorem thcs_set {ts : List Th} {j : Nat} (t : Th) (h : j < ts.length) : setFrom (thcs ts) (j * 11) (thc t) = thcs (ts.set j t) := by
  rw [setFrom_eq _ _ _ (by rw [thcs_len, thc_len]; omega), thcs_take, thc_len, show j * 11 + 11 = (j + 1) * 11 from by omega, thcs_drop, List.set_eq_take_append_cons_drop, if_pos h, thcs_app]
  rfl
/-- A thing of the list is another one. -/
theorem OwnT.set {w : World} {base g n cap j : Nat} {ts : List Th} (h : OwnT w base (.slice (some ⟨g, 0, none⟩) n cap) ts) (hn : ts.length = n) (hj : j < n) (t : Th) : OwnT (w.setCells g (j * 11) (thc t)) base (.slice (some ⟨g, 0, none⟩) n cap) (ts.set j t) ∧ w.grownBy (w.setCells g (j * 11) (thc t)) (some g) := by
  unfold OwnT at h ⊢
  rw [hn] at h
  obtain ⟨h1, h2⟩ := own_setCells (thc t) (thcs ts) (j * 11) w h
  rw [thcs_set t (by omega)] at h1
  rw [List.length_set, hn]
  exact ⟨h1, h2⟩
theorem own_thereT {w : World} {base g n cap j : Nat} {ts : List Th} (h : OwnT w base (.slice (some ⟨g, 0, none⟩) n cap) ts) (hn : ts.length = n) (hj : j < n) : w.there g (j * 11) 11 := by
  unfold OwnT at h
  rw [hn] at h
  intro k hk
  refine ⟨?_, World.ownsRow.frozenAt h _⟩
  rw [World.ownsRow.cellAt h (j * 11 + k) (by omega), List.getElem?_eq_getElem (by rw [thcs_len]; omega)]
  rfl
/-- copy of rows of k cells. -/
theorem run_copyK {P : Program} (k : Nat) (w : World) (dT sT ty elem : TypeId) (g o dLen dCap : Nat) (a : Addr) (sLen sCap : Nat) (cur : Array Value) (t : TypeId) (cs : List Value)
    (hu : P.underlying dT = some (.slice elem)) (hs : (P.info? elem).map (·.size) = some k)
    (hg : w.heap[g]? = some (.cells cur t (0, 0))) (hn : cs.length = Nat.min sLen dLen * k)
    (hsrc : ∀ j v, cs[j]? = some v → w.cell? (a.add j) = some v) (hfit : o + cs.length ≤ cur.size) (h1 : ∀ v ∈ cs, v.oneCell' = true) :
    (Builtin.copy_ #[dT, sT] ty #[.slice (some ⟨g, o, none⟩) dLen dCap, .slice (some a) sLen sCap]).run P w =
      .ok (goInt (Nat.min sLen dLen)) (w.setRow g (cur.toList.take o ++ cs ++ cur.toList.drop (o + cs.length)).toArray) := by
  have hl := run_loadCells_list (P := P) w a cs hsrc
  have hst := run_storeCells_at P g o t cs 0 cur w hg (by simpa using hfit) h1
  cases hq : P.info? elem with
  | none => simp [hq] at hs
  | some i =>
    have hi : i.size = k := by simpa [hq] using hs
    rw [hn] at hl
    simp [Builtin.copy_, run_underlying hu, Builtin.lenOf, Builtin.firstCells, sizeOf, typeInfo, hq, hi, hl, hst]
theorem run_copyK_none {P : Program} (k : Nat) (w : World) (dT sT ty elem : TypeId) (d a : Option Addr) (dLen dCap sLen sCap : Nat) (hu : P.underlying dT = some (.slice elem)) (hs : (P.info? elem).map (·.size) = some k) (hn : Nat.min sLen dLen = 0) :
    (Builtin.copy_ #[dT, sT] ty #[.slice d dLen dCap, .slice a sLen sCap]).run P w = .ok (goInt 0) w := by
  cases hq : P.info? elem with
  | none => simp [hq] at hs
  | some i =>
    have hn' : min sLen dLen = 0 := hn
    cases d <;> cases a <;> simp [Builtin.copy_, run_underlying hu, Builtin.lenOf, Builtin.firstCells, sizeOf, typeInfo, hq, hn', loadCells, loadCellsFrom, storeCells]
theorem grown_row (w : World) (g : Nat) (cs : Array Value) : w.grownBy (w.setRow g cs) (some g) :=
  ⟨rfl, rfl, rfl, by simp [World.setRow], fun k _ hk => setRow_other w g k cs (fun e => hk (by rw [e]))⟩
theorem wpl_copyK {P : Program} {ops : Array Oper} {rest : List Oper} {o : Oper} {a : Act} {w : World} {Q : Exit → Act → World → Prop} (hgd : o.guard = none) (d s : Operand) (dT sT : TypeId)
    (ho : o.op = .call { callee := .builtin .copy, args := #[d, s], argTypes := #[dT, sT] }) (elem : TypeId) (hu : P.underlying dT = some (.slice elem)) (k : Nat) (hsz : (P.info? elem).map (·.size) = some k)
    (dp sp : Option Addr) (dLen dCap sLen sCap : Nat) (hd : a.eval d = .slice dp dLen dCap) (hs : a.eval s = .slice sp sLen sCap)
    (g off : Nat) (cur : List Value) (t : TypeId) (hg : w.heap[g]? = some (.cells cur.toArray t (0, 0))) (cs : List Value) (hn : cs.length = Nat.min sLen dLen * k) (hk : 0 < k)
    (hpos : 0 < cs.length → dp = some ⟨g, off, none⟩ ∧ ∃ ad, sp = some ad ∧ ∀ j v, cs[j]? = some v → w.cell? (ad.add j) = some v)
    (hfit : off + cs.length ≤ cur.length) (h1 : ∀ v ∈ cs, v.oneCell' = true)
    (h : ∀ w', Hid (w'.heap[g]? = some (.cells (splice cur off cs).toArray t (0, 0))) → Hid (w.grownBy w' (some g)) → wpList P ops Q rest (a.put o.dst (goInt (Nat.min sLen dLen))) w') :
    wpList P ops Q (o :: rest) a w := by
  refine wpList_plain hgd fun K hK => ?_
  by_cases h0 : cs.length = 0
  · obtain rfl : cs = [] := List.eq_nil_of_length_eq_zero h0
    have hz : Nat.min sLen dLen = 0 := by
      simp only [List.length_nil] at hn
      rcases Nat.mul_eq_zero.1 hn.symm with h | h
      · exact h
      · omega
    have hrun := run_copyK_none (P := P) k w dT sT o.type elem dp sp dLen dCap sLen sCap hu hsz hz
    rw [hz] at h
    unfold Oper.wp
    simp [execOp, ho, resolve, invoke, builtin, hd, hs, hrun, Result.andThen]
    exact hK _ _ (h w (show _ = _ by simpa [splice] using hg) (grown_refl _ _))
  · obtain ⟨rfl, ad, rfl, hsrc⟩ := hpos (by omega)
    have hrun := run_copyK (P := P) k w dT sT o.type elem g off dLen dCap ad sLen sCap cur.toArray t cs hu hsz hg hn hsrc (by simpa using hfit) h1
    unfold Oper.wp
    simp [execOp, ho, resolve, invoke, builtin, hd, hs, hrun, Result.andThen]
    exact hK _ _ (h _ (show _ = _ by simpa [splice] using setRow_heap w g _ _ t _ hg) (grown_row _ _ _))
theorem made_blockK {w V : World} {e size N : Nat} {xs : List Value} (h : V.ownsRow w.heap.size e size (.slice (some ⟨w.heap.size, 0, none⟩) N N) N xs) : ∃ Z : List Value, Z.length = N * size ∧ V.heap[w.heap.size]? = some (.cells Z.toArray e (0, 0)) := by
  rcases h.2 with ⟨h', _⟩ | ⟨g, cap, cur, h', hb, hh, hn, hm, hs, ht⟩
  · simp at h'
  · simp at h'
    obtain ⟨rfl, rfl⟩ := h'
    exact ⟨cur.toList, by simp [hs], by simpa using hh⟩
theorem block_ownK {V : World} {g e size N : Nat} {xs : List Value} (h : V.heap[g]? = some (.cells xs.toArray e (0, 0))) (hl : xs.length = N * size) (hN : N ≤ maxLen) : V.ownsRow g e size (.slice (some ⟨g, 0, none⟩) N N) N xs :=
  ⟨hl, Or.inr ⟨g, N, _, rfl, Nat.le_refl _, h, Nat.le_refl _, hN, by simp [hl], by simp [← hl, List.take_of_length_le]⟩⟩
theorem splice_whole {α : Type} {Z A : List α} (h : Z.length = A.length) : splice Z 0 A = A := by
  simp [splice, h]
set_option maxRecDepth 100000 in
set_option maxHeartbeats 2000000 in
theorem ownI_any (v : Value) (l : List Int) (w : World) (h : IntsA w v l) (hb : l.length * 8 ≤ 140737488355328) : Calls Try.prog 73 #[v] w fun e w' => e = .returned (.slice (some ⟨w.heap.size, 0, none⟩) l.length l.length) ∧ OwnI w' w.heap.size (.slice (some ⟨w.heap.size, 0, none⟩) l.length l.length) l ∧ w.grownBy w' none := by
  obtain ⟨i0, hi, hz0, hz1, hz2⟩ := info_parts Try.info3i'
  obtain ⟨p, c, rfl, s1⟩ := h.src
  clear h
  obtain ⟨A, hA⟩ : ∃ A, A = ints l := ⟨_, rfl⟩
  have HA1 : Hid (∀ u ∈ A, u.oneCell' = true) := by rw [hA]; exact ints_one l
  have HlA : Hid (A.length = l.length) := by show A.length = _; rw [hA, length_ints]
  rw [← hA] at s1
  have S1 : Hid (0 < l.length → ∃ ad, p = some ad ∧ ∀ j u, A[j]? = some u → w.cell? (Addr.add ad j) = some u) := s1
  have HQ : Hid (A = ints l) := hA
  have Hbb : Hid (i0.bytes * l.length ≤ 281474976710656) := by show i0.bytes * l.length ≤ _; rw [hz2]; omega
  have Hbm : Hid (l.length ≤ maxLen) := by show l.length ≤ maxLen; unfold maxLen; omega
  clear s1 hb hA
  go_enter Try.func73, Try.ntmps73
  go_wp2_with (first | (at_make; refine wpList_make_full _ rfl _ _ 22 rfl w.heap.size 3 i0 _ 1 Try.underlying22 hi hz0 hz1 .i64 .i64 _ _ l.length rfl rfl rfl rfl Hbb.out Hbm.out (Nat.le_refl _) ?_; intro V o1 gv; obtain ⟨Z, hZ, hV⟩ := made_blockK o1; have HZ : Hid (Z.length = l.length * 1) := hZ; have HV : Hid (V.heap[w.heap.size]? = some (.cells Z.toArray 3 (0, 0))) := hV; have HG : Hid (w.grownBy V none) := gv; clear o1 gv hZ hV) | (refine wpl_copyK rfl (.tmp 7) (.tmp 8) 22 22 rfl 3 Try.underlying22 1 (by kernel_rfl) (some ⟨w.heap.size, 0, none⟩) p l.length l.length l.length c rfl rfl w.heap.size 0 Z 3 HV.out A (by rw [HlA.out, Nat.mul_one]; exact (Nat.min_self _).symm) (by decide) (fun h => by have := HlA.out; obtain ⟨ad, e, f⟩ := S1.out (by omega); exact ⟨rfl, ad, e, fun j u hu => HG.out.cell (f j u hu) (by simp)⟩) (by rw [HlA.out, HZ.out]; omega) HA1.out ?_; intro V2 hV2 hG2) | fail)
  go_ret
  have e := hV2.out
  rw [splice_whole (by rw [HZ.out, HlA.out, Nat.mul_one]), HQ.out] at e
  refine ⟨rfl, ?_, grown_own HG.out hG2.out (fun x e => by cases e; exact Nat.le_refl _)⟩
  exact block_ownK e (by rw [length_ints, Nat.mul_one]) Hbm.out
theorem Try.infoT : (Try.prog.info? 38).map (fun i => (i.zero, i.size, i.bytes)) = some (some (.agg #[.int .i64 0, .int .i64 0, .int .u8 0, .int .i64 0, .int .i64 0, .int .i64 0, .int .i64 0, .int .i64 0, .int .i64 0, .int .i64 0, .bool false]), 11, 88) := by kernel_rfl
theorem ThsAt.src {w : World} {v : Value} {ts : List Th} (h : ThsAt w v ts) : ∃ p c, v = .slice p ts.length c ∧ (0 < ts.length → ∃ ad, p = some ad ∧ ∀ j u, (thcs ts)[j]? = some u → w.cell? (Addr.add ad j) = some u) := by
  obtain ⟨p, c, e, _, h⟩ := h
  refine ⟨p, c, e, fun h0 => ?_⟩
  obtain ⟨g, off, e2, h2⟩ := h h0
  refine ⟨_, e2, fun j u hu => ?_⟩
  have hj : j < ts.length * 11 := by have := (List.getElem?_eq_some_iff.1 hu).1; rwa [thcs_len] at this
  have hq : j / 11 < ts.length := by omega
  have e3 : j = j / 11 * 11 + j % 11 := by omega
  have h4 := h2 (j / 11) ts[j / 11] (List.getElem?_eq_getElem hq) (j % 11) u (by
    rw [← thcs_at (List.getElem?_eq_getElem hq) (j % 11) (by omega), ← e3]
    exact hu)
  rw [add_plain, show off + j = off + j / 11 * 11 + j % 11 from by omega]
  exact h4
set_option maxRecDepth 100000 in
set_option maxHeartbeats 2000000 in
theorem ownT_any (v : Value) (l : List Th) (w : World) (h : ThsAt w v l) (hb : l.length ≤ 2048) : Calls Try.prog 40 #[v] w fun e w' => e = .returned (.slice (some ⟨w.heap.size, 0, none⟩) l.length l.length) ∧ OwnT w' w.heap.size (.slice (some ⟨w.heap.size, 0, none⟩) l.length l.length) l ∧ w.grownBy w' none := by
  obtain ⟨i0, hi, hz0, hz1, hz2⟩ := info_parts Try.infoT
  obtain ⟨p, c, rfl, s1⟩ := h.src
  clear h
  obtain ⟨A, hA⟩ : ∃ A, A = thcs l := ⟨_, rfl⟩
  have HA1 : Hid (∀ u ∈ A, u.oneCell' = true) := by rw [hA]; exact thcs_ones l
  have HlA : Hid (A.length = l.length * 11) := by show A.length = _; rw [hA, thcs_len]
  rw [← hA] at s1
  have S1 : Hid (0 < l.length → ∃ ad, p = some ad ∧ ∀ j u, A[j]? = some u → w.cell? (Addr.add ad j) = some u) := s1
  have HQ : Hid (A = thcs l) := hA
  have Hbb : Hid (i0.bytes * l.length ≤ 281474976710656) := by show i0.bytes * l.length ≤ _; rw [hz2]; omega
  have Hbm : Hid (l.length ≤ maxLen) := by show l.length ≤ maxLen; unfold maxLen; omega
  clear s1 hb hA
  go_enter Try.func40, Try.ntmps40
  go_wp2_with (first | (at_make; refine wpList_make_full _ rfl _ _ 29 rfl w.heap.size 38 i0 _ 11 Try.underlying29 hi hz0 hz1 .i64 .i64 _ _ l.length rfl rfl rfl rfl Hbb.out Hbm.out (Nat.le_refl _) ?_; intro V o1 gv; obtain ⟨Z, hZ, hV⟩ := made_blockK o1; have HZ : Hid (Z.length = l.length * 11) := hZ; have HV : Hid (V.heap[w.heap.size]? = some (.cells Z.toArray 38 (0, 0))) := hV; have HG : Hid (w.grownBy V none) := gv; clear o1 gv hZ hV) | (refine wpl_copyK rfl (.tmp 7) (.tmp 8) 29 29 rfl 38 Try.underlying29 11 (by kernel_rfl) (some ⟨w.heap.size, 0, none⟩) p l.length l.length l.length c rfl rfl w.heap.size 0 Z 38 HV.out A (by rw [HlA.out]; exact congrArg (· * 11) (Nat.min_self _).symm) (by decide) (fun h => by have := HlA.out; obtain ⟨ad, e, f⟩ := S1.out (by omega); exact ⟨rfl, ad, e, fun j u hu => HG.out.cell (f j u hu) (by simp)⟩) (by rw [HlA.out, HZ.out]; omega) HA1.out ?_; intro V2 hV2 hG2) | fail)
  go_ret
  have e := hV2.out
  rw [splice_whole (by rw [HZ.out, HlA.out]), HQ.out] at e
  refine ⟨rfl, ?_, grown_own HG.out hG2.out (fun x e => by cases e; exact Nat.le_refl _)⟩
  exact block_ownK e (thcs_len l) Hbm.out
end Go.Proofs.Ytogpgldbbegniaa
namespace Go.Proofs
open Go.Shelf
def Try.sortL_ren : Go.Shelf.Ren := ⟨fun | 6 => 99 | 15 => 123 | 14 => 122 | 28 => 149 | 29 => 150 | 20 => 141 | 21 => 142 | 22 => 143 | 23 => 144 | 24 => 145 | 25 => 146 | 26 => 147 | 27 => 148 | 46 => 171 | 47 => 172 | 48 => 173 | 49 => 174 | 50 => 175 | 57 => 186 | n => n, fun | 22 => 22 | 24 => 3 | 25 => 145 | 3 => 3 | 39 => 162 | 0 => 0 | 53 => 186 | 55 => 188 | 4 => 4 | 46 => 180 | 45 => 179 | 50 => 152 | 5 => 5 | 9 => 9 | 66 => 200 | 70 => 204 | 76 => 213 | 77 => 198 | n => n, fun | n => n⟩
theorem Try.sortL : Go.Proofs.SlLaysF.n6 Try.prog Try.sortL_ren := {
  mixed := by kernel_rfl
  f6 := ⟨Try.f99.name, by decide, Try.func99.trans (congrArg some (by kernel_rfl))⟩
  f14 := ⟨Try.f122.name, by decide, Try.func122.trans (congrArg some (by kernel_rfl))⟩
  f15 := Try.func123.trans (congrArg some (by kernel_rfl))
  f20 := ⟨Try.f141.name, by decide, Try.func141.trans (congrArg some (by kernel_rfl))⟩
  f21 := ⟨Try.f142.name, by decide, Try.func142.trans (congrArg some (by kernel_rfl))⟩
  f22 := ⟨Try.f143.name, by decide, Try.func143.trans (congrArg some (by kernel_rfl))⟩
  f23 := ⟨Try.f144.name, by decide, Try.func144.trans (congrArg some (by kernel_rfl))⟩
  f24 := ⟨Try.f145.name, by decide, Try.func145.trans (congrArg some (by kernel_rfl))⟩
  f25 := ⟨Try.f146.name, by decide, Try.func146.trans (congrArg some (by kernel_rfl))⟩
  f26 := ⟨Try.f147.name, by decide, Try.func147.trans (congrArg some (by kernel_rfl))⟩
  f27 := ⟨Try.f148.name, by decide, Try.func148.trans (congrArg some (by kernel_rfl))⟩
  f28 := Try.func149.trans (congrArg some (by kernel_rfl))
  f29 := Try.func150.trans (congrArg some (by kernel_rfl))
  f46 := ⟨Try.f171.name, by decide, Try.func171.trans (congrArg some (by kernel_rfl))⟩
  f47 := Try.func172.trans (congrArg some (by kernel_rfl))
  f48 := Try.func173.trans (congrArg some (by kernel_rfl))
  f49 := ⟨Try.f174.name, by decide, Try.func174.trans (congrArg some (by kernel_rfl))⟩
  f50 := ⟨Try.f175.name, by decide, Try.func175.trans (congrArg some (by kernel_rfl))⟩
  f57 := ⟨Try.f186.name, by decide, Try.func186.trans (congrArg some (by kernel_rfl))⟩
  t0 := Try.underlying0
  a0 := Try.isAgg0
  z0 := Try.sizeOf0
  v0 := Try.zeroValue0
  t3 := Try.underlying3
  a3 := Try.isAgg3
  z3 := Try.sizeOf3
  v3 := Try.zeroValue3
  t4 := Try.underlying4
  a4 := Try.isAgg4
  z4 := Try.sizeOf4
  v4 := Try.zeroValue4
  t5 := Try.underlying5
  a5 := Try.isAgg5
  z5 := Try.sizeOf5
  v5 := Try.zeroValue5
  t9 := Try.underlying9
  a9 := Try.isAgg9
  z9 := Try.sizeOf9
  v9 := Try.zeroValue9
  t22 := Try.underlying22
  a22 := Try.isAgg22
  z22 := Try.sizeOf22
  v22 := Try.zeroValue22
  a24 := Try.isAgg3
  z24 := Try.sizeOf3
  t25 := Try.underlying145
  a25 := Try.isAgg145
  z25 := Try.sizeOf145
  v25 := Try.zeroValue145
  t39 := Try.underlying162
  a39 := Try.isAgg162
  z39 := Try.sizeOf162
  v39 := Try.zeroValue162
  t45 := Try.underlying179
  a45 := Try.isAgg179
  z45 := Try.sizeOf179
  v45 := Try.zeroValue179
  t46 := Try.underlying180
  a46 := Try.isAgg180
  z46 := Try.sizeOf180
  v46 := Try.zeroValue180
  t50 := Try.underlying152
  a50 := Try.isAgg152
  z50 := Try.sizeOf152
  v50 := Try.zeroValue152
  t53 := Try.underlying186
  a53 := Try.isAgg186
  z53 := Try.sizeOf186
  v53 := Try.zeroValue186
  t55 := Try.underlying188
  a55 := Try.isAgg188
  z55 := Try.sizeOf188
  v55 := Try.zeroValue188
  t66 := Try.underlying200
  a66 := Try.isAgg200
  z66 := Try.sizeOf200
  v66 := Try.zeroValue200
  t70 := Try.underlying204
  a70 := Try.isAgg204
  z70 := Try.sizeOf204
  v70 := Try.zeroValue204
  t76 := Try.underlying213
  a76 := Try.isAgg213
  z76 := Try.sizeOf213
  v76 := Try.zeroValue213
  t77 := Try.underlying198
  a77 := Try.isAgg198
  z77 := Try.sizeOf198
  v77 := Try.zeroValue198 }
def Try.cmpL_ren : Go.Shelf.Ren := ⟨fun | 5 => 101 | 7 => 124 | n => n, fun | 22 => 3 | 3 => 3 | 4 => 4 | n => n, fun | n => n⟩
theorem Try.cmpL : Go.Proofs.SlLaysC2.n5 Try.prog Try.cmpL_ren := {
  mixed := by kernel_rfl
  f5 := ⟨Try.f101.name, by decide, Try.func101.trans (congrArg some (by kernel_rfl))⟩
  f7 := ⟨Try.f124.name, by decide, Try.func124.trans (congrArg some (by kernel_rfl))⟩
  t3 := Try.underlying3
  a3 := Try.isAgg3
  z3 := Try.sizeOf3
  v3 := Try.zeroValue3
  t4 := Try.underlying4
  a4 := Try.isAgg4
  z4 := Try.sizeOf4
  v4 := Try.zeroValue4
  t22 := Try.underlying3
  a22 := Try.isAgg3
  z22 := Try.sizeOf3
  v22 := Try.zeroValue3 }
def Try.equalL_ren : Go.Shelf.Ren := ⟨fun | 33 => 103 | n => n, fun | 22 => 22 | 23 => 3 | 4 => 4 | 3 => 3 | 0 => 0 | n => n, fun | n => n⟩
theorem Try.equalL : Go.Proofs.SlLaysN.n33 Try.prog Try.equalL_ren := {
  mixed := by kernel_rfl
  f33 := ⟨Try.f103.name, by decide, Try.func103.trans (congrArg some (by kernel_rfl))⟩
  t0 := Try.underlying0
  a0 := Try.isAgg0
  z0 := Try.sizeOf0
  v0 := Try.zeroValue0
  t3 := Try.underlying3
  a3 := Try.isAgg3
  z3 := Try.sizeOf3
  v3 := Try.zeroValue3
  t4 := Try.underlying4
  a4 := Try.isAgg4
  z4 := Try.sizeOf4
  v4 := Try.zeroValue4
  t22 := Try.underlying22
  a22 := Try.isAgg22
  z22 := Try.sizeOf22
  v22 := Try.zeroValue22
  t23 := Try.underlying3
  a23 := Try.isAgg3
  z23 := Try.sizeOf3
  v23 := Try.zeroValue3 }
def Try.sortI_ren : Go.Shelf.Ren := ⟨fun | 53 => 102 | 64 => 123 | 63 => 125 | 78 => 149 | 79 => 150 | 70 => 151 | 71 => 152 | 72 => 153 | 73 => 154 | 74 => 155 | 75 => 156 | 59 => 157 | 76 => 158 | 77 => 159 | 88 => 176 | 89 => 172 | 90 => 173 | 91 => 177 | 92 => 178 | 68 => 124 | 96 => 187 | n => n, fun | 22 => 22 | 23 => 3 | 3 => 3 | 51 => 162 | 0 => 0 | 67 => 186 | 69 => 188 | 4 => 4 | 61 => 180 | 60 => 179 | 44 => 152 | 5 => 5 | 9 => 9 | 75 => 200 | 79 => 204 | 83 => 213 | 84 => 198 | n => n, fun | n => n⟩
theorem Try.sortI : Go.Proofs.SlLaysN.n53 Try.prog Try.sortI_ren := {
  mixed := by kernel_rfl
  f53 := ⟨Try.f102.name, by decide, Try.func102.trans (congrArg some (by kernel_rfl))⟩
  f59 := ⟨Try.f157.name, by decide, Try.func157.trans (congrArg some (by kernel_rfl))⟩
  f63 := ⟨Try.f125.name, by decide, Try.func125.trans (congrArg some (by kernel_rfl))⟩
  f64 := Try.func123.trans (congrArg some (by kernel_rfl))
  f68 := ⟨Try.f124.name, by decide, Try.func124.trans (congrArg some (by kernel_rfl))⟩
  f70 := ⟨Try.f151.name, by decide, Try.func151.trans (congrArg some (by kernel_rfl))⟩
  f71 := ⟨Try.f152.name, by decide, Try.func152.trans (congrArg some (by kernel_rfl))⟩
  f72 := ⟨Try.f153.name, by decide, Try.func153.trans (congrArg some (by kernel_rfl))⟩
  f73 := ⟨Try.f154.name, by decide, Try.func154.trans (congrArg some (by kernel_rfl))⟩
  f74 := ⟨Try.f155.name, by decide, Try.func155.trans (congrArg some (by kernel_rfl))⟩
  f75 := ⟨Try.f156.name, by decide, Try.func156.trans (congrArg some (by kernel_rfl))⟩
  f76 := ⟨Try.f158.name, by decide, Try.func158.trans (congrArg some (by kernel_rfl))⟩
  f77 := ⟨Try.f159.name, by decide, Try.func159.trans (congrArg some (by kernel_rfl))⟩
  f78 := Try.func149.trans (congrArg some (by kernel_rfl))
  f79 := Try.func150.trans (congrArg some (by kernel_rfl))
  f88 := ⟨Try.f176.name, by decide, Try.func176.trans (congrArg some (by kernel_rfl))⟩
  f89 := Try.func172.trans (congrArg some (by kernel_rfl))
  f90 := Try.func173.trans (congrArg some (by kernel_rfl))
  f91 := ⟨Try.f177.name, by decide, Try.func177.trans (congrArg some (by kernel_rfl))⟩
  f92 := ⟨Try.f178.name, by decide, Try.func178.trans (congrArg some (by kernel_rfl))⟩
  f96 := ⟨Try.f187.name, by decide, Try.func187.trans (congrArg some (by kernel_rfl))⟩
  t0 := Try.underlying0
  a0 := Try.isAgg0
  z0 := Try.sizeOf0
  v0 := Try.zeroValue0
  t3 := Try.underlying3
  a3 := Try.isAgg3
  z3 := Try.sizeOf3
  v3 := Try.zeroValue3
  t4 := Try.underlying4
  a4 := Try.isAgg4
  z4 := Try.sizeOf4
  v4 := Try.zeroValue4
  t5 := Try.underlying5
  a5 := Try.isAgg5
  z5 := Try.sizeOf5
  v5 := Try.zeroValue5
  t9 := Try.underlying9
  a9 := Try.isAgg9
  z9 := Try.sizeOf9
  v9 := Try.zeroValue9
  t22 := Try.underlying22
  a22 := Try.isAgg22
  z22 := Try.sizeOf22
  v22 := Try.zeroValue22
  t23 := Try.underlying3
  a23 := Try.isAgg3
  z23 := Try.sizeOf3
  v23 := Try.zeroValue3
  t44 := Try.underlying152
  a44 := Try.isAgg152
  z44 := Try.sizeOf152
  v44 := Try.zeroValue152
  t51 := Try.underlying162
  a51 := Try.isAgg162
  z51 := Try.sizeOf162
  v51 := Try.zeroValue162
  t60 := Try.underlying179
  a60 := Try.isAgg179
  z60 := Try.sizeOf179
  v60 := Try.zeroValue179
  t61 := Try.underlying180
  a61 := Try.isAgg180
  z61 := Try.sizeOf180
  v61 := Try.zeroValue180
  t67 := Try.underlying186
  a67 := Try.isAgg186
  z67 := Try.sizeOf186
  v67 := Try.zeroValue186
  t69 := Try.underlying188
  a69 := Try.isAgg188
  z69 := Try.sizeOf188
  v69 := Try.zeroValue188
  t75 := Try.underlying200
  a75 := Try.isAgg200
  z75 := Try.sizeOf200
  v75 := Try.zeroValue200
  t79 := Try.underlying204
  a79 := Try.isAgg204
  z79 := Try.sizeOf204
  v79 := Try.zeroValue204
  t83 := Try.underlying213
  a83 := Try.isAgg213
  z83 := Try.sizeOf213
  v83 := Try.zeroValue213
  t84 := Try.underlying198
  a84 := Try.isAgg198
  z84 := Try.sizeOf198
  v84 := Try.zeroValue198 }
end Go.Proofs
