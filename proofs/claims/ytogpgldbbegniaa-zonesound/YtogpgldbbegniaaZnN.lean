/-
  Zones, plainly: the numbers of an owner's things in a place; sorted lists; the table, however it was sorted; what lets a thing come, without soundness.
-/
import Derived.Test.YtogpgldbbegniaaS14
namespace Go.Proofs.Ytogpgldbbegniaa

/-- Is n an owner's thing in a place (n being a thing's number)? -/
def innB (ts : List Th) (p pl n : Int) : Bool := decide ((thAt ts n).owner = p) && decide ((thAt ts n).place = pl)
/-- The numbers of an owner's things in a place, rising, of the first k. -/
def numsUp (ts : List Th) (p pl : Int) (k : Nat) : List Int := (nums 0 k).filter (innB ts p pl)
def numsOf (ts : List Th) (p pl : Int) : List Int := numsUp ts p pl ts.length
theorem innB_iff {ts : List Th} {p pl n : Int} : innB ts p pl n = true ↔ (thAt ts n).owner = p ∧ (thAt ts n).place = pl := by unfold innB; simp
theorem numsUp_zero (ts : List Th) (p pl : Int) : numsUp ts p pl 0 = [] := rfl
theorem numsUp_yes {ts : List Th} {p pl : Int} {k : Nat} (h : innB ts p pl ((k : Int) + 1) = true) : numsUp ts p pl (k + 1) = numsUp ts p pl k ++ [(k : Int) + 1] := by
  unfold numsUp
  rw [nums_next, List.filter_append]
  congr 1
  simp only [Int.natCast_zero, Int.zero_add, List.filter_cons, List.filter_nil, h]
  rfl
theorem numsUp_no {ts : List Th} {p pl : Int} {k : Nat} (h : ¬ innB ts p pl ((k : Int) + 1) = true) : numsUp ts p pl (k + 1) = numsUp ts p pl k := by
  unfold numsUp
  rw [nums_next, List.filter_append]
  simp only [Int.natCast_zero, Int.zero_add, List.filter_cons, List.filter_nil, h]
  simp
theorem numsUp_len (ts : List Th) (p pl : Int) (k : Nat) : (numsUp ts p pl k).length ≤ k := by
  unfold numsUp
  refine Nat.le_trans (List.length_filter_le _ _) ?_
  simp [nums]
theorem numsOf_mem {ts : List Th} {p pl n : Int} : n ∈ numsOf ts p pl ↔ inn ts p pl n := by
  unfold numsOf numsUp inn there
  rw [List.mem_filter, nums_mem, innB_iff]
  simp only [Int.natCast_zero, Int.zero_add]
theorem numsOf_nodup (ts : List Th) (p pl : Int) : (numsOf ts p pl).Nodup := (nums_nodup _ _).filter _
theorem nums_rise (a k : Nat) : (nums a k).Pairwise (fun x y => x < y) := by
  unfold nums
  refine List.Pairwise.map _ (fun x y h => ?_) (List.pairwise_lt_range)
  omega
theorem numsOf_rise (ts : List Th) (p pl : Int) : (numsOf ts p pl).Pairwise (fun x y => x < y) := (nums_rise _ _).filter _
theorem numsOf_len (ts : List Th) (p pl : Int) : (numsOf ts p pl).length ≤ ts.length := numsUp_len _ _ _ _
theorem owned_numsOf (ts : List Th) (p : Int) : (numsOf ts p 4).length = owned ts p := by
  have e := owned_nums ts p ts.length (Nat.le_refl _)
  rw [List.take_length] at e
  exact e
def srt (l : List Int) : List Int := l.mergeSort fun x y => decide (x ≤ y)
theorem srt_perm (l : List Int) : (srt l).Perm l := List.mergeSort_perm _ _
theorem srt_up (l : List Int) : (srt l).Pairwise (fun x y => x ≤ y) := by
  have := List.pairwise_mergeSort (le := fun (x y : Int) => decide (x ≤ y)) (fun a b c h1 h2 => by simp at *; omega) (fun a b => by simp; omega) l
  exact this.imp fun h => by simpa using h
theorem srt_len (l : List Int) : (srt l).length = l.length := (srt_perm l).length_eq
/-- A list holds just an owner's things in a place, if it is, sorted, their numbers. -/
theorem holds_srt {ts : List Th} {l : List Int} {p pl : Int} : Holds ts l p pl ↔ srt l = numsOf ts p pl := by
  constructor
  · intro h
    have nd : (srt l).Nodup := (srt_perm l).nodup_iff.2 h.1
    refine rise_one (r := fun a b => a < b) (fun a h => by omega) (fun a b h q => by omega) _ _ ?_ (numsOf_rise _ _ _) fun n => ?_
    · exact ((srt_up l).and nd).imp fun ⟨h1, h2⟩ => Int.lt_iff_le_and_ne.2 ⟨h1, h2⟩
    · rw [numsOf_mem, (srt_perm l).mem_iff, h.2]
  · intro h
    have pm : (numsOf ts p pl).Perm l := by rw [← h]; exact srt_perm l
    exact ⟨pm.nodup_iff.1 (numsOf_nodup _ _ _), fun n => by rw [← pm.mem_iff, numsOf_mem]⟩
theorem holds_len {ts : List Th} {l : List Int} {p pl : Int} (h : Holds ts l p pl) : l.length = (numsOf ts p pl).length := by rw [← holds_srt.1 h, srt_len]
/-- Both owners' numbers on the table. -/
def tabN (ts : List Th) : List Int := numsOf ts 0 4 ++ numsOf ts 1 4
def Owners (ts : List Th) : Prop := ∀ t ∈ ts, t.owner = 0 ∨ t.owner = 1
theorem tabN_mem {ts : List Th} (ho : Owners ts) {n : Int} : n ∈ tabN ts ↔ there ts n ∧ (thAt ts n).place = 4 := by
  unfold tabN
  rw [List.mem_append, numsOf_mem, numsOf_mem]
  unfold inn
  constructor
  · rintro (⟨h1, _, h2⟩ | ⟨h1, _, h2⟩)
    · exact ⟨h1, h2⟩
    · exact ⟨h1, h2⟩
  · rintro ⟨h1, h2⟩
    rcases ho _ (there_mem h1) with h | h
    · exact Or.inl ⟨h1, h, h2⟩
    · exact Or.inr ⟨h1, h, h2⟩
theorem tabN_nodup (ts : List Th) : (tabN ts).Nodup := by
  unfold tabN
  refine List.nodup_append.2 ⟨numsOf_nodup _ _ _, numsOf_nodup _ _ _, fun a ha b hb e => ?_⟩
  subst e
  have h1 := (numsOf_mem.1 ha).2.1
  have h2 := (numsOf_mem.1 hb).2.1
  rw [h1] at h2
  cases h2
theorem tabN_there {ts : List Th} {n : Int} (h : n ∈ tabN ts) : there ts n := by
  rcases List.mem_append.1 h with h | h
  · exact (numsOf_mem.1 h).1
  · exact (numsOf_mem.1 h).1
theorem tabup_of {ts : List Th} (ho : Owners ts) {l : List Int} (hp : l.Perm (tabN ts)) (hs : l.Pairwise fun a b => stOf ts a ≤ stOf ts b) : TabUp ts ts.length l :=
  ⟨fun n => by rw [hp.mem_iff, tabN_mem ho]; rfl, hp.nodup_iff.2 (tabN_nodup _), hs⟩
theorem Zs.Sound.owners {z : Zs} (S : z.Sound) : Owners z.ts := fun t ht => (S.each t ht).2.1
theorem tab_of {z : Zs} (S : z.Sound) {l : List Int} (hp : l.Perm (tabN z.ts)) (hs : l.Pairwise fun a b => stOf z.ts a ≤ stOf z.ts b) : IsTab z.ts l := TabUp.done S (tabup_of S.owners hp hs)
/-- Do no two on the table have one stamp? -/
def StD (ts : List Th) : Prop := ∀ n m, there ts n → there ts m → (thAt ts n).place = 4 → (thAt ts m).place = 4 → (thAt ts n).stamp = (thAt ts m).stamp → n = m
theorem std_iff {ts : List Th} {l : List Int} (h : TabUp ts ts.length l) : StD ts ↔ ∀ i, i + 1 < l.length → stOf ts (l.getD i 0) ≠ stOf ts (l.getD (i + 1) 0) := by
  constructor
  · intro d i hi e
    have a1 := (h.mem _).1 (getD_mem (l := l) (i := i) (by omega))
    have b1 := (h.mem _).1 (getD_mem (l := l) hi)
    have e2 := d _ _ a1.1 b1.1 a1.2 b1.2 e
    have := List.pairwise_iff_getElem.1 h.nd i (i + 1) (by omega) hi (by omega)
    rw [List.getD_eq_getElem?_getD, List.getD_eq_getElem?_getD, List.getElem?_eq_getElem hi, List.getElem?_eq_getElem (show i < l.length by omega)] at e2
    exact this e2
  · intro q
    exact stamps_of h (rise_strict h.up q)
/-- An owner's part of the table, sorted, is the table's part. -/
theorem part_of {z : Zs} (S : z.Sound) {tab l : List Int} (T : IsTab z.ts tab) {p : Int} (hp : l.Perm (numsOf z.ts p 4)) (hs : l.Pairwise fun a b => stOf z.ts a ≤ stOf z.ts b) : l = tab.filter (innB z.ts p 4) := by
  have hm : ∀ n, n ∈ l ↔ inn z.ts p 4 n := fun n => by rw [hp.mem_iff, numsOf_mem]
  have nd : l.Nodup := hp.nodup_iff.2 (numsOf_nodup _ _ _)
  refine rise_one (r := fun a b => stOf z.ts a < stOf z.ts b) (fun a h => by omega) (fun a b h q => by omega) _ _ ?_ (T.2.filter _) fun n => ?_
  · refine List.Pairwise.imp_of_mem ?_ (hs.and nd)
    intro a b ha hb ⟨q1, q2⟩
    have a1 := (hm a).1 ha
    have b1 := (hm b).1 hb
    exact Int.lt_iff_le_and_ne.2 ⟨q1, fun e => q2 (S.stamps a b a1.1 b1.1 a1.2.2 b1.2.2 e)⟩
  · rw [hm, List.mem_filter, T.1, innB_iff]
    unfold inn
    constructor
    · rintro ⟨h1, h2, h3⟩; exact ⟨⟨h1, h3⟩, h2, h3⟩
    · rintro ⟨⟨h1, _⟩, h2, h3⟩; exact ⟨h1, h2, h3⟩
/-- What lets a thing be taken out of the one list that its place says. -/
structure Zs.Fine (z : Zs) (n : Int) : Prop where
  at_ : there z.ts n
  own : (thAt z.ts n).owner = 0 ∨ (thAt z.ts n).owner = 1
  dnd : (z.dk (thAt z.ts n).owner).Nodup
  hnd : (z.hd (thAt z.ts n).owner).Nodup
  dn : (thAt z.ts n).place ≠ 1 → ¬ n ∈ z.dk (thAt z.ts n).owner
  hn : (thAt z.ts n).place ≠ 2 → ¬ n ∈ z.hd (thAt z.ts n).owner
theorem Zs.Sound.fine {z : Zs} (S : z.Sound) {n : Int} (h : there z.ts n) : z.Fine n :=
  ⟨h, S.own h, (S.dks _ (S.own h)).1, (S.hds _ (S.own h)).1, fun q m => q (((S.dks _ (S.own h)).2 n).1 m).2.2, fun q m => q (((S.hds _ (S.own h)).2 n).1 m).2.2⟩
theorem filter_out {l : List Int} {n : Int} (h : ¬ n ∈ l) : l.filter (· != n) = l := by
  rw [List.filter_eq_self]
  intro a ha
  simp only [bne_iff_ne, ne_eq]
  intro e
  subst e
  exact h ha
theorem erase_out {l : List Int} {n : Int} (h : l.Nodup) : l.erase n = l.filter (· != n) := List.Nodup.erase_eq_filter h n
end Go.Proofs.Ytogpgldbbegniaa
