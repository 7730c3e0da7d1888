/-
  The calls of zones, plainly: Move, Make, Write, Arrange, New; each keeps zones sound.
  Zones, plainly: new ones; the table by stamp rising: one list and no other; how often a number stands in a list.
  Zones, plainly: how it is found whether a list holds each of an owner's things once, whether zones are sound; how many lie on the table; what each list tells.
  Zones that are sound, plainly: each thing stands in just one place, its own; New refuses what it should.
-/
import Derived.Test.YtdgnlcjhdkcjeaaL2
namespace Go.Proofs.Ytdgnlcjhdkcjeaa

/-- What Move answers. -/
def Zs.moveE (z : Zs) (n tp : Int) : Int :=
  if ¬ (1 ≤ n ∧ n ≤ (z.ts.length : Int)) then 6
  else if tp < 1 ∨ 5 < tp then 2
  else if tp = 2 ∧ (thAt z.ts n).place ≠ 2 ∧ 10 ≤ (z.hd (thAt z.ts n).owner).length then 14
  else if tp = 4 ∧ (((thAt z.ts n).place ≠ 4 ∧ 8 ≤ owned z.ts (thAt z.ts n).owner) ∨ 1099511627776 ≤ z.nx) then 14
  else 0
def Zs.move (z : Zs) (n tp : Int) : Zs := if z.moveE n tp = 0 then z.come n tp else z
theorem moveE_may {z : Zs} {n tp : Int} (h : z.moveE n tp = 0) : z.May n tp := by
  unfold Zs.moveE at h
  split at h
  · cases h
  next h1 =>
  split at h
  · cases h
  next h2 =>
  split at h
  · cases h
  next h3 =>
  split at h
  · cases h
  next h4 =>
  exact ⟨Classical.not_not.1 h1, by omega, by omega, fun e q => Nat.lt_of_not_le fun r => h3 ⟨e, q, r⟩, fun e q => Nat.lt_of_not_le fun r => h4 ⟨e, Or.inl ⟨q, r⟩⟩, fun e => Int.lt_of_not_ge fun r => h4 ⟨e, Or.inr r⟩⟩
theorem Zs.Sound.move {z : Zs} (S : z.Sound) (n tp : Int) : (z.move n tp).Sound := by
  unfold Zs.move
  split
  · next h => exact S.come (moveE_may h)
  · exact S

/-- A thing that is nowhere yet: in the grave. -/
def newTh (card p : Int) : Th := ⟨card, p, 5, 0, 0, 0, 0, 0, 0, 0, false⟩
def Zs.more (z : Zs) (card p : Int) : Zs := { z with ts := z.ts ++ [newTh card p] }
theorem more_there {z : Zs} {card p n : Int} : there (z.more card p).ts n ↔ there z.ts n ∨ n = (z.ts.length : Int) + 1 := by
  unfold there Zs.more
  rw [List.length_append, List.length_singleton]
  omega
theorem more_old {z : Zs} {card p n : Int} (h : there z.ts n) : thAt (z.more card p).ts n = thAt z.ts n := by
  unfold there at h
  unfold thAt Zs.more
  rw [List.getD_eq_getElem?_getD, List.getD_eq_getElem?_getD, List.getElem?_append_left (by omega)]
theorem more_new {z : Zs} {card p : Int} : thAt (z.more card p).ts ((z.ts.length : Int) + 1) = newTh card p := by
  unfold thAt Zs.more
  rw [List.getD_eq_getElem?_getD, show ((z.ts.length : Int) + 1 - 1).toNat = z.ts.length from by omega, List.getElem?_append_right (Nat.le_refl _), Nat.sub_self]
  rfl
theorem more_inn {z : Zs} {card p q pl n : Int} (hpl : pl ≠ 5) : inn (z.more card p).ts q pl n ↔ inn z.ts q pl n := by
  unfold inn
  rw [more_there]
  constructor
  · rintro ⟨h | rfl, h2, h3⟩
    · rw [more_old h] at h2 h3
      exact ⟨h, h2, h3⟩
    · rw [more_new] at h3
      exact absurd h3.symm hpl
  · rintro ⟨h, h2, h3⟩
    rw [more_old h]
    exact ⟨Or.inl h, h2, h3⟩
theorem more_owned {z : Zs} {card p q : Int} : owned (z.more card p).ts q = owned z.ts q := by
  unfold owned Zs.more
  rw [List.countP_append, List.countP_singleton, if_neg (fun h => by have := (onTab_iff.1 h).2; cases this)]
  rfl
theorem Zs.Sound.more {z : Zs} (S : z.Sound) {card p : Int} (hc : 1 ≤ card) (hp : p = 0 ∨ p = 1) (hl : z.ts.length < 2048) : (z.more card p).Sound := by
  refine ⟨?_, S.nx1, S.nx2, ?_, fun q hq => by rw [more_owned]; exact S.tab q hq, S.hand, fun q hq => ⟨(S.dks q hq).1, fun n => by rw [more_inn (by decide)]; exact (S.dks q hq).2 n⟩, fun q hq => ⟨(S.hds q hq).1, fun n => by rw [more_inn (by decide)]; exact (S.hds q hq).2 n⟩, ?_⟩
  · show (z.ts ++ [newTh card p]).length ≤ 2048
    rw [List.length_append, List.length_singleton]
    omega
  · intro t ht
    rcases List.mem_append.1 ht with h | h
    · exact S.each t h
    · rw [List.mem_singleton.1 h]
      exact ⟨hc, hp, ⟨by show (1 : Int) ≤ 5; decide, Int.le_refl _⟩, fun _ => rfl, fun q => by cases q⟩
  · intro a b ha hb pa pb hs
    rw [more_there] at ha hb
    rcases ha with ha | rfl
    · rcases hb with hb | rfl
      · rw [more_old ha] at pa hs
        rw [more_old hb] at pb hs
        exact S.stamps a b ha hb pa pb hs
      · rw [more_new] at pb
        cases pb
    · rw [more_new] at pa
      cases pa
/-- What Make answers. -/
def Zs.makeE (z : Zs) (card p : Int) : Int :=
  if card < 1 ∨ ¬ (p = 0 ∨ p = 1) then 2
  else if 2048 ≤ z.ts.length ∨ 8 ≤ owned z.ts p ∨ 1099511627776 ≤ z.nx then 14
  else 0
def Zs.make (z : Zs) (card p : Int) : Zs := if z.makeE card p = 0 then (z.more card p).come ((z.ts.length : Int) + 1) 4 else z
theorem Zs.Sound.make {z : Zs} (S : z.Sound) (card p : Int) : (z.make card p).Sound := by
  unfold Zs.make
  split
  · next h =>
    unfold Zs.makeE at h
    split at h
    · cases h
    next h1 =>
    split at h
    · cases h
    next h2 =>
    refine (S.more (by omega) (Decidable.not_not.1 fun q => h1 (Or.inr q)) (by omega)).come ⟨more_there.2 (Or.inr rfl), by decide, by decide, fun e => (by cases e), fun _ _ => ?_, fun _ => by show z.nx < _; omega⟩
    rw [more_new, more_owned]
    show owned z.ts p < 8
    omega
  · exact S

/-- What Write answers. -/
def Zs.writeE (z : Zs) (n : Int) (t : Th) : Int :=
  if ¬ (1 ≤ n ∧ n ≤ (z.ts.length : Int)) then 6
  else if (thAt z.ts n).place ≠ 4 ∨ t.card ≠ (thAt z.ts n).card ∨ t.owner ≠ (thAt z.ts n).owner ∨ t.place ≠ (thAt z.ts n).place ∨ t.stamp ≠ (thAt z.ts n).stamp ∨ t.hurt < 0 ∨ t.done < 0 ∨ ¬ ((0 ≤ t.m0 ∧ t.m0 ≤ 99) ∧ (0 ≤ t.m1 ∧ t.m1 ≤ 99) ∧ (0 ≤ t.m2 ∧ t.m2 ≤ 99) ∧ (0 ≤ t.m3 ∧ t.m3 ≤ 99)) then 2
  else 0
def Zs.write (z : Zs) (n : Int) (t : Th) : Zs := if z.writeE n t = 0 then { z with ts := z.ts.set (n - 1).toNat t } else z
theorem Zs.Sound.write {z : Zs} (S : z.Sound) (n : Int) (t : Th) : (z.write n t).Sound := by
  unfold Zs.write
  split
  · next h =>
    unfold Zs.writeE at h
    split at h
    · cases h
    next h1 =>
    split at h
    · cases h
    next h2 =>
    have hn : there z.ts n := Classical.not_not.1 h1
    have e4 : (thAt z.ts n).place = 4 := Decidable.not_not.1 fun q => h2 (Or.inl q)
    have ec : t.card = (thAt z.ts n).card := Decidable.not_not.1 fun q => h2 (Or.inr (Or.inl q))
    have eo : t.owner = (thAt z.ts n).owner := Decidable.not_not.1 fun q => h2 (Or.inr (Or.inr (Or.inl q)))
    have ep : t.place = (thAt z.ts n).place := Decidable.not_not.1 fun q => h2 (Or.inr (Or.inr (Or.inr (Or.inl q))))
    have es : t.stamp = (thAt z.ts n).stamp := Decidable.not_not.1 fun q => h2 (Or.inr (Or.inr (Or.inr (Or.inr (Or.inl q)))))
    have eh : 0 ≤ t.hurt := Int.not_lt.1 fun q => h2 (Or.inr (Or.inr (Or.inr (Or.inr (Or.inr (Or.inl q))))))
    have ed : 0 ≤ t.done := Int.not_lt.1 fun q => h2 (Or.inr (Or.inr (Or.inr (Or.inr (Or.inr (Or.inr (Or.inl q)))))))
    have em : t.marked := Classical.not_not.1 fun q => h2 (Or.inr (Or.inr (Or.inr (Or.inr (Or.inr (Or.inr (Or.inr q)))))))
    have A := S.each _ (there_mem hn)
    have at_ : ∀ m, there z.ts m → (thAt (z.ts.set (n - 1).toNat t) m).owner = (thAt z.ts m).owner ∧ (thAt (z.ts.set (n - 1).toNat t) m).place = (thAt z.ts m).place ∧ (thAt (z.ts.set (n - 1).toNat t) m).stamp = (thAt z.ts m).stamp := fun m hm => by
      rw [thAt_set hn hm]
      split
      · next e => subst e; exact ⟨eo, ep, es⟩
      · exact ⟨rfl, rfl, rfl⟩
    have inn_ : ∀ p pl m, inn (z.ts.set (n - 1).toNat t) p pl m ↔ inn z.ts p pl m := fun p pl m => by
      unfold inn
      rw [there_set]
      constructor
      · rintro ⟨h3, h4, h5⟩
        rw [(at_ m h3).1] at h4
        rw [(at_ m h3).2.1] at h5
        exact ⟨h3, h4, h5⟩
      · rintro ⟨h3, h4, h5⟩
        rw [(at_ m h3).1, (at_ m h3).2.1]
        exact ⟨h3, h4, h5⟩
    refine ⟨by show (z.ts.set _ _).length ≤ _; rw [List.length_set]; exact S.few, S.nx1, S.nx2, ?_, ?_, S.hand, fun p hp => ⟨(S.dks p hp).1, fun m => by rw [inn_]; exact (S.dks p hp).2 m⟩, fun p hp => ⟨(S.hds p hp).1, fun m => by rw [inn_]; exact (S.hds p hp).2 m⟩, ?_⟩
    · intro x hx
      rcases List.mem_or_eq_of_mem_set hx with h | h
      · exact S.each x h
      · rw [h]
        refine ⟨by rw [ec]; exact A.1, by rw [eo]; exact A.2.1, by rw [ep]; exact A.2.2.1, fun q => absurd (ep.trans e4) q, fun _ => ⟨by rw [es]; exact (A.2.2.2.2 e4).1, by rw [es]; exact (A.2.2.2.2 e4).2.1, eh, ed, em⟩⟩
    · intro p hp
      have e := owned_set hn t p
      have h8 := S.tab p hp
      have e2 : onTab p t = onTab p (thAt z.ts n) := by unfold onTab; rw [eo, ep]
      rw [e2] at e
      show owned (z.ts.set (n - 1).toNat t) p ≤ 8
      omega
    · intro a b ha hb pa pb hs
      rw [there_set] at ha hb
      rw [(at_ a ha).2.1] at pa
      rw [(at_ b hb).2.1] at pb
      rw [(at_ a ha).2.2, (at_ b hb).2.2] at hs
      exact S.stamps a b ha hb pa pb hs
  · exact S

/-- Another order of a deck. -/
def Zs.arrange (z : Zs) (p : Int) (l : List Int) : Zs := { z with dk := fun q => if q = p then l else z.dk q }
theorem Zs.Sound.arrange {z : Zs} (S : z.Sound) {p : Int} {l : List Int} (h : Holds z.ts l p 1) : (z.arrange p l).Sound := by
  refine ⟨S.few, S.nx1, S.nx2, S.each, S.tab, S.hand, fun q hq => ?_, S.hds, S.stamps⟩
  show Holds z.ts (if q = p then l else z.dk q) q 1
  split
  · next e => rw [e]; exact h
  · exact S.dks q hq
#print axioms Zs.Sound.make
#print axioms Zs.Sound.come
end Go.Proofs.Ytdgnlcjhdkcjeaa
namespace Go.Proofs.Ytdgnlcjhdkcjeaa

def nums (a k : Nat) : List Int := (List.range k).map fun (i : Nat) => (a : Int) + (i : Int) + 1
theorem nums_mem {a k : Nat} {n : Int} : n ∈ nums a k ↔ (a : Int) + 1 ≤ n ∧ n ≤ (a : Int) + (k : Int) := by
  unfold nums
  rw [List.mem_map]
  constructor
  · rintro ⟨i, hi, rfl⟩
    have := List.mem_range.1 hi
    omega
  · rintro ⟨h1, h2⟩
    exact ⟨(n - a - 1).toNat, List.mem_range.2 (by omega), by omega⟩
theorem nums_nodup (a k : Nat) : (nums a k).Nodup := by
  unfold nums
  refine List.Pairwise.map _ (fun x y h => ?_) List.nodup_range
  intro e
  exact h (by omega)
def newT (p c : Int) : Th := ⟨c, p, 1, 0, 0, 0, 0, 0, 0, 0, false⟩
def newZ (one two : List Int) : Zs where
  ts := one.map (newT 0) ++ two.map (newT 1)
  dk := fun p => if p = 0 then nums 0 one.length else if p = 1 then nums one.length two.length else []
  hd := fun _ => []
  nx := 1
theorem newZ_len (one two : List Int) : (newZ one two).ts.length = one.length + two.length := by simp [newZ]
theorem newZ_at {one two : List Int} {n : Int} (h : there (newZ one two).ts n) : (thAt (newZ one two).ts n).place = 1 ∧ (thAt (newZ one two).ts n).owner = (if n ≤ (one.length : Int) then 0 else 1) := by
  have e := there_at h
  unfold there at h
  rw [newZ_len] at h
  by_cases h1 : n ≤ (one.length : Int)
  · rw [if_pos h1]
    have : (newZ one two).ts[(n - 1).toNat]? = some (newT 0 (one.getD (n - 1).toNat 0)) := by
      show (one.map (newT 0) ++ two.map (newT 1))[(n - 1).toNat]? = _
      have hl : (n - 1).toNat < one.length := by omega
      rw [List.getElem?_append_left (by rw [List.length_map]; exact hl), List.getElem?_map, List.getElem?_eq_getElem hl, List.getD_eq_getElem?_getD, List.getElem?_eq_getElem hl]
      rfl
    rw [this] at e
    rw [← Option.some.inj e]
    exact ⟨rfl, rfl⟩
  · rw [if_neg h1]
    have : (newZ one two).ts[(n - 1).toNat]? = some (newT 1 (two.getD ((n - 1).toNat - one.length) 0)) := by
      show (one.map (newT 0) ++ two.map (newT 1))[(n - 1).toNat]? = _
      have hl : (n - 1).toNat - one.length < two.length := by omega
      rw [List.getElem?_append_right (by rw [List.length_map]; omega), List.length_map, List.getElem?_map, List.getElem?_eq_getElem hl, List.getD_eq_getElem?_getD, List.getElem?_eq_getElem hl]
      rfl
    rw [this] at e
    rw [← Option.some.inj e]
    exact ⟨rfl, rfl⟩
theorem newZ_sound {one two : List Int} (hl : one.length + two.length ≤ 2048) (h1 : ∀ c ∈ one, 1 ≤ c) (h2 : ∀ c ∈ two, 1 ≤ c) : (newZ one two).Sound := by
  have own : ∀ p, owned (newZ one two).ts p = 0 := fun p => by
    unfold owned
    rw [List.countP_eq_zero]
    intro t ht q
    have := (onTab_iff.1 q).2
    rcases List.mem_append.1 ht with h | h
    · obtain ⟨c, _, rfl⟩ := List.mem_map.1 h
      cases this
    · obtain ⟨c, _, rfl⟩ := List.mem_map.1 h
      cases this
  refine ⟨by rw [newZ_len]; exact hl, Int.le_refl _, by show (1 : Int) ≤ 1099511627776; decide, ?_, fun p _ => by rw [own]; exact Nat.zero_le _, fun p _ => Nat.zero_le _, ?_, ?_, ?_⟩
  · intro t ht
    rcases List.mem_append.1 ht with h | h
    · obtain ⟨c, hc, rfl⟩ := List.mem_map.1 h
      exact ⟨h1 c hc, Or.inl rfl, ⟨Int.le_refl _, by show (1 : Int) ≤ 5; decide⟩, fun _ => rfl, fun q => by cases q⟩
    · obtain ⟨c, hc, rfl⟩ := List.mem_map.1 h
      exact ⟨h2 c hc, Or.inr rfl, ⟨Int.le_refl _, by show (1 : Int) ≤ 5; decide⟩, fun _ => rfl, fun q => by cases q⟩
  · rintro p (rfl | rfl)
    · refine ⟨nums_nodup _ _, fun n => ?_⟩
      show n ∈ nums 0 one.length ↔ _
      rw [nums_mem]
      constructor
      · intro h
        have ht : there (newZ one two).ts n := by unfold there; rw [newZ_len]; omega
        have := newZ_at ht
        rw [if_pos (by omega)] at this
        exact ⟨ht, this.2, this.1⟩
      · rintro ⟨ht, ho, _⟩
        have h3 := (newZ_at ht).2
        rw [ho] at h3
        unfold there at ht
        by_cases q : n ≤ (one.length : Int)
        · omega
        · rw [if_neg q] at h3
          cases h3
    · refine ⟨nums_nodup _ _, fun n => ?_⟩
      show n ∈ nums one.length two.length ↔ _
      rw [nums_mem]
      constructor
      · intro h
        have ht : there (newZ one two).ts n := by unfold there; rw [newZ_len]; omega
        have := newZ_at ht
        rw [if_neg (by omega)] at this
        exact ⟨ht, this.2, this.1⟩
      · rintro ⟨ht, ho, _⟩
        have h3 := (newZ_at ht).2
        rw [ho] at h3
        unfold there at ht
        rw [newZ_len] at ht
        by_cases q : n ≤ (one.length : Int)
        · rw [if_pos q] at h3
          cases h3
        · omega
  · intro p _
    refine ⟨List.nodup_nil, fun n => ?_⟩
    constructor
    · intro h
      cases h
    · rintro ⟨ht, _, hp⟩
      rw [(newZ_at ht).1] at hp
      cases hp
  · intro a b ha _ pa
    rw [(newZ_at ha).1] at pa
    cases pa

/-- Two lists that rise by the same order, with the same members, are one. -/
theorem rise_one {r : Int → Int → Prop} (irr : ∀ a, ¬ r a a) (asy : ∀ a b, r a b → ¬ r b a) : ∀ (l m : List Int), l.Pairwise r → m.Pairwise r → (∀ n, n ∈ l ↔ n ∈ m) → l = m
  | [], m, _, _, h => by
    cases m with
    | nil => rfl
    | cons b m => exact absurd ((h b).2 (List.mem_cons_self)) (by simp)
  | a :: l, m, hl, hm, h => by
    cases m with
    | nil => exact absurd ((h a).1 (List.mem_cons_self)) (by simp)
    | cons b m =>
      rw [List.pairwise_cons] at hl hm
      have e : a = b := by
        rcases List.mem_cons.1 ((h a).1 List.mem_cons_self) with q | q
        · exact q
        · rcases List.mem_cons.1 ((h b).2 List.mem_cons_self) with q2 | q2
          · exact q2.symm
          · exact absurd (hm.1 a q) (asy _ _ (hl.1 b q2))
      subst e
      rw [rise_one irr asy l m hl.2 hm.2 fun n => ?_]
      constructor
      · intro hn
        rcases List.mem_cons.1 ((h n).1 (List.mem_cons_of_mem _ hn)) with q | q
        · subst q; exact absurd (hl.1 n hn) (irr n)
        · exact q
      · intro hn
        rcases List.mem_cons.1 ((h n).2 (List.mem_cons_of_mem _ hn)) with q | q
        · subst q; exact absurd (hm.1 n hn) (irr n)
        · exact q
def stOf (ts : List Th) (n : Int) : Int := (thAt ts n).stamp
/-- The table, by stamp rising. -/
def IsTab (ts : List Th) (l : List Int) : Prop := (∀ n, n ∈ l ↔ there ts n ∧ (thAt ts n).place = 4) ∧ l.Pairwise fun a b => stOf ts a < stOf ts b
theorem tab_one {ts : List Th} {l m : List Int} (h1 : IsTab ts l) (h2 : IsTab ts m) : l = m := rise_one (r := fun a b => stOf ts a < stOf ts b) (fun a h => by omega) (fun a b h q => by omega) l m h1.2 h2.2 (fun n => (h1.1 n).trans (h2.1 n).symm)
/-- The table of the first k things, by stamp rising, where stamps may be the same. -/
structure TabUp (ts : List Th) (k : Nat) (l : List Int) : Prop where
  mem : ∀ n, n ∈ l ↔ (1 ≤ n ∧ n ≤ (k : Int)) ∧ (thAt ts n).place = 4
  nd : l.Nodup
  up : l.Pairwise fun a b => stOf ts a ≤ stOf ts b
theorem TabUp.nil (ts : List Th) : TabUp ts 0 [] := ⟨fun n => ⟨fun h => (by cases h), fun h => (by omega)⟩, List.nodup_nil, List.Pairwise.nil⟩
theorem TabUp.skip {ts : List Th} {k : Nat} {l : List Int} (h : TabUp ts k l) (hp : (thAt ts ((k : Int) + 1)).place ≠ 4) : TabUp ts (k + 1) l := ⟨fun n => by
  rw [h.mem]
  constructor
  · rintro ⟨h1, h2⟩
    exact ⟨by omega, h2⟩
  · rintro ⟨h1, h2⟩
    rcases (show n ≤ (k : Int) ∨ n = (k : Int) + 1 from by omega) with q | q
    · exact ⟨by omega, h2⟩
    · rw [q] at h2
      exact absurd h2 hp, h.nd, h.up⟩
theorem TabUp.put {ts : List Th} {k i : Nat} {l : List Int} (h : TabUp ts k l) (hp : (thAt ts ((k : Int) + 1)).place = 4) (hr : ∀ x ∈ l.drop i, stOf ts ((k : Int) + 1) ≤ stOf ts x) (hl : ∀ x ∈ l.take i, stOf ts x ≤ stOf ts ((k : Int) + 1)) : TabUp ts (k + 1) (l.take i ++ ((k : Int) + 1) :: l.drop i) := by
  have hk : ¬ ((k : Int) + 1) ∈ l := fun q => by have := ((h.mem _).1 q).1; omega
  have sp : ∀ n, n ∈ l ↔ n ∈ l.take i ∨ n ∈ l.drop i := fun n => by rw [← List.mem_append, List.take_append_drop]
  have hnd : (l.take i ++ l.drop i).Nodup := by rw [List.take_append_drop]; exact h.nd
  have hup : (l.take i ++ l.drop i).Pairwise fun a b => stOf ts a ≤ stOf ts b := by rw [List.take_append_drop]; exact h.up
  rw [List.nodup_append] at hnd
  rw [List.pairwise_append] at hup
  refine ⟨fun n => ?_, ?_, ?_⟩
  · rw [List.mem_append, List.mem_cons]
    constructor
    · rintro (q | q | q)
      · have := (h.mem n).1 ((sp n).2 (Or.inl q))
        exact ⟨by omega, this.2⟩
      · rw [q]; exact ⟨by omega, hp⟩
      · have := (h.mem n).1 ((sp n).2 (Or.inr q))
        exact ⟨by omega, this.2⟩
    · rintro ⟨h1, h2⟩
      rcases (show n ≤ (k : Int) ∨ n = (k : Int) + 1 from by omega) with q | q
      · rcases (sp n).1 ((h.mem n).2 ⟨by omega, h2⟩) with r | r
        · exact Or.inl r
        · exact Or.inr (Or.inr r)
      · exact Or.inr (Or.inl q)
  · rw [List.nodup_append]
    refine ⟨hnd.1, List.nodup_cons.2 ⟨fun q => hk ((sp _).2 (Or.inr q)), hnd.2.1⟩, fun a ha b hb => ?_⟩
    rcases List.mem_cons.1 hb with q | q
    · rw [q]
      intro e
      rw [e] at ha
      exact hk ((sp _).2 (Or.inl ha))
    · exact hnd.2.2 a ha b q
  · rw [List.pairwise_append]
    refine ⟨hup.1, List.pairwise_cons.2 ⟨hr, hup.2.1⟩, fun a ha b hb => ?_⟩
    rcases List.mem_cons.1 hb with q | q
    · rw [q]; exact hl a ha
    · exact hup.2.2 a ha b q
theorem TabUp.done {z : Zs} (S : z.Sound) {l : List Int} (h : TabUp z.ts z.ts.length l) : IsTab z.ts l := by
  refine ⟨fun n => h.mem n, ?_⟩
  refine List.Pairwise.imp_of_mem ?_ (h.up.and h.nd)
  intro a b ha hb ⟨q1, q2⟩
  have a1 := (h.mem a).1 ha
  have b1 := (h.mem b).1 hb
  exact Int.lt_iff_le_and_ne.2 ⟨q1, fun e => q2 (S.stamps a b a1.1 b1.1 a1.2 b1.2 e)⟩
theorem cnt_nodup {l : List Int} (h : l.Nodup) (n : Int) : l.count n = if n ∈ l then 1 else 0 := by
  split
  · next q => exact h.count.trans (if_pos q)
  · next q => exact List.count_eq_zero.2 q
/-- How many there are on the table: the owner's of the list. -/
theorem IsTab.nodup {ts : List Th} {l : List Int} (h : IsTab ts l) : l.Nodup := h.2.imp fun q e => by rw [e] at q; exact absurd q (Int.lt_irrefl _)
end Go.Proofs.Ytdgnlcjhdkcjeaa
namespace Go.Proofs.Ytdgnlcjhdkcjeaa

theorem getD_mem {l : List Int} {i : Nat} (h : i < l.length) : l.getD i 0 ∈ l := by
  rw [List.getD_eq_getElem?_getD, List.getElem?_eq_getElem h]
  exact List.getElem_mem h
theorem mem_getD {l : List Int} {n : Int} (h : n ∈ l) : ∃ i, i < l.length ∧ l.getD i 0 = n := by
  obtain ⟨i, hi, e⟩ := List.getElem_of_mem h
  exact ⟨i, hi, by rw [List.getD_eq_getElem?_getD, List.getElem?_eq_getElem hi]; exact e⟩
theorem take_next {l : List Int} {i : Nat} (h : i < l.length) : l.take (i + 1) = l.take i ++ [l.getD i 0] := by
  rw [List.take_add_one, List.getD_eq_getElem?_getD, List.getElem?_eq_getElem h]
  rfl
theorem nodup_take {l : List Int} (h : ∀ i, i < l.length → ¬ l.getD i 0 ∈ l.take i) : ∀ k, k ≤ l.length → (l.take k).Nodup
  | 0, _ => by simp
  | k + 1, hk => by
    rw [take_next (by omega), List.nodup_append]
    refine ⟨nodup_take h k (by omega), by simp, fun a ha b hb => ?_⟩
    rw [List.mem_singleton.1 hb]
    intro e
    rw [e] at ha
    exact h k (by omega) ha
theorem take_nodup {l : List Int} (h : l.Nodup) {i : Nat} (hi : i < l.length) : ¬ l.getD i 0 ∈ l.take i := fun q => by
  have h1 : (l.take (i + 1)).Nodup := h.sublist (List.take_sublist _ _)
  rw [take_next hi, List.nodup_append] at h1
  exact h1.2.2 _ q _ (List.mem_singleton.2 rfl) rfl
/-- May the number at place i stand there? -/
def HoldAt (ts : List Th) (l : List Int) (p pl : Int) (i : Nat) : Prop := inn ts p pl (l.getD i 0) ∧ ¬ l.getD i 0 ∈ l.take i
theorem Holds.at {ts : List Th} {l : List Int} {p pl : Int} (h : Holds ts l p pl) {i : Nat} (hi : i < l.length) : HoldAt ts l p pl i := ⟨(h.2 _).1 (getD_mem hi), take_nodup h.1 hi⟩
theorem Holds.of {ts : List Th} {l : List Int} {p pl : Int} (h1 : ∀ i, i < l.length → HoldAt ts l p pl i) (h2 : ∀ n, inn ts p pl n → n ∈ l) : Holds ts l p pl := by
  refine ⟨?_, fun n => ⟨fun q => ?_, h2 n⟩⟩
  · have := nodup_take (fun i hi => (h1 i hi).2) l.length (Nat.le_refl _)
    rwa [List.take_length] at this
  · obtain ⟨i, hi, rfl⟩ := mem_getD q
    exact (h1 i hi).1
/-- Rising, and no two neighbours the same: then no two at all. -/
theorem rise_strict {f : Int → Int} : ∀ {l : List Int}, l.Pairwise (fun a b => f a ≤ f b) → (∀ i, i + 1 < l.length → f (l.getD i 0) ≠ f (l.getD (i + 1) 0)) → l.Pairwise fun a b => f a < f b
  | [], _, _ => List.Pairwise.nil
  | [a], _, _ => List.pairwise_singleton _ _
  | a :: b :: l, h, hn => by
    rw [List.pairwise_cons] at h
    have ih := rise_strict h.2 (fun i hi => by
      have := hn (i + 1) (by simp at hi ⊢; omega)
      simpa using this)
    refine List.pairwise_cons.2 ⟨fun x hx => ?_, ih⟩
    have h1 : f a ≠ f b := by simpa using hn 0 (by simp)
    have h2 := h.1 b List.mem_cons_self
    rcases List.mem_cons.1 hx with q | q
    · rw [q]; omega
    · have h3 := (List.pairwise_cons.1 h.2).1 x q
      omega
theorem rise_apart {f : Int → Int} {l : List Int} (h : l.Pairwise fun a b => f a < f b) {i : Nat} (hi : i + 1 < l.length) : f (l.getD i 0) ≠ f (l.getD (i + 1) 0) := by
  have := List.pairwise_iff_getElem.1 h i (i + 1) (by omega) hi (by omega)
  rw [List.getD_eq_getElem?_getD, List.getD_eq_getElem?_getD, List.getElem?_eq_getElem hi, List.getElem?_eq_getElem (show i < l.length by omega)]
  show f l[i] ≠ f l[i + 1]
  omega
theorem stamps_of {ts : List Th} {l : List Int} (h : TabUp ts ts.length l) (hs : l.Pairwise fun a b => stOf ts a < stOf ts b) : ∀ n m, there ts n → there ts m → (thAt ts n).place = 4 → (thAt ts m).place = 4 → (thAt ts n).stamp = (thAt ts m).stamp → n = m := by
  intro n m hn hm pn pm e
  obtain ⟨i, hi, rfl⟩ := List.getElem_of_mem ((h.mem n).2 ⟨hn, pn⟩)
  obtain ⟨j, hj, rfl⟩ := List.getElem_of_mem ((h.mem m).2 ⟨hm, pm⟩)
  have e' : stOf ts l[i] = stOf ts l[j] := e
  rcases Nat.lt_trichotomy i j with q | q | q
  · have := List.pairwise_iff_getElem.1 hs i j hi hj q
    omega
  · subst q; rfl
  · have := List.pairwise_iff_getElem.1 hs j i hj hi q
    omega
theorem nums_next (a k : Nat) : nums a (k + 1) = nums a k ++ [(a : Int) + (k : Int) + 1] := by
  unfold nums
  rw [List.range_succ, List.map_append]
  rfl
theorem owned_nums (ts : List Th) (p : Int) : ∀ k, k ≤ ts.length → ((nums 0 k).filter fun n => onTab p (thAt ts n)).length = (ts.take k).countP (onTab p)
  | 0, _ => by simp [nums]
  | k + 1, hk => by
    have hl : k < ts.length := by omega
    have e : thAt ts (((0 : Nat) : Int) + (k : Int) + 1) = ts[k] := by
      unfold thAt
      rw [show (((0 : Nat) : Int) + (k : Int) + 1 - 1).toNat = k from by omega, List.getD_eq_getElem?_getD, List.getElem?_eq_getElem hl]
      rfl
    rw [nums_next, List.filter_append, List.length_append, owned_nums ts p k (by omega), List.take_add_one, List.getElem?_eq_getElem hl, Option.toList_some, List.countP_append, List.countP_singleton, List.filter_cons, List.filter_nil, e]
    split <;> rfl
theorem IsTab.owned {ts : List Th} {l : List Int} (h : IsTab ts l) (p : Int) : (l.filter fun n => decide ((thAt ts n).owner = p)).length = owned ts p := by
  have e := owned_nums ts p ts.length (Nat.le_refl _)
  rw [List.take_length] at e
  unfold Go.Proofs.Ytdgnlcjhdkcjeaa.owned
  rw [← e]
  refine List.Perm.length_eq ((List.perm_ext_iff_of_nodup (h.nodup.filter _) ((nums_nodup _ _).filter _)).2 fun n => ?_)
  rw [List.mem_filter, List.mem_filter, h.1, nums_mem, onTab_iff]
  unfold there
  simp
  constructor
  · rintro ⟨⟨h1, h2⟩, h3⟩; exact ⟨by omega, h3, h2⟩
  · rintro ⟨h1, h2, h3⟩; exact ⟨⟨by omega, h3⟩, h2⟩
/-- The numbers of an owner's things in a place. -/
def inL (z : Zs) (tab : List Int) (p pl : Int) : List Int := if pl = 1 then z.dk p else if pl = 2 then z.hd p else (if pl = 4 then tab else nums 0 z.ts.length).filter fun n => decide ((thAt z.ts n).owner = p) && decide ((thAt z.ts n).place = pl)
end Go.Proofs.Ytdgnlcjhdkcjeaa
namespace Go.Proofs.Ytdgnlcjhdkcjeaa

theorem Zs.Sound.inDeck {z : Zs} (S : z.Sound) {n : Int} (hn : there z.ts n) {p : Int} (hp : p = 0 ∨ p = 1) : (z.dk p).count n = if (thAt z.ts n).owner = p ∧ (thAt z.ts n).place = 1 then 1 else 0 := by
  rw [cnt_nodup (S.dks p hp).1]
  by_cases h : (thAt z.ts n).owner = p ∧ (thAt z.ts n).place = 1
  · rw [if_pos h, if_pos (((S.dks p hp).2 n).2 ⟨hn, h⟩)]
  · rw [if_neg h, if_neg (fun q => h (((S.dks p hp).2 n).1 q).2)]
theorem Zs.Sound.inHand {z : Zs} (S : z.Sound) {n : Int} (hn : there z.ts n) {p : Int} (hp : p = 0 ∨ p = 1) : (z.hd p).count n = if (thAt z.ts n).owner = p ∧ (thAt z.ts n).place = 2 then 1 else 0 := by
  rw [cnt_nodup (S.hds p hp).1]
  by_cases h : (thAt z.ts n).owner = p ∧ (thAt z.ts n).place = 2
  · rw [if_pos h, if_pos (((S.hds p hp).2 n).2 ⟨hn, h⟩)]
  · rw [if_neg h, if_neg (fun q => h (((S.hds p hp).2 n).1 q).2)]
theorem IsTab.cnt {ts : List Th} {l : List Int} (h : IsTab ts l) {n : Int} (hn : there ts n) : l.count n = if (thAt ts n).place = 4 then 1 else 0 := by
  rw [cnt_nodup h.nodup]
  by_cases q : (thAt ts n).place = 4
  · rw [if_pos q, if_pos ((h.1 n).2 ⟨hn, q⟩)]
  · rw [if_neg q, if_neg (fun r => q ((h.1 n).1 r).2)]
/-- EACH IN ONE PLACE. -/
theorem Zs.Sound.placed {z : Zs} (S : z.Sound) {tab : List Int} (T : IsTab z.ts tab) {n : Int} (hn : there z.ts n) {o : Int} (ho : (thAt z.ts n).owner = o) :
    ((z.dk o).count n = if (thAt z.ts n).place = 1 then 1 else 0) ∧ ((z.hd o).count n = if (thAt z.ts n).place = 2 then 1 else 0) ∧ (tab.count n = if (thAt z.ts n).place = 4 then 1 else 0) ∧ (z.dk (1 - o)).count n = 0 ∧ (z.hd (1 - o)).count n = 0 := by
  have h01 := S.own hn
  rw [ho] at h01
  have h10 : 1 - o = 0 ∨ 1 - o = 1 := by omega
  refine ⟨?_, ?_, T.cnt hn, ?_, ?_⟩
  · rw [S.inDeck hn h01]; simp [ho]
  · rw [S.inHand hn h01]; simp [ho]
  · rw [S.inDeck hn h10, if_neg (fun q => by have := q.1; omega)]
  · rw [S.inHand hn h10, if_neg (fun q => by have := q.1; omega)]
/-- The table's stamps rise, and lie below the next one. -/
theorem IsTab.stamps {z : Zs} (S : z.Sound) {tab : List Int} (T : IsTab z.ts tab) {i : Nat} (hi : i < tab.length) : there z.ts (tab.getD i 0) ∧ (thAt z.ts (tab.getD i 0)).place = 4 ∧ 1 ≤ stOf z.ts (tab.getD i 0) ∧ stOf z.ts (tab.getD i 0) < z.nx ∧ ∀ j, j < i → stOf z.ts (tab.getD j 0) < stOf z.ts (tab.getD i 0) := by
  obtain ⟨h1, h2⟩ := (T.1 _).1 (getD_mem hi)
  have A := (S.each _ (there_mem h1)).2.2.2.2 h2
  refine ⟨h1, h2, A.1, A.2.1, fun j hj => ?_⟩
  have := List.pairwise_iff_getElem.1 T.2 j i (by omega) hi hj
  rw [List.getD_eq_getElem?_getD, List.getD_eq_getElem?_getD, List.getElem?_eq_getElem hi, List.getElem?_eq_getElem (show j < tab.length by omega)]
  exact this
/-- What New answers. -/
def newE (one two : List Int) : Int := if 2048 < one.length + two.length then 3 else if (one ++ two).any (fun c => decide (c < 1)) = true then 2 else 0
theorem newE_ok {one two : List Int} (h : newE one two = 0) : (newZ one two).Sound := by
  unfold newE at h
  split at h
  · cases h
  next h1 =>
  split at h
  · cases h
  next h2 =>
  have h3 : ∀ c ∈ one ++ two, 1 ≤ c := fun c hc => by
    refine Int.not_lt.1 fun q => h2 (List.any_eq_true.2 ⟨c, hc, ?_⟩)
    simp only [decide_eq_true_eq]
    omega
  exact newZ_sound (by omega) (fun c hc => h3 c (List.mem_append_left _ hc)) (fun c hc => h3 c (List.mem_append_right _ hc))
/-- What From answers of zones that are told: they themselves, where they are sound. -/
structure Told (z : Zs) (ts : List Th) (d h : Int → List Int) (nx : Int) : Prop where
  ts : z.ts = ts
  nx : z.nx = nx
  dk : ∀ p, p = 0 ∨ p = 1 → z.dk p = d p
  hd : ∀ p, p = 0 ∨ p = 1 → z.hd p = h p
theorem Told.sound {z y : Zs} (h : Told y z.ts z.dk z.hd z.nx) (S : z.Sound) : y.Sound := by
  refine ⟨by rw [h.ts]; exact S.few, by rw [h.nx]; exact S.nx1, by rw [h.nx]; exact S.nx2, by rw [h.ts, h.nx]; exact S.each, by rw [h.ts]; exact S.tab, fun p hp => by rw [h.hd p hp]; exact S.hand p hp, fun p hp => by rw [h.ts, h.dk p hp]; exact S.dks p hp, fun p hp => by rw [h.ts, h.hd p hp]; exact S.hds p hp, by rw [h.ts]; exact S.stamps⟩
/-- A list without a number twice, all of them from 1 to N, has at most N. -/
theorem nodup_few {l : List Int} {N : Nat} (h : l.Nodup) (hm : ∀ n ∈ l, 1 ≤ n ∧ n ≤ (N : Int)) : l.length ≤ N := by
  have e : l.Perm ((nums 0 N).filter fun n => decide (n ∈ l)) := (List.perm_ext_iff_of_nodup h ((nums_nodup _ _).filter _)).2 fun n => by
    rw [List.mem_filter, nums_mem]
    simp only [decide_eq_true_eq]
    exact ⟨fun q => ⟨by have := hm n q; omega, q⟩, fun q => q.2⟩
  rw [e.length_eq]
  refine Nat.le_trans (List.length_filter_le _ _) ?_
  simp [nums]
theorem Zs.Sound.deckFew {z : Zs} (S : z.Sound) {p : Int} (hp : p = 0 ∨ p = 1) : (z.dk p).length ≤ z.ts.length := nodup_few (S.dks p hp).1 fun n hn => (((S.dks p hp).2 n).1 hn).1
theorem Zs.Sound.handFew {z : Zs} (S : z.Sound) {p : Int} (hp : p = 0 ∨ p = 1) : (z.hd p).length ≤ z.ts.length := nodup_few (S.hds p hp).1 fun n hn => (((S.hds p hp).2 n).1 hn).1
theorem IsTab.few {ts : List Th} {l : List Int} (h : IsTab ts l) : l.length ≤ ts.length := nodup_few h.nodup fun n hn => ((h.1 n).1 hn).1
end Go.Proofs.Ytdgnlcjhdkcjeaa
