/-
  The calls of zones, plainly: Move, Make, Write, Arrange, New; each keeps zones sound.
-/
import Derived.Test.YtogpgldbbegniaaZnP
namespace Go.Proofs.Ytogpgldbbegniaa

/-- What Move answers. -/
def Zs.moveE (z : Zs) (n tp : Int) : Int :=
  if ¬ (1 ≤ n ∧ n ≤ (z.ts.length : Int)) then 6
  else if tp < 1 ∨ 5 < tp then 2
  else if tp = 2 ∧ (thAt z.ts n).place ≠ 2 ∧ 10 ≤ (z.hd (thAt z.ts n).owner).length then 14
  else if tp = 4 ∧ (((thAt z.ts n).place ≠ 4 ∧ 8 ≤ owned z.ts (thAt z.ts n).owner) ∨ 1099511627776 ≤ z.nx) then 14
  else 0
def Zs.move (z : Zs) (n tp : Int) : Zs := if z.moveE n tp = 0 then z.come n tp else z
theorem moveE_may {z : Zs} {n tp : Int} (h : z.moveE n tp = 0) : z.May n tp := by
  unfold Zs.moveE at h
  split at h
  · cases h
  next h1 =>
  split at h
  · cases h
  next h2 =>
  split at h
  · cases h
  next h3 =>
  split at h
  · cases h
  next h4 =>
  exact ⟨Classical.not_not.1 h1, by omega, by omega, fun e q => Nat.lt_of_not_le fun r => h3 ⟨e, q, r⟩, fun e q => Nat.lt_of_not_le fun r => h4 ⟨e, Or.inl ⟨q, r⟩⟩, fun e => Int.lt_of_not_ge fun r => h4 ⟨e, Or.inr r⟩⟩
theorem Zs.Sound.move {z : Zs} (S : z.Sound) (n tp : Int) : (z.move n tp).Sound := by
  unfold Zs.move
  split
  · next h => exact S.come (moveE_may h)
  · exact S

/-- A thing that is nowhere yet: in the grave. -/
def newTh (card p : Int) : Th := ⟨card, p, 5, 0, 0, 0, 0, 0, 0, 0, false⟩
def Zs.more (z : Zs) (card p : Int) : Zs := { z with ts := z.ts ++ [newTh card p] }
theorem more_there {z : Zs} {card p n : Int} : there (z.more card p).ts n ↔ there z.ts n ∨ n = (z.ts.length : Int) + 1 := by
  unfold there Zs.more
  rw [List.length_append, List.length_singleton]
  omega
theorem more_old {z : Zs} {card p n : Int} (h : there z.ts n) : thAt (z.more card p).ts n = thAt z.ts n := by
  unfold there at h
  unfold thAt Zs.more
  rw [List.getD_eq_getElem?_getD, List.getD_eq_getElem?_getD, List.getElem?_append_left (by omega)]
theorem more_new {z : Zs} {card p : Int} : thAt (z.more card p).ts ((z.ts.length : Int) + 1) = newTh card p := by
  unfold thAt Zs.more
  rw [List.getD_eq_getElem?_getD, show ((z.ts.length : Int) + 1 - 1).toNat = z.ts.length from by omega, List.getElem?_append_right (Nat.le_refl _), Nat.sub_self]
  rfl
theorem more_inn {z : Zs} {card p q pl n : Int} (hpl : pl ≠ 5) : inn (z.more card p).ts q pl n ↔ inn z.ts q pl n := by
  unfold inn
  rw [more_there]
  constructor
  · rintro ⟨h | rfl, h2, h3⟩
    · rw [more_old h] at h2 h3
      exact ⟨h, h2, h3⟩
    · rw [more_new] at h3
      exact absurd h3.symm hpl
  · rintro ⟨h, h2, h3⟩
    rw [more_old h]
    exact ⟨Or.inl h, h2, h3⟩
theorem more_owned {z : Zs} {card p q : Int} : owned (z.more card p).ts q = owned z.ts q := by
  unfold owned Zs.more
  rw [List.countP_append, List.countP_singleton, if_neg (fun h => by have := (onTab_iff.1 h).2; cases this)]
  rfl
theorem Zs.Sound.more {z : Zs} (S : z.Sound) {card p : Int} (hc : 1 ≤ card) (hp : p = 0 ∨ p = 1) (hl : z.ts.length < 2048) : (z.more card p).Sound := by
  refine ⟨?_, S.nx1, S.nx2, ?_, fun q hq => by rw [more_owned]; exact S.tab q hq, S.hand, fun q hq => ⟨(S.dks q hq).1, fun n => by rw [more_inn (by decide)]; exact (S.dks q hq).2 n⟩, fun q hq => ⟨(S.hds q hq).1, fun n => by rw [more_inn (by decide)]; exact (S.hds q hq).2 n⟩, ?_⟩
  · show (z.ts ++ [newTh card p]).length ≤ 2048
    rw [List.length_append, List.length_singleton]
    omega
  · intro t ht
    rcases List.mem_append.1 ht with h | h
    · exact S.each t h
    · rw [List.mem_singleton.1 h]
      exact ⟨hc, hp, ⟨by show (1 : Int) ≤ 5; decide, Int.le_refl _⟩, fun _ => rfl, fun q => by cases q⟩
  · intro a b ha hb pa pb hs
    rw [more_there] at ha hb
    rcases ha with ha | rfl
    · rcases hb with hb | rfl
      · rw [more_old ha] at pa hs
        rw [more_old hb] at pb hs
        exact S.stamps a b ha hb pa pb hs
      · rw [more_new] at pb
        cases pb
    · rw [more_new] at pa
      cases pa
/-- What Make answers. -/
def Zs.makeE (z : Zs) (card p : Int) : Int :=
  if card < 1 ∨ ¬ (p = 0 ∨ p = 1) then 2
  else if 2048 ≤ z.ts.length ∨ 8 ≤ owned z.ts p ∨ 1099511627776 ≤ z.nx then 14
  else 0
def Zs.make (z : Zs) (card p : Int) : Zs := if z.makeE card p = 0 then (z.more card p).come ((z.ts.length : Int) + 1) 4 else z
theorem Zs.Sound.make {z : Zs} (S : z.Sound) (card p : Int) : (z.make card p).Sound := by
  unfold Zs.make
  split
  · next h =>
    unfold Zs.makeE at h
    split at h
    · cases h
    next h1 =>
    split at h
    · cases h
    next h2 =>
    refine (S.more (by omega) (Decidable.not_not.1 fun q => h1 (Or.inr q)) (by omega)).come ⟨more_there.2 (Or.inr rfl), by decide, by decide, fun e => (by cases e), fun _ _ => ?_, fun _ => by show z.nx < _; omega⟩
    rw [more_new, more_owned]
    show owned z.ts p < 8
    omega
  · exact S

/-- What Write answers. -/
def Zs.writeE (z : Zs) (n : Int) (t : Th) : Int :=
  if ¬ (1 ≤ n ∧ n ≤ (z.ts.length : Int)) then 6
  else if (thAt z.ts n).place ≠ 4 ∨ t.card ≠ (thAt z.ts n).card ∨ t.owner ≠ (thAt z.ts n).owner ∨ t.place ≠ (thAt z.ts n).place ∨ t.stamp ≠ (thAt z.ts n).stamp ∨ t.hurt < 0 ∨ t.done < 0 ∨ ¬ ((0 ≤ t.m0 ∧ t.m0 ≤ 99) ∧ (0 ≤ t.m1 ∧ t.m1 ≤ 99) ∧ (0 ≤ t.m2 ∧ t.m2 ≤ 99) ∧ (0 ≤ t.m3 ∧ t.m3 ≤ 99)) then 2
  else 0
def Zs.write (z : Zs) (n : Int) (t : Th) : Zs := if z.writeE n t = 0 then { z with ts := z.ts.set (n - 1).toNat t } else z
theorem Zs.Sound.write {z : Zs} (S : z.Sound) (n : Int) (t : Th) : (z.write n t).Sound := by
  unfold Zs.write
  split
  · next h =>
    unfold Zs.writeE at h
    split at h
    · cases h
    next h1 =>
    split at h
    · cases h
    next h2 =>
    have hn : there z.ts n := Classical.not_not.1 h1
    have e4 : (thAt z.ts n).place = 4 := Decidable.not_not.1 fun q => h2 (Or.inl q)
    have ec : t.card = (thAt z.ts n).card := Decidable.not_not.1 fun q => h2 (Or.inr (Or.inl q))
    have eo : t.owner = (thAt z.ts n).owner := Decidable.not_not.1 fun q => h2 (Or.inr (Or.inr (Or.inl q)))
    have ep : t.place = (thAt z.ts n).place := Decidable.not_not.1 fun q => h2 (Or.inr (Or.inr (Or.inr (Or.inl q))))
    have es : t.stamp = (thAt z.ts n).stamp := Decidable.not_not.1 fun q => h2 (Or.inr (Or.inr (Or.inr (Or.inr (Or.inl q)))))
    have eh : 0 ≤ t.hurt := Int.not_lt.1 fun q => h2 (Or.inr (Or.inr (Or.inr (Or.inr (Or.inr (Or.inl q))))))
    have ed : 0 ≤ t.done := Int.not_lt.1 fun q => h2 (Or.inr (Or.inr (Or.inr (Or.inr (Or.inr (Or.inr (Or.inl q)))))))
    have em : t.marked := Classical.not_not.1 fun q => h2 (Or.inr (Or.inr (Or.inr (Or.inr (Or.inr (Or.inr (Or.inr q)))))))
    have A := S.each _ (there_mem hn)
    have at_ : ∀ m, there z.ts m → (thAt (z.ts.set (n - 1).toNat t) m).owner = (thAt z.ts m).owner ∧ (thAt (z.ts.set (n - 1).toNat t) m).place = (thAt z.ts m).place ∧ (thAt (z.ts.set (n - 1).toNat t) m).stamp = (thAt z.ts m).stamp := fun m hm => by
      rw [thAt_set hn hm]
      split
      · next e => subst e; exact ⟨eo, ep, es⟩
      · exact ⟨rfl, rfl, rfl⟩
    have inn_ : ∀ p pl m, inn (z.ts.set (n - 1).toNat t) p pl m ↔ inn z.ts p pl m := fun p pl m => by
      unfold inn
      rw [there_set]
      constructor
      · rintro ⟨h3, h4, h5⟩
        rw [(at_ m h3).1] at h4
        rw [(at_ m h3).2.1] at h5
        exact ⟨h3, h4, h5⟩
      · rintro ⟨h3, h4, h5⟩
        rw [(at_ m h3).1, (at_ m h3).2.1]
        exact ⟨h3, h4, h5⟩
    refine ⟨by show (z.ts.set _ _).length ≤ _; rw [List.length_set]; exact S.few, S.nx1, S.nx2, ?_, ?_, S.hand, fun p hp => ⟨(S.dks p hp).1, fun m => by rw [inn_]; exact (S.dks p hp).2 m⟩, fun p hp => ⟨(S.hds p hp).1, fun m => by rw [inn_]; exact (S.hds p hp).2 m⟩, ?_⟩
    · intro x hx
      rcases List.mem_or_eq_of_mem_set hx with h | h
      · exact S.each x h
      · rw [h]
        refine ⟨by rw [ec]; exact A.1, by rw [eo]; exact A.2.1, by rw [ep]; exact A.2.2.1, fun q => absurd (ep.trans e4) q, fun _ => ⟨by rw [es]; exact (A.2.2.2.2 e4).1, by rw [es]; exact (A.2.2.2.2 e4).2.1, eh, ed, em⟩⟩
    · intro p hp
      have e := owned_set hn t p
      have h8 := S.tab p hp
      have e2 : onTab p t = onTab p (thAt z.ts n) := by unfold onTab; rw [eo, ep]
      rw [e2] at e
      show owned (z.ts.set (n - 1).toNat t) p ≤ 8
      omega
    · intro a b ha hb pa pb hs
      rw [there_set] at ha hb
      rw [(at_ a ha).2.1] at pa
      rw [(at_ b hb).2.1] at pb
      rw [(at_ a ha).2.2, (at_ b hb).2.2] at hs
      exact S.stamps a b ha hb pa pb hs
  · exact S

/-- Another order of a deck. -/
def Zs.arrange (z : Zs) (p : Int) (l : List Int) : Zs := { z with dk := fun q => if q = p then l else z.dk q }
theorem Zs.Sound.arrange {z : Zs} (S : z.Sound) {p : Int} {l : List Int} (h : Holds z.ts l p 1) : (z.arrange p l).Sound := by
  refine ⟨S.few, S.nx1, S.nx2, S.each, S.tab, S.hand, fun q hq => ?_, S.hds, S.stamps⟩
  show Holds z.ts (if q = p then l else z.dk q) q 1
  split
  · next e => rw [e]; exact h
  · exact S.dks q hq
#print axioms Zs.Sound.make
#print axioms Zs.Sound.come
end Go.Proofs.Ytogpgldbbegniaa
