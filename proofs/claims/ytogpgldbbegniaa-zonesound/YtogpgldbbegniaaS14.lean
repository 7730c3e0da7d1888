/-
  Zones, plainly: how it is found whether a list holds each of an owner's things once, whether zones are sound; how many lie on the table; what each list tells.
  Zones that are sound, plainly: each thing stands in just one place, its own; New refuses what it should.
-/
import Derived.Test.YtogpgldbbegniaaZnT
namespace Go.Proofs.Ytogpgldbbegniaa

theorem getD_mem {l : List Int} {i : Nat} (h : i < l.length) : l.getD i 0 ∈ l := by
  rw [List.getD_eq_getElem?_getD, List.getElem?_eq_getElem h]
  exact List.getElem_mem h
theorem mem_getD {l : List Int} {n : Int} (h : n ∈ l) : ∃ i, i < l.length ∧ l.getD i 0 = n := by
  obtain ⟨i, hi, e⟩ := List.getElem_of_mem h
  exact ⟨i, hi, by rw [List.getD_eq_getElem?_getD, List.getElem?_eq_getElem hi]; exact e⟩
theorem take_next {l : List Int} {i : Nat} (h : i < l.length) : l.take (i + 1) = l.take i ++ [l.getD i 0] := by
  rw [List.take_add_one, List.getD_eq_getElem?_getD, List.getElem?_eq_getElem h]
  rfl
theorem nodup_take {l : List Int} (h : ∀ i, i < l.length → ¬ l.getD i 0 ∈ l.take i) : ∀ k, k ≤ l.length → (l.take k).Nodup
  | 0, _ => by simp
  | k + 1, hk => by
    rw [take_next (by omega), List.nodup_append]
    refine ⟨nodup_take h k (by omega), by simp, fun a ha b hb => ?_⟩
    rw [List.mem_singleton.1 hb]
    intro e
    rw [e] at ha
    exact h k (by omega) ha
theorem take_nodup {l : List Int} (h : l.Nodup) {i : Nat} (hi : i < l.length) : ¬ l.getD i 0 ∈ l.take i := fun q => by
  have h1 : (l.take (i + 1)).Nodup := h.sublist (List.take_sublist _ _)
  rw [take_next hi, List.nodup_append] at h1
  exact h1.2.2 _ q _ (List.mem_singleton.2 rfl) rfl
/-- May the number at place i stand there? -/
def HoldAt (ts : List Th) (l : List Int) (p pl : Int) (i : Nat) : Prop := inn ts p pl (l.getD i 0) ∧ ¬ l.getD i 0 ∈ l.take i
theorem Holds.at {ts : List Th} {l : List Int} {p pl : Int} (h : Holds ts l p pl) {i : Nat} (hi : i < l.length) : HoldAt ts l p pl i := ⟨(h.2 _).1 (getD_mem hi), take_nodup h.1 hi⟩
theorem Holds.of {ts : List Th} {l : List Int} {p pl : Int} (h1 : ∀ i, i < l.length → HoldAt ts l p pl i) (h2 : ∀ n, inn ts p pl n → n ∈ l) : Holds ts l p pl := by
  refine ⟨?_, fun n => ⟨fun q => ?_, h2 n⟩⟩
  · have := nodup_take (fun i hi => (h1 i hi).2) l.length (Nat.le_refl _)
    rwa [List.take_length] at this
  · obtain ⟨i, hi, rfl⟩ := mem_getD q
    exact (h1 i hi).1
/-- Rising, and no two neighbours the same: then no two at all. -/
theorem rise_strict {f : Int → Int} : ∀ {l : List Int}, l.Pairwise (fun a b => f a ≤ f b) → (∀ i, i + 1 < l.length → f (l.getD i 0) ≠ f (l.getD (i + 1) 0)) → l.Pairwise fun a b => f a < f b
  | [], _, _ => List.Pairwise.nil
  | [a], _, _ => List.pairwise_singleton _ _
  | a :: b :: l, h, hn => by
    rw [List.pairwise_cons] at h
    have ih := rise_strict h.2 (fun i hi => by
      have := hn (i + 1) (by simp at hi ⊢; omega)
      simpa using this)
    refine List.pairwise_cons.2 ⟨fun x hx => ?_, ih⟩
    have h1 : f a ≠ f b := by simpa using hn 0 (by simp)
    have h2 := h.1 b List.mem_cons_self
    rcases List.mem_cons.1 hx with q | q
    · rw [q]; omega
    · have h3 := (List.pairwise_cons.1 h.2).1 x q
      omega
theorem rise_apart {f : Int → Int} {l : List Int} (h : l.Pairwise fun a b => f a < f b) {i : Nat} (hi : i + 1 < l.length) : f (l.getD i 0) ≠ f (l.getD (i + 1) 0) := by
  have := List.pairwise_iff_getElem.1 h i (i + 1) (by omega) hi (by omega)
  rw [List.getD_eq_getElem?_getD, List.getD_eq_getElem?_getD, List.getElem?_eq_getElem hi, List.getElem?_eq_getElem (show i < l.length by omega)]
  show f l[i] ≠ f l[i + 1]
  omega
theorem stamps_of {ts : List Th} {l : List Int} (h : TabUp ts ts.length l) (hs : l.Pairwise fun a b => stOf ts a < stOf ts b) : ∀ n m, there ts n → there ts m → (thAt ts n).place = 4 → (thAt ts m).place = 4 → (thAt ts n).stamp = (thAt ts m).stamp → n = m := by
  intro n m hn hm pn pm e
  obtain ⟨i, hi, rfl⟩ := List.getElem_of_mem ((h.mem n).2 ⟨hn, pn⟩)
  obtain ⟨j, hj, rfl⟩ := List.getElem_of_mem ((h.mem m).2 ⟨hm, pm⟩)
  have e' : stOf ts l[i] = stOf ts l[j] := e
  rcases Nat.lt_trichotomy i j with q | q | q
  · have := List.pairwise_iff_getElem.1 hs i j hi hj q
    omega
  · subst q; rfl
  · have := List.pairwise_iff_getElem.1 hs j i hj hi q
    omega
theorem nums_next (a k : Nat) : nums a (k + 1) = nums a k ++ [(a : Int) + (k : Int) + 1] := by
  unfold nums
  rw [List.range_succ, List.map_append]
  rfl
theorem owned_nums (ts : List Th) (p : Int) : ∀ k, k ≤ ts.length → ((nums 0 k).filter fun n => onTab p (thAt ts n)).length = (ts.take k).countP (onTab p)
  | 0, _ => by simp [nums]
  | k + 1, hk => by
    have hl : k < ts.length := by omega
    have e : thAt ts (((0 : Nat) : Int) + (k : Int) + 1) = ts[k] := by
      unfold thAt
      rw [show (((0 : Nat) : Int) + (k : Int) + 1 - 1).toNat = k from by omega, List.getD_eq_getElem?_getD, List.getElem?_eq_getElem hl]
      rfl
    rw [nums_next, List.filter_append, List.length_append, owned_nums ts p k (by omega), List.take_add_one, List.getElem?_eq_getElem hl, Option.toList_some, List.countP_append, List.countP_singleton, List.filter_cons, List.filter_nil, e]
    split <;> rfl
theorem IsTab.owned {ts : List Th} {l : List Int} (h : IsTab ts l) (p : Int) : (l.filter fun n => decide ((thAt ts n).owner = p)).length = owned ts p := by
  have e := owned_nums ts p ts.length (Nat.le_refl _)
  rw [List.take_length] at e
  unfold Go.Proofs.Ytogpgldbbegniaa.owned
  rw [← e]
  refine List.Perm.length_eq ((List.perm_ext_iff_of_nodup (h.nodup.filter _) ((nums_nodup _ _).filter _)).2 fun n => ?_)
  rw [List.mem_filter, List.mem_filter, h.1, nums_mem, onTab_iff]
  unfold there
  simp
  constructor
  · rintro ⟨⟨h1, h2⟩, h3⟩; exact ⟨by omega, h3, h2⟩
  · rintro ⟨h1, h2, h3⟩; exact ⟨⟨by omega, h3⟩, h2⟩
/-- The numbers of an owner's things in a place. -/
def inL (z : Zs) (tab : List Int) (p pl : Int) : List Int := if pl = 1 then z.dk p else if pl = 2 then z.hd p else (if pl = 4 then tab else nums 0 z.ts.length).filter fun n => decide ((thAt z.ts n).owner = p) && decide ((thAt z.ts n).place = pl)
end Go.Proofs.Ytogpgldbbegniaa
namespace Go.Proofs.Ytogpgldbbegniaa

theorem Zs.Sound.inDeck {z : Zs} (S : z.Sound) {n : Int} (hn : there z.ts n) {p : Int} (hp : p = 0 ∨ p = 1) : (z.dk p).count n = if (thAt z.ts n).owner = p ∧ (thAt z.ts n).place = 1 then 1 else 0 := by
  rw [cnt_nodup (S.dks p hp).1]
  by_cases h : (thAt z.ts n).owner = p ∧ (thAt z.ts n).place = 1
  · rw [if_pos h, if_pos (((S.dks p hp).2 n).2 ⟨hn, h⟩)]
  · rw [if_neg h, if_neg (fun q => h (((S.dks p hp).2 n).1 q).2)]
theorem Zs.Sound.inHand {z : Zs} (S : z.Sound) {n : Int} (hn : there z.ts n) {p : Int} (hp : p = 0 ∨ p = 1) : (z.hd p).count n = if (thAt z.ts n).owner = p ∧ (thAt z.ts n).place = 2 then 1 else 0 := by
  rw [cnt_nodup (S.hds p hp).1]
  by_cases h : (thAt z.ts n).owner = p ∧ (thAt z.ts n).place = 2
  · rw [if_pos h, if_pos (((S.hds p hp).2 n).2 ⟨hn, h⟩)]
  · rw [if_neg h, if_neg (fun q => h (((S.hds p hp).2 n).1 q).2)]
theorem IsTab.cnt {ts : List Th} {l : List Int} (h : IsTab ts l) {n : Int} (hn : there ts n) : l.count n = if (thAt ts n).place = 4 then 1 else 0 := by
  rw [cnt_nodup h.nodup]
  by_cases q : (thAt ts n).place = 4
  · rw [if_pos q, if_pos ((h.1 n).2 ⟨hn, q⟩)]
  · rw [if_neg q, if_neg (fun r => q ((h.1 n).1 r).2)]
/-- EACH IN ONE PLACE. -/
theorem Zs.Sound.placed {z : Zs} (S : z.Sound) {tab : List Int} (T : IsTab z.ts tab) {n : Int} (hn : there z.ts n) {o : Int} (ho : (thAt z.ts n).owner = o) :
    ((z.dk o).count n = if (thAt z.ts n).place = 1 then 1 else 0) ∧ ((z.hd o).count n = if (thAt z.ts n).place = 2 then 1 else 0) ∧ (tab.count n = if (thAt z.ts n).place = 4 then 1 else 0) ∧ (z.dk (1 - o)).count n = 0 ∧ (z.hd (1 - o)).count n = 0 := by
  have h01 := S.own hn
  rw [ho] at h01
  have h10 : 1 - o = 0 ∨ 1 - o = 1 := by omega
  refine ⟨?_, ?_, T.cnt hn, ?_, ?_⟩
  · rw [S.inDeck hn h01]; simp [ho]
  · rw [S.inHand hn h01]; simp [ho]
  · rw [S.inDeck hn h10, if_neg (fun q => by have := q.1; omega)]
  · rw [S.inHand hn h10, if_neg (fun q => by have := q.1; omega)]
/-- The table's stamps rise, and lie below the next one. -/
theorem IsTab.stamps {z : Zs} (S : z.Sound) {tab : List Int} (T : IsTab z.ts tab) {i : Nat} (hi : i < tab.length) : there z.ts (tab.getD i 0) ∧ (thAt z.ts (tab.getD i 0)).place = 4 ∧ 1 ≤ stOf z.ts (tab.getD i 0) ∧ stOf z.ts (tab.getD i 0) < z.nx ∧ ∀ j, j < i → stOf z.ts (tab.getD j 0) < stOf z.ts (tab.getD i 0) := by
  obtain ⟨h1, h2⟩ := (T.1 _).1 (getD_mem hi)
  have A := (S.each _ (there_mem h1)).2.2.2.2 h2
  refine ⟨h1, h2, A.1, A.2.1, fun j hj => ?_⟩
  have := List.pairwise_iff_getElem.1 T.2 j i (by omega) hi hj
  rw [List.getD_eq_getElem?_getD, List.getD_eq_getElem?_getD, List.getElem?_eq_getElem hi, List.getElem?_eq_getElem (show j < tab.length by omega)]
  exact this
/-- What New answers. -/
def newE (one two : List Int) : Int := if 2048 < one.length + two.length then 3 else if (one ++ two).any (fun c => decide (c < 1)) = true then 2 else 0
theorem newE_ok {one two : List Int} (h : newE one two = 0) : (newZ one two).Sound := by
  unfold newE at h
  split at h
  · cases h
  next h1 =>
  split at h
  · cases h
  next h2 =>
  have h3 : ∀ c ∈ one ++ two, 1 ≤ c := fun c hc => by
    refine Int.not_lt.1 fun q => h2 (List.any_eq_true.2 ⟨c, hc, ?_⟩)
    simp only [decide_eq_true_eq]
    omega
  exact newZ_sound (by omega) (fun c hc => h3 c (List.mem_append_left _ hc)) (fun c hc => h3 c (List.mem_append_right _ hc))
/-- What From answers of zones that are told: they themselves, where they are sound. -/
structure Told (z : Zs) (ts : List Th) (d h : Int → List Int) (nx : Int) : Prop where
  ts : z.ts = ts
  nx : z.nx = nx
  dk : ∀ p, p = 0 ∨ p = 1 → z.dk p = d p
  hd : ∀ p, p = 0 ∨ p = 1 → z.hd p = h p
theorem Told.sound {z y : Zs} (h : Told y z.ts z.dk z.hd z.nx) (S : z.Sound) : y.Sound := by
  refine ⟨by rw [h.ts]; exact S.few, by rw [h.nx]; exact S.nx1, by rw [h.nx]; exact S.nx2, by rw [h.ts, h.nx]; exact S.each, by rw [h.ts]; exact S.tab, fun p hp => by rw [h.hd p hp]; exact S.hand p hp, fun p hp => by rw [h.ts, h.dk p hp]; exact S.dks p hp, fun p hp => by rw [h.ts, h.hd p hp]; exact S.hds p hp, by rw [h.ts]; exact S.stamps⟩
/-- A list without a number twice, all of them from 1 to N, has at most N. -/
theorem nodup_few {l : List Int} {N : Nat} (h : l.Nodup) (hm : ∀ n ∈ l, 1 ≤ n ∧ n ≤ (N : Int)) : l.length ≤ N := by
  have e : l.Perm ((nums 0 N).filter fun n => decide (n ∈ l)) := (List.perm_ext_iff_of_nodup h ((nums_nodup _ _).filter _)).2 fun n => by
    rw [List.mem_filter, nums_mem]
    simp only [decide_eq_true_eq]
    exact ⟨fun q => ⟨by have := hm n q; omega, q⟩, fun q => q.2⟩
  rw [e.length_eq]
  refine Nat.le_trans (List.length_filter_le _ _) ?_
  simp [nums]
theorem Zs.Sound.deckFew {z : Zs} (S : z.Sound) {p : Int} (hp : p = 0 ∨ p = 1) : (z.dk p).length ≤ z.ts.length := nodup_few (S.dks p hp).1 fun n hn => (((S.dks p hp).2 n).1 hn).1
theorem Zs.Sound.handFew {z : Zs} (S : z.Sound) {p : Int} (hp : p = 0 ∨ p = 1) : (z.hd p).length ≤ z.ts.length := nodup_few (S.hds p hp).1 fun n hn => (((S.hds p hp).2 n).1 hn).1
theorem IsTab.few {ts : List Th} {l : List Int} (h : IsTab ts l) : l.length ≤ ts.length := nodup_few h.nodup fun n hn => ((h.1 n).1 hn).1
end Go.Proofs.Ytogpgldbbegniaa
