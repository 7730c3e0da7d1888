/-
  Zones, plainly: new ones; the table by stamp rising: one list and no other; how often a number stands in a list.
-/
import Derived.Test.YtogpgldbbegniaaZnC
namespace Go.Proofs.Ytogpgldbbegniaa

def nums (a k : Nat) : List Int := (List.range k).map fun (i : Nat) => (a : Int) + (i : Int) + 1
theorem nums_mem {a k : Nat} {n : Int} : n ∈ nums a k ↔ (a : Int) + 1 ≤ n ∧ n ≤ (a : Int) + (k : Int) := by
  unfold nums
  rw [List.mem_map]
  constructor
  · rintro ⟨i, hi, rfl⟩
    have := List.mem_range.1 hi
    omega
  · rintro ⟨h1, h2⟩
    exact ⟨(n - a - 1).toNat, List.mem_range.2 (by omega), by omega⟩
theorem nums_nodup (a k : Nat) : (nums a k).Nodup := by
  unfold nums
  refine List.Pairwise.map _ (fun x y h => ?_) List.nodup_range
  intro e
  exact h (by omega)
def newT (p c : Int) : Th := ⟨c, p, 1, 0, 0, 0, 0, 0, 0, 0, false⟩
def newZ (one two : List Int) : Zs where
  ts := one.map (newT 0) ++ two.map (newT 1)
  dk := fun p => if p = 0 then nums 0 one.length else if p = 1 then nums one.length two.length else []
  hd := fun _ => []
  nx := 1
theorem newZ_len (one two : List Int) : (newZ one two).ts.length = one.length + two.length := by simp [newZ]
theorem newZ_at {one two : List Int} {n : Int} (h : there (newZ one two).ts n) : (thAt (newZ one two).ts n).place = 1 ∧ (thAt (newZ one two).ts n).owner = (if n ≤ (one.length : Int) then 0 else 1) := by
  have e := there_at h
  unfold there at h
  rw [newZ_len] at h
  by_cases h1 : n ≤ (one.length : Int)
  · rw [if_pos h1]
    have : (newZ one two).ts[(n - 1).toNat]? = some (newT 0 (one.getD (n - 1).toNat 0)) := by
      show (one.map (newT 0) ++ two.map (newT 1))[(n - 1).toNat]? = _
      have hl : (n - 1).toNat < one.length := by omega
      rw [List.getElem?_append_left (by rw [List.length_map]; exact hl), List.getElem?_map, List.getElem?_eq_getElem hl, List.getD_eq_getElem?_getD, List.getElem?_eq_getElem hl]
      rfl
    rw [this] at e
    rw [← Option.some.inj e]
    exact ⟨rfl, rfl⟩
  · rw [if_neg h1]
    have : (newZ one two).ts[(n - 1).toNat]? = some (newT 1 (two.getD ((n - 1).toNat - one.length) 0)) := by
      show (one.map (newT 0) ++ two.map (newT 1))[(n - 1).toNat]? = _
      have hl : (n - 1).toNat - one.length < two.length := by omega
      rw [List.getElem?_append_right (by rw [List.length_map]; omega), List.length_map, List.getElem?_map, List.getElem?_eq_getElem hl, List.getD_eq_getElem?_getD, List.getElem?_eq_getElem hl]
      rfl
    rw [this] at e
    rw [← Option.some.inj e]
    exact ⟨rfl, rfl⟩
theorem newZ_sound {one two : List Int} (hl : one.length + two.length ≤ 2048) (h1 : ∀ c ∈ one, 1 ≤ c) (h2 : ∀ c ∈ two, 1 ≤ c) : (newZ one two).Sound := by
  have own : ∀ p, owned (newZ one two).ts p = 0 := fun p => by
    unfold owned
    rw [List.countP_eq_zero]
    intro t ht q
    have := (onTab_iff.1 q).2
    rcases List.mem_append.1 ht with h | h
    · obtain ⟨c, _, rfl⟩ := List.mem_map.1 h
      cases this
    · obtain ⟨c, _, rfl⟩ := List.mem_map.1 h
      cases this
  refine ⟨by rw [newZ_len]; exact hl, Int.le_refl _, by show (1 : Int) ≤ 1099511627776; decide, ?_, fun p _ => by rw [own]; exact Nat.zero_le _, fun p _ => Nat.zero_le _, ?_, ?_, ?_⟩
  · intro t ht
    rcases List.mem_append.1 ht with h | h
    · obtain ⟨c, hc, rfl⟩ := List.mem_map.1 h
      exact ⟨h1 c hc, Or.inl rfl, ⟨Int.le_refl _, by show (1 : Int) ≤ 5; decide⟩, fun _ => rfl, fun q => by cases q⟩
    · obtain ⟨c, hc, rfl⟩ := List.mem_map.1 h
      exact ⟨h2 c hc, Or.inr rfl, ⟨Int.le_refl _, by show (1 : Int) ≤ 5; decide⟩, fun _ => rfl, fun q => by cases q⟩
  · rintro p (rfl | rfl)
    · refine ⟨nums_nodup _ _, fun n => ?_⟩
      show n ∈ nums 0 one.length ↔ _
      rw [nums_mem]
      constructor
      · intro h
        have ht : there (newZ one two).ts n := by unfold there; rw [newZ_len]; omega
        have := newZ_at ht
        rw [if_pos (by omega)] at this
        exact ⟨ht, this.2, this.1⟩
      · rintro ⟨ht, ho, _⟩
        have h3 := (newZ_at ht).2
        rw [ho] at h3
        unfold there at ht
        by_cases q : n ≤ (one.length : Int)
        · omega
        · rw [if_neg q] at h3
          cases h3
    · refine ⟨nums_nodup _ _, fun n => ?_⟩
      show n ∈ nums one.length two.length ↔ _
      rw [nums_mem]
      constructor
      · intro h
        have ht : there (newZ one two).ts n := by unfold there; rw [newZ_len]; omega
        have := newZ_at ht
        rw [if_neg (by omega)] at this
        exact ⟨ht, this.2, this.1⟩
      · rintro ⟨ht, ho, _⟩
        have h3 := (newZ_at ht).2
        rw [ho] at h3
        unfold there at ht
        rw [newZ_len] at ht
        by_cases q : n ≤ (one.length : Int)
        · rw [if_pos q] at h3
          cases h3
        · omega
  · intro p _
    refine ⟨List.nodup_nil, fun n => ?_⟩
    constructor
    · intro h
      cases h
    · rintro ⟨ht, _, hp⟩
      rw [(newZ_at ht).1] at hp
      cases hp
  · intro a b ha _ pa
    rw [(newZ_at ha).1] at pa
    cases pa

/-- Two lists that rise by the same order, with the same members, are one. -/
theorem rise_one {r : Int → Int → Prop} (irr : ∀ a, ¬ r a a) (asy : ∀ a b, r a b → ¬ r b a) : ∀ (l m : List Int), l.Pairwise r → m.Pairwise r → (∀ n, n ∈ l ↔ n ∈ m) → l = m
  | [], m, _, _, h => by
    cases m with
    | nil => rfl
    | cons b m => exact absurd ((h b).2 (List.mem_cons_self)) (by simp)
  | a :: l, m, hl, hm, h => by
    cases m with
    | nil => exact absurd ((h a).1 (List.mem_cons_self)) (by simp)
    | cons b m =>
      rw [List.pairwise_cons] at hl hm
      have e : a = b := by
        rcases List.mem_cons.1 ((h a).1 List.mem_cons_self) with q | q
        · exact q
        · rcases List.mem_cons.1 ((h b).2 List.mem_cons_self) with q2 | q2
          · exact q2.symm
          · exact absurd (hm.1 a q) (asy _ _ (hl.1 b q2))
      subst e
      rw [rise_one irr asy l m hl.2 hm.2 fun n => ?_]
      constructor
      · intro hn
        rcases List.mem_cons.1 ((h n).1 (List.mem_cons_of_mem _ hn)) with q | q
        · subst q; exact absurd (hl.1 n hn) (irr n)
        · exact q
      · intro hn
        rcases List.mem_cons.1 ((h n).2 (List.mem_cons_of_mem _ hn)) with q | q
        · subst q; exact absurd (hm.1 n hn) (irr n)
        · exact q
def stOf (ts : List Th) (n : Int) : Int := (thAt ts n).stamp
/-- The table, by stamp rising. -/
def IsTab (ts : List Th) (l : List Int) : Prop := (∀ n, n ∈ l ↔ there ts n ∧ (thAt ts n).place = 4) ∧ l.Pairwise fun a b => stOf ts a < stOf ts b
theorem tab_one {ts : List Th} {l m : List Int} (h1 : IsTab ts l) (h2 : IsTab ts m) : l = m := rise_one (r := fun a b => stOf ts a < stOf ts b) (fun a h => by omega) (fun a b h q => by omega) l m h1.2 h2.2 (fun n => (h1.1 n).trans (h2.1 n).symm)
/-- The table of the first k things, by stamp rising, where stamps may be the same. -/
structure TabUp (ts : List Th) (k : Nat) (l : List Int) : Prop where
  mem : ∀ n, n ∈ l ↔ (1 ≤ n ∧ n ≤ (k : Int)) ∧ (thAt ts n).place = 4
  nd : l.Nodup
  up : l.Pairwise fun a b => stOf ts a ≤ stOf ts b
theorem TabUp.nil (ts : List Th) : TabUp ts 0 [] := ⟨fun n => ⟨fun h => (by cases h), fun h => (by omega)⟩, List.nodup_nil, List.Pairwise.nil⟩
theorem TabUp.skip {ts : List Th} {k : Nat} {l : List Int} (h : TabUp ts k l) (hp : (thAt ts ((k : Int) + 1)).place ≠ 4) : TabUp ts (k + 1) l := ⟨fun n => by
  rw [h.mem]
  constructor
  · rintro ⟨h1, h2⟩
    exact ⟨by omega, h2⟩
  · rintro ⟨h1, h2⟩
    rcases (show n ≤ (k : Int) ∨ n = (k : Int) + 1 from by omega) with q | q
    · exact ⟨by omega, h2⟩
    · rw [q] at h2
      exact absurd h2 hp, h.nd, h.up⟩
theorem TabUp.put {ts : List Th} {k i : Nat} {l : List Int} (h : TabUp ts k l) (hp : (thAt ts ((k : Int) + 1)).place = 4) (hr : ∀ x ∈ l.drop i, stOf ts ((k : Int) + 1) ≤ stOf ts x) (hl : ∀ x ∈ l.take i, stOf ts x ≤ stOf ts ((k : Int) + 1)) : TabUp ts (k + 1) (l.take i ++ ((k : Int) + 1) :: l.drop i) := by
  have hk : ¬ ((k : Int) + 1) ∈ l := fun q => by have := ((h.mem _).1 q).1; omega
  have sp : ∀ n, n ∈ l ↔ n ∈ l.take i ∨ n ∈ l.drop i := fun n => by rw [← List.mem_append, List.take_append_drop]
  have hnd : (l.take i ++ l.drop i).Nodup := by rw [List.take_append_drop]; exact h.nd
  have hup : (l.take i ++ l.drop i).Pairwise fun a b => stOf ts a ≤ stOf ts b := by rw [List.take_append_drop]; exact h.up
  rw [List.nodup_append] at hnd
  rw [List.pairwise_append] at hup
  refine ⟨fun n => ?_, ?_, ?_⟩
  · rw [List.mem_append, List.mem_cons]
    constructor
    · rintro (q | q | q)
      · have := (h.mem n).1 ((sp n).2 (Or.inl q))
        exact ⟨by omega, this.2⟩
      · rw [q]; exact ⟨by omega, hp⟩
      · have := (h.mem n).1 ((sp n).2 (Or.inr q))
        exact ⟨by omega, this.2⟩
    · rintro ⟨h1, h2⟩
      rcases (show n ≤ (k : Int) ∨ n = (k : Int) + 1 from by omega) with q | q
      · rcases (sp n).1 ((h.mem n).2 ⟨by omega, h2⟩) with r | r
        · exact Or.inl r
        · exact Or.inr (Or.inr r)
      · exact Or.inr (Or.inl q)
  · rw [List.nodup_append]
    refine ⟨hnd.1, List.nodup_cons.2 ⟨fun q => hk ((sp _).2 (Or.inr q)), hnd.2.1⟩, fun a ha b hb => ?_⟩
    rcases List.mem_cons.1 hb with q | q
    · rw [q]
      intro e
      rw [e] at ha
      exact hk ((sp _).2 (Or.inl ha))
    · exact hnd.2.2 a ha b q
  · rw [List.pairwise_append]
    refine ⟨hup.1, List.pairwise_cons.2 ⟨hr, hup.2.1⟩, fun a ha b hb => ?_⟩
    rcases List.mem_cons.1 hb with q | q
    · rw [q]; exact hl a ha
    · exact hup.2.2 a ha b q
theorem TabUp.done {z : Zs} (S : z.Sound) {l : List Int} (h : TabUp z.ts z.ts.length l) : IsTab z.ts l := by
  refine ⟨fun n => h.mem n, ?_⟩
  refine List.Pairwise.imp_of_mem ?_ (h.up.and h.nd)
  intro a b ha hb ⟨q1, q2⟩
  have a1 := (h.mem a).1 ha
  have b1 := (h.mem b).1 hb
  exact Int.lt_iff_le_and_ne.2 ⟨q1, fun e => q2 (S.stamps a b a1.1 b1.1 a1.2 b1.2 e)⟩
theorem cnt_nodup {l : List Int} (h : l.Nodup) (n : Int) : l.count n = if n ∈ l then 1 else 0 := by
  split
  · next q => exact h.count.trans (if_pos q)
  · next q => exact List.count_eq_zero.2 q
/-- How many there are on the table: the owner's of the list. -/
theorem IsTab.nodup {ts : List Th} {l : List Int} (h : IsTab ts l) : l.Nodup := h.2.imp fun q e => by rw [e] at q; exact absurd q (Int.lt_irrefl _)
end Go.Proofs.Ytogpgldbbegniaa
