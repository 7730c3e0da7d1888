/-
  What has been added, plainly: whatever the order, the same.
  A book filled with the cards of a suit, in any order, plainly.
  Cards of a suit in a block of their own, beside books: what a walk keeps of them, in general.
  trait.Name of a trait, out of its table.
-/
import Derived.Test.YtknlcjhcamhfmaaGreatDoorJ21
import Derived.Test.YtknlcjhcamhfmaaGreatDoorJ14
import Derived.Deep.CutRange
import Derived.Deep.CutBlock
import Derived.Deep.MidRow
import Derived.Test.YtknlcjhcamhfmaaGreatDoorJ0
namespace Go.Proofs.YtknlcjhcamhfmaaGreatDoor
open Go.RowKit

theorem nameOk_some {s : ByteArray} (h : ¬ nameOk s.data.toList = false) : ¬ s = ⟨#[]⟩ := fun e => by
  rw [e] at h
  exact h rfl
theorem caE_zero {p : Pl} {es : List Ent} {c : Cd} (h0 : caE p es c = 0) : p.shut = false ∧ cchk c = 0 ∧ ¬ c.nm ∈ names es := by
  unfold caE at h0
  split at h0
  · omega
  · rename_i hs
    split at h0
    · exact absurd h0 (by assumption)
    · rename_i hq
      split at h0
      · omega
      · rename_i hz
        exact ⟨by simpa using hs, by simpa using hq, pos_no (Int.not_le.1 hz)⟩
theorem trE_zero {p : Pl} {t : Int} {s : ByteArray} (h0 : trE p t s = 0) : p.shut = false ∧ 1 ≤ t ∧ t ≤ 8 ∧ ¬ s = ⟨#[]⟩ := by
  unfold trE at h0
  split at h0
  · omega
  · rename_i hs
    split at h0
    · omega
    · split at h0
      · omega
      · rename_i hn
        exact ⟨by simpa using hs, by omega, by omega, nameOk_some hn⟩
theorem maE_zero {p : Pl} {m : Mk} (h0 : maE p m = 0) : p.shut = false ∧ 1 ≤ m.mi ∧ m.mi ≤ 4 ∧ ¬ m.nm = ⟨#[]⟩ ∧ (p.mks.getD m.mi.toNat Mk.none).nm = ⟨#[]⟩ := by
  unfold maE at h0
  split at h0
  · omega
  · rename_i hs
    split at h0
    · omega
    · rename_i hr
      split at h0
      · omega
      · rename_i hn
        split at h0
        · omega
        · rename_i hz
          exact ⟨by simpa using hs, by omega, by omega, nameOk_some hn, Classical.byContradiction fun e => hz (Or.inl e)⟩
theorem oneEs_ge {p : Pl} {es cs : List Ent} {u : Value} {i : Nat} (h : cs.length ≤ i) : oneEs p es cs u i = es := by
  unfold oneEs
  rw [List.getElem?_eq_none h]
/-- Nothing is sealed while a book is filled; names are unlike. -/
theorem Fil.opn {cs : List Ent} {ts : List ByteArray} {ms : List Mk} {l : List Nat} {es : List Ent} {p : Pl} {r : Nat} (h : Fil cs ts ms l es p r) : p.shut = false := by
  refine Fil.ind (M := fun _ _ p _ => p.shut = false) rfl ?_ h
  intro _ _ _ _ i u _ _ _ ih
  unfold oneP
  split
  · exact ih
  · split
    · unfold trP; split <;> exact ih
    · unfold maP; split <;> exact ih
theorem ins_names (es : List Ent) (e : Ent) : (names (ins es e)).Perm (e.h.nm :: names es) := by
  induction es with
  | nil => exact List.Perm.refl _
  | cons y r ih =>
    rw [ins_cons]
    split
    · exact (List.Perm.cons _ ih).trans (List.Perm.swap _ _ _)
    · exact List.Perm.refl _
theorem Fil.unlike {cs : List Ent} {ts : List ByteArray} {ms : List Mk} {l : List Nat} {es : List Ent} {p : Pl} {r : Nat} (h : Fil cs ts ms l es p r) : (names es).Nodup := by
  refine Fil.ind (M := fun _ es _ _ => (names es).Nodup) List.nodup_nil ?_ h
  intro _ _ _ _ i u _ _ _ ih
  unfold oneEs
  split
  · split
    · rename_i h0
      rw [(ins_names _ _).nodup_iff, List.nodup_cons]
      exact ⟨(caE_zero h0).2.2, ih⟩
    · exact ih
  · exact ih
theorem pos_at {es : List Ent} (h : (names es).Nodup) {k : Nat} {e : Ent} (he : es[k]? = some e) : pos (names es) e.h.nm = k := by
  refine pos_hit _ _ k (names_at he) (fun j x hj hx hxe => ?_)
  have hk := names_at he
  rw [hxe] at hx
  have h1 := (List.getElem?_eq_some_iff.1 hk)
  have h2 := (List.getElem?_eq_some_iff.1 hx)
  obtain ⟨a1, b1⟩ := h1
  obtain ⟨a2, b2⟩ := h2
  exact List.pairwise_iff_getElem.1 h j k a2 a1 hj (b2.trans b1.symm)
theorem ent_of {x y : Ent} (h : x.cd = y.cd) : x.h = y.h ∧ x.ps = y.ps := ⟨congrArg Cd.hd h, congrArg Cd.ps h⟩
theorem sameE_of {x y : Ent} (h : x.cd = y.cd) : sameE x y = true := by
  unfold sameE
  rw [(ent_of h).1, (ent_of h).2, sameHd_refl, samePs_refl]
  rfl
theorem srt_same : ∀ (a b : List Ent), Srt a → Srt b → (∀ x ∈ a, ∃ y ∈ b, y.cd = x.cd) → (∀ y ∈ b, ∃ x ∈ a, x.cd = y.cd) → sameEs a b = true
  | [], [], _, _, _, _ => rfl
  | [], y :: s, _, _, _, h => by obtain ⟨x, hx, _⟩ := h y (by simp); simp at hx
  | x :: r, [], _, _, h, _ => by obtain ⟨y, hy, _⟩ := h x (by simp); simp at hy
  | x :: r, y :: s, ha, hb, h1, h2 => by
    unfold Srt at ha hb
    rw [List.pairwise_cons] at ha hb
    have e : x.cd = y.cd := by
      obtain ⟨y', hy', e1⟩ := h1 x (by simp)
      obtain ⟨x', hx', e2⟩ := h2 y (by simp)
      rcases List.mem_cons.1 hy' with rfl | hy'
      · exact e1.symm
      · rcases List.mem_cons.1 hx' with rfl | hx'
        · exact e2
        · have k1 := hb.1 y' hy'
          have k2 := ha.1 x' hx'
          rw [(ent_of e1).1] at k1
          rw [(ent_of e2).1] at k2
          exact absurd (k1.trans k2) (Ahd.irrefl _)
    unfold sameEs
    rw [sameE_of e, Bool.true_and]
    refine srt_same r s ha.2 hb.2 (fun z hz => ?_) (fun z hz => ?_)
    · obtain ⟨y', hy', e1⟩ := h1 z (by simp [hz])
      rcases List.mem_cons.1 hy' with rfl | hy'
      · have k := ha.1 z hz
        rw [(ent_of e).1, (ent_of e1).1] at k
        exact absurd k (Ahd.irrefl _)
      · exact ⟨y', hy', e1⟩
    · obtain ⟨x', hx', e1⟩ := h2 z (by simp [hz])
      rcases List.mem_cons.1 hx' with rfl | hx'
      · have k := hb.1 z hz
        rw [← (ent_of e).1, (ent_of e1).1] at k
        exact absurd k (Ahd.irrefl _)
      · exact ⟨x', hx', e1⟩
theorem sameEs_sym : ∀ {a b : List Ent}, sameEs a b = true → sameEs b a = true
  | [], [], _ => rfl
  | [], _ :: _, h => by simp [sameEs] at h
  | _ :: _, [], h => by simp [sameEs] at h
  | x :: r, y :: s, h => by
    simp only [sameEs, sameE, Bool.and_eq_true] at h ⊢
    obtain ⟨⟨h1, h2⟩, h3⟩ := h
    have e1 := hd_ext h1
    have e2 := samePs_yes h2
    rw [e1, e2, sameHd_refl, samePs_refl]
    exact ⟨⟨rfl, rfl⟩, sameEs_sym h3⟩
/-- Two rows of the same cards: names, kinds and what is called are the same. -/
theorem sameEs_names : ∀ {a b : List Ent}, sameEs a b = true → names a = names b
  | [], [], _ => rfl
  | [], _ :: _, h => by simp [sameEs] at h
  | _ :: _, [], h => by simp [sameEs] at h
  | x :: r, y :: s, h => by
    simp only [sameEs, sameE, Bool.and_eq_true] at h
    have e1 := hd_ext h.1.1
    show x.h.nm :: names r = y.h.nm :: names s
    rw [e1, sameEs_names h.2]
theorem sameEs_kd : ∀ {a b : List Ent}, sameEs a b = true → ∀ n, kdAt a n = kdAt b n
  | [], [], _, n => rfl
  | [], _ :: _, h, n => by simp [sameEs] at h
  | _ :: _, [], h, n => by simp [sameEs] at h
  | x :: r, y :: s, h, 0 => by
    simp only [sameEs, sameE, Bool.and_eq_true] at h
    have e1 := hd_ext h.1.1
    show x.h.kd = y.h.kd
    rw [e1]
  | x :: r, y :: s, h, n + 1 => by
    simp only [sameEs, Bool.and_eq_true] at h
    exact sameEs_kd h.2 n
theorem callsE_of {a b : List Ent} (h1 : names a = names b) (h2 : ∀ n, kdAt a n = kdAt b n) : ∀ ps, callsE a ps = callsE b ps
  | [] => rfl
  | q :: r => by
    have hc : callE a q = callE b q := by unfold callE; rw [h1, h2]
    simp only [callsE, hc, callsE_of h1 h2 r]
theorem sealL_of {a b : List Ent} (h1 : names a = names b) (h2 : ∀ n, kdAt a n = kdAt b n) : ∀ {x y : List Ent}, sameEs x y = true → sealL a x = sealL b y
  | [], [], _ => rfl
  | [], _ :: _, h => by simp [sameEs] at h
  | _ :: _, [], h => by simp [sameEs] at h
  | x :: r, y :: s, h => by
    simp only [sameEs, sameE, Bool.and_eq_true] at h
    have e2 := samePs_yes h.1.2
    simp only [sealL, e2, callsE_of h1 h2, sealL_of h1 h2 h.2]
theorem sealE_of {a b : List Ent} {p q : Pl} (h : sameEs a b = true) (hs : p.shut = q.shut) : sealE p a = sealE q b := by
  unfold sealE
  rw [hs, sealL_of (sameEs_names h) (sameEs_kd h) h]
/-- How many are still to come. -/
def lft (n : Nat) (l : List Nat) : Nat := (List.range n).countP fun j => decide (¬ j ∈ l)
theorem lft_step (l : List Nat) (i : Nat) (hi : ¬ i ∈ l) : ∀ n, lft n l = lft n (i :: l) + if i < n then 1 else 0
  | 0 => by simp [lft]
  | n + 1 => by
    have ih := lft_step l i hi n
    unfold lft at ih ⊢
    rw [List.range_succ, List.countP_append, List.countP_append, ih]
    simp only [List.countP_singleton]
    by_cases h : i = n
    · subst h
      simp [hi]
    · have hm : (n ∈ i :: l) ↔ n ∈ l := by simp [Ne.symm h]
      by_cases h2 : i < n
      · have : i < n + 1 := by omega
        simp only [hm, h2, this, if_true]
        omega
      · have : ¬ i < n + 1 := by omega
        simp only [hm, h2, this, if_false]
        omega
theorem lft_none {n : Nat} {l : List Nat} (h : ∀ i, i < n → i ∈ l) : lft n l = 0 := by
  unfold lft
  rw [List.countP_eq_zero]
  intro i hi
  simpa using h i (by simpa using hi)
theorem lft_all : ∀ n, lft n [] = n := fun n => by simp [lft]
/-- What holds while nothing is refused. -/
structure Inv (cs : List Ent) (ts : List ByteArray) (ms : List Mk) (l : List Nat) (es : List Ent) (p : Pl) : Prop where
  len : es.length + lft cs.length l = cs.length
  cto : ∀ i ∈ l, ∀ e, cs[i]? = some e → ∃ x ∈ es, x.cd = e.cd
  cof : ∀ x ∈ es, ∃ i e, i ∈ l ∧ cs[i]? = some e ∧ x.cd = e.cd
  nine : p.nms.length = 9
  five : p.mks.length = 5
  nms : ∀ t, t < 9 → p.nms[t]? = some (if 1 ≤ t ∧ t ≤ ts.length ∧ cs.length + (t - 1) ∈ l then ts.getD (t - 1) ⟨#[]⟩ else ⟨#[]⟩)
  mto : ∀ i ∈ l, ∀ m, cs.length + ts.length ≤ i → ms[i - cs.length - ts.length]? = some m → ¬ m.nm = ⟨#[]⟩ ∧ p.mks[m.mi.toNat]? = some m
  mof : ∀ t m, p.mks[t]? = some m → m = Mk.none ∨ ∃ i ∈ l, cs.length + ts.length ≤ i ∧ ms[i - cs.length - ts.length]? = some m ∧ m.mi.toNat = t
theorem Inv.nil (cs : List Ent) (ts : List ByteArray) (ms : List Mk) : Inv cs ts ms [] [] plNew := by
  refine ⟨by rw [lft_all]; simp, fun i hi => by simp at hi, fun x hx => by simp at hx, rfl, rfl, fun t ht => ?_, fun i hi => by simp at hi, fun t m hm => ?_⟩
  · rw [if_neg (by simp)]
    show (List.replicate 9 _)[t]? = _
    rw [List.getElem?_replicate, if_pos ht]
  · left
    simp only [plNew, List.getElem?_replicate] at hm
    split at hm
    · exact (Option.some.inj hm).symm
    · cases hm
theorem Inv.card {cs : List Ent} {ts : List ByteArray} {ms : List Mk} {l : List Nat} {es : List Ent} {p : Pl} (h : Inv cs ts ms l es p) {i : Nat} {e : Ent} (u : Value) (hi : ¬ i ∈ l) (he : cs[i]? = some e) : Inv cs ts ms (i :: l) (ins es ⟨e.h, u, e.ps⟩) p := by
  have hlt : i < cs.length := (List.getElem?_eq_some_iff.1 he).1
  refine ⟨?_, fun j hj x hx => ?_, fun x hx => ?_, h.nine, h.five, fun t ht => ?_, fun j hj m hc hm => ?_, fun t m hm => ?_⟩
  · have := h.len
    rw [lft_step l i hi, if_pos hlt] at this
    rw [ins_len]
    omega
  · rcases List.mem_cons.1 hj with rfl | hj
    · rw [he] at hx
      obtain rfl := Option.some.inj hx
      exact ⟨_, (ins_mem _ _ _).2 (Or.inl rfl), rfl⟩
    · obtain ⟨y, hy, hq⟩ := h.cto j hj x hx
      exact ⟨y, (ins_mem _ _ _).2 (Or.inr hy), hq⟩
  · rcases (ins_mem _ _ _).1 hx with rfl | hx
    · exact ⟨i, e, by simp, he, rfl⟩
    · obtain ⟨j, y, hj, hy, hq⟩ := h.cof x hx
      exact ⟨j, y, by simp [hj], hy, hq⟩
  · rw [h.nms t ht]
    have : cs.length + (t - 1) ∈ i :: l ↔ cs.length + (t - 1) ∈ l := by
      constructor
      · intro k
        rcases List.mem_cons.1 k with k | k
        · omega
        · exact k
      · intro k; simp [k]
    simp only [this]
  · rcases List.mem_cons.1 hj with rfl | hj
    · omega
    · exact h.mto j hj m hc hm
  · rcases h.mof t m hm with k | ⟨j, hj, k⟩
    · exact Or.inl k
    · exact Or.inr ⟨j, by simp [hj], k⟩
theorem Inv.trait {cs : List Ent} {ts : List ByteArray} {ms : List Mk} {l : List Nat} {es : List Ent} {p : Pl} (h : Inv cs ts ms l es p) {i : Nat} (hi : ¬ i ∈ l) (h1 : cs.length ≤ i) (h2 : i < cs.length + ts.length) (h0 : trE p ((i - cs.length : Nat) + 1 : Int) (ts.getD (i - cs.length) ⟨#[]⟩) = 0) : Inv cs ts ms (i :: l) es (trP p ((i - cs.length : Nat) + 1 : Int) (ts.getD (i - cs.length) ⟨#[]⟩)) := by
  have z := trE_zero h0
  unfold trP
  rw [if_pos h0]
  have en : ((i - cs.length : Nat) + 1 : Int).toNat = i - cs.length + 1 := by omega
  refine ⟨?_, fun j hj x hx => ?_, fun x hx => ?_, by simpa using h.nine, h.five, fun t ht => ?_, fun j hj m hc hm => ?_, fun t m hm => ?_⟩
  · have := h.len
    rw [lft_step l i hi, if_neg (by omega)] at this
    omega
  · rcases List.mem_cons.1 hj with rfl | hj
    · have := (List.getElem?_eq_some_iff.1 hx).1
      omega
    · exact h.cto j hj x hx
  · obtain ⟨j, y, hj, hy, hq⟩ := h.cof x hx
    exact ⟨j, y, by simp [hj], hy, hq⟩
  · show (p.nms.set _ _)[t]? = _
    rw [en, List.getElem?_set]
    by_cases ht2 : i - cs.length + 1 = t
    · subst ht2
      rw [if_pos rfl, if_pos (by rw [h.nine]; omega), if_pos ⟨by omega, by omega, by simp; omega⟩]
      rfl
    · rw [if_neg ht2, h.nms t ht]
      have : (1 ≤ t ∧ t ≤ ts.length ∧ cs.length + (t - 1) ∈ i :: l) ↔ (1 ≤ t ∧ t ≤ ts.length ∧ cs.length + (t - 1) ∈ l) := by
        constructor
        · rintro ⟨a, b, k⟩
          rcases List.mem_cons.1 k with k | k
          · omega
          · exact ⟨a, b, k⟩
        · rintro ⟨a, b, k⟩; exact ⟨a, b, by simp [k]⟩
      simp only [this]
  · rcases List.mem_cons.1 hj with rfl | hj
    · omega
    · exact h.mto j hj m hc hm
  · rcases h.mof t m hm with k | ⟨j, hj, k⟩
    · exact Or.inl k
    · exact Or.inr ⟨j, by simp [hj], k⟩
theorem Inv.mark {cs : List Ent} {ts : List ByteArray} {ms : List Mk} {l : List Nat} {es : List Ent} {p : Pl} (h : Inv cs ts ms l es p) {i : Nat} {m : Mk} (hi : ¬ i ∈ l) (h1 : cs.length + ts.length ≤ i) (hm : ms[i - cs.length - ts.length]? = some m) (h0 : maE p m = 0) : Inv cs ts ms (i :: l) es (maP p m) := by
  have z := maE_zero h0
  unfold maP
  rw [if_pos h0]
  refine ⟨?_, fun j hj x hx => ?_, fun x hx => ?_, h.nine, by simpa using h.five, fun t ht => ?_, fun j hj y hc hy => ?_, fun t y hy => ?_⟩
  · have := h.len
    rw [lft_step l i hi, if_neg (by omega)] at this
    omega
  · rcases List.mem_cons.1 hj with rfl | hj
    · have := (List.getElem?_eq_some_iff.1 hx).1
      omega
    · exact h.cto j hj x hx
  · obtain ⟨j, y, hj, hy, hq⟩ := h.cof x hx
    exact ⟨j, y, by simp [hj], hy, hq⟩
  · show p.nms[t]? = _
    rw [h.nms t ht]
    have : (1 ≤ t ∧ t ≤ ts.length ∧ cs.length + (t - 1) ∈ i :: l) ↔ (1 ≤ t ∧ t ≤ ts.length ∧ cs.length + (t - 1) ∈ l) := by
      constructor
      · rintro ⟨a, b, k⟩
        rcases List.mem_cons.1 k with k | k
        · omega
        · exact ⟨a, b, k⟩
      · rintro ⟨a, b, k⟩; exact ⟨a, b, by simp [k]⟩
    simp only [this]
  · show _ ∧ (p.mks.set _ _)[_]? = _
    rw [List.getElem?_set]
    rcases List.mem_cons.1 hj with rfl | hj
    · rw [hm] at hy
      obtain rfl := Option.some.inj hy
      exact ⟨z.2.2.2.1, by rw [if_pos rfl, if_pos (by rw [h.five]; omega)]⟩
    · obtain ⟨k1, k2⟩ := h.mto j hj y hc hy
      refine ⟨k1, ?_⟩
      by_cases e : m.mi.toNat = y.mi.toNat
      · have k3 := z.2.2.2.2
        rw [e, List.getD_eq_getElem?_getD, k2] at k3
        exact absurd k3 k1
      · rw [if_neg e]; exact k2
  · have hy' : (p.mks.set m.mi.toNat m)[t]? = some y := hy
    rw [List.getElem?_set] at hy'
    by_cases e : m.mi.toNat = t
    · rw [if_pos e, if_pos (by rw [h.five]; omega)] at hy'
      obtain rfl := Option.some.inj hy'
      exact Or.inr ⟨i, by simp, h1, hm, e⟩
    · rw [if_neg e] at hy'
      rcases h.mof t y hy' with k | ⟨j, hj, k⟩
      · exact Or.inl k
      · exact Or.inr ⟨j, by simp [hj], k⟩
theorem Fil.inv {cs : List Ent} {ts : List ByteArray} {ms : List Mk} {l : List Nat} {es : List Ent} {p : Pl} {r : Nat} (h : Fil cs ts ms l es p r) : r = 0 → Inv cs ts ms l es p := by
  refine Fil.ind (M := fun l es p r => r = 0 → Inv cs ts ms l es p) (fun _ => Inv.nil _ _ _) ?_ h
  · intro l es p r i u hf hi hlt ih hr
    have hr0 : r = 0 := by omega
    have hE : oneE p es cs ts ms i = 0 := by
      apply Classical.byContradiction
      intro e
      rw [if_neg e] at hr
      omega
    have I := ih hr0
    unfold oneE at hE
    unfold oneP
    by_cases h1 : i < cs.length
    · obtain ⟨e, he⟩ : ∃ e, cs[i]? = some e := ⟨_, List.getElem?_eq_getElem h1⟩
      rw [if_pos h1, he] at hE
      rw [if_pos h1]
      unfold oneEs
      rw [he]
      simp only at hE ⊢
      rw [if_pos hE]
      exact I.card u hi he
    · rw [if_neg h1] at hE ⊢
      rw [oneEs_ge (by omega)]
      by_cases h2 : i < cs.length + ts.length
      · rw [if_pos h2] at hE ⊢
        exact I.trait hi (by omega) h2 hE
      · rw [if_neg h2] at hE ⊢
        have h3 : i - cs.length - ts.length < ms.length := by unfold many at hlt; omega
        have hm : ms[i - cs.length - ts.length]? = some (ms.getD (i - cs.length - ts.length) Mk.none) := getD_some h3
        exact I.mark hi (by omega) hm hE
/-- Whatever the order, the same. -/
theorem two_same {cs : List Ent} {ts : List ByteArray} {ms : List Mk} {l k : List Nat} {es fs : List Ent} {p q : Pl} (h : Inv cs ts ms l es p) (g : Inv cs ts ms k fs q) (hl : ∀ i, i < many cs ts ms → i ∈ l) (hk : ∀ i, i < many cs ts ms → i ∈ k) (s1 : Srt es) (s2 : Srt fs) : sameEs es fs = true ∧ p.nms = q.nms ∧ p.mks = q.mks ∧ es.length = cs.length ∧ (∀ e ∈ cs, e.h.nm ∈ names es) := by
  have hin : ∀ i e, cs[i]? = some e → i < many cs ts ms := fun i e he => by have := (List.getElem?_eq_some_iff.1 he).1; unfold many; omega
  refine ⟨srt_same es fs s1 s2 (fun x hx => ?_) (fun x hx => ?_), ?_, ?_, ?_, fun e he => ?_⟩
  · obtain ⟨i, e, _, he, hq⟩ := h.cof x hx
    obtain ⟨y, hy, hy2⟩ := g.cto i (hk i (hin i e he)) e he
    exact ⟨y, hy, hy2.trans hq.symm⟩
  · obtain ⟨i, e, _, he, hq⟩ := g.cof x hx
    obtain ⟨y, hy, hy2⟩ := h.cto i (hl i (hin i e he)) e he
    exact ⟨y, hy, hy2.trans hq.symm⟩
  · apply List.ext_getElem?
    intro t
    by_cases ht : t < 9
    · rw [h.nms t ht, g.nms t ht]
      have : (1 ≤ t ∧ t ≤ ts.length ∧ cs.length + (t - 1) ∈ l) ↔ (1 ≤ t ∧ t ≤ ts.length ∧ cs.length + (t - 1) ∈ k) := by
        constructor
        · rintro ⟨a, b, _⟩; exact ⟨a, b, hk _ (by unfold many; omega)⟩
        · rintro ⟨a, b, _⟩; exact ⟨a, b, hl _ (by unfold many; omega)⟩
      simp only [this]
    · rw [List.getElem?_eq_none (by rw [h.nine]; omega), List.getElem?_eq_none (by rw [g.nine]; omega)]
  · apply List.ext_getElem?
    intro t
    by_cases ht : t < 5
    · have e1 : p.mks[t]? = some (p.mks.getD t Mk.none) := getD_some (by rw [h.five]; exact ht)
      have e2 : q.mks[t]? = some (q.mks.getD t Mk.none) := getD_some (by rw [g.five]; exact ht)
      have hmi : ∀ i m, cs.length + ts.length ≤ i → ms[i - cs.length - ts.length]? = some m → i < many cs ts ms := fun i m h1 h2 => by have := (List.getElem?_eq_some_iff.1 h2).1; unfold many; omega
      rcases h.mof t _ e1 with z1 | ⟨i, hi, hc, hm, ht1⟩
      · rcases g.mof t _ e2 with z2 | ⟨i, hi, hc, hm, ht1⟩
        · rw [e1, e2, z1, z2]
        · obtain ⟨_, k2⟩ := h.mto i (hl i (hmi i _ hc hm)) _ hc hm
          rw [ht1] at k2
          rw [k2, e2]
      · obtain ⟨_, k2⟩ := g.mto i (hk i (hmi i _ hc hm)) _ hc hm
        rw [ht1] at k2
        rw [k2, e1]
    · rw [List.getElem?_eq_none (by rw [h.five]; omega), List.getElem?_eq_none (by rw [g.five]; omega)]
  · have := h.len
    rw [lft_none (fun i hi => hl i (by unfold many; omega))] at this
    omega
  · obtain ⟨i, hi⟩ := List.getElem?_of_mem he
    obtain ⟨y, hy, hy2⟩ := h.cto i (hl i (hin i e hi)) e hi
    rw [← (ent_of hy2).1]
    exact names_mem hy
/-- What Seal may tell; what it says of each call. -/
theorem callsE_vals (es : List Ent) : ∀ ps, callsE es ps = 0 ∨ callsE es ps = 6 ∨ callsE es ps = 8
  | [] => Or.inl rfl
  | q :: r => by
    have := callsE_vals es r
    simp only [callsE]
    split
    · unfold callE
      split
      · simp
      · split
        · simp
        · split <;> simp
    · exact this
theorem sealL_vals (es : List Ent) : ∀ l, sealL es l = 0 ∨ sealL es l = 6 ∨ sealL es l = 8
  | [] => Or.inl rfl
  | x :: r => by
    have h1 := sealL_vals es r
    have h2 := callsE_vals es x.ps
    simp only [sealL]
    split
    · exact h2
    · exact h1
end Go.Proofs.YtknlcjhcamhfmaaGreatDoor
namespace Go.Proofs.YtknlcjhcamhfmaaGreatDoor
open Go.RowKit

/-- Cards that may be, with unlike names, and the row of them in the order of a book. -/
structure SpOk (sp : List (Hd × List Pt)) (F : List Ent) : Prop where
  chk : ∀ x ∈ sp, cchk (x.1.with x.2) = 0
  four : ∀ x ∈ sp, x.2.length ≤ 4
  nod : (sp.map fun x => x.1.nm).Nodup
  few : sp.length < 64
  srt : Srt F
  perm : (F.map fun e => (e.h, e.ps)).Perm sp
theorem srt_of {F : List Ent} (h : (F.map fun e => e.h).Pairwise fun a b => ord a b < 0) : Srt F := by
  unfold Srt
  rw [List.pairwise_map] at h
  exact h.imp fun hab => (ord_lt _ _).1 hab
/-- The cards, in any order. -/
structure Crs (sp : List (Hd × List Pt)) (es : List Ent) : Prop where
  len : es.length = sp.length
  perm : (es.map fun e => (e.h, e.ps)).Perm sp
theorem Crs.of {sp : List (Hd × List Pt)} {es : List Ent} (h : es.map (fun e => (e.h, e.ps)) = sp) : Crs sp es := ⟨by rw [← h]; simp, by rw [h]⟩
theorem Crs.mem {sp : List (Hd × List Pt)} {es : List Ent} (h : Crs sp es) {e : Ent} (he : e ∈ es) : (e.h, e.ps) ∈ sp := h.perm.mem_iff.1 (List.mem_map.2 ⟨e, he, rfl⟩)
theorem Crs.has {sp : List (Hd × List Pt)} {es : List Ent} (h : Crs sp es) {x : Hd × List Pt} (hx : x ∈ sp) : ∃ e ∈ es, (e.h, e.ps) = x := by
  obtain ⟨e, he, h1⟩ := List.mem_map.1 (h.perm.mem_iff.2 hx)
  exact ⟨e, he, h1⟩
theorem Crs.chk {sp : List (Hd × List Pt)} {F es : List Ent} (h : Crs sp es) (S : SpOk sp F) {e : Ent} (he : e ∈ es) : cchk e.cd = 0 := S.chk _ (h.mem he)
theorem Crs.nodup {sp : List (Hd × List Pt)} {F es : List Ent} (h : Crs sp es) (S : SpOk sp F) : (names es).Nodup := by
  have h1 := h.perm.map fun x => x.1.nm
  rw [List.map_map] at h1
  exact h1.nodup_iff.2 S.nod
theorem Crs.swap {sp : List (Hd × List Pt)} {es : List Ent} (h : Crs sp es) {j k : Nat} {a b : Ent} (hj : es[j]? = some a) (hk : es[k]? = some b) : Crs sp ((es.set j b).set k a) := by
  obtain ⟨h1, rfl⟩ := List.getElem?_eq_some_iff.1 hj
  obtain ⟨h2, rfl⟩ := List.getElem?_eq_some_iff.1 hk
  exact ⟨by simpa using h.len, ((List.set_set_perm h1 h2).map _).trans h.perm⟩
theorem swap_mem {es : List Ent} {j k : Nat} {a b : Ent} (hj : es[j]? = some a) (hk : es[k]? = some b) {e : Ent} (he : e ∈ (es.set j b).set k a) : e ∈ es := by
  obtain ⟨h1, rfl⟩ := List.getElem?_eq_some_iff.1 hj
  obtain ⟨h2, rfl⟩ := List.getElem?_eq_some_iff.1 hk
  exact (List.set_set_perm h1 h2).mem_iff.1 he
/-- A card that is not there yet is taken. -/
theorem crs_takes {sp : List (Hd × List Pt)} {F es fs : List Ent} {l : List Nat} {p : Pl} (S : SpOk sp F) (h : Crs sp es) (I : Inv es [] [] l fs p) (hp : p.shut = false) {k : Nat} {e : Ent} (he : es[k]? = some e) (hk : ¬ k ∈ l) : caE p fs e.cd = 0 := by
  unfold caE
  rw [if_neg (by simp [hp]), if_neg (by simp [h.chk S (List.mem_of_getElem? he)]), if_neg ?_, if_neg ?_]
  · have := I.len; have := h.len; have := S.few; omega
  · intro hn
    have hm := pos_yes _ _ hn
    have hmem : e.cd.nm ∈ names fs := List.mem_of_getElem? hm
    obtain ⟨x, hx, hxn⟩ := List.mem_map.1 hmem
    obtain ⟨i, y, hi, hy, hq⟩ := I.cof x hx
    have hyn : y.h.nm = e.h.nm := by rw [← (ent_of hq).1]; exact hxn
    have p1 := pos_at (h.nodup S) hy
    have p2 := pos_at (h.nodup S) he
    rw [hyn] at p1
    have : (i : Int) = (k : Int) := p1.symm.trans p2
    exact hk ((Int.ofNat.inj this) ▸ hi)
theorem crs_same {sp : List (Hd × List Pt)} {F es fs : List Ent} {l : List Nat} {p : Pl} (S : SpOk sp F) (h : Crs sp es) (I : Inv es [] [] l fs p) (hl : ∀ i, i < sp.length → i ∈ l) (hs : Srt fs) : sameEs fs F = true := by
  have cF : Crs sp F := ⟨by have := S.perm.length_eq; simpa using this, S.perm⟩
  refine srt_same fs F hs S.srt (fun x hx => ?_) (fun y hy => ?_)
  · obtain ⟨i, e, _, he, hq⟩ := I.cof x hx
    obtain ⟨y, hy, h1⟩ := cF.has (h.mem (List.mem_of_getElem? he))
    refine ⟨y, hy, Eq.trans ?_ hq.symm⟩
    injection h1 with a b
    show y.h.with y.ps = e.h.with e.ps
    rw [a, b]
  · obtain ⟨e, he, h1⟩ := h.has (cF.mem hy)
    obtain ⟨i, hi⟩ := List.getElem?_of_mem he
    have hi6 : i < sp.length := by have := (List.getElem?_eq_some_iff.1 hi).1; have := h.len; omega
    obtain ⟨x, hx, hx2⟩ := I.cto i (hl i hi6) e hi
    refine ⟨x, hx, hx2.trans ?_⟩
    injection h1 with a b
    show e.h.with e.ps = y.h.with y.ps
    rw [a, b]
theorem samep_ext {p q : Pt} (h : samep p q = true) : p = q := Classical.byContradiction fun hn => by rw [samep_no hn] at h; cases h
theorem samePs_eq : ∀ {a b : List Pt}, samePs a b = true → a = b
  | [], [], _ => rfl
  | [], _ :: _, h => by simp [samePs] at h
  | _ :: _, [], h => by simp [samePs] at h
  | x :: r, y :: t, h => by
    simp only [samePs, Bool.and_eq_true] at h
    rw [samep_ext h.1, samePs_eq h.2]
theorem sameEs_two : ∀ {a b c : List Ent}, sameEs a c = true → sameEs b c = true → sameEs a b = true
  | [], [], [], _, _ => rfl
  | [], _ :: _, [], _, h => by simp [sameEs] at h
  | _ :: _, _, [], h, _ => by simp [sameEs] at h
  | [], _, _ :: _, h, _ => by simp [sameEs] at h
  | _ :: _, [], _ :: _, _, h => by simp [sameEs] at h
  | x :: r, y :: t, z :: u, h, k => by
    simp only [sameEs, sameE, Bool.and_eq_true] at h k ⊢
    refine ⟨⟨?_, ?_⟩, sameEs_two h.2 k.2⟩
    · rw [hd_ext h.1.1, hd_ext k.1.1]; exact sameHd_refl _
    · rw [samePs_eq h.1.2, samePs_eq k.1.2]; exact samePs_refl _
theorem sameEs_length : ∀ {a b : List Ent}, sameEs a b = true → a.length = b.length := fun {a b} h => Classical.byContradiction fun hn => by rw [sameEs_len hn] at h; cases h
end Go.Proofs.YtknlcjhcamhfmaaGreatDoor
namespace Go.Proofs.YtknlcjhcamhfmaaGreatDoor
open Go.RowKit

theorem perm_pick {α : Type} {l r : List α} {x : α} (a b : List α) (hl : l = a ++ x :: b) (h : (a ++ b).Perm r) : l.Perm (x :: r) := by
  rw [hl]
  exact List.perm_middle.trans (List.Perm.cons _ h)
theorem fnd_yes {q : Int} (h : 0 ≤ q) : fndN true q = q + 1 ∧ fndE true q = 0 := ⟨if_pos ⟨rfl, h⟩, if_pos ⟨rfl, h⟩⟩
/-- Where a list of numbers lies. -/
def IntsIn (w : World) (v : Value) (os : List Int) : Prop := ∃ a k, v = .slice a os.length k ∧ (0 < os.length → ∃ g o, a = some ⟨g, o, none⟩ ∧ ∀ (j : Nat) x, os[j]? = some x → w.cell? ⟨g, o + j, none⟩ = some (.int .i64 x))
/-- Cards at the head of a block. -/
def Lie (w : World) (G : Nat) (es : List Ent) : Prop := ∃ junk : List Value, w.heap[G]? = some (.cells (ecells es ++ junk).toArray 56 (0, 0))
theorem Lie.keepR {w w' : World} {G : Nat} {es : List Ent} {r : Option Nat} (h : Lie w G es) (g : w.grownBy w' r) (hr : some G ≠ r) : Lie w' G es := h.imp fun _ k => grown_keep g k hr
theorem Lie.at {w : World} {G : Nat} {es : List Ent} (h : Lie w G es) {j : Nat} {e : Ent} (he : es[j]? = some e) {k : Nat} {u : Value} (hk : k < 9) (hu : (cvs e.h e.v)[k]? = some u) : w.cell? ⟨G, j * 9 + k, none⟩ = some u := by
  obtain ⟨junk, h⟩ := h
  have hj : j < es.length := (List.getElem?_eq_some_iff.1 he).1
  rw [block_cell h, List.getElem?_toArray, List.getElem?_append_left (by rw [ecells_len]; omega), ecells_at es j e he k hk]
  exact hu
theorem Lie.row {w : World} {G : Nat} {es : List Ent} (h : Lie w G es) {j : Nat} {e : Ent} (he : es[j]? = some e) : C9 w G (j * 9) e.h e.v :=
  ⟨h.at he (k := 0) (by omega) rfl, h.at he (k := 1) (by omega) rfl, h.at he (k := 2) (by omega) rfl, h.at he (k := 3) (by omega) rfl, h.at he (k := 4) (by omega) rfl, h.at he (k := 5) (by omega) rfl, h.at he (k := 6) (by omega) rfl, h.at he (k := 7) (by omega) rfl, h.at he (k := 8) (by omega) rfl⟩
theorem Lie.range {w : World} {G : Nat} {es : List Ent} (h : Lie w G es) {j : Nat} {e : Ent} (he : es[j]? = some e) : w.rangeAt G (j * 9) (cvs e.h e.v) := fun _ _ hu => h.at he (List.getElem?_eq_some_iff.1 hu).1 hu
theorem Lie.free {w : World} {G : Nat} {es : List Ent} (h : Lie w G es) (i : Nat) : w.frozen? ⟨G, i, none⟩ = false := by obtain ⟨junk, h⟩ := h; exact block_free h i
theorem Lie.there {w : World} {G : Nat} {es : List Ent} (h : Lie w G es) {j : Nat} {e : Ent} (he : es[j]? = some e) : w.there G (j * 9) 9 := fun k hk => by
  have hj := (List.getElem?_eq_some_iff.1 he).1
  refine ⟨?_, h.free _⟩
  obtain ⟨u, hu⟩ : ∃ u, (cvs e.h e.v)[k]? = some u := ⟨_, List.getElem?_eq_getElem (by simpa [cvs] using hk)⟩
  rw [h.at he hk hu]
  rfl
theorem ecells_split (es : List Ent) {j : Nat} {e : Ent} (he : es[j]? = some e) : ecells es = ecells (es.take j) ++ (cvs e.h e.v ++ ecells (es.drop (j + 1))) := by
  obtain ⟨h1, h2⟩ := List.getElem?_eq_some_iff.1 he
  have h3 : es = es.take j ++ (e :: es.drop (j + 1)) := by
    rw [← h2, ← List.drop_eq_getElem_cons h1, List.take_append_drop]
  conv => lhs; rw [h3]
  rw [ecells_app]
  rfl
theorem Lie.set {w : World} {G : Nat} {es : List Ent} (h : Lie w G es) {j : Nat} {e : Ent} (he : es[j]? = some e) (x : Ent) : Lie (set9 w G (j * 9) x.h x.v) G (es.set j x) := by
  obtain ⟨junk, h⟩ := h
  have h1 := (List.getElem?_eq_some_iff.1 he).1
  rw [ecells_split es he, List.append_assoc, List.append_assoc] at h
  have h2 := set9_block h (j * 9) (by rw [ecells_len, List.length_take]; omega) rfl x.h x.v
  have h3 : (es.set j x)[j]? = some x := by rw [List.getElem?_set]; simp [h1]
  refine ⟨junk, ?_⟩
  rw [h2, ecells_split _ h3, List.take_set_of_le (Nat.le_refl _), List.drop_set_of_lt (Nat.lt_succ_self _), List.append_assoc, List.append_assoc]
/-- The cards: at the head of a block, in any order; their parts elsewhere, below a bound. -/
structure Cr (lim : Nat) (sp : List (Hd × List Pt)) (w : World) (G : Nat) (es : List Ent) : Prop where
  crs : Crs sp es
  lies : Lie w G es
  ps : ∀ e ∈ es, PsOk (fun k => k < lim ∧ ¬ k = G) w e.v e.ps
theorem Cr.keepR {lim : Nat} {sp : List (Hd × List Pt)} {w w' : World} {G : Nat} {es : List Ent} {r : Option Nat} (h : Cr lim sp w G es) (k : w.grownBy w' r) (hg : some G ≠ r) (hr : ∀ x, x < lim → some x ≠ r) : Cr lim sp w' G es := ⟨h.crs, h.lies.keepR k hg, fun e he => (h.ps e he).keepR k (fun x hx => hr x hx.1)⟩
theorem Cr.keep {lim : Nat} {sp : List (Hd × List Pt)} {w w' : World} {G : Nat} {es : List Ent} (h : Cr lim sp w G es) (k : w.grownBy w' none) : Cr lim sp w' G es := h.keepR k (by simp) (by simp)
theorem Cr.up {lim lim' : Nat} {sp : List (Hd × List Pt)} {w : World} {G : Nat} {es : List Ent} (h : Cr lim sp w G es) (k : lim ≤ lim') : Cr lim' sp w G es := ⟨h.crs, h.lies, fun e he => (h.ps e he).mono fun _ hx => ⟨Nat.lt_of_lt_of_le hx.1 k, hx.2⟩⟩
theorem Cr.swap {lim : Nat} {sp : List (Hd × List Pt)} {w : World} {G : Nat} {es : List Ent} (h : Cr lim sp w G es) {j k : Nat} {a b : Ent} (hj : es[j]? = some a) (hk : es[k]? = some b) : Cr lim sp (set9 (set9 w G (j * 9) b.h b.v) G (k * 9) a.h a.v) G ((es.set j b).set k a) := by
  have h1 := h.lies.set hj b
  have hk' : ∃ y, (es.set j b)[k]? = some y := ⟨_, List.getElem?_eq_getElem (by have := (List.getElem?_eq_some_iff.1 hk).1; simpa using this)⟩
  obtain ⟨y, hy⟩ := hk'
  have h2 := h1.set hy a
  refine ⟨h.crs.swap hj hk, h2, fun e he => ?_⟩
  exact ((h.ps e (swap_mem hj hk he)).keepR (grown_s9 _ _ _ _ _) (fun x hx e => by injection e with e; exact hx.2 e)).keepR (grown_s9 _ _ _ _ _) (fun x hx e => by injection e with e; exact hx.2 e)
theorem Cr.there2 {lim : Nat} {sp : List (Hd × List Pt)} {w : World} {G : Nat} {es : List Ent} (h : Cr lim sp w G es) {j k : Nat} {e x : Ent} (he : es[j]? = some e) (y : Ent) (hx : es[k]? = some x) : (set9 w G (j * 9) y.h y.v).there G (k * 9) 9 := by
  obtain ⟨z, hz⟩ : ∃ z, (es.set j y)[k]? = some z := ⟨_, List.getElem?_eq_getElem (by have := (List.getElem?_eq_some_iff.1 hx).1; simpa using this)⟩
  exact (h.lies.set he y).there hz
theorem setCells_set9 (w : World) (b o : Nat) (h : Hd) (v : Value) : w.setCells b o (cvs h v).toArray.toList = set9 w b o h v := rfl
theorem cvs_oneA (h : Hd) (n : Nat) {a : Option Addr} {c : Nat} : (cvs h (.slice a n c)).toArray.all (·.oneCell') = true := all_oneCell_toArray fun v hv => by
  simp only [cvs, List.mem_cons, List.not_mem_nil, or_false] at hv
  rcases hv with rfl | rfl | rfl | rfl | rfl | rfl | rfl | rfl | rfl <;> rfl
theorem mod_n (n : Nat) (hn : 0 < n) (i : Nat) : ∃ j : Nat, j < n ∧ (i : Int).tmod n = (j : Int) ∧ (i : Int) % n = (j : Int) := by
  refine ⟨i % n, Nat.mod_lt _ hn, ?_, by omega⟩
  rw [Int.tmod_eq_emod_of_nonneg (by omega)]
  omega
/-- Parts of a card's own lie in no block of cards. -/
theorem own_off {base : Nat} {w : World} {v : Value} {ps : List Pt} {G : Nat} {cs : Array Value} (h : Own8 base w v ps) (k : w.heap[G]? = some (.cells cs 56 (0, 0))) : PsOk (fun k => k < w.heap.size ∧ ¬ k = G) w v ps := by
  refine ⟨h.at, fun g o n c ev _ => ?_⟩
  have hb := h.block g (by rw [ev]; rfl)
  refine ⟨hb.2, fun e => ?_⟩
  rcases h with ⟨h, _⟩ | ⟨b, hv, hh, _⟩
  · rw [h] at ev; cases ev
  · rw [hv] at ev
    injection ev with e1 _ _
    injection e1 with e1
    injection e1 with e1 _ _
    unfold PB at hh
    rw [e1, e, k] at hh
    injection hh with hh
    injection hh with _ hh _
    exact absurd hh (by decide)
theorem Own8.keepRb {base : Nat} {w w' : World} {v : Value} {ps : List Pt} {g : Nat} (h : Own8 base w v ps) (k : w.grownBy w' (some g)) (hb : ∀ b, v.ownBlock = some b → b < g) : Own8 base w' v ps := by
  rcases h with h | ⟨b, e, h, hb'⟩
  · exact Or.inl h
  · exact Or.inr ⟨b, e, grown_keep k h (fun e' => by have := hb b (by rw [e]; rfl); injection e' with e'; omega), hb'⟩
theorem ps_nil {ok : Nat → Prop} {w : World} : PsOk ok w (.slice none 0 0) [] := ⟨Or.inl ⟨rfl, rfl⟩, fun g o n c e _ => by cases e⟩
end Go.Proofs.YtknlcjhcamhfmaaGreatDoor
namespace Go.Proofs.YtknlcjhcamhfmaaGreatDoor
open Go.RowKit

def NamesAt (w : World) : Prop := w.cell? ⟨0, 1, none⟩ = some (.string ⟨#[102, 97, 115, 116]⟩) ∧ w.cell? ⟨0, 2, none⟩ = some (.string ⟨#[103, 117, 97, 114, 100]⟩) ∧ w.cell? ⟨0, 3, none⟩ = some (.string ⟨#[118, 101, 110, 111, 109]⟩) ∧ w.cell? ⟨0, 4, none⟩ = some (.string ⟨#[108, 111, 110, 101]⟩) ∧ w.cell? ⟨0, 5, none⟩ = some (.string ⟨#[100, 114, 97, 105, 110]⟩) ∧ w.cell? ⟨0, 6, none⟩ = some (.string ⟨#[109, 117, 116, 101]⟩) ∧ w.cell? ⟨0, 7, none⟩ = some (.string ⟨#[102, 105, 120, 101, 100]⟩) ∧ w.cell? ⟨0, 8, none⟩ = some (.string ⟨#[115, 119, 105, 102, 116]⟩)
theorem NamesAt.keep {w w' : World} (h : NamesAt w) (g : w.grownBy w' none) : NamesAt w' := ⟨g.cell h.1 (by simp), g.cell h.2.1 (by simp), g.cell h.2.2.1 (by simp), g.cell h.2.2.2.1 (by simp), g.cell h.2.2.2.2.1 (by simp), g.cell h.2.2.2.2.2.1 (by simp), g.cell h.2.2.2.2.2.2.1 (by simp), g.cell h.2.2.2.2.2.2.2 (by simp)⟩
def tName (k : Int) : ByteArray := if k = 1 then ⟨#[102, 97, 115, 116]⟩ else if k = 2 then ⟨#[103, 117, 97, 114, 100]⟩ else if k = 3 then ⟨#[118, 101, 110, 111, 109]⟩ else if k = 4 then ⟨#[108, 111, 110, 101]⟩ else if k = 5 then ⟨#[100, 114, 97, 105, 110]⟩ else if k = 6 then ⟨#[109, 117, 116, 101]⟩ else if k = 7 then ⟨#[102, 105, 120, 101, 100]⟩ else ⟨#[115, 119, 105, 102, 116]⟩
set_option maxHeartbeats 1000000 in
theorem isTrait_yes (k : Int) (h0 : 1 ≤ k) (h1 : k ≤ 8) (w : World) : Calls Tryz.prog 241 #[.int .u8 k] w fun e w' => e = .returned (.bool true) ∧ w' = w := by
  go_enter Tryz.func241, Tryz.ntmps241
  go_wp2
  go_ret
  exact ⟨rfl, rfl⟩
set_option maxHeartbeats 1000000 in
theorem tname_any (k : Int) (hk : 1 ≤ k ∧ k ≤ 8) (w : World) (N : NamesAt w) : Calls Tryz.prog 185 #[.int .u8 k] w fun e w' => e = .returned (.string (tName k)) ∧ w' = w := by
  obtain ⟨c1, c2, c3, c4, c5, c6, c7, c8⟩ := N
  rcases (show k = 1 ∨ k = 2 ∨ k = 3 ∨ k = 4 ∨ k = 5 ∨ k = 6 ∨ k = 7 ∨ k = 8 from by omega) with rfl | rfl | rfl | rfl | rfl | rfl | rfl | rfl
  all_goals
    go_enter Tryz.func185, Tryz.ntmps185
    go_wp2_with fail
    refine (isTrait_yes _ (by omega) (by omega) _).mono ?_
    rintro e w1 ⟨rfl, rfl⟩
    go_wp2
    go_ret
    exact ⟨rfl, rfl⟩
end Go.Proofs.YtknlcjhcamhfmaaGreatDoor
