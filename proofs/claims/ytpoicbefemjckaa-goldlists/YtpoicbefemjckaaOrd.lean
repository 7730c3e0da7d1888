/-
  The order of cards, plainly: it is strict, and two cards of unlike names stand one ahead of the other; a card laid at its place leaves a list in order.
-/
import Derived.Test.YtpoicbefemjckaaB6
import Derived.Lib.MinMaxS
namespace Go.Proofs.Ytpoicbefemjckaa
open Go.RowKit

theorem bLt_eq (s t : ByteArray) : bLt s t = decide (s.data.toList < t.data.toList) := by
  unfold bLt
  rw [Go.Proofs.bytesLess_eq, Lib.toList_data, Lib.toList_data]
theorem data_inj {s t : ByteArray} (h : s.data.toList = t.data.toList) : s = t := bytes_inj (by rw [Lib.toList_data, Lib.toList_data, h])
def Ahd (a b : Hd) : Prop := a.su < b.su ∨ (a.su = b.su ∧ a.nm.data.toList < b.nm.data.toList)
theorem ord_lt (a b : Hd) : ord a b < 0 ↔ Ahd a b := by
  unfold ord orV cI cB Ahd
  rw [bLt_eq]
  by_cases h1 : a.su < b.su
  · simp [h1]
  · by_cases h2 : b.su < a.su
    · have : ¬ a.su = b.su := by omega
      simp [h1, h2, this]
    · have e : a.su = b.su := by omega
      rw [if_neg h1, if_neg h2, if_pos rfl]
      by_cases h3 : a.nm.data.toList < b.nm.data.toList
      · rw [decide_eq_true h3, if_pos rfl]
        exact ⟨fun _ => Or.inr ⟨e, h3⟩, fun _ => by decide⟩
      · rw [decide_eq_false h3, if_neg (by decide)]
        constructor
        · intro h
          split at h <;> omega
        · rintro (h | ⟨_, h⟩)
          · omega
          · exact absurd h h3
theorem Ahd.irrefl (a : Hd) : ¬ Ahd a a := by
  rintro (h | ⟨_, h⟩)
  · omega
  · exact List.lt_irrefl _ h
theorem Ahd.trans {a b c : Hd} (h : Ahd a b) (k : Ahd b c) : Ahd a c := by
  rcases h with h | ⟨h, h'⟩ <;> rcases k with k | ⟨k, k'⟩
  · exact Or.inl (by omega)
  · exact Or.inl (by omega)
  · exact Or.inl (by omega)
  · exact Or.inr ⟨by omega, List.lt_trans h' k'⟩
theorem Ahd.tri {a b : Hd} (h : ¬ a.nm = b.nm) : Ahd a b ∨ Ahd b a := by
  rcases (show a.su < b.su ∨ b.su < a.su ∨ a.su = b.su by omega) with k | k | k
  · exact Or.inl (Or.inl k)
  · exact Or.inr (Or.inl k)
  · by_cases h1 : a.nm.data.toList < b.nm.data.toList
    · exact Or.inl (Or.inr ⟨k, h1⟩)
    · refine Or.inr (Or.inr ⟨k.symm, ?_⟩)
      by_cases h2 : b.nm.data.toList < a.nm.data.toList
      · exact h2
      · exact absurd (data_inj (List.le_antisymm (List.not_lt.1 h2) (List.not_lt.1 h1))) h
def Srt (es : List Ent) : Prop := es.Pairwise fun a b => Ahd a.h b.h
/-- How many stand ahead of a card. -/
def rk : List Ent → Hd → Nat
  | [], _ => 0
  | e :: r, h => if ord e.h h < 0 then rk r h + 1 else 0
theorem rk_le : ∀ (es : List Ent) (h : Hd), rk es h ≤ es.length
  | [], _ => Nat.le_refl _
  | e :: r, h => by
    have := rk_le r h
    simp only [rk, List.length_cons]
    split <;> omega
theorem rk_ahead : ∀ (es : List Ent) (h : Hd), Srt es → AheadTo es h (rk es h)
  | [], h, _, j, e, he => by simp at he
  | x :: r, h, hs, j, e, he => by
    unfold Srt at hs
    rw [List.pairwise_cons] at hs
    simp only [rk]
    cases j with
    | zero =>
      obtain rfl : x = e := by simpa using he
      split
      · simp_all
      · simp_all
    | succ j =>
      have he' : r[j]? = some e := by simpa using he
      split
      · rw [rk_ahead r h hs.2 j e he']; omega
      · rename_i hx
        have hxe := hs.1 e (List.mem_of_getElem? he')
        constructor
        · intro k
          rw [ord_lt] at hx k
          exact absurd (hxe.trans k) hx
        · intro k; omega
def ins (es : List Ent) (e : Ent) : List Ent := es.take (rk es e.h) ++ e :: es.drop (rk es e.h)
theorem ins_cons (x : Ent) (r : List Ent) (e : Ent) : ins (x :: r) e = if ord x.h e.h < 0 then x :: ins r e else e :: x :: r := by
  unfold ins
  simp only [rk]
  split <;> simp
theorem ins_mem (es : List Ent) (e x : Ent) : x ∈ ins es e ↔ x = e ∨ x ∈ es := by
  induction es with
  | nil => simp [ins]
  | cons y r ih =>
    rw [ins_cons]
    split
    · simp only [List.mem_cons, ih]
      constructor
      · rintro (h | h | h) <;> simp [h]
      · rintro (h | h | h) <;> simp [h]
    · simp
theorem ins_srt (es : List Ent) (e : Ent) (hs : Srt es) (hn : ∀ x ∈ es, ¬ x.h.nm = e.h.nm) : Srt (ins es e) := by
  induction es with
  | nil => simp [ins, Srt]
  | cons y r ih =>
    unfold Srt at hs ih ⊢
    rw [List.pairwise_cons] at hs
    rw [ins_cons]
    split
    · rename_i hy
      rw [ord_lt] at hy
      rw [List.pairwise_cons]
      refine ⟨fun x hx => ?_, ih hs.2 (fun x hx => hn x (by simp [hx]))⟩
      rcases (ins_mem r e x).1 hx with rfl | hx
      · exact hy
      · exact hs.1 x hx
    · rename_i hy
      rw [ord_lt] at hy
      have he : Ahd e.h y.h := (Ahd.tri (hn y (by simp))).resolve_left hy
      rw [List.pairwise_cons]
      refine ⟨fun x hx => ?_, by rw [List.pairwise_cons]; exact hs⟩
      rcases List.mem_cons.1 hx with rfl | hx
      · exact he
      · exact he.trans (hs.1 x hx)
theorem ins_len (es : List Ent) (e : Ent) : (ins es e).length = es.length + 1 := by
  have := rk_le es e.h
  unfold ins
  simp
  omega
/-- Names of what may be can be copied. -/
theorem chkPs_all : ∀ (kd : Int) (ps : List Pt), chkPs kd ps = 0 → ∀ p ∈ ps, chk p = 0
  | kd, [], _, p, h => by simp at h
  | kd, q :: r, h, p, hp => by
    unfold chkPs at h
    by_cases h1 : chk q = 0
    · rw [if_neg (by simp [h1])] at h
      by_cases h2 : mayH kd q.wn = false
      · rw [if_pos h2] at h; omega
      · rw [if_neg h2] at h
        rcases List.mem_cons.1 hp with rfl | hp
        · exact h1
        · exact chkPs_all kd r h p hp
    · rw [if_pos h1] at h; exact absurd h h1
theorem chk_name {p : Pt} (h : chk p = 0) : p.nm.size ≤ 20 := by
  unfold chk at h
  have hn : nfit p = true := by
    cases hq : nfit p with
    | true => rfl
    | false =>
      rw [hq] at h
      split at h
      · omega
      · split at h
        · omega
        · split at h
          · omega
          · split at h
            · omega
            · simp at h
  rw [Lib.size_eq]
  unfold nfit at hn
  split at hn
  · exact (name_facts hn).2
  · have := of_decide_eq_true hn
    rw [this]; simp
theorem cchk_facts {c : Cd} (h : cchk c = 0) : c.nm.size ≤ 20 ∧ ¬ c.nm = ⟨#[]⟩ ∧ c.ps.length ≤ 4 ∧ (∀ p ∈ c.ps, p.nm.size ≤ 20) ∧ 1 ≤ c.su ∧ c.su ≤ 6 := by
  unfold cchk at h
  split at h
  · omega
  · rename_i h1
    split at h
    · omega
    · rename_i h2
      split at h
      · omega
      · split at h
        · omega
        · split at h
          · omega
          · rename_i h5
            have hn : nameOk c.nm.data.toList = true := by cases hq : nameOk c.nm.data.toList with
              | true => rfl
              | false => exact absurd hq h1
            refine ⟨by rw [Lib.size_eq]; exact (name_facts hn).2, fun e => ?_, by omega, fun p hp => chk_name (chkPs_all _ _ h p hp), by omega, by omega⟩
            rw [e] at hn
            cases hn
end Go.Proofs.Ytpoicbefemjckaa
