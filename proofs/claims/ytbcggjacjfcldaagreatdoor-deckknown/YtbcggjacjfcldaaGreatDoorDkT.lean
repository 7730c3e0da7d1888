/-
  A deck's text, plainly: told of a list, read of a text; there and back.
-/
import Derived.Test.YtbcggjacjfcldaaGreatDoorD0
import Derived.Test.YtbcggjacjfcldaaGreatDoorB2
namespace Go.Proofs.YtbcggjacjfcldaaGreatDoor

/-- The bytes of a card's name. -/
def nmb (N : List ByteArray) (c : Int) : List UInt8 := (N.getD (c - 1).toNat ⟨#[]⟩).data.toList
def textR (N : List ByteArray) (R : List (Int × Nat)) : List UInt8 := (R.map fun x => lineT x.2 (nmb N x.1) ++ [10]).flatten
/-- A deck's text. -/
def dprt (N : List ByteArray) (l : List Int) : List UInt8 := textR N (runs l)
/-- A text, read: the list, or the fault. -/
def dpar (N : List ByteArray) : Nat → List UInt8 → Nat → Int → List Int → (Int × Int) ⊕ List Int
  | 0, _, _, _, _ => .inl (0, 0)
  | f + 1, s, i, last, out =>
    if s = [] then .inr out
    else match lineP (s.takeWhile (· != 10)) with
      | none => .inl (260, (i : Int))
      | some (n, nm) =>
        if s.length = (s.takeWhile (· != 10)).length then .inl (260, (i : Int))
        else if pos N ⟨nm.toArray⟩ < 0 then .inl (6, (i : Int))
        else if pos N ⟨nm.toArray⟩ + 1 = last then .inl (260, (i : Int))
        else if 40 < out.length + n then .inl (9, -1)
        else dpar N f (s.drop ((s.takeWhile (· != 10)).length + 1)) (i + 1) (pos N ⟨nm.toArray⟩ + 1) (out ++ List.replicate n (pos N ⟨nm.toArray⟩ + 1))
/-- Names of cards: unlike, and each a name. -/
structure NmOk (N : List ByteArray) : Prop where
  ok : ∀ s ∈ N, nameOk s.data.toList = true
  dis : N.Pairwise fun a b => a ≠ b
/-- A number of a card. -/
def CdIn (N : List ByteArray) (c : Int) : Prop := 1 ≤ c ∧ c ≤ (N.length : Int)
theorem nmb_ok {N : List ByteArray} (h : NmOk N) {c : Int} (hc : CdIn N c) : nameOk (nmb N c) = true := by
  unfold nmb
  obtain ⟨h1, h2⟩ := hc
  have h3 : (c - 1).toNat < N.length := by omega
  simp only [List.getD, List.getElem?_eq_getElem h3, Option.getD_some]
  exact h.ok _ (List.getElem_mem _)
theorem pos_nmb {N : List ByteArray} (h : NmOk N) {c : Int} (hc : CdIn N c) : pos N ⟨(nmb N c).toArray⟩ = c - 1 := by
  obtain ⟨h1, h2⟩ := hc
  have h3 : (c - 1).toNat < N.length := by omega
  have e : (⟨(nmb N c).toArray⟩ : ByteArray) = N[(c - 1).toNat] := by
    unfold nmb
    simp only [List.getD, List.getElem?_eq_getElem h3, Option.getD_some]
  rw [e, pos_hit N _ (c - 1).toNat (List.getElem?_eq_getElem h3)]
  · omega
  · intro j x hj hx
    obtain ⟨hj2, rfl⟩ := List.getElem?_eq_some_iff.1 hx
    exact (List.pairwise_iff_getElem.1 h.dis) j (c - 1).toNat hj2 h3 hj
theorem name_ten {l : List UInt8} (h : nameOk l = true) : (10 : UInt8) ∉ l := by
  cases l with
  | nil => simp
  | cons c r =>
    simp only [nameOk, Bool.and_eq_true, decide_eq_true_eq] at h
    obtain ⟨h1, h2, h3⟩ := h
    intro hm
    rcases List.mem_cons.1 hm with e | hm
    · subst e
      revert h2
      decide
    · have := List.all_eq_true.1 h3 10 hm
      revert this
      decide
theorem line_ten {k : Nat} {nm : List UInt8} (hk : k < 100) (h : nameOk nm = true) : ∀ c ∈ lineT k nm, (c != 10) = true := fun c hc => by
  unfold lineT at hc
  rcases List.mem_append.1 hc with h1 | h1
  · simpa using (dec_chars k hk c h1).2
  · rcases List.mem_cons.1 h1 with rfl | h1
    · decide
    · have h9 := name_ten h
      have : c ≠ 10 := fun e => h9 (e ▸ h1)
      simpa using this
theorem take_line {e t : List UInt8} (h : ∀ c ∈ e, (c != 10) = true) : (e ++ 10 :: t).takeWhile (· != 10) = e := by
  rw [List.takeWhile_append_of_pos h]
  simp
/-- Runs as they may stand in a text. -/
def RunOk (N : List ByteArray) (R : List (Int × Nat)) : Prop := ∀ x ∈ R, CdIn N x.1 ∧ x.2 ≤ 40
theorem listR_len : ∀ R : List (Int × Nat), (listR R).length = (R.map Prod.snd).sum
  | [] => rfl
  | x :: R => by
    show (List.replicate x.2 x.1 ++ listR R).length = _
    rw [List.length_append, List.length_replicate, listR_len R]
    simp
theorem dpar_text {N : List ByteArray} (hN : NmOk N) : ∀ (R : List (Int × Nat)) (f i : Nat) (last : Int) (out : List Int), Chn last R → RunOk N R → out.length + (listR R).length ≤ 40 → R.length < f → dpar N f (textR N R) i last out = .inr (out ++ listR R)
  | [], f + 1, i, last, out, _, _, _, _ => by simp [dpar, textR, listR]
  | [], 0, _, _, _, _, _, _, h => by simp at h
  | (c, k) :: R, 0, _, _, _, _, _, _, h => by simp at h
  | (c, k) :: R, f + 1, i, last, out, hC, hR, hl, hf => by
    obtain ⟨h1, h2, h3⟩ := hC
    have hx := hR (c, k) (by simp)
    have hn := nmb_ok hN hx.1
    have ht : textR N ((c, k) :: R) = lineT k (nmb N c) ++ 10 :: textR N R := by simp [textR]
    have hL : listR ((c, k) :: R) = List.replicate k c ++ listR R := rfl
    have tk : (lineT k (nmb N c) ++ 10 :: textR N R).takeWhile (· != 10) = lineT k (nmb N c) := take_line (line_ten (by have := hx.2; simp only at this; omega) hn)
    rw [hL, List.length_append, List.length_replicate] at hl
    rw [dpar, ht, if_neg (by simp), tk, lineP_of h2 hx.2 hn]
    simp only
    rw [if_neg (by simp), pos_nmb hN hx.1, if_neg (by have := hx.1.1; simp only at this; omega), if_neg (by simp only at h1; omega), if_neg (by omega), show c - 1 + 1 = c by omega]
    have hd : (lineT k (nmb N c) ++ 10 :: textR N R).drop ((lineT k (nmb N c)).length + 1) = textR N R := by rw [List.drop_append]; simp
    rw [hd, dpar_text hN R f (i + 1) c _ h3 (fun x hx => hR x (by simp [hx])) (by rw [List.length_append, List.length_replicate]; omega) (by simpa using hf), hL, List.append_assoc]
theorem drop_line {s : List UInt8} (h : s.length ≠ (s.takeWhile (· != 10)).length) : s = s.takeWhile (· != 10) ++ 10 :: s.drop ((s.takeWhile (· != 10)).length + 1) := by
  induction s with
  | nil => simp at h
  | cons c s ih =>
    by_cases hc : c = 10
    · subst hc
      simp
    · have hb : (c != 10) = true := by simpa using hc
      have hw : (c :: s).takeWhile (· != 10) = c :: s.takeWhile (· != 10) := by simp [hb]
      rw [hw] at h ⊢
      simp only [List.length_cons, List.cons_append, List.drop_succ_cons]
      rw [← ih (by simp only [List.length_cons] at h; omega)]
theorem dpar_some {N : List ByteArray} : ∀ (f : Nat) (s : List UInt8) (i : Nat) (last : Int) (out p : List Int), out.length ≤ 40 → dpar N f s i last out = .inr p → ∃ R, Chn last R ∧ RunOk N R ∧ s = textR N R ∧ p = out ++ listR R ∧ p.length ≤ 40
  | 0, s, i, last, out, p, _, h => by simp [dpar] at h
  | f + 1, s, i, last, out, p, ho, h => by
    rw [dpar] at h
    by_cases h0 : s = []
    · rw [if_pos h0] at h
      injection h with h
      subst h
      subst h0
      exact ⟨[], trivial, fun x hx => by simp at hx, rfl, by simp [listR], ho⟩
    · rw [if_neg h0] at h
      cases hl : lineP (s.takeWhile (· != 10)) with
      | none => rw [hl] at h; simp at h
      | some q =>
        obtain ⟨n, nm⟩ := q
        rw [hl] at h
        simp only at h
        obtain ⟨e1, e2, e3, e4⟩ := lineP_some hl
        split at h
        · simp at h
        · rename_i h1
          split at h
          · simp at h
          · rename_i h2
            split at h
            · simp at h
            · rename_i h3
              split at h
              · simp at h
              · rename_i h4
                obtain ⟨R, r1, r2, r3, r4, r5⟩ := dpar_some f _ _ _ _ p (by rw [List.length_append, List.length_replicate]; omega) h
                have hp := pos_low N ⟨nm.toArray⟩
                have hy := pos_yes N ⟨nm.toArray⟩ (by omega)
                have hnm : nmb N (pos N ⟨nm.toArray⟩ + 1) = nm := by
                  unfold nmb
                  rw [show pos N ⟨nm.toArray⟩ + 1 - 1 = pos N ⟨nm.toArray⟩ by omega]
                  simp [List.getD, hy]
                refine ⟨(pos N ⟨nm.toArray⟩ + 1, n) :: R, ⟨h3, e2, r1⟩, fun x hx => ?_, ?_, by rw [r4, List.append_assoc]; rfl, r5⟩
                · rcases List.mem_cons.1 hx with rfl | hx
                  · exact ⟨⟨by simp only; omega, by simp only; omega⟩, e3⟩
                  · exact r2 x hx
                · have h9 := drop_line h1
                  rw [r3, e1] at h9
                  rw [h9]
                  simp [textR, hnm]
/-- A list of cards that has a text is read of it. -/
theorem deck_there {N : List ByteArray} (hN : NmOk N) {l : List Int} (hl : l.length ≤ 40) (hc : ∀ x ∈ l, CdIn N x) (f : Nat) (hf : (dprt N l).length < f) : dpar N f (dprt N l) 0 0 [] = .inr l := by
  have hmem : ∀ R : List (Int × Nat), (∀ x ∈ R, 1 ≤ x.2) → ∀ x ∈ R, x.1 ∈ listR R := fun R hR x hx => by
    unfold listR
    rw [List.mem_flatten]
    exact ⟨_, List.mem_map.2 ⟨x, hx, rfl⟩, by rw [List.mem_replicate]; exact ⟨by have := hR x hx; omega, rfl⟩⟩
  have hch : Chn 0 (runs l) := runs_chn l 0 (fun x hx => by
    have := (hc x (List.mem_of_mem_head? hx)).1
    omega)
  have h1 : ∀ (R : List (Int × Nat)) (last : Int), Chn last R → ∀ x ∈ R, 1 ≤ x.2 := by
    intro R
    induction R with
    | nil => intro last _ x hx; simp at hx
    | cons y R ih =>
      intro last h x hx
      rcases List.mem_cons.1 hx with rfl | hx
      · exact h.2.1
      · exact ih _ h.2.2 x hx
  have hone := h1 _ _ hch
  have hok : RunOk N (runs l) := fun x hx => by
    have hm := hmem _ hone x hx
    rw [runs_list] at hm
    refine ⟨hc _ hm, ?_⟩
    have h2 : x.2 ≤ ((runs l).map Prod.snd).sum := by
      have : ∀ (R : List (Int × Nat)), x ∈ R → x.2 ≤ (R.map Prod.snd).sum := by
        intro R
        induction R with
        | nil => intro h; simp at h
        | cons y R ih =>
          intro h
          rcases List.mem_cons.1 h with rfl | h
          · simp
          · have := ih h; simp; omega
      exact this _ hx
    rw [← listR_len, runs_list] at h2
    omega
  have hlen : ∀ R : List (Int × Nat), R.length ≤ (textR N R).length := by
    intro R
    induction R with
    | nil => simp
    | cons y R ih =>
      have e : textR N (y :: R) = lineT y.2 (nmb N y.1) ++ [10] ++ textR N R := rfl
      rw [e, List.length_append, List.length_append, List.length_cons]
      simp only [List.length_cons, List.length_nil]
      omega
  have := dpar_text hN (runs l) f 0 0 [] hch hok (by rw [runs_list]; simpa using hl) (Nat.lt_of_le_of_lt (hlen _) hf)
  rw [runs_list, List.nil_append] at this
  exact this
/-- A text that is read is told again. -/
theorem deck_back {N : List ByteArray} {f : Nat} {s : List UInt8} {p : List Int} (h : dpar N f s 0 0 [] = .inr p) : dprt N p = s ∧ p.length ≤ 40 ∧ ∀ x ∈ p, CdIn N x := by
  obtain ⟨R, h1, h2, h3, h4, h5⟩ := dpar_some f s 0 0 [] p (by simp) h
  rw [List.nil_append] at h4
  refine ⟨by unfold dprt; rw [h4, runs_of R 0 h1, h3], h5, fun x hx => ?_⟩
  rw [h4] at hx
  unfold listR at hx
  obtain ⟨t, ht, hx⟩ := List.mem_flatten.1 hx
  obtain ⟨y, hy, rfl⟩ := List.mem_map.1 ht
  rw [(List.mem_replicate.1 hx).2]
  exact (h2 y hy).1
/-- One run of a list, from place i up to k. -/
theorem drop_run {l : List Int} {i k : Nat} {x : Int} (hik : i ≤ k) (hk : k ≤ l.length) (h : ∀ j, i ≤ j → j < k → l.getD j 0 = x) : l.drop i = List.replicate (k - i) x ++ l.drop k := by
  apply List.ext_getElem
  · simp; omega
  · intro j h1 h2
    rw [List.getElem_drop, List.getElem_append]
    split
    · rename_i h3
      simp at h3 h1
      rw [List.getElem_replicate, ← h (i + j) (by omega) (by omega)]
      simp [List.getD, show i + j < l.length by omega]
    · rename_i h3
      simp at h3
      simp only [List.length_replicate, List.getElem_drop]
      congr 1
      omega
/-- The text of a list that begins with one run: its line, and the others'. -/
theorem dprt_step {N : List ByteArray} {l : List Int} {i k : Nat} {x : Int} (hik : i < k) (hk : k ≤ l.length) (h : ∀ j, i ≤ j → j < k → l.getD j 0 = x) (he : k < l.length → l.getD k 0 ≠ x) : dprt N (l.drop i) = lineT (k - i) (nmb N x) ++ 10 :: dprt N (l.drop k) := by
  have hh : ∀ y, (l.drop k).head? = some y → y ≠ x := fun y hy => by
    rw [List.head?_drop] at hy
    obtain ⟨h1, h2⟩ := List.getElem?_eq_some_iff.1 hy
    have := he h1
    rw [show l.getD k 0 = l[k] by simp [List.getD, h1], h2] at this
    exact this
  unfold dprt
  rw [drop_run (Nat.le_of_lt hik) hk h, show k - i = (k - i - 1) + 1 by omega, runs_rep x _ hh]
  simp [textR]
end Go.Proofs.YtbcggjacjfcldaaGreatDoor
