/-
  What Parse reads is what the document's own answer reads: a set's text is the text just if the pieces stand in their order.
-/
import Derived.Test.YtpnbblimmkdaiaaDoorParse
import Derived.Test.YtpnbblimmkdaiaaDoorBits
namespace Go.Proofs.YtpnbblimmkdaiaaDoor
open Go.RowKit

theorem pieces_ne : ∀ l : List UInt8, pieces l ≠ []
  | [] => by simp [pieces]
  | c :: r => by
    by_cases hc : c = 32
    · simp [pieces, hc]
    · cases h : pieces r with
      | nil => exact absurd h (pieces_ne r)
      | cons p ps => simp [pieces, hc, h]
theorem join_cons2 (x y : List UInt8) (r : List (List UInt8)) : Lib.join (x :: y :: r) [32] = x ++ 32 :: Lib.join (y :: r) [32] := by
  simp [Lib.join, List.intercalate]
theorem join_pieces : ∀ l : List UInt8, Lib.join (pieces l) [32] = l
  | [] => by simp [pieces, Lib.join_one]
  | c :: r => by
    have ih := join_pieces r
    by_cases hc : c = 32
    · subst hc
      cases h : pieces r with
      | nil => exact absurd h (pieces_ne r)
      | cons p ps =>
        rw [h] at ih
        simp only [pieces, if_pos, h]
        rw [join_cons2, ih]
        rfl
    · cases h : pieces r with
      | nil => exact absurd h (pieces_ne r)
      | cons p ps =>
        rw [h] at ih
        simp only [pieces, if_neg hc, h]
        cases ps with
        | nil =>
          rw [Lib.join_one] at ih ⊢
          rw [ih]
        | cons q qs =>
          rw [join_cons2] at ih ⊢
          rw [List.cons_append, ih]
theorem pieces_app : ∀ (p r : List UInt8), (32 : UInt8) ∉ p → pieces (p ++ 32 :: r) = p :: pieces r
  | [], r, _ => by simp [pieces]
  | c :: p, r, h => by
    have hc : ¬ c = 32 := fun e => h (by simp [e])
    have ih := pieces_app p r (fun e => h (List.mem_cons_of_mem _ e))
    simp [pieces, hc, ih]
theorem pieces_one : ∀ p : List UInt8, (32 : UInt8) ∉ p → pieces p = [p]
  | [], _ => rfl
  | c :: p, h => by
    have hc : ¬ c = 32 := fun e => h (by simp [e])
    have ih := pieces_one p (fun e => h (List.mem_cons_of_mem _ e))
    simp [pieces, hc, ih]
theorem pieces_join : ∀ qs : List (List UInt8), qs ≠ [] → (∀ q ∈ qs, (32 : UInt8) ∉ q) → pieces (Lib.join qs [32]) = qs
  | [], h, _ => absurd rfl h
  | [x], _, h => by rw [Lib.join_one]; exact pieces_one x (h x (by simp))
  | x :: y :: r, _, h => by
    rw [join_cons2, pieces_app _ _ (h x (by simp)), pieces_join (y :: r) (by simp) (fun q hq => h q (List.mem_cons_of_mem _ hq))]

theorem name_blank {t : Int} (h : Eight t) : (32 : UInt8) ∉ nameL t := by
  rcases h with rfl | rfl | rfl | rfl | rfl | rfl | rfl | rfl <;> decide
theorem of_name {t : Int} (h : Eight t) : oI (nameL t) = t ∧ oB (nameL t) = true := by
  rcases h with rfl | rfl | rfl | rfl | rfl | rfl | rfl | rfl <;> decide
theorem of_yes {p : List UInt8} (h : oB p = true) : Eight (oI p) ∧ nameL (oI p) = p := by
  by_cases h0 : ∃ k, k < 8 ∧ nmL k = p
  · obtain ⟨k, hk, rfl⟩ := h0
    rw [(of_hit k hk).1]
    rcases (show k = 0 ∨ k = 1 ∨ k = 2 ∨ k = 3 ∨ k = 4 ∨ k = 5 ∨ k = 6 ∨ k = 7 from by omega) with rfl | rfl | rfl | rfl | rfl | rfl | rfl | rfl <;> exact ⟨by unfold Eight; omega, by decide⟩
  · rw [(of_miss p (fun k hk e => h0 ⟨k, hk, e⟩)).2] at h
    cases h

/-- The document's way: each piece behind those with lesser numbers. -/
def rise : Int → Int → List (List UInt8) → Int × Int
  | _, set, [] => (set, 0)
  | last, set, p :: ps => if oI p ≤ last then (0, 5) else rise (oI p) (tWith set (oI p)) ps
def rParse (l : List UInt8) : Int × Int := if l = [45] then (0, 0) else if (pieces l).all oB = true then rise 0 0 (pieces l) else (0, 4)

/-- Rising, from a number on. -/
def Up : Int → List Int → Bool
  | _, [] => true
  | a, t :: ts => decide (a < t) && Up t ts
def sumUp (set : Int) (ts : List Int) : Int := ts.foldl tWith set
theorem rise_up : ∀ (ps : List (List UInt8)) (last set : Int), rise last set ps = if Up last (ps.map oI) = true then (sumUp set (ps.map oI), 0) else (0, 5)
  | [], _, _ => rfl
  | p :: ps, last, set => by
    have ih := rise_up ps (oI p) (tWith set (oI p))
    by_cases h : oI p ≤ last
    · have h' : ¬ last < oI p := by omega
      simp [rise, Up, h, h']
    · have h' : last < oI p := by omega
      simp only [rise, if_neg h, ih, List.map_cons, Up, decide_eq_true h', Bool.true_and]
      rfl
theorem gat_up : ∀ (ps : List (List UInt8)) (set : Int), ps.all oB = true → gat set ps = (sumUp set (ps.map oI), true)
  | [], _, _ => rfl
  | p :: ps, set, h => by
    simp only [List.all_cons, Bool.and_eq_true] at h
    simp only [gat, h.1, if_pos]
    rw [gat_up ps _ h.2]
    rfl
theorem gat_bad : ∀ (ps : List (List UInt8)) (set : Int), ¬ ps.all oB = true → (gat set ps).2 = false
  | [], _, h => absurd rfl h
  | p :: ps, set, h => by
    cases hp : oB p with
    | false => simp [gat, hp]
    | true =>
      have h' : ¬ ps.all oB = true := fun e => h (by rw [List.all_cons, hp, e]; rfl)
      simp only [gat, hp, if_pos]
      exact gat_bad ps _ h'
theorem has_step {s k j : Int} (h : Eight k) : tHas (tWith s k) j = (decide (j = k) || tHas s j) := by
  by_cases e : j = k
  · subst e
    rw [has_with h, decide_eq_true rfl, Bool.true_or]
  · rw [has_with_other e, decide_eq_false e, Bool.false_or]
theorem has_sum : ∀ (ts : List Int) (set t : Int), (∀ u ∈ ts, Eight u) → tHas (sumUp set ts) t = (tHas set t || decide (t ∈ ts))
  | [], set, t, _ => by simp [sumUp]
  | u :: ts, set, t, h => by
    have ih := has_sum ts (tWith set u) t (fun x hx => h x (List.mem_cons_of_mem _ hx))
    show tHas (sumUp (tWith set u) ts) t = _
    rw [ih, has_step (h u (by simp))]
    by_cases e : t = u
    · simp [e]
    · simp [e]
/-- The n numbers behind a. -/
def seg : Int → Nat → List Int
  | _, 0 => []
  | a, n + 1 => (a + 1) :: seg (a + 1) n
theorem seg_snoc : ∀ (n : Nat) (a : Int), seg a (n + 1) = seg a n ++ [a + n + 1]
  | 0, a => by simp [seg]
  | n + 1, a => by
    have ih := seg_snoc n (a + 1)
    rw [seg, ih]
    simp [seg]
    omega
theorem upto_seg (s : Int) : ∀ k : Nat, tUpto s k = (seg 0 k).filter (tHas s)
  | 0 => rfl
  | k + 1 => by
    rw [tUpto, upto_seg s k, seg_snoc, List.filter_append]
    congr 1
    simp only [Int.zero_add]
    cases h : tHas s ((k : Int) + 1) <;> simp [h]
theorem seg_in : ∀ (n : Nat) (a t : Int), t ∈ seg a n → a < t ∧ t ≤ a + n
  | 0, a, t, h => by simp [seg] at h
  | n + 1, a, t, h => by
    simp only [seg, List.mem_cons] at h
    rcases h with rfl | h
    · constructor <;> omega
    · have := seg_in n (a + 1) t h
      constructor <;> omega
theorem up_less : ∀ (ts : List Int) (a : Int), Up a ts = true → ∀ t ∈ ts, a < t
  | [], _, _, t, h => by simp at h
  | u :: ts, a, hu, t, h => by
    simp only [Up, Bool.and_eq_true, decide_eq_true_eq] at hu
    rcases List.mem_cons.1 h with rfl | h
    · exact hu.1
    · have := up_less ts u hu.2 t h
      omega
theorem up_mono : ∀ (ts : List Int) (a b : Int), a ≤ b → Up b ts = true → Up a ts = true
  | [], _, _, _, _ => rfl
  | u :: ts, a, b, hab, hu => by
    simp only [Up, Bool.and_eq_true, decide_eq_true_eq] at hu ⊢
    exact ⟨by omega, hu.2⟩
theorem up_seg (p : Int → Bool) : ∀ (n : Nat) (a : Int), Up a ((seg a n).filter p) = true
  | 0, _ => rfl
  | n + 1, a => by
    have ih := up_seg p n (a + 1)
    rw [seg]
    cases hp : p (a + 1) with
    | true =>
      rw [List.filter_cons_of_pos hp]
      simp only [Up, Bool.and_eq_true, decide_eq_true_eq]
      exact ⟨by omega, ih⟩
    | false =>
      rw [List.filter_cons_of_neg (by simp [hp])]
      exact up_mono _ _ _ (by omega) ih
theorem seg_all : ∀ (n : Nat) (a : Int) (ts : List Int), Up a ts = true → (∀ t ∈ ts, t ≤ a + n) → (seg a n).filter (fun t => decide (t ∈ ts)) = ts
  | 0, a, [], _, _ => rfl
  | 0, a, t :: ts, hu, hb => by
    have h1 := up_less _ _ hu t (by simp)
    have h2 := hb t (by simp)
    omega
  | n + 1, a, [], _, _ => by
    rw [List.filter_eq_nil_iff]
    intro x _
    simp
  | n + 1, a, t :: ts, hu, hb => by
    have hu' := hu
    simp only [Up, Bool.and_eq_true, decide_eq_true_eq] at hu'
    rw [seg]
    by_cases e : t = a + 1
    · subst e
      rw [List.filter_cons_of_pos (by simp)]
      congr 1
      have ih := seg_all n (a + 1) ts hu'.2 (fun x hx => by have := hb x (List.mem_cons_of_mem _ hx); omega)
      refine Eq.trans (List.filter_congr fun x hx => ?_) ih
      have := seg_in n (a + 1) x hx
      have hne : ¬ x = a + 1 := by omega
      simp [hne]
    · have hlt : a + 1 < t := by omega
      have hno : ¬ (a + 1) ∈ t :: ts := fun hm => by
        rcases List.mem_cons.1 hm with h | h
        · omega
        · have := up_less ts t hu'.2 _ h
          omega
      rw [List.filter_cons_of_neg (by simpa using hno)]
      refine seg_all n (a + 1) (t :: ts) ?_ (fun x hx => by have := hb x hx; omega)
      simp only [Up, Bool.and_eq_true, decide_eq_true_eq]
      exact ⟨hlt, hu'.2⟩
theorem list_sum (ts : List Int) (h : ∀ u ∈ ts, Eight u) : tList (sumUp 0 ts) = (seg 0 8).filter (fun t => decide (t ∈ ts)) := by
  unfold tList
  rw [upto_seg]
  refine List.filter_congr fun t _ => ?_
  rw [has_sum ts 0 t h]
  have h0 : tHas 0 t = false := by
    rw [has_bv]
    have : bv 0 = 0#16 := by decide
    rw [this, BitVec.zero_and]
    rfl
  rw [h0, Bool.false_or]
theorem names_same : ∀ (A B : List Int), (∀ t ∈ A, Eight t) → (∀ t ∈ B, Eight t) → A.map nameL = B.map nameL → A = B := by
  intro A B hA hB h
  have key : ∀ C : List Int, (∀ t ∈ C, Eight t) → (C.map nameL).map oI = C := by
    intro C hC
    rw [List.map_map]
    have : C.map (oI ∘ nameL) = C.map id := List.map_congr_left fun t ht => (of_name (hC t ht)).1
    rw [this, List.map_id]
  rw [← key A hA, ← key B hB, h]
theorem parse_same (l : List UInt8) : tParse l = rParse l := by
  unfold tParse rParse
  by_cases h0 : l = [45]
  · rw [if_pos h0, if_pos h0]
  · rw [if_neg h0, if_neg h0]
    by_cases ha : (pieces l).all oB = true
    · obtain ⟨ts, hts⟩ : ∃ ts, ts = (pieces l).map oI := ⟨_, rfl⟩
      have h8 : ∀ u ∈ ts, Eight u := fun u hu => by
        rw [hts, List.mem_map] at hu
        obtain ⟨p, hp, rfl⟩ := hu
        exact (of_yes (List.all_eq_true.1 ha p hp)).1
      have hps : ts.map nameL = pieces l := by
        rw [hts, List.map_map]
        have : (pieces l).map (nameL ∘ oI) = (pieces l).map id := List.map_congr_left fun p hp => (of_yes (List.all_eq_true.1 ha p hp)).2
        rw [this, List.map_id]
      have hne : ts ≠ [] := fun e => pieces_ne l (by rw [← hps, e]; rfl)
      have hj : Lib.join (ts.map nameL) [32] = l := by rw [hps, join_pieces]
      rw [gat_up _ _ ha, rise_up, if_pos ha, ← hts]
      have hls := list_sum ts h8
      have key : (prL (tList (sumUp 0 ts)) = l) ↔ Up 0 ts = true := by
        constructor
        · intro he
          have hl8 := list_eight (sumUp 0 ts)
          have hln : tList (sumUp 0 ts) ≠ [] := by
            intro e
            obtain ⟨t, r, hr⟩ := List.exists_cons_of_ne_nil hne
            have hm : t ∈ tList (sumUp 0 ts) := by
              rw [hls, List.mem_filter]
              have ht8 := h8 t (by rw [hr]; simp)
              refine ⟨?_, by rw [hr]; simp⟩
              rcases ht8 with rfl | rfl | rfl | rfl | rfl | rfl | rfl | rfl <;> decide
            rw [e] at hm
            simp at hm
          unfold prL at he
          rw [if_neg hln] at he
          have hp : (tList (sumUp 0 ts)).map nameL = ts.map nameL := by
            have e1 := pieces_join ((tList (sumUp 0 ts)).map nameL) (by simpa using hln) (fun q hq => by
              rw [List.mem_map] at hq
              obtain ⟨t, ht, rfl⟩ := hq
              exact name_blank (hl8 t ht))
            rw [he] at e1
            rw [← e1, hps]
          have he2 := names_same _ _ hl8 h8 hp
          rw [← he2]
          unfold tList
          rw [upto_seg]
          exact up_seg _ 8 0
        · intro hu
          have he : tList (sumUp 0 ts) = ts := by
            rw [hls]
            refine seg_all 8 0 ts hu (fun t ht => ?_)
            have := h8 t ht
            unfold Eight at this
            omega
          rw [he]
          unfold prL
          rw [if_neg hne]
          exact hj
      simp only [Bool.true_eq_false, if_false]
      by_cases hu : Up 0 ts = true
      · rw [if_pos (key.2 hu), if_pos hu]
      · rw [if_neg (fun e => hu (key.1 e)), if_neg hu]
    · rw [gat_bad _ _ ha, if_neg ha]
      simp
end Go.Proofs.YtpnbblimmkdaiaaDoor
