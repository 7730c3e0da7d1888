/-
  What a part and a card are, and which may be: the plain functions that the walks of this seat tell the program's answers by.
  Decks, plainly: runs of one card, lines and texts, which decks may be; there and back.
-/
import Derived.WalkKit
import Derived.Laws.BitsAllLaws
import Derived.Lib.Strings
namespace Go.Proofs.YtbcggjacjfcldaaGreatDoor

/-- A part: its eight fields. -/
structure Pt where
  wn : Int
  vb : Int
  wm : Int
  ct : Int
  su : Int
  tr : Int
  mr : Int
  nm : ByteArray
def Pt.none : Pt := ⟨0, 0, 0, 0, 0, 0, 0, ⟨#[]⟩⟩
/-- Each field is a number of its type. -/
structure Pt.wf (p : Pt) : Prop where
  wn : 0 ≤ p.wn ∧ p.wn ≤ 255
  vb : 0 ≤ p.vb ∧ p.vb ≤ 255
  wm : 0 ≤ p.wm ∧ p.wm ≤ 255
  ct : -9223372036854775808 ≤ p.ct ∧ p.ct ≤ 9223372036854775807
  su : 0 ≤ p.su ∧ p.su ≤ 255
  tr : 0 ≤ p.tr ∧ p.tr ≤ 255
  mr : 0 ≤ p.mr ∧ p.mr ≤ 255

/-- What a verb is of: 1 an event, 2 standing, 3 swapping; 0: no verb. -/
def cls (v : Int) : Int := if 1 ≤ v ∧ v ≤ 9 then 1 else if 10 ≤ v ∧ v ≤ 15 then 2 else if 16 ≤ v ∧ v ≤ 19 then 3 else 0
def wnt (w : Int) : Int := if 1 ≤ w ∧ w ≤ 4 then 1 else if w = 5 then 2 else if w = 6 then 3 else 0
def isW (w : Int) : Bool := decide (1 ≤ w) && decide (w ≤ 10)
def uC (v : Int) : Bool := decide (v = 1 ∨ v = 2 ∨ v = 3 ∨ v = 4 ∨ v = 5 ∨ v = 7 ∨ v = 9 ∨ v = 14 ∨ v = 15 ∨ v = 16 ∨ v = 19)
def uS (v w : Int) : Bool := decide (v = 11) || decide (w = 9)
def uT (v w : Int) : Bool := decide (v = 12) || decide (v = 13) || decide (w = 10)
def uM (v : Int) : Bool := decide (v = 9)
def uN (v : Int) : Bool := decide (v = 7)
/-- The least and the most Count. -/
def lo (v : Int) : Int := if v = 1 ∨ v = 2 ∨ v = 3 ∨ v = 4 ∨ v = 7 ∨ v = 16 ∨ v = 19 then 1 else if v = 9 ∨ v = 15 then -99 else if v = 5 then -9 else 0
def hi (v : Int) : Int := if v = 1 ∨ v = 2 ∨ v = 3 ∨ v = 4 ∨ v = 7 ∨ v = 16 ∨ v = 19 then 99 else if v = 9 ∨ v = 15 then 99 else if v = 5 then 9 else if v = 14 then 99 else 0
def lay (v : Int) : Int := if v = 10 then 1 else if v = 11 then 2 else if v = 12 ∨ v = 13 then 3 else if v = 14 then 4 else if v = 15 then 5 else 0
/-- May a verb be about players? -/
def abP (v : Int) : Bool := !decide (v = 6 ∨ v = 8 ∨ v = 9) && !decide (cls v = 2)
def abt (wn vb wm : Int) : Bool := if wm = 3 then decide (wn = 1) else if wm = 1 ∨ wm = 2 then abP vb else true
def cfit (v c : Int) : Bool := if c = 0 then decide (lo v = 0) else decide (lo v ≤ c) && decide (c ≤ hi v)
def fitU (u : Bool) (x m : Int) : Bool := if u then decide (1 ≤ x) && decide (x ≤ m) else decide (x = 0)
def kfit (p : Pt) : Bool := fitU (uS p.vb p.wm) p.su 6 && (fitU (uT p.vb p.wm) p.tr 8 && fitU (uM p.vb) p.mr 4)
def letter (c : UInt8) : Bool := decide (97 ≤ c.toNat) && decide (c.toNat ≤ 122)
/-- Is a text a name? -/
def nameOk (l : List UInt8) : Bool := match l with
  | [] => false
  | c :: r => decide (r.length ≤ 19) && (letter c && r.all fun x => letter x || decide (x = 45))
def nfit (p : Pt) : Bool := if uN p.vb then nameOk p.nm.data.toList else decide (p.nm.data.toList = [])
def chk (p : Pt) : Int :=
  if wnt p.wn = 0 ∨ cls p.vb = 0 ∨ isW p.wm = false then 2
  else if ¬ cls p.vb = wnt p.wn ∨ (p.vb = 11 ∧ p.wm = 9) then 8
  else if abt p.wn p.vb p.wm = false then 13
  else if cfit p.vb p.ct = false ∨ kfit p = false then 2
  else if nfit p = false then 4
  else 0
/-- What is known of a part that may be. -/
structure May (p : Pt) : Prop where
  wn : 1 ≤ p.wn ∧ p.wn ≤ 6
  vb : 1 ≤ p.vb ∧ p.vb ≤ 19
  wm : 1 ≤ p.wm ∧ p.wm ≤ 10
  ct : if uC p.vb then -99 ≤ p.ct ∧ p.ct ≤ 99 else p.ct = 0
  su : if uS p.vb p.wm then 1 ≤ p.su ∧ p.su ≤ 6 else p.su = 0
  tr : if uT p.vb p.wm then 1 ≤ p.tr ∧ p.tr ≤ 8 else p.tr = 0
  mr : if uM p.vb then 1 ≤ p.mr ∧ p.mr ≤ 4 else p.mr = 0
  nm : if uN p.vb then nameOk p.nm.data.toList = true else p.nm = ⟨#[]⟩

theorem wnt_bound {w : Int} (h : ¬ wnt w = 0) : 1 ≤ w ∧ w ≤ 6 := by
  unfold wnt at h
  repeat' split at h
  all_goals omega
theorem cls_bound {v : Int} (h : ¬ cls v = 0) : 1 ≤ v ∧ v ≤ 19 := by
  unfold cls at h
  repeat' split at h
  all_goals omega
theorem isW_bound {w : Int} (h : ¬ isW w = false) : 1 ≤ w ∧ w ≤ 10 := by
  have : isW w = true := by simpa using h
  simpa [isW] using this
theorem verb_cases {v : Int} (h : 1 ≤ v ∧ v ≤ 19) : v = 1 ∨ v = 2 ∨ v = 3 ∨ v = 4 ∨ v = 5 ∨ v = 6 ∨ v = 7 ∨ v = 8 ∨ v = 9 ∨ v = 10 ∨ v = 11 ∨ v = 12 ∨ v = 13 ∨ v = 14 ∨ v = 15 ∨ v = 16 ∨ v = 17 ∨ v = 18 ∨ v = 19 := by omega
theorem cfit_bound {v c : Int} (hv : 1 ≤ v ∧ v ≤ 19) (h : cfit v c = true) : if uC v then -99 ≤ c ∧ c ≤ 99 else c = 0 := by
  by_cases h0 : c = 0
  · subst h0
    split <;> omega
  · rcases verb_cases hv with rfl | rfl | rfl | rfl | rfl | rfl | rfl | rfl | rfl | rfl | rfl | rfl | rfl | rfl | rfl | rfl | rfl | rfl | rfl <;>
      (simp [cfit, lo, hi, h0] at h; simp [uC]; try omega)
theorem fit_bound {u : Bool} {x m : Int} (h : fitU u x m = true) : if u then 1 ≤ x ∧ x ≤ m else x = 0 := by
  cases u <;> simpa [fitU] using h
theorem may_of {p : Pt} (h : chk p = 0) : May p := by
  unfold chk at h
  split at h
  · omega
  rename_i h1
  split at h
  · omega
  split at h
  · omega
  split at h
  · omega
  rename_i h4
  split at h
  · omega
  rename_i h5
  simp only [not_or] at h1 h4
  obtain ⟨a, b, c⟩ := h1
  obtain ⟨d, e⟩ := h4
  have d' : cfit p.vb p.ct = true := by simpa using d
  have e' : kfit p = true := by simpa using e
  have f' : nfit p = true := by simpa using h5
  simp only [kfit, Bool.and_eq_true] at e'
  refine ⟨wnt_bound a, cls_bound b, isW_bound c, cfit_bound (cls_bound b) d', fit_bound e'.1, fit_bound e'.2.1, fit_bound e'.2.2, ?_⟩
  unfold nfit at f'
  split
  · rename_i hu
    rw [if_pos hu] at f'
    exact f'
  · rename_i hu
    rw [if_neg hu] at f'
    have := of_decide_eq_true f'
    rcases hn : p.nm with ⟨⟨l⟩⟩
    rw [hn] at this
    simp at this
    rw [this]

theorem six_cases {v : Int} (h : 1 ≤ v ∧ v ≤ 6) : v = 1 ∨ v = 2 ∨ v = 3 ∨ v = 4 ∨ v = 5 ∨ v = 6 := by omega
theorem ten_cases {v : Int} (h : 1 ≤ v ∧ v ≤ 10) : v = 1 ∨ v = 2 ∨ v = 3 ∨ v = 4 ∨ v = 5 ∨ v = 6 ∨ v = 7 ∨ v = 8 ∨ v = 9 ∨ v = 10 := by omega
theorem eight_cases {v : Int} (h : 1 ≤ v ∧ v ≤ 8) : v = 1 ∨ v = 2 ∨ v = 3 ∨ v = 4 ∨ v = 5 ∨ v = 6 ∨ v = 7 ∨ v = 8 := by omega
theorem letter_blank : letter 32 = false := by decide
theorem name_facts {l : List UInt8} (h : nameOk l = true) : (32 : UInt8) ∉ l ∧ l.length ≤ 20 := by
  cases l with
  | nil => simp [nameOk] at h
  | cons c r =>
    simp only [nameOk, Bool.and_eq_true, decide_eq_true_eq] at h
    obtain ⟨h1, h2, h3⟩ := h
    refine ⟨fun hm => ?_, by simp only [List.length_cons]; omega⟩
    rcases List.mem_cons.1 hm with h' | h'
    · rw [← h', letter_blank] at h2
      cases h2
    · have := List.all_eq_true.1 h3 _ h'
      revert this
      decide
def tBit (k : Int) : Int := if k = 1 then 1 else if k = 2 then 2 else if k = 3 then 4 else if k = 4 then 8 else if k = 5 then 16 else if k = 6 then 32 else if k = 7 then 64 else if k = 8 then 128 else 0
def tCheck (s : Int) : Bool := bits .andNot .u16 s 255 == 0
/-- A card: its nine fields. -/
structure Cd where
  nm : ByteArray
  su : Int
  kd : Int
  co : Int
  po : Int
  he : Int
  tr : Int
  tk : Bool
  ps : List Pt
def Cd.none : Cd := ⟨⟨#[]⟩, 0, 0, 0, 0, 0, 0, false, []⟩
/-- Each field is a number of its type. -/
structure Cd.wf (c : Cd) : Prop where
  su : 0 ≤ c.su ∧ c.su ≤ 255
  kd : 0 ≤ c.kd ∧ c.kd ≤ 255
  co : -9223372036854775808 ≤ c.co ∧ c.co ≤ 9223372036854775807
  po : -9223372036854775808 ≤ c.po ∧ c.po ≤ 9223372036854775807
  he : -9223372036854775808 ≤ c.he ∧ c.he ≤ 9223372036854775807
  tr : 0 ≤ c.tr ∧ c.tr ≤ 65535
  ps : ∀ p ∈ c.ps, p.wf
def mayH (kd wn : Int) : Bool := if kd = 2 then decide (wn = 1) else if kd = 3 then !decide (wn = 4) else true
def forceOk (c : Cd) : Bool := if c.kd = 1 then !decide (c.he = 0) else decide (c.po = 0) && decide (c.he = 0)
def chkPs (kd : Int) : List Pt → Int
  | [] => 0
  | p :: r => if ¬ chk p = 0 then chk p else if mayH kd p.wn = false then 8 else chkPs kd r
/-- What is told of a card: 0 of one that may be. -/
def cchk (c : Cd) : Int :=
  if nameOk c.nm.data.toList = false then 4
  else if ¬ (1 ≤ c.su ∧ c.su ≤ 6) ∨ ¬ (1 ≤ c.kd ∧ c.kd ≤ 3) then 8
  else if ¬ (0 ≤ c.co ∧ c.co ≤ 10) ∨ ¬ (0 ≤ c.po ∧ c.po ≤ 99) ∨ ¬ (0 ≤ c.he ∧ c.he ≤ 99) then 2
  else if forceOk c = false ∨ tCheck c.tr = false ∨ (c.kd = 2 ∧ c.tk = true) then 8
  else if 4 < c.ps.length then 3
  else chkPs c.kd c.ps
end Go.Proofs.YtbcggjacjfcldaaGreatDoor
namespace Go.Proofs.YtbcggjacjfcldaaGreatDoor

/-- A number from 0 to 99, in digits. -/
def dec (n : Nat) : List UInt8 := if n < 10 then [UInt8.ofNat (48 + n)] else [UInt8.ofNat (48 + n / 10), UInt8.ofNat (48 + n % 10)]
/-- A line, without its end. -/
def lineT (k : Nat) (nm : List UInt8) : List UInt8 := dec k ++ 32 :: nm
/-- Of a line how many, and the name. -/
def lineP (e : List UInt8) : Option (Nat × List UInt8) := (List.range 40).findSome? fun i => if (dec (i + 1) ++ [32]).isPrefixOf e && nameOk (e.drop ((dec (i + 1)).length + 1)) then some (i + 1, e.drop ((dec (i + 1)).length + 1)) else none
theorem dec_len (n : Nat) : (dec n).length = if n < 10 then 1 else 2 := by unfold dec; split <;> rfl
theorem dec_chars : ∀ n, n < 100 → ∀ c ∈ dec n, c ≠ 32 ∧ c ≠ 10 := by decide +kernel
theorem dec_inj : ∀ m, m < 41 → ∀ n, n < 41 → dec m = dec n → m = n := by decide +kernel
theorem pre_head {d nm : List UInt8} : (d ++ [32]).isPrefixOf (d ++ 32 :: nm) = true := by
  rw [List.isPrefixOf_iff_prefix]
  exact ⟨nm, by simp⟩
theorem pre_same {d d' nm : List UInt8} (h : (d ++ [32]).isPrefixOf (d' ++ 32 :: nm) = true) (hd : ∀ c ∈ d, c ≠ 32) (hd' : ∀ c ∈ d', c ≠ 32) : d = d' := by
  rw [List.isPrefixOf_iff_prefix] at h
  obtain ⟨t, ht⟩ := h
  rw [List.append_assoc] at ht
  have key : ∀ (a b x y : List UInt8), (∀ c ∈ a, c ≠ 32) → (∀ c ∈ b, c ≠ 32) → a ++ 32 :: x = b ++ 32 :: y → a = b := by
    intro a
    induction a with
    | nil =>
      intro b x y _ hb e
      cases b with
      | nil => rfl
      | cons c b => simp at e; exact absurd e.1.symm (hb c (by simp))
    | cons c a ih =>
      intro b x y ha hb e
      cases b with
      | nil => simp at e; exact absurd e.1 (ha c (by simp))
      | cons c' b =>
        simp at e
        rw [e.1, ih b x y (fun z hz => ha z (by simp [hz])) (fun z hz => hb z (by simp [hz])) e.2]
  exact key d d' ([] ++ t) nm hd hd' (by simpa using ht)
theorem lineP_of {k : Nat} {nm : List UInt8} (h1 : 1 ≤ k) (h2 : k ≤ 40) (hn : nameOk nm = true) : lineP (lineT k nm) = some (k, nm) := by
  unfold lineP lineT
  have hk : k - 1 < 40 := by omega
  have e : List.range 40 = List.range (k - 1) ++ (k - 1) :: (List.range (40 - k)).map (· + k) := by
    apply List.ext_getElem
    · simp; omega
    · intro i h3 h4
      rw [List.getElem_range, List.getElem_append]
      split
      · simp
      · rename_i h5
        simp at h5 h3
        rcases Nat.eq_or_lt_of_le h5 with h6 | h6
        · subst h6; simp
        · obtain ⟨j, rfl⟩ : ∃ j, i = k + j := ⟨i - k, by omega⟩
          have : k + j - (k - 1) = j + 1 := by omega
          simp only [List.length_range, this, List.getElem_cons_succ, List.getElem_map, List.getElem_range]
          omega
  rw [e, List.findSome?_append]
  have h0 : (List.range (k - 1)).findSome? (fun i => if (dec (i + 1) ++ [32]).isPrefixOf (dec k ++ 32 :: nm) && nameOk ((dec k ++ 32 :: nm).drop ((dec (i + 1)).length + 1)) then some (i + 1, (dec k ++ 32 :: nm).drop ((dec (i + 1)).length + 1)) else none) = none := by
    rw [List.findSome?_eq_none_iff]
    intro i hi
    rw [List.mem_range] at hi
    split
    · rename_i h3
      rw [Bool.and_eq_true] at h3
      have := pre_same h3.1 (fun c hc => (dec_chars (i + 1) (by omega) c hc).1) (fun c hc => (dec_chars k (by omega) c hc).1)
      have := dec_inj _ (by omega) _ (by omega) this
      omega
    · rfl
  rw [h0, Option.none_or, List.findSome?_cons]
  have hd : (dec k ++ 32 :: nm).drop ((dec k).length + 1) = nm := by rw [List.drop_append]; simp
  rw [show k - 1 + 1 = k by omega, hd, pre_head, hn]
  rfl
theorem lineP_some {e nm : List UInt8} {k : Nat} (h : lineP e = some (k, nm)) : e = lineT k nm ∧ 1 ≤ k ∧ k ≤ 40 ∧ nameOk nm = true := by
  unfold lineP at h
  obtain ⟨i, hi, h⟩ := List.exists_of_findSome?_eq_some h
  rw [List.mem_range] at hi
  split at h
  · rename_i hc
    rw [Bool.and_eq_true, List.isPrefixOf_iff_prefix] at hc
    obtain ⟨⟨t, ht⟩, hn⟩ := hc
    injection h with h
    injection h with h1 h2
    subst h1
    have hd : e.drop ((dec (i + 1)).length + 1) = t := by rw [← ht, List.drop_append]; simp
    rw [hd] at h2 hn
    subst h2
    exact ⟨by rw [← ht]; unfold lineT; simp, by omega, by omega, hn⟩
  · cases h
/-- Runs: how often a card stands one behind the other. -/
def runs : List Int → List (Int × Nat)
  | [] => []
  | x :: l => match runs l with
    | [] => [(x, 1)]
    | (y, k) :: r => if x = y then (y, k + 1) :: r else (x, 1) :: (y, k) :: r
def listR (R : List (Int × Nat)) : List Int := (R.map fun x => List.replicate x.2 x.1).flatten
/-- Runs one behind the other, each of at least one; no two of one card, the first not of the card 'last'. -/
def Chn : Int → List (Int × Nat) → Prop
  | _, [] => True
  | last, x :: R => x.1 ≠ last ∧ 1 ≤ x.2 ∧ Chn x.1 R
theorem runs_list : ∀ l : List Int, listR (runs l) = l
  | [] => rfl
  | x :: l => by
    have ih := runs_list l
    rw [runs]
    cases hr : runs l with
    | nil => rw [hr] at ih; simp [listR] at ih ⊢; exact ih.symm ▸ rfl
    | cons y R =>
      obtain ⟨y, k⟩ := y
      rw [hr] at ih
      simp only
      split
      · rename_i h
        subst h
        simp only [listR, List.map_cons, List.flatten_cons, List.replicate_succ, List.cons_append] at ih ⊢
        rw [ih]
      · simp only [listR, List.map_cons, List.flatten_cons] at ih ⊢
        simp [ih]
theorem runs_head (x : Int) (l : List Int) : ∃ k R, runs (x :: l) = (x, k) :: R := by
  rw [runs]
  cases hr : runs l with
  | nil => exact ⟨_, _, rfl⟩
  | cons y R =>
    obtain ⟨y, k⟩ := y
    simp only
    split
    · rename_i h; subst h; exact ⟨_, _, rfl⟩
    · exact ⟨_, _, rfl⟩
theorem runs_chn : ∀ (l : List Int) (last : Int), (∀ x, l.head? = some x → x ≠ last) → Chn last (runs l)
  | [], _, _ => trivial
  | x :: l, last, h => by
    have hx := h x rfl
    have ih := fun last' => runs_chn l last'
    rw [runs]
    cases hr : runs l with
    | nil => exact ⟨hx, Nat.le_refl _, trivial⟩
    | cons y R =>
      obtain ⟨y, k⟩ := y
      simp only
      have hy : ∃ t, l = y :: t := by
        cases l with
        | nil => simp [runs] at hr
        | cons z t =>
          obtain ⟨k', R', e⟩ := runs_head z t
          rw [hr] at e
          injection e with e1 _
          injection e1 with e1 _
          exact ⟨t, by rw [e1]⟩
      obtain ⟨t, ht⟩ := hy
      split
      · rename_i h9
        subst h9
        have := ih (x + 1) (by intro z hz; rw [ht] at hz; simp at hz; omega)
        rw [hr] at this
        exact ⟨hx, by have := this.2.1; simp only at this ⊢; omega, this.2.2⟩
      · rename_i h9
        have := ih x (by intro z hz; rw [ht] at hz; simp at hz; rw [← hz]; exact fun e => h9 e.symm)
        rw [hr] at this
        exact ⟨hx, Nat.le_refl _, this⟩
theorem runs_rep (x : Int) (l : List Int) (h : ∀ y, l.head? = some y → y ≠ x) : ∀ k, runs (List.replicate (k + 1) x ++ l) = (x, k + 1) :: runs l
  | 0 => by
    show runs (x :: l) = _
    rw [runs]
    cases hr : runs l with
    | nil => rfl
    | cons y R =>
      obtain ⟨y, k⟩ := y
      simp only
      rw [if_neg]
      intro e
      subst e
      cases l with
      | nil => simp [runs] at hr
      | cons z t =>
        obtain ⟨k', R', e⟩ := runs_head z t
        rw [hr] at e
        injection e with e1 _
        injection e1 with e1 _
        exact h z rfl e1.symm
  | k + 1 => by
    rw [List.replicate_succ, List.cons_append, runs, runs_rep x l h k]
    simp
theorem chn_head {last : Int} {R : List (Int × Nat)} (h : Chn last R) : ∀ y, (listR R).head? = some y → y ≠ last := by
  cases R with
  | nil => intro y hy; simp [listR] at hy
  | cons x R =>
    obtain ⟨c, k⟩ := x
    obtain ⟨h1, h2, _⟩ := h
    intro y hy
    obtain ⟨j, hj⟩ : ∃ j, k = j + 1 := ⟨k - 1, by simp only at h2; omega⟩
    subst hj
    simp [listR, List.replicate_succ] at hy
    rw [← hy]
    exact h1
theorem runs_of : ∀ (R : List (Int × Nat)) (last : Int), Chn last R → runs (listR R) = R
  | [], _, _ => rfl
  | (c, k) :: R, last, h => by
    obtain ⟨h1, h2, h3⟩ := h
    obtain ⟨j, hj⟩ : ∃ j, k = j + 1 := ⟨k - 1, by simp only at h2; omega⟩
    subst hj
    have e : listR ((c, j + 1) :: R) = List.replicate (j + 1) c ++ listR R := rfl
    rw [e, runs_rep c _ (chn_head h3) j, runs_of R c h3]
end Go.Proofs.YtbcggjacjfcldaaGreatDoor
