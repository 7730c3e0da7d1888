/-
  What a part and a card are, and which may be: the plain functions that the walks of this seat tell the program's answers by.
-/
import Derived.WalkKit
import Derived.Laws.BitsAllLaws
import Derived.Lib.Strings
namespace Go.Proofs.Ytpoicbefemjckaa

/-- A part: its eight fields. -/
structure Pt where
  wn : Int
  vb : Int
  wm : Int
  ct : Int
  su : Int
  tr : Int
  mr : Int
  nm : ByteArray
def Pt.none : Pt := ⟨0, 0, 0, 0, 0, 0, 0, ⟨#[]⟩⟩
/-- Each field is a number of its type. -/
structure Pt.wf (p : Pt) : Prop where
  wn : 0 ≤ p.wn ∧ p.wn ≤ 255
  vb : 0 ≤ p.vb ∧ p.vb ≤ 255
  wm : 0 ≤ p.wm ∧ p.wm ≤ 255
  ct : -9223372036854775808 ≤ p.ct ∧ p.ct ≤ 9223372036854775807
  su : 0 ≤ p.su ∧ p.su ≤ 255
  tr : 0 ≤ p.tr ∧ p.tr ≤ 255
  mr : 0 ≤ p.mr ∧ p.mr ≤ 255

/-- What a verb is of: 1 an event, 2 standing, 3 swapping; 0: no verb. -/
def cls (v : Int) : Int := if 1 ≤ v ∧ v ≤ 9 then 1 else if 10 ≤ v ∧ v ≤ 15 then 2 else if 16 ≤ v ∧ v ≤ 19 then 3 else 0
def wnt (w : Int) : Int := if 1 ≤ w ∧ w ≤ 4 then 1 else if w = 5 then 2 else if w = 6 then 3 else 0
def isW (w : Int) : Bool := decide (1 ≤ w) && decide (w ≤ 10)
def uC (v : Int) : Bool := decide (v = 1 ∨ v = 2 ∨ v = 3 ∨ v = 4 ∨ v = 5 ∨ v = 7 ∨ v = 9 ∨ v = 14 ∨ v = 15 ∨ v = 16 ∨ v = 19)
def uS (v w : Int) : Bool := decide (v = 11) || decide (w = 9)
def uT (v w : Int) : Bool := decide (v = 12) || decide (v = 13) || decide (w = 10)
def uM (v : Int) : Bool := decide (v = 9)
def uN (v : Int) : Bool := decide (v = 7)
/-- The least and the most Count. -/
def lo (v : Int) : Int := if v = 1 ∨ v = 2 ∨ v = 3 ∨ v = 4 ∨ v = 7 ∨ v = 16 ∨ v = 19 then 1 else if v = 9 ∨ v = 15 then -99 else if v = 5 then -9 else 0
def hi (v : Int) : Int := if v = 1 ∨ v = 2 ∨ v = 3 ∨ v = 4 ∨ v = 7 ∨ v = 16 ∨ v = 19 then 99 else if v = 9 ∨ v = 15 then 99 else if v = 5 then 9 else if v = 14 then 99 else 0
def lay (v : Int) : Int := if v = 10 then 1 else if v = 11 then 2 else if v = 12 ∨ v = 13 then 3 else if v = 14 then 4 else if v = 15 then 5 else 0
/-- May a verb be about players? -/
def abP (v : Int) : Bool := !decide (v = 6 ∨ v = 8 ∨ v = 9) && !decide (cls v = 2)
def abt (wn vb wm : Int) : Bool := if wm = 3 then decide (wn = 1) else if wm = 1 ∨ wm = 2 then abP vb else true
def cfit (v c : Int) : Bool := if c = 0 then decide (lo v = 0) else decide (lo v ≤ c) && decide (c ≤ hi v)
def fitU (u : Bool) (x m : Int) : Bool := if u then decide (1 ≤ x) && decide (x ≤ m) else decide (x = 0)
def kfit (p : Pt) : Bool := fitU (uS p.vb p.wm) p.su 6 && (fitU (uT p.vb p.wm) p.tr 8 && fitU (uM p.vb) p.mr 4)
def letter (c : UInt8) : Bool := decide (97 ≤ c.toNat) && decide (c.toNat ≤ 122)
/-- Is a text a name? -/
def nameOk (l : List UInt8) : Bool := match l with
  | [] => false
  | c :: r => decide (r.length ≤ 19) && (letter c && r.all fun x => letter x || decide (x = 45))
def nfit (p : Pt) : Bool := if uN p.vb then nameOk p.nm.data.toList else decide (p.nm.data.toList = [])
def chk (p : Pt) : Int :=
  if wnt p.wn = 0 ∨ cls p.vb = 0 ∨ isW p.wm = false then 2
  else if ¬ cls p.vb = wnt p.wn ∨ (p.vb = 11 ∧ p.wm = 9) then 8
  else if abt p.wn p.vb p.wm = false then 13
  else if cfit p.vb p.ct = false ∨ kfit p = false then 2
  else if nfit p = false then 4
  else 0
/-- What is known of a part that may be. -/
structure May (p : Pt) : Prop where
  wn : 1 ≤ p.wn ∧ p.wn ≤ 6
  vb : 1 ≤ p.vb ∧ p.vb ≤ 19
  wm : 1 ≤ p.wm ∧ p.wm ≤ 10
  ct : if uC p.vb then -99 ≤ p.ct ∧ p.ct ≤ 99 else p.ct = 0
  su : if uS p.vb p.wm then 1 ≤ p.su ∧ p.su ≤ 6 else p.su = 0
  tr : if uT p.vb p.wm then 1 ≤ p.tr ∧ p.tr ≤ 8 else p.tr = 0
  mr : if uM p.vb then 1 ≤ p.mr ∧ p.mr ≤ 4 else p.mr = 0
  nm : if uN p.vb then nameOk p.nm.data.toList = true else p.nm = ⟨#[]⟩

theorem wnt_bound {w : Int} (h : ¬ wnt w = 0) : 1 ≤ w ∧ w ≤ 6 := by
  unfold wnt at h
  repeat' split at h
  all_goals omega
theorem cls_bound {v : Int} (h : ¬ cls v = 0) : 1 ≤ v ∧ v ≤ 19 := by
  unfold cls at h
  repeat' split at h
  all_goals omega
theorem isW_bound {w : Int} (h : ¬ isW w = false) : 1 ≤ w ∧ w ≤ 10 := by
  have : isW w = true := by simpa using h
  simpa [isW] using this
theorem verb_cases {v : Int} (h : 1 ≤ v ∧ v ≤ 19) : v = 1 ∨ v = 2 ∨ v = 3 ∨ v = 4 ∨ v = 5 ∨ v = 6 ∨ v = 7 ∨ v = 8 ∨ v = 9 ∨ v = 10 ∨ v = 11 ∨ v = 12 ∨ v = 13 ∨ v = 14 ∨ v = 15 ∨ v = 16 ∨ v = 17 ∨ v = 18 ∨ v = 19 := by omega
theorem cfit_bound {v c : Int} (hv : 1 ≤ v ∧ v ≤ 19) (h : cfit v c = true) : if uC v then -99 ≤ c ∧ c ≤ 99 else c = 0 := by
  by_cases h0 : c = 0
  · subst h0
    split <;> omega
  · rcases verb_cases hv with rfl | rfl | rfl | rfl | rfl | rfl | rfl | rfl | rfl | rfl | rfl | rfl | rfl | rfl | rfl | rfl | rfl | rfl | rfl <;>
      (simp [cfit, lo, hi, h0] at h; simp [uC]; try omega)
theorem fit_bound {u : Bool} {x m : Int} (h : fitU u x m = true) : if u then 1 ≤ x ∧ x ≤ m else x = 0 := by
  cases u <;> simpa [fitU] using h
theorem may_of {p : Pt} (h : chk p = 0) : May p := by
  unfold chk at h
  split at h
  · omega
  rename_i h1
  split at h
  · omega
  split at h
  · omega
  split at h
  · omega
  rename_i h4
  split at h
  · omega
  rename_i h5
  simp only [not_or] at h1 h4
  obtain ⟨a, b, c⟩ := h1
  obtain ⟨d, e⟩ := h4
  have d' : cfit p.vb p.ct = true := by simpa using d
  have e' : kfit p = true := by simpa using e
  have f' : nfit p = true := by simpa using h5
  simp only [kfit, Bool.and_eq_true] at e'
  refine ⟨wnt_bound a, cls_bound b, isW_bound c, cfit_bound (cls_bound b) d', fit_bound e'.1, fit_bound e'.2.1, fit_bound e'.2.2, ?_⟩
  unfold nfit at f'
  split
  · rename_i hu
    rw [if_pos hu] at f'
    exact f'
  · rename_i hu
    rw [if_neg hu] at f'
    have := of_decide_eq_true f'
    rcases hn : p.nm with ⟨⟨l⟩⟩
    rw [hn] at this
    simp at this
    rw [this]

theorem six_cases {v : Int} (h : 1 ≤ v ∧ v ≤ 6) : v = 1 ∨ v = 2 ∨ v = 3 ∨ v = 4 ∨ v = 5 ∨ v = 6 := by omega
theorem ten_cases {v : Int} (h : 1 ≤ v ∧ v ≤ 10) : v = 1 ∨ v = 2 ∨ v = 3 ∨ v = 4 ∨ v = 5 ∨ v = 6 ∨ v = 7 ∨ v = 8 ∨ v = 9 ∨ v = 10 := by omega
theorem eight_cases {v : Int} (h : 1 ≤ v ∧ v ≤ 8) : v = 1 ∨ v = 2 ∨ v = 3 ∨ v = 4 ∨ v = 5 ∨ v = 6 ∨ v = 7 ∨ v = 8 := by omega
theorem letter_blank : letter 32 = false := by decide
theorem name_facts {l : List UInt8} (h : nameOk l = true) : (32 : UInt8) ∉ l ∧ l.length ≤ 20 := by
  cases l with
  | nil => simp [nameOk] at h
  | cons c r =>
    simp only [nameOk, Bool.and_eq_true, decide_eq_true_eq] at h
    obtain ⟨h1, h2, h3⟩ := h
    refine ⟨fun hm => ?_, by simp only [List.length_cons]; omega⟩
    rcases List.mem_cons.1 hm with h' | h'
    · rw [← h', letter_blank] at h2
      cases h2
    · have := List.all_eq_true.1 h3 _ h'
      revert this
      decide
def tBit (k : Int) : Int := if k = 1 then 1 else if k = 2 then 2 else if k = 3 then 4 else if k = 4 then 8 else if k = 5 then 16 else if k = 6 then 32 else if k = 7 then 64 else if k = 8 then 128 else 0
def tCheck (s : Int) : Bool := bits .andNot .u16 s 255 == 0
/-- A card: its nine fields. -/
structure Cd where
  nm : ByteArray
  su : Int
  kd : Int
  co : Int
  po : Int
  he : Int
  tr : Int
  tk : Bool
  ps : List Pt
def Cd.none : Cd := ⟨⟨#[]⟩, 0, 0, 0, 0, 0, 0, false, []⟩
/-- Each field is a number of its type. -/
structure Cd.wf (c : Cd) : Prop where
  su : 0 ≤ c.su ∧ c.su ≤ 255
  kd : 0 ≤ c.kd ∧ c.kd ≤ 255
  co : -9223372036854775808 ≤ c.co ∧ c.co ≤ 9223372036854775807
  po : -9223372036854775808 ≤ c.po ∧ c.po ≤ 9223372036854775807
  he : -9223372036854775808 ≤ c.he ∧ c.he ≤ 9223372036854775807
  tr : 0 ≤ c.tr ∧ c.tr ≤ 65535
  ps : ∀ p ∈ c.ps, p.wf
def mayH (kd wn : Int) : Bool := if kd = 2 then decide (wn = 1) else if kd = 3 then !decide (wn = 4) else true
def forceOk (c : Cd) : Bool := if c.kd = 1 then !decide (c.he = 0) else decide (c.po = 0) && decide (c.he = 0)
def chkPs (kd : Int) : List Pt → Int
  | [] => 0
  | p :: r => if ¬ chk p = 0 then chk p else if mayH kd p.wn = false then 8 else chkPs kd r
/-- What is told of a card: 0 of one that may be. -/
def cchk (c : Cd) : Int :=
  if nameOk c.nm.data.toList = false then 4
  else if ¬ (1 ≤ c.su ∧ c.su ≤ 6) ∨ ¬ (1 ≤ c.kd ∧ c.kd ≤ 3) then 8
  else if ¬ (0 ≤ c.co ∧ c.co ≤ 10) ∨ ¬ (0 ≤ c.po ∧ c.po ≤ 99) ∨ ¬ (0 ≤ c.he ∧ c.he ≤ 99) then 2
  else if forceOk c = false ∨ tCheck c.tr = false ∨ (c.kd = 2 ∧ c.tk = true) then 8
  else if 4 < c.ps.length then 3
  else chkPs c.kd c.ps
end Go.Proofs.Ytpoicbefemjckaa
