/-
  What a part is, which may be, its text, and how a text is read as one: the plain functions that the walks of this seat tell the program's answers by; and that reading undoes telling.
-/
import Derived.Lib.Join
import Derived.Lib.ItoaNum
import Derived.Lib.AtoiAll
import Derived.Lib.ParseIntB
namespace Go.Proofs.YtpceelbphpfciaaGreatDoor

def whenW : List (List UInt8) := [[112, 108, 97, 121, 101, 100], [98, 114, 111, 107, 101, 110], [98, 101, 103, 117, 110], [115, 116, 114, 117, 99, 107], [97, 108, 119, 97, 121, 115], [114, 97, 116, 104, 101, 114]]
def verbW : List (List UInt8) := [[104, 97, 114, 109], [109, 101, 110, 100], [100, 114, 97, 119], [100, 114, 111, 112], [103, 97, 105, 110], [98, 114, 101, 97, 107], [99, 97, 108, 108], [98, 97, 99, 107], [112, 117, 116], [115, 101, 105, 122, 101], [100, 121, 101], [103, 114, 97, 110, 116], [115, 116, 114, 105, 112], [98, 97, 115, 101], [114, 97, 105, 115, 101], [108, 101, 115, 115], [116, 119, 105, 99, 101], [116, 117, 114, 110, 101, 100], [105, 110, 115, 116, 101, 97, 100]]
def whomW : List (List UInt8) := [[121, 111, 117], [102, 111, 101], [105, 116], [115, 101, 108, 102], [121, 111, 117, 114, 115], [116, 104, 101, 105, 114, 115], [97, 108, 108], [114, 101, 115, 116], [100, 121, 101, 100], [119, 105, 116, 104]]
def suitW : List (List UInt8) := [[97, 105, 114], [101, 97, 114, 116, 104], [102, 105, 114, 101], [119, 97, 116, 101, 114], [118, 111, 105, 100], [103, 111, 108, 100]]
def traitW : List (List UInt8) := [[102, 97, 115, 116], [103, 117, 97, 114, 100], [118, 101, 110, 111, 109], [108, 111, 110, 101], [100, 114, 97, 105, 110], [109, 117, 116, 101], [102, 105, 120, 101, 100], [115, 119, 105, 102, 116]]
/-- A part: its eight fields. -/
structure Pt where
  wn : Int
  vb : Int
  wm : Int
  ct : Int
  su : Int
  tr : Int
  mr : Int
  nm : ByteArray
def Pt.none : Pt := ⟨0, 0, 0, 0, 0, 0, 0, ⟨#[]⟩⟩
/-- Each field is a number of its type. -/
structure Pt.wf (p : Pt) : Prop where
  wn : 0 ≤ p.wn ∧ p.wn ≤ 255
  vb : 0 ≤ p.vb ∧ p.vb ≤ 255
  wm : 0 ≤ p.wm ∧ p.wm ≤ 255
  ct : -9223372036854775808 ≤ p.ct ∧ p.ct ≤ 9223372036854775807
  su : 0 ≤ p.su ∧ p.su ≤ 255
  tr : 0 ≤ p.tr ∧ p.tr ≤ 255
  mr : 0 ≤ p.mr ∧ p.mr ≤ 255

/-- What a verb is of: 1 an event, 2 standing, 3 swapping; 0: no verb. -/
def cls (v : Int) : Int := if 1 ≤ v ∧ v ≤ 9 then 1 else if 10 ≤ v ∧ v ≤ 15 then 2 else if 16 ≤ v ∧ v ≤ 19 then 3 else 0
def wnt (w : Int) : Int := if 1 ≤ w ∧ w ≤ 4 then 1 else if w = 5 then 2 else if w = 6 then 3 else 0
def isW (w : Int) : Bool := decide (1 ≤ w) && decide (w ≤ 10)
def uC (v : Int) : Bool := decide (v = 1 ∨ v = 2 ∨ v = 3 ∨ v = 4 ∨ v = 5 ∨ v = 7 ∨ v = 9 ∨ v = 14 ∨ v = 15 ∨ v = 16 ∨ v = 19)
def uS (v w : Int) : Bool := decide (v = 11) || decide (w = 9)
def uT (v w : Int) : Bool := decide (v = 12) || decide (v = 13) || decide (w = 10)
def uM (v : Int) : Bool := decide (v = 9)
def uN (v : Int) : Bool := decide (v = 7)
/-- The least and the most Count. -/
def lo (v : Int) : Int := if v = 1 ∨ v = 2 ∨ v = 3 ∨ v = 4 ∨ v = 7 ∨ v = 16 ∨ v = 19 then 1 else if v = 9 ∨ v = 15 then -99 else if v = 5 then -9 else 0
def hi (v : Int) : Int := if v = 1 ∨ v = 2 ∨ v = 3 ∨ v = 4 ∨ v = 7 ∨ v = 16 ∨ v = 19 then 99 else if v = 9 ∨ v = 15 then 99 else if v = 5 then 9 else if v = 14 then 99 else 0
def lay (v : Int) : Int := if v = 10 then 1 else if v = 11 then 2 else if v = 12 ∨ v = 13 then 3 else if v = 14 then 4 else if v = 15 then 5 else 0
/-- May a verb be about players? -/
def abP (v : Int) : Bool := !decide (v = 6 ∨ v = 8 ∨ v = 9) && !decide (cls v = 2)
def abt (wn vb wm : Int) : Bool := if wm = 3 then decide (wn = 1) else if wm = 1 ∨ wm = 2 then abP vb else true
def cfit (v c : Int) : Bool := if c = 0 then decide (lo v = 0) else decide (lo v ≤ c) && decide (c ≤ hi v)
def fitU (u : Bool) (x m : Int) : Bool := if u then decide (1 ≤ x) && decide (x ≤ m) else decide (x = 0)
def kfit (p : Pt) : Bool := fitU (uS p.vb p.wm) p.su 6 && (fitU (uT p.vb p.wm) p.tr 8 && fitU (uM p.vb) p.mr 4)
def letter (c : UInt8) : Bool := decide (97 ≤ c.toNat) && decide (c.toNat ≤ 122)
/-- Is a text a name? -/
def nameOk (l : List UInt8) : Bool := match l with
  | [] => false
  | c :: r => decide (r.length ≤ 19) && (letter c && r.all fun x => letter x || decide (x = 45))
def nfit (p : Pt) : Bool := if uN p.vb then nameOk p.nm.data.toList else decide (p.nm.data.toList = [])
def chk (p : Pt) : Int :=
  if wnt p.wn = 0 ∨ cls p.vb = 0 ∨ isW p.wm = false then 2
  else if ¬ cls p.vb = wnt p.wn ∨ (p.vb = 11 ∧ p.wm = 9) then 8
  else if abt p.wn p.vb p.wm = false then 13
  else if cfit p.vb p.ct = false ∨ kfit p = false then 2
  else if nfit p = false then 4
  else 0

/-- The word at a number. -/
def at1 (l : List (List UInt8)) (i : Int) : List UInt8 := l.getD (i.toNat - 1) []
/-- The number of a word; 0: it is none. -/
def idx (l : List (List UInt8)) (w : List UInt8) : Nat := if l.idxOf w < l.length then l.idxOf w + 1 else 0
def mark (b : Bool) (k : Nat) : List Nat := if b then [k] else []
/-- The fields that are used, in the order of their words. -/
def kinds (v w : Int) : List Nat := mark (uC v) 0 ++ (mark (uS v w) 1 ++ (mark (uT v w) 2 ++ (mark (uM v) 3 ++ mark (uN v) 4)))
def tell (p : Pt) : Nat → List UInt8
  | 0 => Lib.itoa p.ct
  | 1 => at1 suitW p.su
  | 2 => at1 traitW p.tr
  | 3 => Lib.itoa p.mr
  | _ => p.nm.data.toList
def heads (p : Pt) : List (List UInt8) := [at1 whenW p.wn, at1 verbW p.vb, at1 whomW p.wm]
def wordsOf (p : Pt) : List (List UInt8) := heads p ++ (kinds p.vb p.wm).map (tell p)
def prt (p : Pt) : List UInt8 := Lib.join (wordsOf p) [32]

/-- The pieces of a text, between blanks. -/
def pieces : List UInt8 → List (List UInt8)
  | [] => [[]]
  | c :: r => if c = 32 then [] :: pieces r else match pieces r with
    | [] => [[c]]
    | p :: ps => (c :: p) :: ps
theorem pieces_ne : ∀ l : List UInt8, pieces l ≠ []
  | [] => by simp [pieces]
  | c :: r => by
    by_cases hc : c = 32
    · simp [pieces, hc]
    · cases h : pieces r with
      | nil => exact absurd h (pieces_ne r)
      | cons p ps => simp [pieces, hc, h]
theorem join_cons2 (x y : List UInt8) (r : List (List UInt8)) : Lib.join (x :: y :: r) [32] = x ++ 32 :: Lib.join (y :: r) [32] := by
  simp [Lib.join, List.intercalate]
theorem join_pieces : ∀ l : List UInt8, Lib.join (pieces l) [32] = l
  | [] => by simp [pieces, Lib.join_one]
  | c :: r => by
    have ih := join_pieces r
    by_cases hc : c = 32
    · subst hc
      cases h : pieces r with
      | nil => exact absurd h (pieces_ne r)
      | cons p ps =>
        rw [h] at ih
        simp only [pieces, if_pos, h]
        rw [join_cons2, ih]
        rfl
    · cases h : pieces r with
      | nil => exact absurd h (pieces_ne r)
      | cons p ps =>
        rw [h] at ih
        simp only [pieces, if_neg hc, h]
        cases ps with
        | nil =>
          rw [Lib.join_one] at ih ⊢
          rw [ih]
        | cons q qs =>
          rw [join_cons2] at ih ⊢
          rw [List.cons_append, ih]
theorem pieces_app : ∀ (p r : List UInt8), (32 : UInt8) ∉ p → pieces (p ++ 32 :: r) = p :: pieces r
  | [], r, _ => by simp [pieces]
  | c :: p, r, h => by
    have hc : ¬ c = 32 := fun e => h (by simp [e])
    have ih := pieces_app p r (fun e => h (List.mem_cons_of_mem _ e))
    simp [pieces, hc, ih]
theorem pieces_one : ∀ p : List UInt8, (32 : UInt8) ∉ p → pieces p = [p]
  | [], _ => rfl
  | c :: p, h => by
    have hc : ¬ c = 32 := fun e => h (by simp [e])
    have ih := pieces_one p (fun e => h (List.mem_cons_of_mem _ e))
    simp [pieces, hc, ih]
theorem pieces_join : ∀ qs : List (List UInt8), qs ≠ [] → (∀ q ∈ qs, (32 : UInt8) ∉ q) → pieces (Lib.join qs [32]) = qs
  | [], h, _ => absurd rfl h
  | [x], _, h => by rw [Lib.join_one]; exact pieces_one x (h x (by simp))
  | x :: y :: r, _, h => by
    rw [join_cons2, pieces_app _ _ (h x (by simp)), pieces_join (y :: r) (by simp) (fun q hq => h q (List.mem_cons_of_mem _ hq))]

/-- One field read out of its word. -/
def rd1 : Nat → List UInt8 → Pt → Option Pt
  | 0, x, p => match Lib.atoiAll x with
    | .ok v => some { p with ct := v }
    | _ => Option.none
  | 1, x, p => if idx suitW x = 0 then Option.none else some { p with su := idx suitW x }
  | 2, x, p => if idx traitW x = 0 then Option.none else some { p with tr := idx traitW x }
  | 3, x, p => match Lib.parseUintB 8 x with
    | .ok u => some { p with mr := (u : Nat) }
    | _ => Option.none
  | _, x, p => some { p with nm := ⟨x.toArray⟩ }
def rdF : List Nat → List (List UInt8) → Pt → Option Pt
  | [], [], p => some p
  | k :: ks, x :: r, p => match rd1 k x p with
    | some q => rdF ks r q
    | Option.none => Option.none
  | _, _, _ => Option.none
/-- What the program takes words for. -/
def readP (ws : List (List UInt8)) : Option Pt := match ws with
  | a :: b :: c :: r => if idx whenW a = 0 ∨ idx verbW b = 0 ∨ idx whomW c = 0 then Option.none
    else rdF (kinds (idx verbW b) (idx whomW c)) r { Pt.none with wn := idx whenW a, vb := idx verbW b, wm := idx whomW c }
  | _ => Option.none
def parse (s : List UInt8) : Pt × Int := if 80 < s.length then (Pt.none, 3) else match readP (pieces s) with
  | Option.none => (Pt.none, 150)
  | some p => if chk p = 0 ∧ prt p = s then (p, 0) else (Pt.none, 150)

/-- What the document's answer takes a word of at most three signs for. -/
def digs : Nat → Int → List UInt8 → Int
  | 0, n, _ => n
  | _, n, [] => n
  | k + 1, n, c :: r => digs k (if 48 ≤ c.toNat ∧ c.toNat ≤ 57 then 10 * n + (c.toNat - 48 : Nat) else n) r
def numb (w : List UInt8) : Int := if w.head? = some 45 then -(digs 3 0 w) else digs 3 0 w
def rr1 : Nat → List UInt8 → Pt → Pt
  | 0, x, p => { p with ct := numb x }
  | 1, x, p => { p with su := idx suitW x }
  | 2, x, p => { p with tr := idx traitW x }
  | 3, x, p => { p with mr := (Int.tmod (numb x) 200) % 256 }
  | _, x, p => { p with nm := ⟨x.toArray⟩ }
def rrF : List Nat → List (List UInt8) → Pt → Pt
  | [], _, p => p
  | _, [], p => p
  | k :: ks, x :: r, p => rrF ks r (rr1 k x p)
def rread (ws : List (List UInt8)) : Pt := match ws with
  | a :: b :: c :: r => rrF (kinds (idx verbW b) (idx whomW c)) r { Pt.none with wn := idx whenW a, vb := idx verbW b, wm := idx whomW c }
  | _ => Pt.none
def rparse (s : List UInt8) : Pt × Int := if 80 < s.length then (Pt.none, 3)
  else if chk (rread (pieces s)) = 0 ∧ prt (rread (pieces s)) = s then (rread (pieces s), 0) else (Pt.none, 150)

/-- What is known of a part that may be. -/
structure May (p : Pt) : Prop where
  wn : 1 ≤ p.wn ∧ p.wn ≤ 6
  vb : 1 ≤ p.vb ∧ p.vb ≤ 19
  wm : 1 ≤ p.wm ∧ p.wm ≤ 10
  ct : if uC p.vb then -99 ≤ p.ct ∧ p.ct ≤ 99 else p.ct = 0
  su : if uS p.vb p.wm then 1 ≤ p.su ∧ p.su ≤ 6 else p.su = 0
  tr : if uT p.vb p.wm then 1 ≤ p.tr ∧ p.tr ≤ 8 else p.tr = 0
  mr : if uM p.vb then 1 ≤ p.mr ∧ p.mr ≤ 4 else p.mr = 0
  nm : if uN p.vb then nameOk p.nm.data.toList = true else p.nm = ⟨#[]⟩

theorem wnt_bound {w : Int} (h : ¬ wnt w = 0) : 1 ≤ w ∧ w ≤ 6 := by
  unfold wnt at h
  repeat' split at h
  all_goals omega
theorem cls_bound {v : Int} (h : ¬ cls v = 0) : 1 ≤ v ∧ v ≤ 19 := by
  unfold cls at h
  repeat' split at h
  all_goals omega
theorem isW_bound {w : Int} (h : ¬ isW w = false) : 1 ≤ w ∧ w ≤ 10 := by
  have : isW w = true := by simpa using h
  simpa [isW] using this
theorem verb_cases {v : Int} (h : 1 ≤ v ∧ v ≤ 19) : v = 1 ∨ v = 2 ∨ v = 3 ∨ v = 4 ∨ v = 5 ∨ v = 6 ∨ v = 7 ∨ v = 8 ∨ v = 9 ∨ v = 10 ∨ v = 11 ∨ v = 12 ∨ v = 13 ∨ v = 14 ∨ v = 15 ∨ v = 16 ∨ v = 17 ∨ v = 18 ∨ v = 19 := by omega
theorem cfit_bound {v c : Int} (hv : 1 ≤ v ∧ v ≤ 19) (h : cfit v c = true) : if uC v then -99 ≤ c ∧ c ≤ 99 else c = 0 := by
  by_cases h0 : c = 0
  · subst h0
    split <;> omega
  · rcases verb_cases hv with rfl | rfl | rfl | rfl | rfl | rfl | rfl | rfl | rfl | rfl | rfl | rfl | rfl | rfl | rfl | rfl | rfl | rfl | rfl <;>
      (simp [cfit, lo, hi, h0] at h; simp [uC]; try omega)
theorem fit_bound {u : Bool} {x m : Int} (h : fitU u x m = true) : if u then 1 ≤ x ∧ x ≤ m else x = 0 := by
  cases u <;> simpa [fitU] using h
theorem may_of {p : Pt} (h : chk p = 0) : May p := by
  unfold chk at h
  split at h
  · omega
  rename_i h1
  split at h
  · omega
  split at h
  · omega
  split at h
  · omega
  rename_i h4
  split at h
  · omega
  rename_i h5
  simp only [not_or] at h1 h4
  obtain ⟨a, b, c⟩ := h1
  obtain ⟨d, e⟩ := h4
  have d' : cfit p.vb p.ct = true := by simpa using d
  have e' : kfit p = true := by simpa using e
  have f' : nfit p = true := by simpa using h5
  simp only [kfit, Bool.and_eq_true] at e'
  refine ⟨wnt_bound a, cls_bound b, isW_bound c, cfit_bound (cls_bound b) d', fit_bound e'.1, fit_bound e'.2.1, fit_bound e'.2.2, ?_⟩
  unfold nfit at f'
  split
  · rename_i hu
    rw [if_pos hu] at f'
    exact f'
  · rename_i hu
    rw [if_neg hu] at f'
    have := of_decide_eq_true f'
    rcases hn : p.nm with ⟨⟨l⟩⟩
    rw [hn] at this
    simp at this
    rw [this]

theorem six_cases {v : Int} (h : 1 ≤ v ∧ v ≤ 6) : v = 1 ∨ v = 2 ∨ v = 3 ∨ v = 4 ∨ v = 5 ∨ v = 6 := by omega
theorem ten_cases {v : Int} (h : 1 ≤ v ∧ v ≤ 10) : v = 1 ∨ v = 2 ∨ v = 3 ∨ v = 4 ∨ v = 5 ∨ v = 6 ∨ v = 7 ∨ v = 8 ∨ v = 9 ∨ v = 10 := by omega
theorem eight_cases {v : Int} (h : 1 ≤ v ∧ v ≤ 8) : v = 1 ∨ v = 2 ∨ v = 3 ∨ v = 4 ∨ v = 5 ∨ v = 6 ∨ v = 7 ∨ v = 8 := by omega
theorem when_back {i : Int} (h : 1 ≤ i ∧ i ≤ 6) : ((idx whenW (at1 whenW i) : Nat) : Int) = i ∧ (32 : UInt8) ∉ at1 whenW i ∧ (at1 whenW i).length ≤ 6 := by
  rcases six_cases h with rfl | rfl | rfl | rfl | rfl | rfl <;> decide
theorem verb_back {i : Int} (h : 1 ≤ i ∧ i ≤ 19) : ((idx verbW (at1 verbW i) : Nat) : Int) = i ∧ (32 : UInt8) ∉ at1 verbW i ∧ (at1 verbW i).length ≤ 7 := by
  rcases verb_cases h with rfl | rfl | rfl | rfl | rfl | rfl | rfl | rfl | rfl | rfl | rfl | rfl | rfl | rfl | rfl | rfl | rfl | rfl | rfl <;> decide
theorem whom_back {i : Int} (h : 1 ≤ i ∧ i ≤ 10) : ((idx whomW (at1 whomW i) : Nat) : Int) = i ∧ (32 : UInt8) ∉ at1 whomW i ∧ (at1 whomW i).length ≤ 6 := by
  rcases ten_cases h with rfl | rfl | rfl | rfl | rfl | rfl | rfl | rfl | rfl | rfl <;> decide
theorem suit_back {i : Int} (h : 1 ≤ i ∧ i ≤ 6) : ((idx suitW (at1 suitW i) : Nat) : Int) = i ∧ (32 : UInt8) ∉ at1 suitW i ∧ (at1 suitW i).length ≤ 5 := by
  rcases six_cases h with rfl | rfl | rfl | rfl | rfl | rfl <;> decide
theorem trait_back {i : Int} (h : 1 ≤ i ∧ i ≤ 8) : ((idx traitW (at1 traitW i) : Nat) : Int) = i ∧ (32 : UInt8) ∉ at1 traitW i ∧ (at1 traitW i).length ≤ 5 := by
  rcases eight_cases h with rfl | rfl | rfl | rfl | rfl | rfl | rfl | rfl <;> decide

/-- The digits of a number below 100. -/
def dgl (k : Nat) : List UInt8 := if k < 10 then [UInt8.ofNat (48 + k)] else [UInt8.ofNat (48 + k / 10), UInt8.ofNat (48 + k % 10)]
theorem dec_dgl {k : Nat} (h : k < 100) : Lib.decDigits k = dgl k := by
  unfold dgl
  rw [Lib.decDigits]
  split
  · rfl
  · rw [Lib.decDigits, dif_pos (by omega)]
    rfl
theorem dgl_facts : ∀ k : Fin 100, Lib.atoiAll (dgl k) = .ok (k : Nat) ∧ Lib.atoiAll (45 :: dgl k) = .ok (-((k : Nat) : Int)) ∧ (32 : UInt8) ∉ dgl k ∧ (dgl k).length ≤ 2 ∧ numb (dgl k) = (k : Nat) ∧ numb (45 :: dgl k) = -((k : Nat) : Int) ∧ (k.val < 5 → Lib.parseUintB 8 (dgl k) = .ok k) := by decide +kernel
theorem itoa_facts {n : Int} (h : -99 ≤ n ∧ n ≤ 99) : Lib.atoiAll (Lib.itoa n) = .ok n ∧ (32 : UInt8) ∉ Lib.itoa n ∧ (Lib.itoa n).length ≤ 3 ∧ numb (Lib.itoa n) = n := by
  unfold Lib.itoa
  split
  · rename_i hn
    have hk : n.natAbs < 100 := by omega
    have f := dgl_facts ⟨n.natAbs, hk⟩
    simp only at f
    rw [dec_dgl hk]
    have e : -((n.natAbs : Nat) : Int) = n := by omega
    rw [e] at f
    refine ⟨f.2.1, ?_, ?_, f.2.2.2.2.2.1⟩
    · intro hm
      rcases List.mem_cons.1 hm with h' | h'
      · exact absurd h' (by decide)
      · exact f.2.2.1 h'
    · have := f.2.2.2.1
      simp only [List.length_cons]
      omega
  · rename_i hn
    have hk : n.toNat < 100 := by omega
    have f := dgl_facts ⟨n.toNat, hk⟩
    simp only at f
    rw [dec_dgl hk]
    have e : ((n.toNat : Nat) : Int) = n := by omega
    rw [e] at f
    exact ⟨f.1, f.2.2.1, by have := f.2.2.2.1; omega, f.2.2.2.2.1⟩
theorem mark_facts {n : Int} (h : 1 ≤ n ∧ n ≤ 4) : Lib.parseUintB 8 (Lib.itoa n) = .ok n.toNat ∧ (32 : UInt8) ∉ Lib.itoa n ∧ (Lib.itoa n).length ≤ 2 ∧ (Int.tmod (numb (Lib.itoa n)) 200) % 256 = n := by
  have hk : n.toNat < 100 := by omega
  have f := dgl_facts ⟨n.toNat, hk⟩
  simp only at f
  unfold Lib.itoa
  rw [if_neg (by omega), dec_dgl hk]
  refine ⟨f.2.2.2.2.2.2 (by omega), f.2.2.1, f.2.2.2.1, ?_⟩
  rw [f.2.2.2.2.1]
  have e : ((n.toNat : Nat) : Int) = n := by omega
  rw [e]
  rcases (show n = 1 ∨ n = 2 ∨ n = 3 ∨ n = 4 from by omega) with rfl | rfl | rfl | rfl <;> decide
theorem letter_blank : letter 32 = false := by decide
theorem name_facts {l : List UInt8} (h : nameOk l = true) : (32 : UInt8) ∉ l ∧ l.length ≤ 20 := by
  cases l with
  | nil => simp [nameOk] at h
  | cons c r =>
    simp only [nameOk, Bool.and_eq_true, decide_eq_true_eq] at h
    obtain ⟨h1, h2, h3⟩ := h
    refine ⟨fun hm => ?_, by simp only [List.length_cons]; omega⟩
    rcases List.mem_cons.1 hm with h' | h'
    · rw [← h', letter_blank] at h2
      cases h2
    · have := List.all_eq_true.1 h3 _ h'
      revert this
      decide

/-- The words of a part that may be: no blank in any, their lengths. -/
theorem tell_facts {p : Pt} (M : May p) {k : Nat} (hk : k ∈ kinds p.vb p.wm) : (32 : UInt8) ∉ tell p k := by
  simp only [kinds, List.mem_append] at hk
  rcases hk with h | h | h | h | h
  · cases hu : uC p.vb with
    | false => simp [mark, hu] at h
    | true => simp [mark, hu] at h; subst h; have := M.ct; rw [hu] at this; exact (itoa_facts this).2.1
  · cases hu : uS p.vb p.wm with
    | false => simp [mark, hu] at h
    | true => simp [mark, hu] at h; subst h; have := M.su; rw [hu] at this; exact (suit_back this).2.1
  · cases hu : uT p.vb p.wm with
    | false => simp [mark, hu] at h
    | true => simp [mark, hu] at h; subst h; have := M.tr; rw [hu] at this; exact (trait_back this).2.1
  · cases hu : uM p.vb with
    | false => simp [mark, hu] at h
    | true => simp [mark, hu] at h; subst h; have := M.mr; rw [hu] at this; exact (mark_facts this).2.1
  · cases hu : uN p.vb with
    | false => simp [mark, hu] at h
    | true => simp [mark, hu] at h; subst h; have := M.nm; rw [hu] at this; exact (name_facts this).1
theorem words_blank {p : Pt} (M : May p) : ∀ q ∈ wordsOf p, (32 : UInt8) ∉ q := by
  intro q hq
  simp only [wordsOf, heads, List.mem_append, List.mem_cons, List.mem_map, List.not_mem_nil, or_false] at hq
  rcases hq with (rfl | rfl | rfl) | ⟨k, hk, rfl⟩
  · exact (when_back M.wn).2.1
  · exact (verb_back M.vb).2.1
  · exact (whom_back M.wm).2.1
  · exact tell_facts M hk
theorem pieces_prt {p : Pt} (M : May p) : pieces (prt p) = wordsOf p := pieces_join _ (by simp [wordsOf, heads]) (words_blank M)

theorem step0 {a : Bool} {p q : Pt} (ks : List Nat) (h : if a then -99 ≤ p.ct ∧ p.ct ≤ 99 else p.ct = 0) (hq : q.ct = 0) :
    rdF (mark a 0 ++ ks) ((mark a 0 ++ ks).map (tell p)) q = rdF ks (ks.map (tell p)) { q with ct := p.ct } ∧ rrF (mark a 0 ++ ks) ((mark a 0 ++ ks).map (tell p)) q = rrF ks (ks.map (tell p)) { q with ct := p.ct } := by
  cases a with
  | false =>
    have h' : p.ct = 0 := h
    cases q
    simp only at hq
    simp [mark, h', hq]
  | true =>
    have f := itoa_facts (show -99 ≤ p.ct ∧ p.ct ≤ 99 from h)
    simp [mark, rdF, rrF, rd1, rr1, tell, f.1, f.2.2.2]
theorem step1 {a : Bool} {p q : Pt} (ks : List Nat) (h : if a then 1 ≤ p.su ∧ p.su ≤ 6 else p.su = 0) (hq : q.su = 0) :
    rdF (mark a 1 ++ ks) ((mark a 1 ++ ks).map (tell p)) q = rdF ks (ks.map (tell p)) { q with su := p.su } ∧ rrF (mark a 1 ++ ks) ((mark a 1 ++ ks).map (tell p)) q = rrF ks (ks.map (tell p)) { q with su := p.su } := by
  cases a with
  | false =>
    have h' : p.su = 0 := h
    cases q
    simp only at hq
    simp [mark, h', hq]
  | true =>
    have h' : 1 ≤ p.su ∧ p.su ≤ 6 := h
    have f := (suit_back h').1
    have hz : ¬ idx suitW (at1 suitW p.su) = 0 := by omega
    simp [mark, rdF, rrF, rd1, rr1, tell, f, hz]
theorem step2 {a : Bool} {p q : Pt} (ks : List Nat) (h : if a then 1 ≤ p.tr ∧ p.tr ≤ 8 else p.tr = 0) (hq : q.tr = 0) :
    rdF (mark a 2 ++ ks) ((mark a 2 ++ ks).map (tell p)) q = rdF ks (ks.map (tell p)) { q with tr := p.tr } ∧ rrF (mark a 2 ++ ks) ((mark a 2 ++ ks).map (tell p)) q = rrF ks (ks.map (tell p)) { q with tr := p.tr } := by
  cases a with
  | false =>
    have h' : p.tr = 0 := h
    cases q
    simp only at hq
    simp [mark, h', hq]
  | true =>
    have h' : 1 ≤ p.tr ∧ p.tr ≤ 8 := h
    have f := (trait_back h').1
    have hz : ¬ idx traitW (at1 traitW p.tr) = 0 := by omega
    simp [mark, rdF, rrF, rd1, rr1, tell, f, hz]
theorem step3 {a : Bool} {p q : Pt} (ks : List Nat) (h : if a then 1 ≤ p.mr ∧ p.mr ≤ 4 else p.mr = 0) (hq : q.mr = 0) :
    rdF (mark a 3 ++ ks) ((mark a 3 ++ ks).map (tell p)) q = rdF ks (ks.map (tell p)) { q with mr := p.mr } ∧ rrF (mark a 3 ++ ks) ((mark a 3 ++ ks).map (tell p)) q = rrF ks (ks.map (tell p)) { q with mr := p.mr } := by
  cases a with
  | false =>
    have h' : p.mr = 0 := h
    cases q
    simp only at hq
    simp [mark, h', hq]
  | true =>
    have h' : 1 ≤ p.mr ∧ p.mr ≤ 4 := h
    have f := mark_facts h'
    have e : ((p.mr.toNat : Nat) : Int) = p.mr := by omega
    simp only [mark, rdF, rrF, rd1, rr1, tell, f.1, f.2.2.2, e, if_true, List.singleton_append, List.map_cons, and_self]
theorem step4 {a : Bool} {p q : Pt} (h : if a then nameOk p.nm.data.toList = true else p.nm = ⟨#[]⟩) (hq : q.nm = ⟨#[]⟩) :
    rdF (mark a 4) ((mark a 4).map (tell p)) q = some { q with nm := p.nm } ∧ rrF (mark a 4) ((mark a 4).map (tell p)) q = { q with nm := p.nm } := by
  cases a with
  | false =>
    have h' : p.nm = ⟨#[]⟩ := h
    cases q
    simp only at hq
    simp [mark, h', hq, rdF, rrF]
  | true =>
    simp [mark, rdF, rrF, rd1, rr1, tell]
theorem fields_back {p q : Pt} (M : May p) (h0 : q.ct = 0) (h1 : q.su = 0) (h2 : q.tr = 0) (h3 : q.mr = 0) (h4 : q.nm = ⟨#[]⟩) (e0 : q.wn = p.wn) (e1 : q.vb = p.vb) (e2 : q.wm = p.wm) :
    rdF (kinds p.vb p.wm) ((kinds p.vb p.wm).map (tell p)) q = some p ∧ rrF (kinds p.vb p.wm) ((kinds p.vb p.wm).map (tell p)) q = p := by
  unfold kinds
  rw [(step0 _ M.ct h0).1, (step1 _ M.su (by simpa using h1)).1, (step2 _ M.tr (by simpa using h2)).1, (step3 _ M.mr (by simpa using h3)).1, (step4 M.nm (by simpa using h4)).1]
  rw [(step0 _ M.ct h0).2, (step1 _ M.su (by simpa using h1)).2, (step2 _ M.tr (by simpa using h2)).2, (step3 _ M.mr (by simpa using h3)).2, (step4 M.nm (by simpa using h4)).2]
  cases p
  cases q
  simp only at e0 e1 e2
  simp [e0, e1, e2]
theorem read_back {p : Pt} (M : May p) : readP (wordsOf p) = some p ∧ rread (wordsOf p) = p := by
  have a := (when_back M.wn).1
  have b := (verb_back M.vb).1
  have c := (whom_back M.wm).1
  have a0 : ¬ idx whenW (at1 whenW p.wn) = 0 := by have := M.wn; omega
  have b0 : ¬ idx verbW (at1 verbW p.vb) = 0 := by have := M.vb; omega
  have c0 : ¬ idx whomW (at1 whomW p.wm) = 0 := by have := M.wm; omega
  simp only [wordsOf, heads, List.cons_append, List.nil_append, readP, rread, a0, b0, c0, or_self, if_false, a, b, c]
  exact fields_back M rfl rfl rfl rfl rfl rfl rfl rfl
theorem prt_back {p : Pt} (h : chk p = 0) : readP (pieces (prt p)) = some p ∧ rread (pieces (prt p)) = p := by
  rw [pieces_prt (may_of h)]
  exact read_back (may_of h)
/-- No two parts that may be have one text. -/
theorem prt_inj {p q : Pt} (hp : chk p = 0) (hq : chk q = 0) (h : prt p = prt q) : p = q := by
  have a := (prt_back hp).2
  rw [h, (prt_back hq).2] at a
  exact a.symm
theorem join_len (sep : List UInt8) : ∀ l : List (List UInt8), (Lib.join l sep).length ≤ (l.map fun x => x.length + sep.length).sum
  | [] => by simp [Lib.join_nil]
  | [x] => by rw [Lib.join_one]; simp
  | x :: y :: r => by
    have ih := join_len sep (y :: r)
    have e : Lib.join (x :: y :: r) sep = x ++ (sep ++ Lib.join (y :: r) sep) := by simp [Lib.join, List.intercalate]
    rw [e]
    simp only [List.length_append, List.map_cons, List.sum_cons] at ih ⊢
    omega
theorem mark_sum (a : Bool) (k : Nat) (f : Nat → Nat) : ((mark a k).map f).sum = if a then f k else 0 := by cases a <;> simp [mark]
/-- No text has more than 80 bytes. -/
theorem prt_len {p : Pt} (M : May p) : (prt p).length ≤ 80 := by
  refine Nat.le_trans (join_len _ _) ?_
  have a := (when_back M.wn).2.2
  have b := (verb_back M.vb).2.2
  have c := (whom_back M.wm).2.2
  simp only [wordsOf, heads, kinds, List.map_append, List.map_map, List.map_cons, List.map_nil, List.sum_append, List.sum_cons, List.sum_nil, List.length_cons, List.length_nil, mark_sum, Function.comp_def, Nat.zero_add]
  have d0 : (if uC p.vb = true then (tell p 0).length + 1 else 0) ≤ 4 := by
    split
    · rename_i hu
      have h := M.ct
      rw [if_pos hu] at h
      have := (itoa_facts h).2.2.1
      simp only [tell]
      omega
    · omega
  have d1 : (if uS p.vb p.wm = true then (tell p 1).length + 1 else 0) ≤ 6 := by
    split
    · rename_i hu
      have h := M.su
      rw [if_pos hu] at h
      have := (suit_back h).2.2
      simp only [tell]
      omega
    · omega
  have d2 : (if uT p.vb p.wm = true then (tell p 2).length + 1 else 0) ≤ 6 := by
    split
    · rename_i hu
      have h := M.tr
      rw [if_pos hu] at h
      have := (trait_back h).2.2
      simp only [tell]
      omega
    · omega
  have d3 : (if uM p.vb = true then (tell p 3).length + 1 else 0) ≤ 3 := by
    split
    · rename_i hu
      have h := M.mr
      rw [if_pos hu] at h
      have := (mark_facts h).2.2.1
      simp only [tell]
      omega
    · omega
  have d4 : (if uN p.vb = true then (tell p 4).length + 1 else 0) ≤ 21 := by
    split
    · rename_i hu
      have h := M.nm
      rw [if_pos hu] at h
      have := (name_facts h).2
      simp only [tell]
      omega
    · omega
  omega
/-- What the program reads is what the document's answer reads. -/
theorem parse_same (s : List UInt8) : parse s = rparse s := by
  unfold parse rparse
  split
  · rfl
  · by_cases h : ∃ p, chk p = 0 ∧ prt p = s
    · obtain ⟨p, hp, rfl⟩ := h
      rw [(prt_back hp).1, (prt_back hp).2]
    · have no : ∀ q, ¬ (chk q = 0 ∧ prt q = s) := fun q hq => h ⟨q, hq⟩
      rw [if_neg (no _)]
      cases readP (pieces s) with
      | none => rfl
      | some q => exact if_neg (no q)
/-- What a text is taken for. -/
theorem parse_yes {s : List UInt8} (h : (parse s).2 = 0) : chk (parse s).1 = 0 ∧ prt (parse s).1 = s := by
  unfold parse at h ⊢
  split at h
  · simp at h
  · rename_i hl
    rw [if_neg hl]
    cases hr : readP (pieces s) with
    | none => rw [hr] at h; simp at h
    | some q =>
      rw [hr] at h
      simp only at h ⊢
      split at h
      · rename_i hc
        rw [if_pos hc]
        exact hc
      · simp at h
theorem parse_no {s : List UInt8} (h : ¬ (parse s).2 = 0) : (parse s).1 = Pt.none := by
  unfold parse at h ⊢
  split
  · rfl
  · rename_i hl
    rw [if_neg hl] at h
    cases hr : readP (pieces s) with
    | none => rfl
    | some q =>
      rw [hr] at h
      simp only at h ⊢
      split
      · rename_i hc
        rw [if_pos hc] at h
        exact absurd rfl h
      · rfl
theorem parse_prt {p : Pt} (h : chk p = 0) : parse (prt p) = (p, 0) := by
  unfold parse
  rw [if_neg (by have := prt_len (may_of h); omega), (prt_back h).1]
  exact if_pos ⟨h, rfl⟩
end Go.Proofs.YtpceelbphpfciaaGreatDoor
