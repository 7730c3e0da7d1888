/-
  What a card is, which may be, its text, and how a text is read as one: the plain functions that the walks of this seat tell the program's answers by; and that reading undoes telling.
-/
import Derived.Test.YtpceelbphpfciaaGreatDoorPure
import Derived.Lib.CutLaws
import Derived.Lib.Strings
import Derived.Laws.BitsAllLaws
namespace Go.Proofs.YtpceelbphpfciaaGreatDoor

def tBit (k : Int) : Int := if k = 1 then 1 else if k = 2 then 2 else if k = 3 then 4 else if k = 4 then 8 else if k = 5 then 16 else if k = 6 then 32 else if k = 7 then 64 else if k = 8 then 128 else 0
def tHas (s k : Int) : Bool := bits .and .u16 s (tBit k) != 0
def tWith (s k : Int) : Int := bits .or .u16 s (tBit k)
def tCheck (s : Int) : Bool := bits .andNot .u16 s 255 == 0
def tUpto (s : Int) : Nat → List Int
  | 0 => []
  | k + 1 => if tHas s ((k : Int) + 1) then tUpto s k ++ [(k : Int) + 1] else tUpto s k
def tList (s : Int) : List Int := tUpto s 8
theorem upto_len (s : Int) : ∀ k, (tUpto s k).length ≤ k
  | 0 => Nat.le_refl _
  | k + 1 => by
    have := upto_len s k
    unfold tUpto
    split <;> simp <;> omega
theorem upto_mem (s : Int) : ∀ k, ∀ t ∈ tUpto s k, 1 ≤ t ∧ t ≤ k
  | 0 => by simp [tUpto]
  | k + 1 => by
    have ih := upto_mem s k
    intro t ht
    unfold tUpto at ht
    split at ht
    · rcases List.mem_append.1 ht with h | h
      · have := ih t h; omega
      · simp at h; omega
    · have := ih t ht; omega
theorem list_mem {s t : Int} (h : t ∈ tList s) : 1 ≤ t ∧ t ≤ 8 := upto_mem s 8 t h
theorem list_back : ∀ n : Fin 256, (tList (n : Nat)).foldl tWith 0 = (n : Nat) ∧ tCheck (n : Nat) = true := by decide +kernel

def bv (s : Int) : BitVec 16 := BitVec.ofInt 16 s
theorem wrap_bv (x : BitVec 16) : IntKind.u16.wrap (x.toNat : Int) = (x.toNat : Int) := by
  have := x.isLt
  rw [IntKind.wrap_u16]
  omega
theorem bv_nat (x : BitVec 16) : bv (x.toNat : Int) = x := by
  unfold bv
  rw [BitVec.ofInt_natCast, BitVec.ofNat_toNat, BitVec.setWidth_eq]
theorem bits_andNot (a b : Int) : bits .andNot .u16 a b = ((bv a &&& ~~~bv b).toNat : Int) := by
  show IntKind.u16.wrap ((BitVec.ofInt 16 a &&& ~~~BitVec.ofInt 16 b).toNat : Int) = _
  rw [wrap_bv]; rfl
theorem bits_or (a b : Int) : bits .or .u16 a b = ((bv a ||| bv b).toNat : Int) := by
  show IntKind.u16.wrap ((BitVec.ofInt 16 a ||| BitVec.ofInt 16 b).toNat : Int) = _
  rw [wrap_bv]; rfl
theorem check_bv (s : Int) : tCheck s = (bv s &&& ~~~255#16 == 0#16) := by
  unfold tCheck; rw [bits_andNot]
  have e : bv 255 = 255#16 := by decide
  rw [e]
  by_cases h : bv s &&& ~~~255#16 = 0#16
  · rw [h]; rfl
  · have hn : ¬ (bv s &&& ~~~255#16).toNat = 0 := fun e => h (BitVec.eq_of_toNat_eq (by rw [e]; rfl))
    have h1 : ¬ ((bv s &&& ~~~255#16).toNat : Int) = 0 := by omega
    rw [beq_eq_false_iff_ne.2 h1, beq_eq_false_iff_ne.2 h]
theorem bv_part (x m : BitVec 16) : (x &&& ~~~m = 0#16) ↔ (x &&& m = x) := by
  constructor
  · intro h
    apply BitVec.eq_of_getLsbD_eq
    intro i hi
    have hb : (x &&& ~~~m).getLsbD i = false := by rw [h, BitVec.getLsbD_zero]
    rw [BitVec.getLsbD_and, BitVec.getLsbD_not] at hb
    rw [BitVec.getLsbD_and]
    revert hb
    cases x.getLsbD i <;> cases m.getLsbD i <;> simp [hi]
  · intro h
    apply BitVec.eq_of_getLsbD_eq
    intro i hi
    have hb : (x &&& m).getLsbD i = x.getLsbD i := by rw [h]
    rw [BitVec.getLsbD_and] at hb
    rw [BitVec.getLsbD_and, BitVec.getLsbD_not, BitVec.getLsbD_zero]
    revert hb
    cases x.getLsbD i <;> cases m.getLsbD i <;> simp
theorem check_is (s : Int) (h0 : 0 ≤ s) (h1 : s < 65536) : tCheck s = decide (s < 256) := by
  obtain ⟨n, rfl⟩ := Int.eq_ofNat_of_zero_le h0
  rw [check_bv]
  have hn : (bv (n : Int)).toNat = n := by
    unfold bv
    rw [BitVec.ofInt_natCast, BitVec.toNat_ofNat]
    omega
  have hm : (bv (n : Int) &&& 255#16).toNat = n % 256 := by
    rw [BitVec.toNat_and, hn]
    exact Nat.and_two_pow_sub_one_eq_mod n 8
  by_cases h : n < 256
  · have e : bv (n : Int) &&& ~~~255#16 = 0#16 := (bv_part _ _).2 (BitVec.eq_of_toNat_eq (by rw [hm, hn]; omega))
    have h' : (n : Int) < 256 := by omega
    rw [e, decide_eq_true h']
    rfl
  · have e : ¬ bv (n : Int) &&& ~~~255#16 = 0#16 := fun e => by
      have := congrArg BitVec.toNat ((bv_part _ _).1 e)
      rw [hm, hn] at this
      omega
    have h' : ¬ (n : Int) < 256 := by omega
    rw [decide_eq_false h', beq_eq_false_iff_ne.2 e]
/-- A card: its nine fields. -/
structure Cd where
  nm : ByteArray
  su : Int
  kd : Int
  co : Int
  po : Int
  he : Int
  tr : Int
  tk : Bool
  ps : List Pt
def Cd.none : Cd := ⟨⟨#[]⟩, 0, 0, 0, 0, 0, 0, false, []⟩
/-- Each field is a number of its type. -/
structure Cd.wf (c : Cd) : Prop where
  su : 0 ≤ c.su ∧ c.su ≤ 255
  kd : 0 ≤ c.kd ∧ c.kd ≤ 255
  co : -9223372036854775808 ≤ c.co ∧ c.co ≤ 9223372036854775807
  po : -9223372036854775808 ≤ c.po ∧ c.po ≤ 9223372036854775807
  he : -9223372036854775808 ≤ c.he ∧ c.he ≤ 9223372036854775807
  tr : 0 ≤ c.tr ∧ c.tr ≤ 65535
  ps : ∀ p ∈ c.ps, p.wf

def kindW : List (List UInt8) := [[117, 110, 105, 116], [115, 112, 101, 108, 108], [114, 101, 108, 105, 99]]
def tokW : List UInt8 := [116, 111, 107, 101, 110]
def mayH (kd wn : Int) : Bool := if kd = 2 then decide (wn = 1) else if kd = 3 then !decide (wn = 4) else true
def chkPs (kd : Int) : List Pt → Int
  | [] => 0
  | p :: r => if ¬ chk p = 0 then chk p else if mayH kd p.wn = false then 8 else chkPs kd r
def forceOk (c : Cd) : Bool := if c.kd = 1 then !decide (c.he = 0) else decide (c.po = 0) && decide (c.he = 0)
/-- What is told of a card: 0 of one that may be. -/
def cchk (c : Cd) : Int :=
  if nameOk c.nm.data.toList = false then 4
  else if ¬ (1 ≤ c.su ∧ c.su ≤ 6) ∨ ¬ (1 ≤ c.kd ∧ c.kd ≤ 3) then 8
  else if ¬ (0 ≤ c.co ∧ c.co ≤ 10) ∨ ¬ (0 ≤ c.po ∧ c.po ≤ 99) ∨ ¬ (0 ≤ c.he ∧ c.he ≤ 99) then 2
  else if forceOk c = false ∨ tCheck c.tr = false ∨ (c.kd = 2 ∧ c.tk = true) then 8
  else if 4 < c.ps.length then 3
  else chkPs c.kd c.ps

/-- The words ahead of the parts. -/
def forceW (c : Cd) : List (List UInt8) := if c.kd = 1 then [Lib.itoa c.po ++ 47 :: Lib.itoa c.he] else []
def tokenW (c : Cd) : List (List UInt8) := if c.tk then [tokW] else []
def traitsW (c : Cd) : List (List UInt8) := (tList c.tr).map fun t => 43 :: at1 traitW t
def cheads (c : Cd) : List (List UInt8) := [c.nm.data.toList, at1 suitW c.su, at1 kindW c.kd, Lib.itoa c.co] ++ (forceW c ++ (tokenW c ++ traitsW c))
def partsW (ps : List Pt) : List (List UInt8) := ps.flatMap fun p => [[124], prt p]
def cwords (c : Cd) : List (List UInt8) := cheads c ++ partsW c.ps
def cprt (c : Cd) : List UInt8 := Lib.join (cwords c) [32]

/-- A text cut wherever the word for a part stands. -/
def barS : List UInt8 := [32, 124, 32]
def cutsF : Nat → List UInt8 → List (List UInt8)
  | 0, l => [l]
  | n + 1, l => if (Lib.cut l barS).2.2 then (Lib.cut l barS).1 :: cutsF n (Lib.cut l barS).2.1 else [l]
def cuts (l : List UInt8) : List (List UInt8) := cutsF l.length l

/-- One word behind the first four. -/
def far1 (w : List UInt8) (c : Cd) : Option Cd :=
  if w = tokW then some { c with tk := true }
  else if Lib.hasPrefix w [43] then (if idx traitW (w.drop 1) = 0 then Option.none else some { c with tr := tWith c.tr (idx traitW (w.drop 1)) })
  else match Lib.atoiAll (Lib.cut w [47]).1, Lib.atoiAll (Lib.cut w [47]).2.1 with
    | .ok a, .ok b => some { c with po := a, he := b }
    | _, _ => Option.none
def far : List (List UInt8) → Cd → Option Cd
  | [], c => some c
  | w :: r, c => match far1 w c with
    | some d => far r d
    | Option.none => Option.none
def readH (ws : List (List UInt8)) : Option Cd := match ws with
  | a :: b :: k :: n :: r => if idx suitW b = 0 then Option.none else match Lib.atoiAll n with
    | .ok v => far r { Cd.none with nm := ⟨a.toArray⟩, su := idx suitW b, kd := idx kindW k, co := v }
    | _ => Option.none
  | _ => Option.none
def readPs : List (List UInt8) → List Pt → Option (List Pt)
  | [], ps => some ps
  | t :: r, ps => if (parse t).2 = 0 then readPs r (ps ++ [(parse t).1]) else Option.none
def cread (s : List UInt8) : Option Cd := match cuts s with
  | [] => Option.none
  | h :: ts => match readH (pieces h) with
    | Option.none => Option.none
    | some c => match readPs ts [] with
      | Option.none => Option.none
      | some ps => some { c with ps := ps }
def cparse (s : List UInt8) : Cd × Int := if 512 < s.length then (Cd.none, 3) else match cread s with
  | Option.none => (Cd.none, 160)
  | some c => if cchk c = 0 ∧ cprt c = s then (c, 0) else (Cd.none, 160)

/-- What a card that may be is like. -/
structure CMay (c : Cd) : Prop where
  nm : nameOk c.nm.data.toList = true
  su : 1 ≤ c.su ∧ c.su ≤ 6
  kd : 1 ≤ c.kd ∧ c.kd ≤ 3
  co : 0 ≤ c.co ∧ c.co ≤ 10
  po : 0 ≤ c.po ∧ c.po ≤ 99
  he : 0 ≤ c.he ∧ c.he ≤ 99
  fo : forceOk c = true
  tr : tCheck c.tr = true
  len : c.ps.length ≤ 4
  ps : ∀ p ∈ c.ps, chk p = 0
theorem chkPs_of {kd : Int} : ∀ {ps : List Pt}, chkPs kd ps = 0 → ∀ p ∈ ps, chk p = 0
  | [], _ => by simp
  | p :: r, h => by
    unfold chkPs at h
    split at h
    · exact absurd h (by assumption)
    · rename_i hp
      split at h
      · simp at h
      · intro q hq
        rcases List.mem_cons.1 hq with rfl | hq
        · exact Decidable.not_not.1 hp
        · exact chkPs_of h q hq
theorem cmay_of {c : Cd} (h : cchk c = 0) : CMay c := by
  unfold cchk at h
  split at h
  · simp at h
  rename_i h1
  split at h
  · simp at h
  rename_i h2
  split at h
  · simp at h
  rename_i h3
  split at h
  · simp at h
  rename_i h4
  split at h
  · simp at h
  rename_i h5
  simp only [not_or, Decidable.not_not] at h2 h3
  simp only [not_or] at h4
  exact ⟨by simpa using h1, h2.1, h2.2, h3.1, h3.2.1, h3.2.2, by simpa using h4.1, by simpa using h4.2.1, by omega, chkPs_of h⟩

theorem join_mem {x : UInt8} {sep : List UInt8} : ∀ {l : List (List UInt8)}, x ∈ Lib.join l sep → x ∈ sep ∨ ∃ w ∈ l, x ∈ w
  | [], h => by simp [Lib.join_nil] at h
  | [y], h => by rw [Lib.join_one] at h; exact Or.inr ⟨y, by simp, h⟩
  | y :: z :: r, h => by
    have e : Lib.join (y :: z :: r) sep = y ++ (sep ++ Lib.join (z :: r) sep) := by simp [Lib.join, List.intercalate]
    rw [e] at h
    rcases List.mem_append.1 h with h | h
    · exact Or.inr ⟨y, by simp, h⟩
    · rcases List.mem_append.1 h with h | h
      · exact Or.inl h
      · rcases join_mem h with h | ⟨w, hw, h⟩
        · exact Or.inl h
        · exact Or.inr ⟨w, List.mem_cons_of_mem _ hw, h⟩
theorem dgl_more : ∀ k : Fin 100, (124 : UInt8) ∉ dgl k ∧ (47 : UInt8) ∉ dgl k ∧ (43 : UInt8) ∉ dgl k ∧ (116 : UInt8) ∉ dgl k ∧ dgl k ≠ [] := by decide +kernel
theorem itoa_nat {n : Int} (h : 0 ≤ n ∧ n ≤ 99) : ∃ k : Fin 100, Lib.itoa n = dgl k ∧ ((k : Nat) : Int) = n := by
  have hk : n.toNat < 100 := by omega
  refine ⟨⟨n.toNat, hk⟩, ?_, by simp; omega⟩
  unfold Lib.itoa
  rw [if_neg (by omega), dec_dgl hk]
theorem itoa_bar {n : Int} (h : -99 ≤ n ∧ n ≤ 99) : (124 : UInt8) ∉ Lib.itoa n := by
  unfold Lib.itoa
  split
  · have hk : n.natAbs < 100 := by omega
    rw [dec_dgl hk]
    intro hm
    rcases List.mem_cons.1 hm with h' | h'
    · exact absurd h' (by decide)
    · exact (dgl_more ⟨n.natAbs, hk⟩).1 h'
  · have hk : n.toNat < 100 := by omega
    rw [dec_dgl hk]
    exact (dgl_more ⟨n.toNat, hk⟩).1
theorem name_bar {l : List UInt8} (h : nameOk l = true) : (124 : UInt8) ∉ l := by
  cases l with
  | nil => simp [nameOk] at h
  | cons c r =>
    simp only [nameOk, Bool.and_eq_true, decide_eq_true_eq] at h
    obtain ⟨h1, h2, h3⟩ := h
    intro hm
    rcases List.mem_cons.1 hm with h' | h'
    · rw [← h'] at h2
      exact absurd h2 (by decide)
    · have := List.all_eq_true.1 h3 _ h'
      revert this
      decide
theorem when_bar {i : Int} (h : 1 ≤ i ∧ i ≤ 6) : (124 : UInt8) ∉ at1 whenW i := by
  rcases six_cases h with rfl | rfl | rfl | rfl | rfl | rfl <;> decide
theorem verb_bar {i : Int} (h : 1 ≤ i ∧ i ≤ 19) : (124 : UInt8) ∉ at1 verbW i := by
  rcases verb_cases h with rfl | rfl | rfl | rfl | rfl | rfl | rfl | rfl | rfl | rfl | rfl | rfl | rfl | rfl | rfl | rfl | rfl | rfl | rfl <;> decide
theorem whom_bar {i : Int} (h : 1 ≤ i ∧ i ≤ 10) : (124 : UInt8) ∉ at1 whomW i := by
  rcases ten_cases h with rfl | rfl | rfl | rfl | rfl | rfl | rfl | rfl | rfl | rfl <;> decide
theorem suit_bar {i : Int} (h : 1 ≤ i ∧ i ≤ 6) : (124 : UInt8) ∉ at1 suitW i := by
  rcases six_cases h with rfl | rfl | rfl | rfl | rfl | rfl <;> decide
theorem trait_bar {i : Int} (h : 1 ≤ i ∧ i ≤ 8) : (124 : UInt8) ∉ at1 traitW i := by
  rcases eight_cases h with rfl | rfl | rfl | rfl | rfl | rfl | rfl | rfl <;> decide
theorem mem_mark {b : Bool} {k j : Nat} (h : k ∈ mark b j) : b = true ∧ k = j := by
  cases b <;> simp [mark] at h
  exact ⟨rfl, h⟩
theorem tell_bar {p : Pt} (M : May p) {k : Nat} (hk : k ∈ kinds p.vb p.wm) : (124 : UInt8) ∉ tell p k := by
  simp only [kinds, List.mem_append] at hk
  rcases hk with h | h | h | h | h
  · obtain ⟨hu, rfl⟩ := mem_mark h
    have := M.ct
    rw [if_pos hu] at this
    exact itoa_bar this
  · obtain ⟨hu, rfl⟩ := mem_mark h
    have := M.su
    rw [if_pos hu] at this
    exact suit_bar this
  · obtain ⟨hu, rfl⟩ := mem_mark h
    have := M.tr
    rw [if_pos hu] at this
    exact trait_bar this
  · obtain ⟨hu, rfl⟩ := mem_mark h
    have := M.mr
    rw [if_pos hu] at this
    exact itoa_bar (by omega)
  · obtain ⟨hu, rfl⟩ := mem_mark h
    have := M.nm
    rw [if_pos hu] at this
    exact name_bar this
theorem prt_bar {p : Pt} (M : May p) : (124 : UInt8) ∉ prt p := by
  intro h
  rcases join_mem h with h | ⟨w, hw, h⟩
  · exact absurd h (by decide)
  · simp only [wordsOf, heads, List.mem_append, List.mem_cons, List.mem_map, List.not_mem_nil, or_false] at hw
    rcases hw with (rfl | rfl | rfl) | ⟨k, hk, rfl⟩
    · exact when_bar M.wn h
    · exact verb_bar M.vb h
    · exact whom_bar M.wm h
    · exact tell_bar M hk h

/-- Where the word for a part stands. -/
theorem index_bar : ∀ (p r : List UInt8), (124 : UInt8) ∉ p → Lib.index (p ++ 32 :: 124 :: 32 :: r) barS = p.length
  | [], r, _ => by simp [Lib.index, barS, List.isPrefixOf]
  | c :: p, r, h => by
    have ih := index_bar p r (fun e => h (List.mem_cons_of_mem _ e))
    have hp : barS.isPrefixOf (c :: (p ++ 32 :: 124 :: 32 :: r)) = false := by
      cases p with
      | nil => simp [barS, List.isPrefixOf]
      | cons d q =>
        have hd : ¬ d = 124 := fun e => h (by simp [e])
        have hd' : ¬ (124 : UInt8) = d := fun e => hd e.symm
        simp [barS, List.isPrefixOf, hd']
    rw [List.cons_append, Lib.index, hp, ih]
    have : ((p.length : Int) == -1) = false := by simp
    rw [this]
    simp
theorem index_nobar : ∀ l : List UInt8, (124 : UInt8) ∉ l → Lib.index l barS = -1
  | [], _ => by simp [Lib.index, barS]
  | c :: r, h => by
    have ih := index_nobar r (fun e => h (List.mem_cons_of_mem _ e))
    have hp : barS.isPrefixOf (c :: r) = false := by
      cases r with
      | nil => simp [barS, List.isPrefixOf]
      | cons d q =>
        have hd' : ¬ (124 : UInt8) = d := fun e => h (by simp [e])
        simp [barS, List.isPrefixOf, hd']
    rw [Lib.index, hp, ih]
    rfl
theorem cut_bar (p r : List UInt8) (h : (124 : UInt8) ∉ p) : Lib.cut (p ++ 32 :: 124 :: 32 :: r) barS = (p, r, true) := by
  unfold Lib.cut
  rw [index_bar p r h, if_pos (by omega)]
  have e : p ++ 32 :: 124 :: 32 :: r = (p ++ [32, 124, 32]) ++ r := by simp
  simp [barS, List.drop_append]
theorem cut_nobar (l : List UInt8) (h : (124 : UInt8) ∉ l) : Lib.cut l barS = (l, [], false) := by
  unfold Lib.cut
  rw [index_nobar l h, if_neg (by omega)]
def tailT : List Pt → List UInt8
  | [] => []
  | p :: r => 32 :: 124 :: 32 :: (prt p ++ tailT r)
theorem tail_len : ∀ ps : List Pt, ps.length ≤ (tailT ps).length
  | [] => Nat.le_refl _
  | p :: r => by
    have := tail_len r
    simp only [tailT, List.length_cons, List.length_append]
    omega
theorem cuts_tail : ∀ (ps : List Pt) (h : List UInt8) (n : Nat), (124 : UInt8) ∉ h → (∀ p ∈ ps, chk p = 0) → ps.length ≤ n → cutsF n (h ++ tailT ps) = h :: ps.map prt
  | [], h, n, hh, _, _ => by
    cases n with
    | zero => simp [cutsF, tailT]
    | succ n => simp [cutsF, tailT, cut_nobar h hh]
  | p :: r, h, n, hh, hp, hn => by
    cases n with
    | zero => simp at hn
    | succ n =>
      have ih := cuts_tail r (prt p) n (prt_bar (may_of (hp p (by simp)))) (fun q hq => hp q (List.mem_cons_of_mem _ hq)) (by simpa using hn)
      simp only [cutsF, tailT, cut_bar h (prt p ++ tailT r) hh, if_true, ih, List.map_cons]
theorem join_snoc2 (x y : List UInt8) : ∀ l : List (List UInt8), l ≠ [] → Lib.join (l ++ [x, y]) [32] = Lib.join l [32] ++ 32 :: (x ++ 32 :: y)
  | [], h => absurd rfl h
  | [z], _ => by simp [Lib.join, List.intercalate]
  | z :: u :: r, _ => by
    have ih := join_snoc2 x y (u :: r) (by simp)
    rw [List.cons_append] at ih
    rw [List.cons_append, List.cons_append, join_cons2, ih, join_cons2]
    simp
theorem join_parts : ∀ (ps : List Pt) (l : List (List UInt8)), l ≠ [] → Lib.join (l ++ partsW ps) [32] = Lib.join l [32] ++ tailT ps
  | [], l, _ => by simp [partsW, tailT]
  | p :: r, l, hl => by
    have ih := join_parts r (l ++ [[124], prt p]) (by simp)
    have e : l ++ partsW (p :: r) = (l ++ [[124], prt p]) ++ partsW r := by simp [partsW]
    rw [e, ih, join_snoc2 _ _ _ hl]
    simp [tailT]
theorem cprt_is (c : Cd) : cprt c = Lib.join (cheads c) [32] ++ tailT c.ps := join_parts _ _ (by simp [cheads])
theorem kind_back {i : Int} (h : 1 ≤ i ∧ i ≤ 3) : ((idx kindW (at1 kindW i) : Nat) : Int) = i ∧ (32 : UInt8) ∉ at1 kindW i ∧ (124 : UInt8) ∉ at1 kindW i ∧ (at1 kindW i).length ≤ 5 := by
  rcases (show i = 1 ∨ i = 2 ∨ i = 3 by omega) with rfl | rfl | rfl <;> decide
/-- The words ahead of the parts: neither a blank nor a bar in any. -/
theorem heads_facts {c : Cd} (M : CMay c) : ∀ w ∈ cheads c, (32 : UInt8) ∉ w ∧ (124 : UInt8) ∉ w := by
  intro w hw
  have hd : ∀ k : Fin 100, (32 : UInt8) ∉ dgl k := fun k => (dgl_facts k).2.2.1
  simp only [cheads, List.mem_append, List.mem_cons, List.not_mem_nil, or_false] at hw
  rcases hw with (rfl | rfl | rfl | rfl) | hw | hw | hw
  · exact ⟨(name_facts M.nm).1, name_bar M.nm⟩
  · exact ⟨(suit_back M.su).2.1, suit_bar M.su⟩
  · exact ⟨(kind_back M.kd).2.1, (kind_back M.kd).2.2.1⟩
  · obtain ⟨k, e, -⟩ := itoa_nat (n := c.co) (by have := M.co; omega)
    rw [e]
    exact ⟨hd k, (dgl_more k).1⟩
  · unfold forceW at hw
    split at hw
    · simp only [List.mem_cons, List.not_mem_nil, or_false] at hw
      subst hw
      obtain ⟨k, e, -⟩ := itoa_nat M.po
      obtain ⟨j, f, -⟩ := itoa_nat M.he
      rw [e, f]
      constructor
      · intro h
        rcases List.mem_append.1 h with h | h
        · exact hd k h
        · rcases List.mem_cons.1 h with h | h
          · exact absurd h (by decide)
          · exact hd j h
      · intro h
        rcases List.mem_append.1 h with h | h
        · exact (dgl_more k).1 h
        · rcases List.mem_cons.1 h with h | h
          · exact absurd h (by decide)
          · exact (dgl_more j).1 h
    · simp at hw
  · unfold tokenW at hw
    split at hw
    · simp only [List.mem_cons, List.not_mem_nil, or_false] at hw
      subst hw
      decide
    · simp at hw
  · simp only [traitsW, List.mem_map] at hw
    obtain ⟨t, ht, rfl⟩ := hw
    have hb := list_mem ht
    constructor
    · intro h
      rcases List.mem_cons.1 h with h | h
      · exact absurd h (by decide)
      · exact (trait_back hb).2.1 h
    · intro h
      rcases List.mem_cons.1 h with h | h
      · exact absurd h (by decide)
      · exact trait_bar hb h
theorem head_bar {c : Cd} (M : CMay c) : (124 : UInt8) ∉ Lib.join (cheads c) [32] := by
  intro h
  rcases join_mem h with h | ⟨w, hw, h⟩
  · exact absurd h (by decide)
  · exact (heads_facts M w hw).2 h
theorem cuts_prt {c : Cd} (M : CMay c) : cuts (cprt c) = Lib.join (cheads c) [32] :: c.ps.map prt := by
  unfold cuts
  rw [cprt_is]
  refine cuts_tail _ _ _ (head_bar M) M.ps ?_
  have := tail_len c.ps
  rw [List.length_append]
  omega
theorem pieces_heads {c : Cd} (M : CMay c) : pieces (Lib.join (cheads c) [32]) = cheads c := pieces_join _ (by simp [cheads]) (fun w hw => (heads_facts M w hw).1)

/-- Where a sign stands for the first time. -/
theorem index_sl : ∀ (p r : List UInt8), (47 : UInt8) ∉ p → Lib.index (p ++ 47 :: r) [47] = p.length
  | [], r, _ => by simp [Lib.index, List.isPrefixOf]
  | c :: p, r, h => by
    have ih := index_sl p r (fun e => h (List.mem_cons_of_mem _ e))
    have hc : ¬ (47 : UInt8) = c := fun e => h (by simp [e])
    rw [List.cons_append, Lib.index, ih]
    have : ((p.length : Int) == -1) = false := by simp
    simp [List.isPrefixOf, hc, this]
theorem cut_sl (p r : List UInt8) (h : (47 : UInt8) ∉ p) : Lib.cut (p ++ 47 :: r) [47] = (p, r, true) := by
  unfold Lib.cut
  rw [index_sl p r h, if_pos (by omega)]
  simp [List.drop_append]
theorem far1_force {a b : Int} (ha : 0 ≤ a ∧ a ≤ 99) (hb : 0 ≤ b ∧ b ≤ 99) (c : Cd) : far1 (Lib.itoa a ++ 47 :: Lib.itoa b) c = some { c with po := a, he := b } := by
  have fa := (itoa_facts (n := a) (by omega)).1
  have fb := (itoa_facts (n := b) (by omega)).1
  obtain ⟨k, e, -⟩ := itoa_nat ha
  have hk := dgl_more k
  have hc : Lib.cut (Lib.itoa a ++ 47 :: Lib.itoa b) [47] = (Lib.itoa a, Lib.itoa b, true) := cut_sl _ _ (by rw [e]; exact hk.2.1)
  obtain ⟨x, l, hx⟩ : ∃ x l, dgl k = x :: l := by
    cases h : dgl k with
    | nil => exact absurd h hk.2.2.2.2
    | cons x l => exact ⟨x, l, rfl⟩
  have h1 : ¬ Lib.itoa a ++ 47 :: Lib.itoa b = tokW := by
    rw [e, hx]
    intro h
    have := (List.cons.inj h).1
    exact hk.2.2.2.1 (by rw [hx, this]; simp)
  have h2 : Lib.hasPrefix (Lib.itoa a ++ 47 :: Lib.itoa b) [43] = false := by
    have : ¬ (43 : UInt8) = x := fun h => hk.2.2.1 (by rw [hx, h]; simp)
    rw [e, hx]
    simp [Lib.hasPrefix, List.isPrefixOf, this]
  unfold far1
  rw [if_neg h1, h2, hc]
  simp only [fa, fb]
  rfl
theorem far1_tok (c : Cd) : far1 tokW c = some { c with tk := true } := by simp [far1]
theorem far1_trait {t : Int} (h : 1 ≤ t ∧ t ≤ 8) (c : Cd) : far1 (43 :: at1 traitW t) c = some { c with tr := tWith c.tr t } := by
  have hb := (trait_back h).1
  have h1 : ¬ (43 :: at1 traitW t : List UInt8) = tokW := by simp [tokW]
  have h2 : Lib.hasPrefix (43 :: at1 traitW t) [43] = true := by simp [Lib.hasPrefix, List.isPrefixOf]
  unfold far1
  rw [if_neg h1, if_pos h2]
  simp only [List.drop_succ_cons, List.drop_zero]
  rw [if_neg (by omega), hb]
theorem far_app : ∀ (l r : List (List UInt8)) (c d : Cd), far l c = some d → far (l ++ r) c = far r d
  | [], r, c, d, h => by
    obtain rfl := Option.some.inj h
    rfl
  | w :: l, r, c, d, h => by
    rw [List.cons_append]
    simp only [far] at h ⊢
    cases h1 : far1 w c with
    | none => rw [h1] at h; cases h
    | some e =>
      rw [h1] at h
      exact far_app l r e d h
theorem far_traits : ∀ (l : List Int) (c : Cd), (∀ t ∈ l, 1 ≤ t ∧ t ≤ 8) → far (l.map fun t => 43 :: at1 traitW t) c = some { c with tr := l.foldl tWith c.tr }
  | [], c, _ => rfl
  | t :: l, c, h => by
    simp only [List.map_cons, far, far1_trait (h t (by simp))]
    rw [far_traits l _ (fun u hu => h u (List.mem_cons_of_mem _ hu))]
    rfl
theorem bits_small {s : Int} (h0 : 0 ≤ s ∧ s ≤ 65535) (h : tCheck s = true) : s ≤ 255 := by
  rw [check_is s h0.1 (by omega)] at h
  have := of_decide_eq_true h
  omega
/-- Reading undoes telling. -/
theorem head_back {c : Cd} (W : c.wf) (M : CMay c) : readH (cheads c) = some { c with ps := [] } := by
  have a := (suit_back M.su).1
  have a0 : ¬ idx suitW (at1 suitW c.su) = 0 := by have := M.su; omega
  have b := (itoa_facts (n := c.co) (by have := M.co; omega)).1
  have k := (kind_back M.kd).1
  have hs := bits_small W.tr M.tr
  have ht : (tList c.tr).foldl tWith 0 = c.tr := by
    have := (list_back ⟨c.tr.toNat, by have := W.tr; omega⟩).1
    have e : ((c.tr.toNat : Nat) : Int) = c.tr := by have := W.tr; omega
    simpa only [e] using this
  simp only [cheads, List.cons_append, List.nil_append, readH, if_neg a0, a, b, k]
  have f1 : far (forceW c) { Cd.none with nm := ⟨c.nm.data.toList.toArray⟩, su := c.su, kd := c.kd, co := c.co } = some { Cd.none with nm := c.nm, su := c.su, kd := c.kd, co := c.co, po := c.po, he := c.he } := by
    unfold forceW
    split
    · simp only [far, far1_force M.po M.he]
    · rename_i hk
      have hf := M.fo
      unfold forceOk at hf
      rw [if_neg hk] at hf
      simp only [Bool.and_eq_true, decide_eq_true_eq] at hf
      simp [far, hf.1, hf.2, Cd.none]
  have f2 : far (tokenW c) { Cd.none with nm := c.nm, su := c.su, kd := c.kd, co := c.co, po := c.po, he := c.he } = some { Cd.none with nm := c.nm, su := c.su, kd := c.kd, co := c.co, po := c.po, he := c.he, tk := c.tk } := by
    unfold tokenW
    cases c.tk with
    | true => simp [far, far1_tok]
    | false => simp [far, Cd.none]
  rw [far_app _ _ _ _ f1, far_app _ _ _ _ f2]
  unfold traitsW
  rw [far_traits _ _ (fun t h => list_mem h)]
  simp only [Cd.none, ht]
theorem parts_back : ∀ (l : List Pt) (ps : List Pt), (∀ p ∈ l, chk p = 0) → readPs (l.map prt) ps = some (ps ++ l)
  | [], ps, _ => by simp [readPs]
  | p :: l, ps, h => by
    have hp := parse_prt (h p (by simp))
    simp only [List.map_cons, readPs, hp, if_true]
    rw [parts_back l _ (fun q hq => h q (List.mem_cons_of_mem _ hq))]
    simp
theorem cread_back {c : Cd} (W : c.wf) (h : cchk c = 0) : cread (cprt c) = some c := by
  have M := cmay_of h
  unfold cread
  rw [cuts_prt M]
  simp only
  rw [pieces_heads M, head_back W M]
  simp only
  rw [parts_back _ _ M.ps]
  simp
theorem cprt_inj {c d : Cd} (Wc : c.wf) (Wd : d.wf) (hc : cchk c = 0) (hd : cchk d = 0) (h : cprt c = cprt d) : c = d := by
  have a := cread_back Wc hc
  rw [h, cread_back Wd hd] at a
  exact (Option.some.inj a).symm
theorem tail_most : ∀ ps : List Pt, (∀ p ∈ ps, chk p = 0) → (tailT ps).length ≤ 83 * ps.length
  | [], _ => by simp [tailT]
  | p :: r, h => by
    have ih := tail_most r (fun q hq => h q (List.mem_cons_of_mem _ hq))
    have := prt_len (may_of (h p (by simp)))
    simp only [tailT, List.length_cons, List.length_append]
    omega
theorem sum_traits : ∀ l : List Int, (∀ t ∈ l, 1 ≤ t ∧ t ≤ 8) → ((l.map fun t => 43 :: at1 traitW t).map fun x => x.length + 1).sum ≤ 7 * l.length
  | [], _ => by simp
  | t :: l, h => by
    have ih := sum_traits l (fun q hq => h q (List.mem_cons_of_mem _ hq))
    have := (trait_back (h t (by simp))).2.2
    simp only [List.map_cons, List.sum_cons, List.length_cons]
    omega
/-- No text of a card that may be has more than 512 bytes. -/
theorem cprt_len {c : Cd} (M : CMay c) : (cprt c).length ≤ 512 := by
  have t := tail_most c.ps M.ps
  have hl := M.len
  have j := join_len [32] (cheads c)
  have n := (name_facts M.nm).2
  have s := (suit_back M.su).2.2
  have k := (kind_back M.kd).2.2.2
  have co := (itoa_facts (n := c.co) (by have := M.co; omega)).2.2.1
  have po := (itoa_facts (n := c.po) (by have := M.po; omega)).2.2.1
  have he := (itoa_facts (n := c.he) (by have := M.he; omega)).2.2.1
  have ts := sum_traits (tList c.tr) (fun t h => list_mem h)
  have tl : (tList c.tr).length ≤ 8 := upto_len _ 8
  have f : ((forceW c).map fun x => x.length + 1).sum ≤ 8 := by
    unfold forceW
    split
    · simp only [List.map_cons, List.map_nil, List.sum_cons, List.sum_nil, List.length_append, List.length_cons]
      omega
    · simp
  have g : ((tokenW c).map fun x => x.length + 1).sum ≤ 6 := by
    unfold tokenW
    split
    · decide
    · simp
  rw [cprt_is, List.length_append]
  have e : ((cheads c).map fun x => x.length + ([32] : List UInt8).length).sum = (c.nm.data.toList.length + 1) + (((at1 suitW c.su).length + 1) + (((at1 kindW c.kd).length + 1) + ((Lib.itoa c.co).length + 1))) + (((forceW c).map fun x => x.length + 1).sum + (((tokenW c).map fun x => x.length + 1).sum + ((traitsW c).map fun x => x.length + 1).sum)) := by
    simp only [cheads, List.map_append, List.sum_append, List.map_cons, List.map_nil, List.sum_cons, List.sum_nil, List.length_cons, List.length_nil, Nat.zero_add, Nat.add_zero, Nat.add_assoc]
  rw [e] at j
  unfold traitsW at j
  omega
theorem cparse_prt {c : Cd} (W : c.wf) (h : cchk c = 0) : cparse (cprt c) = (c, 0) := by
  unfold cparse
  rw [if_neg (by have := cprt_len (cmay_of h); omega), cread_back W h]
  exact if_pos ⟨h, rfl⟩
theorem cparse_yes {s : List UInt8} (h : (cparse s).2 = 0) : cchk (cparse s).1 = 0 ∧ cprt (cparse s).1 = s := by
  unfold cparse at h ⊢
  split at h
  · simp at h
  · rename_i hl
    rw [if_neg hl]
    cases hr : cread s with
    | none => rw [hr] at h; simp at h
    | some q =>
      rw [hr] at h
      simp only at h ⊢
      split at h
      · rename_i hc
        rw [if_pos hc]
        exact hc
      · simp at h
theorem cparse_no {s : List UInt8} (h : ¬ (cparse s).2 = 0) : (cparse s).1 = Cd.none := by
  unfold cparse at h ⊢
  split
  · rfl
  · rename_i hl
    rw [if_neg hl] at h
    cases hr : cread s with
    | none => rfl
    | some q =>
      rw [hr] at h
      simp only at h ⊢
      split
      · rename_i hc
        rw [if_pos hc] at h
        exact absurd rfl h
      · rfl
end Go.Proofs.YtpceelbphpfciaaGreatDoor
