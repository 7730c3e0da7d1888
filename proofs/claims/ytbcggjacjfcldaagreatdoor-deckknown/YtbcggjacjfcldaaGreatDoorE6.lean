/-
  The document's own book: a card laid at its place, plainly.
  Sets of traits as bits: which numbers are sets.
-/
import Derived.Test.YtbcggjacjfcldaaGreatDoorE5
import Derived.Test.YtbcggjacjfcldaaGreatDoorD0
namespace Go.Proofs.YtbcggjacjfcldaaGreatDoor
open Go.RowKit

/-- None of these stands behind the card. -/
def NoA (fs : List Ent) (h : Hd) (m : Nat) : Prop := ∀ (j : Nat) e, j < m → fs[j]? = some e → ¬ ord h e.h < 0
theorem NoA.next {fs : List Ent} {h : Hd} {m : Nat} {e : Ent} (k : NoA fs h m) (he : fs[m]? = some e) (hn : ¬ ord h e.h < 0) : NoA fs h (m + 1) := fun j x hj hx => by
  rcases (show j < m ∨ j = m from by omega) with h1 | rfl
  · exact k j x h1 hx
  · rw [he] at hx
    obtain rfl := Option.some.inj hx
    exact hn
theorem rk_is : ∀ (fs : List Ent) (h : Hd) (m : Nat), m ≤ fs.length → (∀ x ∈ fs, ¬ x.h.nm = h.nm) → NoA fs h m → (∀ e, fs[m]? = some e → ord h e.h < 0) → rk fs h = m
  | [], h, m, hm, _, _, _ => by simp at hm; subst hm; rfl
  | x :: r, h, 0, _, _, _, hl => by
    have h1 := (ord_lt _ _).1 (hl x rfl)
    have h2 : ¬ ord x.h h < 0 := fun k => Ahd.irrefl _ (h1.trans ((ord_lt _ _).1 k))
    simp only [rk]
    rw [if_neg h2]
  | x :: r, h, m + 1, hm, hu, hn, hl => by
    have h1 : ¬ Ahd h x.h := fun k => hn 0 x (Nat.succ_pos _) rfl ((ord_lt _ _).2 k)
    have h2 : Ahd x.h h := (Ahd.tri (hu x (by simp))).resolve_right h1
    have ih := rk_is r h m (by simpa using hm) (fun y hy => hu y (List.mem_cons_of_mem _ hy)) (fun j e hj he => hn (j + 1) e (by omega) (by simpa using he)) (fun e he => hl e (by simpa using he))
    simp only [rk]
    rw [if_pos ((ord_lt _ _).2 h2), ih]
/-- The list as it is built. -/
def St (fs : List Ent) (h : Hd) (ps : List Pt) (gs : List Ent) (i : Nat) (pb : Bool) : Prop := (pb = false ∧ gs = fs.take i ∧ NoA fs h i) ∨ (pb = true ∧ ∃ u m, m < i ∧ gs = fs.take m ++ (⟨h, u, ps⟩ : Ent) :: (fs.take i).drop m ∧ NoA fs h m ∧ ∀ e, fs[m]? = some e → ord h e.h < 0)
theorem St.len {fs : List Ent} {h : Hd} {ps : List Pt} {gs : List Ent} {i : Nat} {pb : Bool} (s : St fs h ps gs i pb) : gs.length ≤ i + 1 := by
  rcases s with ⟨_, rfl, _⟩ | ⟨_, u, m, hm, rfl, _⟩
  · rw [List.length_take]; omega
  · rw [List.length_append, List.length_cons, List.length_take, List.length_drop, List.length_take]; omega
theorem take_one {fs : List Ent} {i : Nat} {e : Ent} (he : fs[i]? = some e) : fs.take (i + 1) = fs.take i ++ [e] := by
  rw [List.take_add_one, he]
  rfl
theorem St.old {fs : List Ent} {h : Hd} {ps : List Pt} {gs : List Ent} {i : Nat} {e : Ent} (s : St fs h ps gs i false) (he : fs[i]? = some e) (hn : ¬ ord h e.h < 0) : St fs h ps (gs ++ [e]) (i + 1) false := by
  rcases s with ⟨_, rfl, k⟩ | ⟨c, _⟩
  · exact Or.inl ⟨rfl, (take_one he).symm, k.next he hn⟩
  · cases c
theorem St.put {fs : List Ent} {h : Hd} {ps : List Pt} {gs : List Ent} {i : Nat} {e : Ent} (s : St fs h ps gs i false) (he : fs[i]? = some e) (hn : ord h e.h < 0) (u : Value) : St fs h ps ((gs ++ [(⟨h, u, ps⟩ : Ent)]) ++ [e]) (i + 1) true := by
  rcases s with ⟨_, rfl, k⟩ | ⟨c, _⟩
  · have hl := (List.getElem?_eq_some_iff.1 he).1
    refine Or.inr ⟨rfl, u, i, by omega, ?_, k, fun x hx => by rw [he] at hx; obtain rfl := Option.some.inj hx; exact hn⟩
    rw [take_one he, List.drop_append_of_le_length (by rw [List.length_take]; omega), List.drop_eq_nil_of_le (by rw [List.length_take]; omega)]
    simp
  · cases c
theorem St.on {fs : List Ent} {h : Hd} {ps : List Pt} {gs : List Ent} {i : Nat} {e : Ent} (s : St fs h ps gs i true) (he : fs[i]? = some e) : St fs h ps (gs ++ [e]) (i + 1) true := by
  rcases s with ⟨c, _⟩ | ⟨_, u, m, hm, rfl, k, l⟩
  · cases c
  · have hl := (List.getElem?_eq_some_iff.1 he).1
    refine Or.inr ⟨rfl, u, m, by omega, ?_, k, l⟩
    rw [take_one he, List.drop_append_of_le_length (by rw [List.length_take]; omega)]
    simp
theorem St.endT {fs : List Ent} {h : Hd} {ps : List Pt} {gs : List Ent} (s : St fs h ps gs fs.length true) (hu : ∀ x ∈ fs, ¬ x.h.nm = h.nm) : ∃ u, gs = ins fs ⟨h, u, ps⟩ := by
  rcases s with ⟨c, _⟩ | ⟨_, u, m, hm, rfl, k, l⟩
  · cases c
  · refine ⟨u, ?_⟩
    unfold ins
    rw [show rk fs (⟨h, u, ps⟩ : Ent).h = m from rk_is fs h m (by omega) hu k l, List.take_length]
theorem St.endF {fs : List Ent} {h : Hd} {ps : List Pt} {gs : List Ent} (s : St fs h ps gs fs.length false) (hu : ∀ x ∈ fs, ¬ x.h.nm = h.nm) (u : Value) : gs ++ [(⟨h, u, ps⟩ : Ent)] = ins fs ⟨h, u, ps⟩ := by
  rcases s with ⟨_, rfl, k⟩ | ⟨c, _⟩
  · unfold ins
    rw [show rk fs (⟨h, u, ps⟩ : Ent).h = fs.length from rk_is fs h fs.length (Nat.le_refl _) hu k (fun e he => by simp at he), List.drop_length]
  · cases c
/-- One card more, that lay there before. -/
theorem good_old {wr w7 : World} {v v' : Value} {base : Nat} {gs : List Ent} {e : Ent} {ok : Nat → Prop} (hG : Good (fun k => ok k ∧ some k ≠ v.ownBlock) wr gs) (hO : wr.ownsRow base 55 9 v gs.length (ecells gs)) (hE : PsOk (fun k => ok k ∧ k < base) wr e.v e.ps) (hb : base ≤ wr.heap.size) (g7 : (wr.alloc (.cells (ccs e.h e.v) 55)).grownBy w7 v.ownBlock) (hv : v'.ownBlock = v.ownBlock ∨ v'.ownBlock = some (wr.alloc (.cells (ccs e.h e.v) 55)).heap.size) : Good (fun k => ok k ∧ some k ≠ v'.ownBlock) w7 (gs ++ [e]) := by
  have sz3 : wr.heap.size < (wr.alloc (.cells (ccs e.h e.v) 55)).heap.size := by simp
  have key : ∀ k, some k ≠ v.ownBlock → k < wr.heap.size → some k ≠ v'.ownBlock := fun k h2 h3 => by
    rcases hv with e | e
    · rw [e]; exact h2
    · rw [e]
      intro e'
      injection e' with e'
      omega
  intro x hx
  rcases List.mem_append.1 hx with hx | hx
  · have h1 := ((hG x hx).old).keep (World.grownBy_alloc wr (.cells (ccs e.h e.v) 55) none)
    have h2 := h1.keepR g7 (fun k hk => hk.1.2)
    exact h2.mono fun k hk => ⟨hk.1.1, key k hk.1.2 (by omega)⟩
  · obtain rfl : x = e := by simpa using hx
    have h1 := hE.keep (World.grownBy_alloc wr (.cells (ccs x.h x.v) 55) none)
    have ne : ∀ k, k < base → some k ≠ v.ownBlock := fun k hk e' => by
      have := (World.ownsRow.lt hO k e'.symm).1
      omega
    have h2 := h1.keepR g7 (fun k hk => ne k hk.2)
    exact h2.mono fun k hk => ⟨hk.1, key k (ne k hk.2) (by omega)⟩
end Go.Proofs.YtbcggjacjfcldaaGreatDoor
namespace Go.Proofs.YtbcggjacjfcldaaGreatDoor
open Go.RowKit

def bv (s : Int) : BitVec 16 := BitVec.ofInt 16 s
theorem wrap_bv (x : BitVec 16) : IntKind.u16.wrap (x.toNat : Int) = (x.toNat : Int) := by
  have := x.isLt
  rw [IntKind.wrap_u16]
  omega
theorem bv_nat (x : BitVec 16) : bv (x.toNat : Int) = x := by
  unfold bv
  rw [BitVec.ofInt_natCast, BitVec.ofNat_toNat, BitVec.setWidth_eq]
theorem bits_andNot (a b : Int) : bits .andNot .u16 a b = ((bv a &&& ~~~bv b).toNat : Int) := by
  show IntKind.u16.wrap ((BitVec.ofInt 16 a &&& ~~~BitVec.ofInt 16 b).toNat : Int) = _
  rw [wrap_bv]; rfl
theorem bits_or (a b : Int) : bits .or .u16 a b = ((bv a ||| bv b).toNat : Int) := by
  show IntKind.u16.wrap ((BitVec.ofInt 16 a ||| BitVec.ofInt 16 b).toNat : Int) = _
  rw [wrap_bv]; rfl
theorem check_bv (s : Int) : tCheck s = (bv s &&& ~~~255#16 == 0#16) := by
  unfold tCheck; rw [bits_andNot]
  have e : bv 255 = 255#16 := by decide
  rw [e]
  by_cases h : bv s &&& ~~~255#16 = 0#16
  · rw [h]; rfl
  · have hn : ¬ (bv s &&& ~~~255#16).toNat = 0 := fun e => h (BitVec.eq_of_toNat_eq (by rw [e]; rfl))
    have h1 : ¬ ((bv s &&& ~~~255#16).toNat : Int) = 0 := by omega
    rw [beq_eq_false_iff_ne.2 h1, beq_eq_false_iff_ne.2 h]
theorem bv_part (x m : BitVec 16) : (x &&& ~~~m = 0#16) ↔ (x &&& m = x) := by
  constructor
  · intro h
    apply BitVec.eq_of_getLsbD_eq
    intro i hi
    have hb : (x &&& ~~~m).getLsbD i = false := by rw [h, BitVec.getLsbD_zero]
    rw [BitVec.getLsbD_and, BitVec.getLsbD_not] at hb
    rw [BitVec.getLsbD_and]
    revert hb
    cases x.getLsbD i <;> cases m.getLsbD i <;> simp [hi]
  · intro h
    apply BitVec.eq_of_getLsbD_eq
    intro i hi
    have hb : (x &&& m).getLsbD i = x.getLsbD i := by rw [h]
    rw [BitVec.getLsbD_and] at hb
    rw [BitVec.getLsbD_and, BitVec.getLsbD_not, BitVec.getLsbD_zero]
    revert hb
    cases x.getLsbD i <;> cases m.getLsbD i <;> simp
theorem check_is (s : Int) (h0 : 0 ≤ s) (h1 : s < 65536) : tCheck s = decide (s < 256) := by
  obtain ⟨n, rfl⟩ := Int.eq_ofNat_of_zero_le h0
  rw [check_bv]
  have hn : (bv (n : Int)).toNat = n := by
    unfold bv
    rw [BitVec.ofInt_natCast, BitVec.toNat_ofNat]
    omega
  have hm : (bv (n : Int) &&& 255#16).toNat = n % 256 := by
    rw [BitVec.toNat_and, hn]
    exact Nat.and_two_pow_sub_one_eq_mod n 8
  by_cases h : n < 256
  · have e : bv (n : Int) &&& ~~~255#16 = 0#16 := (bv_part _ _).2 (BitVec.eq_of_toNat_eq (by rw [hm, hn]; omega))
    have h' : (n : Int) < 256 := by omega
    rw [e, decide_eq_true h']
    rfl
  · have e : ¬ bv (n : Int) &&& ~~~255#16 = 0#16 := fun e => by
      have := congrArg BitVec.toNat ((bv_part _ _).1 e)
      rw [hm, hn] at this
      omega
    have h' : ¬ (n : Int) < 256 := by omega
    rw [decide_eq_false h', beq_eq_false_iff_ne.2 e]
end Go.Proofs.YtbcggjacjfcldaaGreatDoor
