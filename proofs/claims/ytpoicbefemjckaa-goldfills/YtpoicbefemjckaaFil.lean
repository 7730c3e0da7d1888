/-
  What has been added (plain), and the list of what is done; Pick.
-/
import Derived.Test.YtpoicbefemjckaaOne
namespace Go.Proofs.Ytpoicbefemjckaa
open Go.RowKit

def many (cs : List Ent) (ts : List ByteArray) (ms : List Mk) : Nat := cs.length + ts.length + ms.length
/-- l: what was added, the last first; es, p: the book; r: how many were refused. -/
def Fil (cs : List Ent) (ts : List ByteArray) (ms : List Mk) : List Nat → List Ent → Pl → Nat → Prop
  | [], es, p, r => es = [] ∧ p = plNew ∧ r = 0
  | i :: l, es, p, r => ∃ (es0 : List Ent) (p0 : Pl) (r0 : Nat) (u : Value), Fil cs ts ms l es0 p0 r0 ∧ ¬ i ∈ l ∧ i < many cs ts ms ∧ es = oneEs p0 es0 cs u i ∧ p = oneP p0 cs ts ms i ∧ r = r0 + if oneE p0 es0 cs ts ms i = 0 then 0 else 1
theorem Fil.nil {cs : List Ent} {ts : List ByteArray} {ms : List Mk} : Fil cs ts ms [] [] plNew 0 := ⟨rfl, rfl, rfl⟩
theorem Fil.step {cs : List Ent} {ts : List ByteArray} {ms : List Mk} {l : List Nat} {es : List Ent} {p : Pl} {r : Nat} (i : Nat) (u : Value) (h : Fil cs ts ms l es p r) (hi : ¬ i ∈ l) (hm : i < many cs ts ms) : Fil cs ts ms (i :: l) (oneEs p es cs u i) (oneP p cs ts ms i) (r + if oneE p es cs ts ms i = 0 then 0 else 1) := ⟨es, p, r, u, h, hi, hm, rfl, rfl, rfl⟩
/-- What holds of an empty book, and stays so at each step, holds. -/
theorem Fil.ind {cs : List Ent} {ts : List ByteArray} {ms : List Mk} {M : List Nat → List Ent → Pl → Nat → Prop} (h0 : M [] [] plNew 0) (hs : ∀ (l : List Nat) (es : List Ent) (p : Pl) (r i : Nat) (u : Value), Fil cs ts ms l es p r → ¬ i ∈ l → i < many cs ts ms → M l es p r → M (i :: l) (oneEs p es cs u i) (oneP p cs ts ms i) (r + if oneE p es cs ts ms i = 0 then 0 else 1)) : ∀ {l : List Nat} {es : List Ent} {p : Pl} {r : Nat}, Fil cs ts ms l es p r → M l es p r := by
  intro l
  induction l with
  | nil =>
    rintro es p r ⟨rfl, rfl, rfl⟩
    exact h0
  | cons i l ih =>
    rintro es p r ⟨es0, p0, r0, u, hf, hi, hm, rfl, rfl, rfl⟩
    exact hs l es0 p0 r0 i u hf hi hm (ih hf)
/-- The list of what is done. -/
def dn (n : Nat) (l : List Nat) : List Value := (List.range n).map fun i => .bool (decide (i ∈ l))
theorem dn_at {n i : Nat} (l : List Nat) (h : i < n) : (dn n l)[i]? = some (.bool (decide (i ∈ l))) := by simp [dn, h]
theorem dn_nil (n : Nat) : dn n [] = List.replicate n (.bool false) := by
  apply List.ext_getElem?
  intro i
  by_cases h : i < n
  · rw [dn_at _ h]; simp [h]
  · simp [dn, h]
theorem dn_set {n i : Nat} (l : List Nat) (h : i < n) : (dn n l).set i (.bool true) = dn n (i :: l) := by
  apply List.ext_getElem?
  intro j
  by_cases hj : j < n
  · rw [dn_at _ hj, List.getElem?_set]
    by_cases hij : i = j
    · subst hij
      rw [if_pos rfl, if_pos (by simp [dn, h])]
      simp
    · rw [if_neg hij, dn_at _ hj]
      have : (j ∈ i :: l) ↔ j ∈ l := by simp [Ne.symm hij]
      simp [this]
  · have h1 : (dn n (i :: l))[j]? = none := by simp [dn, hj]
    have h2 : ((dn n l).set i (.bool true))[j]? = none := by simp [dn, hj]
    rw [h1, h2]
/-- Where it lies: in a list of the call's own. -/
def DnAt (w : World) (base d n : Nat) (l : List Nat) : Prop := w.ownsRow base 4 1 (.slice (some ⟨d, 0, none⟩) n n) n (dn n l)
theorem DnAt.cell {w : World} {base d n i : Nat} {l : List Nat} (h : DnAt w base d n l) (hi : i < n) : w.cell? ⟨d, i, none⟩ = some (.bool (decide (i ∈ l))) := by
  rw [World.ownsRow.cellAt h i (by omega), dn_at l hi]
theorem DnAt.free {w : World} {base d n : Nat} {l : List Nat} (h : DnAt w base d n l) (i : Nat) : w.frozen? ⟨d, i, none⟩ = false := World.ownsRow.frozenAt h i
theorem DnAt.put {w : World} {base d n i : Nat} {l : List Nat} (h : DnAt w base d n l) (hi : i < n) : DnAt (w.setCell ⟨d, i, none⟩ (.bool true)) base d n (i :: l) ∧ w.grownBy (w.setCell ⟨d, i, none⟩ (.bool true)) (some d) := by
  have := World.ownsRow.stored h i (.bool true)
  rw [dn_set l hi] at this
  exact this
theorem DnAt.keepR {w w' : World} {base d n : Nat} {l : List Nat} {r : Option Nat} (h : DnAt w base d n l) (g : w.grownBy w' r) (hr : some d ≠ r) : DnAt w' base d n l := World.ownsRow.kept h g (Or.inr hr)
theorem DnAt.made {w : World} {base d n : Nat} (h : w.ownsRow base 4 1 (.slice (some ⟨d, 0, none⟩) n n) n (madeCells (Value.bool false).cells (n * 1)).toList) : DnAt w base d n [] := by
  unfold DnAt
  rw [dn_nil, ← toList_madeCells_one]
  rw [Nat.mul_one] at h
  exact h
set_option maxHeartbeats 1000000 in
theorem pick_any (k : Int) (n : Nat) (w : World) (hn : 0 < n) (hm : n ≤ 4294967296) : Calls Try.prog 20 #[.int .i64 k, .int .i64 n] w fun e w' => (∃ r : Nat, r < n ∧ e = .returned (.int .i64 r)) ∧ w' = w := by
  have h1 : ¬ ((n : Int) < 1) := by omega
  have h0 : ((n : Int) == 0) = false := by simpa using (show ¬ ((n : Int) = 0) by omega)
  have b1 : k.tmod n < n := Int.tmod_lt_of_pos k (by omega)
  have b2 : -(n : Int) < k.tmod n := by
    have h := Int.tmod_lt_of_pos (-k) (show (0 : Int) < n by omega)
    rw [Int.neg_tmod] at h
    omega
  go_enter Try.func20, Try.ntmps20
  go_wp2
  · go_ret
    exact ⟨⟨(k.tmod n + n).toNat, by omega, ret_int (Int.toNat_of_nonneg (by omega)).symm⟩, rfl⟩
  · go_ret
    exact ⟨⟨(k.tmod n).toNat, by omega, ret_int (Int.toNat_of_nonneg (by omega)).symm⟩, rfl⟩
end Go.Proofs.Ytpoicbefemjckaa
