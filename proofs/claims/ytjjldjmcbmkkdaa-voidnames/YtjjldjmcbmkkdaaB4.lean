/-
  Marks of a book: MarkOf, Mark.
-/
import Derived.Test.YtjjldjmcbmkkdaaB3
namespace Go.Proofs.Ytjjldjmcbmkkdaa
open Go.RowKit

def MAt (w : World) (g o : Nat) (ms : List Mk) : Prop := ∀ (j : Nat) m, ms[j]? = some m → M4 w g (o + j * 4) m
theorem MAt.keep {w w' : World} {g o : Nat} {ms : List Mk} (h : MAt w g o ms) (k : w.grownBy w' none) : MAt w' g o ms := fun j m hm => (h j m hm).keep k
def mnames (ms : List Mk) : List ByteArray := ms.map fun m => m.nm
theorem mnames_at {ms : List Mk} {k : Nat} {m : Mk} (h : ms[k]? = some m) : (mnames ms)[k]? = some m.nm := by simp [mnames, h]
theorem mcells_set : ∀ (ms : List Mk) (n : Nat) (m : Mk), n < ms.length → ((((mcells ms).set (n * 4) (.int .u8 m.mi)).set (n * 4 + 1) (.string m.nm)).set (n * 4 + 2) (.int .i64 m.po)).set (n * 4 + 3) (.int .i64 m.he) = mcells (ms.set n m)
  | [], n, m, h => by simp at h
  | q :: r, 0, m, h => by simp [mcells, mvs]
  | q :: r, n + 1, m, h => by
    have ih := mcells_set r n m (by simpa using h)
    rw [show (n + 1) * 4 = n * 4 + 1 + 1 + 1 + 1 by omega, show n * 4 + 1 + 1 + 1 + 1 + 1 = n * 4 + 1 + 1 + 1 + 1 + 1 by rfl, show n * 4 + 1 + 1 + 1 + 1 + 2 = n * 4 + 2 + 1 + 1 + 1 + 1 by omega, show n * 4 + 1 + 1 + 1 + 1 + 3 = n * 4 + 3 + 1 + 1 + 1 + 1 by omega]
    simp only [mcells, mvs, List.cons_append, List.nil_append, List.set_cons_succ]
    rw [ih]
theorem grown_drew' (w : World) (r : Option Nat) : w.grownBy w.drew r := ⟨rfl, rfl, rfl, Nat.le_refl _, fun _ _ _ => rfl⟩
def st4 (w : World) (b o : Nat) (m : Mk) : World := (((w.setCell ⟨b, o, none⟩ (.int .u8 m.mi)).setCell ⟨b, o + 1, none⟩ (.string m.nm)).setCell ⟨b, o + 2, none⟩ (.int .i64 m.po)).setCell ⟨b, o + 3, none⟩ (.int .i64 m.he)
theorem grown_st4 (w : World) (b o : Nat) (m : Mk) : w.grownBy (st4 w b o m) (some b) := (((grown_set _ b _ _).trans (grown_set _ b _ _)).trans (grown_set _ b _ _)).trans (grown_set _ b _ _)
/-- What MarkOf tells. -/
def moM (p : Pl) (t : Int) : Mk := if t < 5 then p.mks.getD t.toNat Mk.none else Mk.none
def moB (p : Pl) (t : Int) : Bool := !decide ((moM p t).nm = ⟨#[]⟩)
/-- What Mark tells. -/
def maE (p : Pl) (m : Mk) : Int := if p.shut = true then 7 else if m.mi < 1 ∨ 4 < m.mi ∨ fF m.po = false ∨ fF m.he = false then 2 else if nameOk m.nm.data.toList = false then 4 else if ¬ (p.mks.getD m.mi.toNat Mk.none).nm = ⟨#[]⟩ ∨ 0 ≤ pos (mnames p.mks) m.nm then 5 else 0
def maP (p : Pl) (m : Mk) : Pl := if maE p m = 0 then { p with mks := p.mks.set m.mi.toNat m } else p
end Go.Proofs.Ytjjldjmcbmkkdaa
