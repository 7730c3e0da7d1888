/-
  slices.EqualFunc over two rows of cards; Same.
-/
import Derived.Test.YtpoicbefemjckaaB12
import Derived.Test.YtpoicbefemjckaaPlain
import Derived.Deep.MidRow
namespace Go.Proofs.Ytpoicbefemjckaa
open Go.RowKit

def sameE (a b : Ent) : Bool := sameHd a.h b.h && samePs a.ps b.ps
def sameEs : List Ent → List Ent → Bool
  | [], [] => true
  | a :: r, b :: s => sameE a b && sameEs r s
  | _, _ => false
theorem sameEs_len : ∀ {a b : List Ent}, ¬ a.length = b.length → sameEs a b = false
  | [], [], h => by simp at h
  | [], _ :: _, _ => rfl
  | _ :: _, [], _ => rfl
  | a :: r, b :: s, h => by
    simp only [sameEs, sameEs_len (a := r) (b := s) (by simpa using h), Bool.and_false]
theorem sameEs_drop {a b : List Ent} {k : Nat} {x y : Ent} (ha : a[k]? = some x) (hb : b[k]? = some y) : sameEs (a.drop k) (b.drop k) = (sameE x y && sameEs (a.drop (k + 1)) (b.drop (k + 1))) := by
  rw [List.drop_eq_getElem_cons (List.getElem?_eq_some_iff.1 ha).1, (List.getElem?_eq_some_iff.1 ha).2, List.drop_eq_getElem_cons (List.getElem?_eq_some_iff.1 hb).1, (List.getElem?_eq_some_iff.1 hb).2]
  rfl
def EqTo (es fs : List Ent) (k : Nat) (r : Bool) : Prop := sameEs (es.drop k) (fs.drop k) = r
theorem BkJ.range {w : World} {b : Nat} {es : List Ent} {junk : List Value} {p : Pl} (h : BkJ w b es junk p) : w.rangeAt b 576 (plc es.length p) := fun j v hv => by
  rw [h.tail, hv]
def TwoS (w0 : World) (b c : Nat) (es fs : List Ent) (p q : Pl) (j1 j2 : List Value) (w : World) : Prop := BkJ w b es j1 p ∧ BkJ w c fs j2 q ∧ w0.grownBy w none
theorem TwoS.keep {w0 w w' : World} {b c : Nat} {es fs : List Ent} {p q : Pl} {j1 j2 : List Value} (h : TwoS w0 b c es fs p q j1 j2 w) (g : w.grownBy w' none) : TwoS w0 b c es fs p q j1 j2 w' := ⟨h.1.keep g, h.2.1.keep g, grown_trans h.2.2 g⟩
theorem Flags.keep {w w' : World} {b n : Nat} {p : Pl} (h : Flags w b n p) (g : w.grownBy w' none) : Flags w' b n p := ⟨g.cell h.made (by simp), g.cell h.shut (by simp), g.cell h.count (by simp)⟩
theorem NoBk.form {w : World} {v : Value} (h : NoBk w v) : ∃ a, v = .pointer a := by
  rcases h with rfl | ⟨b, rfl, _⟩
  · exact ⟨_, rfl⟩
  · exact ⟨_, rfl⟩
end Go.Proofs.Ytpoicbefemjckaa
