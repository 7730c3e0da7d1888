/-
  Seal: a book is sealed, or refused.
-/
import Derived.Test.YtjjldjmcbmkkdaaB10
namespace Go.Proofs.Ytjjldjmcbmkkdaa
open Go.RowKit

def kdAt (es : List Ent) (n : Nat) : Int := match es[n]? with
  | some e => e.h.kd
  | none => 0
def callE (es : List Ent) (p : Pt) : Int := if ¬ p.vb = 7 then 0 else if pos (names es) p.nm < 0 then 6 else if kdAt es (pos (names es) p.nm).toNat = 2 then 8 else 0
def callsE (es : List Ent) : List Pt → Int
  | [] => 0
  | p :: r => if ¬ callE es p = 0 then callE es p else callsE es r
def sealL (es : List Ent) : List Ent → Int
  | [] => 0
  | e :: r => if ¬ callsE es e.ps = 0 then callsE es e.ps else sealL es r
def sealE (p : Pl) (es : List Ent) : Int := if p.shut = true then 7 else sealL es es
def sealP (p : Pl) (es : List Ent) : Pl := if sealE p es = 0 then { p with shut := true } else p
/-- What is left to be asked tells the answer. -/
def Left (es : List Ent) (k : Nat) (r : Int) : Prop := sealL es (es.drop k) = r
def LeftP (es : List Ent) (ps : List Pt) (j : Nat) (r : Int) : Prop := callsE es (ps.drop j) = r
theorem left_step {es : List Ent} {k : Nat} {e : Ent} {r : Int} (h : Left es k r) (he : es[k]? = some e) : (if ¬ callsE es e.ps = 0 then callsE es e.ps else sealL es (es.drop (k + 1))) = r := by
  unfold Left at h
  rw [List.drop_eq_getElem_cons (List.getElem?_eq_some_iff.1 he).1, (List.getElem?_eq_some_iff.1 he).2] at h
  exact h
theorem leftP_step {es : List Ent} {ps : List Pt} {j : Nat} {x : Pt} {r : Int} (h : LeftP es ps j r) (hx : ps[j]? = some x) : (if ¬ callE es x = 0 then callE es x else callsE es (ps.drop (j + 1))) = r := by
  unfold LeftP at h
  rw [List.drop_eq_getElem_cons (List.getElem?_eq_some_iff.1 hx).1, (List.getElem?_eq_some_iff.1 hx).2] at h
  exact h
end Go.Proofs.Ytjjldjmcbmkkdaa
