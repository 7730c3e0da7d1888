/-
  card.Check of every card, and what it asks: isSuit, kindWord, within, forceFits, trait.Check, mayHave, checkParts.
-/
import Derived.Test.YtjjldjmcbmkkdaaCSame
import Derived.Test.YtjjldjmcbmkkdaaPure
namespace Go.Proofs.Ytjjldjmcbmkkdaa
open Go.RowKit

def sB (k : Int) : Bool := decide (1 ≤ k) && decide (k ≤ 6)
def wI (n m : Int) : Bool := decide (0 ≤ n) && decide (n ≤ m)
def kName (k : Int) : ByteArray := if k = 1 then ⟨#[117, 110, 105, 116]⟩ else if k = 2 then ⟨#[115, 112, 101, 108, 108]⟩ else if k = 3 then ⟨#[114, 101, 108, 105, 99]⟩ else ⟨#[]⟩
/-- A card out of its head and its parts, and back. -/
def Hd.with (h : Hd) (ps : List Pt) : Cd := ⟨h.nm, h.su, h.kd, h.co, h.po, h.he, h.tr, h.tk, ps⟩
def Cd.hd (c : Cd) : Hd := ⟨c.nm, c.su, c.kd, c.co, c.po, c.he, c.tr, c.tk⟩
theorem hd_with (h : Hd) (ps : List Pt) : (h.with ps).hd = h := rfl
def fOk (kd po he : Int) : Bool := if kd = 1 then he != 0 else (po == 0) && (he == 0)
theorem fOk_is (c : Cd) : forceOk c = fOk c.kd c.po c.he := by
  unfold forceOk fOk
  by_cases h : c.kd = 1
  · rw [if_pos h, if_pos h]
    by_cases k : c.he = 0 <;> simp [k]
  · rw [if_neg h, if_neg h]
    by_cases k : c.he = 0 <;> by_cases j : c.po = 0 <;> simp [k, j]
theorem chkPs_cons {kd : Int} {ps : List Pt} {k : Nat} {p : Pt} (h : ps[k]? = some p) : chkPs kd (ps.drop k) = if ¬ chk p = 0 then chk p else if mayH kd p.wn = false then 8 else chkPs kd (ps.drop (k + 1)) := by
  obtain ⟨hk, e⟩ := List.getElem?_eq_some_iff.1 h
  rw [List.drop_eq_getElem_cons hk, e]
  rfl
def ResIs (kd : Int) (ps : List Pt) (k : Nat) (r : Int) : Prop := chkPs kd (ps.drop k) = r
end Go.Proofs.Ytjjldjmcbmkkdaa
