/-
  A book as the laws see it, and what each call makes of it; the document's examples (awake).
-/
import Derived.Test.YtjjldjmcbmkkdaaB13
namespace Go.Proofs.Ytjjldjmcbmkkdaa
open Go.RowKit

theorem plNew_fine : plNew.fine := ⟨rfl, rfl, fun s hs => by simp [plNew] at hs; rw [hs]; decide, fun m hm => by simp [plNew] at hm; rw [hm]; decide⟩
theorem names_mem {es : List Ent} {e : Ent} (h : e ∈ es) : e.h.nm ∈ names es := List.mem_map.2 ⟨e, h, rfl⟩
theorem trP_fine {p : Pl} (h : p.fine) (t : Int) (s : ByteArray) : (trP p t s).fine := by
  unfold trP
  by_cases h0 : trE p t s = 0
  · rw [if_pos h0]
    have hn : s.size ≤ 20 := by
      unfold trE at h0
      split at h0
      · omega
      · split at h0
        · omega
        · split at h0
          · omega
          · rename_i hz
            have hn : nameOk s.data.toList = true := by cases hq : nameOk s.data.toList with
              | true => rfl
              | false => exact absurd hq hz
            rw [Lib.size_eq]; exact (name_facts hn).2
    refine ⟨by simpa using h.nine, h.five, fun x hx => ?_, h.mks⟩
    rcases List.mem_or_eq_of_mem_set hx with hx | rfl
    · exact h.nms x hx
    · exact hn
  · rw [if_neg h0]; exact h
theorem maP_fine {p : Pl} (h : p.fine) (m : Mk) : (maP p m).fine := by
  unfold maP
  by_cases h0 : maE p m = 0
  · rw [if_pos h0]
    have hn : (0 ≤ m.mi ∧ m.mi ≤ 4 ∧ -9 ≤ m.po ∧ m.po ≤ 9 ∧ -9 ≤ m.he ∧ m.he ≤ 9) ∧ m.nm.size ≤ 20 := by
      unfold maE at h0
      split at h0
      · omega
      · split at h0
        · omega
        · rename_i hr
          split at h0
          · omega
          · rename_i hz
            have hn : nameOk m.nm.data.toList = true := by cases hq : nameOk m.nm.data.toList with
              | true => rfl
              | false => exact absurd hq hz
            have k1 : fF m.po = true := by cases hq : fF m.po with
              | true => rfl
              | false => exact absurd (Or.inr (Or.inr (Or.inl hq))) hr
            have k2 : fF m.he = true := by cases hq : fF m.he with
              | true => rfl
              | false => exact absurd (Or.inr (Or.inr (Or.inr hq))) hr
            simp only [fF, Bool.and_eq_true, decide_eq_true_eq] at k1 k2
            refine ⟨⟨by omega, by omega, k1.1, k1.2, k2.1, k2.2⟩, ?_⟩
            rw [Lib.size_eq]; exact (name_facts hn).2
    refine ⟨h.nine, by simpa using h.five, h.nms, fun x hx => ?_⟩
    rcases List.mem_or_eq_of_mem_set hx with hx | rfl
    · exact h.mks x hx
    · exact ⟨hn.1.1, hn.1.2.1, hn.1.2.2.1, hn.1.2.2.2.1, hn.1.2.2.2.2.1, hn.1.2.2.2.2.2, hn.2⟩
  · rw [if_neg h0]; exact h
theorem sealP_fine {p : Pl} (h : p.fine) (es : List Ent) : (sealP p es).fine := by
  unfold sealP
  split
  · exact ⟨h.nine, h.five, h.nms, h.mks⟩
  · exact h
/-- The cards of the examples. -/
def rockH : Hd := ⟨⟨#[114, 111, 99, 107]⟩, 2, 1, 1, 0, 3, 0, false⟩
def axeH : Hd := ⟨⟨#[97, 120, 101]⟩, 1, 3, 2, 0, 0, 0, false⟩
def axeP : Pt := ⟨3, 7, 1, 1, 0, 0, 0, ⟨#[114, 111, 99, 107]⟩⟩
/-- What holds of the examples' books. -/
theorem exA (u : Value) : ins [] ⟨axeH, u, [axeP]⟩ = [⟨axeH, u, [axeP]⟩] := rfl
theorem exAR (u v : Value) : ins [⟨axeH, u, [axeP]⟩] ⟨rockH, v, []⟩ = [⟨axeH, u, [axeP]⟩, ⟨rockH, v, []⟩] := by
  rw [ins_cons, if_pos (by show ord axeH rockH < 0; decide +kernel)]
  rfl
theorem ex1 : caE plNew [] (axeH.with [axeP]) = 0 := by decide +kernel
theorem ex2 (u : Value) : caE plNew [⟨axeH, u, [axeP]⟩] (rockH.with []) = 0 := by
  show (if plNew.shut = true then (7 : Int) else if ¬ cchk (rockH.with []) = 0 then cchk (rockH.with []) else if 0 ≤ pos [axeH.nm] rockH.nm then 5 else if (1 : Nat) = 64 then 14 else 0) = 0
  decide +kernel
theorem ex3 (u v : Value) : caE plNew [⟨axeH, u, [axeP]⟩, ⟨rockH, v, []⟩] (rockH.with []) = 5 := by
  show (if plNew.shut = true then (7 : Int) else if ¬ cchk (rockH.with []) = 0 then cchk (rockH.with []) else if 0 ≤ pos [axeH.nm, rockH.nm] rockH.nm then 5 else if (2 : Nat) = 64 then 14 else 0) = 5
  decide +kernel
theorem ex4 (u v : Value) : pos (names [⟨axeH, u, [axeP]⟩, ⟨rockH, v, []⟩]) ⟨#[97, 120, 101]⟩ = 0 := by
  show pos [axeH.nm, rockH.nm] ⟨#[97, 120, 101]⟩ = 0
  decide +kernel
theorem ex4r (u v : Value) : pos (names [⟨axeH, u, [axeP]⟩, ⟨rockH, v, []⟩]) ⟨#[114, 111, 99, 107]⟩ = 1 := by
  show pos [axeH.nm, rockH.nm] ⟨#[114, 111, 99, 107]⟩ = 1
  decide +kernel
theorem ex5 (u v : Value) : sealE plNew [⟨axeH, u, [axeP]⟩, ⟨rockH, v, []⟩] = 0 := by
  have c : callE [⟨axeH, u, [axeP]⟩, ⟨rockH, v, []⟩] axeP = 0 := by
    unfold callE
    rw [if_neg (by decide)]
    show (if pos (names [⟨axeH, u, [axeP]⟩, ⟨rockH, v, []⟩]) ⟨#[114, 111, 99, 107]⟩ < 0 then (6 : Int) else if kdAt [⟨axeH, u, [axeP]⟩, ⟨rockH, v, []⟩] (pos (names [⟨axeH, u, [axeP]⟩, ⟨rockH, v, []⟩]) ⟨#[114, 111, 99, 107]⟩).toNat = 2 then 8 else 0) = 0
    rw [ex4r]
    rfl
  unfold sealE
  rw [if_neg (by decide)]
  simp [sealL, callsE, c]
def plShut : Pl := { plNew with shut := true }
theorem ex6 (u v : Value) : sealP plNew [⟨axeH, u, [axeP]⟩, ⟨rockH, v, []⟩] = plShut := if_pos (ex5 u v)
theorem ex7 (es : List Ent) (c : Cd) : caE plShut es c = 7 := if_pos rfl
end Go.Proofs.Ytjjldjmcbmkkdaa
