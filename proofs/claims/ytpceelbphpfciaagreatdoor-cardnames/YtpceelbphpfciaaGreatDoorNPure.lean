/-
  The chapter's examples of a card, as plain facts.
-/
import Derived.Test.YtpceelbphpfciaaGreatDoorCBack
namespace Go.Proofs.YtpceelbphpfciaaGreatDoor

def pB : Pt := ⟨3, 3, 1, 1, 0, 0, 0, ⟨#[]⟩⟩
def pS : Pt := ⟨4, 3, 1, 1, 0, 0, 0, ⟨#[]⟩⟩
def pG : Pt := ⟨4, 2, 1, 1, 0, 0, 0, ⟨#[]⟩⟩
def rk : ByteArray := ⟨#[114, 111, 99, 107]⟩
def nA : Hd := ⟨⟨#[82, 111, 99, 107]⟩, 0, 1, 11, 1, 1, 0, false⟩
def nB : Hd := ⟨⟨#[114, 111, 99, 107]⟩, 0, 1, 11, 1, 1, 0, false⟩
def nC : Hd := ⟨⟨#[114, 111, 99, 107]⟩, 2, 1, 11, 1, 0, 0, false⟩
def nD : Hd := ⟨⟨#[114, 111, 99, 107]⟩, 2, 1, 1, 1, 0, 0, false⟩
def nE : Hd := ⟨⟨#[114, 111, 99, 107]⟩, 2, 2, 1, 1, 0, 0, false⟩
def nF : Hd := ⟨⟨#[114, 111, 99, 107]⟩, 2, 2, 1, 0, 0, 0, true⟩
def nR : Hd := ⟨⟨#[114, 111, 99, 107]⟩, 2, 1, 1, 1, 1, 0, false⟩
def nL : Hd := ⟨⟨#[114, 111, 99, 107]⟩, 2, 2, 1, 0, 0, 0, false⟩
def nT : Hd := ⟨⟨#[114, 111, 99, 107]⟩, 2, 3, 1, 0, 0, 0, false⟩
def golem : Cd := ⟨⟨#[103, 111, 108, 101, 109]⟩, 2, 1, 5, 4, 5, 2, false, [pG]⟩
theorem chkA : cchk (nA.with []) = 4 := by decide +kernel
theorem chkB : cchk (nB.with []) = 8 := by decide +kernel
theorem chkC : cchk (nC.with []) = 2 := by decide +kernel
theorem chkD : cchk (nD.with []) = 8 := by decide +kernel
theorem chkE : cchk (nE.with []) = 8 := by decide +kernel
theorem chkF : cchk (nF.with []) = 8 := by decide +kernel
theorem chkG : cchk (nR.with [pB, pB, pB, pB, pB]) = 3 := by decide +kernel
theorem chkL : cchk (nL.with [pB]) = 8 := by decide +kernel
theorem chkT : cchk (nT.with [pB]) = 0 := by decide +kernel
theorem chk4 : cchk (nR.with [pB, pB, pB, pB]) = 0 := by decide +kernel
theorem chkS : cchk (nT.with [pS]) = 8 := by decide +kernel
theorem golem_chk : cchk golem = 0 := by decide +kernel
theorem golem_txt : cprt golem = [103, 111, 108, 101, 109, 32, 101, 97, 114, 116, 104, 32, 117, 110, 105, 116, 32, 53, 32, 52, 47, 53, 32, 43, 103, 117, 97, 114, 100, 32, 124, 32, 115, 116, 114, 117, 99, 107, 32, 109, 101, 110, 100, 32, 121, 111, 117, 32, 49] := by decide +kernel
theorem golem_back : cparse [103, 111, 108, 101, 109, 32, 101, 97, 114, 116, 104, 32, 117, 110, 105, 116, 32, 53, 32, 52, 47, 53, 32, 43, 103, 117, 97, 114, 100, 32, 124, 32, 115, 116, 114, 117, 99, 107, 32, 109, 101, 110, 100, 32, 121, 111, 117, 32, 49] = (golem, 0) := by
  rw [← golem_txt]
  exact cparse_prt (wf_of golem_chk ⟨by decide, by decide⟩) golem_chk
theorem no_of {s : List UInt8} (h : (cparse s).2 = 160) : cparse s = (Cd.none, 160) := Prod.ext (cparse_no (by rw [h]; decide)) h
theorem no0 : cparse [114, 111, 99, 107, 32, 101, 97, 114, 116, 104, 32, 117, 110, 105, 116, 32, 48, 49, 32, 49, 47, 49] = (Cd.none, 160) := no_of (by decide +kernel)
theorem no1 : cparse [114, 111, 99, 107, 32, 101, 97, 114, 116, 104, 32, 117, 110, 105, 116, 32, 32, 49, 32, 49, 47, 49] = (Cd.none, 160) := no_of (by decide +kernel)
theorem no2 : cparse [114, 111, 99, 107, 32, 101, 97, 114, 116, 104, 32, 115, 112, 101, 108, 108, 32, 49, 32, 49, 47, 49] = (Cd.none, 160) := no_of (by decide +kernel)
theorem no3 : cparse [] = (Cd.none, 160) := no_of (by decide +kernel)
theorem no4 : cparse [114, 111, 99, 107, 32, 101, 97, 114, 116, 104, 32, 117, 110, 105, 116, 32, 49, 32, 49, 47, 49, 32, 43, 103, 117, 97, 114, 100, 32, 116, 111, 107, 101, 110] = (Cd.none, 160) := no_of (by decide +kernel)
theorem no5 : cparse [114, 111, 99, 107, 32, 101, 97, 114, 116, 104, 32, 117, 110, 105, 116, 32, 49, 32, 49, 47, 49, 32] = (Cd.none, 160) := no_of (by decide +kernel)
theorem no6 : cparse [114, 111, 99, 107, 32, 101, 97, 114, 116, 104, 32, 117, 110, 105, 116, 32, 49, 32, 49, 47, 49, 32, 124] = (Cd.none, 160) := no_of (by decide +kernel)
theorem no7 : cparse [114, 111, 99, 107, 32, 101, 97, 114, 116, 104, 32, 117, 110, 105, 116, 32, 49, 32, 49, 47, 49, 32, 43, 103, 117, 97, 114, 100, 32, 43, 103, 117, 97, 114, 100] = (Cd.none, 160) := no_of (by decide +kernel)
theorem no_zeros {n : Nat} (hn : n ≤ 512) : cparse (List.replicate n 0) = (Cd.none, 160) := by
  have hc : cuts (List.replicate n (0 : UInt8)) = [List.replicate n 0] := by
    have h0 : (124 : UInt8) ∉ List.replicate n (0 : UInt8) := fun h => absurd (List.eq_of_mem_replicate h) (by decide)
    have := cuts_tail [] (List.replicate n (0 : UInt8)) (List.replicate n (0 : UInt8)).length h0 (by simp) (by simp)
    rw [tailT, List.append_nil] at this
    exact this
  have hp : pieces (List.replicate n (0 : UInt8)) = [List.replicate n 0] := pieces_one _ (fun h => absurd (List.eq_of_mem_replicate h) (by decide))
  unfold cparse
  rw [if_neg (by rw [List.length_replicate]; omega)]
  unfold cread
  rw [hc]
  simp only [hp]
  rfl
theorem long_zeros {n : Nat} (hn : 512 < n) : cparse (List.replicate n 0) = (Cd.none, 3) := by
  unfold cparse
  rw [if_pos (by rw [List.length_replicate]; omega)]
end Go.Proofs.YtpceelbphpfciaaGreatDoor
