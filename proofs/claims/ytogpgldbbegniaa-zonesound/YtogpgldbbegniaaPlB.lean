/-
  Lists of numbers, read as data: where they lie, how long they may be; numbers of 64 bits.
-/
import Derived.Test.YtogpgldbbegniaaS4
import Derived.Test.YtogpgldbbegniaaS5
import Derived.ChangeSlices
import Derived.ProofKit
import Derived.OpenShut
import Derived.ChangeOld
import Derived.ChangeAt
import Derived.Deep.Slices
import Derived.SizedLaws
namespace Go.Proofs.Ytogpgldbbegniaa
open Go.ChangeShapes Go.WideShapes Go.ChangeAt Go.RowKit Go.Deep

theorem Try.own : ownKnob Try.prog.godebug = none := by kernel_rfl
theorem Try.laidOut : laidOutB Try.prog = true := by kernel_rfl
theorem cOf3 : Try.prog.cellsOf 3 = 1 := by kernel_rfl
theorem bytes3x : Try.prog.bytesOf 3 = 8 := by kernel_rfl
theorem isU_of {z : Int} (h : (Lit.int .u64 z).wf = true) : isU z := by
  simp [Lit.wf] at h
  have h0 : IntKind.u64.min = 0 := by decide
  have h1 : IntKind.u64.max = 18446744073709551615 := by decide
  unfold isU
  omega
theorem isI_of {z : Int} (h : (Lit.int .i64 z).wf = true) : isI z := by
  simp [Lit.wf] at h
  have h0 : IntKind.i64.min = -9223372036854775808 := by decide
  unfold isI
  omega
set_option maxRecDepth 100000 in
/-- A list of numbers, read as data. -/
theorem numsB_open {H : Type} {enc : TypeId × Value → H} {w : World} {base : Nat} {held : Bool} {fuel : Nat} {v : Value} {x : DataW H × List MemPlace}
    (h : DataW.trod enc Try.prog w base (fun _ => true) held fuel 22 [v] = some x) (hz : ∀ n ∈ x.1.weights Try.prog 22, n ≤ reachBytes) : ∃ os : List Int, IntsB w v os ∧ (os.length + 2) * 8 ≤ 140737488355328 := by
  rcases open_slice1 Try.underlying22 cOf3 h with ⟨hcs, _⟩ | ⟨a, len, cp, m, f, V, D, Pl, hcs, _, hl, hm, hmm, hxx, hx⟩
  · simp at hcs
    subst hcs
    exact ⟨[], Or.inl ⟨_, rfl, rfl⟩, by decide⟩
  · simp at hcs
    subst hcs
    simp at hmm
    have hnm : len ≤ m := by omega
    have hp : ∀ i, i < len → ∃ s : Int, w.cell? (a.add i) = some (.int .i64 s) := fun i hi => by
      obtain ⟨h1, h2⟩ := hx i (by omega)
      obtain ⟨z, e, _, _⟩ := DataW.trod_int Try.underlying3 h2
      simp only [List.cons.injEq, and_true] at e
      exact ⟨z, by rw [h1, e]⟩
    obtain ⟨F, hF⟩ := choose_lt (α := Int) hp
    refine ⟨(List.range len).map F, ?_, ?_⟩
    · by_cases hc0 : cp = 0
      · subst hc0
        obtain rfl : len = 0 := by omega
        exact Or.inl ⟨_, rfl, rfl⟩
      · have c0 := (hx 0 (by omega)).1
        have ex : a.add 0 = a := by simp [Addr.add]
        rw [ex] at c0
        have pl := addr_plain c0
        refine Or.inr ⟨a.block, a.off, cp, by rw [← pl]; simp, by simpa using hl, fun j u hu => ?_⟩
        have hj : j < len := by have := (List.getElem?_eq_some_iff.1 hu).1; rw [length_ints] at this; simpa using this
        obtain rfl : u = .int .i64 (F j) := by simp [ints, hj] at hu; exact hu.symm
        have := hF j hj
        rw [pl, add_plain] at this
        exact this
    · have hb := hz ((len + (m - len)) * 8) (by rw [hxx]; simp [DataW.weights, Try.underlying22, bytes3x])
      unfold reachBytes at hb
      simp only [List.length_map, List.length_range]
      omega
end Go.Proofs.Ytogpgldbbegniaa
