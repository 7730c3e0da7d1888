/-
  GoldFills answers true of every list of numbers: each card of gold may be and is of the suit; a new book takes them in whatever order the numbers lay them, then the trait and the mark, and is sealed; the number is fire's and void's together; each name has the number that the document tells. (Of a list of more than 100 numbers it asks no more than that there are six cards.) No condition.
-/
import Derived.Test.YtpoicbefemjckaaGdF
import Derived.Test.YtpoicbefemjckaaOpenC
import Derived.Test.YtpoicbefemjckaaRows
import Derived.Deep.Slices
namespace Go.Proofs.Ytpoicbefemjckaa
open Go.ChangeShapes Go.WideShapes Go.ChangeAt Go.RowKit Go.Deep

theorem Try.own : ownKnob Try.prog.godebug = none := by kernel_rfl
theorem Try.laidOut : laidOutB Try.prog = true := by kernel_rfl
theorem Try.cells3n : Try.prog.cellsOf 3 = 1 := by kernel_rfl
set_option maxRecDepth 100000 in
/-- A list of numbers, read as data. -/
theorem nums_open {H : Type} {enc : TypeId × Value → H} {w : World} {base : Nat} {sp : Nat → Bool} {held : Bool} {fuel : Nat} {v : Value} {x : DataW H × List MemPlace}
    (h : DataW.trod enc Try.prog w base sp held fuel 39 [v] = some x) : ∃ os : List Int, IntsIn w v os := by
  rcases open_slice1 Try.underlying39 Try.cells3n h with ⟨hcs, _⟩ | ⟨a, len, cp, m, f, V, D, Pl, hcs, _, hl, hm, hmm, hxx, hx⟩
  · simp at hcs
    subst hcs
    exact ⟨[], none, 0, rfl, fun h0 => by simp at h0⟩
  · simp at hcs
    subst hcs
    have hnm : len ≤ m := by rw [hmm]; split <;> omega
    have hp : ∀ i, i < len → ∃ s : Int, w.cell? (a.add i) = some (.int .i64 s) := fun i hi => by
      obtain ⟨h1, h2⟩ := hx i (by omega)
      obtain ⟨z, e, _, _⟩ := DataW.trod_int Try.underlying3 h2
      simp only [List.cons.injEq, and_true] at e
      exact ⟨z, by rw [h1, e]⟩
    obtain ⟨F, hF⟩ := choose_lt (α := Int) hp
    refine ⟨(List.range len).map F, some a, cp, by simp, fun h0 => ?_⟩
    have h0' : 0 < len := by simpa using h0
    have c0 := hF 0 h0'
    have ex : a.add 0 = a := by simp [Addr.add]
    rw [ex] at c0
    have pl := addr_plain c0
    refine ⟨a.block, a.off, by rw [← pl], fun j e he => ?_⟩
    have hj : j < len := by have := (List.getElem?_eq_some_iff.1 he).1; simpa using this
    obtain rfl : e = F j := by simp [hj] at he; exact he.symm
    have := hF j hj
    rw [pl, add_plain] at this
    exact this
set_option maxRecDepth 100000 in
theorem goldFills_lifted (os : Os) (started : os.Started) (H : Type) (enc : TypeId × Value → H) :
    ReturnsInHanded {} Try.checked os 4 .any (Rows.goldFillsSpec.pre6 enc Try.prog Try.f4 Rows.goldFillsRow.domain false) (Rows.goldFillsSpec.post enc Try.prog Try.f4 false true false false) := by
  refine returnsInHanded_of_change_sized (C := Try.checked) Try.own started (by kernel_rfl) Try.func4
    (ChangeSpec.witness6 (enc := enc) (C := Try.checked) false ⟨#[], #[.slice none 0 0], []⟩ 8 (by kernel_rfl) (by kernel_rfl) (by kernel_rfl) (by kernel_rfl)) ?_
  intro W base args ds gs before hval0 hW hcnd hsz _
  have hval : ∀ (j : Nat) t v, Try.f4.params[j]? = some t → args[j]? = some v → Value.okWide Try.prog W .any base t v := hval0
  have hW' := hW
  obtain ⟨p, q, hA0, hV, rfl, hfz, hnd⟩ := hW
  have hA : DataW.TrodAll enc Try.prog W 0 (fun _ => true) true Try.f4.params.toList args.toList ds p := hA0
  have hS : (DataW.weightsEach Try.prog (Try.f4.params.toList ++ Rows.goldFillsSpec.plain.varTypes Try.prog) (ds ++ gs)).all (· ≤ reachBytes) = true := hsz
  rw [Try.params4] at hA hval hS
  obtain ⟨v0, vs0, d0, ds0, p0, q0, hargs, rfl, rfl, h0, r0⟩ := trodAll_cons hA
  obtain ⟨rfl, rfl, rfl⟩ := trodAll_nil r0
  obtain rfl : args = #[v0] := by cases args; simp_all
  obtain ⟨rfl, rfl⟩ := trodVars_none hV
  have k0 := h0
  have lt0 : ∀ x ∈ p0, x.block < W.heap.size := by obtain ⟨m, hm⟩ := k0; exact DataW.trod_lt m _ _ _ hm
  obtain ⟨sa0, sl0, sc0, rfl⟩ := okWide_slice Try.underlying39 (hval 0 39 v0 rfl rfl)
  obtain ⟨os0, O0⟩ : ∃ os, IntsIn W (.slice sa0 sl0 sc0) os := by obtain ⟨fuel, hf⟩ := h0; exact nums_open hf
  clear hA0 hval0
  refine (fills_gd _ os0 W O0).mono fun e W' ⟨he, hg⟩ => ?_
  subst he
  have bel := grown_below hg
  exact ⟨_, rfl, _, _, _, [], _, [], hW', trodAll_mk1 (shut_bool Try.underlying4 _), (trodAll_cons_mk (Below.trod Try.laidOut (by kernel_rfl) (of_decide_eq_true (by kernel_rfl)) k0 bel lt0) trodAll_mk0), rfl, bel.frame _, fun h => by cases h⟩

theorem goldFills_holds : Rows.GoldFillsSaid :=
  OpenClaim.holds_of_wide 4 Try.f4 rfl rfl rfl rfl rfl rfl rfl ⟨rfl, rfl, rfl, rfl, rfl⟩ rfl rfl rfl rfl rfl (by kernel_rfl) Try.func4 (by kernel_rfl)
    (of_decide_eq_true (by kernel_rfl)) (by unfold Func.isWrapper; first | (rw [if_pos (by decide +kernel)]; kernel_rfl) | (rw [if_neg (by decide +kernel)]; exact ⟨rfl, rfl⟩))
    (fun os started H enc _ => goldFills_lifted os started H enc)
#print axioms goldFills_holds
end Go.Proofs.Ytpoicbefemjckaa
