/-
  What the package's table of names holds when the call begins, as the row says it; a start that meets it.
-/
import Derived.Test.YteigfndahedleaaDoorFind
import Derived.ProofKit
import Derived.OpenShut
import Derived.ChangeSame
import Derived.ChangeVars
import Derived.JoinedOf
import Derived.LaidLaws
namespace Go.Proofs.YteigfndahedleaaDoor
open Go.ChangeShapes Go.WideShapes Go.ChangeAt Go.RowKit

theorem Tryd.own : ownKnob Tryd.prog.godebug = none := by kernel_rfl
theorem Tryd.gN : Tryd.prog.globalNamed "gambit/rank.names" = some 0 := by kernel_rfl
theorem Tryd.gNType : (Tryd.prog.globals[0]?).map (·.type) = some 46 := by kernel_rfl
theorem Tryd.cells46' : Tryd.prog.cellsOf 46 = 5 := by kernel_rfl
theorem Tryd.cells9' : Tryd.prog.cellsOf 9 = 1 := by kernel_rfl
def cells5 : Array Value := #[.string ⟨#[108, 111, 119]⟩, .string ⟨#[115, 116, 101, 112]⟩, .string ⟨#[109, 105, 100]⟩, .string ⟨#[104, 105, 103, 104]⟩, .string ⟨#[116, 111, 112]⟩]
theorem str_of_trod {H : Type} {enc : TypeId × Value → H} {w : World} {base : Nat} {sp : Nat → Bool} {held : Bool} {fuel : Nat} {c : Value} {y : DataW H × List MemPlace}
    (h : DataW.trod enc Tryd.prog w base sp held fuel 9 [c] = some y) : ∃ s : ByteArray, c = .string s ∧ y = (.lit (.string s.data.toList), []) := by
  obtain ⟨s, hc, hy, _⟩ := DataW.trod_string Tryd.underlying9 h
  simp only [List.cons.injEq, and_true] at hc
  exact ⟨s, hc, hy⟩
theorem ba_of_list {s : ByteArray} {l : List UInt8} (h : s.data.toList = l) : s = ⟨l.toArray⟩ := by
  obtain ⟨⟨d⟩⟩ := s
  simp only at h
  rw [h]
theorem cells_of_laid {W : World} (h : laidMet Tryd.prog [("gambit/rank.names", Rows.laid_gambit_rank_names)] W) : W.var? Tryd.prog "gambit/rank.names" = some cells5 := by
  obtain ⟨ps, ⟨g, t, cs, fuel, p, q, hg, ht, hvar, hd, _, _⟩, _⟩ := h
  obtain rfl := Option.some.inj (Tryd.gN.symm.trans hg)
  obtain rfl := Option.some.inj (Tryd.gNType.symm.trans ht)
  rw [hvar]
  congr 1
  obtain ⟨l⟩ := cs
  cases fuel with
  | zero => simp [DataW.trod] at hd
  | succ fuel =>
    simp only [DataW.trod, Tryd.underlying46, Tryd.cells46', Tryd.cells9'] at hd
    split at hd
    · rename_i hl
      obtain ⟨c0, c1, c2, c3, c4, rfl⟩ : ∃ c0 c1 c2 c3 c4, l = [c0, c1, c2, c3, c4] := by
        match l, hl with
        | [a, b, c, d, e], _ => exact ⟨a, b, c, d, e, rfl⟩
      have e : List.range 5 = [0, 1, 2, 3, 4] := rfl
      rw [e] at hd
      simp only [Option.map_eq_some_iff, List.mapM_cons, List.mapM_nil, Option.bind_eq_bind, Option.bind_eq_some_iff, Option.pure_def, Option.some.injEq] at hd
      obtain ⟨xs, ⟨y0, h0, _, ⟨y1, h1, _, ⟨y2, h2, _, ⟨y3, h3, _, ⟨y4, h4, _, rfl, rfl⟩, rfl⟩, rfl⟩, rfl⟩, rfl⟩, hx⟩ := hd
      obtain ⟨n0, rfl, rfl⟩ := str_of_trod h0
      obtain ⟨n1, rfl, rfl⟩ := str_of_trod h1
      obtain ⟨n2, rfl, rfl⟩ := str_of_trod h2
      obtain ⟨n3, rfl, rfl⟩ := str_of_trod h3
      obtain ⟨n4, rfl, rfl⟩ := str_of_trod h4
      simp [Rows.laid_gambit_rank_names] at hx
      obtain ⟨⟨e0, e1, e2, e3, e4⟩, _⟩ := hx
      rw [ba_of_list e0, ba_of_list e1, ba_of_list e2, ba_of_list e3, ba_of_list e4]
      rfl
    · cases hd
theorem names_of_laid {W : World} (h : laidMet Tryd.prog [("gambit/rank.names", Rows.laid_gambit_rank_names)] W) : NamesAt W := by
  have hv := cells_of_laid h
  exact ⟨World.var?_cell Tryd.gN hv 0, World.var?_cell Tryd.gN hv 1, World.var?_cell Tryd.gN hv 2, World.var?_cell Tryd.gN hv 3, World.var?_cell Tryd.gN hv 4⟩
def put5 : Obj → Obj
  | .cells _ t frozen => .cells cells5 t frozen
  | o => o
theorem laid_met (os : Os) (args : Array Value) : laidMet Tryd.prog [("gambit/rank.names", Rows.laid_gambit_rank_names)] (({ World.holding Tryd.prog os ⟨#[], #[], []⟩ with heap := (World.holding Tryd.prog os ⟨#[], #[], []⟩).heap.modify 0 put5 } : World).forCall (fun _ _ => 0) ⟨#[], args, []⟩).memory :=
  laidMet_of_run (ps := [.cell 0 0, .cell 0 1, .cell 0 2, .cell 0 3, .cell 0 4]) 8 (by kernel_rfl) (by kernel_rfl) (by kernel_rfl)
end Go.Proofs.YteigfndahedleaaDoor
