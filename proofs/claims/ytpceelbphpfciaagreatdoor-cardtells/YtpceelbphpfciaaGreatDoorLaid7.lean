/-
  What the listed variables hold when CardTells begins, as its row says it; a start that meets it.
-/
import Derived.Test.YtpceelbphpfciaaGreatDoorLaid
namespace Go.Proofs.YtpceelbphpfciaaGreatDoor
open Go.ChangeShapes Go.WideShapes Go.ChangeAt Go.RowKit

theorem laid7_of {W : World} (h : laidMet Tryz.prog [("math/bits.deBruijn32tab", Rows.laid_math_bits_deBruijn32tab), ("math/bits.deBruijn64tab", Rows.laid_math_bits_deBruijn64tab), ("internal/strconv.uint64pow10", Rows.laid_internal_strconv_uint64pow10), ("strconv.ErrRange", Rows.laid_strconv_ErrRange), ("strconv.ErrSyntax", Rows.laid_strconv_ErrSyntax), ("gambit/suit.names", Rows.laid_gambit_suit_names), ("gambit/trait.names", Rows.laid_gambit_trait_names)] W) (hml : ∃ m, W.cell? ⟨2, 0, none⟩ = some (.int .i64 m)) : LaidAt W := by
  have hp := h.tail.tail
  rw [pow_is] at hp
  have hpow := Lib.tabIs_of_head Tryz.g3 Tryz.g3Type Tryz.underlying204 Tryz.underlying168 Tryz.lc168' Tryz.lc204' hp
  obtain ⟨a0, s0, hv0, -, -, -⟩ := laid_sentinel h.tail.tail.tail Tryz.g5 Tryz.g5Type Tryz.underlying118 Tryz.row213 Tryz.underlying213 Tryz.underlying215 rfl rfl Tryz.underlying9 Tryz.lc215' Tryz.lc9'
  obtain ⟨a1, s1, hv1, -, -, -⟩ := laid_sentinel h.tail.tail.tail.tail Tryz.g4 Tryz.g4Type Tryz.underlying118 Tryz.row213 Tryz.underlying213 Tryz.underlying215 rfl rfl Tryz.underlying9 Tryz.lc215' Tryz.lc9'
  have hst := h.tail.tail.tail.tail.tail
  obtain ⟨ps, ⟨g0, t0, cs0, fuel0, p0, q0, hg0, ht0, hvar0, hd0, ⟨g1, t1, cs1, fuel1, p1, q1, hg1, ht1, hvar1, hd1, _, _⟩, _⟩, _⟩ := hst
  obtain rfl := Option.some.inj (Tryz.g0.symm.trans hg0)
  obtain rfl := Option.some.inj (Tryz.g0Type.symm.trans ht0)
  obtain rfl := Option.some.inj (Tryz.g1.symm.trans hg1)
  obtain rfl := Option.some.inj (Tryz.g1Type.symm.trans ht1)
  rw [cellsS_of hd0] at hvar0
  rw [cellsN_of hd1] at hvar1
  refine ⟨⟨World.var?_cell Tryz.g0 hvar0 1, World.var?_cell Tryz.g0 hvar0 2, World.var?_cell Tryz.g0 hvar0 3, World.var?_cell Tryz.g0 hvar0 4, World.var?_cell Tryz.g0 hvar0 5, World.var?_cell Tryz.g0 hvar0 6⟩, ⟨World.var?_cell Tryz.g1 hvar1 1, World.var?_cell Tryz.g1 hvar1 2, World.var?_cell Tryz.g1 hvar1 3, World.var?_cell Tryz.g1 hvar1 4, World.var?_cell Tryz.g1 hvar1 5, World.var?_cell Tryz.g1 hvar1 6, World.var?_cell Tryz.g1 hvar1 7, World.var?_cell Tryz.g1 hvar1 8⟩, ?_, ⟨var_block Tryz.g4 hv1, var_block Tryz.g5 hv0⟩, hml⟩
  unfold Lib.TabIs World.var? at hpow
  rw [Tryz.g3] at hpow
  simp only [Option.bind_some] at hpow
  cases hh : W.heap[5]? with
  | none => rw [hh] at hpow; cases hpow
  | some o =>
    rw [hh] at hpow
    cases o with
    | cells cs t z =>
      simp only [Option.some.injEq] at hpow
      exact ⟨t, z, by rw [hh, hpow]⟩
    | _ => cases hpow
set_option maxRecDepth 100000 in
theorem laid7_met (os : Os) (args : Array Value) : laidMet Tryz.prog [("math/bits.deBruijn32tab", Rows.laid_math_bits_deBruijn32tab), ("math/bits.deBruijn64tab", Rows.laid_math_bits_deBruijn64tab), ("internal/strconv.uint64pow10", Rows.laid_internal_strconv_uint64pow10), ("strconv.ErrRange", Rows.laid_strconv_ErrRange), ("strconv.ErrSyntax", Rows.laid_strconv_ErrSyntax), ("gambit/suit.names", Rows.laid_gambit_suit_names), ("gambit/trait.names", Rows.laid_gambit_trait_names)] (({ World.holding Tryz.prog os ⟨#[.cells #[.string ⟨#[118, 97, 108, 117, 101, 32, 111, 117, 116, 32, 111, 102, 32, 114, 97, 110, 103, 101]⟩] 215, .cells #[.string ⟨#[105, 110, 118, 97, 108, 105, 100, 32, 115, 121, 110, 116, 97, 120]⟩] 215], #[], []⟩ with heap := (((((((((World.holding Tryz.prog os ⟨#[.cells #[.string ⟨#[118, 97, 108, 117, 101, 32, 111, 117, 116, 32, 111, 102, 32, 114, 97, 110, 103, 101]⟩] 215, .cells #[.string ⟨#[105, 110, 118, 97, 108, 105, 100, 32, 115, 121, 110, 116, 97, 120]⟩] 215], #[], []⟩).heap.modify 8 (putC cells32)).modify 9 (putC cells64)).modify 5 (putC cellsP)).modify 4 (putC cellsA)).modify 7 (putC #[.iface 213 (.pointer (some ⟨(World.holding Tryz.prog os ⟨#[], #[], []⟩).heap.size, 0, none⟩))])).modify 6 (putC #[.iface 213 (.pointer (some ⟨(World.holding Tryz.prog os ⟨#[], #[], []⟩).heap.size + 1, 0, none⟩))])).modify 0 (putC cellsS)).modify 1 (putC cellsN)).modify 3 (putC cellsF) } : World).forCall (fun _ _ => 0) ⟨#[], args, []⟩).memory :=
  laidMet_of_run' 8 (by kernel_rfl) (by kernel_rfl)
end Go.Proofs.YtpceelbphpfciaaGreatDoor
