/-
  SuitTells, walked: of every number and every text suit tells what the document says.
-/
import Derived.Test.YtmnkibnbnhjncaaDoorRef
import Derived.Test.YtmnkibnbnhjncaaDoorBack
namespace Go.Proofs.YtmnkibnbnhjncaaDoor
open Go.RowKit

set_option maxRecDepth 100000 in
set_option maxHeartbeats 2000000 in
theorem tells_any (k : Int) (s : ByteArray) (w : World) (L : LaidAt w) : Calls Tryd.prog 3 #[.int .u8 k, .string s] w fun e w' => e = .returned (.bool true) ∧ w.grownBy w' none := by
  go_enter Tryd.func3, Tryd.ntmps3
  go_wp2_with fail
  refine (sof_any _ _ L.1).mono ?_
  rintro e w1 ⟨rfl, g1⟩
  have L1 := L.keep g1
  clear L
  go_wp2_with fail
  refine (rsof_any _ _).mono ?_
  rintro e w2 ⟨rfl, rfl⟩
  generalize oI s.toList = a
  generalize oB s.toList = b
  go_wp2_with fail
  refine (name_any _ _ L1.1).mono ?_
  rintro e w2 ⟨rfl, rfl⟩
  go_wp2_with fail
  refine (rname_any _ _).mono ?_
  rintro e w2 ⟨rfl, rfl⟩
  generalize sName k = nm
  go_wp2_with fail
  refine (beats_any _ _ L1.2).mono ?_
  rintro e w2 ⟨rfl, rfl⟩
  go_wp2_with fail
  refine (rbeats_any _ _).mono ?_
  rintro e w2 ⟨rfl, g2⟩
  have L2 := L1.keep g2
  have G2 := grown_trans g1 g2
  clear L1 g1 g2
  generalize sBeats k = x
  go_wp2_with fail
  refine (beaten_any _ _ L2.2).mono ?_
  rintro e w3 ⟨rfl, g3⟩
  have G3 := grown_trans G2 g3
  clear G2 g3 L2
  go_wp2_with fail
  refine (rbeaten_any _ _).mono ?_
  rintro e w4 ⟨rfl, g4⟩
  have G4 := grown_trans G3 g4
  clear G3 g4
  generalize sBeaten k = y
  go_wp2_with fail
  refine (weight_any _ _).mono ?_
  rintro e w5 ⟨rfl, g5⟩
  have G5 := grown_trans G4 g5
  clear G4 g5
  go_wp2_with fail
  refine (rweight_any _ _).mono ?_
  rintro e w6 ⟨rfl, g6⟩
  have G6 := grown_trans G5 g6
  clear G5 g6
  generalize sWeight k = z
  go_wp2
  go_ret
  exact ⟨rfl, G6⟩
end Go.Proofs.YtmnkibnbnhjncaaDoor
