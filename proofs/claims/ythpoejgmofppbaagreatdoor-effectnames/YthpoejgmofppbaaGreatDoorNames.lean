/-
  EffectNames, walked: the numbers and the examples of the chapter.
-/
import Derived.Test.YthpoejgmofppbaaGreatDoorLives
namespace Go.Proofs.YthpoejgmofppbaaGreatDoor
open Go.RowKit

/-- Parse, by digits. -/
def parseD (s : List UInt8) : Int := if 80 < s.length then 3 else match readP (pieces s) with
  | Option.none => 150
  | some p => if chk p = 0 ∧ prtD p = s then 0 else 150
theorem parse_D (s : List UInt8) : (parse s).2 = parseD s := by
  unfold parse parseD
  split
  · rfl
  · cases readP (pieces s) with
    | none => rfl
    | some p =>
      simp only
      by_cases h : chk p = 0
      · rw [← prt_D h]
        split <;> rfl
      · rw [if_neg (fun e => h e.1), if_neg (fun e => h e.1)]
theorem parse_bad2 {s : List UInt8} {c : Int} (h : parseD s = c) (hc : ¬ c = 0) : parse s = (Pt.none, c) := by
  have h2 : (parse s).2 = c := (parse_D s).trans h
  exact Prod.ext (parse_no (by rw [h2]; exact hc)) h2
theorem chk_none {p : Pt} (h : ¬ chk p = 0) : prB p = ⟨#[]⟩ := if_neg h
def e0 : Pt := ⟨5, 15, 9, -1, 3, 0, 0, ⟨#[]⟩⟩
theorem e0_ok : chk e0 = 0 ∧ prtD e0 = [97, 108, 119, 97, 121, 115, 32, 114, 97, 105, 115, 101, 32, 100, 121, 101, 100, 32, 45, 49, 32, 102, 105, 114, 101] := by decide +kernel
theorem e0_is : prB e0 = ⟨#[97, 108, 119, 97, 121, 115, 32, 114, 97, 105, 115, 101, 32, 100, 121, 101, 100, 32, 45, 49, 32, 102, 105, 114, 101]⟩ := by rw [prB_D e0_ok.1, e0_ok.2]
def e1 : Pt := ⟨1, 7, 1, 2, 0, 0, 0, ⟨#[119, 105, 115, 112]⟩⟩
theorem e1_ok : chk e1 = 0 ∧ prtD e1 = [112, 108, 97, 121, 101, 100, 32, 99, 97, 108, 108, 32, 121, 111, 117, 32, 50, 32, 119, 105, 115, 112] := by decide +kernel
theorem e1_is : prB e1 = ⟨#[112, 108, 97, 121, 101, 100, 32, 99, 97, 108, 108, 32, 121, 111, 117, 32, 50, 32, 119, 105, 115, 112]⟩ := by rw [prB_D e1_ok.1, e1_ok.2]
def e2 : Pt := ⟨6, 18, 4, 0, 0, 0, 0, ⟨#[]⟩⟩
theorem e2_ok : chk e2 = 0 ∧ prtD e2 = [114, 97, 116, 104, 101, 114, 32, 116, 117, 114, 110, 101, 100, 32, 115, 101, 108, 102] := by decide +kernel
theorem e2_is : prB e2 = ⟨#[114, 97, 116, 104, 101, 114, 32, 116, 117, 114, 110, 101, 100, 32, 115, 101, 108, 102]⟩ := by rw [prB_D e2_ok.1, e2_ok.2]
def f0 : Pt := ⟨5, 1, 1, 1, 0, 0, 0, ⟨#[]⟩⟩
theorem f0_is : chk f0 = 8 := by decide +kernel
theorem f0_no : prB f0 = ⟨#[]⟩ := chk_none (by rw [f0_is]; decide)
def f1 : Pt := ⟨2, 1, 3, 1, 0, 0, 0, ⟨#[]⟩⟩
theorem f1_is : chk f1 = 13 := by decide +kernel
theorem f1_no : prB f1 = ⟨#[]⟩ := chk_none (by rw [f1_is]; decide)
def f2 : Pt := ⟨1, 6, 2, 0, 0, 0, 0, ⟨#[]⟩⟩
theorem f2_is : chk f2 = 13 := by decide +kernel
theorem f2_no : prB f2 = ⟨#[]⟩ := chk_none (by rw [f2_is]; decide)
def f3 : Pt := ⟨1, 1, 3, 0, 0, 0, 0, ⟨#[]⟩⟩
theorem f3_is : chk f3 = 2 := by decide +kernel
theorem f3_no : prB f3 = ⟨#[]⟩ := chk_none (by rw [f3_is]; decide)
def f4 : Pt := ⟨1, 6, 3, 1, 0, 0, 0, ⟨#[]⟩⟩
theorem f4_is : chk f4 = 2 := by decide +kernel
theorem f4_no : prB f4 = ⟨#[]⟩ := chk_none (by rw [f4_is]; decide)
def f5 : Pt := ⟨1, 9, 4, 1, 0, 0, 0, ⟨#[]⟩⟩
theorem f5_is : chk f5 = 2 := by decide +kernel
theorem f5_no : prB f5 = ⟨#[]⟩ := chk_none (by rw [f5_is]; decide)
def f6 : Pt := ⟨1, 7, 1, 1, 0, 0, 0, ⟨#[]⟩⟩
theorem f6_is : chk f6 = 4 := by decide +kernel
theorem f6_no : prB f6 = ⟨#[]⟩ := chk_none (by rw [f6_is]; decide)
def f7 : Pt := ⟨5, 11, 9, 0, 1, 0, 0, ⟨#[]⟩⟩
theorem f7_is : chk f7 = 8 := by decide +kernel
theorem f7_no : prB f7 = ⟨#[]⟩ := chk_none (by rw [f7_is]; decide)
def f8 : Pt := ⟨0, 0, 0, 0, 0, 0, 0, ⟨#[]⟩⟩
theorem f8_is : chk f8 = 2 := by decide +kernel
theorem f8_no : prB f8 = ⟨#[]⟩ := chk_none (by rw [f8_is]; decide)
theorem g0_is : parse (⟨#[112, 108, 97, 121, 101, 100, 32, 32, 104, 97, 114, 109, 32, 105, 116, 32, 51]⟩ : ByteArray).data.toList = (Pt.none, 150) := parse_bad2 (by decide +kernel) (by decide)
theorem g1_is : parse (⟨#[112, 108, 97, 121, 101, 100, 32, 104, 97, 114, 109, 32, 105, 116, 32, 48, 51]⟩ : ByteArray).data.toList = (Pt.none, 150) := parse_bad2 (by decide +kernel) (by decide)
theorem g2_is : parse (⟨#[80, 108, 97, 121, 101, 100, 32, 104, 97, 114, 109, 32, 105, 116, 32, 51]⟩ : ByteArray).data.toList = (Pt.none, 150) := parse_bad2 (by decide +kernel) (by decide)
theorem g3_is : parse (⟨#[]⟩ : ByteArray).data.toList = (Pt.none, 150) := parse_bad2 (by decide +kernel) (by decide)
theorem x81 : parse (⟨(Lib.repeatL [120] 81).toArray⟩ : ByteArray).data.toList = (Pt.none, 3) := parse_bad2 (by decide +kernel) (by decide)
theorem x80 : parse (⟨(Lib.repeatL [120] 80).toArray⟩ : ByteArray).data.toList = (Pt.none, 150) := parse_bad2 (by decide +kernel) (by decide)
/-- The list of parts that may not be, and that of their errors, in memory. -/
def badC : Array Value := #[.int .u8 5, .int .u8 1, .int .u8 1, .int .i64 1, .int .u8 0, .int .u8 0, .int .u8 0, .string ⟨#[]⟩, .int .u8 2, .int .u8 1, .int .u8 3, .int .i64 1, .int .u8 0, .int .u8 0, .int .u8 0, .string ⟨#[]⟩, .int .u8 1, .int .u8 6, .int .u8 2, .int .i64 0, .int .u8 0, .int .u8 0, .int .u8 0, .string ⟨#[]⟩, .int .u8 1, .int .u8 1, .int .u8 3, .int .i64 0, .int .u8 0, .int .u8 0, .int .u8 0, .string ⟨#[]⟩, .int .u8 1, .int .u8 6, .int .u8 3, .int .i64 1, .int .u8 0, .int .u8 0, .int .u8 0, .string ⟨#[]⟩, .int .u8 1, .int .u8 9, .int .u8 4, .int .i64 1, .int .u8 0, .int .u8 0, .int .u8 0, .string ⟨#[]⟩, .int .u8 1, .int .u8 7, .int .u8 1, .int .i64 1, .int .u8 0, .int .u8 0, .int .u8 0, .string ⟨#[]⟩, .int .u8 5, .int .u8 11, .int .u8 9, .int .i64 0, .int .u8 1, .int .u8 0, .int .u8 0, .string ⟨#[]⟩, .int .u8 0, .int .u8 0, .int .u8 0, .int .i64 0, .int .u8 0, .int .u8 0, .int .u8 0, .string ⟨#[]⟩]
def codC : Array Value := #[.int .i64 8, .int .i64 13, .int .i64 13, .int .i64 2, .int .i64 2, .int .i64 2, .int .i64 4, .int .i64 8, .int .i64 2]
structure ListsAt (w : World) (b c : Nat) : Prop where
  bd : w.heap[b]? = some (.cells badC 30 (0, 0))
  cd : w.heap[c]? = some (.cells codC 32 (0, 0))
theorem ListsAt.keep {w w' : World} {b c : Nat} (h : ListsAt w b c) (g : w.grownBy w' none) : ListsAt w' b c := ⟨grown_keep g h.bd (by simp), grown_keep g h.cd (by simp)⟩
theorem nine0 {w' : World} {b c : Nat} (h : w'.heap[b]? = some (.cells badC 30 (0, 0))) (k : w'.heap[c]? = some (.cells codC 32 (0, 0))) : w'.cell? ⟨b, 0, none⟩ = some (.int .u8 5) ∧ w'.cell? ⟨b, 1, none⟩ = some (.int .u8 1) ∧ w'.cell? ⟨b, 2, none⟩ = some (.int .u8 1) ∧ w'.cell? ⟨b, 3, none⟩ = some (.int .i64 1) ∧ w'.cell? ⟨b, 4, none⟩ = some (.int .u8 0) ∧ w'.cell? ⟨b, 5, none⟩ = some (.int .u8 0) ∧ w'.cell? ⟨b, 6, none⟩ = some (.int .u8 0) ∧ w'.cell? ⟨b, 7, none⟩ = some (.string ⟨#[]⟩) ∧ w'.cell? ⟨c, 0, none⟩ = some (.int .i64 8) :=
  ⟨block_cell h 0, block_cell h 1, block_cell h 2, block_cell h 3, block_cell h 4, block_cell h 5, block_cell h 6, block_cell h 7, block_cell k 0⟩
theorem nine1 {w' : World} {b c : Nat} (h : w'.heap[b]? = some (.cells badC 30 (0, 0))) (k : w'.heap[c]? = some (.cells codC 32 (0, 0))) : w'.cell? ⟨b, 8, none⟩ = some (.int .u8 2) ∧ w'.cell? ⟨b, 9, none⟩ = some (.int .u8 1) ∧ w'.cell? ⟨b, 10, none⟩ = some (.int .u8 3) ∧ w'.cell? ⟨b, 11, none⟩ = some (.int .i64 1) ∧ w'.cell? ⟨b, 12, none⟩ = some (.int .u8 0) ∧ w'.cell? ⟨b, 13, none⟩ = some (.int .u8 0) ∧ w'.cell? ⟨b, 14, none⟩ = some (.int .u8 0) ∧ w'.cell? ⟨b, 15, none⟩ = some (.string ⟨#[]⟩) ∧ w'.cell? ⟨c, 1, none⟩ = some (.int .i64 13) :=
  ⟨block_cell h 8, block_cell h 9, block_cell h 10, block_cell h 11, block_cell h 12, block_cell h 13, block_cell h 14, block_cell h 15, block_cell k 1⟩
theorem nine2 {w' : World} {b c : Nat} (h : w'.heap[b]? = some (.cells badC 30 (0, 0))) (k : w'.heap[c]? = some (.cells codC 32 (0, 0))) : w'.cell? ⟨b, 16, none⟩ = some (.int .u8 1) ∧ w'.cell? ⟨b, 17, none⟩ = some (.int .u8 6) ∧ w'.cell? ⟨b, 18, none⟩ = some (.int .u8 2) ∧ w'.cell? ⟨b, 19, none⟩ = some (.int .i64 0) ∧ w'.cell? ⟨b, 20, none⟩ = some (.int .u8 0) ∧ w'.cell? ⟨b, 21, none⟩ = some (.int .u8 0) ∧ w'.cell? ⟨b, 22, none⟩ = some (.int .u8 0) ∧ w'.cell? ⟨b, 23, none⟩ = some (.string ⟨#[]⟩) ∧ w'.cell? ⟨c, 2, none⟩ = some (.int .i64 13) :=
  ⟨block_cell h 16, block_cell h 17, block_cell h 18, block_cell h 19, block_cell h 20, block_cell h 21, block_cell h 22, block_cell h 23, block_cell k 2⟩
theorem nine3 {w' : World} {b c : Nat} (h : w'.heap[b]? = some (.cells badC 30 (0, 0))) (k : w'.heap[c]? = some (.cells codC 32 (0, 0))) : w'.cell? ⟨b, 24, none⟩ = some (.int .u8 1) ∧ w'.cell? ⟨b, 25, none⟩ = some (.int .u8 1) ∧ w'.cell? ⟨b, 26, none⟩ = some (.int .u8 3) ∧ w'.cell? ⟨b, 27, none⟩ = some (.int .i64 0) ∧ w'.cell? ⟨b, 28, none⟩ = some (.int .u8 0) ∧ w'.cell? ⟨b, 29, none⟩ = some (.int .u8 0) ∧ w'.cell? ⟨b, 30, none⟩ = some (.int .u8 0) ∧ w'.cell? ⟨b, 31, none⟩ = some (.string ⟨#[]⟩) ∧ w'.cell? ⟨c, 3, none⟩ = some (.int .i64 2) :=
  ⟨block_cell h 24, block_cell h 25, block_cell h 26, block_cell h 27, block_cell h 28, block_cell h 29, block_cell h 30, block_cell h 31, block_cell k 3⟩
theorem nine4 {w' : World} {b c : Nat} (h : w'.heap[b]? = some (.cells badC 30 (0, 0))) (k : w'.heap[c]? = some (.cells codC 32 (0, 0))) : w'.cell? ⟨b, 32, none⟩ = some (.int .u8 1) ∧ w'.cell? ⟨b, 33, none⟩ = some (.int .u8 6) ∧ w'.cell? ⟨b, 34, none⟩ = some (.int .u8 3) ∧ w'.cell? ⟨b, 35, none⟩ = some (.int .i64 1) ∧ w'.cell? ⟨b, 36, none⟩ = some (.int .u8 0) ∧ w'.cell? ⟨b, 37, none⟩ = some (.int .u8 0) ∧ w'.cell? ⟨b, 38, none⟩ = some (.int .u8 0) ∧ w'.cell? ⟨b, 39, none⟩ = some (.string ⟨#[]⟩) ∧ w'.cell? ⟨c, 4, none⟩ = some (.int .i64 2) :=
  ⟨block_cell h 32, block_cell h 33, block_cell h 34, block_cell h 35, block_cell h 36, block_cell h 37, block_cell h 38, block_cell h 39, block_cell k 4⟩
theorem nine5 {w' : World} {b c : Nat} (h : w'.heap[b]? = some (.cells badC 30 (0, 0))) (k : w'.heap[c]? = some (.cells codC 32 (0, 0))) : w'.cell? ⟨b, 40, none⟩ = some (.int .u8 1) ∧ w'.cell? ⟨b, 41, none⟩ = some (.int .u8 9) ∧ w'.cell? ⟨b, 42, none⟩ = some (.int .u8 4) ∧ w'.cell? ⟨b, 43, none⟩ = some (.int .i64 1) ∧ w'.cell? ⟨b, 44, none⟩ = some (.int .u8 0) ∧ w'.cell? ⟨b, 45, none⟩ = some (.int .u8 0) ∧ w'.cell? ⟨b, 46, none⟩ = some (.int .u8 0) ∧ w'.cell? ⟨b, 47, none⟩ = some (.string ⟨#[]⟩) ∧ w'.cell? ⟨c, 5, none⟩ = some (.int .i64 2) :=
  ⟨block_cell h 40, block_cell h 41, block_cell h 42, block_cell h 43, block_cell h 44, block_cell h 45, block_cell h 46, block_cell h 47, block_cell k 5⟩
theorem nine6 {w' : World} {b c : Nat} (h : w'.heap[b]? = some (.cells badC 30 (0, 0))) (k : w'.heap[c]? = some (.cells codC 32 (0, 0))) : w'.cell? ⟨b, 48, none⟩ = some (.int .u8 1) ∧ w'.cell? ⟨b, 49, none⟩ = some (.int .u8 7) ∧ w'.cell? ⟨b, 50, none⟩ = some (.int .u8 1) ∧ w'.cell? ⟨b, 51, none⟩ = some (.int .i64 1) ∧ w'.cell? ⟨b, 52, none⟩ = some (.int .u8 0) ∧ w'.cell? ⟨b, 53, none⟩ = some (.int .u8 0) ∧ w'.cell? ⟨b, 54, none⟩ = some (.int .u8 0) ∧ w'.cell? ⟨b, 55, none⟩ = some (.string ⟨#[]⟩) ∧ w'.cell? ⟨c, 6, none⟩ = some (.int .i64 4) :=
  ⟨block_cell h 48, block_cell h 49, block_cell h 50, block_cell h 51, block_cell h 52, block_cell h 53, block_cell h 54, block_cell h 55, block_cell k 6⟩
theorem nine7 {w' : World} {b c : Nat} (h : w'.heap[b]? = some (.cells badC 30 (0, 0))) (k : w'.heap[c]? = some (.cells codC 32 (0, 0))) : w'.cell? ⟨b, 56, none⟩ = some (.int .u8 5) ∧ w'.cell? ⟨b, 57, none⟩ = some (.int .u8 11) ∧ w'.cell? ⟨b, 58, none⟩ = some (.int .u8 9) ∧ w'.cell? ⟨b, 59, none⟩ = some (.int .i64 0) ∧ w'.cell? ⟨b, 60, none⟩ = some (.int .u8 1) ∧ w'.cell? ⟨b, 61, none⟩ = some (.int .u8 0) ∧ w'.cell? ⟨b, 62, none⟩ = some (.int .u8 0) ∧ w'.cell? ⟨b, 63, none⟩ = some (.string ⟨#[]⟩) ∧ w'.cell? ⟨c, 7, none⟩ = some (.int .i64 8) :=
  ⟨block_cell h 56, block_cell h 57, block_cell h 58, block_cell h 59, block_cell h 60, block_cell h 61, block_cell h 62, block_cell h 63, block_cell k 7⟩
theorem nine8 {w' : World} {b c : Nat} (h : w'.heap[b]? = some (.cells badC 30 (0, 0))) (k : w'.heap[c]? = some (.cells codC 32 (0, 0))) : w'.cell? ⟨b, 64, none⟩ = some (.int .u8 0) ∧ w'.cell? ⟨b, 65, none⟩ = some (.int .u8 0) ∧ w'.cell? ⟨b, 66, none⟩ = some (.int .u8 0) ∧ w'.cell? ⟨b, 67, none⟩ = some (.int .i64 0) ∧ w'.cell? ⟨b, 68, none⟩ = some (.int .u8 0) ∧ w'.cell? ⟨b, 69, none⟩ = some (.int .u8 0) ∧ w'.cell? ⟨b, 70, none⟩ = some (.int .u8 0) ∧ w'.cell? ⟨b, 71, none⟩ = some (.string ⟨#[]⟩) ∧ w'.cell? ⟨c, 8, none⟩ = some (.int .i64 2) :=
  ⟨block_cell h 64, block_cell h 65, block_cell h 66, block_cell h 67, block_cell h 68, block_cell h 69, block_cell h 70, block_cell h 71, block_cell k 8⟩
set_option maxHeartbeats 16000000 in
set_option maxRecDepth 100000 in
theorem names_any (w : World) (L : LaidAt w) : Calls Tryz.prog 3 #[] w fun e w' => e = .returned (.bool true) ∧ w.grownBy w' none := by
  have HL : Hid (LaidAt w) := L
  have G0 : Hid (w.grownBy w none) := grown_refl w none
  have he := eql_part
  have hne := neq_part
  have hg := eqg_part
  clear L
  go_enter Tryz.func3, Tryz.ntmps3
  go_wp2_with fail
  refine (printed_any e0 _ (HL.out.keep G0.out)).mono ?_
  rintro e w1 ⟨rfl, g1⟩
  rw [e0_is]
  have G1 : Hid (w.grownBy w1 none) := grown_trans G0.out g1
  clear G0 g1
  go_wp2_with fail
  refine (printed_any e1 _ (HL.out.keep G1.out)).mono ?_
  rintro e w2 ⟨rfl, g2⟩
  rw [e1_is]
  have G2 : Hid (w.grownBy w2 none) := grown_trans G1.out g2
  clear G1 g2
  go_wp2_with fail
  refine (printed_any e2 _ (HL.out.keep G2.out)).mono ?_
  rintro e w3 ⟨rfl, g3⟩
  rw [e2_is]
  have G3 : Hid (w.grownBy w3 none) := grown_trans G2.out g3
  clear G2 g3
  go_wp2_with fail
  obtain ⟨W4, hW4⟩ : ∃ W4, W4 = (w3.alloc (.cells badC 30)).alloc (.cells codC 32) := ⟨_, rfl⟩
  have L4 : ListsAt W4 w3.heap.size (w3.heap.size + 1) := by
    rw [hW4]
    refine ⟨grown_keep (World.grownBy_alloc _ _ none) (alloc_at w3 badC 30) (by simp), ?_⟩
    have := alloc_at (w3.alloc (.cells badC 30)) codC 32
    rw [World.size_alloc] at this
    exact this
  have G4 : w.grownBy W4 none := by rw [hW4]; exact grown_push (grown_push G3.out _) _
  rw [show (w3.alloc (.cells #[.int .u8 5, .int .u8 1, .int .u8 1, .int .i64 1, .int .u8 0, .int .u8 0, .int .u8 0, .string ⟨#[]⟩, .int .u8 2, .int .u8 1, .int .u8 3, .int .i64 1, .int .u8 0, .int .u8 0, .int .u8 0, .string ⟨#[]⟩, .int .u8 1, .int .u8 6, .int .u8 2, .int .i64 0, .int .u8 0, .int .u8 0, .int .u8 0, .string ⟨#[]⟩, .int .u8 1, .int .u8 1, .int .u8 3, .int .i64 0, .int .u8 0, .int .u8 0, .int .u8 0, .string ⟨#[]⟩, .int .u8 1, .int .u8 6, .int .u8 3, .int .i64 1, .int .u8 0, .int .u8 0, .int .u8 0, .string ⟨#[]⟩, .int .u8 1, .int .u8 9, .int .u8 4, .int .i64 1, .int .u8 0, .int .u8 0, .int .u8 0, .string ⟨#[]⟩, .int .u8 1, .int .u8 7, .int .u8 1, .int .i64 1, .int .u8 0, .int .u8 0, .int .u8 0, .string ⟨#[]⟩, .int .u8 5, .int .u8 11, .int .u8 9, .int .i64 0, .int .u8 1, .int .u8 0, .int .u8 0, .string ⟨#[]⟩, .int .u8 0, .int .u8 0, .int .u8 0, .int .i64 0, .int .u8 0, .int .u8 0, .int .u8 0, .string ⟨#[]⟩] 30)).alloc (.cells #[.int .i64 8, .int .i64 13, .int .i64 13, .int .i64 2, .int .i64 2, .int .i64 2, .int .i64 4, .int .i64 8, .int .i64 2] 32) = W4 from hW4.symm]
  clear hW4 G3
  go_loopw [5] (fun t wr => ∃ i : Nat, i ≤ 9 ∧ t = .int .i64 i ∧ ListsAt wr w3.heap.size (w3.heap.size + 1) ∧ w.grownBy wr none) (fun t _ => 9 - (intOf t).toNat)
  case atStart => exact ⟨0, by omega, rfl, L4, G4⟩
  case round =>
    obtain ⟨i, hi, rfl, LL, G⟩ := hrel
    clear L4 G4
    have HLL : Hid (ListsAt wr w3.heap.size (w3.heap.size + 1)) := LL
    have HG : Hid (w.grownBy wr none) := G
    have cb := block_cell LL.bd
    have cc := block_cell LL.cd
    clear LL G
    rcases (show i = 0 ∨ i = 1 ∨ i = 2 ∨ i = 3 ∨ i = 4 ∨ i = 5 ∨ i = 6 ∨ i = 7 ∨ i = 8 ∨ i = 9 from by omega) with rfl | rfl | rfl | rfl | rfl | rfl | rfl | rfl | rfl | rfl
    · have c0 : wr.cell? ⟨w3.heap.size, 0, none⟩ = some (.int .u8 5) := cb 0
      have c1 : wr.cell? ⟨w3.heap.size, 1, none⟩ = some (.int .u8 1) := cb 1
      have c2 : wr.cell? ⟨w3.heap.size, 2, none⟩ = some (.int .u8 1) := cb 2
      have c3 : wr.cell? ⟨w3.heap.size, 3, none⟩ = some (.int .i64 1) := cb 3
      have c4 : wr.cell? ⟨w3.heap.size, 4, none⟩ = some (.int .u8 0) := cb 4
      have c5 : wr.cell? ⟨w3.heap.size, 5, none⟩ = some (.int .u8 0) := cb 5
      have c6 : wr.cell? ⟨w3.heap.size, 6, none⟩ = some (.int .u8 0) := cb 6
      have c7 : wr.cell? ⟨w3.heap.size, 7, none⟩ = some (.string ⟨#[]⟩) := cb 7
      clear cb cc
      go_wp2_with fail
      refine (print_any f0 _ (HL.out.keep HG.out)).mono ?_
      rintro e w5 ⟨rfl, g5⟩
      rw [f0_no, f0_is]
      have L5 : Hid (ListsAt w5 w3.heap.size (w3.heap.size + 1)) := HLL.out.keep g5
      have G5 : Hid (w.grownBy w5 none) := grown_trans HG.out g5
      clear c0 c1 c2 c3 c4 c5 c6 c7 g5 HLL HG
      have c0 : w5.cell? ⟨w3.heap.size, 0, none⟩ = some (.int .u8 5) := block_cell L5.out.bd 0
      have c1 : w5.cell? ⟨w3.heap.size, 1, none⟩ = some (.int .u8 1) := block_cell L5.out.bd 1
      have c2 : w5.cell? ⟨w3.heap.size, 2, none⟩ = some (.int .u8 1) := block_cell L5.out.bd 2
      have c3 : w5.cell? ⟨w3.heap.size, 3, none⟩ = some (.int .i64 1) := block_cell L5.out.bd 3
      have c4 : w5.cell? ⟨w3.heap.size, 4, none⟩ = some (.int .u8 0) := block_cell L5.out.bd 4
      have c5 : w5.cell? ⟨w3.heap.size, 5, none⟩ = some (.int .u8 0) := block_cell L5.out.bd 5
      have c6 : w5.cell? ⟨w3.heap.size, 6, none⟩ = some (.int .u8 0) := block_cell L5.out.bd 6
      have c7 : w5.cell? ⟨w3.heap.size, 7, none⟩ = some (.string ⟨#[]⟩) := block_cell L5.out.bd 7
      have k0 : w5.cell? ⟨w3.heap.size + 1, 0, none⟩ = some (.int .i64 8) := block_cell L5.out.cd 0
      have S9 := nine0 (L5.out.keep (grown_drew w5)).bd (L5.out.keep (grown_drew w5)).cd
      go_wp2_with fail
      go_region_held3 (fun w' => w'.cell? ⟨w3.heap.size, 0, none⟩ = some (.int .u8 5) ∧ w'.cell? ⟨w3.heap.size, 1, none⟩ = some (.int .u8 1) ∧ w'.cell? ⟨w3.heap.size, 2, none⟩ = some (.int .u8 1) ∧ w'.cell? ⟨w3.heap.size, 3, none⟩ = some (.int .i64 1) ∧ w'.cell? ⟨w3.heap.size, 4, none⟩ = some (.int .u8 0) ∧ w'.cell? ⟨w3.heap.size, 5, none⟩ = some (.int .u8 0) ∧ w'.cell? ⟨w3.heap.size, 6, none⟩ = some (.int .u8 0) ∧ w'.cell? ⟨w3.heap.size, 7, none⟩ = some (.string ⟨#[]⟩) ∧ w'.cell? ⟨w3.heap.size + 1, 0, none⟩ = some (.int .i64 8)) (first | with_reducible exact ⟨c0, c1, c2, c3, c4, c5, c6, c7, k0⟩ | with_reducible exact S9 | with_reducible exact S6) ((go_at_call 10; refine (check_any f0 _).mono ?_; rintro e w6 ⟨rfl, g6⟩; rw [f0_is]; have L6 : Hid (ListsAt w6 w3.heap.size (w3.heap.size + 1)) := L5.out.keep (grown_trans (grown_drew _) g6); have S6 := nine0 L6.out.bd L6.out.cd))
      have G6 : Hid (w.grownBy w6 none) := grown_trans G5.out (grown_trans (grown_drew _) g6)
      clear S6 G5 L5 g6
      go_wp2
      go_roundw
      case rel => exact ⟨1, by omega, by go_num, L6.out, G6.out⟩
      case measure => simp [intOf]
    · have c0 : wr.cell? ⟨w3.heap.size, 8, none⟩ = some (.int .u8 2) := cb 8
      have c1 : wr.cell? ⟨w3.heap.size, 9, none⟩ = some (.int .u8 1) := cb 9
      have c2 : wr.cell? ⟨w3.heap.size, 10, none⟩ = some (.int .u8 3) := cb 10
      have c3 : wr.cell? ⟨w3.heap.size, 11, none⟩ = some (.int .i64 1) := cb 11
      have c4 : wr.cell? ⟨w3.heap.size, 12, none⟩ = some (.int .u8 0) := cb 12
      have c5 : wr.cell? ⟨w3.heap.size, 13, none⟩ = some (.int .u8 0) := cb 13
      have c6 : wr.cell? ⟨w3.heap.size, 14, none⟩ = some (.int .u8 0) := cb 14
      have c7 : wr.cell? ⟨w3.heap.size, 15, none⟩ = some (.string ⟨#[]⟩) := cb 15
      clear cb cc
      go_wp2_with fail
      refine (print_any f1 _ (HL.out.keep HG.out)).mono ?_
      rintro e w5 ⟨rfl, g5⟩
      rw [f1_no, f1_is]
      have L5 : Hid (ListsAt w5 w3.heap.size (w3.heap.size + 1)) := HLL.out.keep g5
      have G5 : Hid (w.grownBy w5 none) := grown_trans HG.out g5
      clear c0 c1 c2 c3 c4 c5 c6 c7 g5 HLL HG
      have c0 : w5.cell? ⟨w3.heap.size, 8, none⟩ = some (.int .u8 2) := block_cell L5.out.bd 8
      have c1 : w5.cell? ⟨w3.heap.size, 9, none⟩ = some (.int .u8 1) := block_cell L5.out.bd 9
      have c2 : w5.cell? ⟨w3.heap.size, 10, none⟩ = some (.int .u8 3) := block_cell L5.out.bd 10
      have c3 : w5.cell? ⟨w3.heap.size, 11, none⟩ = some (.int .i64 1) := block_cell L5.out.bd 11
      have c4 : w5.cell? ⟨w3.heap.size, 12, none⟩ = some (.int .u8 0) := block_cell L5.out.bd 12
      have c5 : w5.cell? ⟨w3.heap.size, 13, none⟩ = some (.int .u8 0) := block_cell L5.out.bd 13
      have c6 : w5.cell? ⟨w3.heap.size, 14, none⟩ = some (.int .u8 0) := block_cell L5.out.bd 14
      have c7 : w5.cell? ⟨w3.heap.size, 15, none⟩ = some (.string ⟨#[]⟩) := block_cell L5.out.bd 15
      have k0 : w5.cell? ⟨w3.heap.size + 1, 1, none⟩ = some (.int .i64 13) := block_cell L5.out.cd 1
      have S9 := nine1 (L5.out.keep (grown_drew w5)).bd (L5.out.keep (grown_drew w5)).cd
      go_wp2_with fail
      go_region_held3 (fun w' => w'.cell? ⟨w3.heap.size, 8, none⟩ = some (.int .u8 2) ∧ w'.cell? ⟨w3.heap.size, 9, none⟩ = some (.int .u8 1) ∧ w'.cell? ⟨w3.heap.size, 10, none⟩ = some (.int .u8 3) ∧ w'.cell? ⟨w3.heap.size, 11, none⟩ = some (.int .i64 1) ∧ w'.cell? ⟨w3.heap.size, 12, none⟩ = some (.int .u8 0) ∧ w'.cell? ⟨w3.heap.size, 13, none⟩ = some (.int .u8 0) ∧ w'.cell? ⟨w3.heap.size, 14, none⟩ = some (.int .u8 0) ∧ w'.cell? ⟨w3.heap.size, 15, none⟩ = some (.string ⟨#[]⟩) ∧ w'.cell? ⟨w3.heap.size + 1, 1, none⟩ = some (.int .i64 13)) (first | with_reducible exact ⟨c0, c1, c2, c3, c4, c5, c6, c7, k0⟩ | with_reducible exact S9 | with_reducible exact S6) ((go_at_call 10; refine (check_any f1 _).mono ?_; rintro e w6 ⟨rfl, g6⟩; rw [f1_is]; have L6 : Hid (ListsAt w6 w3.heap.size (w3.heap.size + 1)) := L5.out.keep (grown_trans (grown_drew _) g6); have S6 := nine1 L6.out.bd L6.out.cd))
      have G6 : Hid (w.grownBy w6 none) := grown_trans G5.out (grown_trans (grown_drew _) g6)
      clear S6 G5 L5 g6
      go_wp2
      go_roundw
      case rel => exact ⟨2, by omega, by go_num, L6.out, G6.out⟩
      case measure => simp [intOf]
    · have c0 : wr.cell? ⟨w3.heap.size, 16, none⟩ = some (.int .u8 1) := cb 16
      have c1 : wr.cell? ⟨w3.heap.size, 17, none⟩ = some (.int .u8 6) := cb 17
      have c2 : wr.cell? ⟨w3.heap.size, 18, none⟩ = some (.int .u8 2) := cb 18
      have c3 : wr.cell? ⟨w3.heap.size, 19, none⟩ = some (.int .i64 0) := cb 19
      have c4 : wr.cell? ⟨w3.heap.size, 20, none⟩ = some (.int .u8 0) := cb 20
      have c5 : wr.cell? ⟨w3.heap.size, 21, none⟩ = some (.int .u8 0) := cb 21
      have c6 : wr.cell? ⟨w3.heap.size, 22, none⟩ = some (.int .u8 0) := cb 22
      have c7 : wr.cell? ⟨w3.heap.size, 23, none⟩ = some (.string ⟨#[]⟩) := cb 23
      clear cb cc
      go_wp2_with fail
      refine (print_any f2 _ (HL.out.keep HG.out)).mono ?_
      rintro e w5 ⟨rfl, g5⟩
      rw [f2_no, f2_is]
      have L5 : Hid (ListsAt w5 w3.heap.size (w3.heap.size + 1)) := HLL.out.keep g5
      have G5 : Hid (w.grownBy w5 none) := grown_trans HG.out g5
      clear c0 c1 c2 c3 c4 c5 c6 c7 g5 HLL HG
      have c0 : w5.cell? ⟨w3.heap.size, 16, none⟩ = some (.int .u8 1) := block_cell L5.out.bd 16
      have c1 : w5.cell? ⟨w3.heap.size, 17, none⟩ = some (.int .u8 6) := block_cell L5.out.bd 17
      have c2 : w5.cell? ⟨w3.heap.size, 18, none⟩ = some (.int .u8 2) := block_cell L5.out.bd 18
      have c3 : w5.cell? ⟨w3.heap.size, 19, none⟩ = some (.int .i64 0) := block_cell L5.out.bd 19
      have c4 : w5.cell? ⟨w3.heap.size, 20, none⟩ = some (.int .u8 0) := block_cell L5.out.bd 20
      have c5 : w5.cell? ⟨w3.heap.size, 21, none⟩ = some (.int .u8 0) := block_cell L5.out.bd 21
      have c6 : w5.cell? ⟨w3.heap.size, 22, none⟩ = some (.int .u8 0) := block_cell L5.out.bd 22
      have c7 : w5.cell? ⟨w3.heap.size, 23, none⟩ = some (.string ⟨#[]⟩) := block_cell L5.out.bd 23
      have k0 : w5.cell? ⟨w3.heap.size + 1, 2, none⟩ = some (.int .i64 13) := block_cell L5.out.cd 2
      have S9 := nine2 (L5.out.keep (grown_drew w5)).bd (L5.out.keep (grown_drew w5)).cd
      go_wp2_with fail
      go_region_held3 (fun w' => w'.cell? ⟨w3.heap.size, 16, none⟩ = some (.int .u8 1) ∧ w'.cell? ⟨w3.heap.size, 17, none⟩ = some (.int .u8 6) ∧ w'.cell? ⟨w3.heap.size, 18, none⟩ = some (.int .u8 2) ∧ w'.cell? ⟨w3.heap.size, 19, none⟩ = some (.int .i64 0) ∧ w'.cell? ⟨w3.heap.size, 20, none⟩ = some (.int .u8 0) ∧ w'.cell? ⟨w3.heap.size, 21, none⟩ = some (.int .u8 0) ∧ w'.cell? ⟨w3.heap.size, 22, none⟩ = some (.int .u8 0) ∧ w'.cell? ⟨w3.heap.size, 23, none⟩ = some (.string ⟨#[]⟩) ∧ w'.cell? ⟨w3.heap.size + 1, 2, none⟩ = some (.int .i64 13)) (first | with_reducible exact ⟨c0, c1, c2, c3, c4, c5, c6, c7, k0⟩ | with_reducible exact S9 | with_reducible exact S6) ((go_at_call 10; refine (check_any f2 _).mono ?_; rintro e w6 ⟨rfl, g6⟩; rw [f2_is]; have L6 : Hid (ListsAt w6 w3.heap.size (w3.heap.size + 1)) := L5.out.keep (grown_trans (grown_drew _) g6); have S6 := nine2 L6.out.bd L6.out.cd))
      have G6 : Hid (w.grownBy w6 none) := grown_trans G5.out (grown_trans (grown_drew _) g6)
      clear S6 G5 L5 g6
      go_wp2
      go_roundw
      case rel => exact ⟨3, by omega, by go_num, L6.out, G6.out⟩
      case measure => simp [intOf]
    · have c0 : wr.cell? ⟨w3.heap.size, 24, none⟩ = some (.int .u8 1) := cb 24
      have c1 : wr.cell? ⟨w3.heap.size, 25, none⟩ = some (.int .u8 1) := cb 25
      have c2 : wr.cell? ⟨w3.heap.size, 26, none⟩ = some (.int .u8 3) := cb 26
      have c3 : wr.cell? ⟨w3.heap.size, 27, none⟩ = some (.int .i64 0) := cb 27
      have c4 : wr.cell? ⟨w3.heap.size, 28, none⟩ = some (.int .u8 0) := cb 28
      have c5 : wr.cell? ⟨w3.heap.size, 29, none⟩ = some (.int .u8 0) := cb 29
      have c6 : wr.cell? ⟨w3.heap.size, 30, none⟩ = some (.int .u8 0) := cb 30
      have c7 : wr.cell? ⟨w3.heap.size, 31, none⟩ = some (.string ⟨#[]⟩) := cb 31
      clear cb cc
      go_wp2_with fail
      refine (print_any f3 _ (HL.out.keep HG.out)).mono ?_
      rintro e w5 ⟨rfl, g5⟩
      rw [f3_no, f3_is]
      have L5 : Hid (ListsAt w5 w3.heap.size (w3.heap.size + 1)) := HLL.out.keep g5
      have G5 : Hid (w.grownBy w5 none) := grown_trans HG.out g5
      clear c0 c1 c2 c3 c4 c5 c6 c7 g5 HLL HG
      have c0 : w5.cell? ⟨w3.heap.size, 24, none⟩ = some (.int .u8 1) := block_cell L5.out.bd 24
      have c1 : w5.cell? ⟨w3.heap.size, 25, none⟩ = some (.int .u8 1) := block_cell L5.out.bd 25
      have c2 : w5.cell? ⟨w3.heap.size, 26, none⟩ = some (.int .u8 3) := block_cell L5.out.bd 26
      have c3 : w5.cell? ⟨w3.heap.size, 27, none⟩ = some (.int .i64 0) := block_cell L5.out.bd 27
      have c4 : w5.cell? ⟨w3.heap.size, 28, none⟩ = some (.int .u8 0) := block_cell L5.out.bd 28
      have c5 : w5.cell? ⟨w3.heap.size, 29, none⟩ = some (.int .u8 0) := block_cell L5.out.bd 29
      have c6 : w5.cell? ⟨w3.heap.size, 30, none⟩ = some (.int .u8 0) := block_cell L5.out.bd 30
      have c7 : w5.cell? ⟨w3.heap.size, 31, none⟩ = some (.string ⟨#[]⟩) := block_cell L5.out.bd 31
      have k0 : w5.cell? ⟨w3.heap.size + 1, 3, none⟩ = some (.int .i64 2) := block_cell L5.out.cd 3
      have S9 := nine3 (L5.out.keep (grown_drew w5)).bd (L5.out.keep (grown_drew w5)).cd
      go_wp2_with fail
      go_region_held3 (fun w' => w'.cell? ⟨w3.heap.size, 24, none⟩ = some (.int .u8 1) ∧ w'.cell? ⟨w3.heap.size, 25, none⟩ = some (.int .u8 1) ∧ w'.cell? ⟨w3.heap.size, 26, none⟩ = some (.int .u8 3) ∧ w'.cell? ⟨w3.heap.size, 27, none⟩ = some (.int .i64 0) ∧ w'.cell? ⟨w3.heap.size, 28, none⟩ = some (.int .u8 0) ∧ w'.cell? ⟨w3.heap.size, 29, none⟩ = some (.int .u8 0) ∧ w'.cell? ⟨w3.heap.size, 30, none⟩ = some (.int .u8 0) ∧ w'.cell? ⟨w3.heap.size, 31, none⟩ = some (.string ⟨#[]⟩) ∧ w'.cell? ⟨w3.heap.size + 1, 3, none⟩ = some (.int .i64 2)) (first | with_reducible exact ⟨c0, c1, c2, c3, c4, c5, c6, c7, k0⟩ | with_reducible exact S9 | with_reducible exact S6) ((go_at_call 10; refine (check_any f3 _).mono ?_; rintro e w6 ⟨rfl, g6⟩; rw [f3_is]; have L6 : Hid (ListsAt w6 w3.heap.size (w3.heap.size + 1)) := L5.out.keep (grown_trans (grown_drew _) g6); have S6 := nine3 L6.out.bd L6.out.cd))
      have G6 : Hid (w.grownBy w6 none) := grown_trans G5.out (grown_trans (grown_drew _) g6)
      clear S6 G5 L5 g6
      go_wp2
      go_roundw
      case rel => exact ⟨4, by omega, by go_num, L6.out, G6.out⟩
      case measure => simp [intOf]
    · have c0 : wr.cell? ⟨w3.heap.size, 32, none⟩ = some (.int .u8 1) := cb 32
      have c1 : wr.cell? ⟨w3.heap.size, 33, none⟩ = some (.int .u8 6) := cb 33
      have c2 : wr.cell? ⟨w3.heap.size, 34, none⟩ = some (.int .u8 3) := cb 34
      have c3 : wr.cell? ⟨w3.heap.size, 35, none⟩ = some (.int .i64 1) := cb 35
      have c4 : wr.cell? ⟨w3.heap.size, 36, none⟩ = some (.int .u8 0) := cb 36
      have c5 : wr.cell? ⟨w3.heap.size, 37, none⟩ = some (.int .u8 0) := cb 37
      have c6 : wr.cell? ⟨w3.heap.size, 38, none⟩ = some (.int .u8 0) := cb 38
      have c7 : wr.cell? ⟨w3.heap.size, 39, none⟩ = some (.string ⟨#[]⟩) := cb 39
      clear cb cc
      go_wp2_with fail
      refine (print_any f4 _ (HL.out.keep HG.out)).mono ?_
      rintro e w5 ⟨rfl, g5⟩
      rw [f4_no, f4_is]
      have L5 : Hid (ListsAt w5 w3.heap.size (w3.heap.size + 1)) := HLL.out.keep g5
      have G5 : Hid (w.grownBy w5 none) := grown_trans HG.out g5
      clear c0 c1 c2 c3 c4 c5 c6 c7 g5 HLL HG
      have c0 : w5.cell? ⟨w3.heap.size, 32, none⟩ = some (.int .u8 1) := block_cell L5.out.bd 32
      have c1 : w5.cell? ⟨w3.heap.size, 33, none⟩ = some (.int .u8 6) := block_cell L5.out.bd 33
      have c2 : w5.cell? ⟨w3.heap.size, 34, none⟩ = some (.int .u8 3) := block_cell L5.out.bd 34
      have c3 : w5.cell? ⟨w3.heap.size, 35, none⟩ = some (.int .i64 1) := block_cell L5.out.bd 35
      have c4 : w5.cell? ⟨w3.heap.size, 36, none⟩ = some (.int .u8 0) := block_cell L5.out.bd 36
      have c5 : w5.cell? ⟨w3.heap.size, 37, none⟩ = some (.int .u8 0) := block_cell L5.out.bd 37
      have c6 : w5.cell? ⟨w3.heap.size, 38, none⟩ = some (.int .u8 0) := block_cell L5.out.bd 38
      have c7 : w5.cell? ⟨w3.heap.size, 39, none⟩ = some (.string ⟨#[]⟩) := block_cell L5.out.bd 39
      have k0 : w5.cell? ⟨w3.heap.size + 1, 4, none⟩ = some (.int .i64 2) := block_cell L5.out.cd 4
      have S9 := nine4 (L5.out.keep (grown_drew w5)).bd (L5.out.keep (grown_drew w5)).cd
      go_wp2_with fail
      go_region_held3 (fun w' => w'.cell? ⟨w3.heap.size, 32, none⟩ = some (.int .u8 1) ∧ w'.cell? ⟨w3.heap.size, 33, none⟩ = some (.int .u8 6) ∧ w'.cell? ⟨w3.heap.size, 34, none⟩ = some (.int .u8 3) ∧ w'.cell? ⟨w3.heap.size, 35, none⟩ = some (.int .i64 1) ∧ w'.cell? ⟨w3.heap.size, 36, none⟩ = some (.int .u8 0) ∧ w'.cell? ⟨w3.heap.size, 37, none⟩ = some (.int .u8 0) ∧ w'.cell? ⟨w3.heap.size, 38, none⟩ = some (.int .u8 0) ∧ w'.cell? ⟨w3.heap.size, 39, none⟩ = some (.string ⟨#[]⟩) ∧ w'.cell? ⟨w3.heap.size + 1, 4, none⟩ = some (.int .i64 2)) (first | with_reducible exact ⟨c0, c1, c2, c3, c4, c5, c6, c7, k0⟩ | with_reducible exact S9 | with_reducible exact S6) ((go_at_call 10; refine (check_any f4 _).mono ?_; rintro e w6 ⟨rfl, g6⟩; rw [f4_is]; have L6 : Hid (ListsAt w6 w3.heap.size (w3.heap.size + 1)) := L5.out.keep (grown_trans (grown_drew _) g6); have S6 := nine4 L6.out.bd L6.out.cd))
      have G6 : Hid (w.grownBy w6 none) := grown_trans G5.out (grown_trans (grown_drew _) g6)
      clear S6 G5 L5 g6
      go_wp2
      go_roundw
      case rel => exact ⟨5, by omega, by go_num, L6.out, G6.out⟩
      case measure => simp [intOf]
    · have c0 : wr.cell? ⟨w3.heap.size, 40, none⟩ = some (.int .u8 1) := cb 40
      have c1 : wr.cell? ⟨w3.heap.size, 41, none⟩ = some (.int .u8 9) := cb 41
      have c2 : wr.cell? ⟨w3.heap.size, 42, none⟩ = some (.int .u8 4) := cb 42
      have c3 : wr.cell? ⟨w3.heap.size, 43, none⟩ = some (.int .i64 1) := cb 43
      have c4 : wr.cell? ⟨w3.heap.size, 44, none⟩ = some (.int .u8 0) := cb 44
      have c5 : wr.cell? ⟨w3.heap.size, 45, none⟩ = some (.int .u8 0) := cb 45
      have c6 : wr.cell? ⟨w3.heap.size, 46, none⟩ = some (.int .u8 0) := cb 46
      have c7 : wr.cell? ⟨w3.heap.size, 47, none⟩ = some (.string ⟨#[]⟩) := cb 47
      clear cb cc
      go_wp2_with fail
      refine (print_any f5 _ (HL.out.keep HG.out)).mono ?_
      rintro e w5 ⟨rfl, g5⟩
      rw [f5_no, f5_is]
      have L5 : Hid (ListsAt w5 w3.heap.size (w3.heap.size + 1)) := HLL.out.keep g5
      have G5 : Hid (w.grownBy w5 none) := grown_trans HG.out g5
      clear c0 c1 c2 c3 c4 c5 c6 c7 g5 HLL HG
      have c0 : w5.cell? ⟨w3.heap.size, 40, none⟩ = some (.int .u8 1) := block_cell L5.out.bd 40
      have c1 : w5.cell? ⟨w3.heap.size, 41, none⟩ = some (.int .u8 9) := block_cell L5.out.bd 41
      have c2 : w5.cell? ⟨w3.heap.size, 42, none⟩ = some (.int .u8 4) := block_cell L5.out.bd 42
      have c3 : w5.cell? ⟨w3.heap.size, 43, none⟩ = some (.int .i64 1) := block_cell L5.out.bd 43
      have c4 : w5.cell? ⟨w3.heap.size, 44, none⟩ = some (.int .u8 0) := block_cell L5.out.bd 44
      have c5 : w5.cell? ⟨w3.heap.size, 45, none⟩ = some (.int .u8 0) := block_cell L5.out.bd 45
      have c6 : w5.cell? ⟨w3.heap.size, 46, none⟩ = some (.int .u8 0) := block_cell L5.out.bd 46
      have c7 : w5.cell? ⟨w3.heap.size, 47, none⟩ = some (.string ⟨#[]⟩) := block_cell L5.out.bd 47
      have k0 : w5.cell? ⟨w3.heap.size + 1, 5, none⟩ = some (.int .i64 2) := block_cell L5.out.cd 5
      have S9 := nine5 (L5.out.keep (grown_drew w5)).bd (L5.out.keep (grown_drew w5)).cd
      go_wp2_with fail
      go_region_held3 (fun w' => w'.cell? ⟨w3.heap.size, 40, none⟩ = some (.int .u8 1) ∧ w'.cell? ⟨w3.heap.size, 41, none⟩ = some (.int .u8 9) ∧ w'.cell? ⟨w3.heap.size, 42, none⟩ = some (.int .u8 4) ∧ w'.cell? ⟨w3.heap.size, 43, none⟩ = some (.int .i64 1) ∧ w'.cell? ⟨w3.heap.size, 44, none⟩ = some (.int .u8 0) ∧ w'.cell? ⟨w3.heap.size, 45, none⟩ = some (.int .u8 0) ∧ w'.cell? ⟨w3.heap.size, 46, none⟩ = some (.int .u8 0) ∧ w'.cell? ⟨w3.heap.size, 47, none⟩ = some (.string ⟨#[]⟩) ∧ w'.cell? ⟨w3.heap.size + 1, 5, none⟩ = some (.int .i64 2)) (first | with_reducible exact ⟨c0, c1, c2, c3, c4, c5, c6, c7, k0⟩ | with_reducible exact S9 | with_reducible exact S6) ((go_at_call 10; refine (check_any f5 _).mono ?_; rintro e w6 ⟨rfl, g6⟩; rw [f5_is]; have L6 : Hid (ListsAt w6 w3.heap.size (w3.heap.size + 1)) := L5.out.keep (grown_trans (grown_drew _) g6); have S6 := nine5 L6.out.bd L6.out.cd))
      have G6 : Hid (w.grownBy w6 none) := grown_trans G5.out (grown_trans (grown_drew _) g6)
      clear S6 G5 L5 g6
      go_wp2
      go_roundw
      case rel => exact ⟨6, by omega, by go_num, L6.out, G6.out⟩
      case measure => simp [intOf]
    · have c0 : wr.cell? ⟨w3.heap.size, 48, none⟩ = some (.int .u8 1) := cb 48
      have c1 : wr.cell? ⟨w3.heap.size, 49, none⟩ = some (.int .u8 7) := cb 49
      have c2 : wr.cell? ⟨w3.heap.size, 50, none⟩ = some (.int .u8 1) := cb 50
      have c3 : wr.cell? ⟨w3.heap.size, 51, none⟩ = some (.int .i64 1) := cb 51
      have c4 : wr.cell? ⟨w3.heap.size, 52, none⟩ = some (.int .u8 0) := cb 52
      have c5 : wr.cell? ⟨w3.heap.size, 53, none⟩ = some (.int .u8 0) := cb 53
      have c6 : wr.cell? ⟨w3.heap.size, 54, none⟩ = some (.int .u8 0) := cb 54
      have c7 : wr.cell? ⟨w3.heap.size, 55, none⟩ = some (.string ⟨#[]⟩) := cb 55
      clear cb cc
      go_wp2_with fail
      refine (print_any f6 _ (HL.out.keep HG.out)).mono ?_
      rintro e w5 ⟨rfl, g5⟩
      rw [f6_no, f6_is]
      have L5 : Hid (ListsAt w5 w3.heap.size (w3.heap.size + 1)) := HLL.out.keep g5
      have G5 : Hid (w.grownBy w5 none) := grown_trans HG.out g5
      clear c0 c1 c2 c3 c4 c5 c6 c7 g5 HLL HG
      have c0 : w5.cell? ⟨w3.heap.size, 48, none⟩ = some (.int .u8 1) := block_cell L5.out.bd 48
      have c1 : w5.cell? ⟨w3.heap.size, 49, none⟩ = some (.int .u8 7) := block_cell L5.out.bd 49
      have c2 : w5.cell? ⟨w3.heap.size, 50, none⟩ = some (.int .u8 1) := block_cell L5.out.bd 50
      have c3 : w5.cell? ⟨w3.heap.size, 51, none⟩ = some (.int .i64 1) := block_cell L5.out.bd 51
      have c4 : w5.cell? ⟨w3.heap.size, 52, none⟩ = some (.int .u8 0) := block_cell L5.out.bd 52
      have c5 : w5.cell? ⟨w3.heap.size, 53, none⟩ = some (.int .u8 0) := block_cell L5.out.bd 53
      have c6 : w5.cell? ⟨w3.heap.size, 54, none⟩ = some (.int .u8 0) := block_cell L5.out.bd 54
      have c7 : w5.cell? ⟨w3.heap.size, 55, none⟩ = some (.string ⟨#[]⟩) := block_cell L5.out.bd 55
      have k0 : w5.cell? ⟨w3.heap.size + 1, 6, none⟩ = some (.int .i64 4) := block_cell L5.out.cd 6
      have S9 := nine6 (L5.out.keep (grown_drew w5)).bd (L5.out.keep (grown_drew w5)).cd
      go_wp2_with fail
      go_region_held3 (fun w' => w'.cell? ⟨w3.heap.size, 48, none⟩ = some (.int .u8 1) ∧ w'.cell? ⟨w3.heap.size, 49, none⟩ = some (.int .u8 7) ∧ w'.cell? ⟨w3.heap.size, 50, none⟩ = some (.int .u8 1) ∧ w'.cell? ⟨w3.heap.size, 51, none⟩ = some (.int .i64 1) ∧ w'.cell? ⟨w3.heap.size, 52, none⟩ = some (.int .u8 0) ∧ w'.cell? ⟨w3.heap.size, 53, none⟩ = some (.int .u8 0) ∧ w'.cell? ⟨w3.heap.size, 54, none⟩ = some (.int .u8 0) ∧ w'.cell? ⟨w3.heap.size, 55, none⟩ = some (.string ⟨#[]⟩) ∧ w'.cell? ⟨w3.heap.size + 1, 6, none⟩ = some (.int .i64 4)) (first | with_reducible exact ⟨c0, c1, c2, c3, c4, c5, c6, c7, k0⟩ | with_reducible exact S9 | with_reducible exact S6) ((go_at_call 10; refine (check_any f6 _).mono ?_; rintro e w6 ⟨rfl, g6⟩; rw [f6_is]; have L6 : Hid (ListsAt w6 w3.heap.size (w3.heap.size + 1)) := L5.out.keep (grown_trans (grown_drew _) g6); have S6 := nine6 L6.out.bd L6.out.cd))
      have G6 : Hid (w.grownBy w6 none) := grown_trans G5.out (grown_trans (grown_drew _) g6)
      clear S6 G5 L5 g6
      go_wp2
      go_roundw
      case rel => exact ⟨7, by omega, by go_num, L6.out, G6.out⟩
      case measure => simp [intOf]
    · have c0 : wr.cell? ⟨w3.heap.size, 56, none⟩ = some (.int .u8 5) := cb 56
      have c1 : wr.cell? ⟨w3.heap.size, 57, none⟩ = some (.int .u8 11) := cb 57
      have c2 : wr.cell? ⟨w3.heap.size, 58, none⟩ = some (.int .u8 9) := cb 58
      have c3 : wr.cell? ⟨w3.heap.size, 59, none⟩ = some (.int .i64 0) := cb 59
      have c4 : wr.cell? ⟨w3.heap.size, 60, none⟩ = some (.int .u8 1) := cb 60
      have c5 : wr.cell? ⟨w3.heap.size, 61, none⟩ = some (.int .u8 0) := cb 61
      have c6 : wr.cell? ⟨w3.heap.size, 62, none⟩ = some (.int .u8 0) := cb 62
      have c7 : wr.cell? ⟨w3.heap.size, 63, none⟩ = some (.string ⟨#[]⟩) := cb 63
      clear cb cc
      go_wp2_with fail
      refine (print_any f7 _ (HL.out.keep HG.out)).mono ?_
      rintro e w5 ⟨rfl, g5⟩
      rw [f7_no, f7_is]
      have L5 : Hid (ListsAt w5 w3.heap.size (w3.heap.size + 1)) := HLL.out.keep g5
      have G5 : Hid (w.grownBy w5 none) := grown_trans HG.out g5
      clear c0 c1 c2 c3 c4 c5 c6 c7 g5 HLL HG
      have c0 : w5.cell? ⟨w3.heap.size, 56, none⟩ = some (.int .u8 5) := block_cell L5.out.bd 56
      have c1 : w5.cell? ⟨w3.heap.size, 57, none⟩ = some (.int .u8 11) := block_cell L5.out.bd 57
      have c2 : w5.cell? ⟨w3.heap.size, 58, none⟩ = some (.int .u8 9) := block_cell L5.out.bd 58
      have c3 : w5.cell? ⟨w3.heap.size, 59, none⟩ = some (.int .i64 0) := block_cell L5.out.bd 59
      have c4 : w5.cell? ⟨w3.heap.size, 60, none⟩ = some (.int .u8 1) := block_cell L5.out.bd 60
      have c5 : w5.cell? ⟨w3.heap.size, 61, none⟩ = some (.int .u8 0) := block_cell L5.out.bd 61
      have c6 : w5.cell? ⟨w3.heap.size, 62, none⟩ = some (.int .u8 0) := block_cell L5.out.bd 62
      have c7 : w5.cell? ⟨w3.heap.size, 63, none⟩ = some (.string ⟨#[]⟩) := block_cell L5.out.bd 63
      have k0 : w5.cell? ⟨w3.heap.size + 1, 7, none⟩ = some (.int .i64 8) := block_cell L5.out.cd 7
      have S9 := nine7 (L5.out.keep (grown_drew w5)).bd (L5.out.keep (grown_drew w5)).cd
      go_wp2_with fail
      go_region_held3 (fun w' => w'.cell? ⟨w3.heap.size, 56, none⟩ = some (.int .u8 5) ∧ w'.cell? ⟨w3.heap.size, 57, none⟩ = some (.int .u8 11) ∧ w'.cell? ⟨w3.heap.size, 58, none⟩ = some (.int .u8 9) ∧ w'.cell? ⟨w3.heap.size, 59, none⟩ = some (.int .i64 0) ∧ w'.cell? ⟨w3.heap.size, 60, none⟩ = some (.int .u8 1) ∧ w'.cell? ⟨w3.heap.size, 61, none⟩ = some (.int .u8 0) ∧ w'.cell? ⟨w3.heap.size, 62, none⟩ = some (.int .u8 0) ∧ w'.cell? ⟨w3.heap.size, 63, none⟩ = some (.string ⟨#[]⟩) ∧ w'.cell? ⟨w3.heap.size + 1, 7, none⟩ = some (.int .i64 8)) (first | with_reducible exact ⟨c0, c1, c2, c3, c4, c5, c6, c7, k0⟩ | with_reducible exact S9 | with_reducible exact S6) ((go_at_call 10; refine (check_any f7 _).mono ?_; rintro e w6 ⟨rfl, g6⟩; rw [f7_is]; have L6 : Hid (ListsAt w6 w3.heap.size (w3.heap.size + 1)) := L5.out.keep (grown_trans (grown_drew _) g6); have S6 := nine7 L6.out.bd L6.out.cd))
      have G6 : Hid (w.grownBy w6 none) := grown_trans G5.out (grown_trans (grown_drew _) g6)
      clear S6 G5 L5 g6
      go_wp2
      go_roundw
      case rel => exact ⟨8, by omega, by go_num, L6.out, G6.out⟩
      case measure => simp [intOf]
    · have c0 : wr.cell? ⟨w3.heap.size, 64, none⟩ = some (.int .u8 0) := cb 64
      have c1 : wr.cell? ⟨w3.heap.size, 65, none⟩ = some (.int .u8 0) := cb 65
      have c2 : wr.cell? ⟨w3.heap.size, 66, none⟩ = some (.int .u8 0) := cb 66
      have c3 : wr.cell? ⟨w3.heap.size, 67, none⟩ = some (.int .i64 0) := cb 67
      have c4 : wr.cell? ⟨w3.heap.size, 68, none⟩ = some (.int .u8 0) := cb 68
      have c5 : wr.cell? ⟨w3.heap.size, 69, none⟩ = some (.int .u8 0) := cb 69
      have c6 : wr.cell? ⟨w3.heap.size, 70, none⟩ = some (.int .u8 0) := cb 70
      have c7 : wr.cell? ⟨w3.heap.size, 71, none⟩ = some (.string ⟨#[]⟩) := cb 71
      clear cb cc
      go_wp2_with fail
      refine (print_any f8 _ (HL.out.keep HG.out)).mono ?_
      rintro e w5 ⟨rfl, g5⟩
      rw [f8_no, f8_is]
      have L5 : Hid (ListsAt w5 w3.heap.size (w3.heap.size + 1)) := HLL.out.keep g5
      have G5 : Hid (w.grownBy w5 none) := grown_trans HG.out g5
      clear c0 c1 c2 c3 c4 c5 c6 c7 g5 HLL HG
      have c0 : w5.cell? ⟨w3.heap.size, 64, none⟩ = some (.int .u8 0) := block_cell L5.out.bd 64
      have c1 : w5.cell? ⟨w3.heap.size, 65, none⟩ = some (.int .u8 0) := block_cell L5.out.bd 65
      have c2 : w5.cell? ⟨w3.heap.size, 66, none⟩ = some (.int .u8 0) := block_cell L5.out.bd 66
      have c3 : w5.cell? ⟨w3.heap.size, 67, none⟩ = some (.int .i64 0) := block_cell L5.out.bd 67
      have c4 : w5.cell? ⟨w3.heap.size, 68, none⟩ = some (.int .u8 0) := block_cell L5.out.bd 68
      have c5 : w5.cell? ⟨w3.heap.size, 69, none⟩ = some (.int .u8 0) := block_cell L5.out.bd 69
      have c6 : w5.cell? ⟨w3.heap.size, 70, none⟩ = some (.int .u8 0) := block_cell L5.out.bd 70
      have c7 : w5.cell? ⟨w3.heap.size, 71, none⟩ = some (.string ⟨#[]⟩) := block_cell L5.out.bd 71
      have k0 : w5.cell? ⟨w3.heap.size + 1, 8, none⟩ = some (.int .i64 2) := block_cell L5.out.cd 8
      have S9 := nine8 (L5.out.keep (grown_drew w5)).bd (L5.out.keep (grown_drew w5)).cd
      go_wp2_with fail
      go_region_held3 (fun w' => w'.cell? ⟨w3.heap.size, 64, none⟩ = some (.int .u8 0) ∧ w'.cell? ⟨w3.heap.size, 65, none⟩ = some (.int .u8 0) ∧ w'.cell? ⟨w3.heap.size, 66, none⟩ = some (.int .u8 0) ∧ w'.cell? ⟨w3.heap.size, 67, none⟩ = some (.int .i64 0) ∧ w'.cell? ⟨w3.heap.size, 68, none⟩ = some (.int .u8 0) ∧ w'.cell? ⟨w3.heap.size, 69, none⟩ = some (.int .u8 0) ∧ w'.cell? ⟨w3.heap.size, 70, none⟩ = some (.int .u8 0) ∧ w'.cell? ⟨w3.heap.size, 71, none⟩ = some (.string ⟨#[]⟩) ∧ w'.cell? ⟨w3.heap.size + 1, 8, none⟩ = some (.int .i64 2)) (first | with_reducible exact ⟨c0, c1, c2, c3, c4, c5, c6, c7, k0⟩ | with_reducible exact S9 | with_reducible exact S6) ((go_at_call 10; refine (check_any f8 _).mono ?_; rintro e w6 ⟨rfl, g6⟩; rw [f8_is]; have L6 : Hid (ListsAt w6 w3.heap.size (w3.heap.size + 1)) := L5.out.keep (grown_trans (grown_drew _) g6); have S6 := nine8 L6.out.bd L6.out.cd))
      have G6 : Hid (w.grownBy w6 none) := grown_trans G5.out (grown_trans (grown_drew _) g6)
      clear S6 G5 L5 g6
      go_wp2
      go_roundw
      case rel => exact ⟨9, by omega, by go_num, L6.out, G6.out⟩
      case measure => simp [intOf]
    · clear cb cc HLL
      go_wp2_with fail
      have B5 := alloc_at wr #[.string ⟨#[112, 108, 97, 121, 101, 100, 32, 32, 104, 97, 114, 109, 32, 105, 116, 32, 51]⟩, .string ⟨#[112, 108, 97, 121, 101, 100, 32, 104, 97, 114, 109, 32, 105, 116, 32, 48, 51]⟩, .string ⟨#[80, 108, 97, 121, 101, 100, 32, 104, 97, 114, 109, 32, 105, 116, 32, 51]⟩, .string ⟨#[]⟩] 9
      have G5 : w.grownBy (wr.alloc (.cells #[.string ⟨#[112, 108, 97, 121, 101, 100, 32, 32, 104, 97, 114, 109, 32, 105, 116, 32, 51]⟩, .string ⟨#[112, 108, 97, 121, 101, 100, 32, 104, 97, 114, 109, 32, 105, 116, 32, 48, 51]⟩, .string ⟨#[80, 108, 97, 121, 101, 100, 32, 104, 97, 114, 109, 32, 105, 116, 32, 51]⟩, .string ⟨#[]⟩] 9)) none := grown_push HG.out _
      obtain ⟨b5, hb5⟩ : ∃ b5, b5 = wr.heap.size := ⟨_, rfl⟩
      obtain ⟨wz, hwz⟩ : ∃ wz, wz = wr := ⟨_, rfl⟩
      rw [← hb5] at B5 ⊢
      rw [← hwz] at B5 G5 ⊢
      clear hb5 hwz HG
      have hr81 := fun W => repeat_any ⟨#[120]⟩ 81 W (by decide) (by decide)
      have hr80 := fun W => repeat_any ⟨#[120]⟩ 80 W (by decide) (by decide)
      rw [show ((81 : Nat) : Int) = 81 from rfl] at hr81
      rw [show ((80 : Nat) : Int) = 80 from rfl] at hr80
      have H81 : Hid (∀ W, Calls Tryz.prog 12 #[.string ⟨#[120]⟩, .int .i64 81] W fun e w' => e = .returned (.string ⟨(Lib.repeatL [120] 81).toArray⟩) ∧ W.grownBy w' none) := hr81
      have H80 : Hid (∀ W, Calls Tryz.prog 12 #[.string ⟨#[120]⟩, .int .i64 80] W fun e w' => e = .returned (.string ⟨(Lib.repeatL [120] 80).toArray⟩) ∧ W.grownBy w' none) := hr80
      have hs0 : samep ⟨0, 0, 0, 0, 0, 0, 0, ⟨#[]⟩⟩ ⟨0, 0, 0, 0, 0, 0, 0, ⟨#[]⟩⟩ = true := by decide
      clear hr81 hr80
      go_loopw [78] (fun t wr => ∃ i : Nat, i ≤ 4 ∧ t = .int .i64 i ∧ wr.heap[b5]? = some (.cells #[.string ⟨#[112, 108, 97, 121, 101, 100, 32, 32, 104, 97, 114, 109, 32, 105, 116, 32, 51]⟩, .string ⟨#[112, 108, 97, 121, 101, 100, 32, 104, 97, 114, 109, 32, 105, 116, 32, 48, 51]⟩, .string ⟨#[80, 108, 97, 121, 101, 100, 32, 104, 97, 114, 109, 32, 105, 116, 32, 51]⟩, .string ⟨#[]⟩] 9 (0, 0)) ∧ w.grownBy wr none) (fun t _ => 4 - (intOf t).toNat)
      case atStart => exact ⟨0, by omega, rfl, B5, G5⟩
      case round =>
        obtain ⟨i, hi, rfl, B, G⟩ := hrel
        clear B5 G5
        have HB : Hid (wr.heap[b5]? = some (.cells #[.string ⟨#[112, 108, 97, 121, 101, 100, 32, 32, 104, 97, 114, 109, 32, 105, 116, 32, 51]⟩, .string ⟨#[112, 108, 97, 121, 101, 100, 32, 104, 97, 114, 109, 32, 105, 116, 32, 48, 51]⟩, .string ⟨#[80, 108, 97, 121, 101, 100, 32, 104, 97, 114, 109, 32, 105, 116, 32, 51]⟩, .string ⟨#[]⟩] 9 (0, 0))) := B
        have HG : Hid (w.grownBy wr none) := G
        clear B G
        rcases (show i = 0 ∨ i = 1 ∨ i = 2 ∨ i = 3 ∨ i = 4 from by omega) with rfl | rfl | rfl | rfl | rfl
        · have c0 : wr.cell? ⟨b5, 0, none⟩ = some (.string ⟨#[112, 108, 97, 121, 101, 100, 32, 32, 104, 97, 114, 109, 32, 105, 116, 32, 51]⟩) := block_cell HB.out 0
          go_wp2_with fail
          refine (parse_any _ _ (HL.out.keep HG.out)).mono ?_
          rintro e w5 ⟨rfl, g5⟩
          rw [g0_is]
          simp only [pe, pv, Pt.none]
          have HB5 : Hid ((w5.alloc (.cells #[.int .u8 0, .int .u8 0, .int .u8 0, .int .i64 0, .int .u8 0, .int .u8 0, .int .u8 0, .string ⟨#[]⟩] 30)).heap[b5]? = some (.cells #[.string ⟨#[112, 108, 97, 121, 101, 100, 32, 32, 104, 97, 114, 109, 32, 105, 116, 32, 51]⟩, .string ⟨#[112, 108, 97, 121, 101, 100, 32, 104, 97, 114, 109, 32, 105, 116, 32, 48, 51]⟩, .string ⟨#[80, 108, 97, 121, 101, 100, 32, 104, 97, 114, 109, 32, 105, 116, 32, 51]⟩, .string ⟨#[]⟩] 9 (0, 0))) := grown_keep (World.grownBy_alloc _ _ none) (grown_keep g5 HB.out (by simp)) (by simp)
          have HG5 : Hid (w.grownBy (w5.alloc (.cells #[.int .u8 0, .int .u8 0, .int .u8 0, .int .i64 0, .int .u8 0, .int .u8 0, .int .u8 0, .string ⟨#[]⟩] 30)) none) := grown_push (grown_trans HG.out g5) _
          clear g5 HB HG c0
          go_wp2
          go_roundw
          case rel => exact ⟨1, by omega, by go_num, HB5.out, HG5.out⟩
          case measure => simp [intOf]
        · have c0 : wr.cell? ⟨b5, 1, none⟩ = some (.string ⟨#[112, 108, 97, 121, 101, 100, 32, 104, 97, 114, 109, 32, 105, 116, 32, 48, 51]⟩) := block_cell HB.out 1
          go_wp2_with fail
          refine (parse_any _ _ (HL.out.keep HG.out)).mono ?_
          rintro e w5 ⟨rfl, g5⟩
          rw [g1_is]
          simp only [pe, pv, Pt.none]
          have HB5 : Hid ((w5.alloc (.cells #[.int .u8 0, .int .u8 0, .int .u8 0, .int .i64 0, .int .u8 0, .int .u8 0, .int .u8 0, .string ⟨#[]⟩] 30)).heap[b5]? = some (.cells #[.string ⟨#[112, 108, 97, 121, 101, 100, 32, 32, 104, 97, 114, 109, 32, 105, 116, 32, 51]⟩, .string ⟨#[112, 108, 97, 121, 101, 100, 32, 104, 97, 114, 109, 32, 105, 116, 32, 48, 51]⟩, .string ⟨#[80, 108, 97, 121, 101, 100, 32, 104, 97, 114, 109, 32, 105, 116, 32, 51]⟩, .string ⟨#[]⟩] 9 (0, 0))) := grown_keep (World.grownBy_alloc _ _ none) (grown_keep g5 HB.out (by simp)) (by simp)
          have HG5 : Hid (w.grownBy (w5.alloc (.cells #[.int .u8 0, .int .u8 0, .int .u8 0, .int .i64 0, .int .u8 0, .int .u8 0, .int .u8 0, .string ⟨#[]⟩] 30)) none) := grown_push (grown_trans HG.out g5) _
          clear g5 HB HG c0
          go_wp2
          go_roundw
          case rel => exact ⟨2, by omega, by go_num, HB5.out, HG5.out⟩
          case measure => simp [intOf]
        · have c0 : wr.cell? ⟨b5, 2, none⟩ = some (.string ⟨#[80, 108, 97, 121, 101, 100, 32, 104, 97, 114, 109, 32, 105, 116, 32, 51]⟩) := block_cell HB.out 2
          go_wp2_with fail
          refine (parse_any _ _ (HL.out.keep HG.out)).mono ?_
          rintro e w5 ⟨rfl, g5⟩
          rw [g2_is]
          simp only [pe, pv, Pt.none]
          have HB5 : Hid ((w5.alloc (.cells #[.int .u8 0, .int .u8 0, .int .u8 0, .int .i64 0, .int .u8 0, .int .u8 0, .int .u8 0, .string ⟨#[]⟩] 30)).heap[b5]? = some (.cells #[.string ⟨#[112, 108, 97, 121, 101, 100, 32, 32, 104, 97, 114, 109, 32, 105, 116, 32, 51]⟩, .string ⟨#[112, 108, 97, 121, 101, 100, 32, 104, 97, 114, 109, 32, 105, 116, 32, 48, 51]⟩, .string ⟨#[80, 108, 97, 121, 101, 100, 32, 104, 97, 114, 109, 32, 105, 116, 32, 51]⟩, .string ⟨#[]⟩] 9 (0, 0))) := grown_keep (World.grownBy_alloc _ _ none) (grown_keep g5 HB.out (by simp)) (by simp)
          have HG5 : Hid (w.grownBy (w5.alloc (.cells #[.int .u8 0, .int .u8 0, .int .u8 0, .int .i64 0, .int .u8 0, .int .u8 0, .int .u8 0, .string ⟨#[]⟩] 30)) none) := grown_push (grown_trans HG.out g5) _
          clear g5 HB HG c0
          go_wp2
          go_roundw
          case rel => exact ⟨3, by omega, by go_num, HB5.out, HG5.out⟩
          case measure => simp [intOf]
        · have c0 : wr.cell? ⟨b5, 3, none⟩ = some (.string ⟨#[]⟩) := block_cell HB.out 3
          go_wp2_with fail
          refine (parse_any _ _ (HL.out.keep HG.out)).mono ?_
          rintro e w5 ⟨rfl, g5⟩
          rw [g3_is]
          simp only [pe, pv, Pt.none]
          have HB5 : Hid ((w5.alloc (.cells #[.int .u8 0, .int .u8 0, .int .u8 0, .int .i64 0, .int .u8 0, .int .u8 0, .int .u8 0, .string ⟨#[]⟩] 30)).heap[b5]? = some (.cells #[.string ⟨#[112, 108, 97, 121, 101, 100, 32, 32, 104, 97, 114, 109, 32, 105, 116, 32, 51]⟩, .string ⟨#[112, 108, 97, 121, 101, 100, 32, 104, 97, 114, 109, 32, 105, 116, 32, 48, 51]⟩, .string ⟨#[80, 108, 97, 121, 101, 100, 32, 104, 97, 114, 109, 32, 105, 116, 32, 51]⟩, .string ⟨#[]⟩] 9 (0, 0))) := grown_keep (World.grownBy_alloc _ _ none) (grown_keep g5 HB.out (by simp)) (by simp)
          have HG5 : Hid (w.grownBy (w5.alloc (.cells #[.int .u8 0, .int .u8 0, .int .u8 0, .int .i64 0, .int .u8 0, .int .u8 0, .int .u8 0, .string ⟨#[]⟩] 30)) none) := grown_push (grown_trans HG.out g5) _
          clear g5 HB HG c0
          go_wp2
          go_roundw
          case rel => exact ⟨4, by omega, by go_num, HB5.out, HG5.out⟩
          case measure => simp [intOf]
        · go_wp2_with fail
          refine (H81.out _).mono ?_
          rintro e w5 ⟨rfl, g5⟩
          have G5 : Hid (w.grownBy w5 none) := grown_trans HG.out g5
          go_wp2_with fail
          refine (parse_any _ _ (HL.out.keep G5.out)).mono ?_
          rintro e w6 ⟨rfl, g6⟩
          rw [x81]
          simp only [pe, pv, Pt.none]
          have G6 : Hid (w.grownBy (w6.alloc (.cells #[.int .u8 0, .int .u8 0, .int .u8 0, .int .i64 0, .int .u8 0, .int .u8 0, .int .u8 0, .string ⟨#[]⟩] 30)) none) := grown_push (grown_trans G5.out g6) _
          clear g5 g6 G5
          go_wp2_with fail
          refine (H80.out _).mono ?_
          rintro e w7 ⟨rfl, g7⟩
          have G7 : Hid (w.grownBy w7 none) := grown_trans G6.out g7
          go_wp2_with fail
          refine (parse_any _ _ (HL.out.keep G7.out)).mono ?_
          rintro e w8 ⟨rfl, g8⟩
          rw [x80]
          simp only [pe, pv, Pt.none]
          have G8 : Hid (w.grownBy (w8.alloc (.cells #[.int .u8 0, .int .u8 0, .int .u8 0, .int .i64 0, .int .u8 0, .int .u8 0, .int .u8 0, .string ⟨#[]⟩] 30)) none) := grown_push (grown_trans G7.out g8) _
          clear g7 g8 G7 G6
          go_wp2_with fail
          refine (lives_any _ (HL.out.keep G8.out)).mono ?_
          rintro e w9 ⟨rfl, g9⟩
          have G9 : Hid (w.grownBy w9 none) := grown_trans G8.out g9
          clear g9 G8
          go_wp2_with fail
          refine (layer_any _ _).mono ?_
          rintro e w10 ⟨rfl, hw⟩
          obtain rfl : w9 = w10 := hw.symm
          rw [show lay 13 = 3 from rfl]
          go_wp2_with fail
          refine (layer_any _ _).mono ?_
          rintro e w11 ⟨rfl, hw⟩
          obtain rfl : w9 = w11 := hw.symm
          rw [show lay 1 = 0 from rfl]
          go_wp2
          go_ret
          exact ⟨rfl, G9.out⟩
end Go.Proofs.YthpoejgmofppbaaGreatDoor
