/-
  TraitBack, walked: of every set that may be Parse of its text is the set; of every text that is read the set's text is the text.
-/
import Derived.Test.YtpnbblimmkdaiaaDoorBits
import Derived.Test.YtpnbblimmkdaiaaDoorKnown
namespace Go.Proofs.YtpnbblimmkdaiaaDoor
open Go.RowKit

set_option maxRecDepth 100000 in
theorem back_all : ∀ k : Fin 256, tParse (prL (tList ((k.val : Nat) : Int))) = (((k.val : Nat) : Int), 0) := by decide +kernel
theorem back_set (s : Int) (h0 : 0 ≤ s) (h1 : s < 256) : tParse (prL (tList s)) = (s, 0) := by
  obtain ⟨k, rfl⟩ := Int.eq_ofNat_of_zero_le h0
  exact back_all ⟨k, by omega⟩
theorem gat_check : ∀ (ps : List (List UInt8)) (set : Int), tCheck set = true → tCheck (gat set ps).1 = true
  | [], set, h => h
  | p :: ps, set, h => by
    unfold gat
    split
    · exact gat_check ps _ (by rw [check_with]; exact h)
    · decide
theorem parse_ways (l : List UInt8) : (∃ f, tParse l = (0, f) ∧ f ≠ 0) ∨ ∃ b, tParse l = (b, 0) ∧ prL (tList b) = l ∧ tCheck b = true := by
  unfold tParse
  split
  · rename_i h
    exact Or.inr ⟨0, rfl, by rw [h]; decide, by decide⟩
  · split
    · exact Or.inl ⟨4, rfl, by decide⟩
    · split
      · rename_i h
        exact Or.inr ⟨_, rfl, h, gat_check _ 0 (by decide)⟩
      · exact Or.inl ⟨5, rfl, by decide⟩
theorem print_len (s : Int) : (tPrint s).size ≤ 9223372036854775807 := by
  have h8 := list_len s
  have ht := tail_len [32] ((tList s).map nameL) (fun x hx => by
    simp at hx
    obtain ⟨t, _, rfl⟩ := hx
    exact name_len t)
  rw [Lib.size_eq]
  show (prL (tList s)).length ≤ _
  unfold prL
  split
  · simp
  · simp at ht
    omega
set_option maxRecDepth 100000 in
set_option maxHeartbeats 4000000 in
theorem back_any (a : Int) (s : ByteArray) (h0 : 0 ≤ a) (h1 : a ≤ 255) (hs : s.size ≤ 9223372036854775807) (w : World) (L : LaidAt w) : Calls Tryd.prog 6 #[.int .u8 a, .string s] w fun e w' => e = .returned (.bool true) ∧ w.grownBy w' none := by
  have hw : IntKind.u16.wrap a = a := by rw [IntKind.wrap_u16]; omega
  have FB : Hid (tParse (tPrint a).data.toList = (a, 0)) := back_set a h0 (by omega)
  have HS : Hid (s.size ≤ 9223372036854775807) := hs
  clear h0 h1 hs
  go_enter Tryd.func6, Tryd.ntmps6
  go_wp2_with fail
  refine (awake_any _ L).mono ?_
  rintro e w1 ⟨rfl, G1⟩
  have L1 := L.keep G1
  clear L
  go_wp2_with fail
  refine (print_any _ _ L1.1).mono ?_
  rintro e w2 ⟨rfl, g2⟩
  have L2 := L1.keep g2
  have G2 := grown_trans G1 g2
  clear L1 G1 g2
  go_wp2_with fail
  refine (parse_any _ (print_len _) _ L2.1).mono ?_
  rintro e w3 ⟨rfl, g3⟩
  rw [FB.out]
  have L3 := L2.keep g3
  have G3 := grown_trans G2 g3
  clear L2 G2 g3
  go_wp2_with fail
  refine (parse_any _ HS.out _ L3.1).mono ?_
  rintro e w4 ⟨rfl, g4⟩
  have L4 := L3.keep g4
  have G4 := grown_trans G3 g4
  clear L3 G3 g4
  rcases parse_ways s.data.toList with ⟨f, hp, hf⟩ | ⟨b, hp, hl, hc⟩
  · rw [hp]
    have hf' : (f == 0) = false := by simpa using hf
    clear hp
    go_wp2_with fail
    go_ret
    exact ⟨rfl, G4⟩
  · rw [hp]
    have hq : ((tPrint b).toList == s.toList) = true := by rw [print_list, Lib.toList_data]; simpa using hl
    have HC : Hid (tCheck b = true) := hc
    clear hp hl hc
    go_wp2_with fail
    refine (print_any _ _ L4.1).mono ?_
    rintro e w5 ⟨rfl, g5⟩
    have G5 := grown_trans G4 g5
    clear L4 G4 g5
    go_wp2_with fail
    refine (check_any _ _).mono ?_
    rintro e w6 ⟨rfl, rfl⟩
    rw [HC.out]
    go_wp2
    go_ret
    exact ⟨rfl, G5⟩
end Go.Proofs.YtpnbblimmkdaiaaDoor
