/-
  What the document's own pieces tells: a text cut wherever another one stands.
-/
import Derived.Test.YtpceelbphpfciaaGreatDoorRCut
import Derived.Test.YtpceelbphpfciaaGreatDoorRPure
namespace Go.Proofs.YtpceelbphpfciaaGreatDoor
open Go.RowKit

theorem ext_hit {s b : ByteArray} {i : Nat} (h : hits s.data.toList b.data.toList i) : ((s.extract i (i + b.size)).toList == b.toList) = true := by
  rw [ext_is, Lib.toList_data, Lib.toList_data, show i + b.size - i = b.data.toList.length by rw [Lib.size_eq]; omega]
  simpa [hits] using h
theorem ext_miss {s b : ByteArray} {i : Nat} (h : ¬ hits s.data.toList b.data.toList i) : ((s.extract i (i + b.size)).toList == b.toList) = false := by
  rw [ext_is, Lib.toList_data, Lib.toList_data, show i + b.size - i = b.data.toList.length by rw [Lib.size_eq]; omega]
  simpa [hits] using h
theorem ext_rest (s : ByteArray) (a : Nat) : s.extract a s.size = ⟨(s.data.toList.drop a).toArray⟩ := by
  rw [ext_is]
  congr 2
  exact List.take_of_length_le (by rw [List.length_drop, ← Lib.size_eq]; omega)
set_option maxRecDepth 100000 in
set_option maxHeartbeats 4000000 in
theorem rpcs_any (s b : ByteArray) (hs : s.size ≤ 1048576) (hb0 : 0 < b.size) (hb1 : b.size ≤ 10) (w : World) : Calls Tryz.prog 59 #[.string s, .string b] w fun e w' => ∃ v, e = .returned v ∧ Own w' w.heap.size 9 v (pcs (rpcs s.data.toList b.data.toList)) ∧ w.grownBy w' none := by
  obtain ⟨i0, hi, hz0, hz1, hz2⟩ := info_parts Tryz.info9
  have HSL : Hid (s.size = s.data.toList.length) := Lib.size_eq s
  have HBL : Hid (b.size = b.data.toList.length) := Lib.size_eq b
  go_enter Tryz.func59, Tryz.ntmps59
  go_wp2_with fail
  go_loopw [5, 6, 7] (fun v a i wr => ∃ (A I : Nat) (out : List (List UInt8)), I ≤ s.size ∧ A ≤ s.size ∧ out.length ≤ I ∧ out ++ gcut s.data.toList b.data.toList A I = rpcs s.data.toList b.data.toList ∧ a = .int .i64 A ∧ i = .int .i64 I ∧ Own wr w.heap.size 9 v (pcs out) ∧ w.grownBy wr none)
    (fun _ _ i _ => s.size - (intOf i).toNat)
  case atStart => exact ⟨0, 0, [], by omega, by omega, by simp, rfl, rfl, rfl, Own.nil _ _ _, grown_refl _ _⟩
  case round =>
    obtain ⟨A, I, out, hI, hA, ho, hC, rfl, rfl, O, G⟩ := hrel
    have HC : Hid (out ++ gcut s.data.toList b.data.toList A I = rpcs s.data.toList b.data.toList) := hC
    clear hC
    have hw : wrap64 ((I : Int) + (b.size : Int)) = (I : Int) + (b.size : Int) := by unfold wrap64; omega
    have hw1 : wrap64 ((I : Int) + 1) = (I : Int) + 1 := by unfold wrap64; omega
    have hI0 : (0 : Int) ≤ (I : Int) := by omega
    have hA0 : (0 : Int) ≤ (A : Int) := by omega
    obtain ⟨q, cp, ev⟩ := O.form
    rw [length_pcs] at ev
    subst ev
    have O1 : World.ownsRow wr w.heap.size 9 1 (.slice q out.length cp) out.length (pcs out) := own_pcs O
    have HO : Hid (Own wr w.heap.size 9 (.slice q out.length cp) (pcs out)) := O
    have hsz := G.size
    clear O
    by_cases hle : I + b.size ≤ s.size
    · have hle' : (I : Int) + (b.size : Int) ≤ (s.size : Int) := by omega
      have hIb : (I : Int) ≤ (I : Int) + (b.size : Int) := by omega
      have HLE : Hid (I + b.data.toList.length ≤ s.data.toList.length) := by unfold Hid; rw [← HBL.out, ← HSL.out]; exact hle
      by_cases hAI : A ≤ I
      · have hAI' : (A : Int) ≤ (I : Int) := by omega
        by_cases hh : hits s.data.toList b.data.toList I
        · have hx := ext_hit hh
          have HN : Hid ((out ++ [(s.data.toList.drop A).take (I - A)]) ++ gcut s.data.toList b.data.toList (I + b.size) (I + 1) = rpcs s.data.toList b.data.toList) := by
            unfold Hid
            rw [← HC.out, gcut_hit HLE.out hAI hh, HBL.out]
            simp
          have HX : Hid (s.extract A I = ⟨((s.data.toList.drop A).take (I - A)).toArray⟩) := ext_is s A I
          clear hh
          go_wp2_with (at_builtin; refine wpList_append_own_at _ rfl (.tmp 31) (.tmp 36) 57 rfl w.heap.size 9 i0 (.string ByteArray.empty) 1 16 Tryz.underlying57 hi hz0 hz1 hz2 rfl (by decide) _ _ _ rfl (World.ownsRow.alloc O1 _) ⟨wr.heap.size, 0, none⟩ 1 1 [.string (s.extract A I)] rfl rfl (cell_one_new _ _ _) (fun x hx => by simp at hx; subst hx; rfl) (by unfold maxLen; omega) (by omega) (by simp; omega) ?_; intro v' w3 hown' hgrow3 hnil3 hlie3)
          go_roundw
          case rel => exact ⟨I + b.size, I + 1, out ++ [(s.data.toList.drop A).take (I - A)], by omega, hle, by simp; omega, HN.out, by go_num, by go_num, by rw [pcs_snoc, ← HX.out]; exact own_snoc hown' (length_pcs _).symm, grown_own (grown_push G _) hgrow3 (fun x hx => HO.out.block x hx)⟩
          case measure => simp [intOf]; omega
        · have hx := ext_miss hh
          have HN : Hid (out ++ gcut s.data.toList b.data.toList A (I + 1) = rpcs s.data.toList b.data.toList) := by
            unfold Hid
            rw [← HC.out, gcut_miss HLE.out (fun k => hh k.2)]
          clear hh
          go_wp2_with fail
          go_roundw
          case rel => exact ⟨A, I + 1, out, by omega, hA, by omega, HN.out, rfl, by go_num, HO.out, G⟩
          case measure => simp [intOf]; omega
      · have hAI' : ¬ (A : Int) ≤ (I : Int) := by omega
        have HN : Hid (out ++ gcut s.data.toList b.data.toList A (I + 1) = rpcs s.data.toList b.data.toList) := by
          unfold Hid
          rw [← HC.out, gcut_miss HLE.out (fun k => hAI k.1)]
        go_wp2_with fail
        go_roundw
        case rel => exact ⟨A, I + 1, out, by omega, hA, by omega, HN.out, rfl, by go_num, HO.out, G⟩
        case measure => simp [intOf]; omega
    · have hle' : ¬ (I : Int) + (b.size : Int) ≤ (s.size : Int) := by omega
      have hA' : (A : Int) ≤ (s.size : Int) := by omega
      have HN : Hid (out ++ [s.data.toList.drop A] = rpcs s.data.toList b.data.toList) := by
        unfold Hid
        rw [← HC.out, gcut_end (by rw [← HBL.out, ← HSL.out]; exact hle)]
      have HX : Hid (s.extract A s.size = ⟨(s.data.toList.drop A).toArray⟩) := ext_rest s A
      go_wp2_with (at_builtin; refine wpList_append_own_at _ rfl (.tmp 42) (.tmp 46) 57 rfl w.heap.size 9 i0 (.string ByteArray.empty) 1 16 Tryz.underlying57 hi hz0 hz1 hz2 rfl (by decide) _ _ _ rfl (World.ownsRow.alloc O1 _) ⟨wr.heap.size, 0, none⟩ 1 1 [.string (s.extract A s.size)] rfl rfl (cell_one_new _ _ _) (fun x hx => by simp at hx; subst hx; rfl) (by unfold maxLen; omega) (by omega) (by simp; omega) ?_; intro v' w3 hown' hgrow3 hnil3 hlie3)
      go_ret
      exact ⟨_, rfl, by rw [← HN.out, pcs_snoc, ← HX.out]; exact own_snoc hown' (length_pcs _).symm, grown_own (grown_push G _) hgrow3 (fun x hx => HO.out.block x hx)⟩
end Go.Proofs.YtpceelbphpfciaaGreatDoor
