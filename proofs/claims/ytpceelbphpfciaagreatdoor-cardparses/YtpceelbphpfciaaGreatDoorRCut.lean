/-
  What the document's own Cut tells: the pieces of a text.
-/
import Derived.Test.YtpceelbphpfciaaGreatDoorOwn
import Derived.Test.YtpceelbphpfciaaGreatDoorPrint
namespace Go.Proofs.YtpceelbphpfciaaGreatDoor
open Go.RowKit

/-- How far the walk over the text has come: the pieces behind it, where the next one begins, where it stands. -/
def Cutting (l : List UInt8) (out : List (List UInt8)) (a i : Nat) : Prop := (i ≤ l.length ∧ a ≤ i ∧ out ++ pieces (l.drop a) = pieces l ∧ (32 : UInt8) ∉ (l.drop a).take (i - a)) ∨ (i = l.length + 1 ∧ out = pieces l)
theorem cutting_last {l : List UInt8} {out : List (List UInt8)} {a : Nat} (h : Cutting l out a l.length) : Cutting l (out ++ [(l.drop a).take (l.length - a)]) (l.length + 1) (l.length + 1) := by
  rcases h with ⟨_, ha, ho, hb⟩ | ⟨h, _⟩
  · refine Or.inr ⟨rfl, ?_⟩
    have e : (l.drop a).take (l.length - a) = l.drop a := List.take_of_length_le (by rw [List.length_drop]; omega)
    rw [e] at hb ⊢
    rw [← ho, pieces_one _ hb]
  · omega
theorem drop_split (m : List UInt8) (k : Nat) (h : m[k]? = some 32) : m = m.take k ++ 32 :: m.drop (k + 1) := by
  obtain ⟨hk, e⟩ := List.getElem?_eq_some_iff.1 h
  rw [← e, List.getElem_cons_drop, List.take_append_drop]
theorem cutting_blank {l : List UInt8} {out : List (List UInt8)} {a i : Nat} (h : Cutting l out a i) (hi : i < l.length) (hb : l[i]? = some 32) : Cutting l (out ++ [(l.drop a).take (i - a)]) (i + 1) (i + 1) := by
  rcases h with ⟨_, ha, ho, hn⟩ | ⟨h, _⟩
  · refine Or.inl ⟨by omega, Nat.le_refl _, ?_, by simp⟩
    have hm : (l.drop a)[i - a]? = some 32 := by rw [List.getElem?_drop, show a + (i - a) = i by omega]; exact hb
    have hs := drop_split _ _ hm
    have hp := pieces_app ((l.drop a).take (i - a)) ((l.drop a).drop (i - a + 1)) hn
    rw [← hs] at hp
    rw [List.drop_drop, show a + (i - a + 1) = i + 1 by omega] at hp
    rw [← ho, hp]
    simp
  · omega
theorem cutting_other {l : List UInt8} {out : List (List UInt8)} {a i : Nat} (h : Cutting l out a i) (hi : i < l.length) (hb : ¬ l[i]? = some 32) : Cutting l out a (i + 1) := by
  rcases h with ⟨_, ha, ho, hn⟩ | ⟨h, _⟩
  · refine Or.inl ⟨by omega, by omega, ho, ?_⟩
    rw [show i + 1 - a = (i - a) + 1 by omega, List.take_add_one]
    intro hm
    rcases List.mem_append.1 hm with hm | hm
    · exact hn hm
    · have : (l.drop a)[i - a]? = l[i]? := by rw [List.getElem?_drop, show a + (i - a) = i by omega]
      rw [this] at hm
      cases hx : l[i]? with
      | none => rw [hx] at hm; simp at hm
      | some y =>
        rw [hx] at hm
        simp at hm
        exact hb (by rw [hx, hm])
  · omega
theorem cutting_at {l : List UInt8} {out : List (List UInt8)} {a i : Nat} (h : Cutting l out a i) (hi : i ≤ l.length) : a ≤ i := by
  rcases h with ⟨_, ha, _⟩ | ⟨h, _⟩ <;> omega
theorem ext_is (s : ByteArray) (a i : Nat) : s.extract a i = ⟨((s.data.toList.drop a).take (i - a)).toArray⟩ := Lib.extract_eq s a i
theorem byte_is {b : UInt8} (h : ((b.toNat : Nat) : Int) = 32) : b = 32 := UInt8.toNat_inj.1 (by
  have e : (32 : UInt8).toNat = 32 := rfl
  rw [e]
  omega)
set_option maxRecDepth 100000 in
set_option maxHeartbeats 4000000 in
theorem rpieces_any (s : ByteArray) (hs : s.size ≤ 1048576) (w : World) : Calls Tryz.prog 32 #[.string s] w fun e w' => ∃ v, e = .returned v ∧ Own w' w.heap.size 9 v (pcs (pieces s.data.toList)) ∧ w.grownBy w' none := by
  obtain ⟨i0, hi, hz0, hz1, hz2⟩ := info_parts Tryz.info9
  go_enter Tryz.func32, Tryz.ntmps32
  go_wp2_with fail
  go_loopw [3, 4, 5] (fun v a i wr => ∃ (A I : Nat) (out : List (List UInt8)), I ≤ s.size + 1 ∧ out.length ≤ I ∧ A ≤ I ∧ Cutting s.data.toList out A I ∧ a = .int .i64 A ∧ i = .int .i64 I ∧ Own wr w.heap.size 9 v (pcs out) ∧ w.grownBy wr none)
    (fun _ _ i _ => s.size + 1 - (intOf i).toNat)
  case atStart => exact ⟨0, 0, [], by omega, by simp, by omega, Or.inl ⟨by omega, by omega, by simp, by simp⟩, rfl, rfl, Own.nil _ _ _, grown_refl _ _⟩
  case round =>
    obtain ⟨A, I, out, hI, ho, hA, hC, rfl, rfl, O, G⟩ := hrel
    have HSL : Hid (s.size = s.data.toList.length) := Lib.size_eq s
    have HC : Hid (Cutting s.data.toList out A I) := hC
    clear hC
    rcases (show I = s.size + 1 ∨ I ≤ s.size from by omega) with hE | hle
    · have hE' : ¬ ((I : Int) ≤ (s.size : Int)) := by omega
      have hout : out = pieces s.data.toList := by
        have hsl : s.size = s.data.toList.length := HSL.out
        rcases HC.out with ⟨h, _⟩ | ⟨_, h⟩
        · omega
        · exact h
      rw [hout] at O
      have HE : Hid (I = s.size + 1) := hE
      clear hE hout
      go_wp2
      go_ret
      exact ⟨_, rfl, O, G⟩
    · have hle' : (I : Int) ≤ (s.size : Int) := by omega
      have hw : wrap64 ((I : Int) + 1) = (I : Int) + 1 := by unfold wrap64; omega
      have hI0 : (0 : Int) ≤ (I : Int) := by omega
      have hA0 : (0 : Int) ≤ (A : Int) := by omega
      have hAI : (A : Int) ≤ (I : Int) := by omega
      rcases (show I = s.size ∨ I < s.size from by omega) with hE | hlt
      · have heq : ((I : Int) == (s.size : Int)) = true := by rw [hE]; exact beq_self_eq_true _
        have HN : Hid (Cutting s.data.toList (out ++ [(s.data.toList.drop A).take (I - A)]) (I + 1) (I + 1)) := by
          have h1 : Cutting s.data.toList out A I := HC.out
          have h2 : I = s.data.toList.length := hE.trans HSL.out
          rw [h2] at h1 ⊢
          exact cutting_last h1
        have HE : Hid (I = s.size) := hE
        clear hE
        obtain ⟨q, cp, ev⟩ := O.form
        rw [length_pcs] at ev
        subst ev
        have O1 : World.ownsRow wr w.heap.size 9 1 (.slice q out.length cp) out.length (pcs out) := own_pcs O
        have HO : Hid (Own wr w.heap.size 9 (.slice q out.length cp) (pcs out)) := O
        have hsz := G.size
        have HX : Hid (s.extract A I = ⟨((s.data.toList.drop A).take (I - A)).toArray⟩) := ext_is s A I
        clear O
        go_wp2_with (at_builtin; refine wpList_append_own_at _ rfl (.tmp 22) (.tmp 27) 57 rfl w.heap.size 9 i0 (.string ByteArray.empty) 1 16 Tryz.underlying57 hi hz0 hz1 hz2 rfl (by decide) _ _ _ rfl (World.ownsRow.alloc O1 _) ⟨wr.heap.size, 0, none⟩ 1 1 [.string (s.extract A I)] rfl rfl (cell_one_new _ _ _) (fun x hx => by simp at hx; subst hx; rfl) (by unfold maxLen; omega) (by omega) (by simp; omega) ?_; intro v' w3 hown' hgrow3 hnil3 hlie3)
        go_roundw
        case rel => exact ⟨I + 1, I + 1, out ++ [(s.data.toList.drop A).take (I - A)], by omega, by simp; omega, by omega, HN.out, by go_num, by go_num, by rw [pcs_snoc, ← HX.out]; exact own_snoc hown' (length_pcs _).symm, grown_own (grown_push G _) hgrow3 (fun x hx => HO.out.block x hx)⟩
        case measure => simp [intOf]; omega
      · have hlt' : (I : Int) < (s.size : Int) := by omega
        have heq : ((I : Int) == (s.size : Int)) = false := beq_eq_false_iff_ne.2 (by omega)
        have hat := byte_at s I hlt
        by_cases hb : s[I] = 32
        · have hb1 : (((s[I].toNat : Nat) : Int) == 32) = true := by rw [hb]; rfl
          have HN : Hid (Cutting s.data.toList (out ++ [(s.data.toList.drop A).take (I - A)]) (I + 1) (I + 1)) := cutting_blank HC.out (by rw [← HSL.out]; exact hlt) (by rw [hat, hb])
          clear hat hb
          obtain ⟨q, cp, ev⟩ := O.form
          rw [length_pcs] at ev
          subst ev
          have O1 : World.ownsRow wr w.heap.size 9 1 (.slice q out.length cp) out.length (pcs out) := own_pcs O
          have HO : Hid (Own wr w.heap.size 9 (.slice q out.length cp) (pcs out)) := O
          have hsz := G.size
          have HX : Hid (s.extract A I = ⟨((s.data.toList.drop A).take (I - A)).toArray⟩) := ext_is s A I
          clear O
          go_wp2_with (at_builtin; refine wpList_append_own_at _ rfl (.tmp 22) (.tmp 27) 57 rfl w.heap.size 9 i0 (.string ByteArray.empty) 1 16 Tryz.underlying57 hi hz0 hz1 hz2 rfl (by decide) _ _ _ rfl (World.ownsRow.alloc O1 _) ⟨wr.heap.size, 0, none⟩ 1 1 [.string (s.extract A I)] rfl rfl (cell_one_new _ _ _) (fun x hx => by simp at hx; subst hx; rfl) (by unfold maxLen; omega) (by omega) (by simp; omega) ?_; intro v' w3 hown' hgrow3 hnil3 hlie3)
          go_roundw
          case rel => exact ⟨I + 1, I + 1, out ++ [(s.data.toList.drop A).take (I - A)], by omega, by simp; omega, by omega, HN.out, by go_num, by go_num, by rw [pcs_snoc, ← HX.out]; exact own_snoc hown' (length_pcs _).symm, grown_own (grown_push G _) hgrow3 (fun x hx => HO.out.block x hx)⟩
          case measure => simp [intOf]; omega
        · have hb1 : (((s[I].toNat : Nat) : Int) == 32) = false := beq_eq_false_iff_ne.2 (fun e => hb (byte_is e))
          have HN : Hid (Cutting s.data.toList out A (I + 1)) := cutting_other HC.out (by rw [← HSL.out]; exact hlt) (by rw [hat]; simpa using hb)
          clear hat hb
          go_wp2_with fail
          go_roundw
          case rel => exact ⟨A, I + 1, out, by omega, by omega, by omega, HN.out, by go_num, by go_num, O, G⟩
          case measure => simp [intOf]; omega

end Go.Proofs.YtpceelbphpfciaaGreatDoor
