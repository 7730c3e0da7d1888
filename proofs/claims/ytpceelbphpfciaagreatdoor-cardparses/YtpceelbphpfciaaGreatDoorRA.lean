/-
  What the document's own Cut tells: the pieces of a text.
  What the document's own place and number tell: a word's number in a table, and a text's number.
  What the document's own readings of a suit's and a trait's name tell.
  What the document's own pieces tells: a text cut wherever another one stands.
  What the document's own number tells: a word's digits, three at most.
-/
import Derived.Test.YtpceelbphpfciaaGreatDoorOwn
import Derived.Test.YtpceelbphpfciaaGreatDoorPrint
import Derived.Test.YtpceelbphpfciaaGreatDoorRPrt
import Derived.Test.YtpceelbphpfciaaGreatDoorRPure
namespace Go.Proofs.YtpceelbphpfciaaGreatDoor
open Go.RowKit

/-- How far the walk over the text has come: the pieces behind it, where the next one begins, where it stands. -/
def Cutting (l : List UInt8) (out : List (List UInt8)) (a i : Nat) : Prop := (i ≤ l.length ∧ a ≤ i ∧ out ++ pieces (l.drop a) = pieces l ∧ (32 : UInt8) ∉ (l.drop a).take (i - a)) ∨ (i = l.length + 1 ∧ out = pieces l)
theorem cutting_last {l : List UInt8} {out : List (List UInt8)} {a : Nat} (h : Cutting l out a l.length) : Cutting l (out ++ [(l.drop a).take (l.length - a)]) (l.length + 1) (l.length + 1) := by
  rcases h with ⟨_, ha, ho, hb⟩ | ⟨h, _⟩
  · refine Or.inr ⟨rfl, ?_⟩
    have e : (l.drop a).take (l.length - a) = l.drop a := List.take_of_length_le (by rw [List.length_drop]; omega)
    rw [e] at hb ⊢
    rw [← ho, pieces_one _ hb]
  · omega
theorem drop_split (m : List UInt8) (k : Nat) (h : m[k]? = some 32) : m = m.take k ++ 32 :: m.drop (k + 1) := by
  obtain ⟨hk, e⟩ := List.getElem?_eq_some_iff.1 h
  rw [← e, List.getElem_cons_drop, List.take_append_drop]
theorem cutting_blank {l : List UInt8} {out : List (List UInt8)} {a i : Nat} (h : Cutting l out a i) (hi : i < l.length) (hb : l[i]? = some 32) : Cutting l (out ++ [(l.drop a).take (i - a)]) (i + 1) (i + 1) := by
  rcases h with ⟨_, ha, ho, hn⟩ | ⟨h, _⟩
  · refine Or.inl ⟨by omega, Nat.le_refl _, ?_, by simp⟩
    have hm : (l.drop a)[i - a]? = some 32 := by rw [List.getElem?_drop, show a + (i - a) = i by omega]; exact hb
    have hs := drop_split _ _ hm
    have hp := pieces_app ((l.drop a).take (i - a)) ((l.drop a).drop (i - a + 1)) hn
    rw [← hs] at hp
    rw [List.drop_drop, show a + (i - a + 1) = i + 1 by omega] at hp
    rw [← ho, hp]
    simp
  · omega
theorem cutting_other {l : List UInt8} {out : List (List UInt8)} {a i : Nat} (h : Cutting l out a i) (hi : i < l.length) (hb : ¬ l[i]? = some 32) : Cutting l out a (i + 1) := by
  rcases h with ⟨_, ha, ho, hn⟩ | ⟨h, _⟩
  · refine Or.inl ⟨by omega, by omega, ho, ?_⟩
    rw [show i + 1 - a = (i - a) + 1 by omega, List.take_add_one]
    intro hm
    rcases List.mem_append.1 hm with hm | hm
    · exact hn hm
    · have : (l.drop a)[i - a]? = l[i]? := by rw [List.getElem?_drop, show a + (i - a) = i by omega]
      rw [this] at hm
      cases hx : l[i]? with
      | none => rw [hx] at hm; simp at hm
      | some y =>
        rw [hx] at hm
        simp at hm
        exact hb (by rw [hx, hm])
  · omega
theorem cutting_at {l : List UInt8} {out : List (List UInt8)} {a i : Nat} (h : Cutting l out a i) (hi : i ≤ l.length) : a ≤ i := by
  rcases h with ⟨_, ha, _⟩ | ⟨h, _⟩ <;> omega
theorem ext_is (s : ByteArray) (a i : Nat) : s.extract a i = ⟨((s.data.toList.drop a).take (i - a)).toArray⟩ := Lib.extract_eq s a i
theorem byte_is {b : UInt8} (h : ((b.toNat : Nat) : Int) = 32) : b = 32 := UInt8.toNat_inj.1 (by
  have e : (32 : UInt8).toNat = 32 := rfl
  rw [e]
  omega)
set_option maxRecDepth 100000 in
set_option maxHeartbeats 4000000 in
theorem rpieces_any (s : ByteArray) (hs : s.size ≤ 1048576) (w : World) : Calls Tryz.prog 32 #[.string s] w fun e w' => ∃ v, e = .returned v ∧ Own w' w.heap.size 9 v (pcs (pieces s.data.toList)) ∧ w.grownBy w' none := by
  obtain ⟨i0, hi, hz0, hz1, hz2⟩ := info_parts Tryz.info9
  go_enter Tryz.func32, Tryz.ntmps32
  go_wp2_with fail
  go_loopw [3, 4, 5] (fun v a i wr => ∃ (A I : Nat) (out : List (List UInt8)), I ≤ s.size + 1 ∧ out.length ≤ I ∧ A ≤ I ∧ Cutting s.data.toList out A I ∧ a = .int .i64 A ∧ i = .int .i64 I ∧ Own wr w.heap.size 9 v (pcs out) ∧ w.grownBy wr none)
    (fun _ _ i _ => s.size + 1 - (intOf i).toNat)
  case atStart => exact ⟨0, 0, [], by omega, by simp, by omega, Or.inl ⟨by omega, by omega, by simp, by simp⟩, rfl, rfl, Own.nil _ _ _, grown_refl _ _⟩
  case round =>
    obtain ⟨A, I, out, hI, ho, hA, hC, rfl, rfl, O, G⟩ := hrel
    have HSL : Hid (s.size = s.data.toList.length) := Lib.size_eq s
    have HC : Hid (Cutting s.data.toList out A I) := hC
    clear hC
    rcases (show I = s.size + 1 ∨ I ≤ s.size from by omega) with hE | hle
    · have hE' : ¬ ((I : Int) ≤ (s.size : Int)) := by omega
      have hout : out = pieces s.data.toList := by
        have hsl : s.size = s.data.toList.length := HSL.out
        rcases HC.out with ⟨h, _⟩ | ⟨_, h⟩
        · omega
        · exact h
      rw [hout] at O
      have HE : Hid (I = s.size + 1) := hE
      clear hE hout
      go_wp2
      go_ret
      exact ⟨_, rfl, O, G⟩
    · have hle' : (I : Int) ≤ (s.size : Int) := by omega
      have hw : wrap64 ((I : Int) + 1) = (I : Int) + 1 := by unfold wrap64; omega
      have hI0 : (0 : Int) ≤ (I : Int) := by omega
      have hA0 : (0 : Int) ≤ (A : Int) := by omega
      have hAI : (A : Int) ≤ (I : Int) := by omega
      rcases (show I = s.size ∨ I < s.size from by omega) with hE | hlt
      · have heq : ((I : Int) == (s.size : Int)) = true := by rw [hE]; exact beq_self_eq_true _
        have HN : Hid (Cutting s.data.toList (out ++ [(s.data.toList.drop A).take (I - A)]) (I + 1) (I + 1)) := by
          have h1 : Cutting s.data.toList out A I := HC.out
          have h2 : I = s.data.toList.length := hE.trans HSL.out
          rw [h2] at h1 ⊢
          exact cutting_last h1
        have HE : Hid (I = s.size) := hE
        clear hE
        obtain ⟨q, cp, ev⟩ := O.form
        rw [length_pcs] at ev
        subst ev
        have O1 : World.ownsRow wr w.heap.size 9 1 (.slice q out.length cp) out.length (pcs out) := own_pcs O
        have HO : Hid (Own wr w.heap.size 9 (.slice q out.length cp) (pcs out)) := O
        have hsz := G.size
        have HX : Hid (s.extract A I = ⟨((s.data.toList.drop A).take (I - A)).toArray⟩) := ext_is s A I
        clear O
        go_wp2_with (at_builtin; refine wpList_append_own_at _ rfl (.tmp 22) (.tmp 27) 57 rfl w.heap.size 9 i0 (.string ByteArray.empty) 1 16 Tryz.underlying57 hi hz0 hz1 hz2 rfl (by decide) _ _ _ rfl (World.ownsRow.alloc O1 _) ⟨wr.heap.size, 0, none⟩ 1 1 [.string (s.extract A I)] rfl rfl (cell_one_new _ _ _) (fun x hx => by simp at hx; subst hx; rfl) (by unfold maxLen; omega) (by omega) (by simp; omega) ?_; intro v' w3 hown' hgrow3 hnil3 hlie3)
        go_roundw
        case rel => exact ⟨I + 1, I + 1, out ++ [(s.data.toList.drop A).take (I - A)], by omega, by simp; omega, by omega, HN.out, by go_num, by go_num, by rw [pcs_snoc, ← HX.out]; exact own_snoc hown' (length_pcs _).symm, grown_own (grown_push G _) hgrow3 (fun x hx => HO.out.block x hx)⟩
        case measure => simp [intOf]; omega
      · have hlt' : (I : Int) < (s.size : Int) := by omega
        have heq : ((I : Int) == (s.size : Int)) = false := beq_eq_false_iff_ne.2 (by omega)
        have hat := byte_at s I hlt
        by_cases hb : s[I] = 32
        · have hb1 : (((s[I].toNat : Nat) : Int) == 32) = true := by rw [hb]; rfl
          have HN : Hid (Cutting s.data.toList (out ++ [(s.data.toList.drop A).take (I - A)]) (I + 1) (I + 1)) := cutting_blank HC.out (by rw [← HSL.out]; exact hlt) (by rw [hat, hb])
          clear hat hb
          obtain ⟨q, cp, ev⟩ := O.form
          rw [length_pcs] at ev
          subst ev
          have O1 : World.ownsRow wr w.heap.size 9 1 (.slice q out.length cp) out.length (pcs out) := own_pcs O
          have HO : Hid (Own wr w.heap.size 9 (.slice q out.length cp) (pcs out)) := O
          have hsz := G.size
          have HX : Hid (s.extract A I = ⟨((s.data.toList.drop A).take (I - A)).toArray⟩) := ext_is s A I
          clear O
          go_wp2_with (at_builtin; refine wpList_append_own_at _ rfl (.tmp 22) (.tmp 27) 57 rfl w.heap.size 9 i0 (.string ByteArray.empty) 1 16 Tryz.underlying57 hi hz0 hz1 hz2 rfl (by decide) _ _ _ rfl (World.ownsRow.alloc O1 _) ⟨wr.heap.size, 0, none⟩ 1 1 [.string (s.extract A I)] rfl rfl (cell_one_new _ _ _) (fun x hx => by simp at hx; subst hx; rfl) (by unfold maxLen; omega) (by omega) (by simp; omega) ?_; intro v' w3 hown' hgrow3 hnil3 hlie3)
          go_roundw
          case rel => exact ⟨I + 1, I + 1, out ++ [(s.data.toList.drop A).take (I - A)], by omega, by simp; omega, by omega, HN.out, by go_num, by go_num, by rw [pcs_snoc, ← HX.out]; exact own_snoc hown' (length_pcs _).symm, grown_own (grown_push G _) hgrow3 (fun x hx => HO.out.block x hx)⟩
          case measure => simp [intOf]; omega
        · have hb1 : (((s[I].toNat : Nat) : Int) == 32) = false := beq_eq_false_iff_ne.2 (fun e => hb (byte_is e))
          have HN : Hid (Cutting s.data.toList out A (I + 1)) := cutting_other HC.out (by rw [← HSL.out]; exact hlt) (by rw [hat]; simpa using hb)
          clear hat hb
          go_wp2_with fail
          go_roundw
          case rel => exact ⟨A, I + 1, out, by omega, by omega, by omega, HN.out, by go_num, by go_num, O, G⟩
          case measure => simp [intOf]; omega

end Go.Proofs.YtpceelbphpfciaaGreatDoor
namespace Go.Proofs.YtpceelbphpfciaaGreatDoor
open Go.RowKit

theorem idxOf_at : ∀ {ws : List (List UInt8)} {l : List UInt8} {i : Nat}, ws[i]? = some l → (∀ j, j < i → ¬ ws[j]? = some l) → ws.idxOf l = i
  | [], _, _, h, _ => by simp at h
  | x :: r, l, 0, h, _ => by
    simp at h
    subst h
    exact List.idxOf_cons_self
  | x :: r, l, i + 1, h, hn => by
    have hx : ¬ x = l := fun e => hn 0 (by omega) (by simp [e])
    have ih := idxOf_at (ws := r) (l := l) (i := i) (by simpa using h) (fun j hj => by simpa using hn (j + 1) (by omega))
    have hb : (x == l) = false := by simpa using hx
    rw [List.idxOf_cons, hb, ih]
    rfl
theorem idx_hit {ws : List (List UInt8)} {l : List UInt8} {i : Nat} (h : ws[i]? = some l) (hn : ∀ j, j < i → ¬ ws[j]? = some l) : idx ws l = i + 1 := by
  have hi := (List.getElem?_eq_some_iff.1 h).1
  unfold idx
  rw [idxOf_at h hn, if_pos hi]
theorem idx_miss {ws : List (List UInt8)} {l : List UInt8} (hn : ∀ j, j < ws.length → ¬ ws[j]? = some l) : idx ws l = 0 := by
  unfold idx
  rw [if_neg]
  intro h
  exact hn _ h (by rw [List.getElem?_eq_getElem h, List.getElem_idxOf h])
theorem RTab.raw {w : World} {b : Nat} {ws : List (List UInt8)} (h : RTab w b ws) {j : Nat} (hj : j < ws.length) : w.cell? ⟨b, j, none⟩ = some (.string ⟨ws[j].toArray⟩) := by
  rw [block_cell h]
  simp [rtabC, hj]
set_option maxHeartbeats 2000000 in
theorem place_any (ws : List (List UInt8)) (n b : Nat) (hn : n = ws.length) (h100 : n ≤ 100) (s : ByteArray) (w : World) (T : RTab w b ws) : Calls Tryz.prog 69 #[.slice (some ⟨b, 0, none⟩) n n, .string s] w fun e w' => e = .returned (.int .i64 (idx ws s.toList)) ∧ w' = w := by
  have HT : Hid (RTab w b ws) := T
  have HN : Hid (n = ws.length) := hn
  clear T hn
  go_enter Tryz.func69, Tryz.ntmps69
  go_wp2_with fail
  go_loopw [5] (fun t wr => wr = w ∧ ∃ i : Nat, i ≤ n ∧ t = .int .i64 i ∧ ∀ j, j < i → ¬ ws[j]? = some s.toList) (fun t _ => n - (intOf t).toNat)
  case atStart => exact ⟨rfl, 0, Nat.zero_le _, rfl, fun j hj => absurd hj (by omega)⟩
  case round =>
    obtain ⟨rfl, i, hi, rfl, ha⟩ := hrel
    have HA : Hid (∀ j, j < i → ¬ ws[j]? = some s.toList) := ha
    clear ha
    by_cases hl : i < n
    · have hl' : (i : Int) < (n : Int) := by omega
      have hj : i < ws.length := by rw [← HN.out]; exact hl
      have c0 := HT.out.raw hj
      have HG : Hid (ws[i]? = some ws[i]) := List.getElem?_eq_getElem hj
      obtain ⟨x, hx⟩ : ∃ x, x = ws[i] := ⟨_, rfl⟩
      rw [← hx] at c0
      have HX : Hid (ws[i]? = some x) := by rw [hx]; exact HG.out
      clear hx HG hj
      by_cases he : x = s.toList
      · have hd : (x == s.toList) = true := by simpa using he
        have HE : Hid (x = s.toList) := he
        clear he
        go_wp2
        go_ret
        exact ⟨ret_i64 (by
          have h1 : ws[i]? = some s.toList := by rw [HX.out, HE.out]
          rw [idx_hit h1 HA.out]
          go_num), rfl⟩
      · have hd : (x == s.toList) = false := by simpa using he
        have HE : Hid (¬ x = s.toList) := he
        clear he
        go_wp2
        go_roundw
        case rel => exact ⟨trivial, i + 1, by omega, by go_num, fun j hj => by
          rcases (show j < i ∨ j = i from by omega) with h' | rfl
          · exact HA.out j h'
          · rw [HX.out]
            exact fun e => HE.out (Option.some.inj e)⟩
        case measure => simp [intOf]; omega
    · have hl' : ¬ (i : Int) < (n : Int) := by omega
      have HM : Hid (idx ws s.toList = 0) := idx_miss (fun j hj => HA.out j (by have := HN.out; omega))
      go_wp2
      go_ret
      exact ⟨ret_i64 (by rw [HM.out]; rfl), rfl⟩
theorem drop_byte (s : ByteArray) (i : Nat) (h : i < s.size) : s.data.toList.drop i = s[i] :: s.data.toList.drop (i + 1) := by
  have hl : i < s.data.toList.length := by rw [← Lib.size_eq]; exact h
  rw [List.drop_eq_getElem_cons hl]
  rfl
/-- The most that so many signs tell. -/
def most : Nat → Int
  | 0 => 0
  | 1 => 9
  | 2 => 99
  | _ => 999
set_option maxHeartbeats 4000000 in
theorem number_neg (s : ByteArray) (hp : 0 < s.size) (hc : s[0] = 45) (w : World) : Calls Tryz.prog 74 #[.string s] w fun e w' => e = .returned (.int .i64 (numb s.data.toList)) ∧ w' = w := by
  have hq : ((s[0].toNat : Int) == 45) = true := by simp [hc]
  have hb : (0 : Int) < (s.size : Int) := by omega
  have HV : Hid (numb s.data.toList = -(digs 3 0 s.data.toList)) := by
    show numb _ = _
    unfold numb
    rw [if_pos (by rw [List.head?_eq_getElem?, byte_at s 0 hp, hc])]
  clear hc
  go_enter Tryz.func74, Tryz.ntmps74
  go_wp2_with fail
  go_loopw [3, 5] (fun n t wr => wr = w ∧ ∃ (i : Nat) (k : Int), i ≤ 3 ∧ i ≤ s.size ∧ t = .int .i64 i ∧ n = .int .i64 k ∧ (0 ≤ k ∧ k ≤ most i) ∧ digs 3 0 s.data.toList = digs (3 - i) k (s.data.toList.drop i)) (fun _ t _ => 3 - (intOf t).toNat)
  case atStart => exact ⟨rfl, 0, 0, by omega, by omega, rfl, rfl, ⟨by omega, by decide⟩, rfl⟩
  case round =>
    obtain ⟨rfl, i, k, hi3, his, rfl, rfl, ⟨hk0, hk1⟩, hI⟩ := hrel
    have HI : Hid (digs 3 0 s.data.toList = digs (3 - i) k (s.data.toList.drop i)) := hI
    clear hI
    rcases (show i = 0 ∨ i = 1 ∨ i = 2 ∨ i = 3 from by omega) with rfl | rfl | rfl | rfl
    all_goals simp only [most] at hk1
    · by_cases hl : 0 < s.size
      · have hl' : (0 : Int) < (s.size : Int) := by omega
        have HB : Hid (s.data.toList.drop 0 = s[0] :: s.data.toList.drop 1) := drop_byte s 0 hl
        by_cases a : 48 ≤ (s[0].toNat : Int)
        · by_cases b : (s[0].toNat : Int) ≤ 57
          · have HS : Hid (digs 3 0 s.data.toList = digs 2 (10 * k + (s[0].toNat - 48 : Nat)) (s.data.toList.drop 1)) := by
              have h := HI.out
              rw [HB.out] at h
              have e : (48 ≤ s[0].toNat ∧ s[0].toNat ≤ 57) := by omega
              rw [Hid, h]
              simp only [digs, e, and_self, if_true]
              rfl
            have hk : 0 ≤ 10 * k + ((s[0].toNat - 48 : Nat) : Int) ∧ 10 * k + ((s[0].toNat - 48 : Nat) : Int) ≤ 9 := by omega
            go_wp2
            go_roundw
            case rel => exact ⟨trivial, 1, 10 * k + (s[0].toNat - 48 : Nat), by omega, by omega, by go_num, by go_num, ⟨by omega, hk.2⟩, HS.out⟩
            case measure => simp [intOf]
          · have HS : Hid (digs 3 0 s.data.toList = digs 2 k (s.data.toList.drop 1)) := by
              have h := HI.out
              rw [HB.out] at h
              have e : ¬ (48 ≤ s[0].toNat ∧ s[0].toNat ≤ 57) := by omega
              rw [Hid, h]
              simp only [digs, e, if_false]
            go_wp2
            go_roundw
            case rel => exact ⟨trivial, 1, k, by omega, by omega, by go_num, by go_num, ⟨by omega, by show k ≤ 9; omega⟩, HS.out⟩
            case measure => simp [intOf]
        · have HS : Hid (digs 3 0 s.data.toList = digs 2 k (s.data.toList.drop 1)) := by
            have h := HI.out
            rw [HB.out] at h
            have e : ¬ (48 ≤ s[0].toNat ∧ s[0].toNat ≤ 57) := by omega
            rw [Hid, h]
            simp only [digs, e, if_false]
          go_wp2
          go_roundw
          case rel => exact ⟨trivial, 1, k, by omega, by omega, by go_num, by go_num, ⟨by omega, by show k ≤ 9; omega⟩, HS.out⟩
          case measure => simp [intOf]
      · have hl' : ¬ (0 : Int) < (s.size : Int) := by omega
        have HD : Hid (digs 3 0 s.data.toList = k) := by
          rw [Hid, HI.out, List.drop_eq_nil_of_le (by have := Lib.size_eq s; omega)]
          rfl
        go_wp2
        all_goals
          go_ret
          exact ⟨ret_i64 (by first | (rw [HV.out, HD.out]; done) | (rw [HV.out, HD.out]; rfl) | (rw [HV.out, HD.out]; go_num)), rfl⟩
    · by_cases hl : 1 < s.size
      · have hl' : (1 : Int) < (s.size : Int) := by omega
        have HB : Hid (s.data.toList.drop 1 = s[1] :: s.data.toList.drop 2) := drop_byte s 1 hl
        by_cases a : 48 ≤ (s[1].toNat : Int)
        · by_cases b : (s[1].toNat : Int) ≤ 57
          · have HS : Hid (digs 3 0 s.data.toList = digs 1 (10 * k + (s[1].toNat - 48 : Nat)) (s.data.toList.drop 2)) := by
              have h := HI.out
              rw [HB.out] at h
              have e : (48 ≤ s[1].toNat ∧ s[1].toNat ≤ 57) := by omega
              rw [Hid, h]
              simp only [digs, e, and_self, if_true]
              rfl
            have hk : 0 ≤ 10 * k + ((s[1].toNat - 48 : Nat) : Int) ∧ 10 * k + ((s[1].toNat - 48 : Nat) : Int) ≤ 99 := by omega
            go_wp2
            go_roundw
            case rel => exact ⟨trivial, 2, 10 * k + (s[1].toNat - 48 : Nat), by omega, by omega, by go_num, by go_num, ⟨by omega, hk.2⟩, HS.out⟩
            case measure => simp [intOf]
          · have HS : Hid (digs 3 0 s.data.toList = digs 1 k (s.data.toList.drop 2)) := by
              have h := HI.out
              rw [HB.out] at h
              have e : ¬ (48 ≤ s[1].toNat ∧ s[1].toNat ≤ 57) := by omega
              rw [Hid, h]
              simp only [digs, e, if_false]
            go_wp2
            go_roundw
            case rel => exact ⟨trivial, 2, k, by omega, by omega, by go_num, by go_num, ⟨by omega, by show k ≤ 99; omega⟩, HS.out⟩
            case measure => simp [intOf]
        · have HS : Hid (digs 3 0 s.data.toList = digs 1 k (s.data.toList.drop 2)) := by
            have h := HI.out
            rw [HB.out] at h
            have e : ¬ (48 ≤ s[1].toNat ∧ s[1].toNat ≤ 57) := by omega
            rw [Hid, h]
            simp only [digs, e, if_false]
          go_wp2
          go_roundw
          case rel => exact ⟨trivial, 2, k, by omega, by omega, by go_num, by go_num, ⟨by omega, by show k ≤ 99; omega⟩, HS.out⟩
          case measure => simp [intOf]
      · have hl' : ¬ (1 : Int) < (s.size : Int) := by omega
        have HD : Hid (digs 3 0 s.data.toList = k) := by
          rw [Hid, HI.out, List.drop_eq_nil_of_le (by have := Lib.size_eq s; omega)]
          rfl
        go_wp2
        all_goals
          go_ret
          exact ⟨ret_i64 (by first | (rw [HV.out, HD.out]; done) | (rw [HV.out, HD.out]; rfl) | (rw [HV.out, HD.out]; go_num)), rfl⟩
    · by_cases hl : 2 < s.size
      · have hl' : (2 : Int) < (s.size : Int) := by omega
        have HB : Hid (s.data.toList.drop 2 = s[2] :: s.data.toList.drop 3) := drop_byte s 2 hl
        by_cases a : 48 ≤ (s[2].toNat : Int)
        · by_cases b : (s[2].toNat : Int) ≤ 57
          · have HS : Hid (digs 3 0 s.data.toList = digs 0 (10 * k + (s[2].toNat - 48 : Nat)) (s.data.toList.drop 3)) := by
              have h := HI.out
              rw [HB.out] at h
              have e : (48 ≤ s[2].toNat ∧ s[2].toNat ≤ 57) := by omega
              rw [Hid, h]
              simp only [digs, e, and_self, if_true]
              rfl
            have hk : 0 ≤ 10 * k + ((s[2].toNat - 48 : Nat) : Int) ∧ 10 * k + ((s[2].toNat - 48 : Nat) : Int) ≤ 999 := by omega
            go_wp2
            go_roundw
            case rel => exact ⟨trivial, 3, 10 * k + (s[2].toNat - 48 : Nat), by omega, by omega, by go_num, by go_num, ⟨by omega, hk.2⟩, HS.out⟩
            case measure => simp [intOf]
          · have HS : Hid (digs 3 0 s.data.toList = digs 0 k (s.data.toList.drop 3)) := by
              have h := HI.out
              rw [HB.out] at h
              have e : ¬ (48 ≤ s[2].toNat ∧ s[2].toNat ≤ 57) := by omega
              rw [Hid, h]
              simp only [digs, e, if_false]
            go_wp2
            go_roundw
            case rel => exact ⟨trivial, 3, k, by omega, by omega, by go_num, by go_num, ⟨by omega, by show k ≤ 999; omega⟩, HS.out⟩
            case measure => simp [intOf]
        · have HS : Hid (digs 3 0 s.data.toList = digs 0 k (s.data.toList.drop 3)) := by
            have h := HI.out
            rw [HB.out] at h
            have e : ¬ (48 ≤ s[2].toNat ∧ s[2].toNat ≤ 57) := by omega
            rw [Hid, h]
            simp only [digs, e, if_false]
          go_wp2
          go_roundw
          case rel => exact ⟨trivial, 3, k, by omega, by omega, by go_num, by go_num, ⟨by omega, by show k ≤ 999; omega⟩, HS.out⟩
          case measure => simp [intOf]
      · have hl' : ¬ (2 : Int) < (s.size : Int) := by omega
        have HD : Hid (digs 3 0 s.data.toList = k) := by
          rw [Hid, HI.out, List.drop_eq_nil_of_le (by have := Lib.size_eq s; omega)]
          rfl
        go_wp2
        all_goals
          go_ret
          exact ⟨ret_i64 (by first | (rw [HV.out, HD.out]; done) | (rw [HV.out, HD.out]; rfl) | (rw [HV.out, HD.out]; go_num)), rfl⟩
    · have HD : Hid (digs 3 0 s.data.toList = k) := HI.out
      go_wp2
      all_goals
        go_ret
        exact ⟨ret_i64 (by first | (rw [HV.out, HD.out]; done) | (rw [HV.out, HD.out]; rfl) | (rw [HV.out, HD.out]; go_num)), rfl⟩
set_option maxHeartbeats 4000000 in
theorem number_pos (s : ByteArray) (hp : 0 < s.size) (hc : ¬ s[0] = 45) (w : World) : Calls Tryz.prog 74 #[.string s] w fun e w' => e = .returned (.int .i64 (numb s.data.toList)) ∧ w' = w := by
  have hq : ((s[0].toNat : Int) == 45) = false := by
    have : ¬ (s[0].toNat : Int) = 45 := fun e => hc (UInt8.toNat_inj.1 (by simpa using (by omega : s[0].toNat = 45)))
    simpa using this
  have hb : (0 : Int) < (s.size : Int) := by omega
  have HV : Hid (numb s.data.toList = digs 3 0 s.data.toList) := by
    show numb _ = _
    unfold numb
    rw [if_neg (by rw [List.head?_eq_getElem?, byte_at s 0 hp]; exact fun e => hc (Option.some.inj e))]
  clear hc
  go_enter Tryz.func74, Tryz.ntmps74
  go_wp2_with fail
  go_loopw [3, 5] (fun n t wr => wr = w ∧ ∃ (i : Nat) (k : Int), i ≤ 3 ∧ i ≤ s.size ∧ t = .int .i64 i ∧ n = .int .i64 k ∧ (0 ≤ k ∧ k ≤ most i) ∧ digs 3 0 s.data.toList = digs (3 - i) k (s.data.toList.drop i)) (fun _ t _ => 3 - (intOf t).toNat)
  case atStart => exact ⟨rfl, 0, 0, by omega, by omega, rfl, rfl, ⟨by omega, by decide⟩, rfl⟩
  case round =>
    obtain ⟨rfl, i, k, hi3, his, rfl, rfl, ⟨hk0, hk1⟩, hI⟩ := hrel
    have HI : Hid (digs 3 0 s.data.toList = digs (3 - i) k (s.data.toList.drop i)) := hI
    clear hI
    rcases (show i = 0 ∨ i = 1 ∨ i = 2 ∨ i = 3 from by omega) with rfl | rfl | rfl | rfl
    all_goals simp only [most] at hk1
    · by_cases hl : 0 < s.size
      · have hl' : (0 : Int) < (s.size : Int) := by omega
        have HB : Hid (s.data.toList.drop 0 = s[0] :: s.data.toList.drop 1) := drop_byte s 0 hl
        by_cases a : 48 ≤ (s[0].toNat : Int)
        · by_cases b : (s[0].toNat : Int) ≤ 57
          · have HS : Hid (digs 3 0 s.data.toList = digs 2 (10 * k + (s[0].toNat - 48 : Nat)) (s.data.toList.drop 1)) := by
              have h := HI.out
              rw [HB.out] at h
              have e : (48 ≤ s[0].toNat ∧ s[0].toNat ≤ 57) := by omega
              rw [Hid, h]
              simp only [digs, e, and_self, if_true]
              rfl
            have hk : 0 ≤ 10 * k + ((s[0].toNat - 48 : Nat) : Int) ∧ 10 * k + ((s[0].toNat - 48 : Nat) : Int) ≤ 9 := by omega
            go_wp2
            go_roundw
            case rel => exact ⟨trivial, 1, 10 * k + (s[0].toNat - 48 : Nat), by omega, by omega, by go_num, by go_num, ⟨by omega, hk.2⟩, HS.out⟩
            case measure => simp [intOf]
          · have HS : Hid (digs 3 0 s.data.toList = digs 2 k (s.data.toList.drop 1)) := by
              have h := HI.out
              rw [HB.out] at h
              have e : ¬ (48 ≤ s[0].toNat ∧ s[0].toNat ≤ 57) := by omega
              rw [Hid, h]
              simp only [digs, e, if_false]
            go_wp2
            go_roundw
            case rel => exact ⟨trivial, 1, k, by omega, by omega, by go_num, by go_num, ⟨by omega, by show k ≤ 9; omega⟩, HS.out⟩
            case measure => simp [intOf]
        · have HS : Hid (digs 3 0 s.data.toList = digs 2 k (s.data.toList.drop 1)) := by
            have h := HI.out
            rw [HB.out] at h
            have e : ¬ (48 ≤ s[0].toNat ∧ s[0].toNat ≤ 57) := by omega
            rw [Hid, h]
            simp only [digs, e, if_false]
          go_wp2
          go_roundw
          case rel => exact ⟨trivial, 1, k, by omega, by omega, by go_num, by go_num, ⟨by omega, by show k ≤ 9; omega⟩, HS.out⟩
          case measure => simp [intOf]
      · have hl' : ¬ (0 : Int) < (s.size : Int) := by omega
        have HD : Hid (digs 3 0 s.data.toList = k) := by
          rw [Hid, HI.out, List.drop_eq_nil_of_le (by have := Lib.size_eq s; omega)]
          rfl
        go_wp2
        all_goals
          go_ret
          exact ⟨ret_i64 (by first | (rw [HV.out, HD.out]; done) | (rw [HV.out, HD.out]; rfl) | (rw [HV.out, HD.out]; go_num)), rfl⟩
    · by_cases hl : 1 < s.size
      · have hl' : (1 : Int) < (s.size : Int) := by omega
        have HB : Hid (s.data.toList.drop 1 = s[1] :: s.data.toList.drop 2) := drop_byte s 1 hl
        by_cases a : 48 ≤ (s[1].toNat : Int)
        · by_cases b : (s[1].toNat : Int) ≤ 57
          · have HS : Hid (digs 3 0 s.data.toList = digs 1 (10 * k + (s[1].toNat - 48 : Nat)) (s.data.toList.drop 2)) := by
              have h := HI.out
              rw [HB.out] at h
              have e : (48 ≤ s[1].toNat ∧ s[1].toNat ≤ 57) := by omega
              rw [Hid, h]
              simp only [digs, e, and_self, if_true]
              rfl
            have hk : 0 ≤ 10 * k + ((s[1].toNat - 48 : Nat) : Int) ∧ 10 * k + ((s[1].toNat - 48 : Nat) : Int) ≤ 99 := by omega
            go_wp2
            go_roundw
            case rel => exact ⟨trivial, 2, 10 * k + (s[1].toNat - 48 : Nat), by omega, by omega, by go_num, by go_num, ⟨by omega, hk.2⟩, HS.out⟩
            case measure => simp [intOf]
          · have HS : Hid (digs 3 0 s.data.toList = digs 1 k (s.data.toList.drop 2)) := by
              have h := HI.out
              rw [HB.out] at h
              have e : ¬ (48 ≤ s[1].toNat ∧ s[1].toNat ≤ 57) := by omega
              rw [Hid, h]
              simp only [digs, e, if_false]
            go_wp2
            go_roundw
            case rel => exact ⟨trivial, 2, k, by omega, by omega, by go_num, by go_num, ⟨by omega, by show k ≤ 99; omega⟩, HS.out⟩
            case measure => simp [intOf]
        · have HS : Hid (digs 3 0 s.data.toList = digs 1 k (s.data.toList.drop 2)) := by
            have h := HI.out
            rw [HB.out] at h
            have e : ¬ (48 ≤ s[1].toNat ∧ s[1].toNat ≤ 57) := by omega
            rw [Hid, h]
            simp only [digs, e, if_false]
          go_wp2
          go_roundw
          case rel => exact ⟨trivial, 2, k, by omega, by omega, by go_num, by go_num, ⟨by omega, by show k ≤ 99; omega⟩, HS.out⟩
          case measure => simp [intOf]
      · have hl' : ¬ (1 : Int) < (s.size : Int) := by omega
        have HD : Hid (digs 3 0 s.data.toList = k) := by
          rw [Hid, HI.out, List.drop_eq_nil_of_le (by have := Lib.size_eq s; omega)]
          rfl
        go_wp2
        all_goals
          go_ret
          exact ⟨ret_i64 (by first | (rw [HV.out, HD.out]; done) | (rw [HV.out, HD.out]; rfl) | (rw [HV.out, HD.out]; go_num)), rfl⟩
    · by_cases hl : 2 < s.size
      · have hl' : (2 : Int) < (s.size : Int) := by omega
        have HB : Hid (s.data.toList.drop 2 = s[2] :: s.data.toList.drop 3) := drop_byte s 2 hl
        by_cases a : 48 ≤ (s[2].toNat : Int)
        · by_cases b : (s[2].toNat : Int) ≤ 57
          · have HS : Hid (digs 3 0 s.data.toList = digs 0 (10 * k + (s[2].toNat - 48 : Nat)) (s.data.toList.drop 3)) := by
              have h := HI.out
              rw [HB.out] at h
              have e : (48 ≤ s[2].toNat ∧ s[2].toNat ≤ 57) := by omega
              rw [Hid, h]
              simp only [digs, e, and_self, if_true]
              rfl
            have hk : 0 ≤ 10 * k + ((s[2].toNat - 48 : Nat) : Int) ∧ 10 * k + ((s[2].toNat - 48 : Nat) : Int) ≤ 999 := by omega
            go_wp2
            go_roundw
            case rel => exact ⟨trivial, 3, 10 * k + (s[2].toNat - 48 : Nat), by omega, by omega, by go_num, by go_num, ⟨by omega, hk.2⟩, HS.out⟩
            case measure => simp [intOf]
          · have HS : Hid (digs 3 0 s.data.toList = digs 0 k (s.data.toList.drop 3)) := by
              have h := HI.out
              rw [HB.out] at h
              have e : ¬ (48 ≤ s[2].toNat ∧ s[2].toNat ≤ 57) := by omega
              rw [Hid, h]
              simp only [digs, e, if_false]
            go_wp2
            go_roundw
            case rel => exact ⟨trivial, 3, k, by omega, by omega, by go_num, by go_num, ⟨by omega, by show k ≤ 999; omega⟩, HS.out⟩
            case measure => simp [intOf]
        · have HS : Hid (digs 3 0 s.data.toList = digs 0 k (s.data.toList.drop 3)) := by
            have h := HI.out
            rw [HB.out] at h
            have e : ¬ (48 ≤ s[2].toNat ∧ s[2].toNat ≤ 57) := by omega
            rw [Hid, h]
            simp only [digs, e, if_false]
          go_wp2
          go_roundw
          case rel => exact ⟨trivial, 3, k, by omega, by omega, by go_num, by go_num, ⟨by omega, by show k ≤ 999; omega⟩, HS.out⟩
          case measure => simp [intOf]
      · have hl' : ¬ (2 : Int) < (s.size : Int) := by omega
        have HD : Hid (digs 3 0 s.data.toList = k) := by
          rw [Hid, HI.out, List.drop_eq_nil_of_le (by have := Lib.size_eq s; omega)]
          rfl
        go_wp2
        all_goals
          go_ret
          exact ⟨ret_i64 (by first | (rw [HV.out, HD.out]; done) | (rw [HV.out, HD.out]; rfl) | (rw [HV.out, HD.out]; go_num)), rfl⟩
    · have HD : Hid (digs 3 0 s.data.toList = k) := HI.out
      go_wp2
      all_goals
        go_ret
        exact ⟨ret_i64 (by first | (rw [HV.out, HD.out]; done) | (rw [HV.out, HD.out]; rfl) | (rw [HV.out, HD.out]; go_num)), rfl⟩
set_option maxHeartbeats 2000000 in
theorem number_any (s : ByteArray) (w : World) : Calls Tryz.prog 74 #[.string s] w fun e w' => e = .returned (.int .i64 (numb s.data.toList)) ∧ w' = w := by
  by_cases h0 : s.size = 0
  · have hb : ¬ (0 : Int) < (s.size : Int) := by omega
    rw [show s.data.toList = [] from List.eq_nil_of_length_eq_zero (by rw [← Lib.size_eq]; exact h0)]
    rw [show numb [] = 0 from rfl]
    go_enter Tryz.func74, Tryz.ntmps74
    go_wp2_with fail
    go_loopw [3, 5] (fun n t wr => wr = w ∧ t = .int .i64 0 ∧ n = .int .i64 0) (fun _ _ _ => 0)
    case atStart => exact ⟨rfl, rfl, rfl⟩
    case round =>
      obtain ⟨rfl, rfl, rfl⟩ := hrel
      go_wp2
      go_ret
      exact ⟨rfl, rfl⟩
  · by_cases hc : s[0]'(by omega) = 45
    · exact number_neg s (by omega) hc w
    · exact number_pos s (by omega) hc w
end Go.Proofs.YtpceelbphpfciaaGreatDoor
namespace Go.Proofs.YtpceelbphpfciaaGreatDoor
open Go.RowKit

theorem ret_of {a b : Int} {c d : Bool} (h : a = b) (k : c = d) : Ending.returned (.tuple #[.int .u8 a, .bool c]) = .returned (.tuple #[.int .u8 b, .bool d]) := by rw [h, k]
theorem not_next {ws : List (List UInt8)} {l x : List UInt8} {i : Nat} (h : ∀ j, j < i → ¬ ws[j]? = some l) (hx : ws[i]? = some x) (he : ¬ x = l) : ∀ j, j < i + 1 → ¬ ws[j]? = some l := by
  intro j hj
  rcases (show j < i ∨ j = i from by omega) with h' | rfl
  · exact h j h'
  · rw [hx]
    exact fun e => he (Option.some.inj e)
set_option maxHeartbeats 4000000 in
theorem rsof_any (s : ByteArray) (w : World) : Calls Tryz.prog 75 #[.string s] w fun e w' => e = .returned (.tuple #[.int .u8 (idx suitW s.toList : Nat), .bool (decide (idx suitW s.toList ≠ 0))]) ∧ w' = w := by
  go_enter Tryz.func75, Tryz.ntmps75
  go_wp2_with fail
  go_loopw [4] (fun t wr => wr = w ∧ ∃ k : Nat, k ≤ 6 ∧ t = .int .u8 ((k : Int) + 1) ∧ ∀ j, j < k → ¬ suitW[j]? = some s.toList) (fun t _ => 7 - (intOf t).toNat)
  case atStart => exact ⟨rfl, 0, by omega, rfl, fun j hj => absurd hj (by omega)⟩
  case round =>
    obtain ⟨rfl, k, hk, rfl, ha⟩ := hrel
    have HA : Hid (∀ j, j < k → ¬ suitW[j]? = some s.toList) := ha
    clear ha
    rcases (show k = 0 ∨ k = 1 ∨ k = 2 ∨ k = 3 ∨ k = 4 ∨ k = 5 ∨ k = 6 from by omega) with rfl | rfl | rfl | rfl | rfl | rfl | rfl
    · have C : ∀ w : World, Calls Tryz.prog 47 #[.int .u8 1] w fun e w' => e = .returned (.string ⟨([97, 105, 114] : List UInt8).toArray⟩) ∧ w' = w := fun w => rsname_any (k := 1) (by omega) w
      have HX : Hid (suitW[0]? = some [97, 105, 114]) := rfl
      by_cases he : ([97, 105, 114] : List UInt8) = s.toList
      · have hd : (([97, 105, 114] : List UInt8) == s.toList) = true := by simpa using he
        have HE : Hid (idx suitW s.toList = 1) := idx_hit (by rw [HX.out, he]) HA.out
        clear he
        go_wp2_with (go_at_call 47; refine (C _).mono ?_; rintro e w9 ⟨rfl, rfl⟩)
        go_ret2
        exact ⟨ret_of (by rw [HE.out]; rfl) (by rw [HE.out]; rfl), rfl⟩
      · have hd : (([97, 105, 114] : List UInt8) == s.toList) = false := by simpa using he
        have HE : Hid (∀ j, j < 0 + 1 → ¬ suitW[j]? = some s.toList) := not_next HA.out HX.out he
        clear he
        go_wp2_with (go_at_call 47; refine (C _).mono ?_; rintro e w9 ⟨rfl, rfl⟩)
        go_roundw
        case rel => exact ⟨trivial, 1, by omega, by go_num, HE.out⟩
        case measure => simp [intOf]
    · have C : ∀ w : World, Calls Tryz.prog 47 #[.int .u8 2] w fun e w' => e = .returned (.string ⟨([101, 97, 114, 116, 104] : List UInt8).toArray⟩) ∧ w' = w := fun w => rsname_any (k := 2) (by omega) w
      have HX : Hid (suitW[1]? = some [101, 97, 114, 116, 104]) := rfl
      by_cases he : ([101, 97, 114, 116, 104] : List UInt8) = s.toList
      · have hd : (([101, 97, 114, 116, 104] : List UInt8) == s.toList) = true := by simpa using he
        have HE : Hid (idx suitW s.toList = 2) := idx_hit (by rw [HX.out, he]) HA.out
        clear he
        go_wp2_with (go_at_call 47; refine (C _).mono ?_; rintro e w9 ⟨rfl, rfl⟩)
        go_ret2
        exact ⟨ret_of (by rw [HE.out]; rfl) (by rw [HE.out]; rfl), rfl⟩
      · have hd : (([101, 97, 114, 116, 104] : List UInt8) == s.toList) = false := by simpa using he
        have HE : Hid (∀ j, j < 1 + 1 → ¬ suitW[j]? = some s.toList) := not_next HA.out HX.out he
        clear he
        go_wp2_with (go_at_call 47; refine (C _).mono ?_; rintro e w9 ⟨rfl, rfl⟩)
        go_roundw
        case rel => exact ⟨trivial, 2, by omega, by go_num, HE.out⟩
        case measure => simp [intOf]
    · have C : ∀ w : World, Calls Tryz.prog 47 #[.int .u8 3] w fun e w' => e = .returned (.string ⟨([102, 105, 114, 101] : List UInt8).toArray⟩) ∧ w' = w := fun w => rsname_any (k := 3) (by omega) w
      have HX : Hid (suitW[2]? = some [102, 105, 114, 101]) := rfl
      by_cases he : ([102, 105, 114, 101] : List UInt8) = s.toList
      · have hd : (([102, 105, 114, 101] : List UInt8) == s.toList) = true := by simpa using he
        have HE : Hid (idx suitW s.toList = 3) := idx_hit (by rw [HX.out, he]) HA.out
        clear he
        go_wp2_with (go_at_call 47; refine (C _).mono ?_; rintro e w9 ⟨rfl, rfl⟩)
        go_ret2
        exact ⟨ret_of (by rw [HE.out]; rfl) (by rw [HE.out]; rfl), rfl⟩
      · have hd : (([102, 105, 114, 101] : List UInt8) == s.toList) = false := by simpa using he
        have HE : Hid (∀ j, j < 2 + 1 → ¬ suitW[j]? = some s.toList) := not_next HA.out HX.out he
        clear he
        go_wp2_with (go_at_call 47; refine (C _).mono ?_; rintro e w9 ⟨rfl, rfl⟩)
        go_roundw
        case rel => exact ⟨trivial, 3, by omega, by go_num, HE.out⟩
        case measure => simp [intOf]
    · have C : ∀ w : World, Calls Tryz.prog 47 #[.int .u8 4] w fun e w' => e = .returned (.string ⟨([119, 97, 116, 101, 114] : List UInt8).toArray⟩) ∧ w' = w := fun w => rsname_any (k := 4) (by omega) w
      have HX : Hid (suitW[3]? = some [119, 97, 116, 101, 114]) := rfl
      by_cases he : ([119, 97, 116, 101, 114] : List UInt8) = s.toList
      · have hd : (([119, 97, 116, 101, 114] : List UInt8) == s.toList) = true := by simpa using he
        have HE : Hid (idx suitW s.toList = 4) := idx_hit (by rw [HX.out, he]) HA.out
        clear he
        go_wp2_with (go_at_call 47; refine (C _).mono ?_; rintro e w9 ⟨rfl, rfl⟩)
        go_ret2
        exact ⟨ret_of (by rw [HE.out]; rfl) (by rw [HE.out]; rfl), rfl⟩
      · have hd : (([119, 97, 116, 101, 114] : List UInt8) == s.toList) = false := by simpa using he
        have HE : Hid (∀ j, j < 3 + 1 → ¬ suitW[j]? = some s.toList) := not_next HA.out HX.out he
        clear he
        go_wp2_with (go_at_call 47; refine (C _).mono ?_; rintro e w9 ⟨rfl, rfl⟩)
        go_roundw
        case rel => exact ⟨trivial, 4, by omega, by go_num, HE.out⟩
        case measure => simp [intOf]
    · have C : ∀ w : World, Calls Tryz.prog 47 #[.int .u8 5] w fun e w' => e = .returned (.string ⟨([118, 111, 105, 100] : List UInt8).toArray⟩) ∧ w' = w := fun w => rsname_any (k := 5) (by omega) w
      have HX : Hid (suitW[4]? = some [118, 111, 105, 100]) := rfl
      by_cases he : ([118, 111, 105, 100] : List UInt8) = s.toList
      · have hd : (([118, 111, 105, 100] : List UInt8) == s.toList) = true := by simpa using he
        have HE : Hid (idx suitW s.toList = 5) := idx_hit (by rw [HX.out, he]) HA.out
        clear he
        go_wp2_with (go_at_call 47; refine (C _).mono ?_; rintro e w9 ⟨rfl, rfl⟩)
        go_ret2
        exact ⟨ret_of (by rw [HE.out]; rfl) (by rw [HE.out]; rfl), rfl⟩
      · have hd : (([118, 111, 105, 100] : List UInt8) == s.toList) = false := by simpa using he
        have HE : Hid (∀ j, j < 4 + 1 → ¬ suitW[j]? = some s.toList) := not_next HA.out HX.out he
        clear he
        go_wp2_with (go_at_call 47; refine (C _).mono ?_; rintro e w9 ⟨rfl, rfl⟩)
        go_roundw
        case rel => exact ⟨trivial, 5, by omega, by go_num, HE.out⟩
        case measure => simp [intOf]
    · have C : ∀ w : World, Calls Tryz.prog 47 #[.int .u8 6] w fun e w' => e = .returned (.string ⟨([103, 111, 108, 100] : List UInt8).toArray⟩) ∧ w' = w := fun w => rsname_any (k := 6) (by omega) w
      have HX : Hid (suitW[5]? = some [103, 111, 108, 100]) := rfl
      by_cases he : ([103, 111, 108, 100] : List UInt8) = s.toList
      · have hd : (([103, 111, 108, 100] : List UInt8) == s.toList) = true := by simpa using he
        have HE : Hid (idx suitW s.toList = 6) := idx_hit (by rw [HX.out, he]) HA.out
        clear he
        go_wp2_with (go_at_call 47; refine (C _).mono ?_; rintro e w9 ⟨rfl, rfl⟩)
        go_ret2
        exact ⟨ret_of (by rw [HE.out]; rfl) (by rw [HE.out]; rfl), rfl⟩
      · have hd : (([103, 111, 108, 100] : List UInt8) == s.toList) = false := by simpa using he
        have HE : Hid (∀ j, j < 5 + 1 → ¬ suitW[j]? = some s.toList) := not_next HA.out HX.out he
        clear he
        go_wp2_with (go_at_call 47; refine (C _).mono ?_; rintro e w9 ⟨rfl, rfl⟩)
        go_roundw
        case rel => exact ⟨trivial, 6, by omega, by go_num, HE.out⟩
        case measure => simp [intOf]
    · have HE : Hid (idx suitW s.toList = 0) := idx_miss HA.out
      go_wp2
      go_ret2
      exact ⟨ret_of (by rw [HE.out]; rfl) (by rw [HE.out]; rfl), rfl⟩
set_option maxRecDepth 100000 in
set_option maxHeartbeats 4000000 in
theorem rtof_any (s : ByteArray) (w : World) : Calls Tryz.prog 76 #[.string s] w fun e w' => e = .returned (.tuple #[.int .u8 (idx traitW s.toList : Nat), .bool (decide (idx traitW s.toList ≠ 0))]) ∧ w.grownBy w' none := by
  go_enter Tryz.func76, Tryz.ntmps76
  go_wp2_with fail
  refine (rows_any _).mono ?_
  rintro e w1 ⟨rfl, R, g1⟩
  go_wp2_with fail
  go_loopw [5] (fun t wr => wr = w1 ∧ ∃ k : Nat, k ≤ 8 ∧ t = .int .i64 k ∧ ∀ j, j < k → ¬ traitW[j]? = some s.toList) (fun t _ => 8 - (intOf t).toNat)
  case atStart => exact ⟨rfl, 0, Nat.zero_le _, rfl, fun j hj => absurd hj (by omega)⟩
  case round =>
    obtain ⟨rfl, k, hk, rfl, ha⟩ := hrel
    have HA : Hid (∀ j, j < k → ¬ traitW[j]? = some s.toList) := ha
    clear ha
    rcases (show k = 0 ∨ k = 1 ∨ k = 2 ∨ k = 3 ∨ k = 4 ∨ k = 5 ∨ k = 6 ∨ k = 7 ∨ k = 8 from by omega) with rfl | rfl | rfl | rfl | rfl | rfl | rfl | rfl | rfl
    · have c0 : wr.cell? ⟨w.heap.size, 0, none⟩ = some (.int .u8 1) := block_cell R 0
      have c1 : wr.cell? ⟨w.heap.size, 1, none⟩ = some (.string ⟨#[102, 97, 115, 116]⟩) := block_cell R 1
      have HX : Hid (traitW[0]? = some [102, 97, 115, 116]) := rfl
      by_cases he : ([102, 97, 115, 116] : List UInt8) = s.toList
      · have hd : (([102, 97, 115, 116] : List UInt8) == s.toList) = true := by simpa using he
        have HE : Hid (idx traitW s.toList = 1) := idx_hit (by rw [HX.out, he]) HA.out
        clear he
        go_wp2
        go_ret2
        exact ⟨ret_of (by rw [HE.out]; rfl) (by rw [HE.out]; rfl), g1⟩
      · have hd : (([102, 97, 115, 116] : List UInt8) == s.toList) = false := by simpa using he
        have HE : Hid (∀ j, j < 0 + 1 → ¬ traitW[j]? = some s.toList) := not_next HA.out HX.out he
        clear he
        go_wp2
        go_roundw
        case rel => exact ⟨trivial, 1, by omega, by go_num, HE.out⟩
        case measure => simp [intOf]
    · have c0 : wr.cell? ⟨w.heap.size, 4, none⟩ = some (.int .u8 2) := block_cell R 4
      have c1 : wr.cell? ⟨w.heap.size, 5, none⟩ = some (.string ⟨#[103, 117, 97, 114, 100]⟩) := block_cell R 5
      have HX : Hid (traitW[1]? = some [103, 117, 97, 114, 100]) := rfl
      by_cases he : ([103, 117, 97, 114, 100] : List UInt8) = s.toList
      · have hd : (([103, 117, 97, 114, 100] : List UInt8) == s.toList) = true := by simpa using he
        have HE : Hid (idx traitW s.toList = 2) := idx_hit (by rw [HX.out, he]) HA.out
        clear he
        go_wp2
        go_ret2
        exact ⟨ret_of (by rw [HE.out]; rfl) (by rw [HE.out]; rfl), g1⟩
      · have hd : (([103, 117, 97, 114, 100] : List UInt8) == s.toList) = false := by simpa using he
        have HE : Hid (∀ j, j < 1 + 1 → ¬ traitW[j]? = some s.toList) := not_next HA.out HX.out he
        clear he
        go_wp2
        go_roundw
        case rel => exact ⟨trivial, 2, by omega, by go_num, HE.out⟩
        case measure => simp [intOf]
    · have c0 : wr.cell? ⟨w.heap.size, 8, none⟩ = some (.int .u8 3) := block_cell R 8
      have c1 : wr.cell? ⟨w.heap.size, 9, none⟩ = some (.string ⟨#[118, 101, 110, 111, 109]⟩) := block_cell R 9
      have HX : Hid (traitW[2]? = some [118, 101, 110, 111, 109]) := rfl
      by_cases he : ([118, 101, 110, 111, 109] : List UInt8) = s.toList
      · have hd : (([118, 101, 110, 111, 109] : List UInt8) == s.toList) = true := by simpa using he
        have HE : Hid (idx traitW s.toList = 3) := idx_hit (by rw [HX.out, he]) HA.out
        clear he
        go_wp2
        go_ret2
        exact ⟨ret_of (by rw [HE.out]; rfl) (by rw [HE.out]; rfl), g1⟩
      · have hd : (([118, 101, 110, 111, 109] : List UInt8) == s.toList) = false := by simpa using he
        have HE : Hid (∀ j, j < 2 + 1 → ¬ traitW[j]? = some s.toList) := not_next HA.out HX.out he
        clear he
        go_wp2
        go_roundw
        case rel => exact ⟨trivial, 3, by omega, by go_num, HE.out⟩
        case measure => simp [intOf]
    · have c0 : wr.cell? ⟨w.heap.size, 12, none⟩ = some (.int .u8 4) := block_cell R 12
      have c1 : wr.cell? ⟨w.heap.size, 13, none⟩ = some (.string ⟨#[108, 111, 110, 101]⟩) := block_cell R 13
      have HX : Hid (traitW[3]? = some [108, 111, 110, 101]) := rfl
      by_cases he : ([108, 111, 110, 101] : List UInt8) = s.toList
      · have hd : (([108, 111, 110, 101] : List UInt8) == s.toList) = true := by simpa using he
        have HE : Hid (idx traitW s.toList = 4) := idx_hit (by rw [HX.out, he]) HA.out
        clear he
        go_wp2
        go_ret2
        exact ⟨ret_of (by rw [HE.out]; rfl) (by rw [HE.out]; rfl), g1⟩
      · have hd : (([108, 111, 110, 101] : List UInt8) == s.toList) = false := by simpa using he
        have HE : Hid (∀ j, j < 3 + 1 → ¬ traitW[j]? = some s.toList) := not_next HA.out HX.out he
        clear he
        go_wp2
        go_roundw
        case rel => exact ⟨trivial, 4, by omega, by go_num, HE.out⟩
        case measure => simp [intOf]
    · have c0 : wr.cell? ⟨w.heap.size, 16, none⟩ = some (.int .u8 5) := block_cell R 16
      have c1 : wr.cell? ⟨w.heap.size, 17, none⟩ = some (.string ⟨#[100, 114, 97, 105, 110]⟩) := block_cell R 17
      have HX : Hid (traitW[4]? = some [100, 114, 97, 105, 110]) := rfl
      by_cases he : ([100, 114, 97, 105, 110] : List UInt8) = s.toList
      · have hd : (([100, 114, 97, 105, 110] : List UInt8) == s.toList) = true := by simpa using he
        have HE : Hid (idx traitW s.toList = 5) := idx_hit (by rw [HX.out, he]) HA.out
        clear he
        go_wp2
        go_ret2
        exact ⟨ret_of (by rw [HE.out]; rfl) (by rw [HE.out]; rfl), g1⟩
      · have hd : (([100, 114, 97, 105, 110] : List UInt8) == s.toList) = false := by simpa using he
        have HE : Hid (∀ j, j < 4 + 1 → ¬ traitW[j]? = some s.toList) := not_next HA.out HX.out he
        clear he
        go_wp2
        go_roundw
        case rel => exact ⟨trivial, 5, by omega, by go_num, HE.out⟩
        case measure => simp [intOf]
    · have c0 : wr.cell? ⟨w.heap.size, 20, none⟩ = some (.int .u8 6) := block_cell R 20
      have c1 : wr.cell? ⟨w.heap.size, 21, none⟩ = some (.string ⟨#[109, 117, 116, 101]⟩) := block_cell R 21
      have HX : Hid (traitW[5]? = some [109, 117, 116, 101]) := rfl
      by_cases he : ([109, 117, 116, 101] : List UInt8) = s.toList
      · have hd : (([109, 117, 116, 101] : List UInt8) == s.toList) = true := by simpa using he
        have HE : Hid (idx traitW s.toList = 6) := idx_hit (by rw [HX.out, he]) HA.out
        clear he
        go_wp2
        go_ret2
        exact ⟨ret_of (by rw [HE.out]; rfl) (by rw [HE.out]; rfl), g1⟩
      · have hd : (([109, 117, 116, 101] : List UInt8) == s.toList) = false := by simpa using he
        have HE : Hid (∀ j, j < 5 + 1 → ¬ traitW[j]? = some s.toList) := not_next HA.out HX.out he
        clear he
        go_wp2
        go_roundw
        case rel => exact ⟨trivial, 6, by omega, by go_num, HE.out⟩
        case measure => simp [intOf]
    · have c0 : wr.cell? ⟨w.heap.size, 24, none⟩ = some (.int .u8 7) := block_cell R 24
      have c1 : wr.cell? ⟨w.heap.size, 25, none⟩ = some (.string ⟨#[102, 105, 120, 101, 100]⟩) := block_cell R 25
      have HX : Hid (traitW[6]? = some [102, 105, 120, 101, 100]) := rfl
      by_cases he : ([102, 105, 120, 101, 100] : List UInt8) = s.toList
      · have hd : (([102, 105, 120, 101, 100] : List UInt8) == s.toList) = true := by simpa using he
        have HE : Hid (idx traitW s.toList = 7) := idx_hit (by rw [HX.out, he]) HA.out
        clear he
        go_wp2
        go_ret2
        exact ⟨ret_of (by rw [HE.out]; rfl) (by rw [HE.out]; rfl), g1⟩
      · have hd : (([102, 105, 120, 101, 100] : List UInt8) == s.toList) = false := by simpa using he
        have HE : Hid (∀ j, j < 6 + 1 → ¬ traitW[j]? = some s.toList) := not_next HA.out HX.out he
        clear he
        go_wp2
        go_roundw
        case rel => exact ⟨trivial, 7, by omega, by go_num, HE.out⟩
        case measure => simp [intOf]
    · have c0 : wr.cell? ⟨w.heap.size, 28, none⟩ = some (.int .u8 8) := block_cell R 28
      have c1 : wr.cell? ⟨w.heap.size, 29, none⟩ = some (.string ⟨#[115, 119, 105, 102, 116]⟩) := block_cell R 29
      have HX : Hid (traitW[7]? = some [115, 119, 105, 102, 116]) := rfl
      by_cases he : ([115, 119, 105, 102, 116] : List UInt8) = s.toList
      · have hd : (([115, 119, 105, 102, 116] : List UInt8) == s.toList) = true := by simpa using he
        have HE : Hid (idx traitW s.toList = 8) := idx_hit (by rw [HX.out, he]) HA.out
        clear he
        go_wp2
        go_ret2
        exact ⟨ret_of (by rw [HE.out]; rfl) (by rw [HE.out]; rfl), g1⟩
      · have hd : (([115, 119, 105, 102, 116] : List UInt8) == s.toList) = false := by simpa using he
        have HE : Hid (∀ j, j < 7 + 1 → ¬ traitW[j]? = some s.toList) := not_next HA.out HX.out he
        clear he
        go_wp2
        go_roundw
        case rel => exact ⟨trivial, 8, by omega, by go_num, HE.out⟩
        case measure => simp [intOf]
    · have HE : Hid (idx traitW s.toList = 0) := idx_miss HA.out
      go_wp2
      go_ret2
      exact ⟨ret_of (by rw [HE.out]; rfl) (by rw [HE.out]; rfl), g1⟩
end Go.Proofs.YtpceelbphpfciaaGreatDoor
namespace Go.Proofs.YtpceelbphpfciaaGreatDoor
open Go.RowKit

theorem ext_hit {s b : ByteArray} {i : Nat} (h : hits s.data.toList b.data.toList i) : ((s.extract i (i + b.size)).toList == b.toList) = true := by
  rw [ext_is, Lib.toList_data, Lib.toList_data, show i + b.size - i = b.data.toList.length by rw [Lib.size_eq]; omega]
  simpa [hits] using h
theorem ext_miss {s b : ByteArray} {i : Nat} (h : ¬ hits s.data.toList b.data.toList i) : ((s.extract i (i + b.size)).toList == b.toList) = false := by
  rw [ext_is, Lib.toList_data, Lib.toList_data, show i + b.size - i = b.data.toList.length by rw [Lib.size_eq]; omega]
  simpa [hits] using h
theorem ext_rest (s : ByteArray) (a : Nat) : s.extract a s.size = ⟨(s.data.toList.drop a).toArray⟩ := by
  rw [ext_is]
  congr 2
  exact List.take_of_length_le (by rw [List.length_drop, ← Lib.size_eq]; omega)
set_option maxRecDepth 100000 in
set_option maxHeartbeats 4000000 in
theorem rpcs_any (s b : ByteArray) (hs : s.size ≤ 1048576) (hb0 : 0 < b.size) (hb1 : b.size ≤ 10) (w : World) : Calls Tryz.prog 59 #[.string s, .string b] w fun e w' => ∃ v, e = .returned v ∧ Own w' w.heap.size 9 v (pcs (rpcs s.data.toList b.data.toList)) ∧ w.grownBy w' none := by
  obtain ⟨i0, hi, hz0, hz1, hz2⟩ := info_parts Tryz.info9
  have HSL : Hid (s.size = s.data.toList.length) := Lib.size_eq s
  have HBL : Hid (b.size = b.data.toList.length) := Lib.size_eq b
  go_enter Tryz.func59, Tryz.ntmps59
  go_wp2_with fail
  go_loopw [5, 6, 7] (fun v a i wr => ∃ (A I : Nat) (out : List (List UInt8)), I ≤ s.size ∧ A ≤ s.size ∧ out.length ≤ I ∧ out ++ gcut s.data.toList b.data.toList A I = rpcs s.data.toList b.data.toList ∧ a = .int .i64 A ∧ i = .int .i64 I ∧ Own wr w.heap.size 9 v (pcs out) ∧ w.grownBy wr none)
    (fun _ _ i _ => s.size - (intOf i).toNat)
  case atStart => exact ⟨0, 0, [], by omega, by omega, by simp, rfl, rfl, rfl, Own.nil _ _ _, grown_refl _ _⟩
  case round =>
    obtain ⟨A, I, out, hI, hA, ho, hC, rfl, rfl, O, G⟩ := hrel
    have HC : Hid (out ++ gcut s.data.toList b.data.toList A I = rpcs s.data.toList b.data.toList) := hC
    clear hC
    have hw : wrap64 ((I : Int) + (b.size : Int)) = (I : Int) + (b.size : Int) := by unfold wrap64; omega
    have hw1 : wrap64 ((I : Int) + 1) = (I : Int) + 1 := by unfold wrap64; omega
    have hI0 : (0 : Int) ≤ (I : Int) := by omega
    have hA0 : (0 : Int) ≤ (A : Int) := by omega
    obtain ⟨q, cp, ev⟩ := O.form
    rw [length_pcs] at ev
    subst ev
    have O1 : World.ownsRow wr w.heap.size 9 1 (.slice q out.length cp) out.length (pcs out) := own_pcs O
    have HO : Hid (Own wr w.heap.size 9 (.slice q out.length cp) (pcs out)) := O
    have hsz := G.size
    clear O
    by_cases hle : I + b.size ≤ s.size
    · have hle' : (I : Int) + (b.size : Int) ≤ (s.size : Int) := by omega
      have hIb : (I : Int) ≤ (I : Int) + (b.size : Int) := by omega
      have HLE : Hid (I + b.data.toList.length ≤ s.data.toList.length) := by unfold Hid; rw [← HBL.out, ← HSL.out]; exact hle
      by_cases hAI : A ≤ I
      · have hAI' : (A : Int) ≤ (I : Int) := by omega
        by_cases hh : hits s.data.toList b.data.toList I
        · have hx := ext_hit hh
          have HN : Hid ((out ++ [(s.data.toList.drop A).take (I - A)]) ++ gcut s.data.toList b.data.toList (I + b.size) (I + 1) = rpcs s.data.toList b.data.toList) := by
            unfold Hid
            rw [← HC.out, gcut_hit HLE.out hAI hh, HBL.out]
            simp
          have HX : Hid (s.extract A I = ⟨((s.data.toList.drop A).take (I - A)).toArray⟩) := ext_is s A I
          clear hh
          go_wp2_with (at_builtin; refine wpList_append_own_at _ rfl (.tmp 31) (.tmp 36) 57 rfl w.heap.size 9 i0 (.string ByteArray.empty) 1 16 Tryz.underlying57 hi hz0 hz1 hz2 rfl (by decide) _ _ _ rfl (World.ownsRow.alloc O1 _) ⟨wr.heap.size, 0, none⟩ 1 1 [.string (s.extract A I)] rfl rfl (cell_one_new _ _ _) (fun x hx => by simp at hx; subst hx; rfl) (by unfold maxLen; omega) (by omega) (by simp; omega) ?_; intro v' w3 hown' hgrow3 hnil3 hlie3)
          go_roundw
          case rel => exact ⟨I + b.size, I + 1, out ++ [(s.data.toList.drop A).take (I - A)], by omega, hle, by simp; omega, HN.out, by go_num, by go_num, by rw [pcs_snoc, ← HX.out]; exact own_snoc hown' (length_pcs _).symm, grown_own (grown_push G _) hgrow3 (fun x hx => HO.out.block x hx)⟩
          case measure => simp [intOf]; omega
        · have hx := ext_miss hh
          have HN : Hid (out ++ gcut s.data.toList b.data.toList A (I + 1) = rpcs s.data.toList b.data.toList) := by
            unfold Hid
            rw [← HC.out, gcut_miss HLE.out (fun k => hh k.2)]
          clear hh
          go_wp2_with fail
          go_roundw
          case rel => exact ⟨A, I + 1, out, by omega, hA, by omega, HN.out, rfl, by go_num, HO.out, G⟩
          case measure => simp [intOf]; omega
      · have hAI' : ¬ (A : Int) ≤ (I : Int) := by omega
        have HN : Hid (out ++ gcut s.data.toList b.data.toList A (I + 1) = rpcs s.data.toList b.data.toList) := by
          unfold Hid
          rw [← HC.out, gcut_miss HLE.out (fun k => hAI k.1)]
        go_wp2_with fail
        go_roundw
        case rel => exact ⟨A, I + 1, out, by omega, hA, by omega, HN.out, rfl, by go_num, HO.out, G⟩
        case measure => simp [intOf]; omega
    · have hle' : ¬ (I : Int) + (b.size : Int) ≤ (s.size : Int) := by omega
      have hA' : (A : Int) ≤ (s.size : Int) := by omega
      have HN : Hid (out ++ [s.data.toList.drop A] = rpcs s.data.toList b.data.toList) := by
        unfold Hid
        rw [← HC.out, gcut_end (by rw [← HBL.out, ← HSL.out]; exact hle)]
      have HX : Hid (s.extract A s.size = ⟨(s.data.toList.drop A).toArray⟩) := ext_rest s A
      go_wp2_with (at_builtin; refine wpList_append_own_at _ rfl (.tmp 42) (.tmp 46) 57 rfl w.heap.size 9 i0 (.string ByteArray.empty) 1 16 Tryz.underlying57 hi hz0 hz1 hz2 rfl (by decide) _ _ _ rfl (World.ownsRow.alloc O1 _) ⟨wr.heap.size, 0, none⟩ 1 1 [.string (s.extract A s.size)] rfl rfl (cell_one_new _ _ _) (fun x hx => by simp at hx; subst hx; rfl) (by unfold maxLen; omega) (by omega) (by simp; omega) ?_; intro v' w3 hown' hgrow3 hnil3 hlie3)
      go_ret
      exact ⟨_, rfl, by rw [← HN.out, pcs_snoc, ← HX.out]; exact own_snoc hown' (length_pcs _).symm, grown_own (grown_push G _) hgrow3 (fun x hx => HO.out.block x hx)⟩
end Go.Proofs.YtpceelbphpfciaaGreatDoor
namespace Go.Proofs.YtpceelbphpfciaaGreatDoor
open Go.RowKit

set_option maxRecDepth 100000 in
set_option maxHeartbeats 4000000 in
theorem num6_any (s : ByteArray) (w : World) : Calls Tryz.prog 98 #[.string s] w fun e w' => e = .returned (.int .i64 (num6 3 0 s.data.toList)) ∧ w' = w := by
  go_enter Tryz.func98, Tryz.ntmps98
  go_wp2_with fail
  go_loopw [3, 4] (fun n t wr => wr = w ∧ ∃ (i : Nat) (k : Int), i ≤ 3 ∧ i ≤ s.size ∧ t = .int .i64 i ∧ n = .int .i64 k ∧ (0 ≤ k ∧ k ≤ most i) ∧ num6 3 0 s.data.toList = num6 (3 - i) k (s.data.toList.drop i)) (fun _ t _ => 3 - (intOf t).toNat)
  case atStart => exact ⟨rfl, 0, 0, by omega, by omega, rfl, rfl, ⟨by omega, by decide⟩, rfl⟩
  case round =>
    obtain ⟨rfl, i, k, hi3, his, rfl, rfl, ⟨hk0, hk1⟩, hI⟩ := hrel
    have HI : Hid (num6 3 0 s.data.toList = num6 (3 - i) k (s.data.toList.drop i)) := hI
    clear hI
    rcases (show i = 0 ∨ i = 1 ∨ i = 2 ∨ i = 3 from by omega) with rfl | rfl | rfl | rfl
    all_goals simp only [most] at hk1
    · by_cases hl : 0 < s.size
      · have hl' : (0 : Int) < (s.size : Int) := by omega
        have HB : Hid (s.data.toList.drop 0 = s[0] :: s.data.toList.drop 1) := drop_byte s 0 hl
        by_cases a : 48 ≤ (s[0].toNat : Int)
        · by_cases b : (s[0].toNat : Int) ≤ 57
          · have HS : Hid (num6 3 0 s.data.toList = num6 2 (10 * k + (s[0].toNat - 48 : Nat)) (s.data.toList.drop 1)) := by
              have h := HI.out
              rw [HB.out] at h
              have e : (48 ≤ s[0].toNat ∧ s[0].toNat ≤ 57) := by omega
              rw [Hid, h]
              simp only [num6, e, and_self, if_true]
              rfl
            have hk : 0 ≤ 10 * k + ((s[0].toNat - 48 : Nat) : Int) ∧ 10 * k + ((s[0].toNat - 48 : Nat) : Int) ≤ 9 := by omega
            go_wp2
            go_roundw
            case rel => exact ⟨trivial, 1, 10 * k + (s[0].toNat - 48 : Nat), by omega, by omega, by go_num, by go_num, ⟨by omega, hk.2⟩, HS.out⟩
            case measure => simp [intOf]
          · have HD : Hid (num6 3 0 s.data.toList = 0) := by
              have h := HI.out
              rw [HB.out] at h
              have e : ¬ (48 ≤ s[0].toNat ∧ s[0].toNat ≤ 57) := by omega
              rw [Hid, h]
              simp only [num6, e, if_false]
            go_wp2
            all_goals
              go_ret
              exact ⟨ret_i64 (by rw [HD.out]), rfl⟩
        · have HD : Hid (num6 3 0 s.data.toList = 0) := by
            have h := HI.out
            rw [HB.out] at h
            have e : ¬ (48 ≤ s[0].toNat ∧ s[0].toNat ≤ 57) := by omega
            rw [Hid, h]
            simp only [num6, e, if_false]
          go_wp2
          all_goals
            go_ret
            exact ⟨ret_i64 (by rw [HD.out]), rfl⟩
      · have hl' : ¬ (0 : Int) < (s.size : Int) := by omega
        have HD : Hid (num6 3 0 s.data.toList = k) := by
          rw [Hid, HI.out, List.drop_eq_nil_of_le (by have := Lib.size_eq s; omega)]
          rfl
        go_wp2
        all_goals
          go_ret
          exact ⟨ret_i64 (by rw [HD.out]), rfl⟩
    · by_cases hl : 1 < s.size
      · have hl' : (1 : Int) < (s.size : Int) := by omega
        have HB : Hid (s.data.toList.drop 1 = s[1] :: s.data.toList.drop 2) := drop_byte s 1 hl
        by_cases a : 48 ≤ (s[1].toNat : Int)
        · by_cases b : (s[1].toNat : Int) ≤ 57
          · have HS : Hid (num6 3 0 s.data.toList = num6 1 (10 * k + (s[1].toNat - 48 : Nat)) (s.data.toList.drop 2)) := by
              have h := HI.out
              rw [HB.out] at h
              have e : (48 ≤ s[1].toNat ∧ s[1].toNat ≤ 57) := by omega
              rw [Hid, h]
              simp only [num6, e, and_self, if_true]
              rfl
            have hk : 0 ≤ 10 * k + ((s[1].toNat - 48 : Nat) : Int) ∧ 10 * k + ((s[1].toNat - 48 : Nat) : Int) ≤ 99 := by omega
            go_wp2
            go_roundw
            case rel => exact ⟨trivial, 2, 10 * k + (s[1].toNat - 48 : Nat), by omega, by omega, by go_num, by go_num, ⟨by omega, hk.2⟩, HS.out⟩
            case measure => simp [intOf]
          · have HD : Hid (num6 3 0 s.data.toList = 0) := by
              have h := HI.out
              rw [HB.out] at h
              have e : ¬ (48 ≤ s[1].toNat ∧ s[1].toNat ≤ 57) := by omega
              rw [Hid, h]
              simp only [num6, e, if_false]
            go_wp2
            all_goals
              go_ret
              exact ⟨ret_i64 (by rw [HD.out]), rfl⟩
        · have HD : Hid (num6 3 0 s.data.toList = 0) := by
            have h := HI.out
            rw [HB.out] at h
            have e : ¬ (48 ≤ s[1].toNat ∧ s[1].toNat ≤ 57) := by omega
            rw [Hid, h]
            simp only [num6, e, if_false]
          go_wp2
          all_goals
            go_ret
            exact ⟨ret_i64 (by rw [HD.out]), rfl⟩
      · have hl' : ¬ (1 : Int) < (s.size : Int) := by omega
        have HD : Hid (num6 3 0 s.data.toList = k) := by
          rw [Hid, HI.out, List.drop_eq_nil_of_le (by have := Lib.size_eq s; omega)]
          rfl
        go_wp2
        all_goals
          go_ret
          exact ⟨ret_i64 (by rw [HD.out]), rfl⟩
    · by_cases hl : 2 < s.size
      · have hl' : (2 : Int) < (s.size : Int) := by omega
        have HB : Hid (s.data.toList.drop 2 = s[2] :: s.data.toList.drop 3) := drop_byte s 2 hl
        by_cases a : 48 ≤ (s[2].toNat : Int)
        · by_cases b : (s[2].toNat : Int) ≤ 57
          · have HS : Hid (num6 3 0 s.data.toList = num6 0 (10 * k + (s[2].toNat - 48 : Nat)) (s.data.toList.drop 3)) := by
              have h := HI.out
              rw [HB.out] at h
              have e : (48 ≤ s[2].toNat ∧ s[2].toNat ≤ 57) := by omega
              rw [Hid, h]
              simp only [num6, e, and_self, if_true]
              rfl
            have hk : 0 ≤ 10 * k + ((s[2].toNat - 48 : Nat) : Int) ∧ 10 * k + ((s[2].toNat - 48 : Nat) : Int) ≤ 999 := by omega
            go_wp2
            go_roundw
            case rel => exact ⟨trivial, 3, 10 * k + (s[2].toNat - 48 : Nat), by omega, by omega, by go_num, by go_num, ⟨by omega, hk.2⟩, HS.out⟩
            case measure => simp [intOf]
          · have HD : Hid (num6 3 0 s.data.toList = 0) := by
              have h := HI.out
              rw [HB.out] at h
              have e : ¬ (48 ≤ s[2].toNat ∧ s[2].toNat ≤ 57) := by omega
              rw [Hid, h]
              simp only [num6, e, if_false]
            go_wp2
            all_goals
              go_ret
              exact ⟨ret_i64 (by rw [HD.out]), rfl⟩
        · have HD : Hid (num6 3 0 s.data.toList = 0) := by
            have h := HI.out
            rw [HB.out] at h
            have e : ¬ (48 ≤ s[2].toNat ∧ s[2].toNat ≤ 57) := by omega
            rw [Hid, h]
            simp only [num6, e, if_false]
          go_wp2
          all_goals
            go_ret
            exact ⟨ret_i64 (by rw [HD.out]), rfl⟩
      · have hl' : ¬ (2 : Int) < (s.size : Int) := by omega
        have HD : Hid (num6 3 0 s.data.toList = k) := by
          rw [Hid, HI.out, List.drop_eq_nil_of_le (by have := Lib.size_eq s; omega)]
          rfl
        go_wp2
        all_goals
          go_ret
          exact ⟨ret_i64 (by rw [HD.out]), rfl⟩
    · have HD : Hid (num6 3 0 s.data.toList = k) := HI.out
      go_wp2
      all_goals
        go_ret
        exact ⟨ret_i64 (by rw [HD.out]), rfl⟩
end Go.Proofs.YtpceelbphpfciaaGreatDoor
