/-
  What the document's own answer reads of a text; TraitTexts, walked.
-/
import Derived.Test.YtpnbblimmkdaiaaDoorRof
import Derived.Test.YtpnbblimmkdaiaaDoorRef2
import Derived.Test.YtpnbblimmkdaiaaDoorKnown
namespace Go.Proofs.YtpnbblimmkdaiaaDoor
open Go.RowKit

theorem mk_toList (p : List UInt8) : (⟨p.toArray⟩ : ByteArray).toList = p := by rw [Lib.toList_data]
theorem all_take {α : Type} (f : α → Bool) (l : List α) (k : Nat) (x : α) (h : l[k]? = some x) (ha : (l.take k).all f = true) (hx : f x = true) : (l.take (k + 1)).all f = true := by
  rw [List.take_add_one, h, List.all_append, ha]
  simp [hx]
theorem rise_hit (ps : List (List UInt8)) (k : Nat) (p : List UInt8) (h : ps[k]? = some p) (last set : Int) (hle : oI p ≤ last) : rise last set (ps.drop k) = (0, 5) := by
  obtain ⟨hk, e⟩ := List.getElem?_eq_some_iff.1 h
  rw [List.drop_eq_getElem_cons hk, e]
  simp [rise, hle]
theorem rise_next (ps : List (List UInt8)) (k : Nat) (p : List UInt8) (h : ps[k]? = some p) (last set : Int) (hle : ¬ oI p ≤ last) : rise last set (ps.drop k) = rise (oI p) (tWith set (oI p)) (ps.drop (k + 1)) := by
  obtain ⟨hk, e⟩ := List.getElem?_eq_some_iff.1 h
  rw [List.drop_eq_getElem_cons hk, e]
  simp [rise, hle]
theorem pieces_len : ∀ l : List UInt8, (pieces l).length ≤ l.length + 1
  | [] => by simp [pieces]
  | c :: r => by
    have ih := pieces_len r
    by_cases hc : c = 32
    · simp [pieces, hc]
      omega
    · cases h : pieces r with
      | nil => simp [pieces, hc, h]
      | cons p ps =>
        rw [h] at ih
        simp [pieces, hc, h] at ih ⊢
        omega
set_option maxRecDepth 100000 in
set_option maxHeartbeats 4000000 in
theorem rparse_any (s : ByteArray) (hs : s.size ≤ 1048576) (w : World) : Calls Tryd.prog 31 #[.string s] w fun e w' => e = .returned (.tuple #[.int .u16 (rParse s.data.toList).1, .int .i64 (rParse s.data.toList).2]) ∧ w.grownBy w' none := by
  by_cases h0 : s.toList = [45]
  · have h0' : s.data.toList = [45] := by rw [← Lib.toList_data]; exact h0
    have e : rParse s.data.toList = (0, 0) := by simp [rParse, h0']
    rw [e]
    have hd : (s.toList == [45]) = true := by simpa using h0
    clear h0 h0' e
    go_enter Tryd.func31, Tryd.ntmps31
    go_wp2
    go_ret2
    exact ⟨rfl, grown_refl _ _⟩
  · have h0' : ¬ s.data.toList = [45] := by rw [← Lib.toList_data]; exact h0
    have hd : (s.toList == [45]) = false := by simpa using h0
    have HP : Hid (Calls Tryd.prog 42 #[.string s] w fun e w' => ∃ v, e = .returned v ∧ Own w' w.heap.size 9 v (pcs (pieces s.data.toList)) ∧ w.grownBy w' none) := rpieces_any s hs w
    obtain ⟨ps, hps⟩ : ∃ ps, ps = pieces s.data.toList := ⟨_, rfl⟩
    have hlen : ps.length ≤ 1048577 := by
      have := pieces_len s.data.toList
      rw [← hps, ← Lib.size_eq] at this
      omega
    obtain ⟨res, hres⟩ : ∃ res, res = rParse s.data.toList := ⟨_, rfl⟩
    have HR1 : Hid (ps.all oB = true → res = rise 0 0 ps) := fun h => by
      rw [hres, hps]
      rw [hps] at h
      simp only [rParse, if_neg h0', h, if_pos]
    have HR2 : Hid (¬ ps.all oB = true → res = (0, 4)) := fun h => by
      rw [hres]
      rw [hps] at h
      simp only [rParse, if_neg h0', if_neg h]
    rw [← hres]
    have HPS : Hid (ps = pieces s.data.toList) := hps
    clear h0 h0' hres hps hs
    go_enter Tryd.func31, Tryd.ntmps31
    go_wp2_with fail
    refine HP.out.mono ?_
    rintro e w1 ⟨v, rfl, O, g1⟩
    rw [← HPS.out] at O
    obtain ⟨p, cp, rfl, hcell⟩ : ∃ (p : Option Addr) (cp : Nat), v = .slice p ps.length cp ∧ ∀ (k : Nat) (x : List UInt8), ps[k]? = some x → ∃ g, p = some ⟨g, 0, none⟩ ∧ w1.cell? ⟨g, k, none⟩ = some (.string ⟨x.toArray⟩) := by
      rcases O.at with ⟨rfl, hl0⟩ | ⟨g, cap, rfl, _, _, _, hc⟩
      · have e0 : ps = [] := by simpa [pcs] using hl0
        subst e0
        exact ⟨none, 0, rfl, fun k x h => by simp at h⟩
      · exact ⟨some ⟨g, 0, none⟩, cap, by rw [length_pcs], fun k x h => ⟨g, rfl, (hc k (.string ⟨x.toArray⟩) (by simp [pcs, h])).1⟩⟩
    have HC : Hid (∀ (k : Nat) (x : List UInt8), ps[k]? = some x → ∃ g, p = some ⟨g, 0, none⟩ ∧ w1.cell? ⟨g, k, none⟩ = some (.string ⟨x.toArray⟩)) := hcell
    clear O hcell HP
    go_wp2_with fail
    go_loopw [7] (fun i wr => ∃ (k : Nat), k ≤ ps.length ∧ i = .int .i64 k ∧ (ps.take k).all oB = true ∧ w1.grownBy wr none) (fun i _ => ps.length - (intOf i).toNat)
    case atStart => exact ⟨0, by omega, rfl, rfl, grown_refl _ _⟩
    case round =>
      obtain ⟨k, hk, rfl, ha, G⟩ := hrel
      have HA : Hid ((ps.take k).all oB = true) := ha
      clear ha
      rcases (show k = ps.length ∨ k < ps.length from by omega) with rfl | hlt
      · have hall : ps.all oB = true := by have := HA.out; rwa [List.take_length] at this
        have HR : Hid (res = rise 0 0 (ps.drop 0)) := HR1.out hall
        clear hall HR1 HR2 HA
        obtain ⟨w2, hw2⟩ : ∃ w2, w2 = wr := ⟨_, rfl⟩
        subst hw2
        go_wp2_with fail
        go_loopw [5, 6, 10] (fun a t i wr => ∃ (k : Nat) (set last : Int), k ≤ ps.length ∧ i = .int .i64 k ∧ a = .int .u16 set ∧ t = .int .u8 last ∧ res = rise last set (ps.drop k) ∧ w1.grownBy wr none) (fun _ _ i _ => ps.length - (intOf i).toNat)
        case atStart => exact ⟨0, 0, 0, by omega, rfl, rfl, rfl, HR.out, G⟩
        case round =>
          obtain ⟨k, set, last, hk, rfl, rfl, rfl, hr, G2⟩ := hrel
          have HK : Hid (res = rise last set (ps.drop k)) := hr
          clear hr
          rcases (show k = ps.length ∨ k < ps.length from by omega) with rfl | hlt
          · have HE : Hid (res = (set, 0)) := by
              have := HK.out
              rw [List.drop_length] at this
              exact this
            go_wp2
            go_ret2
            exact ⟨by rw [HE.out]; rfl, grown_trans g1 G2⟩
          · have hlt' : (k : Int) < (ps.length : Int) := by omega
            have hk0 : (0 : Int) ≤ (k : Int) := by omega
            have hw : wrap64 ((k : Int) + 1) = (k : Int) + 1 := by unfold wrap64; omega
            obtain ⟨x, hx⟩ : ∃ x, ps[k]? = some x := ⟨_, List.getElem?_eq_getElem hlt⟩
            obtain ⟨g, rfl, ck⟩ := HC.out k x hx
            have dk := G2.cell ck (by simp)
            clear ck
            go_wp2_with fail
            refine (rof_any _ _).mono ?_
            rintro e w4 ⟨rfl, g4⟩
            rw [mk_toList]
            have G4 := grown_trans G2 g4
            by_cases hle : oI x ≤ last
            · have HE : Hid (res = (0, 5)) := HK.out.trans (rise_hit ps k x hx last set hle)
              clear hx dk g4
              go_wp2
              go_ret2
              exact ⟨by rw [HE.out]; rfl, grown_trans g1 G4⟩
            · have HE : Hid (res = rise (oI x) (tWith set (oI x)) (ps.drop (k + 1))) := HK.out.trans (rise_next ps k x hx last set hle)
              clear hx dk g4
              go_wp2_with fail
              refine (rwith_any _ _ _).mono ?_
              rintro e w5 ⟨rfl, rfl⟩
              go_wp2_with fail
              go_roundw
              case rel => exact ⟨k + 1, _, _, by omega, by go_num, rfl, rfl, HE.out, G4⟩
              case measure => simp [intOf]; omega
      · have hlt' : (k : Int) < (ps.length : Int) := by omega
        have hk0 : (0 : Int) ≤ (k : Int) := by omega
        have hw : wrap64 ((k : Int) + 1) = (k : Int) + 1 := by unfold wrap64; omega
        obtain ⟨x, hx⟩ : ∃ x, ps[k]? = some x := ⟨_, List.getElem?_eq_getElem hlt⟩
        obtain ⟨g, rfl, ck⟩ := HC.out k x hx
        have dk := G.cell ck (by simp)
        clear ck
        go_wp2_with fail
        refine (rof_any _ _).mono ?_
        rintro e w4 ⟨rfl, g4⟩
        rw [mk_toList]
        have G4 := grown_trans G g4
        cases hb : oB x with
        | false =>
          have HE : Hid (res = (0, 4)) := HR2.out (fun h => by
            have := List.all_eq_true.1 h x (List.mem_of_getElem? hx)
            rw [hb] at this
            cases this)
          clear hx dk g4 hb
          go_wp2
          go_ret2
          exact ⟨by rw [HE.out]; rfl, grown_trans g1 G4⟩
        | true =>
          have HN : Hid ((ps.take (k + 1)).all oB = true) := all_take oB ps k x hx HA.out hb
          clear hx dk g4 hb
          go_wp2_with fail
          go_roundw
          case rel => exact ⟨k + 1, by omega, by go_num, HN.out, G4⟩
          case measure => simp [intOf]; omega
set_option maxRecDepth 100000 in
set_option maxHeartbeats 4000000 in
theorem texts_any (s : ByteArray) (hs : s.size ≤ 1048576) (w : World) (L : LaidAt w) : Calls Tryd.prog 4 #[.string s] w fun e w' => e = .returned (.bool true) ∧ w.grownBy w' none := by
  have HS : Hid (s.size ≤ 1048576) := hs
  obtain ⟨a, ha⟩ : ∃ a, a = (rParse s.data.toList).1 := ⟨_, rfl⟩
  obtain ⟨b, hb⟩ : ∃ b, b = (rParse s.data.toList).2 := ⟨_, rfl⟩
  have HA : Hid (a = (rParse s.data.toList).1) := ha
  have HB : Hid (b = (rParse s.data.toList).2) := hb
  obtain ⟨t, ht⟩ : ∃ t, t = oI s.toList := ⟨_, rfl⟩
  obtain ⟨u, hu⟩ : ∃ u, u = oB s.toList := ⟨_, rfl⟩
  have HT : Hid (t = oI s.toList) := ht
  have HU : Hid (u = oB s.toList) := hu
  clear ha hb ht hu hs
  go_enter Tryd.func4, Tryd.ntmps4
  go_wp2_with fail
  refine (of_any _ _ L.1).mono ?_
  rintro e w1 ⟨rfl, hw1⟩
  obtain rfl : w = w1 := hw1.symm
  rw [← HT.out, ← HU.out]
  go_wp2_with fail
  refine (rof_any _ _).mono ?_
  rintro e w2 ⟨rfl, g2⟩
  rw [← HT.out, ← HU.out]
  clear HT HU
  go_wp2_with fail
  refine (parse_any _ (Nat.le_trans HS.out (by decide)) _ (L.keep g2).1).mono ?_
  rintro e w3 ⟨rfl, g3⟩
  rw [parse_same, ← HA.out, ← HB.out]
  have G3 := grown_trans g2 g3
  go_wp2_with fail
  refine (rparse_any _ HS.out _).mono ?_
  rintro e w4 ⟨rfl, g4⟩
  rw [← HA.out, ← HB.out]
  have G4 := grown_trans G3 g4
  clear HA HB g2 g3 g4 G3
  go_wp2_with fail
  refine (awake_any _ (L.keep G4)).mono ?_
  rintro e w5 ⟨rfl, g5⟩
  go_wp2
  go_ret
  exact ⟨rfl, grown_trans G4 g5⟩
end Go.Proofs.YtpnbblimmkdaiaaDoor
