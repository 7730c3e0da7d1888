/-
  What trait.gather tells of every text: the set of all that its pieces name, and whether each piece is a name.
-/
import Derived.Test.YtpnbblimmkdaiaaDoorCut
namespace Go.Proofs.YtpnbblimmkdaiaaDoor
open Go.RowKit

/-- The pieces of a text, between blanks. -/
def pieces : List UInt8 → List (List UInt8)
  | [] => [[]]
  | c :: r => if c = 32 then [] :: pieces r else match pieces r with
    | [] => [[c]]
    | p :: ps => (c :: p) :: ps
theorem pieces_miss : ∀ l : List UInt8, (cutL l).2.2 = false → pieces l = [(cutL l).1] ∧ (cutL l).1 = l
  | [], _ => ⟨rfl, rfl⟩
  | c :: r, h => by
    by_cases hc : c = 32
    · simp [cutL, hc] at h
    · have ih := pieces_miss r (by simpa [cutL, hc] using h)
      simp [cutL, pieces, hc, ih.1, ih.2]
theorem pieces_hit : ∀ l : List UInt8, (cutL l).2.2 = true → pieces l = (cutL l).1 :: pieces (cutL l).2.1
  | [], h => by simp [cutL] at h
  | c :: r, h => by
    by_cases hc : c = 32
    · simp [cutL, pieces, hc]
    · have ih := pieces_hit r (by simpa [cutL, hc] using h)
      simp [cutL, pieces, hc, ih]
/-- The set of all that the pieces name, and whether each of them is a name. -/
def gat : Int → List (List UInt8) → Int × Bool
  | set, [] => (set, true)
  | set, p :: ps => if oB p then gat (tWith set (oI p)) ps else (0, false)
/-- What is left for gather's loop. -/
def gLeft (r m : Value) : Nat := match r, m with
  | .string r, .bool true => r.size + 1
  | _, _ => 0
theorem size_cutR (s : ByteArray) (h : cutM s = true) : (cutR s).size < s.size := by
  have := cut_short s.data.toList h
  rw [Lib.size_eq, Lib.size_eq]
  exact this
theorem cutL_le : ∀ l : List UInt8, (cutL l).2.1.length ≤ l.length
  | [] => Nat.le_refl _
  | c :: r => by
    by_cases hc : c = 32
    · simp [cutL, hc]
    · have := cutL_le r
      simp [cutL, hc]
      omega
theorem cutR_le {s : ByteArray} {n : Nat} (h : s.size ≤ n) : (cutR s).size ≤ n := by
  have := cutL_le s.data.toList
  rw [Lib.size_eq] at h ⊢
  exact Nat.le_trans this h
theorem gLeft_less (s : ByteArray) : gLeft (.string (cutR s)) (.bool (cutM s)) < gLeft (.string s) (.bool true) := by
  cases h : cutM s with
  | false => simp [gLeft]
  | true =>
    have := size_cutR s h
    simp [gLeft]
    omega
theorem gat_hit {set : Int} {s : ByteArray} (h : cutM s = true) (hb : oB (cutA s).toList = true) : gat set (pieces s.data.toList) = gat (tWith set (oI (cutA s).toList)) (pieces (cutR s).data.toList) := by
  rw [Lib.toList_data] at hb ⊢
  rw [pieces_hit _ h]
  have hb' : oB (cutL s.data.toList).1 = true := hb
  simp [gat, hb', cutA, cutR]
theorem gat_last {set : Int} {s : ByteArray} (h : cutM s = false) (hb : oB (cutA s).toList = true) : gat set (pieces s.data.toList) = (tWith set (oI (cutA s).toList), true) := by
  rw [Lib.toList_data] at hb ⊢
  rw [(pieces_miss _ h).1]
  have hb' : oB (cutL s.data.toList).1 = true := hb
  simp [gat, hb', cutA]
theorem gat_no {set : Int} {s : ByteArray} (hb : oB (cutA s).toList = false) : gat set (pieces s.data.toList) = (0, false) := by
  rw [Lib.toList_data] at hb
  have hb' : oB (cutL s.data.toList).1 = false := hb
  cases h : (cutL s.data.toList).2.2 with
  | true => rw [pieces_hit _ h]; simp [gat, hb']
  | false => rw [(pieces_miss _ h).1]; simp [gat, hb']
set_option maxRecDepth 100000 in
set_option maxHeartbeats 2000000 in
theorem gather_any (s : ByteArray) (hs : s.size ≤ 9223372036854775807) (w : World) (N : NamesAt w) : Calls Tryd.prog 41 #[.string s] w fun e w' => e = .returned (.tuple #[.int .u16 (gat 0 (pieces s.data.toList)).1, .bool (gat 0 (pieces s.data.toList)).2]) ∧ w.grownBy w' none := by
  obtain ⟨res, hres⟩ : ∃ res, res = gat 0 (pieces s.data.toList) := ⟨_, rfl⟩
  rw [← hres]
  have HR : Hid (res = gat 0 (pieces s.data.toList)) := hres
  clear hres
  go_enter Tryd.func41, Tryd.ntmps41
  go_wp2_with fail
  go_loopw [4, 5, 6] (fun a r m wr => ∃ (set : Int) (rest : ByteArray) (more : Bool), a = .int .u16 set ∧ r = .string rest ∧ m = .bool more ∧ rest.size ≤ s.size ∧ (more = true → res = gat set (pieces rest.data.toList)) ∧ (more = false → res = (set, true)) ∧ w.grownBy wr none)
    (fun _ r m _ => gLeft r m)
  case atStart => exact ⟨0, s, true, rfl, rfl, rfl, Nat.le_refl _, fun _ => HR.out, fun h => by simp at h, grown_refl _ _⟩
  case round =>
    obtain ⟨set, rest, more, rfl, rfl, rfl, hl, hT, hF, G⟩ := hrel
    have HT : Hid (more = true → res = gat set (pieces rest.data.toList)) := hT
    have HF : Hid (more = false → res = (set, true)) := hF
    have HS : Hid (s.size ≤ 9223372036854775807) := hs
    have HL : Hid (rest.size ≤ s.size) := hl
    clear hT hF hl hs
    cases more with
    | false =>
      have HF' : Hid (res = (set, true)) := HF.out rfl
      clear HF HT
      go_wp2
      go_ret2
      exact ⟨by rw [HF'.out]; rfl, G⟩
    | true =>
      have HT' : Hid (res = gat set (pieces rest.data.toList)) := HT.out rfl
      clear HF HT
      have hs' : rest.size ≤ 9223372036854775807 := Nat.le_trans HL.out HS.out
      go_wp2_with fail
      refine (cut_any _ hs' _).mono ?_
      rintro e w1 ⟨rfl, g1⟩
      have G1 := grown_trans G g1
      clear hs' g1 G
      go_wp2_with fail
      refine (of_any _ _ (N.keep G1)).mono ?_
      rintro e w2 ⟨rfl, rfl⟩
      cases hb : oB (cutA rest).toList with
      | false =>
        have hg := HT'.out.trans (gat_no hb)
        have HG : Hid (res = (0, false)) := hg
        clear hg hb
        go_wp2
        go_ret2
        exact ⟨by rw [HG.out]; rfl, G1⟩
      | true =>
        have HB : Hid (oB (cutA rest).toList = true) := hb
        clear hb
        go_wp2_with fail
        refine (with_any _ _ _).mono ?_
        rintro e w3 ⟨rfl, rfl⟩
        have HM : Hid (cutM rest = true → (cutR rest).size < rest.size) := size_cutR rest
        go_wp2_with fail
        go_roundw
        case rel => exact ⟨_, cutR rest, cutM rest, rfl, rfl, rfl, cutR_le HL.out, fun h => HT'.out.trans (gat_hit h HB.out), fun h => HT'.out.trans (gat_last h HB.out), G1⟩
        case measure => exact gLeft_less rest
end Go.Proofs.YtpnbblimmkdaiaaDoor
