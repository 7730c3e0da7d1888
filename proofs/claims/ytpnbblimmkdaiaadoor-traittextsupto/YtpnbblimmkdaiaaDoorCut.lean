/-
  What strings.Cut tells of a text and a blank: what stands ahead of the first blank, what stands behind it, whether there is one. The library's own text is walked.
-/
import Derived.Test.YtpnbblimmkdaiaaDoorOf
import Derived.Lib.Bytealg
import Derived.Lib.CutLaws
import Derived.Lib.IndexBytes
import Derived.OwnWalk
namespace Go.Proofs.YtpnbblimmkdaiaaDoor
open Go.RowKit

/-- A text, cut at its first blank. -/
def cutL : List UInt8 → List UInt8 × List UInt8 × Bool
  | [] => ([], [], false)
  | c :: r => if c = 32 then ([], r, true) else (c :: (cutL r).1, (cutL r).2.1, (cutL r).2.2)
theorem cut_eq : ∀ l : List UInt8, (Lib.indexByte l 32 = -1 → cutL l = (l, [], false)) ∧ ∀ i : Nat, Lib.indexByte l 32 = i → cutL l = (l.take i, l.drop (i + 1), true)
  | [] => ⟨fun _ => rfl, fun i h => by simp [Lib.indexByte] at h⟩
  | c :: r => by
    have ih := cut_eq r
    have hge := Lib.indexByte_ge r 32
    by_cases hc : c = 32
    · subst hc
      refine ⟨fun h => by simp [Lib.indexByte] at h, fun i h => ?_⟩
      simp [Lib.indexByte] at h
      have h0 : i = 0 := by omega
      subst h0
      simp [cutL]
    · have hb : (c == 32) = false := by simpa using hc
      by_cases hr : Lib.indexByte r 32 = -1
      · refine ⟨fun _ => by simp [cutL, hc, ih.1 hr], fun i h => ?_⟩
        simp [Lib.indexByte, hb, hr] at h
      · refine ⟨fun h => ?_, fun i h => ?_⟩
        · simp [Lib.indexByte, hb, hr] at h
          omega
        · simp [Lib.indexByte, hb, hr] at h
          obtain ⟨j, rfl⟩ : ∃ j : Nat, i = j + 1 := ⟨i - 1, by omega⟩
          have hj := ih.2 j (by omega)
          simp [cutL, hc, hj]
theorem cut_short : ∀ l : List UInt8, (cutL l).2.2 = true → (cutL l).2.1.length < l.length
  | [], h => by simp [cutL] at h
  | c :: r, h => by
    by_cases hc : c = 32
    · simp [cutL, hc]
    · have := cut_short r (by simpa [cutL, hc] using h)
      simp [cutL, hc]
      omega
set_option maxHeartbeats 1000000 in
set_option maxRecDepth 100000 in
theorem indexByte_any (s : ByteArray) (c : Int) (w : World) : Calls Tryd.prog 54 #[.string s, .int .u8 c] w fun e w' => e = .returned (.int .i64 (Lib.indexByte s.data.toList c.toNat.toUInt8)) ∧ w' = w := by
  go_enter Tryd.func54, Tryd.ntmps54
  go_wp2
  rw [run_callFunc_extern Tryd.func58 (by kernel_rfl) (by kernel_rfl) (by kernel_rfl) (e := Extern.BytealgIndexByte.indexByte) (by kernel_rfl), Lib.run_indexByteString]
  simp only [Result.andThen]
  rw [Oper.upon_value]
  go_wp2
  go_ret
  exact ⟨rfl, rfl⟩
set_option maxHeartbeats 2000000 in
set_option maxRecDepth 100000 in
theorem index_blank (s : ByteArray) (w : World) : Calls Tryd.prog 53 #[.string s, .string ⟨#[32]⟩] w fun e w' => e = .returned (.int .i64 (Lib.indexByte s.data.toList 32)) ∧ w' = w := by
  go_enter Tryd.func53, Tryd.ntmps53
  go_wp2_with (go_at_call 54; refine (indexByte_any _ _ _).mono ?_; rintro e w' ⟨rfl, rfl⟩)
  · have h : ([32] == s.toList) = true := by assumption
    go_ret
    refine ⟨?_, rfl⟩
    have e : s.data.toList = [32] := by rw [← Lib.toList_data]; exact (beq_iff_eq.1 h).symm
    rw [e]
    simp [Lib.indexByte]
  · go_ret
    exact ⟨rfl, rfl⟩
/-- The pieces of strings.Cut, as values. -/
def cutA (s : ByteArray) : ByteArray := ⟨(cutL s.data.toList).1.toArray⟩
def cutR (s : ByteArray) : ByteArray := ⟨(cutL s.data.toList).2.1.toArray⟩
def cutM (s : ByteArray) : Bool := (cutL s.data.toList).2.2
theorem cut_is (s : ByteArray) : cutL s.data.toList = Lib.cut s.data.toList [32] := by
  have hx := Lib.index_one s.data.toList 32
  have hge := Lib.indexByte_ge s.data.toList 32
  unfold Lib.cut
  rw [hx]
  by_cases h : Lib.indexByte s.data.toList 32 = -1
  · rw [(cut_eq _).1 h, if_neg (by omega)]
  · obtain ⟨i, hi⟩ : ∃ i : Nat, Lib.indexByte s.data.toList 32 = i := ⟨(Lib.indexByte s.data.toList 32).toNat, by omega⟩
    rw [(cut_eq _).2 i hi, if_pos (by omega), hi]
    simp
set_option maxHeartbeats 2000000 in
set_option maxRecDepth 100000 in
theorem cut_lite (s : ByteArray) (hs : s.size ≤ 9223372036854775807) (w : World) : Calls Tryd.prog 50 #[.string s, .string ⟨#[32]⟩] w fun e w' => e = .returned (.tuple #[.string (cutA s), .string (cutR s), .bool (cutM s)]) ∧ w.grownBy w' none := by
  have hone : Lib.indexB s ⟨#[32]⟩ = Lib.indexByte s.data.toList 32 := Lib.index_one s.data.toList 32
  unfold cutA cutR cutM
  rw [cut_is s]
  rcases Lib.indexB_cases s ⟨#[32]⟩ with hix | ⟨i, hix, hroom⟩
  · obtain ⟨e1, e2, e3⟩ := Lib.cutB_miss s ⟨#[32]⟩ hix
    change (⟨(Lib.cut s.data.toList [32]).1.toArray⟩ : ByteArray) = _ at e1
    change (⟨(Lib.cut s.data.toList [32]).2.1.toArray⟩ : ByteArray) = _ at e2
    change (Lib.cut s.data.toList [32]).2.2 = _ at e3
    rw [e1, e2, e3]
    rw [hix] at hone
    have HO : Hid (-1 = Lib.indexByte s.data.toList 32) := hone
    clear hone hix e1 e2 e3
    go_enter Tryd.func50, Tryd.ntmps50
    go_wp2_with (go_at_call 53; refine (index_blank _ _).mono ?_; rintro e w' ⟨rfl, rfl⟩; rw [← HO.out])
    go_ret3
    exact ⟨rfl, grown_refl _ _⟩
  · obtain ⟨e1, e2, e3⟩ := Lib.cutB_hit s ⟨#[32]⟩ i hix
    change (⟨(Lib.cut s.data.toList [32]).1.toArray⟩ : ByteArray) = _ at e1
    change (⟨(Lib.cut s.data.toList [32]).2.1.toArray⟩ : ByteArray) = _ at e2
    change (Lib.cut s.data.toList [32]).2.2 = _ at e3
    rw [e1, e2, e3]
    rw [hix] at hone
    have hr : i + 1 ≤ s.size := hroom
    have c1 : (0 : Int) ≤ ↑i := by omega
    have c2 : (↑i : Int) ≤ ↑s.size := by omega
    have c3 : (0 : Int) ≤ ↑i + 1 := by omega
    have c4 : (↑i + 1 : Int) ≤ ↑s.size := by omega
    have c5 : wrap64 ((i : Int) + 1) = (i : Int) + 1 := by unfold wrap64; omega
    have HO : Hid ((i : Int) = Lib.indexByte s.data.toList 32) := hone
    clear hroom hone hix e1 e2 e3
    go_enter Tryd.func50, Tryd.ntmps50
    go_wp2_with (go_at_call 53; refine (index_blank _ _).mono ?_; rintro e w' ⟨rfl, rfl⟩; rw [← HO.out])
    go_region
    go_wp2
    go_ret3
    exact ⟨rfl, grown_drewN _ 1 _⟩
set_option maxHeartbeats 1000000 in
theorem cut_any (s : ByteArray) (hs : s.size ≤ 9223372036854775807) (w : World) : Calls Tryd.prog 47 #[.string s, .string ⟨#[32]⟩] w fun e w' => e = .returned (.tuple #[.string (cutA s), .string (cutR s), .bool (cutM s)]) ∧ w.grownBy w' none := by
  go_enter Tryd.func47, Tryd.ntmps47
  go_wp2_with (go_at_call 50; refine (cut_lite _ hs _).mono ?_; rintro e w1 ⟨rfl, g1⟩)
  go_ret3
  exact ⟨rfl, g1⟩
end Go.Proofs.YtpnbblimmkdaiaaDoor
