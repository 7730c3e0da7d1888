/-
  strings.Cut at one byte (10, 32): what stands ahead of the first such byte, what stands behind it, whether there is one. The library's own text is walked.
  A deck's text, read line by line: the steps of the reading, plainly.
  deck's readTimes and readLine: how many, and the name; of every text.
-/
import Derived.Test.YtbcggjacjfcldaaGreatDoorD1
import Derived.Test.YtbcggjacjfcldaaGreatDoorD21
import Derived.Lib.Bytealg
import Derived.Lib.CutLaws
import Derived.Lib.IndexBytes
import Derived.OwnWalk
import Derived.Test.YtbcggjacjfcldaaGreatDoorDkG
import Derived.Test.YtbcggjacjfcldaaGreatDoorChk2
import Derived.Test.YtbcggjacjfcldaaGreatDoorB2
namespace Go.Proofs.YtbcggjacjfcldaaGreatDoor
open Go.RowKit

theorem cut_eq (b : UInt8) : ∀ l : List UInt8, (Lib.indexByte l b = -1 → cutL b l = (l, [], false)) ∧ ∀ i : Nat, Lib.indexByte l b = i → cutL b l = (l.take i, l.drop (i + 1), true)
  | [] => ⟨fun _ => rfl, fun i h => by simp [Lib.indexByte] at h⟩
  | c :: r => by
    have ih := cut_eq b r
    have hge := Lib.indexByte_ge r b
    by_cases hc : c = b
    · subst hc
      refine ⟨fun h => by simp [Lib.indexByte] at h, fun i h => ?_⟩
      simp [Lib.indexByte] at h
      have h0 : i = 0 := by omega
      subst h0
      simp [cutL]
    · have hb : (c == b) = false := by simpa using hc
      by_cases hr : Lib.indexByte r b = -1
      · refine ⟨fun _ => by simp [cutL, hc, ih.1 hr], fun i h => ?_⟩
        simp [Lib.indexByte, hb, hr] at h
      · refine ⟨fun h => ?_, fun i h => ?_⟩
        · simp [Lib.indexByte, hb, hr] at h
          omega
        · simp [Lib.indexByte, hb, hr] at h
          obtain ⟨j, rfl⟩ : ∃ j : Nat, i = j + 1 := ⟨i - 1, by omega⟩
          have hj := ih.2 j (by omega)
          simp [cutL, hc, hj]
set_option maxHeartbeats 1000000 in
set_option maxRecDepth 100000 in
theorem indexByte_any (s : ByteArray) (c : Int) (w : World) : Calls Tryz.prog 112 #[.string s, .int .u8 c] w fun e w' => e = .returned (.int .i64 (Lib.indexByte s.data.toList c.toNat.toUInt8)) ∧ w' = w := by
  go_enter Tryz.func112, Tryz.ntmps112
  go_wp2
  rw [run_callFunc_extern Tryz.func134 (by kernel_rfl) (by kernel_rfl) (by kernel_rfl) (e := Extern.BytealgIndexByte.indexByte) (by kernel_rfl), Lib.run_indexByteString]
  simp only [Result.andThen]
  rw [Oper.upon_value]
  go_wp2
  go_ret
  exact ⟨rfl, rfl⟩
/-- The pieces of strings.Cut, as values. -/
def cutA (b : UInt8) (s : ByteArray) : ByteArray := ⟨(cutL b s.data.toList).1.toArray⟩
def cutR (b : UInt8) (s : ByteArray) : ByteArray := ⟨(cutL b s.data.toList).2.1.toArray⟩
def cutM (b : UInt8) (s : ByteArray) : Bool := (cutL b s.data.toList).2.2
theorem cut_is (b : UInt8) (s : ByteArray) : cutL b s.data.toList = Lib.cut s.data.toList [b] := by
  have hx := Lib.index_one s.data.toList b
  have hge := Lib.indexByte_ge s.data.toList b
  unfold Lib.cut
  rw [hx]
  by_cases h : Lib.indexByte s.data.toList b = -1
  · rw [(cut_eq b _).1 h, if_neg (by omega)]
  · obtain ⟨i, hi⟩ : ∃ i : Nat, Lib.indexByte s.data.toList b = i := ⟨(Lib.indexByte s.data.toList b).toNat, by omega⟩
    rw [(cut_eq b _).2 i hi, if_pos (by omega), hi]
    simp
set_option maxHeartbeats 2000000 in
set_option maxRecDepth 100000 in
theorem index_32 (s : ByteArray) (w : World) : Calls Tryz.prog 91 #[.string s, .string ⟨#[32]⟩] w fun e w' => e = .returned (.int .i64 (Lib.indexByte s.data.toList 32)) ∧ w' = w := by
  go_enter Tryz.func91, Tryz.ntmps91
  go_wp2_with (go_at_call 112; refine (indexByte_any _ _ _).mono ?_; rintro e w' ⟨rfl, rfl⟩)
  · have h : ([32] == s.toList) = true := by assumption
    go_ret
    refine ⟨?_, rfl⟩
    have e : s.data.toList = [32] := by rw [← Lib.toList_data]; exact (beq_iff_eq.1 h).symm
    rw [e]
    simp [Lib.indexByte]
  · go_ret
    exact ⟨rfl, rfl⟩
set_option maxHeartbeats 2000000 in
set_option maxRecDepth 100000 in
theorem cutl_32 (s : ByteArray) (hs : s.size ≤ 9223372036854775807) (w : World) : Calls Tryz.prog 71 #[.string s, .string ⟨#[32]⟩] w fun e w' => e = .returned (.tuple #[.string (cutA 32 s), .string (cutR 32 s), .bool (cutM 32 s)]) ∧ w.grownBy w' none := by
  have hone : Lib.indexB s ⟨#[32]⟩ = Lib.indexByte s.data.toList 32 := Lib.index_one s.data.toList 32
  unfold cutA cutR cutM
  rw [cut_is 32 s]
  rcases Lib.indexB_cases s ⟨#[32]⟩ with hix | ⟨i, hix, hroom⟩
  · obtain ⟨e1, e2, e3⟩ := Lib.cutB_miss s ⟨#[32]⟩ hix
    change (⟨(Lib.cut s.data.toList [32]).1.toArray⟩ : ByteArray) = _ at e1
    change (⟨(Lib.cut s.data.toList [32]).2.1.toArray⟩ : ByteArray) = _ at e2
    change (Lib.cut s.data.toList [32]).2.2 = _ at e3
    rw [e1, e2, e3]
    rw [hix] at hone
    have HO : Hid (-1 = Lib.indexByte s.data.toList 32) := hone
    clear hone hix e1 e2 e3
    go_enter Tryz.func71, Tryz.ntmps71
    go_wp2_with (go_at_call 91; refine (index_32 _ _).mono ?_; rintro e w' ⟨rfl, rfl⟩; rw [← HO.out])
    go_ret3
    exact ⟨rfl, grown_refl _ _⟩
  · obtain ⟨e1, e2, e3⟩ := Lib.cutB_hit s ⟨#[32]⟩ i hix
    change (⟨(Lib.cut s.data.toList [32]).1.toArray⟩ : ByteArray) = _ at e1
    change (⟨(Lib.cut s.data.toList [32]).2.1.toArray⟩ : ByteArray) = _ at e2
    change (Lib.cut s.data.toList [32]).2.2 = _ at e3
    rw [e1, e2, e3]
    rw [hix] at hone
    have hr : i + 1 ≤ s.size := hroom
    have c1 : (0 : Int) ≤ ↑i := by omega
    have c2 : (↑i : Int) ≤ ↑s.size := by omega
    have c3 : (0 : Int) ≤ ↑i + 1 := by omega
    have c4 : (↑i + 1 : Int) ≤ ↑s.size := by omega
    have c5 : wrap64 ((i : Int) + 1) = (i : Int) + 1 := by unfold wrap64; omega
    have HO : Hid ((i : Int) = Lib.indexByte s.data.toList 32) := hone
    clear hroom hone hix e1 e2 e3
    go_enter Tryz.func71, Tryz.ntmps71
    go_wp2_with (go_at_call 91; refine (index_32 _ _).mono ?_; rintro e w' ⟨rfl, rfl⟩; rw [← HO.out])
    go_region
    go_wp2
    go_ret3
    exact ⟨rfl, ⟨rfl, rfl, rfl, Nat.le_refl _, fun _ _ _ => rfl⟩⟩
set_option maxHeartbeats 1000000 in
theorem cut_32 (s : ByteArray) (hs : s.size ≤ 9223372036854775807) (w : World) : Calls Tryz.prog 43 #[.string s, .string ⟨#[32]⟩] w fun e w' => e = .returned (.tuple #[.string (cutA 32 s), .string (cutR 32 s), .bool (cutM 32 s)]) ∧ w.grownBy w' none := by
  go_enter Tryz.func43, Tryz.ntmps43
  go_wp2_with (go_at_call 71; refine (cutl_32 _ hs _).mono ?_; rintro e w1 ⟨rfl, g1⟩)
  go_ret3
  exact ⟨rfl, g1⟩
set_option maxHeartbeats 2000000 in
set_option maxRecDepth 100000 in
theorem index_10 (s : ByteArray) (w : World) : Calls Tryz.prog 91 #[.string s, .string ⟨#[10]⟩] w fun e w' => e = .returned (.int .i64 (Lib.indexByte s.data.toList 10)) ∧ w' = w := by
  go_enter Tryz.func91, Tryz.ntmps91
  go_wp2_with (go_at_call 112; refine (indexByte_any _ _ _).mono ?_; rintro e w' ⟨rfl, rfl⟩)
  · have h : ([10] == s.toList) = true := by assumption
    go_ret
    refine ⟨?_, rfl⟩
    have e : s.data.toList = [10] := by rw [← Lib.toList_data]; exact (beq_iff_eq.1 h).symm
    rw [e]
    simp [Lib.indexByte]
  · go_ret
    exact ⟨rfl, rfl⟩
set_option maxHeartbeats 2000000 in
set_option maxRecDepth 100000 in
theorem cutl_10 (s : ByteArray) (hs : s.size ≤ 9223372036854775807) (w : World) : Calls Tryz.prog 71 #[.string s, .string ⟨#[10]⟩] w fun e w' => e = .returned (.tuple #[.string (cutA 10 s), .string (cutR 10 s), .bool (cutM 10 s)]) ∧ w.grownBy w' none := by
  have hone : Lib.indexB s ⟨#[10]⟩ = Lib.indexByte s.data.toList 10 := Lib.index_one s.data.toList 10
  unfold cutA cutR cutM
  rw [cut_is 10 s]
  rcases Lib.indexB_cases s ⟨#[10]⟩ with hix | ⟨i, hix, hroom⟩
  · obtain ⟨e1, e2, e3⟩ := Lib.cutB_miss s ⟨#[10]⟩ hix
    change (⟨(Lib.cut s.data.toList [10]).1.toArray⟩ : ByteArray) = _ at e1
    change (⟨(Lib.cut s.data.toList [10]).2.1.toArray⟩ : ByteArray) = _ at e2
    change (Lib.cut s.data.toList [10]).2.2 = _ at e3
    rw [e1, e2, e3]
    rw [hix] at hone
    have HO : Hid (-1 = Lib.indexByte s.data.toList 10) := hone
    clear hone hix e1 e2 e3
    go_enter Tryz.func71, Tryz.ntmps71
    go_wp2_with (go_at_call 91; refine (index_10 _ _).mono ?_; rintro e w' ⟨rfl, rfl⟩; rw [← HO.out])
    go_ret3
    exact ⟨rfl, grown_refl _ _⟩
  · obtain ⟨e1, e2, e3⟩ := Lib.cutB_hit s ⟨#[10]⟩ i hix
    change (⟨(Lib.cut s.data.toList [10]).1.toArray⟩ : ByteArray) = _ at e1
    change (⟨(Lib.cut s.data.toList [10]).2.1.toArray⟩ : ByteArray) = _ at e2
    change (Lib.cut s.data.toList [10]).2.2 = _ at e3
    rw [e1, e2, e3]
    rw [hix] at hone
    have hr : i + 1 ≤ s.size := hroom
    have c1 : (0 : Int) ≤ ↑i := by omega
    have c2 : (↑i : Int) ≤ ↑s.size := by omega
    have c3 : (0 : Int) ≤ ↑i + 1 := by omega
    have c4 : (↑i + 1 : Int) ≤ ↑s.size := by omega
    have c5 : wrap64 ((i : Int) + 1) = (i : Int) + 1 := by unfold wrap64; omega
    have HO : Hid ((i : Int) = Lib.indexByte s.data.toList 10) := hone
    clear hroom hone hix e1 e2 e3
    go_enter Tryz.func71, Tryz.ntmps71
    go_wp2_with (go_at_call 91; refine (index_10 _ _).mono ?_; rintro e w' ⟨rfl, rfl⟩; rw [← HO.out])
    go_region
    go_wp2
    go_ret3
    exact ⟨rfl, ⟨rfl, rfl, rfl, Nat.le_refl _, fun _ _ _ => rfl⟩⟩
set_option maxHeartbeats 1000000 in
theorem cut_10 (s : ByteArray) (hs : s.size ≤ 9223372036854775807) (w : World) : Calls Tryz.prog 43 #[.string s, .string ⟨#[10]⟩] w fun e w' => e = .returned (.tuple #[.string (cutA 10 s), .string (cutR 10 s), .bool (cutM 10 s)]) ∧ w.grownBy w' none := by
  go_enter Tryz.func43, Tryz.ntmps43
  go_wp2_with (go_at_call 71; refine (cutl_10 _ hs _).mono ?_; rintro e w1 ⟨rfl, g1⟩)
  go_ret3
  exact ⟨rfl, g1⟩
end Go.Proofs.YtbcggjacjfcldaaGreatDoor
namespace Go.Proofs.YtbcggjacjfcldaaGreatDoor

/-- Where Parse stands: what is left of the text, the line's place, the card of the line ahead, the cards so far; what comes out of it all. -/
structure PaIn (N : List ByteArray) (S : Nat) (D : (Int × Int) ⊕ List Int) (s : ByteArray) (i : Nat) (last : Int) (out : List Int) : Prop where
  is : ∃ f, s.size < f ∧ dpar N f s.data.toList i last out = D
  le : out.length ≤ 40
  sz : i + s.size ≤ S
theorem PaIn.done {N : List ByteArray} {S : Nat} {D : (Int × Int) ⊕ List Int} {s : ByteArray} {i : Nat} {last : Int} {out : List Int} (h : PaIn N S D s i last out) (h0 : s.size = 0) : D = .inr out := by
  obtain ⟨f, hf, e⟩ := h.is
  obtain ⟨f, rfl⟩ : ∃ g, f = g + 1 := ⟨f - 1, by omega⟩
  have : s.data.toList = [] := List.eq_nil_of_length_eq_zero h0
  rw [← e, this, dpar, if_pos rfl]
/-- The next line: its text, whether it has an end. -/
structure LnIn (N : List ByteArray) (S : Nat) (D : (Int × Int) ⊕ List Int) (s : ByteArray) (i : Nat) (last : Int) (out : List Int) : Prop where
  none : lineP (cutA 10 s).data.toList = .none → D = .inl (260, (i : Int))
  noend : cutM 10 s = false → D = .inl (260, (i : Int))
  miss : ∀ k x, lineP (cutA 10 s).data.toList = some (k, x) → cutM 10 s = true → pos N ⟨x.toArray⟩ < 0 → D = .inl (6, (i : Int))
  same : ∀ k x, lineP (cutA 10 s).data.toList = some (k, x) → cutM 10 s = true → ¬ pos N ⟨x.toArray⟩ < 0 → pos N ⟨x.toArray⟩ + 1 = last → D = .inl (260, (i : Int))
  full : ∀ k x, lineP (cutA 10 s).data.toList = some (k, x) → cutM 10 s = true → ¬ pos N ⟨x.toArray⟩ < 0 → ¬ pos N ⟨x.toArray⟩ + 1 = last → 40 < out.length + k → D = .inl (9, -1)
  next : ∀ k x, lineP (cutA 10 s).data.toList = some (k, x) → cutM 10 s = true → ¬ pos N ⟨x.toArray⟩ < 0 → ¬ pos N ⟨x.toArray⟩ + 1 = last → ¬ 40 < out.length + k → PaIn N S D (cutR 10 s) (i + 1) (pos N ⟨x.toArray⟩ + 1) (out ++ List.replicate k (pos N ⟨x.toArray⟩ + 1))
  short : cutM 10 s = true → (cutR 10 s).size < s.size
theorem PaIn.line {N : List ByteArray} {S : Nat} {D : (Int × Int) ⊕ List Int} {s : ByteArray} {i : Nat} {last : Int} {out : List Int} (h : PaIn N S D s i last out) (h0 : ¬ s.size = 0) : LnIn N S D s i last out := by
  obtain ⟨f, hf, e⟩ := h.is
  obtain ⟨f, rfl⟩ : ∃ g, f = g + 1 := ⟨f - 1, by omega⟩
  have hne : ¬ s.data.toList = [] := fun q => h0 (by have : s.data.toList.length = s.size := rfl; rw [q] at this; simpa using this.symm)
  obtain ⟨c1, c2, c3⟩ := cut_ten s.data.toList
  have a1 : (cutA 10 s).data.toList = s.data.toList.takeWhile (· != 10) := c1
  have a2 : cutM 10 s = !decide (s.data.toList.length = (s.data.toList.takeWhile (· != 10)).length) := c2
  have a3 : (cutR 10 s).data.toList = s.data.toList.drop ((s.data.toList.takeWhile (· != 10)).length + 1) := c3
  have hm : ∀ {b}, cutM 10 s = b → (s.data.toList.length = (s.data.toList.takeWhile (· != 10)).length ↔ b = false) := fun hb => by
    rw [a2] at hb
    rw [← hb]
    simp
  have hsz : (cutR 10 s).size = (s.data.toList.drop ((s.data.toList.takeWhile (· != 10)).length + 1)).length := by rw [← a3]; rfl
  have hsl : s.data.toList.length = s.size := rfl
  have hrest : cutM 10 s = true → (cutR 10 s).size < s.size := fun _ => by rw [hsz, List.length_drop, hsl]; omega
  rw [dpar, if_neg hne] at e
  rw [← a1] at e hm
  refine ⟨fun hl => ?_, fun hb => ?_, fun k x hl hb hp => ?_, fun k x hl hb hp hq => ?_, fun k x hl hb hp hq hr => ?_, fun k x hl hb hp hq hr => ?_, hrest⟩
  · rw [hl] at e; exact e.symm
  · cases hl : lineP (cutA 10 s).data.toList with
    | none => rw [hl] at e; exact e.symm
    | some q =>
      obtain ⟨k, x⟩ := q
      rw [hl] at e
      simp only at e
      rw [if_pos ((hm hb).2 rfl)] at e
      exact e.symm
  · rw [hl] at e
    simp only at e
    rw [if_neg (fun q => by cases (hm hb).1 q), if_pos hp] at e
    exact e.symm
  · rw [hl] at e
    simp only at e
    rw [if_neg (fun q => by cases (hm hb).1 q), if_neg hp, if_pos hq] at e
    exact e.symm
  · rw [hl] at e
    simp only at e
    rw [if_neg (fun q => by cases (hm hb).1 q), if_neg hp, if_neg hq, if_pos hr] at e
    exact e.symm
  · rw [hl] at e
    simp only at e
    rw [if_neg (fun q => by cases (hm hb).1 q), if_neg hp, if_neg hq, if_neg hr] at e
    have h1 := hrest hb
    have h2 := h.sz
    refine ⟨⟨f, by omega, ?_⟩, by rw [List.length_append, List.length_replicate]; omega, by omega⟩
    rw [a3, ← a1]
    exact e
theorem PaIn.start (N : List ByteArray) (s : ByteArray) : PaIn N s.size (dpar N (s.size + 1) s.data.toList 0 0 []) s 0 0 [] := ⟨⟨s.size + 1, by omega, rfl⟩, by simp, by omega⟩
def strLen : Value → Nat
  | .string s => s.size
  | _ => 0
/-- What Parse answers: the fault, or the list in new memory. -/
def PaPost (D : (Int × Int) ⊕ List Int) (w : World) (e : Ending) (w' : World) : Prop := w.grownBy w' none ∧ ((∃ f, D = .inl f ∧ e = .returned (.tuple #[.slice none 0 0, fv2 f])) ∨ ∃ l v, D = .inr l ∧ e = .returned (.tuple #[v, fv2 (0, 0)]) ∧ w'.ownsRow w.heap.size 3 1 v l.length (ints l))
theorem PaPost.fault {D : (Int × Int) ⊕ List Int} {w w' : World} {x y : Int} (g : w.grownBy w' none) (h : D = .inl (x, y)) : PaPost D w (.returned (.tuple #[.slice none 0 0, .agg #[.int .i64 x, .int .i64 y]])) w' := ⟨g, Or.inl ⟨_, h, rfl⟩⟩
theorem PaPost.list {D : (Int × Int) ⊕ List Int} {w w' : World} {l : List Int} {v : Value} (g : w.grownBy w' none) (h : D = .inr l) (o : w'.ownsRow w.heap.size 3 1 v l.length (ints l)) : PaPost D w (.returned (.tuple #[v, .agg #[.int .i64 0, .int .i64 0]])) w' := ⟨g, Or.inr ⟨l, v, h, rfl, o⟩⟩
end Go.Proofs.YtbcggjacjfcldaaGreatDoor
namespace Go.Proofs.YtbcggjacjfcldaaGreatDoor
open Go.RowKit

/-- How many, as the program reads it. -/
def TmPost (tb : Bool) (tn : Int) (w : World) (e : Ending) (w' : World) : Prop := ∃ T : Int, e = .returned (.tuple #[.int .i64 T, .bool tb]) ∧ (tb = true → T = tn) ∧ w.grownBy w' none
set_option maxHeartbeats 2000000 in
theorem times_any (d : ByteArray) (hs : d.size ≤ 281474976710656) (w : World) (L : LibAt w) : Calls Tryz.prog 72 #[.string d] w (TmPost (timesB d.data.toList) (timesN d.data.toList) w) := by
  have HL : Hid (LibAt w) := L
  have HA := atoi_any d hs w L.errs
  have HB : Hid (timesB d.data.toList = timesB d.data.toList) := rfl
  clear L
  cases ha : Lib.atoiAll d.data.toList with
  | ok v =>
    have hb := Lib.atoiAll_bounds ha
    rw [ha] at HA
    have hB : timesB d.data.toList = (decide (1 ≤ v) && decide (v ≤ 40) && (Lib.itoa v == d.data.toList)) := by unfold timesB; rw [ha]
    have hN : timesN d.data.toList = v := by unfold timesN; rw [ha]
    by_cases h1 : 1 ≤ v
    · by_cases h2 : v ≤ 40
      · obtain ⟨z, hz⟩ : ∃ z : ByteArray, z = ⟨(Lib.itoa v).toArray⟩ := ⟨_, rfl⟩
        have HI := fun (W : World) (T : PowAt W) => itoa_any v (by omega) (by omega) W T
        rw [← hz] at HI
        have hzl : z.toList = Lib.itoa v := by rw [hz, Lib.toList_data]
        have hdl : d.toList = d.data.toList := Lib.toList_data d
        obtain ⟨q, hq⟩ : ∃ q, q = (z.toList == d.toList) := ⟨_, rfl⟩
        have hq2 : (z.toList == d.toList) = q := hq.symm
        have hF : timesB d.data.toList = q := by rw [hB, hq, hzl, hdl]; simp [h1, h2]
        rw [hF, hN]
        have h1' : (1 : Int) ≤ v := h1
        clear hF hB hN hz hzl hdl hq ha hb HB hs
        go_enter Tryz.func72, Tryz.ntmps72
        go_wp2_with fail
        refine HA.mono ?_
        rintro e w1 ⟨he, g1⟩
        change e = _ at he
        subst he
        have HG1 : Hid (w.grownBy w1 none) := g1
        have HI1 := HI w1 (HL.out.keep g1).pow
        clear g1 HI HA
        go_wp2_with fail
        refine HI1.mono ?_
        rintro e w2 ⟨rfl, g2⟩
        have HG2 : Hid (w.grownBy w2 none) := grown_trans HG1.out g2
        clear g2 HI1
        go_wp2_with fail
        go_ret2
        exact ⟨v, rfl, fun _ => rfl, HG2.out⟩
      · have hF : timesB d.data.toList = false := by rw [hB]; simp [h2]
        rw [hF]
        have h2' : ¬ v ≤ 40 := h2
        clear hF hB hN ha hb HB hs
        go_enter Tryz.func72, Tryz.ntmps72
        go_wp2_with fail
        refine HA.mono ?_
        rintro e w1 ⟨he, g1⟩
        change e = _ at he
        subst he
        have HG1 : Hid (w.grownBy w1 none) := g1
        clear g1 HA
        go_wp2_with fail
        go_ret2
        exact ⟨v, rfl, (fun h => nomatch h), HG1.out⟩
    · have hF : timesB d.data.toList = false := by rw [hB]; simp [h1]
      rw [hF]
      clear hF hB hN ha hb HB hs
      go_enter Tryz.func72, Tryz.ntmps72
      go_wp2_with fail
      refine HA.mono ?_
      rintro e w1 ⟨he, g1⟩
      change e = _ at he
      subst he
      have HG1 : Hid (w.grownBy w1 none) := g1
      clear g1 HA
      go_wp2_with fail
      go_ret2
      exact ⟨v, rfl, (fun h => nomatch h), HG1.out⟩
  | _ =>
    rw [ha] at HA
    have hF : timesB d.data.toList = false := by unfold timesB; rw [ha]
    rw [hF]
    clear hF ha HB hs
    go_enter Tryz.func72, Tryz.ntmps72
    go_wp2_with fail
    refine HA.mono ?_
    rintro e w1 ⟨he, g1⟩
    obtain ⟨v, te, pe, rfl⟩ := he
    have HG1 : Hid (w.grownBy w1 none) := g1
    clear g1 HA
    go_wp2_with fail
    go_ret2
    exact ⟨v, rfl, (fun h => nomatch h), HG1.out⟩
/-- A line, as the program reads it. -/
def RlPost (s : ByteArray) (w : World) (e : Ending) (w' : World) : Prop := ∃ (T : Int) (nm : ByteArray) (ok : Bool), e = .returned (.tuple #[.int .i64 T, .string nm, .bool ok]) ∧ ok = (lineP s.data.toList).isSome ∧ (∀ k x, lineP s.data.toList = some (k, x) → T = (k : Int) ∧ nm = ⟨x.toArray⟩) ∧ w.grownBy w' none
set_option maxHeartbeats 2000000 in
theorem readLine_any (s : ByteArray) (hs : s.size ≤ 140737488355328) (w : World) (L : LibAt w) : Calls Tryz.prog 44 #[.string s] w (RlPost s w) := by
  have HL : Hid (LibAt w) := L
  have HC := cut_32 s (by omega) w
  have hA : (cutA 32 s).size ≤ 281474976710656 := by
    have h1 : (cutL 32 s.data.toList).1.length ≤ s.data.toList.length := by
      rcases cutL_cases 32 s.data.toList with ⟨_, h⟩ | ⟨d, t, h1, _, h3⟩
      · rw [h]; exact Nat.le_refl _
      · rw [h3]; conv => rhs; rw [h1]
        simp
    have h2 : (cutA 32 s).size = (cutL 32 s.data.toList).1.length := rfl
    have h3 : s.data.toList.length = s.size := rfl
    omega
  have HS : Hid ((timesB (cutA 32 s).data.toList && nameOk (cutR 32 s).data.toList) = (lineP s.data.toList).isSome ∧ ∀ k nm, lineP s.data.toList = some (k, nm) → timesN (cutA 32 s).data.toList = (k : Int) ∧ (cutR 32 s).data.toList = nm) := line_same s.data.toList
  obtain ⟨d, hd⟩ : ∃ d, d = cutA 32 s := ⟨_, rfl⟩
  obtain ⟨nm, hn⟩ : ∃ nm, nm = cutR 32 s := ⟨_, rfl⟩
  obtain ⟨m, hm⟩ : ∃ m, m = cutM 32 s := ⟨_, rfl⟩
  rw [← hd] at hA
  rw [← hd, ← hn] at HS
  rw [← hd, ← hn, ← hm] at HC
  have HT := fun (W : World) (h : LibAt W) => times_any d hA W h
  obtain ⟨tb, htb⟩ : ∃ tb, tb = timesB d.data.toList := ⟨_, rfl⟩
  obtain ⟨tn, htn⟩ : ∃ tn, tn = timesN d.data.toList := ⟨_, rfl⟩
  rw [← htb, ← htn] at HS HT
  obtain ⟨nb, hnb⟩ : ∃ nb, nb = nameOk nm.data.toList := ⟨_, rfl⟩
  have HNm := fun (W : World) => is_any nm W
  rw [← hnb] at HS HNm
  clear hd hn hm hA L hs htb htn hnb
  go_enter Tryz.func44, Tryz.ntmps44
  go_wp2_with fail
  refine HC.mono ?_
  rintro e w1 ⟨rfl, g1⟩
  have HG1 : Hid (w.grownBy w1 none) := g1
  have HT1 := HT w1 (HL.out.keep g1)
  clear g1 HC HT
  go_wp2_with fail
  refine HT1.mono ?_
  rintro e w2 ⟨T, rfl, hT, g2⟩
  have HG2 : Hid (w.grownBy w2 none) := grown_trans HG1.out g2
  have HTT : Hid (tb = true → T = tn) := hT
  have HN2 := HNm w2
  clear g2 hT HT1 HNm HG1
  cases tb with
  | true =>
    have HT3 : Hid (T = tn) := HTT.out rfl
    clear HTT
    go_wp2_with fail
    refine HN2.mono ?_
    rintro e w3 ⟨rfl, hw⟩
    obtain rfl : w2 = w3 := hw.symm
    clear HN2
    go_wp2_with fail
    go_ret3
    refine ⟨T, nm, nb, rfl, by rw [← HS.out.1]; simp, fun k x h => ?_, HG2.out⟩
    have := HS.out.2 k x h
    exact ⟨by rw [HT3.out, this.1], by rw [← this.2]⟩
  | false =>
    clear HN2
    go_wp2_with fail
    go_ret3
    refine ⟨T, nm, false, rfl, by rw [← HS.out.1]; simp, fun k x h => ?_, HG2.out⟩
    have h1 := HS.out.1
    rw [h] at h1
    simp at h1
end Go.Proofs.YtbcggjacjfcldaaGreatDoor
