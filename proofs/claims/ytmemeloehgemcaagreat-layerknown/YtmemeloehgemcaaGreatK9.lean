/-
  strings.Clone off the shelf: the same text.
  Traits' names and marks of a book: TraitName, MarkOf, Trait, Mark.
  Marks of a book: MarkOf, Mark.
  The order of cards: cmp.Compare, cmp.Or, inOrder; slices.BinarySearchFunc over a row of cards.
-/
import Derived.Ground.MpProg
import Derived.Shelf.Strconv.Clone
import Derived.Test.YtmemeloehgemcaaGreatK0
import Derived.Test.YtmemeloehgemcaaGreatB2
namespace Go.Proofs.YtmemeloehgemcaaGreat
open Go.RowKit Go.Shelf

def Tryz.lays316_ren : Go.Shelf.Ren := ⟨fun | 316 => 130 | n => n, fun | 9 => 9 | 3 => 3 | 4 => 4 | 37 => 228 | 0 => 0 | 127 => 229 | 5 => 5 | n => n, fun | n => n⟩
theorem Tryz.lays316 : Go.Proofs.LaysM.n316 Tryz.prog Tryz.lays316_ren := {
  mixed := by kernel_rfl
  f316 := Tryz.func130.trans (congrArg some (by kernel_rfl))
  t0 := Tryz.underlying0
  a0 := Tryz.isAgg0
  z0 := Tryz.sizeOf0
  v0 := Tryz.zeroValue0
  t3 := Tryz.underlying3
  a3 := Tryz.isAgg3
  z3 := Tryz.sizeOf3
  v3 := Tryz.zeroValue3
  t4 := Tryz.underlying4
  a4 := Tryz.isAgg4
  z4 := Tryz.sizeOf4
  v4 := Tryz.zeroValue4
  t9 := Tryz.underlying9
  a9 := Tryz.isAgg9
  z9 := Tryz.sizeOf9
  v9 := Tryz.zeroValue9
  t37 := Tryz.underlying228
  a37 := Tryz.isAgg228
  z37 := Tryz.sizeOf228
  v37 := Tryz.zeroValue228
  t127 := Tryz.underlying229
  a127 := Tryz.isAgg229
  z127 := Tryz.sizeOf229
  v127 := Tryz.zeroValue229
  t5 := Tryz.underlying5
  a5 := Tryz.isAgg5
  z5 := Tryz.sizeOf5
  v5 := Tryz.zeroValue5
  i0 := by kernel_rfl
  i3 := by kernel_rfl
  i4 := by kernel_rfl
  i5 := by kernel_rfl
  i9 := by kernel_rfl
  i37 := by kernel_rfl
  i127 := by kernel_rfl }
theorem below_grown {w w' : World} (h : Below w.heap.size w w') : w.grownBy w' none := ⟨h.os, h.tape, h.output, h.size, fun k hk _ => h.block k hk⟩
theorem clone_any (s : ByteArray) (hs : s.size ≤ 281474976710656) (w : World) : Calls Tryz.prog 93 #[.string s] w fun e w' => e = .returned (.string s) ∧ w.grownBy w' none := by
  have c := Any.stringslite_Clone Tryz.lays316 s w hs
  change Calls Tryz.prog 130 _ _ _ at c
  go_enter Tryz.func93, Tryz.ntmps93
  go_wp2_with (go_at_call 130; refine c.mono ?_; rintro e w1 ⟨rfl, h⟩)
  go_ret
  exact ⟨rfl, below_grown h⟩
end Go.Proofs.YtmemeloehgemcaaGreat
namespace Go.Proofs.YtmemeloehgemcaaGreat
open Go.RowKit

theorem grown_own' {a b c : World} {r : Option Nat} (h : a.grownBy b none) (k : b.grownBy c r) : a.grownBy c r := ⟨k.os.trans h.os, k.tape.trans h.tape, k.output.trans h.output, Nat.le_trans h.size k.size, fun i hi hr => (k.block i (Nat.lt_of_lt_of_le hi h.size) hr).trans (h.block i hi (by simp))⟩
theorem getD_some {α : Type} {l : List α} {k : Nat} {d : α} (h : k < l.length) : l[k]? = some (l.getD k d) := by simp [List.getD, h]
end Go.Proofs.YtmemeloehgemcaaGreat
namespace Go.Proofs.YtmemeloehgemcaaGreat
open Go.RowKit

theorem grown_drew' (w : World) (r : Option Nat) : w.grownBy w.drew r := ⟨rfl, rfl, rfl, Nat.le_refl _, fun _ _ _ => rfl⟩
def moM (p : Pl) (t : Int) : Mk := if t < 5 then p.mks.getD t.toNat Mk.none else Mk.none
end Go.Proofs.YtmemeloehgemcaaGreat
namespace Go.Proofs.YtmemeloehgemcaaGreat
open Go.RowKit

theorem nanI_any (a : Int) (w : World) : Calls Tryz.prog 185 #[.int .u8 a] w fun e w' => e = .returned (.bool false) ∧ w' = w := by
  have h : (a != a) = false := by simp
  go_enter Tryz.func185, Tryz.ntmps185
  go_wp2
  go_ret
  exact ⟨by simp, rfl⟩
theorem nanS_any (a : ByteArray) (w : World) : Calls Tryz.prog 186 #[.string a] w fun e w' => e = .returned (.bool false) ∧ w' = w := by
  go_enter Tryz.func186, Tryz.ntmps186
  go_wp2
  go_ret
  exact ⟨by simp, rfl⟩
def cI (a b : Int) : Int := if a < b then -1 else if b < a then 1 else 0
def bLt (s t : ByteArray) : Bool := Op.bytesLess s.toList t.toList
def cB (s t : ByteArray) : Int := if bLt s t = true then -1 else if s = t then 0 else 1
def orV (a b : Int) : Int := if a = 0 then b else a
def ord (a b : Hd) : Int := orV (cI a.su b.su) (cB a.nm b.nm)
theorem cmpI_any (a b : Int) (w : World) : Calls Tryz.prog 156 #[.int .u8 a, .int .u8 b] w fun e w' => e = .returned (.int .i64 (cI a b)) ∧ w' = w := by
  rcases (show a < b ∨ (b ≤ a ∧ b < a) ∨ (b ≤ a ∧ a ≤ b) by omega) with h | ⟨h, h'⟩ | ⟨h, h'⟩
  · have e : cI a b = -1 := if_pos h
    rw [e]
    go_enter Tryz.func156, Tryz.ntmps156
    go_wp2_with (first | (go_at_call 185; refine (nanI_any _ _).mono ?_; rintro e w1 ⟨rfl, h1⟩; obtain rfl : w = w1 := h1.symm) | fail)
    go_ret
    exact ⟨rfl, rfl⟩
  · have e : cI a b = 1 := by unfold cI; rw [if_neg (by omega), if_pos h']
    rw [e]
    go_enter Tryz.func156, Tryz.ntmps156
    go_wp2_with (first | (go_at_call 185; refine (nanI_any _ _).mono ?_; rintro e w1 ⟨rfl, h1⟩; obtain rfl : w = w1 := h1.symm) | fail)
    go_ret
    exact ⟨rfl, rfl⟩
  · have e : cI a b = 0 := by unfold cI; rw [if_neg (by omega), if_neg (by omega)]
    rw [e]
    go_enter Tryz.func156, Tryz.ntmps156
    go_wp2_with (first | (go_at_call 185; refine (nanI_any _ _).mono ?_; rintro e w1 ⟨rfl, h1⟩; obtain rfl : w = w1 := h1.symm) | fail)
    go_ret
    exact ⟨rfl, rfl⟩
theorem cmpS_any (a b : ByteArray) (w : World) : Calls Tryz.prog 157 #[.string a, .string b] w fun e w' => e = .returned (.int .i64 (cB a b)) ∧ w' = w := by
  unfold cB
  cases h : bLt a b with
  | true =>
    rw [if_pos rfl]
    unfold bLt at h
    go_enter Tryz.func157, Tryz.ntmps157
    go_wp2_with (first | (go_at_call 186; refine (nanS_any _ _).mono ?_; rintro e w1 ⟨rfl, h1⟩; obtain rfl : w = w1 := h1.symm) | fail)
    go_ret
    exact ⟨rfl, rfl⟩
  | false =>
    rw [if_neg (by simp)]
    unfold bLt at h
    by_cases he : a = b
    · rw [if_pos he]
      have k := bytes_yes he
      clear he
      go_enter Tryz.func157, Tryz.ntmps157
      go_wp2_with (first | (go_at_call 186; refine (nanS_any _ _).mono ?_; rintro e w1 ⟨rfl, h1⟩; obtain rfl : w = w1 := h1.symm) | fail)
      go_ret
      exact ⟨rfl, rfl⟩
    · rw [if_neg he]
      have k := bytes_no he
      clear he
      go_enter Tryz.func157, Tryz.ntmps157
      go_wp2_with (first | (go_at_call 186; refine (nanS_any _ _).mono ?_; rintro e w1 ⟨rfl, h1⟩; obtain rfl : w = w1 := h1.symm) | fail)
      go_ret
      exact ⟨rfl, rfl⟩
set_option maxRecDepth 100000 in
theorem or_any (g : Nat) (a b : Int) (w : World) (h0 : w.cell? ⟨g, 0, none⟩ = some (.int .i64 a)) (h1 : w.cell? ⟨g, 1, none⟩ = some (.int .i64 b)) : Calls Tryz.prog 110 #[.slice (some ⟨g, 0, none⟩) 2 2] w fun e w' => e = .returned (.int .i64 (orV a b)) ∧ w' = w := by
  unfold orV
  by_cases ha : a = 0
  · rw [if_pos ha]
    subst ha
    go_enter Tryz.func110, Tryz.ntmps110
    go_wp2_with fail
    go_loopw [8] (fun i wr => (i = .int .i64 0 ∨ i = .int .i64 1 ∧ True ∨ i = .int .i64 2 ∧ b = 0) ∧ wr = w) (fun i _ => 2 - (intOf i).toNat)
    case atStart => exact ⟨Or.inl rfl, rfl⟩
    case round =>
      obtain ⟨rfl | ⟨rfl, _⟩ | ⟨rfl, hb⟩, rfl⟩ := hrel
      · go_wp2_with fail
        go_roundw
        case rel => exact ⟨Or.inr (Or.inl ⟨rfl, trivial⟩), by first | rfl | trivial⟩
        case measure => decide
      · by_cases hb : b = 0
        · have hb' : (b != 0) = false := by simp [hb]
          subst hb
          go_wp2_with fail
          go_roundw
          case rel => exact ⟨Or.inr (Or.inr ⟨rfl, by first | rfl | trivial⟩), by first | rfl | trivial⟩
          case measure => decide
        · have hb' : (b != 0) = true := by simpa using hb
          clear hb
          go_wp2
          go_ret
          exact ⟨rfl, rfl⟩
      · subst hb
        go_wp2
        go_ret
        exact ⟨rfl, rfl⟩
  · rw [if_neg ha]
    have hb' : (a != 0) = true := by simpa using ha
    clear ha
    go_enter Tryz.func110, Tryz.ntmps110
    go_wp2_with fail
    go_loopw [8] (fun i wr => i = .int .i64 0 ∧ wr = w) (fun _ _ => 0)
    case atStart => exact ⟨rfl, rfl⟩
    case round =>
      obtain ⟨rfl, rfl⟩ := hrel
      go_wp2
      go_ret
      exact ⟨rfl, rfl⟩
set_option maxRecDepth 100000 in
set_option maxHeartbeats 1000000 in
theorem inOrder_any (h k : Hd) (va vb : Value) (w : World) (ha : ∃ a n c, va = .slice a n c) (hb : ∃ a n c, vb = .slice a n c) : Calls Tryz.prog 122 #[cv h va, cv k vb] w fun e w' => e = .returned (.int .i64 (ord h k)) ∧ w.grownBy w' none := by
  obtain ⟨a1, a2, a3, rfl⟩ := ha
  obtain ⟨b1, b2, b3, rfl⟩ := hb
  obtain ⟨W2, hW2⟩ : ∃ W2, W2 = (w.alloc (.cells (ccs h (.slice a1 a2 a3)) 88)).alloc (.cells (ccs k (.slice b1 b2 b3)) 88) := ⟨_, rfl⟩
  have HG2 : Hid (w.grownBy W2 none) := by rw [hW2]; exact grown_push (World.grownBy_alloc _ _ none) _
  have A2 : CAt W2 w.heap.size h (.slice a1 a2 a3) := by rw [hW2]; exact CAt.keep (alloc_at w _ _) (World.grownBy_alloc _ _ none)
  have Z2 : CAt W2 (w.heap.size + 1) k (.slice b1 b2 b3) := by
    have := alloc_at (w.alloc (.cells (ccs h (.slice a1 a2 a3)) 88)) (ccs k (.slice b1 b2 b3)) 88
    rw [World.size_alloc] at this
    rw [hW2]
    exact this
  obtain ⟨x0, x1, _⟩ := A2.cells
  obtain ⟨y0, y1, _⟩ := Z2.cells
  clear A2 Z2
  unfold ccs at hW2
  unfold cv
  go_enter Tryz.func122, Tryz.ntmps122
  go_upto_region 1 with fail
  rw [← hW2]
  clear hW2
  go_region_held3 (fun w' => w'.cell? ⟨w.heap.size, 0, none⟩ = some (.string h.nm) ∧ w'.cell? ⟨w.heap.size, 1, none⟩ = some (.int .u8 h.su) ∧ w'.cell? ⟨w.heap.size + 1, 0, none⟩ = some (.string k.nm) ∧ w'.cell? ⟨w.heap.size + 1, 1, none⟩ = some (.int .u8 k.su)) (first | exact ⟨x0, x1, y0, y1⟩ | go_keep) (first | (go_at_call 156; refine (cmpI_any _ _ _).mono ?_; rintro e w3 ⟨rfl, rfl⟩) | (go_at_call 157; refine (cmpS_any _ _ _).mono ?_; rintro e w3 ⟨rfl, rfl⟩) | (go_at_call 110; refine (or_any _ _ _ _ (by exact block_cell (alloc_at _ _ _) 0) (by exact block_cell (alloc_at _ _ _) 1)).mono ?_; rintro e w3 ⟨rfl, rfl⟩))
  go_wp2
  go_ret
  exact ⟨rfl, grown_trans HG2.out (grown_trans (grown_drew _) (World.grownBy_alloc _ _ none))⟩
end Go.Proofs.YtmemeloehgemcaaGreat
