/-
  The order of cards: cmp.Compare, cmp.Or, inOrder; slices.BinarySearchFunc over a row of cards.
-/
import Derived.Test.YtpoicbefemjckaaB2
namespace Go.Proofs.Ytpoicbefemjckaa
open Go.RowKit

theorem nanI_any (a : Int) (w : World) : Calls Try.prog 125 #[.int .u8 a] w fun e w' => e = .returned (.bool false) ∧ w' = w := by
  have h : (a != a) = false := by simp
  go_enter Try.func125, Try.ntmps125
  go_wp2
  go_ret
  exact ⟨by simp, rfl⟩
theorem nanS_any (a : ByteArray) (w : World) : Calls Try.prog 126 #[.string a] w fun e w' => e = .returned (.bool false) ∧ w' = w := by
  go_enter Try.func126, Try.ntmps126
  go_wp2
  go_ret
  exact ⟨by simp, rfl⟩
def cI (a b : Int) : Int := if a < b then -1 else if b < a then 1 else 0
def bLt (s t : ByteArray) : Bool := Op.bytesLess s.toList t.toList
def cB (s t : ByteArray) : Int := if bLt s t = true then -1 else if s = t then 0 else 1
def orV (a b : Int) : Int := if a = 0 then b else a
def ord (a b : Hd) : Int := orV (cI a.su b.su) (cB a.nm b.nm)
theorem cmpI_any (a b : Int) (w : World) : Calls Try.prog 107 #[.int .u8 a, .int .u8 b] w fun e w' => e = .returned (.int .i64 (cI a b)) ∧ w' = w := by
  rcases (show a < b ∨ (b ≤ a ∧ b < a) ∨ (b ≤ a ∧ a ≤ b) by omega) with h | ⟨h, h'⟩ | ⟨h, h'⟩
  · have e : cI a b = -1 := if_pos h
    rw [e]
    go_enter Try.func107, Try.ntmps107
    go_wp2_with (first | (go_at_call 125; refine (nanI_any _ _).mono ?_; rintro e w1 ⟨rfl, h1⟩; obtain rfl : w = w1 := h1.symm) | fail)
    go_ret
    exact ⟨rfl, rfl⟩
  · have e : cI a b = 1 := by unfold cI; rw [if_neg (by omega), if_pos h']
    rw [e]
    go_enter Try.func107, Try.ntmps107
    go_wp2_with (first | (go_at_call 125; refine (nanI_any _ _).mono ?_; rintro e w1 ⟨rfl, h1⟩; obtain rfl : w = w1 := h1.symm) | fail)
    go_ret
    exact ⟨rfl, rfl⟩
  · have e : cI a b = 0 := by unfold cI; rw [if_neg (by omega), if_neg (by omega)]
    rw [e]
    go_enter Try.func107, Try.ntmps107
    go_wp2_with (first | (go_at_call 125; refine (nanI_any _ _).mono ?_; rintro e w1 ⟨rfl, h1⟩; obtain rfl : w = w1 := h1.symm) | fail)
    go_ret
    exact ⟨rfl, rfl⟩
theorem cmpS_any (a b : ByteArray) (w : World) : Calls Try.prog 108 #[.string a, .string b] w fun e w' => e = .returned (.int .i64 (cB a b)) ∧ w' = w := by
  unfold cB
  cases h : bLt a b with
  | true =>
    rw [if_pos rfl]
    unfold bLt at h
    go_enter Try.func108, Try.ntmps108
    go_wp2_with (first | (go_at_call 126; refine (nanS_any _ _).mono ?_; rintro e w1 ⟨rfl, h1⟩; obtain rfl : w = w1 := h1.symm) | fail)
    go_ret
    exact ⟨rfl, rfl⟩
  | false =>
    rw [if_neg (by simp)]
    unfold bLt at h
    by_cases he : a = b
    · rw [if_pos he]
      have k := bytes_yes he
      clear he
      go_enter Try.func108, Try.ntmps108
      go_wp2_with (first | (go_at_call 126; refine (nanS_any _ _).mono ?_; rintro e w1 ⟨rfl, h1⟩; obtain rfl : w = w1 := h1.symm) | fail)
      go_ret
      exact ⟨rfl, rfl⟩
    · rw [if_neg he]
      have k := bytes_no he
      clear he
      go_enter Try.func108, Try.ntmps108
      go_wp2_with (first | (go_at_call 126; refine (nanS_any _ _).mono ?_; rintro e w1 ⟨rfl, h1⟩; obtain rfl : w = w1 := h1.symm) | fail)
      go_ret
      exact ⟨rfl, rfl⟩
set_option maxRecDepth 100000 in
theorem or_any (g : Nat) (a b : Int) (w : World) (h0 : w.cell? ⟨g, 0, none⟩ = some (.int .i64 a)) (h1 : w.cell? ⟨g, 1, none⟩ = some (.int .i64 b)) : Calls Try.prog 106 #[.slice (some ⟨g, 0, none⟩) 2 2] w fun e w' => e = .returned (.int .i64 (orV a b)) ∧ w' = w := by
  unfold orV
  by_cases ha : a = 0
  · rw [if_pos ha]
    subst ha
    go_enter Try.func106, Try.ntmps106
    go_wp2_with fail
    go_loopw [8] (fun i wr => (i = .int .i64 0 ∨ i = .int .i64 1 ∧ True ∨ i = .int .i64 2 ∧ b = 0) ∧ wr = w) (fun i _ => 2 - (intOf i).toNat)
    case atStart => exact ⟨Or.inl rfl, rfl⟩
    case round =>
      obtain ⟨rfl | ⟨rfl, _⟩ | ⟨rfl, hb⟩, rfl⟩ := hrel
      · go_wp2_with fail
        go_roundw
        case rel => exact ⟨Or.inr (Or.inl ⟨rfl, trivial⟩), by first | rfl | trivial⟩
        case measure => decide
      · by_cases hb : b = 0
        · have hb' : (b != 0) = false := by simp [hb]
          subst hb
          go_wp2_with fail
          go_roundw
          case rel => exact ⟨Or.inr (Or.inr ⟨rfl, by first | rfl | trivial⟩), by first | rfl | trivial⟩
          case measure => decide
        · have hb' : (b != 0) = true := by simpa using hb
          clear hb
          go_wp2
          go_ret
          exact ⟨rfl, rfl⟩
      · subst hb
        go_wp2
        go_ret
        exact ⟨rfl, rfl⟩
  · rw [if_neg ha]
    have hb' : (a != 0) = true := by simpa using ha
    clear ha
    go_enter Try.func106, Try.ntmps106
    go_wp2_with fail
    go_loopw [8] (fun i wr => i = .int .i64 0 ∧ wr = w) (fun _ _ => 0)
    case atStart => exact ⟨rfl, rfl⟩
    case round =>
      obtain ⟨rfl, rfl⟩ := hrel
      go_wp2
      go_ret
      exact ⟨rfl, rfl⟩
def OrdS (b0 b1 : Nat) (h k : Hd) (va vb : Value) (w : World) : Prop := CAt w b0 h va ∧ CAt w b1 k vb
set_option maxRecDepth 100000 in
set_option maxHeartbeats 1000000 in
theorem inOrder_any (h k : Hd) (va vb : Value) (w : World) (ha : ∃ a n c, va = .slice a n c) (hb : ∃ a n c, vb = .slice a n c) : Calls Try.prog 84 #[cv h va, cv k vb] w fun e w' => e = .returned (.int .i64 (ord h k)) ∧ w.grownBy w' none := by
  obtain ⟨a1, a2, a3, rfl⟩ := ha
  obtain ⟨b1, b2, b3, rfl⟩ := hb
  obtain ⟨W2, hW2⟩ : ∃ W2, W2 = (w.alloc (.cells (ccs h (.slice a1 a2 a3)) 47)).alloc (.cells (ccs k (.slice b1 b2 b3)) 47) := ⟨_, rfl⟩
  have HG2 : Hid (w.grownBy W2 none) := by rw [hW2]; exact grown_push (World.grownBy_alloc _ _ none) _
  have A2 : CAt W2 w.heap.size h (.slice a1 a2 a3) := by rw [hW2]; exact CAt.keep (alloc_at w _ _) (World.grownBy_alloc _ _ none)
  have Z2 : CAt W2 (w.heap.size + 1) k (.slice b1 b2 b3) := by
    have := alloc_at (w.alloc (.cells (ccs h (.slice a1 a2 a3)) 47)) (ccs k (.slice b1 b2 b3)) 47
    rw [World.size_alloc] at this
    rw [hW2]
    exact this
  obtain ⟨x0, x1, _⟩ := A2.cells
  obtain ⟨y0, y1, _⟩ := Z2.cells
  clear A2 Z2
  unfold ccs at hW2
  unfold cv
  go_enter Try.func84, Try.ntmps84
  go_upto_region 1 with fail
  rw [← hW2]
  clear hW2
  go_region_held3 (fun w' => w'.cell? ⟨w.heap.size, 0, none⟩ = some (.string h.nm) ∧ w'.cell? ⟨w.heap.size, 1, none⟩ = some (.int .u8 h.su) ∧ w'.cell? ⟨w.heap.size + 1, 0, none⟩ = some (.string k.nm) ∧ w'.cell? ⟨w.heap.size + 1, 1, none⟩ = some (.int .u8 k.su)) (first | exact ⟨x0, x1, y0, y1⟩ | go_keep) (first | (go_at_call 107; refine (cmpI_any _ _ _).mono ?_; rintro e w3 ⟨rfl, rfl⟩) | (go_at_call 108; refine (cmpS_any _ _ _).mono ?_; rintro e w3 ⟨rfl, rfl⟩) | (go_at_call 106; refine (or_any _ _ _ _ (by exact block_cell (alloc_at _ _ _) 0) (by exact block_cell (alloc_at _ _ _) 1)).mono ?_; rintro e w3 ⟨rfl, rfl⟩))
  go_wp2
  go_ret
  exact ⟨rfl, grown_trans HG2.out (grown_trans (grown_drew _) (World.grownBy_alloc _ _ none))⟩
end Go.Proofs.Ytpoicbefemjckaa
