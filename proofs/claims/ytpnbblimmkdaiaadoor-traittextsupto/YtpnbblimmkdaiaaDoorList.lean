/-
  What trait.List and trait.Of tell: those of the eight that are in a set, rising, in new memory; the trait of a name.
-/
import Derived.Test.YtpnbblimmkdaiaaDoorText
import Derived.Maps.AppendAt
namespace Go.Proofs.YtpnbblimmkdaiaaDoor
open Go.RowKit

/-- A list that the call itself grows: v owns these values (one cell each, of the type ty), in a block from base on. -/
def Own (w : World) (base : Nat) (ty : TypeId) (v : Value) (l : List Value) : Prop := w.ownsRow base ty 1 v l.length l
theorem Own.nil (w : World) (base : Nat) (ty : TypeId) : Own w base ty (.slice none 0 0) [] := ⟨rfl, Or.inl ⟨rfl, rfl⟩⟩
theorem Own.keep {w w' : World} {base : Nat} {ty : TypeId} {v : Value} {l : List Value} {r : Option Nat} (h : Own w base ty v l) (hg : w.grownBy w' r) (hr : ∀ x, r = some x → x < base) : Own w' base ty v l := by
  obtain ⟨h1, h2⟩ := h
  refine ⟨h1, ?_⟩
  rcases h2 with h2 | ⟨g, cap, cur, hv, hg0, hh, rest⟩
  · exact Or.inl h2
  · exact Or.inr ⟨g, cap, cur, hv, hg0, grown_keep hg hh (fun e => by have := hr g e.symm; omega), rest⟩
/-- Where it lies, what is read there. -/
theorem Own.at {w : World} {base : Nat} {ty : TypeId} {v : Value} {l : List Value} (h : Own w base ty v l) : (v = .slice none 0 0 ∧ l = []) ∨ ∃ g cap, v = .slice (some ⟨g, 0, none⟩) l.length cap ∧ base ≤ g ∧ g < w.heap.size ∧ l.length ≤ cap ∧ ∀ (j : Nat) x, l[j]? = some x → w.cell? ⟨g, j, none⟩ = some x ∧ w.frozen? ⟨g, j, none⟩ = false := by
  obtain ⟨h1, h2⟩ := h
  rcases h2 with ⟨rfl, h0⟩ | ⟨g, cap, cur, rfl, hg0, hh, hn, hm, hs, ht⟩
  · exact Or.inl ⟨rfl, List.eq_nil_of_length_eq_zero h0⟩
  · refine Or.inr ⟨g, cap, rfl, hg0, block_lt hh, hn, fun j x hx => ⟨?_, block_free hh _⟩⟩
    have hj : j < l.length := (List.getElem?_eq_some_iff.1 hx).1
    rw [block_cell hh, ← hx, ← ht, List.getElem?_take, if_pos (by omega)]
    simp
theorem Own.form {w : World} {base : Nat} {ty : TypeId} {v : Value} {l : List Value} (h : Own w base ty v l) : ∃ p cap, v = .slice p l.length cap := by
  rcases h.at with ⟨rfl, rfl⟩ | ⟨g, cap, rfl, _⟩
  · exact ⟨none, 0, rfl⟩
  · exact ⟨_, cap, rfl⟩
theorem Own.block {w : World} {base : Nat} {ty : TypeId} {v : Value} {l : List Value} (h : Own w base ty v l) : ∀ k, v.ownBlock = some k → base ≤ k := by
  intro k hk
  obtain ⟨h1, h2⟩ := h
  rcases h2 with ⟨rfl, h0⟩ | ⟨g, cap, cur, rfl, hg0, _⟩
  · simp [Value.ownBlock] at hk
  · simp [Value.ownBlock] at hk; omega
theorem own_snoc {w : World} {base : Nat} {ty : TypeId} {v : Value} {l : List Value} {n : Nat} {x : Value} (h : w.ownsRow base ty 1 v (n + 1) (l ++ [x])) (hn : n = l.length) : Own w base ty v (l ++ [x]) := by
  subst hn
  unfold Own
  rw [List.length_append]
  exact h

/-- The traits of a set, of the first k. -/
def tUpto (s : Int) : Nat → List Int
  | 0 => []
  | k + 1 => tUpto s k ++ (if tHas s ((k : Int) + 1) then [(k : Int) + 1] else [])
def tList (s : Int) : List Int := tUpto s 8
def u8s (l : List Int) : List Value := l.map fun z => Value.int .u8 z
theorem length_u8s (l : List Int) : (u8s l).length = l.length := by simp [u8s]
theorem own_u8 {w : World} {base : Nat} {v : Value} {l : List Int} (h : Own w base 24 v (u8s l)) : w.ownsRow base 24 1 v l.length (u8s l) := by
  have := h
  unfold Own at this
  rwa [length_u8s] at this
theorem u8s_snoc (l : List Int) (n : Int) : u8s (l ++ [n]) = u8s l ++ [Value.int .u8 n] := by simp [u8s]
theorem upto_len (s : Int) : ∀ k, (tUpto s k).length ≤ k
  | 0 => Nat.le_refl _
  | k + 1 => by
    have := upto_len s k
    simp only [tUpto, List.length_append]
    split <;> simp <;> omega
theorem upto_in (s : Int) (k : Nat) (h : tHas s ((k : Int) + 1) = true) : tUpto s (k + 1) = tUpto s k ++ [(k : Int) + 1] := by simp [tUpto, h]
theorem upto_out (s : Int) (k : Nat) (h : tHas s ((k : Int) + 1) = false) : tUpto s (k + 1) = tUpto s k := by simp [tUpto, h]
theorem Tryd.info24 : (Tryd.prog.info? 24).map (fun i => (i.zero, i.size, i.bytes)) = some (some (.int .u8 0), 1, 1) := by kernel_rfl

set_option maxRecDepth 100000 in
set_option maxHeartbeats 2000000 in
theorem list_any (s : Int) (w : World) : Calls Tryd.prog 23 #[.int .u16 s] w fun e w' => ∃ v, e = .returned v ∧ Own w' w.heap.size 24 v (u8s (tList s)) ∧ w.grownBy w' none := by
  obtain ⟨i0, hi, hz0, hz1, hz2⟩ := info_parts Tryd.info24
  go_enter Tryd.func23, Tryd.ntmps23
  go_wp2_with fail
  go_loopw [3, 4] (fun v t wr => ∃ (k : Nat), k ≤ 8 ∧ t = .int .u8 ((k : Int) + 1) ∧ Own wr w.heap.size 24 v (u8s (tUpto s k)) ∧ w.grownBy wr none)
    (fun _ t _ => 9 - (intOf t).toNat)
  case atStart => exact ⟨0, Nat.zero_le _, rfl, Own.nil _ _ _, grown_refl _ _⟩
  case round =>
    obtain ⟨k, hk, rfl, O, G⟩ := hrel
    by_cases h8 : k = 8
    · subst h8
      go_wp2
      go_ret
      exact ⟨_, rfl, O, G⟩
    · have h1 : (k : Int) + 1 ≤ 8 := by omega
      have hw : IntKind.u8.wrap ((k : Int) + 1 + 1) = (k : Int) + 1 + 1 := by rw [IntKind.wrap_u8]; omega
      go_wp2_with fail
      refine (has_any _ _ _).mono ?_
      rintro e w1 ⟨rfl, rfl⟩
      cases hh : tHas s ((k : Int) + 1) with
      | false =>
        rw [← upto_out s k hh] at O
        go_wp2
        go_roundw
        case rel => exact ⟨k + 1, by omega, by go_num, O, G⟩
        case measure => simp [intOf]; omega
      | true =>
        obtain ⟨q, cp, ev⟩ := O.form
        rw [length_u8s] at ev
        subst ev
        have hl := upto_len s k
        have hsz := G.size
        have O1 : World.ownsRow w1 w.heap.size 24 1 (.slice q (tUpto s k).length cp) (tUpto s k).length (u8s (tUpto s k)) := own_u8 O
        have HO : Hid (Own w1 w.heap.size 24 (.slice q (tUpto s k).length cp) (u8s (tUpto s k))) := O
        clear O
        go_wp2_with (at_builtin; refine wpList_append_own_at _ rfl (.tmp 12) (.tmp 14) 31 rfl w.heap.size 24 i0 (.int .u8 0) 1 1 Tryd.underlying31 hi hz0 hz1 hz2 rfl (by decide) _ _ _ rfl (World.ownsRow.alloc O1 _) ⟨w1.heap.size, 0, none⟩ 1 1 [.int .u8 ((k : Int) + 1)] rfl rfl (cell_one_new _ _ _) (fun x hx => by simp at hx; subst hx; rfl) (by unfold maxLen; omega) (by omega) (by simp; omega) ?_; intro v' w3 hown' hgrow3 hnil3 hlie3)
        go_roundw
        case rel => exact ⟨k + 1, by omega, by go_num, by rw [upto_in s k hh, u8s_snoc]; exact own_snoc hown' (length_u8s _).symm, grown_own (grown_push G _) hgrow3 (fun x hx => HO.out.block x hx)⟩
        case measure => simp [intOf]; omega
end Go.Proofs.YtpnbblimmkdaiaaDoor
