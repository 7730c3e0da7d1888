/-
  What StartGrows leans on besides the log's contracts: Pick answers a number below its bound; which numbers a log has taken behind so many rounds; a list that the call itself grows.
-/
import Derived.Test.YtldjfeodeodcmaaAwake
namespace Go.Proofs.Ytldjfeodeodcmaa
open Go.RowKit

set_option maxHeartbeats 400000 in
theorem pick_any (k : Int) (n : Nat) (w : World) (hn : 0 < n) (hm : n ≤ 4294967296) : Calls Try.prog 16 #[.int .i64 k, .int .i64 n] w fun e w' => (∃ r : Nat, r < n ∧ e = .returned (.int .i64 r)) ∧ w' = w := by
  have h1 : ¬ ((n : Int) < 1) := by omega
  have h0 : ((n : Int) == 0) = false := by simpa using (show ¬ ((n : Int) = 0) by omega)
  have b1 : k.tmod n < n := Int.tmod_lt_of_pos k (by omega)
  have b2 : -(n : Int) < k.tmod n := by
    have h := Int.tmod_lt_of_pos (-k) (show (0 : Int) < n by omega)
    rw [Int.neg_tmod] at h
    omega
  go_enter Try.func16, Try.ntmps16
  go_wp2
  · go_ret
    exact ⟨⟨(k.tmod n + n).toNat, by omega, ret_int (Int.toNat_of_nonneg (by omega)).symm⟩, rfl⟩
  · go_ret
    exact ⟨⟨(k.tmod n).toNat, by omega, ret_int (Int.toNat_of_nonneg (by omega)).symm⟩, rfl⟩

/-- What a log has taken behind k rounds, closed at round r. -/
def kept (X : List Int) (r k : Nat) : List Int := X.take (min (min k r) 256)
theorem length_kept (X : List Int) (r k : Nat) (h : k ≤ X.length) : (kept X r k).length = min (min k r) 256 := by simp [kept]; omega
theorem kept_snoc (X : List Int) (r k : Nat) (h : k < X.length) (hr : k < r) (h2 : k < 256) : kept X r k ++ [X.getD k 0] = kept X r (k + 1) := by
  have e1 : min (min k r) 256 = k := by omega
  have e2 : min (min (k + 1) r) 256 = k + 1 := by omega
  rw [kept, kept, e1, e2, List.take_succ_eq_append_getElem h, getD_lt _ _ h]
theorem kept_same (X : List Int) (r k : Nat) (h : r ≤ k ∨ 256 ≤ k) : kept X r (k + 1) = kept X r k := by
  have e : min (min (k + 1) r) 256 = min (min k r) 256 := by omega
  rw [kept, kept, e]

/-- A list that the call itself grows: v owns the numbers l, in a block from base on. -/
def Own (w : World) (base : Nat) (v : Value) (l : List Int) : Prop := w.ownsRow base 3 1 v l.length (ints l)
theorem Own.nil (w : World) (base : Nat) : Own w base (.slice none 0 0) [] := ⟨rfl, Or.inl ⟨rfl, rfl⟩⟩
theorem Own.keep {w w' : World} {base : Nat} {v : Value} {l : List Int} {r : Option Nat} (h : Own w base v l) (hg : w.grownBy w' r) (hr : ∀ x, r = some x → x < base) : Own w' base v l := by
  obtain ⟨h1, h2⟩ := h
  refine ⟨h1, ?_⟩
  rcases h2 with h2 | ⟨g, cap, cur, hv, hg0, hh, rest⟩
  · exact Or.inl h2
  · exact Or.inr ⟨g, cap, cur, hv, hg0, grown_keep hg hh (fun e => by have := hr g e.symm; omega), rest⟩
theorem Own.ints {w : World} {base : Nat} {v : Value} {l : List Int} (h : Own w base v l) : IntsAt w v l := by
  obtain ⟨h1, h2⟩ := h
  rcases h2 with ⟨rfl, h0⟩ | ⟨g, cap, cur, rfl, hg0, hh, hn, hm, hs, ht⟩
  · have : l = [] := List.eq_nil_of_length_eq_zero h0
    subst this
    exact ⟨none, 0, rfl, Nat.zero_le _, fun h => absurd h (by simp)⟩
  · refine ⟨_, cap, rfl, Nat.le_trans hn hm, fun h => ⟨g, 0, rfl, fun j hj => ?_⟩⟩
    rw [Nat.zero_add, block_cell hh, ← ints_at l j hj, ← ht, List.getElem?_take, if_pos (by omega)]
    simp
theorem Own.form {w : World} {base : Nat} {v : Value} {l : List Int} (h : Own w base v l) : ∃ p cap, v = .slice p l.length cap := by
  obtain ⟨p, cap, e, _⟩ := h.ints
  exact ⟨p, cap, e⟩
theorem Own.block {w : World} {base : Nat} {v : Value} {l : List Int} (h : Own w base v l) : ∀ k, v.ownBlock = some k → base ≤ k := by
  intro k hk
  obtain ⟨h1, h2⟩ := h
  rcases h2 with ⟨rfl, h0⟩ | ⟨g, cap, cur, rfl, hg0, _⟩
  · simp [Value.ownBlock] at hk
  · simp [Value.ownBlock] at hk; omega
theorem Try.info3' : (Try.prog.info? 3).map (fun i => (i.zero, i.size, i.bytes)) = some (some (.int .i64 0), 1, 8) := by kernel_rfl

end Go.Proofs.Ytldjfeodeodcmaa
