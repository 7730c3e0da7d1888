/-
  The generator's next number: of the program and of the document.
  Memory, as lists of numbers see it: what a call has kept, lists and their blocks, small lengths. (Gathered out of elder texts, for seats without cards.)
  LentInts, CopyInts, KeptInts: a list of numbers lent, copied, as it was.
  A list in memory of its own; the document's Shuffle.
  The document's Draw, Under, Cut, Without.
-/
import Derived.Test.YtogpgldbbegniaaS2
import Derived.Test.YtogpgldbbegniaaPlP
import Derived.Laws.Bits64
import Derived.Laws.MakeOwn
import Derived.Laws.AppendOwnNone
import Derived.Laws.OwnMore
import Derived.OwnWalk
import Derived.Maps.AppendAt
import Derived.Deep.AppendLies
import Derived.Maps.RangeWalk
import Derived.Deep.RegionWith
import Derived.Deep.CutRange
namespace Go.Proofs.Ytogpgldbbegniaa
open Go.RowKit

def stp (s : Int) : Int := IntKind.u64.wrap (s + 11400714819323198485)
def mxA (z : Int) : Int := IntKind.u64.wrap (bits .xor .u64 z (z / 1073741824) * 13787848793156543929)
def mxB (z : Int) : Int := IntKind.u64.wrap (bits .xor .u64 z (z / 134217728) * 10723151780598845931)
def nx (s : Int) : Int := bits .xor .u64 (mxB (mxA (stp s))) (mxB (mxA (stp s)) / 2147483648)
def isU (z : Int) : Prop := 0 ≤ z ∧ z < 18446744073709551616
theorem wrap_isU (z : Int) : isU (IntKind.u64.wrap z) := by unfold isU; rw [IntKind.wrap_u64]; omega
theorem stp_isU (s : Int) : isU (stp s) := wrap_isU _
theorem bits_isU (a b : Int) : isU (bits .xor .u64 a b) := wrap_isU _
theorem nx_isU (s : Int) : isU (nx s) := bits_isU _ _
/-- The document's generator. -/
def gen : Gen := ⟨fun s => (nx s).toNat, stp⟩
end Go.Proofs.Ytogpgldbbegniaa
namespace Go.Proofs.Ytogpgldbbegniaa
open Go.RowKit

theorem grown_drew (w : World) : w.grownBy w.drew none := ⟨rfl, rfl, rfl, Nat.le_refl _, fun _ _ _ => rfl⟩
theorem addr_plain {w : World} {x : Addr} {v : Value} (h : w.cell? x = some v) : x = ⟨x.block, x.off, none⟩ := by
  cases x with
  | mk b o s =>
    cases s with
    | none => rfl
    | some s =>
      exfalso
      unfold World.cell? at h
      split at h <;> simp_all
theorem add_plain (b o j : Nat) : (⟨b, o, none⟩ : Addr).add j = ⟨b, o + j, none⟩ := by unfold Addr.add; split <;> simp_all
/-- A number that a machine's list has at most. -/
def Small (n : Nat) : Prop := n ≤ 140737488355328
theorem Small.wrap {n k : Nat} (h : Small n) (hk : k < n) : wrap64 ((k : Int) + 1) = (k : Int) + 1 := by unfold Small at h; unfold wrap64; omega
theorem meas_next {n k : Nat} (h : k < n) : n - (intOf (.int .i64 ((k : Int) + 1))).toNat < n - (intOf (.int .i64 (k : Int))).toNat := by simp [intOf]; omega
/-- Where a list of numbers lies. -/
def IntsIn (w : World) (v : Value) (os : List Int) : Prop := ∃ a k, v = .slice a os.length k ∧ (0 < os.length → ∃ g o, a = some ⟨g, o, none⟩ ∧ ∀ (j : Nat) x, os[j]? = some x → w.cell? ⟨g, o + j, none⟩ = some (.int .i64 x))
def lim (n : Nat) : Prop := n ≤ maxLen
theorem lim.wrap {n k : Nat} (h : lim n) (hk : k < n) : wrap64 ((k : Int) + 1) = (k : Int) + 1 := by unfold lim maxLen at h; unfold wrap64; omega
/-- Nothing old has turned but the blocks of S. -/
structure Kpt (S : List Nat) (w w' : World) : Prop where
  os : w'.os = w.os
  tape : w'.tape = w.tape
  output : w'.output = w.output
  size : w.heap.size ≤ w'.heap.size
  block : ∀ k, k < w.heap.size → k ∉ S → w'.heap[k]? = w.heap[k]?
theorem Kpt.refl (S : List Nat) (w : World) : Kpt S w w := ⟨rfl, rfl, rfl, Nat.le_refl _, fun _ _ _ => rfl⟩
theorem Kpt.trans {S T : List Nat} {a b c : World} (h : Kpt S a b) (k : Kpt T b c) (hT : ∀ x, x ∈ T → x ∈ S ∨ a.heap.size ≤ x) : Kpt S a c :=
  ⟨k.os.trans h.os, k.tape.trans h.tape, k.output.trans h.output, Nat.le_trans h.size k.size, fun i hi hs => (k.block i (Nat.lt_of_lt_of_le hi h.size) (fun e => by rcases hT i e with h1 | h1; exact hs h1; omega)).trans (h.block i hi hs)⟩
theorem Kpt.of_grown {w w' : World} {r : Option Nat} (h : w.grownBy w' r) : Kpt r.toList w w' :=
  ⟨h.os, h.tape, h.output, h.size, fun k hk hs => h.block k hk (fun e => hs (by rw [← e]; simp))⟩
theorem Kpt.mono {S T : List Nat} {a b : World} (h : Kpt S a b) (hS : ∀ x, x ∈ S → x ∈ T) : Kpt T a b :=
  ⟨h.os, h.tape, h.output, h.size, fun k hk hs => h.block k hk (fun e => hs (hS k e))⟩
theorem Kpt.cell {S : List Nat} {a b : World} (h : Kpt S a b) {p : Addr} {v : Value} (hc : a.cell? p = some v) (hp : p.block ∉ S) : b.cell? p = some v := by
  rw [World.cell?_of_block (h.block p.block (World.block_lt_of_cell? _ _ hc) hp)]; exact hc
theorem Kpt.grow {S : List Nat} {a b c : World} (h : Kpt S a b) (g : b.grownBy c none) : Kpt S a c := h.trans (Kpt.of_grown g) (by simp)
theorem Kpt.new {S : List Nat} {a b c : World} (g : a.grownBy b none) (h : Kpt S b c) (hS : ∀ x, x ∈ S → a.heap.size ≤ x) : a.grownBy c none :=
  ⟨h.os.trans g.os, h.tape.trans g.tape, h.output.trans g.output, Nat.le_trans g.size h.size, fun k hk _ => (h.block k (Nat.lt_of_lt_of_le hk g.size) (fun e => by have := hS k e; omega)).trans (g.block k hk (by simp))⟩
/-- A list: its block, its length, its room. -/
structure Lst where
  a : Option Nat
  n : Nat
  cap : Nat
def Lst.v (x : Lst) : Value := .slice (x.a.map fun g => ⟨g, 0, none⟩) x.n x.cap
def Lst.f (x : Lst) : Value := .slice (x.a.map fun g => ⟨g, 0, none⟩) x.cap x.cap
def blocks (T : List Lst) : List Nat := T.filterMap Lst.a
theorem mem_blocks {T : List Lst} {j g : Nat} {x : Lst} (h : T[j]? = some x) (hg : x.a = some g) : g ∈ blocks T := List.mem_filterMap.2 ⟨x, List.mem_of_getElem? h, hg⟩
/-- No two lie in one block. -/
def Diff (T : List Lst) : Prop := ∀ (i j : Nat) (x y : Lst) (g : Nat), T[i]? = some x → T[j]? = some y → x.a = some g → y.a = some g → i = j
def fcells (T : List Lst) : List Value := T.map Lst.f
theorem fcells_snoc {T : List Lst} {k : Nat} {x : Lst} (h : T[k]? = some x) : fcells (T.take (k + 1)) = fcells (T.take k) ++ [x.f] := by
  rw [List.take_add_one, h]
  simp [fcells]
theorem own_above {w : World} {base : Nat} {e : TypeId} {size n : Nat} {v : Value} {xs : List Value} (h : w.ownsRow base e size v n xs) : ∀ x, v.ownBlock = some x → base ≤ x := by
  obtain ⟨h1, h2⟩ := h
  intro x hx
  rcases h2 with ⟨rfl, _⟩ | ⟨g, cap, cur, rfl, hg0, _⟩
  · simp [Value.ownBlock] at hx
  · simp [Value.ownBlock] at hx; omega
theorem small_len {n : Nat} (h : n ≤ 4294967296) : n ≤ maxLen := by unfold maxLen; omega

end Go.Proofs.Ytogpgldbbegniaa
namespace Go.Proofs.Ytogpgldbbegniaa
open Go.RowKit

/-- Numbers that were handed in. -/
def IntsA (w : World) (v : Value) (os : List Int) : Prop := (v = .slice none 0 0 ∧ os = []) ∨ ∃ ad cap, v = .slice (some ad) os.length cap ∧ ∀ (j : Nat) u, (ints os)[j]? = some u → w.cell? (Addr.add ad j) = some u
theorem IntsA.keep {w w' : World} {v : Value} {os : List Int} (h : IntsA w v os) (g : w.grownBy w' none) : IntsA w' v os := by
  rcases h with h | ⟨ad, cap, e, h⟩
  · exact Or.inl h
  · exact Or.inr ⟨ad, cap, e, fun j u hu => g.cell (h j u hu) (by simp)⟩
theorem IntsA.in {w : World} {v : Value} {os : List Int} (h : IntsA w v os) : IntsIn w v os := by
  rcases h with ⟨rfl, rfl⟩ | ⟨ad, cap, rfl, h⟩
  · exact ⟨none, 0, rfl, fun h => absurd h (by decide)⟩
  · refine ⟨some ad, cap, rfl, fun h0 => ?_⟩
    have c0 := h 0 _ (ints_at os 0 h0)
    have ex : Addr.add ad 0 = ad := by simp [Addr.add]
    rw [ex] at c0
    have pl := addr_plain c0
    refine ⟨ad.block, ad.off, by rw [← pl], fun j x hx => ?_⟩
    have hj := (List.getElem?_eq_some_iff.1 hx).1
    have h9 := h j (.int .i64 x) (by unfold ints; rw [List.getElem?_map, hx]; rfl)
    rw [pl, add_plain] at h9
    exact h9
theorem ints_one (l : List Int) : ∀ u ∈ ints l, u.oneCell' = true := fun u hu => by
  obtain ⟨z, _, rfl⟩ := List.mem_map.1 hu
  rfl
theorem ints_app (a b : List Int) : ints (a ++ b) = ints a ++ ints b := by simp [ints]
theorem m77 {w : World} {g : Nat} (h : w.heap[g]? = some (.cells #[.int .i64 (-77), .int .i64 (-77)] 3 (0, 0))) : ∀ j u, (ints [-77, -77])[j]? = some u → w.cell? ((⟨g, 0, none⟩ : Addr).add j) = some u := fun j u hu => by
  rw [add_plain, Nat.zero_add, block_cell h]
  simpa [ints] using hu
theorem own_two {w : World} {base : Nat} {v : Value} {n : Nat} {xs : List Value} (h : w.ownsRow base 3 1 v (n + 2) xs) : ∃ g c, v = .slice (some ⟨g, 0, none⟩) (n + 2) c := by
  rcases h.2 with ⟨_, h0⟩ | ⟨g, cap, _, rfl, _⟩
  · omega
  · exact ⟨g, cap, rfl⟩
theorem Try.info3i : (Try.prog.info? 3).map (fun i => (i.zero, i.size, i.bytes)) = some (some (.int .i64 0), 1, 8) := by kernel_rfl
end Go.Proofs.Ytogpgldbbegniaa
namespace Go.Proofs.Ytogpgldbbegniaa
open Go.RowKit

/-- A list that is shuffled, in the call's own memory. -/
def ShAt (w wr : World) (g cap : Nat) (cur : List Int) : Prop := wr.ownsRow w.heap.size 3 1 (.slice (some ⟨g, 0, none⟩) cur.length cap) cur.length (ints cur) ∧ w.grownBy wr none
theorem ShAt.cell {w wr : World} {g cap i : Nat} {cur : List Int} (h : ShAt w wr g cap cur) (hi : i < cur.length) : wr.cell? ⟨g, i, none⟩ = some (.int .i64 (cur.getD i 0)) := by
  rw [World.ownsRow.cellAt h.1 i (by omega)]
  exact ints_at cur i hi
theorem ShAt.free {w wr : World} {g cap : Nat} {cur : List Int} (h : ShAt w wr g cap cur) (i : Nat) : wr.frozen? ⟨g, i, none⟩ = false := World.ownsRow.frozenAt h.1 i
theorem ints_set (l : List Int) (i : Nat) (z : Int) : (ints l).set i (.int .i64 z) = ints (l.set i z) := by simp [ints, List.map_set]
theorem rem_place (y : Int) (m : Nat) (h : 0 ≤ y) : ∃ r : Nat, y % ((m : Int) + 1 + 1) = (r : Int) ∧ r < m + 2 ∧ r = y.toNat % (m + 2) := by
  refine ⟨y.toNat % (m + 2), ?_, Nat.mod_lt _ (by omega), rfl⟩
  rw [Int.natCast_emod, Int.toNat_of_nonneg h]
  rfl
theorem own_ge {w : World} {base g n cap : Nat} {xs : List Value} (h : w.ownsRow base 3 1 (.slice (some ⟨g, 0, none⟩) n cap) n xs) : base ≤ g := by
  rcases h.2 with ⟨h', _⟩ | ⟨g', cap', cur, h', hb, _⟩
  · simp at h'
  · simp at h'; omega
theorem ShAt.put {w wr : World} {g cap i : Nat} {cur : List Int} {z : Int} (h : ShAt w wr g cap cur) : ShAt w (wr.setCell ⟨g, i, none⟩ (.int .i64 z)) g cap (cur.set i z) := by
  have := World.ownsRow.stored h.1 i (.int .i64 z)
  rw [ints_set] at this
  refine ⟨by rw [List.length_set]; exact this.1, grown_own h.2 this.2 (fun x e => by cases e; exact own_ge h.1)⟩
/-- The list shuffled, and the generator's state. -/
def shuffled (l : List Int) (s : Int) : List Int × Int := shuf gen (l.length - 1) l s
end Go.Proofs.Ytogpgldbbegniaa
namespace Go.Proofs.Ytogpgldbbegniaa
open Go.RowKit

theorem ints_from {w : World} {g off n cap : Nat} {x : Int} {l : List Int} (h : IntsA w (.slice (some ⟨g, off, none⟩) (n + 1) cap) (x :: l)) (hn : n = l.length) (hc : n + 1 ≤ cap) : IntsA w (.slice (if cap = 1 then some ⟨g, off, none⟩ else some ⟨g, off + 1, none⟩) l.length (cap - 1)) l := by
  rcases h with ⟨h, _⟩ | ⟨ad, c, h, hcell⟩
  · cases h
  · cases h
    by_cases e : cap = 1
    · obtain rfl : l = [] := List.length_eq_zero_iff.1 (by omega)
      rw [if_pos e]
      exact Or.inr ⟨_, _, rfl, fun j u hu => by simp [ints] at hu⟩
    · rw [if_neg e]
      refine Or.inr ⟨_, _, rfl, fun j u hu => ?_⟩
      have := hcell (j + 1) u (by simpa [ints] using hu)
      rw [add_plain] at this ⊢
      rw [show off + 1 + j = off + (j + 1) by omega]
      exact this
end Go.Proofs.Ytogpgldbbegniaa
