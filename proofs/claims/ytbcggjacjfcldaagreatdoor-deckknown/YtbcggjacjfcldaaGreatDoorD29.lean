/-
  Piles, plainly: lists of numbers, exchanged, shuffled by a stream of places, dealt; what changes is the order alone.
  The generator's next number: of the program and of the document.
  A list in memory of its own; the document's Shuffle.
  Lists of numbers where they can be cut: nothing at all, or a plain place with room.
  Lists of numbers, read as data: where they lie, how long they may be; numbers of 64 bits.
  What the five listed variables hold when the call begins, as the row says it; a start that meets it.
-/
import Derived.Test.YtbcggjacjfcldaaGreatDoorD1
import Derived.Test.YtbcggjacjfcldaaGreatDoorD27
import Derived.Laws.Bits64
import Derived.Test.YtbcggjacjfcldaaGreatDoorD28
import Derived.Laws.OwnMore
import Derived.ChangeSlices
import Derived.ProofKit
import Derived.OpenShut
import Derived.ChangeOld
import Derived.ChangeAt
import Derived.Deep.Slices
import Derived.SizedLaws
import Derived.Test.YtbcggjacjfcldaaGreatDoorD21
import Derived.Test.YtbcggjacjfcldaaGreatDoorRows
import Derived.Shelf.Vars
import Derived.ShapedOpen
import Derived.ChangeSame
import Derived.ChangeVars
import Derived.JoinedOf
import Derived.LaidLaws
import Derived.Lib.LaidTab
import Derived.Stop.LaidErr
namespace Go.Proofs.YtbcggjacjfcldaaGreatDoor

/-- What stands at i and at r, exchanged. -/
def swp (l : List Int) (i r : Nat) : List Int := (l.set i (l.getD r 0)).set r (l.getD i 0)
theorem swp_len (l : List Int) (i r : Nat) : (swp l i r).length = l.length := by simp [swp]
theorem getD_at (l : List Int) (i : Nat) (h : i < l.length) : l.getD i 0 = l[i] := by simp [List.getD, h]
theorem swp_perm (l : List Int) (i r : Nat) (hi : i < l.length) (hr : r < l.length) : (swp l i r).Perm l := by
  unfold swp
  rw [getD_at l i hi, getD_at l r hr]
  exact List.set_set_perm hi hr
theorem swp_map (f : Int → Int) (l : List Int) (i r : Nat) (hi : i < l.length) (hr : r < l.length) : swp (l.map f) i r = (swp l i r).map f := by
  unfold swp
  rw [getD_at l i hi, getD_at l r hr, getD_at (l.map f) i (by simpa using hi), getD_at (l.map f) r (by simpa using hr)]
  simp [List.map_set]
/-- A generator: its number of a state, and its state then. -/
structure Gen where
  num : Int → Nat
  nxt : Int → Int
/-- From place i down to 1. -/
def shuf (g : Gen) : Nat → List Int → Int → List Int × Int
  | 0, l, s => (l, s)
  | i + 1, l, s => shuf g i (swp l (i + 1) (g.num s % (i + 2))) (g.nxt s)
theorem shuf_len (g : Gen) : ∀ (i : Nat) (l : List Int) (s : Int), (shuf g i l s).1.length = l.length
  | 0, _, _ => rfl
  | i + 1, l, s => by rw [shuf, shuf_len g i, swp_len]
theorem shuf_perm (g : Gen) : ∀ (i : Nat) (l : List Int) (s : Int), i < l.length → (shuf g i l s).1.Perm l
  | 0, l, _, _ => List.Perm.refl l
  | i + 1, l, s, h => by
    rw [shuf]
    have hr : g.num s % (i + 2) < l.length := Nat.lt_of_lt_of_le (Nat.mod_lt _ (by omega)) (by omega)
    exact (shuf_perm g i _ _ (by rw [swp_len]; omega)).trans (swp_perm l _ _ h hr)
theorem shuf_map (g : Gen) (f : Int → Int) : ∀ (i : Nat) (l : List Int) (s : Int), i < l.length → shuf g i (l.map f) s = ((shuf g i l s).1.map f, (shuf g i l s).2)
  | 0, _, _, _ => rfl
  | i + 1, l, s, h => by
    have hr : g.num s % (i + 2) < l.length := Nat.lt_of_lt_of_le (Nat.mod_lt _ (by omega)) (by omega)
    rw [shuf, shuf, swp_map f l _ _ h hr, shuf_map g f i _ _ (by rw [swp_len]; omega)]
/-- The state hangs on the length and the state alone. -/
theorem shuf_state (g : Gen) : ∀ (i : Nat) (l m : List Int) (s : Int), (shuf g i l s).2 = (shuf g i m s).2
  | 0, _, _, _ => rfl
  | i + 1, l, m, s => by rw [shuf, shuf]; exact shuf_state g i _ _ _
/-- 0, 1, .., n - 1. -/
def places (n : Nat) : List Int := (List.range n).map fun (i : Nat) => (i : Int)
theorem places_len (n : Nat) : (places n).length = n := by simp [places]
theorem places_succ (n : Nat) : places n ++ [(n : Int)] = places (n + 1) := by simp [places, List.range_succ]
theorem places_map (l : List Int) : (places l.length).map (fun p => l.getD p.toNat 0) = l := by
  apply List.ext_getElem (by simp [places])
  intro i h1 h2
  simp [places, h2]
/-- The places go the same ways, whatever stands there. -/
theorem shuf_places (g : Gen) (i : Nat) (l : List Int) (s : Int) (h : i < l.length) : (shuf g i l s).1 = (shuf g i (places l.length) s).1.map fun p => l.getD p.toNat 0 := by
  have := shuf_map g (fun p => l.getD p.toNat 0) i (places l.length) s (by rw [places_len]; exact h)
  rw [places_map] at this
  rw [this]
theorem places_mem {n : Nat} {x : Int} (h : x ∈ places n) : 0 ≤ x ∧ x < n := by
  obtain ⟨i, hi, rfl⟩ := List.mem_map.1 h
  have := List.mem_range.1 hi
  omega
/-- Hand h: what stands at h, h + hands, h + 2 hands, .. -/
def dealH (l : List Int) (hands each h : Nat) : List Int := (List.range each).map fun k => l.getD (h + k * hands) 0
def dealAll (l : List Int) (hands each : Nat) : List (List Int) := (List.range hands).map (dealH l hands each)
theorem dealH_len (l : List Int) (hands each h : Nat) : (dealH l hands each h).length = each := by simp [dealH]
theorem dealH_succ (l : List Int) (hands each h : Nat) : dealH l hands each h ++ [l.getD (h + each * hands) 0] = dealH l hands (each + 1) h := by simp [dealH, List.range_succ]
theorem flat_snoc {α : Type} (f : Nat → List α) (g : Nat → α) : ∀ L : List Nat, (L.map fun h => f h ++ [g h]).flatten.Perm ((L.map f).flatten ++ L.map g)
  | [] => List.Perm.refl _
  | a :: L => by
    simp only [List.map_cons, List.flatten_cons]
    have ih := flat_snoc f g L
    rw [List.append_assoc, List.append_assoc]
    refine List.Perm.append_left _ ?_
    exact (List.Perm.append_left _ ih).trans (by
      rw [← List.append_assoc]
      exact (List.Perm.append_right _ List.perm_append_comm).trans (by rw [List.append_assoc]; exact List.Perm.refl _))
theorem row_take (l : List Int) (a n : Nat) (h : a + n ≤ l.length) : ((List.range n).map fun i => l.getD (i + a) 0) = (l.drop a).take n := by
  apply List.ext_getElem
  · simp; omega
  · intro i h1 h2
    simp at h1 h2
    have hh : a + i < l.length := by omega
    simp [List.getD, Nat.add_comm, hh]
theorem dealt_perm (l : List Int) (hands : Nat) : ∀ each, hands * each ≤ l.length → (dealAll l hands each).flatten.Perm (l.take (hands * each))
  | 0, _ => by simp [dealAll, dealH]
  | each + 1, h => by
    have e : dealAll l hands (each + 1) = (List.range hands).map fun h => dealH l hands each h ++ [l.getD (h + each * hands) 0] := by
      unfold dealAll
      apply List.map_congr_left
      intro a _
      rw [dealH_succ]
    have h' : hands * each + hands ≤ l.length := by rw [Nat.mul_succ] at h; exact h
    rw [e]
    refine (flat_snoc _ _ _).trans ?_
    rw [row_take l (each * hands) hands (by rw [Nat.mul_comm each]; exact h'), Nat.mul_succ, List.take_add, Nat.mul_comm each hands]
    exact List.Perm.append_right _ (dealt_perm l hands each (by omega))
/-- The hands and the rest have just the list's numbers. -/
theorem deal_perm (l : List Int) (hands each : Nat) (h : hands * each ≤ l.length) : (l.drop (hands * each) ++ (dealAll l hands each).flatten).Perm l := by
  refine (List.Perm.append_left _ (dealt_perm l hands each h)).trans (List.perm_append_comm.trans ?_)
  rw [List.take_append_drop]
/-- Without the first x. -/
theorem erase_count (l : List Int) (x : Int) (h : x ∈ l) : (l.erase x).length = l.length - 1 ∧ (l.erase x).count x = l.count x - 1 := ⟨List.length_erase_of_mem h, List.count_erase_self⟩
theorem erase_at (l : List Int) (x : Int) (i : Nat) (hi : i < l.length) (hx : l[i] = x) (hn : ∀ j (_ : j < i), l[j]'(by omega) ≠ x) : l.erase x = l.take i ++ l.drop (i + 1) := by
  induction l generalizing i with
  | nil => simp at hi
  | cons a l ih =>
    rcases i with _ | i
    · simp at hx; subst hx; simp
    · have ha : a ≠ x := by simpa using hn 0 (by omega)
      have := ih i (by simpa using hi) (by simpa using hx) (fun j hj => by simpa using hn (j + 1) (by omega))
      rw [List.erase_cons_tail (by simpa using ha), this]
      simp
end Go.Proofs.YtbcggjacjfcldaaGreatDoor
namespace Go.Proofs.YtbcggjacjfcldaaGreatDoor
open Go.RowKit

def stp (s : Int) : Int := IntKind.u64.wrap (s + 11400714819323198485)
def mxA (z : Int) : Int := IntKind.u64.wrap (bits .xor .u64 z (z / 1073741824) * 13787848793156543929)
def mxB (z : Int) : Int := IntKind.u64.wrap (bits .xor .u64 z (z / 134217728) * 10723151780598845931)
def nx (s : Int) : Int := bits .xor .u64 (mxB (mxA (stp s))) (mxB (mxA (stp s)) / 2147483648)
def isU (z : Int) : Prop := 0 ≤ z ∧ z < 18446744073709551616
theorem wrap_isU (z : Int) : isU (IntKind.u64.wrap z) := by unfold isU; rw [IntKind.wrap_u64]; omega
theorem stp_isU (s : Int) : isU (stp s) := wrap_isU _
theorem bits_isU (a b : Int) : isU (bits .xor .u64 a b) := wrap_isU _
theorem nx_isU (s : Int) : isU (nx s) := bits_isU _ _
/-- The document's generator. -/
def gen : Gen := ⟨fun s => (nx s).toNat, stp⟩
end Go.Proofs.YtbcggjacjfcldaaGreatDoor
namespace Go.Proofs.YtbcggjacjfcldaaGreatDoor
open Go.RowKit

/-- A list that is shuffled, in the call's own memory. -/
def ShAt (w wr : World) (g cap : Nat) (cur : List Int) : Prop := wr.ownsRow w.heap.size 3 1 (.slice (some ⟨g, 0, none⟩) cur.length cap) cur.length (ints cur) ∧ w.grownBy wr none
theorem ShAt.cell {w wr : World} {g cap i : Nat} {cur : List Int} (h : ShAt w wr g cap cur) (hi : i < cur.length) : wr.cell? ⟨g, i, none⟩ = some (.int .i64 (cur.getD i 0)) := by
  rw [World.ownsRow.cellAt h.1 i (by omega)]
  exact ints_at cur i hi
theorem ShAt.free {w wr : World} {g cap : Nat} {cur : List Int} (h : ShAt w wr g cap cur) (i : Nat) : wr.frozen? ⟨g, i, none⟩ = false := World.ownsRow.frozenAt h.1 i
theorem ints_set (l : List Int) (i : Nat) (z : Int) : (ints l).set i (.int .i64 z) = ints (l.set i z) := by simp [ints, List.map_set]
theorem rem_place (y : Int) (m : Nat) (h : 0 ≤ y) : ∃ r : Nat, y % ((m : Int) + 1 + 1) = (r : Int) ∧ r < m + 2 ∧ r = y.toNat % (m + 2) := by
  refine ⟨y.toNat % (m + 2), ?_, Nat.mod_lt _ (by omega), rfl⟩
  rw [Int.natCast_emod, Int.toNat_of_nonneg h]
  rfl
theorem own_ge {w : World} {base g n cap : Nat} {xs : List Value} (h : w.ownsRow base 3 1 (.slice (some ⟨g, 0, none⟩) n cap) n xs) : base ≤ g := by
  rcases h.2 with ⟨h', _⟩ | ⟨g', cap', cur, h', hb, _⟩
  · simp at h'
  · simp at h'; omega
theorem ShAt.put {w wr : World} {g cap i : Nat} {cur : List Int} {z : Int} (h : ShAt w wr g cap cur) : ShAt w (wr.setCell ⟨g, i, none⟩ (.int .i64 z)) g cap (cur.set i z) := by
  have := World.ownsRow.stored h.1 i (.int .i64 z)
  rw [ints_set] at this
  refine ⟨by rw [List.length_set]; exact this.1, grown_own h.2 this.2 (fun x e => by cases e; exact own_ge h.1)⟩
/-- The list shuffled, and the generator's state. -/
def shuffled (l : List Int) (s : Int) : List Int × Int := shuf gen (l.length - 1) l s
end Go.Proofs.YtbcggjacjfcldaaGreatDoor
namespace Go.Proofs.YtbcggjacjfcldaaGreatDoor
open Go.RowKit

def isI (z : Int) : Prop := -9223372036854775808 ≤ z ∧ z < 9223372036854775808
/-- Numbers in a list that may be cut. -/
def IntsB (w : World) (v : Value) (os : List Int) : Prop := (∃ a, v = .slice a 0 0 ∧ os = []) ∨ ∃ g off cap, v = .slice (some ⟨g, off, none⟩) os.length cap ∧ os.length ≤ cap ∧ ∀ (j : Nat) u, (ints os)[j]? = some u → w.cell? ⟨g, off + j, none⟩ = some u
theorem IntsB.a {w : World} {v : Value} {os : List Int} (h : IntsB w v os) : IntsA w v os := by
  rcases h with ⟨a, rfl, rfl⟩ | ⟨g, off, cap, rfl, _, h⟩
  · cases a with
    | none => exact Or.inl ⟨rfl, rfl⟩
    | some ad => exact Or.inr ⟨ad, 0, rfl, fun j u hu => by simp [ints] at hu⟩
  · exact Or.inr ⟨_, _, rfl, fun j u hu => by rw [add_plain]; exact h j u hu⟩
theorem IntsB.keep {w w' : World} {v : Value} {os : List Int} (h : IntsB w v os) (g : w.grownBy w' none) : IntsB w' v os := by
  rcases h with h | ⟨b, off, cap, e, hc, h⟩
  · exact Or.inl h
  · exact Or.inr ⟨b, off, cap, e, hc, fun j u hu => g.cell (h j u hu) (by simp)⟩
theorem IntsB.form {w : World} {v : Value} {l : List Int} (h : IntsB w v l) : ∃ a c, v = .slice a l.length c := by
  rcases h with ⟨a, rfl, rfl⟩ | ⟨g, off, cap, rfl, _, _⟩
  · exact ⟨_, _, rfl⟩
  · exact ⟨_, _, rfl⟩
/-- A list of the call's own may be cut. -/
theorem own_B {w : World} {base n : Nat} {v : Value} {l : List Int} (h : w.ownsRow base 3 1 v n (ints l)) (hn : l.length = n) : IntsB w v l := by
  subst hn
  rcases h.2 with ⟨e, h0⟩ | ⟨g, cap, cur, e, hb, hh, hc, hm, hs, ht⟩
  · exact Or.inl ⟨none, e, List.length_eq_zero_iff.1 h0⟩
  · subst e
    refine Or.inr ⟨g, 0, cap, rfl, hc, fun j u hu => ?_⟩
    have hj := (List.getElem?_eq_some_iff.1 hu).1
    rw [length_ints] at hj
    rw [Nat.zero_add, World.ownsRow.cellAt h j (by omega)]
    exact hu
end Go.Proofs.YtbcggjacjfcldaaGreatDoor
namespace Go.Proofs.YtbcggjacjfcldaaGreatDoor
open Go.ChangeShapes Go.WideShapes Go.ChangeAt Go.RowKit Go.Deep

theorem Tryz.own : ownKnob Tryz.prog.godebug = none := by kernel_rfl
theorem Tryz.laidOut : laidOutB Tryz.prog = true := by kernel_rfl
theorem cOf3 : Tryz.prog.cellsOf 3 = 1 := by kernel_rfl
theorem bytes3x : Tryz.prog.bytesOf 3 = 8 := by kernel_rfl
theorem isU_of {z : Int} (h : (Lit.int .u64 z).wf = true) : isU z := by
  simp [Lit.wf] at h
  have h0 : IntKind.u64.min = 0 := by decide
  have h1 : IntKind.u64.max = 18446744073709551615 := by decide
  unfold isU
  omega
theorem isI_of {z : Int} (h : (Lit.int .i64 z).wf = true) : isI z := by
  simp [Lit.wf] at h
  have h0 : IntKind.i64.min = -9223372036854775808 := by decide
  unfold isI
  omega
set_option maxRecDepth 100000 in
/-- A list of numbers, read as data. -/
theorem numsB_open {H : Type} {enc : TypeId × Value → H} {w : World} {base : Nat} {held : Bool} {fuel : Nat} {v : Value} {x : DataW H × List MemPlace}
    (h : DataW.trod enc Tryz.prog w base (fun _ => true) held fuel 26 [v] = some x) (hz : ∀ n ∈ x.1.weights Tryz.prog 26, n ≤ reachBytes) : ∃ os : List Int, IntsB w v os ∧ (os.length + 2) * 8 ≤ 140737488355328 := by
  rcases open_slice1 Tryz.underlying26 cOf3 h with ⟨hcs, _⟩ | ⟨a, len, cp, m, f, V, D, Pl, hcs, _, hl, hm, hmm, hxx, hx⟩
  · simp at hcs
    subst hcs
    exact ⟨[], Or.inl ⟨_, rfl, rfl⟩, by decide⟩
  · simp at hcs
    subst hcs
    simp at hmm
    have hnm : len ≤ m := by omega
    have hp : ∀ i, i < len → ∃ s : Int, w.cell? (a.add i) = some (.int .i64 s) := fun i hi => by
      obtain ⟨h1, h2⟩ := hx i (by omega)
      obtain ⟨z, e, _, _⟩ := DataW.trod_int Tryz.underlying3 h2
      simp only [List.cons.injEq, and_true] at e
      exact ⟨z, by rw [h1, e]⟩
    obtain ⟨F, hF⟩ := choose_lt (α := Int) hp
    refine ⟨(List.range len).map F, ?_, ?_⟩
    · by_cases hc0 : cp = 0
      · subst hc0
        obtain rfl : len = 0 := by omega
        exact Or.inl ⟨_, rfl, rfl⟩
      · have c0 := (hx 0 (by omega)).1
        have ex : a.add 0 = a := by simp [Addr.add]
        rw [ex] at c0
        have pl := addr_plain c0
        refine Or.inr ⟨a.block, a.off, cp, by rw [← pl]; simp, by simpa using hl, fun j u hu => ?_⟩
        have hj : j < len := by have := (List.getElem?_eq_some_iff.1 hu).1; rw [length_ints] at this; simpa using this
        obtain rfl : u = .int .i64 (F j) := by simp [ints, hj] at hu; exact hu.symm
        have := hF j hj
        rw [pl, add_plain] at this
        exact this
    · have hb := hz ((len + (m - len)) * 8) (by rw [hxx]; simp [DataW.weights, Tryz.underlying26, bytes3x])
      unfold reachBytes at hb
      simp only [List.length_map, List.length_range]
      omega
end Go.Proofs.YtbcggjacjfcldaaGreatDoor
namespace Go.Proofs.YtbcggjacjfcldaaGreatDoor
open Go.ChangeShapes Go.WideShapes Go.ChangeAt Go.RowKit

theorem Tryz.g1 : Tryz.prog.globalNamed "internal/strconv.uint64pow10" = some 1 := by kernel_rfl
theorem Tryz.g1Type : (Tryz.prog.globals[1]?).map (·.type) = some 160 := by kernel_rfl
theorem Tryz.g2 : Tryz.prog.globalNamed "strconv.ErrSyntax" = some 2 := by kernel_rfl
theorem Tryz.g2Type : (Tryz.prog.globals[2]?).map (·.type) = some 128 := by kernel_rfl
theorem Tryz.g3 : Tryz.prog.globalNamed "strconv.ErrRange" = some 3 := by kernel_rfl
theorem Tryz.g3Type : (Tryz.prog.globals[3]?).map (·.type) = some 128 := by kernel_rfl
theorem Tryz.lcStr : Tryz.prog.cellsOf 9 = 1 := by kernel_rfl
theorem Tryz.lcTab : Tryz.prog.cellsOf 160 = 20 := by kernel_rfl
theorem Tryz.lcU64 : Tryz.prog.cellsOf 145 = 1 := by kernel_rfl
theorem Tryz.lcErr : Tryz.prog.cellsOf 188 = 1 := by kernel_rfl
def cells32 : Array Value := #[.int .u8 0, .int .u8 1, .int .u8 28, .int .u8 2, .int .u8 29, .int .u8 14, .int .u8 24, .int .u8 3, .int .u8 30, .int .u8 22, .int .u8 20, .int .u8 15, .int .u8 25, .int .u8 17, .int .u8 4, .int .u8 8, .int .u8 31, .int .u8 27, .int .u8 13, .int .u8 23, .int .u8 21, .int .u8 19, .int .u8 16, .int .u8 7, .int .u8 26, .int .u8 12, .int .u8 18, .int .u8 6, .int .u8 11, .int .u8 5, .int .u8 10, .int .u8 9]
def cells64 : Array Value := #[.int .u8 0, .int .u8 1, .int .u8 56, .int .u8 2, .int .u8 57, .int .u8 49, .int .u8 28, .int .u8 3, .int .u8 61, .int .u8 58, .int .u8 42, .int .u8 50, .int .u8 38, .int .u8 29, .int .u8 17, .int .u8 4, .int .u8 62, .int .u8 47, .int .u8 59, .int .u8 36, .int .u8 45, .int .u8 43, .int .u8 51, .int .u8 22, .int .u8 53, .int .u8 39, .int .u8 33, .int .u8 30, .int .u8 24, .int .u8 18, .int .u8 12, .int .u8 5, .int .u8 63, .int .u8 55, .int .u8 48, .int .u8 27, .int .u8 60, .int .u8 41, .int .u8 37, .int .u8 16, .int .u8 46, .int .u8 35, .int .u8 44, .int .u8 21, .int .u8 52, .int .u8 32, .int .u8 23, .int .u8 11, .int .u8 54, .int .u8 26, .int .u8 40, .int .u8 15, .int .u8 34, .int .u8 20, .int .u8 31, .int .u8 10, .int .u8 25, .int .u8 14, .int .u8 19, .int .u8 9, .int .u8 13, .int .u8 8, .int .u8 7, .int .u8 6]
def cellsP : Array Value := #[.int .u64 1, .int .u64 10, .int .u64 100, .int .u64 1000, .int .u64 10000, .int .u64 100000, .int .u64 1000000, .int .u64 10000000, .int .u64 100000000, .int .u64 1000000000, .int .u64 10000000000, .int .u64 100000000000, .int .u64 1000000000000, .int .u64 10000000000000, .int .u64 100000000000000, .int .u64 1000000000000000, .int .u64 10000000000000000, .int .u64 100000000000000000, .int .u64 1000000000000000000, .int .u64 10000000000000000000]
theorem Tryz.star : ("*errors.errorString" : String) = "*" ++ "errors.errorString" := by decide
theorem Tryz.rowErr (u : TypeId) (h : Tryz.prog.typeName? 3 u = some "*errors.errorString") : u = 186 :=
  typeName_ptr_named (nm := "errors.errorString") (by rw [← Tryz.star]; kernel_rfl) (by kernel_rfl) (by decide) u (by rw [← Tryz.star]; exact h)
theorem pow_is : (Rows.laid_internal_strconv_uint64pow10 : DataW Unit) = Lib.tabData .u64 Lib.pow10Tab := by kernel_rfl
theorem var_block {W : World} {n : String} {g : Nat} {te : TypeId} {pe : Value} (hg : Tryz.prog.globalNamed n = some g) (h : W.var? Tryz.prog n = some #[.iface te pe]) : ∃ te pe t z, W.heap[g]? = some (.cells #[.iface te pe] t z) := by
  unfold World.var? at h
  rw [hg] at h
  simp only [Option.bind_some] at h
  cases hh : W.heap[g]? with
  | none => rw [hh] at h; cases h
  | some o =>
    rw [hh] at h
    cases o with
    | cells cs t z =>
      simp only [Option.some.injEq] at h
      exact ⟨te, pe, t, z, by rw [h]⟩
    | _ => cases h
theorem laid_of {W : World} (h : laidMet Tryz.prog [("math/bits.deBruijn32tab", Rows.laid_math_bits_deBruijn32tab), ("math/bits.deBruijn64tab", Rows.laid_math_bits_deBruijn64tab), ("internal/strconv.uint64pow10", Rows.laid_internal_strconv_uint64pow10), ("strconv.ErrRange", Rows.laid_strconv_ErrRange), ("strconv.ErrSyntax", Rows.laid_strconv_ErrSyntax)] W) : LibAt W := by
  have hp := h.tail.tail
  rw [pow_is] at hp
  have hpow := Lib.tabIs_of_head Tryz.g1 Tryz.g1Type Tryz.underlying160 Tryz.underlying145 Tryz.lcU64 Tryz.lcTab hp
  obtain ⟨a0, s0, hv0, -, -, -⟩ := laid_sentinel h.tail.tail.tail Tryz.g3 Tryz.g3Type Tryz.underlying128 Tryz.rowErr Tryz.underlying186 Tryz.underlying188 rfl rfl Tryz.underlying9 Tryz.lcErr Tryz.lcStr
  obtain ⟨a1, s1, hv1, -, -, -⟩ := laid_sentinel h.tail.tail.tail.tail Tryz.g2 Tryz.g2Type Tryz.underlying128 Tryz.rowErr Tryz.underlying186 Tryz.underlying188 rfl rfl Tryz.underlying9 Tryz.lcErr Tryz.lcStr
  refine ⟨?_, ⟨var_block Tryz.g2 hv1, var_block Tryz.g3 hv0⟩⟩
  unfold Lib.TabIs World.var? at hpow
  rw [Tryz.g1] at hpow
  simp only [Option.bind_some] at hpow
  cases hh : W.heap[1]? with
  | none => rw [hh] at hpow; cases hpow
  | some o =>
    rw [hh] at hpow
    cases o with
    | cells cs t z =>
      simp only [Option.some.injEq] at hpow
      exact ⟨t, z, by rw [hh, hpow]⟩
    | _ => cases hpow
def putC (cs : Array Value) : Obj → Obj
  | .cells _ t frozen => .cells cs t frozen
  | o => o
set_option maxRecDepth 100000 in
theorem laid_met (os : Os) (args : Array Value) : laidMet Tryz.prog [("math/bits.deBruijn32tab", Rows.laid_math_bits_deBruijn32tab), ("math/bits.deBruijn64tab", Rows.laid_math_bits_deBruijn64tab), ("internal/strconv.uint64pow10", Rows.laid_internal_strconv_uint64pow10), ("strconv.ErrRange", Rows.laid_strconv_ErrRange), ("strconv.ErrSyntax", Rows.laid_strconv_ErrSyntax)] (({ World.holding Tryz.prog os ⟨#[.cells #[.string ⟨#[118, 97, 108, 117, 101, 32, 111, 117, 116, 32, 111, 102, 32, 114, 97, 110, 103, 101]⟩] 188, .cells #[.string ⟨#[105, 110, 118, 97, 108, 105, 100, 32, 115, 121, 110, 116, 97, 120]⟩] 188], #[], []⟩ with heap := (((((World.holding Tryz.prog os ⟨#[.cells #[.string ⟨#[118, 97, 108, 117, 101, 32, 111, 117, 116, 32, 111, 102, 32, 114, 97, 110, 103, 101]⟩] 188, .cells #[.string ⟨#[105, 110, 118, 97, 108, 105, 100, 32, 115, 121, 110, 116, 97, 120]⟩] 188], #[], []⟩).heap.modify 4 (putC cells32)).modify 5 (putC cells64)).modify 1 (putC cellsP)).modify 3 (putC #[.iface 186 (.pointer (some ⟨(World.holding Tryz.prog os ⟨#[], #[], []⟩).heap.size, 0, none⟩))])).modify 2 (putC #[.iface 186 (.pointer (some ⟨(World.holding Tryz.prog os ⟨#[], #[], []⟩).heap.size + 1, 0, none⟩))]) } : World).forCall (fun _ _ => 0) ⟨#[], args, []⟩).memory :=
  laidMet_of_run' 8 (by kernel_rfl) (by kernel_rfl)
/-- What a row gives its contract: what the listed variables hold, and the shape of the world. -/
theorem returns_laid_shaped {H : Type} {enc : TypeId × Value → H} {a : Assume} {C : Checked} {os : Os} {f : FuncId} {fn : Func} {s : ChangeSpec} {conds : List PathCond} {apart fresh handsOn again : Bool} {X : World → Array Value → Prop}
    (hX : ∀ (w w' : World) (args : Array Value), w.heap = w'.heap → X w args → X w' args)
    (own : ownKnob C.prog.godebug = none) (started : os.Started) (noInit : C.prog.inits.idxOf? f = none) (hfn : C.prog.funcs[f]? = some fn)
    (witness : ∃ (w : World) (tape : Tape) (i : Input), w.os = os ∧ (w.forCall tape i).Shaped C.prog ∧ i.vars = [] ∧ Input.okWide C.prog (w.forCall tape i) .any w.heap.size f i ∧
      ((s.pre enc C.prog fn conds apart (w.forCall tape i).memory i.args ∧ X (w.forCall tape i).memory i.args) ∧ sizedMet enc C.prog fn (OpenSpec.ofChange s) apart (w.forCall tape i).memory i.args) ∧ a.holds C.prog (lone (Frame.enter C.prog f i.args .normal) [] (w.forCall tape i)))
    (contract : ∀ (W : World) (base : Nat) (args : Array Value) (ds gs : List (DataW H)) (before : List MemPlace),
      (∀ (j : Nat) t v, fn.params[j]? = some t → args[j]? = some v → Value.okWide C.prog W .any base t v) →
      DataW.Whole enc C.prog fn.params.toList s.vars apart W args.toList ds gs before →
      (DataW.weightsEach C.prog (fn.params.toList ++ s.plain.varTypes C.prog) (ds ++ gs)).all (· ≤ reachBytes) = true → X W args → W.ShapedOpen C.prog →
      Calls C.prog f args W fun e W' => ∃ v, e = .returned v ∧ s.post enc C.prog fn apart fresh handsOn again W args v W') :
    ReturnsInHanded a C os f .any (fun w args => (s.pre enc C.prog fn conds apart w args ∧ X w args) ∧ sizedMet enc C.prog fn (OpenSpec.ofChange s) apart w args) (s.post enc C.prog fn apart fresh handsOn again) := by
  refine returnsInHanded_of_calls own started noInit witness ?_
  intro w tape i _ hsh _ hok hpre _
  obtain ⟨_, _, _, fn1, hfn1, _, _, _, _, hval⟩ := hok
  have e : fn1 = fn := Option.some.inj (hfn1.symm.trans hfn)
  subst e
  obtain ⟨⟨⟨ds, gs, before, hw, _⟩, hx⟩, hz⟩ := hpre
  have hw1 := DataW.Whole.of_heap (w' := w.forCall tape i) (by rfl) hw
  refine (contract (w.forCall tape i) w.heap.size i.args ds gs before hval hw1 (hz.weights hw) (hX _ _ _ (by rfl) hx) hsh).mono fun e W' ⟨v, he, hp⟩ => ?_
  subst he
  exact ChangeSpec.post_blind hp
end Go.Proofs.YtbcggjacjfcldaaGreatDoor
