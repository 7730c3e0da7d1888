/-
  Piles, plainly: lists of numbers, exchanged, shuffled by a stream of places, dealt; what changes is the order alone.
  The generator's next number: of the program and of the document.
  Memory, as lists of numbers see it, in a seat that has cards too: what the card texts tell already, and lists of numbers.
  LentInts, CopyInts, KeptInts: a list of numbers lent, copied, as it was.
-/
import Derived.Test.YtogpgldbbegniaaGreatT0
import Derived.Test.YtogpgldbbegniaaGreatT30
import Derived.Laws.Bits64
import Derived.Test.YtogpgldbbegniaaGreatApart
import Derived.Laws.MakeOwn
import Derived.Laws.AppendOwnNone
import Derived.Laws.OwnMore
import Derived.OwnWalk
import Derived.Maps.AppendAt
import Derived.Deep.AppendLies
import Derived.Maps.RangeWalk
namespace Go.Proofs.YtogpgldbbegniaaGreat

/-- What stands at i and at r, exchanged. -/
def swp (l : List Int) (i r : Nat) : List Int := (l.set i (l.getD r 0)).set r (l.getD i 0)
theorem swp_len (l : List Int) (i r : Nat) : (swp l i r).length = l.length := by simp [swp]
theorem getD_at (l : List Int) (i : Nat) (h : i < l.length) : l.getD i 0 = l[i] := by simp [List.getD, h]
theorem swp_perm (l : List Int) (i r : Nat) (hi : i < l.length) (hr : r < l.length) : (swp l i r).Perm l := by
  unfold swp
  rw [getD_at l i hi, getD_at l r hr]
  exact List.set_set_perm hi hr
theorem swp_map (f : Int → Int) (l : List Int) (i r : Nat) (hi : i < l.length) (hr : r < l.length) : swp (l.map f) i r = (swp l i r).map f := by
  unfold swp
  rw [getD_at l i hi, getD_at l r hr, getD_at (l.map f) i (by simpa using hi), getD_at (l.map f) r (by simpa using hr)]
  simp [List.map_set]
/-- A generator: its number of a state, and its state then. -/
structure Gen where
  num : Int → Nat
  nxt : Int → Int
/-- From place i down to 1. -/
def shuf (g : Gen) : Nat → List Int → Int → List Int × Int
  | 0, l, s => (l, s)
  | i + 1, l, s => shuf g i (swp l (i + 1) (g.num s % (i + 2))) (g.nxt s)
theorem shuf_len (g : Gen) : ∀ (i : Nat) (l : List Int) (s : Int), (shuf g i l s).1.length = l.length
  | 0, _, _ => rfl
  | i + 1, l, s => by rw [shuf, shuf_len g i, swp_len]
theorem shuf_perm (g : Gen) : ∀ (i : Nat) (l : List Int) (s : Int), i < l.length → (shuf g i l s).1.Perm l
  | 0, l, _, _ => List.Perm.refl l
  | i + 1, l, s, h => by
    rw [shuf]
    have hr : g.num s % (i + 2) < l.length := Nat.lt_of_lt_of_le (Nat.mod_lt _ (by omega)) (by omega)
    exact (shuf_perm g i _ _ (by rw [swp_len]; omega)).trans (swp_perm l _ _ h hr)
theorem shuf_map (g : Gen) (f : Int → Int) : ∀ (i : Nat) (l : List Int) (s : Int), i < l.length → shuf g i (l.map f) s = ((shuf g i l s).1.map f, (shuf g i l s).2)
  | 0, _, _, _ => rfl
  | i + 1, l, s, h => by
    have hr : g.num s % (i + 2) < l.length := Nat.lt_of_lt_of_le (Nat.mod_lt _ (by omega)) (by omega)
    rw [shuf, shuf, swp_map f l _ _ h hr, shuf_map g f i _ _ (by rw [swp_len]; omega)]
/-- The state hangs on the length and the state alone. -/
theorem shuf_state (g : Gen) : ∀ (i : Nat) (l m : List Int) (s : Int), (shuf g i l s).2 = (shuf g i m s).2
  | 0, _, _, _ => rfl
  | i + 1, l, m, s => by rw [shuf, shuf]; exact shuf_state g i _ _ _
/-- 0, 1, .., n - 1. -/
def places (n : Nat) : List Int := (List.range n).map fun (i : Nat) => (i : Int)
theorem places_len (n : Nat) : (places n).length = n := by simp [places]
theorem places_succ (n : Nat) : places n ++ [(n : Int)] = places (n + 1) := by simp [places, List.range_succ]
theorem places_map (l : List Int) : (places l.length).map (fun p => l.getD p.toNat 0) = l := by
  apply List.ext_getElem (by simp [places])
  intro i h1 h2
  simp [places, h2]
/-- The places go the same ways, whatever stands there. -/
theorem shuf_places (g : Gen) (i : Nat) (l : List Int) (s : Int) (h : i < l.length) : (shuf g i l s).1 = (shuf g i (places l.length) s).1.map fun p => l.getD p.toNat 0 := by
  have := shuf_map g (fun p => l.getD p.toNat 0) i (places l.length) s (by rw [places_len]; exact h)
  rw [places_map] at this
  rw [this]
theorem places_mem {n : Nat} {x : Int} (h : x ∈ places n) : 0 ≤ x ∧ x < n := by
  obtain ⟨i, hi, rfl⟩ := List.mem_map.1 h
  have := List.mem_range.1 hi
  omega
/-- Hand h: what stands at h, h + hands, h + 2 hands, .. -/
def dealH (l : List Int) (hands each h : Nat) : List Int := (List.range each).map fun k => l.getD (h + k * hands) 0
def dealAll (l : List Int) (hands each : Nat) : List (List Int) := (List.range hands).map (dealH l hands each)
theorem dealH_len (l : List Int) (hands each h : Nat) : (dealH l hands each h).length = each := by simp [dealH]
theorem dealH_succ (l : List Int) (hands each h : Nat) : dealH l hands each h ++ [l.getD (h + each * hands) 0] = dealH l hands (each + 1) h := by simp [dealH, List.range_succ]
theorem flat_snoc {α : Type} (f : Nat → List α) (g : Nat → α) : ∀ L : List Nat, (L.map fun h => f h ++ [g h]).flatten.Perm ((L.map f).flatten ++ L.map g)
  | [] => List.Perm.refl _
  | a :: L => by
    simp only [List.map_cons, List.flatten_cons]
    have ih := flat_snoc f g L
    rw [List.append_assoc, List.append_assoc]
    refine List.Perm.append_left _ ?_
    exact (List.Perm.append_left _ ih).trans (by
      rw [← List.append_assoc]
      exact (List.Perm.append_right _ List.perm_append_comm).trans (by rw [List.append_assoc]; exact List.Perm.refl _))
theorem row_take (l : List Int) (a n : Nat) (h : a + n ≤ l.length) : ((List.range n).map fun i => l.getD (i + a) 0) = (l.drop a).take n := by
  apply List.ext_getElem
  · simp; omega
  · intro i h1 h2
    simp at h1 h2
    have hh : a + i < l.length := by omega
    simp [List.getD, Nat.add_comm, hh]
theorem dealt_perm (l : List Int) (hands : Nat) : ∀ each, hands * each ≤ l.length → (dealAll l hands each).flatten.Perm (l.take (hands * each))
  | 0, _ => by simp [dealAll, dealH]
  | each + 1, h => by
    have e : dealAll l hands (each + 1) = (List.range hands).map fun h => dealH l hands each h ++ [l.getD (h + each * hands) 0] := by
      unfold dealAll
      apply List.map_congr_left
      intro a _
      rw [dealH_succ]
    have h' : hands * each + hands ≤ l.length := by rw [Nat.mul_succ] at h; exact h
    rw [e]
    refine (flat_snoc _ _ _).trans ?_
    rw [row_take l (each * hands) hands (by rw [Nat.mul_comm each]; exact h'), Nat.mul_succ, List.take_add, Nat.mul_comm each hands]
    exact List.Perm.append_right _ (dealt_perm l hands each (by omega))
/-- The hands and the rest have just the list's numbers. -/
theorem deal_perm (l : List Int) (hands each : Nat) (h : hands * each ≤ l.length) : (l.drop (hands * each) ++ (dealAll l hands each).flatten).Perm l := by
  refine (List.Perm.append_left _ (dealt_perm l hands each h)).trans (List.perm_append_comm.trans ?_)
  rw [List.take_append_drop]
/-- Without the first x. -/
theorem erase_count (l : List Int) (x : Int) (h : x ∈ l) : (l.erase x).length = l.length - 1 ∧ (l.erase x).count x = l.count x - 1 := ⟨List.length_erase_of_mem h, List.count_erase_self⟩
theorem erase_at (l : List Int) (x : Int) (i : Nat) (hi : i < l.length) (hx : l[i] = x) (hn : ∀ j (_ : j < i), l[j]'(by omega) ≠ x) : l.erase x = l.take i ++ l.drop (i + 1) := by
  induction l generalizing i with
  | nil => simp at hi
  | cons a l ih =>
    rcases i with _ | i
    · simp at hx; subst hx; simp
    · have ha : a ≠ x := by simpa using hn 0 (by omega)
      have := ih i (by simpa using hi) (by simpa using hx) (fun j hj => by simpa using hn (j + 1) (by omega))
      rw [List.erase_cons_tail (by simpa using ha), this]
      simp
end Go.Proofs.YtogpgldbbegniaaGreat
namespace Go.Proofs.YtogpgldbbegniaaGreat
open Go.RowKit

def stp (s : Int) : Int := IntKind.u64.wrap (s + 11400714819323198485)
def mxA (z : Int) : Int := IntKind.u64.wrap (bits .xor .u64 z (z / 1073741824) * 13787848793156543929)
def mxB (z : Int) : Int := IntKind.u64.wrap (bits .xor .u64 z (z / 134217728) * 10723151780598845931)
def nx (s : Int) : Int := bits .xor .u64 (mxB (mxA (stp s))) (mxB (mxA (stp s)) / 2147483648)
def isU (z : Int) : Prop := 0 ≤ z ∧ z < 18446744073709551616
theorem wrap_isU (z : Int) : isU (IntKind.u64.wrap z) := by unfold isU; rw [IntKind.wrap_u64]; omega
theorem stp_isU (s : Int) : isU (stp s) := wrap_isU _
theorem bits_isU (a b : Int) : isU (bits .xor .u64 a b) := wrap_isU _
theorem nx_isU (s : Int) : isU (nx s) := bits_isU _ _
/-- The document's generator. -/
def gen : Gen := ⟨fun s => (nx s).toNat, stp⟩
end Go.Proofs.YtogpgldbbegniaaGreat
namespace Go.Proofs.YtogpgldbbegniaaGreat
open Go.RowKit

def IntsIn (w : World) (v : Value) (os : List Int) : Prop := ∃ a k, v = .slice a os.length k ∧ (0 < os.length → ∃ g o, a = some ⟨g, o, none⟩ ∧ ∀ (j : Nat) x, os[j]? = some x → w.cell? ⟨g, o + j, none⟩ = some (.int .i64 x))
end Go.Proofs.YtogpgldbbegniaaGreat
namespace Go.Proofs.YtogpgldbbegniaaGreat
open Go.RowKit

/-- Numbers that were handed in. -/
def IntsA (w : World) (v : Value) (os : List Int) : Prop := (v = .slice none 0 0 ∧ os = []) ∨ ∃ ad cap, v = .slice (some ad) os.length cap ∧ ∀ (j : Nat) u, (ints os)[j]? = some u → w.cell? (Addr.add ad j) = some u
theorem IntsA.keep {w w' : World} {v : Value} {os : List Int} (h : IntsA w v os) (g : w.grownBy w' none) : IntsA w' v os := by
  rcases h with h | ⟨ad, cap, e, h⟩
  · exact Or.inl h
  · exact Or.inr ⟨ad, cap, e, fun j u hu => g.cell (h j u hu) (by simp)⟩
theorem IntsA.in {w : World} {v : Value} {os : List Int} (h : IntsA w v os) : IntsIn w v os := by
  rcases h with ⟨rfl, rfl⟩ | ⟨ad, cap, rfl, h⟩
  · exact ⟨none, 0, rfl, fun h => absurd h (by decide)⟩
  · refine ⟨some ad, cap, rfl, fun h0 => ?_⟩
    have c0 := h 0 _ (ints_at os 0 h0)
    have ex : Addr.add ad 0 = ad := by simp [Addr.add]
    rw [ex] at c0
    have pl := addr_plain c0
    refine ⟨ad.block, ad.off, by rw [← pl], fun j x hx => ?_⟩
    have hj := (List.getElem?_eq_some_iff.1 hx).1
    have h9 := h j (.int .i64 x) (by unfold ints; rw [List.getElem?_map, hx]; rfl)
    rw [pl, add_plain] at h9
    exact h9
theorem ints_one (l : List Int) : ∀ u ∈ ints l, u.oneCell' = true := fun u hu => by
  obtain ⟨z, _, rfl⟩ := List.mem_map.1 hu
  rfl
theorem ints_app (a b : List Int) : ints (a ++ b) = ints a ++ ints b := by simp [ints]
theorem m77 {w : World} {g : Nat} (h : w.heap[g]? = some (.cells #[.int .i64 (-77), .int .i64 (-77)] 3 (0, 0))) : ∀ j u, (ints [-77, -77])[j]? = some u → w.cell? ((⟨g, 0, none⟩ : Addr).add j) = some u := fun j u hu => by
  rw [add_plain, Nat.zero_add, block_cell h]
  simpa [ints] using hu
theorem own_two {w : World} {base : Nat} {v : Value} {n : Nat} {xs : List Value} (h : w.ownsRow base 3 1 v (n + 2) xs) : ∃ g c, v = .slice (some ⟨g, 0, none⟩) (n + 2) c := by
  rcases h.2 with ⟨_, h0⟩ | ⟨g, cap, _, rfl, _⟩
  · omega
  · exact ⟨g, cap, rfl⟩
theorem Tryz.info3i : (Tryz.prog.info? 3).map (fun i => (i.zero, i.size, i.bytes)) = some (some (.int .i64 0), 1, 8) := by kernel_rfl
set_option maxRecDepth 100000 in
set_option maxHeartbeats 2000000 in
theorem lentI_any (v : Value) (os : List Int) (w : World) (h : IntsA w v os) (hb : (os.length + 2) * 8 ≤ 140737488355328) : Calls Tryz.prog 7 #[v] w fun e w' => e = .returned (.slice (some ⟨w.heap.size, 0, none⟩) (os.length + 2) (os.length + 2)) ∧ w'.ownsRow w.heap.size 3 1 (.slice (some ⟨w.heap.size, 0, none⟩) (os.length + 2) (os.length + 2)) (os.length + 2) (ints (os ++ [-77, -77])) ∧ w.grownBy w' none := by
  obtain ⟨i0, hi, hz0, hz1, hz2⟩ := info_parts Tryz.info3i
  have hw : wrap64 ((os.length : Int) + 2) = (os.length : Int) + 2 := by unfold wrap64; omega
  have hC : Hid (((os.length : Int) + 2) = ((os.length + 2 : Nat) : Int)) := by unfold Hid; omega
  have hB : Hid (i0.bytes * (os.length + 2) ≤ 281474976710656) := by unfold Hid; rw [hz2]; omega
  have hM : Hid (os.length + 2 ≤ maxLen) := by unfold Hid maxLen; omega
  rcases h with ⟨rfl, rfl⟩ | ⟨ad, cap, rfl, h⟩
  · go_enter Tryz.func7, Tryz.ntmps7
    go_wp2_with (first | (at_make; refine wpList_make_own _ rfl _ _ 22 rfl w.heap.size 3 i0 _ 1 Tryz.underlying22 hi hz0 hz1 .i64 .i64 _ 2 rfl rfl rfl (by rw [hz2]; decide) (by decide) (Nat.le_refl _) ?_; intro w1 o1 g1) | (at_builtin; refine wpList_append_own_none rfl (.tmp 8) (.tmp 9) 22 rfl w.heap.size 3 i0 1 Tryz.underlying22 hi _ 0 [] rfl o1 rfl ?_) | (at_builtin; refine wpList_append_fits _ rfl (.tmp 11) (.tmp 12) 22 rfl w.heap.size 3 i0 1 Tryz.underlying22 hi hz1 w.heap.size 0 2 [] rfl (o1.alloc _) ⟨w1.heap.size, 0, none⟩ 2 2 (ints [-77, -77]) rfl rfl (m77 (alloc_at _ _ _)) (ints_one _) (by decide) ?_; intro w3 o3 g3) | fail)
    go_ret
    have G : w.grownBy w3 none := grown_own (grown_push g1 _) g3 (fun x e => by cases e; exact Nat.le_refl _)
    exact ⟨rfl, o3, G⟩
  · have HS : Hid (∀ j u, (ints os)[j]? = some u → w.cell? (ad.add j) = some u) := h
    clear h
    go_enter Tryz.func7, Tryz.ntmps7
    go_wp2_with (first | (at_make; refine wpList_make_own _ rfl _ _ 22 rfl w.heap.size 3 i0 _ 1 Tryz.underlying22 hi hz0 hz1 .i64 .i64 _ (os.length + 2) rfl rfl hC.out hB.out hM.out (Nat.le_refl _) ?_; intro w1 o1 g1) | (at_builtin; refine wpList_append_fits _ rfl (.tmp 8) (.tmp 9) 22 rfl w.heap.size 3 i0 1 Tryz.underlying22 hi hz1 w.heap.size 0 (os.length + 2) [] rfl o1 ad os.length cap (ints os) rfl (by rw [length_ints, Nat.mul_one]) (fun j u hu => g1.cell (HS.out j u hu) (by simp)) (ints_one os) (by omega) ?_; intro w2 o2 g2; rw [Nat.zero_add, List.nil_append] at o2) | (at_builtin; refine wpList_append_fits _ rfl (.tmp 11) (.tmp 12) 22 rfl w.heap.size 3 i0 1 Tryz.underlying22 hi hz1 w.heap.size os.length (os.length + 2) (ints os) rfl (o2.alloc _) ⟨w2.heap.size, 0, none⟩ 2 2 (ints [-77, -77]) rfl rfl (m77 (alloc_at _ _ _)) (ints_one _) (by omega) ?_; intro w3 o3 g3) | fail)
    go_ret
    have G : w.grownBy w3 none := grown_own (grown_push (grown_own g1 g2 (fun x e => by cases e; exact Nat.le_refl _)) _) g3 (fun x e => by cases e; exact Nat.le_refl _)
    rw [ints_app]
    exact ⟨rfl, o3, G⟩
set_option maxRecDepth 100000 in
set_option maxHeartbeats 2000000 in
theorem copyI_any (v : Value) (os : List Int) (w : World) (h : IntsA w v os) (hb : (os.length + 2) * 8 ≤ 140737488355328) : Calls Tryz.prog 41 #[v] w fun e w' => ∃ u, e = .returned u ∧ w'.ownsRow w.heap.size 3 1 u os.length (ints os) ∧ w.grownBy w' none := by
  obtain ⟨i0, hi, hz0, hz1, hz2⟩ := info_parts Tryz.info3i
  rcases h with ⟨rfl, rfl⟩ | ⟨ad, cap, rfl, h⟩
  · go_enter Tryz.func41, Tryz.ntmps41
    go_wp2_with (first | (at_builtin; refine wpList_append_own_none rfl (.tmp 4) (.tmp 5) 22 rfl w.heap.size 3 i0 1 Tryz.underlying22 hi _ 0 [] rfl (World.ownsRow_nil _ _ _ _) rfl ?_) | fail)
    go_ret
    exact ⟨_, rfl, World.ownsRow_nil _ _ _ _, grown_refl _ _⟩
  · have HS : Hid (∀ j u, (ints os)[j]? = some u → w.cell? (ad.add j) = some u) := h
    clear h
    go_enter Tryz.func41, Tryz.ntmps41
    go_wp2_with (first | (at_builtin; refine wpList_append_own _ rfl (.tmp 4) (.tmp 5) 22 rfl w.heap.size 3 i0 _ 1 8 Tryz.underlying22 hi hz0 hz1 hz2 rfl (by decide) (.slice none 0 0) 0 [] rfl (World.ownsRow_nil _ _ _ _) ad os.length cap (ints os) rfl (by rw [length_ints, Nat.mul_one]) HS.out (ints_one os) (by unfold maxLen; omega) (by omega) (Nat.le_refl _) ?_; intro v3 w3 o3 g3 _; rw [Nat.zero_add, List.nil_append] at o3) | fail)
    go_ret
    exact ⟨_, rfl, o3, grown_own (grown_refl _ _) g3 (fun x e => by cases e)⟩
set_option maxRecDepth 100000 in
set_option maxHeartbeats 2000000 in
theorem keptI_any (vf vl : Value) (base : Nat) (os : List Int) (w : World) (hf : L.Own w base vf (os ++ [-77, -77])) (hl : IntsA w vl os) (hb : (os.length + 2) * 8 ≤ 140737488355328) : Calls Tryz.prog 10 #[vf, vl] w fun e w' => e = .returned (.bool true) ∧ w.grownBy w' none := by
  obtain ⟨i0, hi, hz0, hz1, hz2⟩ := info_parts Tryz.info3i
  have HF : Hid (L.Own w base vf (os ++ [-77, -77])) := hf
  have C1 := copyI_any vl os w hl hb
  obtain ⟨fa, fc, rfl⟩ := hf.form
  obtain ⟨la, ln, lc, rfl⟩ : ∃ a n c, vl = .slice a n c := by
    rcases hl with ⟨rfl, _⟩ | ⟨ad, cap, rfl, _⟩
    · exact ⟨_, _, _, rfl⟩
    · exact ⟨_, _, _, rfl⟩
  clear hf hl
  go_enter Tryz.func10, Tryz.ntmps10
  go_wp2_with fail
  refine C1.mono ?_
  rintro e w1 ⟨u, rfl, o1, g1⟩
  obtain ⟨ua, uc, rfl⟩ : ∃ a c, u = .slice a os.length c := by
    rcases o1.2 with ⟨h, h0⟩ | ⟨g, cap, cur, h, _⟩
    · exact ⟨none, 0, by rw [h, h0]⟩
    · exact ⟨_, _, h⟩
  have hs1 : w.heap.size ≤ w1.heap.size := g1.size
  go_wp2_with (first | (at_builtin; refine wpList_append_own _ rfl (.tmp 7) (.tmp 8) 22 rfl w.heap.size 3 i0 _ 1 8 Tryz.underlying22 hi hz0 hz1 hz2 rfl (by decide) _ os.length (ints os) rfl (World.ownsRow.alloc o1 _) ⟨w1.heap.size, 0, none⟩ 2 2 (ints [-77, -77]) rfl rfl (m77 (alloc_at _ _ _)) (ints_one _) (by unfold maxLen; omega) (by omega) (by rw [World.size_alloc]; omega) ?_; intro v3 w3 o3 g3 _; obtain ⟨g', c3, rfl⟩ : ∃ g c, v3 = .slice (some ⟨g, 0, none⟩) (os.length + 2) c := own_two o3) | fail)
  have G3 : w.grownBy w3 none := grown_own (grown_push g1 _) g3 (fun x e => (World.ownsRow.lt o1 x e).1)
  have O3 : L.Own w3 w.heap.size (.slice (some ⟨g', 0, none⟩) (os.length + 2) c3) (os ++ [-77, -77]) := by
    unfold L.Own
    rw [List.length_append]
    rw [← ints_app] at o3
    exact o3
  have F3 : L.Own w3 base (.slice fa (os ++ [-77, -77]).length fc) (os ++ [-77, -77]) := World.ownsRow.kept HF.out G3 (by cases fa <;> simp [Value.ownBlock])
  have hln : (os ++ [-77, -77] : List Int).length = os.length + 2 := by simp
  rw [hln] at F3
  refine (L.same_ints _ _ _ _ _ F3.ints O3.ints).mono ?_
  rintro e w4 ⟨rfl, n4, h4⟩
  rw [decide_eq_true rfl]
  have G4 : w.grownBy w4 none := by rw [h4]; exact grown_trans G3 (grown_drewN _ _ _)
  clear o1 g1 o3 g3 G3 O3 F3 h4 C1
  go_wp2
  go_ret
  exact ⟨rfl, G4⟩
end Go.Proofs.YtogpgldbbegniaaGreat
