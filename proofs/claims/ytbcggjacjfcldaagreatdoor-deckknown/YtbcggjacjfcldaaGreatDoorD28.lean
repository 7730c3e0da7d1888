/-
  LentInts, CopyInts, KeptInts: a list of numbers lent, copied, as it was.
  The book of the document's examples; awake.
  awake: what the document's examples say.
  DeckNone, of every list and text.
-/
import Derived.Test.YtbcggjacjfcldaaGreatDoorD27
import Derived.Laws.MakeOwn
import Derived.Laws.AppendOwnNone
import Derived.OwnWalk
import Derived.Maps.AppendAt
import Derived.Test.YtbcggjacjfcldaaGreatDoorD25
namespace Go.Proofs.YtbcggjacjfcldaaGreatDoor
open Go.RowKit

/-- Numbers that were handed in. -/
def IntsA (w : World) (v : Value) (os : List Int) : Prop := (v = .slice none 0 0 ∧ os = []) ∨ ∃ ad cap, v = .slice (some ad) os.length cap ∧ ∀ (j : Nat) u, (ints os)[j]? = some u → w.cell? (Addr.add ad j) = some u
theorem IntsA.keep {w w' : World} {v : Value} {os : List Int} (h : IntsA w v os) (g : w.grownBy w' none) : IntsA w' v os := by
  rcases h with h | ⟨ad, cap, e, h⟩
  · exact Or.inl h
  · exact Or.inr ⟨ad, cap, e, fun j u hu => g.cell (h j u hu) (by simp)⟩
theorem IntsA.in {w : World} {v : Value} {os : List Int} (h : IntsA w v os) : IntsIn w v os := by
  rcases h with ⟨rfl, rfl⟩ | ⟨ad, cap, rfl, h⟩
  · exact ⟨none, 0, rfl, fun h => absurd h (by decide)⟩
  · refine ⟨some ad, cap, rfl, fun h0 => ?_⟩
    have c0 := h 0 _ (ints_at os 0 h0)
    have ex : Addr.add ad 0 = ad := by simp [Addr.add]
    rw [ex] at c0
    have pl := addr_plain c0
    refine ⟨ad.block, ad.off, by rw [← pl], fun j x hx => ?_⟩
    have hj := (List.getElem?_eq_some_iff.1 hx).1
    have h9 := h j (.int .i64 x) (by unfold ints; rw [List.getElem?_map, hx]; rfl)
    rw [pl, add_plain] at h9
    exact h9
theorem ints_one (l : List Int) : ∀ u ∈ ints l, u.oneCell' = true := fun u hu => by
  obtain ⟨z, _, rfl⟩ := List.mem_map.1 hu
  rfl
theorem ints_app (a b : List Int) : ints (a ++ b) = ints a ++ ints b := by simp [ints]
theorem m77 {w : World} {g : Nat} (h : w.heap[g]? = some (.cells #[.int .i64 (-77), .int .i64 (-77)] 3 (0, 0))) : ∀ j u, (ints [-77, -77])[j]? = some u → w.cell? ((⟨g, 0, none⟩ : Addr).add j) = some u := fun j u hu => by
  rw [add_plain, Nat.zero_add, block_cell h]
  simpa [ints] using hu
theorem own_two {w : World} {base : Nat} {v : Value} {n : Nat} {xs : List Value} (h : w.ownsRow base 3 1 v (n + 2) xs) : ∃ g c, v = .slice (some ⟨g, 0, none⟩) (n + 2) c := by
  rcases h.2 with ⟨_, h0⟩ | ⟨g, cap, _, rfl, _⟩
  · omega
  · exact ⟨g, cap, rfl⟩
theorem Tryz.info3i : (Tryz.prog.info? 3).map (fun i => (i.zero, i.size, i.bytes)) = some (some (.int .i64 0), 1, 8) := by kernel_rfl
set_option maxRecDepth 100000 in
set_option maxHeartbeats 2000000 in
theorem lentI_any (v : Value) (os : List Int) (w : World) (h : IntsA w v os) (hb : (os.length + 2) * 8 ≤ 140737488355328) : Calls Tryz.prog 9 #[v] w fun e w' => e = .returned (.slice (some ⟨w.heap.size, 0, none⟩) (os.length + 2) (os.length + 2)) ∧ w'.ownsRow w.heap.size 3 1 (.slice (some ⟨w.heap.size, 0, none⟩) (os.length + 2) (os.length + 2)) (os.length + 2) (ints (os ++ [-77, -77])) ∧ w.grownBy w' none := by
  obtain ⟨i0, hi, hz0, hz1, hz2⟩ := info_parts Tryz.info3i
  have hw : wrap64 ((os.length : Int) + 2) = (os.length : Int) + 2 := by unfold wrap64; omega
  have hC : Hid (((os.length : Int) + 2) = ((os.length + 2 : Nat) : Int)) := by unfold Hid; omega
  have hB : Hid (i0.bytes * (os.length + 2) ≤ 281474976710656) := by unfold Hid; rw [hz2]; omega
  have hM : Hid (os.length + 2 ≤ maxLen) := by unfold Hid maxLen; omega
  rcases h with ⟨rfl, rfl⟩ | ⟨ad, cap, rfl, h⟩
  · go_enter Tryz.func9, Tryz.ntmps9
    go_wp2_with (first | (at_make; refine wpList_make_own _ rfl _ _ 26 rfl w.heap.size 3 i0 _ 1 Tryz.underlying26 hi hz0 hz1 .i64 .i64 _ 2 rfl rfl rfl (by rw [hz2]; decide) (by decide) (Nat.le_refl _) ?_; intro w1 o1 g1) | (at_builtin; refine wpList_append_own_none rfl (.tmp 8) (.tmp 9) 26 rfl w.heap.size 3 i0 1 Tryz.underlying26 hi _ 0 [] rfl o1 rfl ?_) | (at_builtin; refine wpList_append_fits _ rfl (.tmp 11) (.tmp 12) 26 rfl w.heap.size 3 i0 1 Tryz.underlying26 hi hz1 w.heap.size 0 2 [] rfl (o1.alloc _) ⟨w1.heap.size, 0, none⟩ 2 2 (ints [-77, -77]) rfl rfl (m77 (alloc_at _ _ _)) (ints_one _) (by decide) ?_; intro w3 o3 g3) | fail)
    go_ret
    have G : w.grownBy w3 none := grown_own (grown_push g1 _) g3 (fun x e => by cases e; exact Nat.le_refl _)
    exact ⟨rfl, o3, G⟩
  · have HS : Hid (∀ j u, (ints os)[j]? = some u → w.cell? (ad.add j) = some u) := h
    clear h
    go_enter Tryz.func9, Tryz.ntmps9
    go_wp2_with (first | (at_make; refine wpList_make_own _ rfl _ _ 26 rfl w.heap.size 3 i0 _ 1 Tryz.underlying26 hi hz0 hz1 .i64 .i64 _ (os.length + 2) rfl rfl hC.out hB.out hM.out (Nat.le_refl _) ?_; intro w1 o1 g1) | (at_builtin; refine wpList_append_fits _ rfl (.tmp 8) (.tmp 9) 26 rfl w.heap.size 3 i0 1 Tryz.underlying26 hi hz1 w.heap.size 0 (os.length + 2) [] rfl o1 ad os.length cap (ints os) rfl (by rw [length_ints, Nat.mul_one]) (fun j u hu => g1.cell (HS.out j u hu) (by simp)) (ints_one os) (by omega) ?_; intro w2 o2 g2; rw [Nat.zero_add, List.nil_append] at o2) | (at_builtin; refine wpList_append_fits _ rfl (.tmp 11) (.tmp 12) 26 rfl w.heap.size 3 i0 1 Tryz.underlying26 hi hz1 w.heap.size os.length (os.length + 2) (ints os) rfl (o2.alloc _) ⟨w2.heap.size, 0, none⟩ 2 2 (ints [-77, -77]) rfl rfl (m77 (alloc_at _ _ _)) (ints_one _) (by omega) ?_; intro w3 o3 g3) | fail)
    go_ret
    have G : w.grownBy w3 none := grown_own (grown_push (grown_own g1 g2 (fun x e => by cases e; exact Nat.le_refl _)) _) g3 (fun x e => by cases e; exact Nat.le_refl _)
    rw [ints_app]
    exact ⟨rfl, o3, G⟩
set_option maxRecDepth 100000 in
set_option maxHeartbeats 2000000 in
theorem copyI_any (v : Value) (os : List Int) (w : World) (h : IntsA w v os) (hb : (os.length + 2) * 8 ≤ 140737488355328) : Calls Tryz.prog 48 #[v] w fun e w' => ∃ u, e = .returned u ∧ w'.ownsRow w.heap.size 3 1 u os.length (ints os) ∧ w.grownBy w' none := by
  obtain ⟨i0, hi, hz0, hz1, hz2⟩ := info_parts Tryz.info3i
  rcases h with ⟨rfl, rfl⟩ | ⟨ad, cap, rfl, h⟩
  · go_enter Tryz.func48, Tryz.ntmps48
    go_wp2_with (first | (at_builtin; refine wpList_append_own_none rfl (.tmp 4) (.tmp 5) 26 rfl w.heap.size 3 i0 1 Tryz.underlying26 hi _ 0 [] rfl (World.ownsRow_nil _ _ _ _) rfl ?_) | fail)
    go_ret
    exact ⟨_, rfl, World.ownsRow_nil _ _ _ _, grown_refl _ _⟩
  · have HS : Hid (∀ j u, (ints os)[j]? = some u → w.cell? (ad.add j) = some u) := h
    clear h
    go_enter Tryz.func48, Tryz.ntmps48
    go_wp2_with (first | (at_builtin; refine wpList_append_own _ rfl (.tmp 4) (.tmp 5) 26 rfl w.heap.size 3 i0 _ 1 8 Tryz.underlying26 hi hz0 hz1 hz2 rfl (by decide) (.slice none 0 0) 0 [] rfl (World.ownsRow_nil _ _ _ _) ad os.length cap (ints os) rfl (by rw [length_ints, Nat.mul_one]) HS.out (ints_one os) (by unfold maxLen; omega) (by omega) (Nat.le_refl _) ?_; intro v3 w3 o3 g3 _; rw [Nat.zero_add, List.nil_append] at o3) | fail)
    go_ret
    exact ⟨_, rfl, o3, grown_own (grown_refl _ _) g3 (fun x e => by cases e)⟩
set_option maxRecDepth 100000 in
set_option maxHeartbeats 2000000 in
theorem keptI_any (vf vl : Value) (base : Nat) (os : List Int) (w : World) (hf : L.Own w base vf (os ++ [-77, -77])) (hl : IntsA w vl os) (hb : (os.length + 2) * 8 ≤ 140737488355328) : Calls Tryz.prog 18 #[vf, vl] w fun e w' => e = .returned (.bool true) ∧ w.grownBy w' none := by
  obtain ⟨i0, hi, hz0, hz1, hz2⟩ := info_parts Tryz.info3i
  have HF : Hid (L.Own w base vf (os ++ [-77, -77])) := hf
  have C1 := copyI_any vl os w hl hb
  obtain ⟨fa, fc, rfl⟩ := hf.form
  obtain ⟨la, ln, lc, rfl⟩ : ∃ a n c, vl = .slice a n c := by
    rcases hl with ⟨rfl, _⟩ | ⟨ad, cap, rfl, _⟩
    · exact ⟨_, _, _, rfl⟩
    · exact ⟨_, _, _, rfl⟩
  clear hf hl
  go_enter Tryz.func18, Tryz.ntmps18
  go_wp2_with fail
  refine C1.mono ?_
  rintro e w1 ⟨u, rfl, o1, g1⟩
  obtain ⟨ua, uc, rfl⟩ : ∃ a c, u = .slice a os.length c := by
    rcases o1.2 with ⟨h, h0⟩ | ⟨g, cap, cur, h, _⟩
    · exact ⟨none, 0, by rw [h, h0]⟩
    · exact ⟨_, _, h⟩
  have hs1 : w.heap.size ≤ w1.heap.size := g1.size
  go_wp2_with (first | (at_builtin; refine wpList_append_own _ rfl (.tmp 7) (.tmp 8) 26 rfl w.heap.size 3 i0 _ 1 8 Tryz.underlying26 hi hz0 hz1 hz2 rfl (by decide) _ os.length (ints os) rfl (World.ownsRow.alloc o1 _) ⟨w1.heap.size, 0, none⟩ 2 2 (ints [-77, -77]) rfl rfl (m77 (alloc_at _ _ _)) (ints_one _) (by unfold maxLen; omega) (by omega) (by rw [World.size_alloc]; omega) ?_; intro v3 w3 o3 g3 _; obtain ⟨g', c3, rfl⟩ : ∃ g c, v3 = .slice (some ⟨g, 0, none⟩) (os.length + 2) c := own_two o3) | fail)
  have G3 : w.grownBy w3 none := grown_own (grown_push g1 _) g3 (fun x e => (World.ownsRow.lt o1 x e).1)
  have O3 : L.Own w3 w.heap.size (.slice (some ⟨g', 0, none⟩) (os.length + 2) c3) (os ++ [-77, -77]) := by
    unfold L.Own
    rw [List.length_append]
    rw [← ints_app] at o3
    exact o3
  have F3 : L.Own w3 base (.slice fa (os ++ [-77, -77]).length fc) (os ++ [-77, -77]) := World.ownsRow.kept HF.out G3 (by cases fa <;> simp [Value.ownBlock])
  have hln : (os ++ [-77, -77] : List Int).length = os.length + 2 := by simp
  rw [hln] at F3
  refine (L.same_ints _ _ _ _ _ F3.ints O3.ints).mono ?_
  rintro e w4 ⟨rfl, n4, h4⟩
  rw [decide_eq_true rfl]
  have G4 : w.grownBy w4 none := by rw [h4]; exact grown_trans G3 (grown_drewN _ _ _)
  clear o1 g1 o3 g3 G3 O3 F3 h4 C1
  go_wp2
  go_ret
  exact ⟨rfl, G4⟩
end Go.Proofs.YtbcggjacjfcldaaGreatDoor
namespace Go.Proofs.YtbcggjacjfcldaaGreatDoor
open Go.RowKit

/-- The examples' book. -/
def exES (u v : Value) : List Ent := [⟨axeH, u, []⟩, ⟨rockH, v, []⟩]
def exN : List ByteArray := [⟨#[97, 120, 101]⟩, ⟨#[114, 111, 99, 107]⟩]
theorem dx_rock : caE plNew [] (rockH.with []) = 0 := by decide +kernel
theorem dx_axe (v : Value) : caE plNew [⟨rockH, v, []⟩] (axeH.with []) = 0 := by
  show (if plNew.shut = true then (7 : Int) else if ¬ cchk (axeH.with []) = 0 then cchk (axeH.with []) else if 0 ≤ pos [rockH.nm] axeH.nm then 5 else if (1 : Nat) = 64 then 14 else 0) = 0
  decide +kernel
theorem dx_ins (u v : Value) : ins [⟨rockH, v, []⟩] ⟨axeH, u, []⟩ = exES u v := by
  rw [ins_cons, if_neg (by show ¬ ord rockH axeH < 0; decide +kernel)]
  rfl
theorem dx_seal (u v : Value) : sealE plNew (exES u v) = 0 := by
  unfold sealE
  rw [if_neg (by decide)]
  simp [exES, sealL, callsE]
theorem dx_shut (u v : Value) : sealP plNew (exES u v) = plShut := if_pos (dx_seal u v)
theorem dx_names (u v : Value) : names (exES u v) = exN := rfl
theorem dx_tk (u v : Value) : tkOf (exES u v) = fun _ => false := by
  funext c
  unfold tkOf exES
  rcases h : (c - 1).toNat with _ | _ | k <;> simp [axeH, rockH]
theorem dx_ck (u v : Value) (l : List Int) : ckF plShut (exES u v) l = dchk 2 (fun _ => false) l := by
  unfold ckF
  rw [if_pos (show plShut.shut = true from rfl), dx_tk]
  rfl
theorem dx_prF (u v : Value) (l : List Int) : prF plShut (exES u v) l = pchk 2 l := if_pos rfl
theorem dx_prX (u v : Value) (l : List Int) : prX plShut (exES u v) l = ptxt exN l := if_pos rfl
theorem dx_pa (u v : Value) (s : List UInt8) : paD plShut (exES u v) s = dpar exN (s.length + 1) s 0 0 [] := if_pos rfl
def exOk (b : Nat) (k : Nat) : Prop := b < k
set_option maxRecDepth 100000 in
set_option maxHeartbeats 2000000 in
theorem example_any (w : World) : Calls Tryz.prog 25 #[] w fun e w' => ∃ u v, e = .returned (.pointer (some ⟨w.heap.size, 0, none⟩)) ∧ Book (exOk w.heap.size) w' w.heap.size (exES u v) plShut ∧ w.grownBy w' none := by
  have HN := bnew (exOk w.heap.size) w
  obtain ⟨b, hb⟩ : ∃ b, b = w.heap.size := ⟨_, rfl⟩
  have HBb : Hid (b = w.heap.size) := hb
  rw [← hb] at HN ⊢
  clear hb
  go_enter Tryz.func25, Tryz.ntmps25
  go_wp2_with fail
  refine HN.mono ?_
  rintro e w1 ⟨rfl, B1, g1, hz1⟩
  have HG1 : Hid (w.grownBy w1 none) := g1
  have HC1 := bcard (exOk b) b [] plNew rockH (.slice none 0 0) [] w1 B1 (Nat.lt_irrefl _) (fun k hk => by show b < k; have h1 := HBb.out; rw [hz1] at hk; omega) (Or.inl ⟨rfl, rfl⟩) (by unfold Small; simp)
  rw [dx_rock] at HC1
  unfold cv rockH at HC1
  clear HN B1 g1
  go_wp2_with fail
  refine HC1.mono ?_
  rintro e w2 ⟨v, rfl, B2, g2⟩
  have HG2 : Hid (w.grownBy w2 none) := grown_own HG1.out g2 (fun x e => by cases e; rw [HBb.out]; exact Nat.le_refl _)
  have B2' : Book (exOk b) w2 b [⟨rockH, v, []⟩] plNew := B2
  have HC2 := bcard (exOk b) b _ plNew axeH (.slice none 0 0) [] w2 B2' (Nat.lt_irrefl _) (fun k hk => by show b < k; have := B2'.lt; omega) (Or.inl ⟨rfl, rfl⟩) (by unfold Small; simp)
  rw [dx_axe] at HC2
  unfold cv axeH at HC2
  clear HC1 B2 B2' g2 HG1 hz1
  go_wp2_with fail
  refine HC2.mono ?_
  rintro e w3 ⟨u, rfl, B3, g3⟩
  have HG3 : Hid (w.grownBy w3 none) := grown_own HG2.out g3 (fun x e => by cases e; rw [HBb.out]; exact Nat.le_refl _)
  have B3' : Book (exOk b) w3 b (exES u v) plNew := by rw [← dx_ins]; exact B3
  have HS := bseal (exOk b) b _ plNew w3 B3' (Nat.lt_irrefl _)
  rw [dx_seal, dx_shut] at HS
  clear HC2 B3 B3' g3 HG2
  go_wp2_with fail
  refine HS.mono ?_
  rintro e w4 ⟨rfl, B4, g4⟩
  have HF : Hid (Book (exOk b) w4 b (exES u v) plShut ∧ w.grownBy w4 none) := ⟨B4, grown_own HG3.out g4 (fun x e => by cases e; rw [HBb.out]; exact Nat.le_refl _)⟩
  clear HS B4 g4
  go_wp2_with fail
  go_ret
  exact ⟨u, v, rfl, HF.out⟩
/-- A list that the call itself has written down. -/
theorem lit_rd {w : World} {g : Nat} {l : List Int} {n : Nat} (h : w.heap[g]? = some (.cells (ints l).toArray 3 (0, 0))) (hn : n = l.length) : Rd w (some ⟨g, 0, none⟩) n l := ⟨hn, fun _ => ⟨g, 0, rfl, fun j hj => by
  rw [Nat.zero_add, block_cell h j]
  simp [ints, List.getD, show j < l.length by omega]⟩⟩
theorem rd_at {w : World} {a : Option Addr} {n c : Nat} {l : List Int} (h : Rd w a n l) (hm : l.length ≤ maxLen) : L.IntsAt w (.slice a n c) l := ⟨a, c, by rw [h.1], hm, fun h0 => by
  obtain ⟨g, o, e, hc⟩ := h.2 (by rw [h.1]; exact h0)
  exact ⟨g, o, e, fun j hj => hc j (by rw [h.1]; exact hj)⟩⟩
theorem own_rd {w : World} {base n : Nat} {v : Value} {l : List Int} (h : w.ownsRow base 3 1 v n (ints l)) : ∃ a c, v = .slice a n c ∧ Rd w a n l ∧ l.length ≤ maxLen ∧ n ≤ c := by
  have hl := h.1
  rw [length_ints, Nat.mul_one] at hl
  rcases h.2 with ⟨h', h0⟩ | ⟨g, cap, cur, h', hb, hh, hn, hm, hs, ht⟩
  · subst h'
    obtain rfl : n = 0 := by simpa using h0
    exact ⟨none, 0, rfl, ⟨hl.symm, fun q => by omega⟩, by rw [hl]; exact Nat.zero_le _, Nat.le_refl _⟩
  · refine ⟨some ⟨g, 0, none⟩, cap, h', ⟨hl.symm, fun _ => ⟨g, 0, rfl, fun j hj => ?_⟩⟩, by rw [hl]; omega, hn⟩
    have hj2 : j < l.length := by omega
    have e : (ints l)[j]? = some (.int .i64 (l.getD j 0)) := by simp [ints, List.getD, hj2]
    have hc : cur.toList[j]? = some (.int .i64 (l.getD j 0)) := by
      rw [← e, ← ht, List.getElem?_take_of_lt (by rw [Nat.mul_one]; exact hj)]
    rw [Nat.zero_add, block_cell hh j, ← hc]
    simp
end Go.Proofs.YtbcggjacjfcldaaGreatDoor
namespace Go.Proofs.YtbcggjacjfcldaaGreatDoor
open Go.RowKit

def exT : List UInt8 := [50, 32, 97, 120, 101, 10, 49, 32, 114, 111, 99, 107, 10, 49, 32, 97, 120, 101, 10]
theorem aw1 : ptxt exN [1, 1, 2, 1] = exT := by decide +kernel
theorem aw2 : pchk 2 [1, 1, 2, 1] = (0, 0) := by decide +kernel
theorem aw3 : dpar exN 20 exT 0 0 [] = .inr [1, 1, 2, 1] := by decide +kernel
theorem aw4 : dchk 2 (fun _ => false) [1, 1, 1, 1, 2, 2, 2, 2, 2, 2, 2, 2] = (9, 3) := by decide +kernel
theorem aw5 : ([1, 1, 1, 1, 2, 2, 2, 2, 2, 2, 2, 2] : List Int).count 2 = 8 := by decide +kernel
set_option maxRecDepth 100000 in
set_option maxHeartbeats 4000000 in
theorem awake_any (w : World) (LB : LibAt w) : Calls Tryz.prog 22 #[] w fun e w' => e = .returned (.bool true) ∧ w.grownBy w' none := by
  have HE := example_any w
  have HLb : Hid (LibAt w) := LB
  obtain ⟨b, hb⟩ : ∃ b, b = w.heap.size := ⟨_, rfl⟩
  rw [← hb] at HE
  have HBb : Hid (b = w.heap.size) := hb
  clear hb LB
  go_enter Tryz.func22, Tryz.ntmps22
  go_wp2_with fail
  refine HE.mono ?_
  rintro e w1 ⟨u, v, rfl, B1, g1⟩
  obtain ⟨W2, hW2⟩ : ∃ W2, W2 = w1.alloc (.cells #[.int .i64 1, .int .i64 1, .int .i64 2, .int .i64 1] 3) := ⟨_, rfl⟩
  have HG2 : Hid (w.grownBy W2 none) := by rw [hW2]; exact grown_push g1 _
  have HB2 : Hid (Book (exOk b) W2 b (exES u v) plShut) := by rw [hW2]; exact B1.keep (World.grownBy_alloc _ _ none)
  have HA2 : Hid (Rd W2 (some ⟨w1.heap.size, 0, none⟩) 4 [1, 1, 2, 1]) := by rw [hW2]; exact lit_rd (alloc_at w1 _ _) rfl
  have HP := pprint_any (exOk b) b (exES u v) plShut (some ⟨w1.heap.size, 0, none⟩) 4 4 [1, 1, 2, 1] W2 HB2.out (Nat.le_refl _) HA2.out (HLb.out.keep HG2.out)
  rw [dx_prF, dx_prX, aw1, aw2] at HP
  unfold fv2 exT at HP
  clear HE B1 g1 HA2
  go_wp2_with fail
  rw [← hW2]
  clear hW2
  refine HP.mono ?_
  rintro e w3 ⟨rfl, g3⟩
  obtain ⟨W4, hW4⟩ : ∃ W4, W4 = w3.alloc (.cells #[.int .i64 0, .int .i64 0] 34) := ⟨_, rfl⟩
  have HG4 : Hid (w.grownBy W4 none) := by rw [hW4]; exact grown_push (grown_trans HG2.out g3) _
  have HB4 : Hid (Book (exOk b) W4 b (exES u v) plShut) := by rw [hW4]; exact (HB2.out.keep g3).keep (World.grownBy_alloc _ _ none)
  have HF4 : Hid (FAt W4 w3.heap.size 0 0) := by rw [hW4]; exact alloc_at w3 _ _
  have HQ := pparse_any (exOk b) b (exES u v) plShut ⟨exT.toArray⟩ W4 HB4.out (by decide) (HLb.out.keep HG4.out)
  rw [dx_pa, show ((⟨exT.toArray⟩ : ByteArray).data.toList.length + 1) = 20 from rfl, show (⟨exT.toArray⟩ : ByteArray).data.toList = exT from rfl, aw3] at HQ
  unfold exT at HQ
  clear HP g3 HB2 HG2
  go_upto_region 3 with fail
  rw [← hW4]
  clear hW4
  obtain ⟨b4, hb4⟩ : ∃ b4, b4 = w3.heap.size := ⟨_, rfl⟩
  rw [← hb4] at HF4 ⊢
  clear hb4
  go_wp2_with fail
  refine HQ.mono ?_
  intro e w5 Q5
  obtain ⟨g5, Q5⟩ := Q5
  rcases Q5 with ⟨f, h, _⟩ | ⟨l, vv, hl, rfl, o5⟩
  · cases h
  injection hl with hl
  subst hl
  obtain ⟨a5, c5, rfl, R5, _, _⟩ := own_rd o5
  unfold fv2
  obtain ⟨W6, hW6⟩ : ∃ W6, W6 = (w5.alloc (.cells #[.int .i64 0, .int .i64 0] 34)).alloc (.cells #[.int .i64 1, .int .i64 1, .int .i64 1, .int .i64 1, .int .i64 2, .int .i64 2, .int .i64 2, .int .i64 2, .int .i64 2, .int .i64 2, .int .i64 2, .int .i64 2] 3) := ⟨_, rfl⟩
  have HG56 : Hid (w5.grownBy W6 none) := by rw [hW6]; exact grown_push (World.grownBy_alloc _ _ none) _
  have HF6 : Hid (FAt W6 b4 0 0 ∧ FAt W6 w5.heap.size 0 0) := ⟨(HF4.out.keep g5).keep HG56.out, by rw [hW6]; exact FAt.keep (alloc_at w5 _ _) (World.grownBy_alloc _ _ none)⟩
  have HG6 : Hid (w.grownBy W6 none) := grown_trans (grown_trans HG4.out g5) HG56.out
  have HB6 : Hid (Book (exOk b) W6 b (exES u v) plShut) := (HB4.out.keep g5).keep HG56.out
  have HR6 : Hid (Rd W6 a5 4 [1, 1, 2, 1]) := R5.keep HG56.out
  have HT6 : Hid (Rd W6 (some ⟨w5.heap.size + 1, 0, none⟩) 12 [1, 1, 1, 1, 2, 2, 2, 2, 2, 2, 2, 2]) := by
    have := alloc_at (w5.alloc (.cells #[.int .i64 0, .int .i64 0] 34)) #[.int .i64 1, .int .i64 1, .int .i64 1, .int .i64 1, .int .i64 2, .int .i64 2, .int .i64 2, .int .i64 2, .int .i64 2, .int .i64 2, .int .i64 2, .int .i64 2] 3
    rw [World.size_alloc] at this
    rw [hW6]
    exact lit_rd this rfl
  clear HQ g5 o5 R5 HB4 HG4 HF4 HG56
  go_upto_region 5 with fail
  rw [← hW6]
  clear hW6
  obtain ⟨b6, hb6⟩ : ∃ b6, b6 = w5.heap.size := ⟨_, rfl⟩
  rw [← hb6] at HF6 HT6 ⊢
  clear hb6
  obtain ⟨W7, hW7⟩ : ∃ W7, W7 = W6.alloc (.cells #[.int .i64 1, .int .i64 1, .int .i64 2, .int .i64 1] 3) := ⟨_, rfl⟩
  have HG67 : Hid (W6.grownBy W7 none) := by rw [hW7]; exact World.grownBy_alloc _ _ none
  have HS7 := L.same_ints (.slice a5 4 c5) (.slice (some ⟨W6.heap.size, 0, none⟩) 4 4) [1, 1, 2, 1] [1, 1, 2, 1] W7 (rd_at (HR6.out.keep HG67.out) (by decide)) (rd_at (lit_rd (by rw [hW7]; exact alloc_at W6 _ _) rfl) (by decide))
  rw [decide_eq_true rfl] at HS7
  have p0 := HF6.out.1.c0
  have p1 := HF6.out.1.c1
  have q0 := HF6.out.2.c0
  have q1 := HF6.out.2.c1
  go_wp2_with fail
  rw [← hW7]
  clear hW7
  refine HS7.mono ?_
  rintro e w8 ⟨rfl, k8, hw8⟩
  have HG8 : Hid (W6.grownBy w8 none) := by rw [hw8]; exact grown_trans HG67.out (grown_drewN _ _ _)
  have HC8 := pcheck_any (exOk b) b (exES u v) plShut (some ⟨b6 + 1, 0, none⟩) 12 12 _ w8 (HB6.out.keep HG8.out) (HT6.out.keep HG8.out)
  rw [dx_ck, aw4] at HC8
  unfold fv2 at HC8
  clear HS7 hw8
  go_wp2_with fail
  refine HC8.mono ?_
  rintro e w9 ⟨rfl, g9⟩
  have HG9 : Hid (W6.grownBy w9 none) := grown_trans HG8.out g9
  have HC9 := count_any (some ⟨b6 + 1, 0, none⟩) 12 12 _ 2 w9 (HT6.out.keep HG9.out) (by unfold Small; omega)
  rw [aw5] at HC9
  clear HC8 g9
  go_wp2_with fail
  refine HC9.mono ?_
  rintro e wa ⟨rfl, hw⟩
  obtain rfl : w9 = wa := hw.symm
  clear HC9
  go_wp2_with fail
  go_ret
  exact ⟨rfl, grown_trans HG6.out HG9.out⟩
end Go.Proofs.YtbcggjacjfcldaaGreatDoor
namespace Go.Proofs.YtbcggjacjfcldaaGreatDoor
open Go.RowKit

theorem wpl_build_g {P : Program} {w w1 : World} {ops : Array Oper} {rest : List Oper} {o : Oper} {a : Go.Act} {Q : Exit → Go.Act → World → Prop} (hgd : Region.wanted o (yielded ops a.tmps) = true) (t : TypeId) (parts : Array (Nat × Operand))
    (ho : o.op = .build t parts) (vs : Array (Nat × Value)) (hv : (parts.map fun (i, x) => (i, a.eval x)) = vs) (v : Value) (hrun : (Instr.build t vs).run P w = .ok v w1) (h : wpList P ops Q rest (a.put o.dst v) w1) : wpList P ops Q (o :: rest) a w := by
  refine wpList_step fun K hK => ?_
  rw [if_pos hgd]
  unfold Oper.wp
  simp only [execOp, ho, Sem.run_bind, hv, hrun, Result.andThen_ok]
  exact hK _ _ h
theorem wpl_box_g {P : Program} {w w1 : World} {ops : Array Oper} {rest : List Oper} {o : Oper} {a : Go.Act} {Q : Exit → Go.Act → World → Prop} (hgd : Region.wanted o (yielded ops a.tmps) = true) (t : TypeId) (x : Operand)
    (ho : o.op = .box t x) (y : Value) (hy : a.eval x = y) (v : Value) (hrun : (Instr.box t y).run P w = .ok v w1) (h : wpList P ops Q rest (a.put o.dst v) w1) : wpList P ops Q (o :: rest) a w := by
  refine wpList_step fun K hK => ?_
  rw [if_pos hgd]
  unfold Oper.wp
  simp only [execOp, ho, Sem.run_bind, hy, hrun, Result.andThen_ok]
  exact hK _ _ h
def zbA : Array Value := (noCards 64 ++ (.bool false :: .bool false :: .int .i64 0 :: (plNew.nms.map Value.string ++ mcells plNew.mks))).toArray
theorem run_buildZ (w : World) : (Instr.build 65 #[]).run Tryz.prog w = .ok (.agg zbA) w := by kernel_rfl
theorem zb_no (w : World) : NoBk (w.alloc (.cells zbA 65)) (.pointer (some ⟨w.heap.size, 0, none⟩)) := Or.inr ⟨_, rfl, by rw [block_cell (alloc_at w zbA _)]; kernel_rfl⟩
set_option maxHeartbeats 4000000 in
set_option maxRecDepth 100000 in
theorem deckNone_any (a : Option Addr) (n c : Nat) (s : ByteArray) (w : World) (LB : LibAt w) : Calls Tryz.prog 4 #[.slice a n c, .string s] w fun e w' => e = .returned (.bool true) ∧ w.grownBy w' none := by
  obtain ⟨zb, hzb⟩ : ∃ zb, zb = zbA := ⟨_, rfl⟩
  have BZ : ∀ w, (Instr.build 65 #[]).run Tryz.prog w = .ok (.agg zb) w := by rw [hzb]; exact run_buildZ
  have NZ : Hid (∀ w : World, NoBk (w.alloc (.cells zb 65)) (.pointer (some ⟨w.heap.size, 0, none⟩))) := by rw [hzb]; exact zb_no
  have HLb : Hid (LibAt w) := LB
  clear hzb LB
  go_enter Tryz.func4, Tryz.ntmps4
  go_wp2_with fail
  refine (lnone_any (.pointer none) a n c s w (Or.inl rfl)).mono ?_
  rintro e w2 ⟨rfl, g2⟩
  have HG2 : Hid (w.grownBy w2 none) := g2
  clear g2
  obtain ⟨W3, hW3⟩ : ∃ W3, W3 = w2.alloc (.cells zb 65) := ⟨_, rfl⟩
  have BX : (Instr.box 65 (.agg zb)).run Tryz.prog w2 = .ok (.pointer (some ⟨w2.heap.size, 0, none⟩)) W3 := by rw [hW3]; exact run_boxBk zb w2
  have N3 : Hid (NoBk W3 (.pointer (some ⟨w2.heap.size, 0, none⟩))) := by rw [hW3]; exact NZ.out w2
  have HG3 : Hid (w.grownBy W3 none) := by rw [hW3]; exact grown_push HG2.out _
  clear hW3
  go_wp2_with (first | (refine wpl_build_g ?g 65 #[] ?ho #[] ?hv (.agg zb) (BZ _) ?_; (case g => rfl); (case ho => rfl); (case hv => simp)) | (refine wpl_box_g ?g 65 (.tmp 9) ?ho (.agg zb) ?hv _ BX ?_; (case g => rfl); (case ho => rfl); (case hv => simp [Act.eval, Act.put, Go.Act.eval])) | fail)
  refine (lnone_any (.pointer (some ⟨w2.heap.size, 0, none⟩)) a n c s W3 N3.out).mono ?_
  rintro e w4 ⟨rfl, g4⟩
  have HG4 : Hid (w.grownBy w4 none) := grown_trans HG3.out g4
  clear g4
  go_wp2_with fail
  refine (awake_any w4 (HLb.out.keep HG4.out)).mono ?_
  rintro e w5 ⟨rfl, g5⟩
  have HG5 : Hid (w.grownBy w5 none) := grown_trans HG4.out g5
  clear g5
  go_wp2
  go_ret
  exact ⟨rfl, HG5.out⟩
end Go.Proofs.YtbcggjacjfcldaaGreatDoor
