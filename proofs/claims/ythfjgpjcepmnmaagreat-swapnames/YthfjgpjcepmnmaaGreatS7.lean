/-
  strings.Clone off the shelf: the same text.
  Traits' names and marks of a book: TraitName, MarkOf, Trait, Mark.
  Marks of a book: MarkOf, Mark.
  The order of cards: cmp.Compare, cmp.Or, inOrder; slices.BinarySearchFunc over a row of cards.
  slices.BinarySearchFunc over a row of cards in their order: how many stand ahead of a card.
-/
import Derived.Ground.MpProg
import Derived.Shelf.Strconv.Clone
import Derived.Test.YthfjgpjcepmnmaaGreatS0
import Derived.Test.YthfjgpjcepmnmaaGreatS6
namespace Go.Proofs.YthfjgpjcepmnmaaGreat
open Go.RowKit Go.Shelf

def Tryz.lays316_ren : Go.Shelf.Ren := ⟨fun | 316 => 208 | n => n, fun | 9 => 9 | 3 => 3 | 4 => 4 | 37 => 326 | 0 => 0 | 127 => 327 | 5 => 5 | n => n, fun | n => n⟩
theorem Tryz.lays316 : Go.Proofs.LaysM.n316 Tryz.prog Tryz.lays316_ren := {
  mixed := by kernel_rfl
  f316 := Tryz.func208.trans (congrArg some (by kernel_rfl))
  t0 := Tryz.underlying0
  a0 := Tryz.isAgg0
  z0 := Tryz.sizeOf0
  v0 := Tryz.zeroValue0
  t3 := Tryz.underlying3
  a3 := Tryz.isAgg3
  z3 := Tryz.sizeOf3
  v3 := Tryz.zeroValue3
  t4 := Tryz.underlying4
  a4 := Tryz.isAgg4
  z4 := Tryz.sizeOf4
  v4 := Tryz.zeroValue4
  t9 := Tryz.underlying9
  a9 := Tryz.isAgg9
  z9 := Tryz.sizeOf9
  v9 := Tryz.zeroValue9
  t37 := Tryz.underlying326
  a37 := Tryz.isAgg326
  z37 := Tryz.sizeOf326
  v37 := Tryz.zeroValue326
  t127 := Tryz.underlying327
  a127 := Tryz.isAgg327
  z127 := Tryz.sizeOf327
  v127 := Tryz.zeroValue327
  t5 := Tryz.underlying5
  a5 := Tryz.isAgg5
  z5 := Tryz.sizeOf5
  v5 := Tryz.zeroValue5
  i0 := by kernel_rfl
  i3 := by kernel_rfl
  i4 := by kernel_rfl
  i5 := by kernel_rfl
  i9 := by kernel_rfl
  i37 := by kernel_rfl
  i127 := by kernel_rfl }
theorem below_grown {w w' : World} (h : Below w.heap.size w w') : w.grownBy w' none := ⟨h.os, h.tape, h.output, h.size, fun k hk _ => h.block k hk⟩
theorem clone_any (s : ByteArray) (hs : s.size ≤ 281474976710656) (w : World) : Calls Tryz.prog 144 #[.string s] w fun e w' => e = .returned (.string s) ∧ w.grownBy w' none := by
  have c := Any.stringslite_Clone Tryz.lays316 s w hs
  change Calls Tryz.prog 208 _ _ _ at c
  go_enter Tryz.func144, Tryz.ntmps144
  go_wp2_with (go_at_call 208; refine c.mono ?_; rintro e w1 ⟨rfl, h⟩)
  go_ret
  exact ⟨rfl, below_grown h⟩
end Go.Proofs.YthfjgpjcepmnmaaGreat
namespace Go.Proofs.YthfjgpjcepmnmaaGreat
open Go.RowKit

theorem grown_own' {a b c : World} {r : Option Nat} (h : a.grownBy b none) (k : b.grownBy c r) : a.grownBy c r := ⟨k.os.trans h.os, k.tape.trans h.tape, k.output.trans h.output, Nat.le_trans h.size k.size, fun i hi hr => (k.block i (Nat.lt_of_lt_of_le hi h.size) hr).trans (h.block i hi (by simp))⟩
theorem getD_some {α : Type} {l : List α} {k : Nat} {d : α} (h : k < l.length) : l[k]? = some (l.getD k d) := by simp [List.getD, h]
end Go.Proofs.YthfjgpjcepmnmaaGreat
namespace Go.Proofs.YthfjgpjcepmnmaaGreat
open Go.RowKit

theorem grown_drew' (w : World) (r : Option Nat) : w.grownBy w.drew r := ⟨rfl, rfl, rfl, Nat.le_refl _, fun _ _ _ => rfl⟩
end Go.Proofs.YthfjgpjcepmnmaaGreat
namespace Go.Proofs.YthfjgpjcepmnmaaGreat
open Go.RowKit

theorem nanI_any (a : Int) (w : World) : Calls Tryz.prog 293 #[.int .u8 a] w fun e w' => e = .returned (.bool false) ∧ w' = w := by
  have h : (a != a) = false := by simp
  go_enter Tryz.func293, Tryz.ntmps293
  go_wp2
  go_ret
  exact ⟨by simp, rfl⟩
theorem nanS_any (a : ByteArray) (w : World) : Calls Tryz.prog 294 #[.string a] w fun e w' => e = .returned (.bool false) ∧ w' = w := by
  go_enter Tryz.func294, Tryz.ntmps294
  go_wp2
  go_ret
  exact ⟨by simp, rfl⟩
def cI (a b : Int) : Int := if a < b then -1 else if b < a then 1 else 0
def bLt (s t : ByteArray) : Bool := Op.bytesLess s.toList t.toList
def cB (s t : ByteArray) : Int := if bLt s t = true then -1 else if s = t then 0 else 1
def orV (a b : Int) : Int := if a = 0 then b else a
def ord (a b : Hd) : Int := orV (cI a.su b.su) (cB a.nm b.nm)
theorem cmpI_any (a b : Int) (w : World) : Calls Tryz.prog 255 #[.int .u8 a, .int .u8 b] w fun e w' => e = .returned (.int .i64 (cI a b)) ∧ w' = w := by
  rcases (show a < b ∨ (b ≤ a ∧ b < a) ∨ (b ≤ a ∧ a ≤ b) by omega) with h | ⟨h, h'⟩ | ⟨h, h'⟩
  · have e : cI a b = -1 := if_pos h
    rw [e]
    go_enter Tryz.func255, Tryz.ntmps255
    go_wp2_with (first | (go_at_call 293; refine (nanI_any _ _).mono ?_; rintro e w1 ⟨rfl, h1⟩; obtain rfl : w = w1 := h1.symm) | fail)
    go_ret
    exact ⟨rfl, rfl⟩
  · have e : cI a b = 1 := by unfold cI; rw [if_neg (by omega), if_pos h']
    rw [e]
    go_enter Tryz.func255, Tryz.ntmps255
    go_wp2_with (first | (go_at_call 293; refine (nanI_any _ _).mono ?_; rintro e w1 ⟨rfl, h1⟩; obtain rfl : w = w1 := h1.symm) | fail)
    go_ret
    exact ⟨rfl, rfl⟩
  · have e : cI a b = 0 := by unfold cI; rw [if_neg (by omega), if_neg (by omega)]
    rw [e]
    go_enter Tryz.func255, Tryz.ntmps255
    go_wp2_with (first | (go_at_call 293; refine (nanI_any _ _).mono ?_; rintro e w1 ⟨rfl, h1⟩; obtain rfl : w = w1 := h1.symm) | fail)
    go_ret
    exact ⟨rfl, rfl⟩
theorem cmpS_any (a b : ByteArray) (w : World) : Calls Tryz.prog 256 #[.string a, .string b] w fun e w' => e = .returned (.int .i64 (cB a b)) ∧ w' = w := by
  unfold cB
  cases h : bLt a b with
  | true =>
    rw [if_pos rfl]
    unfold bLt at h
    go_enter Tryz.func256, Tryz.ntmps256
    go_wp2_with (first | (go_at_call 294; refine (nanS_any _ _).mono ?_; rintro e w1 ⟨rfl, h1⟩; obtain rfl : w = w1 := h1.symm) | fail)
    go_ret
    exact ⟨rfl, rfl⟩
  | false =>
    rw [if_neg (by simp)]
    unfold bLt at h
    by_cases he : a = b
    · rw [if_pos he]
      have k := bytes_yes he
      clear he
      go_enter Tryz.func256, Tryz.ntmps256
      go_wp2_with (first | (go_at_call 294; refine (nanS_any _ _).mono ?_; rintro e w1 ⟨rfl, h1⟩; obtain rfl : w = w1 := h1.symm) | fail)
      go_ret
      exact ⟨rfl, rfl⟩
    · rw [if_neg he]
      have k := bytes_no he
      clear he
      go_enter Tryz.func256, Tryz.ntmps256
      go_wp2_with (first | (go_at_call 294; refine (nanS_any _ _).mono ?_; rintro e w1 ⟨rfl, h1⟩; obtain rfl : w = w1 := h1.symm) | fail)
      go_ret
      exact ⟨rfl, rfl⟩
set_option maxRecDepth 100000 in
theorem or_any (g : Nat) (a b : Int) (w : World) (h0 : w.cell? ⟨g, 0, none⟩ = some (.int .i64 a)) (h1 : w.cell? ⟨g, 1, none⟩ = some (.int .i64 b)) : Calls Tryz.prog 160 #[.slice (some ⟨g, 0, none⟩) 2 2] w fun e w' => e = .returned (.int .i64 (orV a b)) ∧ w' = w := by
  unfold orV
  by_cases ha : a = 0
  · rw [if_pos ha]
    subst ha
    go_enter Tryz.func160, Tryz.ntmps160
    go_wp2_with fail
    go_loopw [8] (fun i wr => (i = .int .i64 0 ∨ i = .int .i64 1 ∧ True ∨ i = .int .i64 2 ∧ b = 0) ∧ wr = w) (fun i _ => 2 - (intOf i).toNat)
    case atStart => exact ⟨Or.inl rfl, rfl⟩
    case round =>
      obtain ⟨rfl | ⟨rfl, _⟩ | ⟨rfl, hb⟩, rfl⟩ := hrel
      · go_wp2_with fail
        go_roundw
        case rel => exact ⟨Or.inr (Or.inl ⟨rfl, trivial⟩), by first | rfl | trivial⟩
        case measure => decide
      · by_cases hb : b = 0
        · have hb' : (b != 0) = false := by simp [hb]
          subst hb
          go_wp2_with fail
          go_roundw
          case rel => exact ⟨Or.inr (Or.inr ⟨rfl, by first | rfl | trivial⟩), by first | rfl | trivial⟩
          case measure => decide
        · have hb' : (b != 0) = true := by simpa using hb
          clear hb
          go_wp2
          go_ret
          exact ⟨rfl, rfl⟩
      · subst hb
        go_wp2
        go_ret
        exact ⟨rfl, rfl⟩
  · rw [if_neg ha]
    have hb' : (a != 0) = true := by simpa using ha
    clear ha
    go_enter Tryz.func160, Tryz.ntmps160
    go_wp2_with fail
    go_loopw [8] (fun i wr => i = .int .i64 0 ∧ wr = w) (fun _ _ => 0)
    case atStart => exact ⟨rfl, rfl⟩
    case round =>
      obtain ⟨rfl, rfl⟩ := hrel
      go_wp2
      go_ret
      exact ⟨rfl, rfl⟩
set_option maxRecDepth 100000 in
set_option maxHeartbeats 1000000 in
theorem inOrder_any (h k : Hd) (va vb : Value) (w : World) (ha : ∃ a n c, va = .slice a n c) (hb : ∃ a n c, vb = .slice a n c) : Calls Tryz.prog 192 #[cv h va, cv k vb] w fun e w' => e = .returned (.int .i64 (ord h k)) ∧ w.grownBy w' none := by
  obtain ⟨a1, a2, a3, rfl⟩ := ha
  obtain ⟨b1, b2, b3, rfl⟩ := hb
  obtain ⟨W2, hW2⟩ : ∃ W2, W2 = (w.alloc (.cells (ccs h (.slice a1 a2 a3)) 54)).alloc (.cells (ccs k (.slice b1 b2 b3)) 54) := ⟨_, rfl⟩
  have HG2 : Hid (w.grownBy W2 none) := by rw [hW2]; exact grown_push (World.grownBy_alloc _ _ none) _
  have A2 : CAt W2 w.heap.size h (.slice a1 a2 a3) := by rw [hW2]; exact CAt.keep (alloc_at w _ _) (World.grownBy_alloc _ _ none)
  have Z2 : CAt W2 (w.heap.size + 1) k (.slice b1 b2 b3) := by
    have := alloc_at (w.alloc (.cells (ccs h (.slice a1 a2 a3)) 54)) (ccs k (.slice b1 b2 b3)) 54
    rw [World.size_alloc] at this
    rw [hW2]
    exact this
  obtain ⟨x0, x1, _⟩ := A2.cells
  obtain ⟨y0, y1, _⟩ := Z2.cells
  clear A2 Z2
  unfold ccs at hW2
  unfold cv
  go_enter Tryz.func192, Tryz.ntmps192
  go_upto_region 1 with fail
  rw [← hW2]
  clear hW2
  go_region_held3 (fun w' => w'.cell? ⟨w.heap.size, 0, none⟩ = some (.string h.nm) ∧ w'.cell? ⟨w.heap.size, 1, none⟩ = some (.int .u8 h.su) ∧ w'.cell? ⟨w.heap.size + 1, 0, none⟩ = some (.string k.nm) ∧ w'.cell? ⟨w.heap.size + 1, 1, none⟩ = some (.int .u8 k.su)) (first | exact ⟨x0, x1, y0, y1⟩ | go_keep) (first | (go_at_call 255; refine (cmpI_any _ _ _).mono ?_; rintro e w3 ⟨rfl, rfl⟩) | (go_at_call 256; refine (cmpS_any _ _ _).mono ?_; rintro e w3 ⟨rfl, rfl⟩) | (go_at_call 160; refine (or_any _ _ _ _ (by exact block_cell (alloc_at _ _ _) 0) (by exact block_cell (alloc_at _ _ _) 1)).mono ?_; rintro e w3 ⟨rfl, rfl⟩))
  go_wp2
  go_ret
  exact ⟨rfl, grown_trans HG2.out (grown_trans (grown_drew _) (World.grownBy_alloc _ _ none))⟩
end Go.Proofs.YthfjgpjcepmnmaaGreat
namespace Go.Proofs.YthfjgpjcepmnmaaGreat
open Go.RowKit

def AheadTo (es : List Ent) (c : Hd) (m : Nat) : Prop := ∀ (j : Nat) e, es[j]? = some e → (ord e.h c < 0 ↔ j < m)
theorem meas_bs {x q y : Nat} (h : x ≤ q) (k : q < y) : (intOf (.int .i64 (y : Int))).toNat - (intOf (.int .i64 ((q : Int) + 1))).toNat < (intOf (.int .i64 (y : Int))).toNat - (intOf (.int .i64 (x : Int))).toNat := by simp [intOf]; omega
theorem meas_bs2 {x q y : Nat} (h : x ≤ q) (k : q < y) : (intOf (.int .i64 (q : Int))).toNat - (intOf (.int .i64 (x : Int))).toNat < (intOf (.int .i64 (y : Int))).toNat - (intOf (.int .i64 (x : Int))).toNat := by simp [intOf]; omega
set_option maxRecDepth 100000 in
set_option maxHeartbeats 1000000 in
theorem bsearch_any (g o cap : Nat) (es : List Ent) (c : Hd) (vc : Value) (m : Nat) (w : World) (hE : EsAt w g o es) (hs : Slc es) (hc : ∃ a n k, vc = .slice a n k) (hm : AheadTo es c m) (hl : es.length ≤ 64) (hml : m ≤ es.length) : Calls Tryz.prog 191 #[.slice (some ⟨g, o, none⟩) es.length cap, cv c vc, .func (.func 192) #[] #[]] w fun e w' => (∃ f, e = .returned (.tuple #[.int .i64 m, .bool f])) ∧ w.grownBy w' none := by
  obtain ⟨a, n, k, rfl⟩ := hc
  obtain ⟨W1, hW1⟩ : ∃ W1, W1 = w.alloc (.cells (ccs c (.slice a n k)) 54) := ⟨_, rfl⟩
  have HG1 : Hid (w.grownBy W1 none) := by rw [hW1]; exact World.grownBy_alloc _ _ none
  have HC1 : Hid (CAt W1 w.heap.size c (.slice a n k)) := by rw [hW1]; exact alloc_at w _ _
  have HE : Hid (EsAt W1 g o es) := hE.keep HG1.out
  have HS : Hid (Slc es) := hs
  have HM : Hid (AheadTo es c m) := hm
  unfold ccs at hW1
  unfold cv
  clear hE hs hm
  go_enter Tryz.func191, Tryz.ntmps191
  go_upto_region 1 with fail
  rw [← hW1]
  clear hW1
  go_wp2_with fail
  go_loopw [9, 10] (fun i j wr => ∃ x y : Nat, i = .int .i64 x ∧ j = .int .i64 y ∧ x ≤ m ∧ m ≤ y ∧ y ≤ es.length ∧ W1.grownBy wr none) (fun i j _ => (intOf j).toNat - (intOf i).toNat)
  case atStart => exact ⟨0, es.length, rfl, rfl, Nat.zero_le _, hml, Nat.le_refl _, grown_refl _ _⟩
  case round =>
    obtain ⟨x, y, rfl, rfl, hx, hy, hyl, G⟩ := hrel
    have HG : Hid (W1.grownBy wr none) := G
    clear G
    rcases (show x = y ∨ x < y from by omega) with hxy | hxy
    · obtain rfl : x = m := by omega
      subst hxy
      clear hx hy
      rcases (show x = es.length ∨ x < es.length from by omega) with hxl | hQ
      · subst hxl
        go_upto_region 8 with fail
        go_quiet (fail)
        go_wp2
        go_ret2
        exact ⟨⟨_, rfl⟩, grown_trans (grown_trans HG1.out HG.out) (grown_drewN _ _ _)⟩
      · have hb : (x : Int) < (es.length : Int) := by omega
        have hb' : (0 : Int) ≤ (x : Int) := by omega
        obtain ⟨e, hent⟩ : ∃ e, es[x]? = some e := ⟨_, List.getElem?_eq_getElem hQ⟩
        obtain ⟨a1, a2, a3, hv⟩ := HS.out e (List.mem_of_getElem? hent)
        have D := (HE.out x e hent).keep (grown_trans HG.out (grown_drew _))
        rw [hv] at D
        have CC := HC1.out.keep (grown_trans HG.out (grown_drew _))
        have KD : Hid (∀ ww, wr.drew.grownBy ww none → C9 ww g (o + x * 9) e.h (.slice a1 a2 a3)) := fun ww hh => D.keep hh
        have KC : Hid (∀ ww, wr.drew.grownBy ww none → CAt ww w.heap.size c (.slice a n k)) := fun ww hh => CC.keep hh
        have HO : Hid (ord e.h c < 0 ↔ x < x) := HM.out x e hent
        obtain ⟨d0, d1, d2, d3, d4, d5, d6, d7, d8⟩ := D
        obtain ⟨z0, z1, z2, z3, z4, z5, z6, z7, z8⟩ := CC.cells
        clear CC hent hv
        go_upto_region 8 with fail
        go_region_held3 (fun w' => w'.cell? ⟨g, o + x * 9, none⟩ = some (.string e.h.nm) ∧ w'.cell? ⟨g, o + x * 9 + 1, none⟩ = some (.int .u8 e.h.su) ∧ w'.cell? ⟨g, o + x * 9 + 2, none⟩ = some (.int .u8 e.h.kd) ∧ w'.cell? ⟨g, o + x * 9 + 3, none⟩ = some (.int .i64 e.h.co) ∧ w'.cell? ⟨g, o + x * 9 + 4, none⟩ = some (.int .i64 e.h.po) ∧ w'.cell? ⟨g, o + x * 9 + 5, none⟩ = some (.int .i64 e.h.he) ∧ w'.cell? ⟨g, o + x * 9 + 6, none⟩ = some (.int .u16 e.h.tr) ∧ w'.cell? ⟨g, o + x * 9 + 7, none⟩ = some (.bool e.h.tk) ∧ w'.cell? ⟨g, o + x * 9 + 8, none⟩ = some (.slice a1 a2 a3) ∧ w'.cell? ⟨w.heap.size, 0, none⟩ = some (.string c.nm) ∧ w'.cell? ⟨w.heap.size, 1, none⟩ = some (.int .u8 c.su) ∧ w'.cell? ⟨w.heap.size, 2, none⟩ = some (.int .u8 c.kd) ∧ w'.cell? ⟨w.heap.size, 3, none⟩ = some (.int .i64 c.co) ∧ w'.cell? ⟨w.heap.size, 4, none⟩ = some (.int .i64 c.po) ∧ w'.cell? ⟨w.heap.size, 5, none⟩ = some (.int .i64 c.he) ∧ w'.cell? ⟨w.heap.size, 6, none⟩ = some (.int .u16 c.tr) ∧ w'.cell? ⟨w.heap.size, 7, none⟩ = some (.bool c.tk) ∧ w'.cell? ⟨w.heap.size, 8, none⟩ = some (.slice a n k)) (first | exact ⟨d0, d1, d2, d3, d4, d5, d6, d7, d8, z0, z1, z2, z3, z4, z5, z6, z7, z8⟩ | exact ⟨p0, p1, p2, p3, p4, p5, p6, p7, p8, q0, q1, q2, q3, q4, q5, q6, q7, q8⟩) (first | (go_at_call 192; refine (inOrder_any e.h c (.slice a1 a2 a3) (.slice a n k) _ ⟨_, _, _, rfl⟩ ⟨_, _, _, rfl⟩).mono ?_; rintro e1 w3 ⟨rfl, g3⟩; have G3 : Hid (W1.grownBy w3 none) := grown_trans (grown_trans HG.out (grown_drew _)) g3; obtain ⟨p0, p1, p2, p3, p4, p5, p6, p7, p8⟩ := KD.out _ g3; obtain ⟨q0, q1, q2, q3, q4, q5, q6, q7, q8⟩ := (KC.out _ g3).cells))
        go_wp2
        go_ret2
        exact ⟨⟨_, rfl⟩, grown_trans HG1.out G3.out⟩
    · have hxy' : (x : Int) < (y : Int) := by omega
      have w1 : wrap64 ((x : Int) + (y : Int)) = (x : Int) + (y : Int) := by unfold wrap64; omega
      obtain ⟨q, hq⟩ : ∃ q : Nat, ((x : Int) + (y : Int)) / 2 = (q : Int) := ⟨(x + y) / 2, by omega⟩
      have hQ : q < es.length := by omega
      have hqx : x ≤ q := by omega
      have hqy : q < y := by omega
      have w2 : wrap64 ((q : Int) + 1) = (q : Int) + 1 := by unfold wrap64; omega
      have k0 : (0 : Int) ≤ (q : Int) := by omega
      have k1 : (q : Int) < (es.length : Int) := by omega
      have HQ : Hid (((x : Int) + (y : Int)) / 2 = (q : Int)) := hq
      clear hq
      obtain ⟨e, hent⟩ : ∃ e, es[q]? = some e := ⟨_, List.getElem?_eq_getElem hQ⟩
      obtain ⟨a1, a2, a3, hv⟩ := HS.out e (List.mem_of_getElem? hent)
      have D := (HE.out q e hent).keep (grown_trans HG.out (grown_drew _))
      rw [hv] at D
      have CC := HC1.out.keep (grown_trans HG.out (grown_drew _))
      have KD : Hid (∀ ww, wr.drew.grownBy ww none → C9 ww g (o + q * 9) e.h (.slice a1 a2 a3)) := fun ww hh => D.keep hh
      have KC : Hid (∀ ww, wr.drew.grownBy ww none → CAt ww w.heap.size c (.slice a n k)) := fun ww hh => CC.keep hh
      have HO : Hid (ord e.h c < 0 ↔ q < m) := HM.out q e hent
      obtain ⟨d0, d1, d2, d3, d4, d5, d6, d7, d8⟩ := D
      obtain ⟨z0, z1, z2, z3, z4, z5, z6, z7, z8⟩ := CC.cells
      clear CC hent hv
      go_upto_region 5 with fail
      rw [HQ.out]
      by_cases hord : ord e.h c < 0
      · have hqm : q < m := HO.out.1 hord
        go_region_held3 (fun w' => w'.cell? ⟨g, o + q * 9, none⟩ = some (.string e.h.nm) ∧ w'.cell? ⟨g, o + q * 9 + 1, none⟩ = some (.int .u8 e.h.su) ∧ w'.cell? ⟨g, o + q * 9 + 2, none⟩ = some (.int .u8 e.h.kd) ∧ w'.cell? ⟨g, o + q * 9 + 3, none⟩ = some (.int .i64 e.h.co) ∧ w'.cell? ⟨g, o + q * 9 + 4, none⟩ = some (.int .i64 e.h.po) ∧ w'.cell? ⟨g, o + q * 9 + 5, none⟩ = some (.int .i64 e.h.he) ∧ w'.cell? ⟨g, o + q * 9 + 6, none⟩ = some (.int .u16 e.h.tr) ∧ w'.cell? ⟨g, o + q * 9 + 7, none⟩ = some (.bool e.h.tk) ∧ w'.cell? ⟨g, o + q * 9 + 8, none⟩ = some (.slice a1 a2 a3) ∧ w'.cell? ⟨w.heap.size, 0, none⟩ = some (.string c.nm) ∧ w'.cell? ⟨w.heap.size, 1, none⟩ = some (.int .u8 c.su) ∧ w'.cell? ⟨w.heap.size, 2, none⟩ = some (.int .u8 c.kd) ∧ w'.cell? ⟨w.heap.size, 3, none⟩ = some (.int .i64 c.co) ∧ w'.cell? ⟨w.heap.size, 4, none⟩ = some (.int .i64 c.po) ∧ w'.cell? ⟨w.heap.size, 5, none⟩ = some (.int .i64 c.he) ∧ w'.cell? ⟨w.heap.size, 6, none⟩ = some (.int .u16 c.tr) ∧ w'.cell? ⟨w.heap.size, 7, none⟩ = some (.bool c.tk) ∧ w'.cell? ⟨w.heap.size, 8, none⟩ = some (.slice a n k)) (first | exact ⟨d0, d1, d2, d3, d4, d5, d6, d7, d8, z0, z1, z2, z3, z4, z5, z6, z7, z8⟩ | exact ⟨p0, p1, p2, p3, p4, p5, p6, p7, p8, q0, q1, q2, q3, q4, q5, q6, q7, q8⟩) (first | (go_at_call 192; refine (inOrder_any e.h c (.slice a1 a2 a3) (.slice a n k) _ ⟨_, _, _, rfl⟩ ⟨_, _, _, rfl⟩).mono ?_; rintro e1 w3 ⟨rfl, g3⟩; have G3 : Hid (W1.grownBy w3 none) := grown_trans (grown_trans HG.out (grown_drew _)) g3; obtain ⟨p0, p1, p2, p3, p4, p5, p6, p7, p8⟩ := KD.out _ g3; obtain ⟨q0, q1, q2, q3, q4, q5, q6, q7, q8⟩ := (KC.out _ g3).cells))
        go_wp2_with fail
        go_roundw
        case rel => exact ⟨q + 1, y, by first | rfl | (rw [w2]; rfl), rfl, by omega, hy, hyl, G3.out⟩
        case measure => first | exact meas_bs hqx hqy | (rw [w2]; exact meas_bs hqx hqy)
      · have hqm : m ≤ q := by have := mt HO.out.2 hord; omega
        have hord' : 0 ≤ ord e.h c := by omega
        clear hord
        go_region_held3 (fun w' => w'.cell? ⟨g, o + q * 9, none⟩ = some (.string e.h.nm) ∧ w'.cell? ⟨g, o + q * 9 + 1, none⟩ = some (.int .u8 e.h.su) ∧ w'.cell? ⟨g, o + q * 9 + 2, none⟩ = some (.int .u8 e.h.kd) ∧ w'.cell? ⟨g, o + q * 9 + 3, none⟩ = some (.int .i64 e.h.co) ∧ w'.cell? ⟨g, o + q * 9 + 4, none⟩ = some (.int .i64 e.h.po) ∧ w'.cell? ⟨g, o + q * 9 + 5, none⟩ = some (.int .i64 e.h.he) ∧ w'.cell? ⟨g, o + q * 9 + 6, none⟩ = some (.int .u16 e.h.tr) ∧ w'.cell? ⟨g, o + q * 9 + 7, none⟩ = some (.bool e.h.tk) ∧ w'.cell? ⟨g, o + q * 9 + 8, none⟩ = some (.slice a1 a2 a3) ∧ w'.cell? ⟨w.heap.size, 0, none⟩ = some (.string c.nm) ∧ w'.cell? ⟨w.heap.size, 1, none⟩ = some (.int .u8 c.su) ∧ w'.cell? ⟨w.heap.size, 2, none⟩ = some (.int .u8 c.kd) ∧ w'.cell? ⟨w.heap.size, 3, none⟩ = some (.int .i64 c.co) ∧ w'.cell? ⟨w.heap.size, 4, none⟩ = some (.int .i64 c.po) ∧ w'.cell? ⟨w.heap.size, 5, none⟩ = some (.int .i64 c.he) ∧ w'.cell? ⟨w.heap.size, 6, none⟩ = some (.int .u16 c.tr) ∧ w'.cell? ⟨w.heap.size, 7, none⟩ = some (.bool c.tk) ∧ w'.cell? ⟨w.heap.size, 8, none⟩ = some (.slice a n k)) (first | exact ⟨d0, d1, d2, d3, d4, d5, d6, d7, d8, z0, z1, z2, z3, z4, z5, z6, z7, z8⟩ | exact ⟨p0, p1, p2, p3, p4, p5, p6, p7, p8, q0, q1, q2, q3, q4, q5, q6, q7, q8⟩) (first | (go_at_call 192; refine (inOrder_any e.h c (.slice a1 a2 a3) (.slice a n k) _ ⟨_, _, _, rfl⟩ ⟨_, _, _, rfl⟩).mono ?_; rintro e1 w3 ⟨rfl, g3⟩; have G3 : Hid (W1.grownBy w3 none) := grown_trans (grown_trans HG.out (grown_drew _)) g3; obtain ⟨p0, p1, p2, p3, p4, p5, p6, p7, p8⟩ := KD.out _ g3; obtain ⟨q0, q1, q2, q3, q4, q5, q6, q7, q8⟩ := (KC.out _ g3).cells))
        go_wp2_with fail
        go_roundw
        case rel => exact ⟨x, q, rfl, rfl, hx, hqm, by omega, G3.out⟩
        case measure => exact meas_bs2 hqx hqy
end Go.Proofs.YthfjgpjcepmnmaaGreat
