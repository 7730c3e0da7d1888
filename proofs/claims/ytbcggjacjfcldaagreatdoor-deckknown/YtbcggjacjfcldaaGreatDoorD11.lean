/-
  What is told of a deck's book, plainly: Check, Print and Parse of a sealed book and of an open one.
  deck's small functions: nowhere, Count, run; a fault's two cells.
  strings.Clone off the shelf: the same text.
  Traits' names and marks of a book: TraitName, MarkOf, Trait, Mark.
-/
import Derived.Test.YtbcggjacjfcldaaGreatDoorD1
import Derived.Test.YtbcggjacjfcldaaGreatDoorDkT
import Derived.Test.YtbcggjacjfcldaaGreatDoorD6
import Derived.BigQuiet
import Derived.Ground.MpProg
import Derived.Shelf.Strconv.Clone
import Derived.Test.YtbcggjacjfcldaaGreatDoorB2
namespace Go.Proofs.YtbcggjacjfcldaaGreatDoor

/-- A number of a card, of n cards. -/
def nIn (n : Nat) (c : Int) : Prop := 1 ≤ c ∧ c ≤ (n : Int)
/-- From place i on: the first number that is no card's. -/
def pgo (n : Nat) (l : List Int) : Nat → Nat → Int × Int
  | 0, _ => (0, 0)
  | f + 1, i => if 1 ≤ l.getD i 0 ∧ l.getD i 0 ≤ (n : Int) then pgo n l f (i + 1) else (6, (i : Int))
/-- Print's fault, of a sealed book. -/
def pchk (n : Nat) (l : List Int) : Int × Int := if 40 < l.length then (9, -1) else pgo n l l.length 0
theorem pgo_skip {n : Nat} {l : List Int} : ∀ (k f i : Nat), (∀ j, i ≤ j → j < i + k → nIn n (l.getD j 0)) → pgo n l (k + f) i = pgo n l f (i + k)
  | 0, f, i, _ => by simp
  | k + 1, f, i, h => by
    rw [show k + 1 + f = (k + f) + 1 by omega, pgo, if_pos (show 1 ≤ l.getD i 0 ∧ l.getD i 0 ≤ (n : Int) from h i (Nat.le_refl _) (by omega)), pgo_skip k f (i + 1) (fun j h1 h2 => h j (by omega) (by omega)), show i + 1 + k = i + (k + 1) by omega]
theorem pchk_at {n : Nat} {l : List Int} {i : Nat} (h2 : l.length ≤ 40) (hi : i < l.length) (h : ∀ j, j < i → nIn n (l.getD j 0)) (hb : ¬ nIn n (l.getD i 0)) : pchk n l = (6, (i : Int)) := by
  unfold pchk
  rw [if_neg (by omega), show l.length = i + ((l.length - i - 1) + 1) by omega, pgo_skip i _ 0 (fun j _ hj => h j (by omega)), Nat.zero_add, pgo, if_neg (show ¬ (1 ≤ l.getD i 0 ∧ l.getD i 0 ≤ (n : Int)) from hb)]
theorem pchk_ok {n : Nat} {l : List Int} (h2 : l.length ≤ 40) (h : ∀ j, j < l.length → nIn n (l.getD j 0)) : pchk n l = (0, 0) := by
  unfold pchk
  rw [if_neg (by omega), show l.length = l.length + 0 by omega, pgo_skip l.length 0 0 (fun j _ hj => h j (by omega))]
  rfl
theorem pchk_all {n : Nat} {l : List Int} (h : pchk n l = (0, 0)) : l.length ≤ 40 ∧ ∀ x ∈ l, nIn n x := by
  by_cases h2 : 40 < l.length
  · unfold pchk at h
    rw [if_pos h2] at h
    cases h
  · refine ⟨by omega, fun x hx => ?_⟩
    obtain ⟨j, hj, rfl⟩ := List.mem_iff_getElem.1 hx
    have key : ∀ k, k ≤ l.length → ∀ j, j < k → nIn n (l.getD j 0) := by
      intro k
      induction k with
      | zero => intro _ j hj; omega
      | succ k ih =>
        intro hk j hj
        by_cases e : j < k
        · exact ih (by omega) j e
        · obtain rfl : j = k := by omega
          apply Classical.byContradiction
          intro hb
          rw [pchk_at (by omega) (by omega) (ih (by omega)) hb] at h
          cases h
    have := key l.length (Nat.le_refl _) j hj
    rwa [show l.getD j 0 = l[j] by simp [List.getD, hj]] at this
/-- Print's text, of a sealed book. -/
def ptxt (N : List ByteArray) (l : List Int) : List UInt8 := if pchk N.length l = (0, 0) then dprt N l else []
/-- Which cards are tokens. -/
def tkOf (es : List Ent) (c : Int) : Bool := match es[(c - 1).toNat]? with
  | some e => e.h.tk
  | none => false
/-- Of a book, sealed or not. -/
def ckF (p : Pl) (es : List Ent) (l : List Int) : Int × Int := if p.shut = true then dchk es.length (tkOf es) l else (2, -1)
def prF (p : Pl) (es : List Ent) (l : List Int) : Int × Int := if p.shut = true then pchk es.length l else (2, -1)
def prX (p : Pl) (es : List Ent) (l : List Int) : List UInt8 := if p.shut = true then ptxt (names es) l else []
def paD (p : Pl) (es : List Ent) (s : List UInt8) : (Int × Int) ⊕ List Int := if p.shut = true then dpar (names es) (s.length + 1) s 0 0 [] else .inl (2, -1)
def fv2 (f : Int × Int) : Value := .agg #[.int .i64 f.1, .int .i64 f.2]
end Go.Proofs.YtbcggjacjfcldaaGreatDoor
namespace Go.Proofs.YtbcggjacjfcldaaGreatDoor
open Go.RowKit

/-- A fault in a block of its own. -/
def FAt (w : World) (r : Nat) (a b : Int) : Prop := w.heap[r]? = some (.cells #[.int .i64 a, .int .i64 b] 34 (0, 0))
theorem FAt.c0 {w : World} {r : Nat} {a b : Int} (h : FAt w r a b) : w.cell? ⟨r, 0, none⟩ = some (.int .i64 a) := block_cell h 0
theorem FAt.c1 {w : World} {r : Nat} {a b : Int} (h : FAt w r a b) : w.cell? ⟨r, 1, none⟩ = some (.int .i64 b) := block_cell h 1
theorem FAt.free {w : World} {r : Nat} {a b : Int} (h : FAt w r a b) (i : Nat) : w.frozen? ⟨r, i, none⟩ = false := block_free h i
theorem FAt.keep {w w' : World} {r : Nat} {a b : Int} (h : FAt w r a b) (g : w.grownBy w' none) : FAt w' r a b := grown_keep g h (by simp)
theorem FAt.keepR {w w' : World} {r : Nat} {a b : Int} {x : Option Nat} (h : FAt w r a b) (g : w.grownBy w' x) (hx : some r ≠ x) : FAt w' r a b := grown_keep g h hx
def put2 (w : World) (r : Nat) (a b : Int) : World := (w.setCell ⟨r, 0, none⟩ (.int .i64 a)).setCell ⟨r, 1, none⟩ (.int .i64 b)
theorem grown_put2 (w : World) (r : Nat) (a b : Int) : w.grownBy (put2 w r a b) (some r) := grown_trans (grown_set _ _ _ _) (grown_set _ _ _ _)
theorem ret_f2 {w w' : World} {r : Nat} (h : w.grownBy w' none) (a b : Int) (hr : w.heap.size ≤ r) : w.grownBy (put2 w' r a b) none := grown_own h (grown_put2 _ _ _ _) (fun x e => by cases e; exact hr)

set_option maxHeartbeats 1000000 in
theorem nowhere_any (x : Int) (w : World) : Calls Tryz.prog 37 #[.int .i64 x] w fun e w' => e = .returned (.agg #[.int .i64 x, .int .i64 (-1)]) ∧ w.grownBy w' none := by
  obtain ⟨W1, hW1⟩ : ∃ W1, W1 = w.alloc (.cells #[.int .i64 0, .int .i64 0] 34) := ⟨_, rfl⟩
  have HG1 : Hid (w.grownBy W1 none) := by rw [hW1]; exact World.grownBy_alloc _ _ none
  have F1 : FAt W1 w.heap.size 0 0 := by rw [hW1]; exact alloc_at w _ _
  have c0 := F1.c0
  have c1 := F1.c1
  have f0 := F1.free 0
  have f1 := F1.free 1
  clear F1
  go_enter Tryz.func37, Tryz.ntmps37
  go_upto_region 1 with fail
  rw [← hW1]
  clear hW1
  go_wp2
  refine bodyPost_ret (v := .agg #[.int .i64 x, .int .i64 (-1)]) (by simp [results, Tryz.results37, go_sem, c0, c1]) rfl ⟨rfl, ?_⟩
  exact ret_f2 HG1.out _ _ (Nat.le_refl _)
/-- A list of numbers that may be read. -/
def Rd (w : World) (a : Option Addr) (n : Nat) (l : List Int) : Prop := n = l.length ∧ (0 < n → ∃ g o, a = some ⟨g, o, none⟩ ∧ ∀ j, j < n → w.cell? ⟨g, o + j, none⟩ = some (.int .i64 (l.getD j 0)))
theorem Rd.keep {w w' : World} {a : Option Addr} {n : Nat} {l : List Int} (h : Rd w a n l) (g : w.grownBy w' none) : Rd w' a n l := ⟨h.1, fun h0 => by
  obtain ⟨b, o, e, hc⟩ := h.2 h0
  exact ⟨b, o, e, fun j hj => g.cell (hc j hj) (by simp)⟩⟩
theorem Rd.keepR {w w' : World} {a : Option Addr} {n : Nat} {l : List Int} {r : Option Nat} (h : Rd w a n l) (g : w.grownBy w' r) (hr : ∀ b o, a = some ⟨b, o, none⟩ → some b ≠ r) : Rd w' a n l := ⟨h.1, fun h0 => by
  obtain ⟨b, o, e, hc⟩ := h.2 h0
  exact ⟨b, o, e, fun j hj => g.cell (hc j hj) (hr b o e)⟩⟩
theorem cnt_take {l : List Int} {k : Nat} (x : Int) (hk : k < l.length) : (((l.take (k + 1)).count x : Nat) : Int) = ((l.take k).count x : Int) + (if l.getD k 0 = x then 1 else 0) := by
  rw [cnt_next x hk]
  split <;> simp
theorem cnt_small {l : List Int} {k : Nat} (x : Int) : (l.take k).count x ≤ l.length := Nat.le_trans (List.Sublist.count_le _ (List.take_sublist _ _)) List.count_le_length
set_option maxHeartbeats 1000000 in
theorem count_any (a : Option Addr) (n c : Nat) (l : List Int) (x : Int) (w : World) (h : Rd w a n l) (hm : Small n) : Calls Tryz.prog 16 #[.slice a n c, .int .i64 x] w fun e w' => e = .returned (.int .i64 (l.count x : Nat)) ∧ w' = w := by
  have HR : Hid (Rd w a n l) := h
  clear h
  go_enter Tryz.func16, Tryz.ntmps16
  go_wp2_with fail
  go_loopw [5, 7, 10] (fun t _ i wr => wr = w ∧ ∃ k q : Nat, k ≤ n ∧ i = .int .i64 (k : Int) ∧ t = .int .i64 (q : Int) ∧ Hid (q = (l.take k).count x)) (fun _ _ i _ => n - (intOf i).toNat)
  case atStart => exact ⟨rfl, 0, 0, Nat.zero_le _, rfl, rfl, by show 0 = _; simp⟩
  case round =>
    obtain ⟨rfl, k, q, hk, rfl, rfl, HQ⟩ := hrel
    rcases (show k = n ∨ k < n from by omega) with e | hlt
    · have hlt' : ¬ (k : Int) < (n : Int) := by omega
      have HF : Hid ((q : Int) = ((l.count x : Nat) : Int)) := by show (q : Int) = _; rw [HQ.out, e, HR.out.1, List.take_length]
      clear e HQ
      go_wp2
      go_ret
      exact ⟨ret_int HF.out, rfl⟩
    · have hlt' : (k : Int) < (n : Int) := by omega
      have hk0 : (0 : Int) ≤ (k : Int) := by omega
      have hkl : k < l.length := by have := HR.out.1; omega
      obtain ⟨y, hy⟩ : ∃ y, y = l.getD k 0 := ⟨_, rfl⟩
      obtain ⟨g, o, ea, hc⟩ := HR.out.2 (by omega)
      have D : wr.cell? ⟨g, o + k, none⟩ = some (.int .i64 y) := by rw [hy]; exact hc k hlt
      have hq : q < n ∨ q = n := by have h1 := HQ.out; have h2 := cnt_small (l := l) (k := k) x; have h3 := HR.out.1; omega
      have HS : Hid (((l.take (k + 1)).count x) = q + (if y = x then 1 else 0)) := by show _ = _; rw [hy, HQ.out]; exact cnt_next x hkl
      subst ea
      clear hc hy HQ hkl
      by_cases hd : y = x
      · have hd2 : (y == x) = true := by simpa using hd
        have HT : Hid (q + 1 = (l.take (k + 1)).count x) := by show _ = _; rw [HS.out, if_pos hd]
        have hw : wrap64 ((q : Int) + 1) = ((q + 1 : Nat) : Int) := by unfold Small at hm; unfold wrap64; omega
        have HW : Hid (wrap64 ((q : Int) + 1) = ((q + 1 : Nat) : Int)) := hw
        clear hd HS hw hq
        go_wp2_with fail
        go_roundw
        case rel => exact ⟨by first | rfl | trivial, k + 1, q + 1, hlt, by first | rfl | (rw [hm.wrap hlt]; rfl), by first | rfl | (rw [HW.out]), HT⟩
        case measure => first | exact meas_next hlt | (rw [hm.wrap hlt]; exact meas_next hlt)
      · have hd2 : (y == x) = false := by simpa using hd
        have HT : Hid (q = (l.take (k + 1)).count x) := by show _ = _; rw [HS.out, if_neg hd]; rfl
        clear hd HS hq
        go_wp2_with fail
        go_roundw
        case rel => exact ⟨by first | rfl | trivial, k + 1, q, hlt, by first | rfl | (rw [hm.wrap hlt]; rfl), rfl, HT⟩
        case measure => first | exact meas_next hlt | (rw [hm.wrap hlt]; exact meas_next hlt)
/-- One run of a list: from place i up to k, all one number; the next is another one. -/
structure RunTo (l : List Int) (i k : Nat) : Prop where
  lt : i < k
  le : k ≤ l.length
  all : ∀ j, i ≤ j → j < k → l.getD j 0 = l.getD i 0
  nxt : k < l.length → l.getD k 0 ≠ l.getD i 0
set_option maxHeartbeats 1000000 in
theorem run_any (g o n c : Nat) (l : List Int) (w : World) (h : Rd w (some ⟨g, o, none⟩) n l) (h0 : 0 < n) (hm : Small n) : Calls Tryz.prog 38 #[.slice (some ⟨g, o, none⟩) n c] w fun e w' => ∃ k : Nat, e = .returned (.int .i64 (k : Int)) ∧ RunTo l 0 k ∧ w.grownBy w' none := by
  have hc : ∀ j, j < n → w.cell? ⟨g, o + j, none⟩ = some (.int .i64 (l.getD j 0)) := by
    obtain ⟨b, p, e, hc⟩ := h.2 h0
    injection e with e
    injection e with e1 e2
    subst e1
    subst e2
    exact hc
  have HC : Hid (∀ j, j < n → w.cell? ⟨g, o + j, none⟩ = some (.int .i64 (l.getD j 0))) := hc
  have HN : Hid (n = l.length ∧ 0 < n) := ⟨h.1, h0⟩
  obtain ⟨x, hx⟩ : ∃ x, x = l.getD 0 0 := ⟨_, rfl⟩
  have HX : Hid (x = l.getD 0 0) := hx
  clear h hc hx h0
  go_enter Tryz.func38, Tryz.ntmps38
  go_wp2_with fail
  go_loopw [3] (fun i wr => Hid (w.grownBy wr none) ∧ ∃ k : Nat, 1 ≤ k ∧ k ≤ n ∧ i = .int .i64 (k : Int) ∧ Hid (∀ j, j < k → l.getD j 0 = l.getD 0 0)) (fun i _ => n - (intOf i).toNat)
  case atStart =>
    refine ⟨?_, 1, Nat.le_refl _, HN.out.2, rfl, ?_⟩
    · show w.grownBy w none
      exact grown_refl _ _
    · show ∀ j, j < 1 → l.getD j 0 = l.getD 0 0
      intro j hj
      rw [show j = 0 by omega]
  case round =>
    obtain ⟨HG, k, hk1, hkn, rfl, HA⟩ := hrel
    rcases (show k = n ∨ k < n from by omega) with e | hlt
    · have hlt' : ¬ (k : Int) < (n : Int) := by omega
      have hlt2 : ¬ k < n := by omega
      have HF : Hid (RunTo l 0 k) := ⟨by omega, by have := HN.out.1; omega, fun j _ hj => HA.out j hj, fun hq => by have := HN.out.1; omega⟩
      clear e HA hk1
      go_wp2_with fail
      go_quiet (fail)
      go_wp2_with fail
      go_ret
      exact ⟨k, rfl, HF.out, grown_trans HG.out (grown_drewN _ _ _)⟩
    · have hlt' : (k : Int) < (n : Int) := by omega
      have hk0 : (0 : Int) ≤ (k : Int) := by omega
      have hn0 : (0 : Int) < (n : Int) := by omega
      obtain ⟨y, hy⟩ : ∃ y, y = l.getD k 0 := ⟨_, rfl⟩
      have D : wr.cell? ⟨g, o + k, none⟩ = some (.int .i64 y) := by rw [hy]; exact HG.out.cell (HC.out k hlt) (by simp)
      have D0 : wr.cell? ⟨g, o, none⟩ = some (.int .i64 x) := by rw [HX.out]; exact HG.out.cell (HC.out 0 (by omega)) (by simp)
      by_cases hd : y = x
      · have hd2 : (y == x) = true := by simpa using hd
        have HA2 : Hid (∀ j, j < k + 1 → l.getD j 0 = l.getD 0 0) := by
          show ∀ j, j < k + 1 → l.getD j 0 = l.getD 0 0
          intro j hj
          rcases (show j < k ∨ j = k from by omega) with h1 | h1
          · exact HA.out j h1
          · rw [h1, ← hy, hd, HX.out]
        clear hd HA hy hk1
        go_wp2_with fail
        go_quiet (fail)
        go_wp2_with fail
        go_roundw
        case rel => exact ⟨grown_trans HG.out (grown_drewN _ _ _), k + 1, by omega, hlt, by first | rfl | (rw [hm.wrap hlt]; rfl), HA2⟩
        case measure => first | exact meas_next hlt | (rw [hm.wrap hlt]; exact meas_next hlt)
      · have hd2 : (y == x) = false := by simpa using hd
        have HF : Hid (RunTo l 0 k) := ⟨by omega, by have := HN.out.1; omega, fun j _ hj => HA.out j hj, fun _ => by rw [← hy, ← HX.out]; exact hd⟩
        clear hd HA hy hk1
        go_wp2_with fail
        go_quiet (fail)
        go_wp2_with fail
        go_ret
        exact ⟨k, rfl, HF.out, grown_trans HG.out (grown_drewN _ _ _)⟩
end Go.Proofs.YtbcggjacjfcldaaGreatDoor
namespace Go.Proofs.YtbcggjacjfcldaaGreatDoor
open Go.RowKit Go.Shelf

def Tryz.lays316_ren : Go.Shelf.Ren := ⟨fun | 316 => 89 | n => n, fun | 9 => 9 | 3 => 3 | 4 => 4 | 37 => 111 | 0 => 0 | 127 => 143 | 5 => 5 | n => n, fun | n => n⟩
theorem Tryz.lays316 : Go.Proofs.LaysM.n316 Tryz.prog Tryz.lays316_ren := {
  mixed := by kernel_rfl
  f316 := Tryz.func89.trans (congrArg some (by kernel_rfl))
  t0 := Tryz.underlying0
  a0 := Tryz.isAgg0
  z0 := Tryz.sizeOf0
  v0 := Tryz.zeroValue0
  t3 := Tryz.underlying3
  a3 := Tryz.isAgg3
  z3 := Tryz.sizeOf3
  v3 := Tryz.zeroValue3
  t4 := Tryz.underlying4
  a4 := Tryz.isAgg4
  z4 := Tryz.sizeOf4
  v4 := Tryz.zeroValue4
  t9 := Tryz.underlying9
  a9 := Tryz.isAgg9
  z9 := Tryz.sizeOf9
  v9 := Tryz.zeroValue9
  t37 := Tryz.underlying111
  a37 := Tryz.isAgg111
  z37 := Tryz.sizeOf111
  v37 := Tryz.zeroValue111
  t127 := Tryz.underlying143
  a127 := Tryz.isAgg143
  z127 := Tryz.sizeOf143
  v127 := Tryz.zeroValue143
  t5 := Tryz.underlying5
  a5 := Tryz.isAgg5
  z5 := Tryz.sizeOf5
  v5 := Tryz.zeroValue5
  i0 := by kernel_rfl
  i3 := by kernel_rfl
  i4 := by kernel_rfl
  i5 := by kernel_rfl
  i9 := by kernel_rfl
  i37 := by kernel_rfl
  i127 := by kernel_rfl }
theorem below_grown {w w' : World} (h : Below w.heap.size w w') : w.grownBy w' none := ⟨h.os, h.tape, h.output, h.size, fun k hk _ => h.block k hk⟩
theorem clone_any (s : ByteArray) (hs : s.size ≤ 281474976710656) (w : World) : Calls Tryz.prog 66 #[.string s] w fun e w' => e = .returned (.string s) ∧ w.grownBy w' none := by
  have c := Any.stringslite_Clone Tryz.lays316 s w hs
  change Calls Tryz.prog 89 _ _ _ at c
  go_enter Tryz.func66, Tryz.ntmps66
  go_wp2_with (go_at_call 89; refine c.mono ?_; rintro e w1 ⟨rfl, h⟩)
  go_ret
  exact ⟨rfl, below_grown h⟩
end Go.Proofs.YtbcggjacjfcldaaGreatDoor
namespace Go.Proofs.YtbcggjacjfcldaaGreatDoor
open Go.RowKit

def fF (n : Int) : Bool := decide (-9 ≤ n) && decide (n ≤ 9)
theorem forceF_any (n : Int) (w : World) : Calls Tryz.prog 63 #[.int .i64 n] w fun e w' => e = .returned (.bool (fF n)) ∧ w' = w := by
  by_cases h : -9 ≤ n
  · have e : fF n = decide (n ≤ 9) := by simp [fF, h]
    rw [e]
    go_enter Tryz.func63, Tryz.ntmps63
    go_wp2
    go_ret
    exact ⟨rfl, rfl⟩
  · have e : fF n = false := by simp [fF, h]
    rw [e]
    go_enter Tryz.func63, Tryz.ntmps63
    go_wp2
    go_ret
    exact ⟨rfl, rfl⟩
/-- A row of texts. -/
def StrAt (w : World) (g o : Nat) (l : List ByteArray) : Prop := ∀ (j : Nat) s, l[j]? = some s → w.cell? ⟨g, o + j, none⟩ = some (.string s)
def NoTo (l : List ByteArray) (s : ByteArray) (k : Nat) : Prop := ∀ (j : Nat) x, j < k → l[j]? = some x → ¬ x = s
theorem noTo_next {l : List ByteArray} {s x : ByteArray} {k : Nat} (h : NoTo l s k) (he : l[k]? = some x) (hs : ¬ x = s) : NoTo l s (k + 1) := fun j y hj hy => by
  rcases (show j < k ∨ j = k by omega) with hj | rfl
  · exact h j y hj hy
  · rw [he] at hy
    cases hy
    exact hs
theorem BkJ.strs {w : World} {b : Nat} {es : List Ent} {junk : List Value} {p : Pl} (h : BkJ w b es junk p) : StrAt w b 579 p.nms := fun _ _ hs => h.name hs
/-- What Trait tells. -/
def trE (p : Pl) (t : Int) (s : ByteArray) : Int := if p.shut = true then 7 else if t < 1 ∨ 8 < t then 2 else if nameOk s.data.toList = false then 4 else if ¬ p.nms.getD t.toNat ⟨#[]⟩ = ⟨#[]⟩ ∨ 0 ≤ pos p.nms s then 5 else 0
def trP (p : Pl) (t : Int) (s : ByteArray) : Pl := if trE p t s = 0 then { p with nms := p.nms.set t.toNat s } else p
theorem grown_own' {a b c : World} {r : Option Nat} (h : a.grownBy b none) (k : b.grownBy c r) : a.grownBy c r := ⟨k.os.trans h.os, k.tape.trans h.tape, k.output.trans h.output, Nat.le_trans h.size k.size, fun i hi hr => (k.block i (Nat.lt_of_lt_of_le hi h.size) hr).trans (h.block i hi (by simp))⟩
theorem toList_ne {x : ByteArray} (h : ¬ x = ⟨#[]⟩) : (x.toList == []) = false := by
  cases hb : (x.toList == []) with
  | false => rfl
  | true => exact absurd (bytes_inj (by rw [eq_of_beq hb]; kernel_rfl)) h
theorem BkJ.setN {w : World} {b : Nat} {es : List Ent} {junk : List Value} {p : Pl} (h : BkJ w b es junk p) {t : Nat} (ht : t < 9) (s : ByteArray) : BkJ (w.setCell ⟨b, 579 + t, none⟩ (.string s)) b es junk { p with nms := p.nms.set t s } := by
  refine ⟨?_, h.fit, by simpa using h.nine, h.five⟩
  rw [block_set h.lies]
  congr 2
  rw [List.setIfInBounds_toArray]
  congr 1
  unfold bcells plc
  have h1 := h.fit
  have h2 := h.nine
  rw [List.set_append_right _ _ (by rw [ecells_len]; omega), List.set_append_right _ _ (by rw [ecells_len]; omega), ecells_len]
  rw [show 579 + t - es.length * 9 - junk.length = t + 1 + 1 + 1 by omega]
  simp only [List.set_cons_succ]
  rw [List.set_append_left _ _ (by simp; omega), List.map_set]
/-- What TraitName tells. -/
def tnS (p : Pl) (t : Int) : ByteArray := if t < 9 then p.nms.getD t.toNat ⟨#[]⟩ else ⟨#[]⟩
def tnB (p : Pl) (t : Int) : Bool := !decide (tnS p t = ⟨#[]⟩)
theorem getD_some {α : Type} {l : List α} {k : Nat} {d : α} (h : k < l.length) : l[k]? = some (l.getD k d) := by simp [List.getD, h]
theorem empty_list : (ByteArray.mk #[]).toList = [] := by kernel_rfl
end Go.Proofs.YtbcggjacjfcldaaGreatDoor
