/-
  What suit tells of every number and every text: Name, All, Of. The package's table of names is as the program lays it, and each call touches nothing that was there.
-/
import Derived.Test.YtpceelbphpfciaaGreatDoorLib2
import Derived.RangeFuncNested
import Derived.RangeFuncBound
import Derived.RangeFuncCalls
import Derived.RangeFuncLeaves
import Derived.Shelf.Abstract
import Derived.Shelf.RegionOpen
import Derived.OwnWalkIn
import Derived.TacticsInMore
import Derived.LoopNIn
import Derived.LoopIn
namespace Go.Proofs.YtpceelbphpfciaaGreatDoor
open Go.RowKit Go.Shelf

attribute [local go_sem] Oper.semAt_some

/-- The suit's number, of its place. -/
def suitV (x : Fin 6) : Int := (x.val : Int) + 1
theorem v0 : suitV 0 = 1 := rfl
theorem v1 : suitV 1 = 2 := rfl
theorem v2 : suitV 2 = 3 := rfl
theorem v3 : suitV 3 = 4 := rfl
theorem v4 : suitV 4 = 5 := rfl
theorem v5 : suitV 5 = 6 := rfl
theorem fin_six (x : Fin 6) : x = 0 ∨ x = 1 ∨ x = 2 ∨ x = 3 ∨ x = 4 ∨ x = 5 := by revert x; decide
/-- The first so many suits. -/
def suits (k : Nat) : List (Fin 6) := List.take k [0, 1, 2, 3, 4, 5]
theorem suits_length (k : Nat) (h : k ≤ 6) : (suits k).length = k := by simp [suits]; omega

set_option maxHeartbeats 1000000 in
theorem all_any (w : World) : Calls Tryz.prog 162 #[] w fun e w' => e = .returned (.func (.func 179) #[] #[]) ∧ w' = w := by
  go_enter Tryz.func162, Tryz.ntmps162
  go_wp2
  go_ret
  exact ⟨rfl, rfl⟩

set_option maxRecDepth 100000 in
set_option maxHeartbeats 2000000 in
theorem all_stops (F : Fence) (n : Nat) (h135 : F.fn 179) (hro : F.round = none) (hn : 1 ≤ n) (w : World) :
    SeqStopsK F n Tryz.prog 179 #[] (fun x : Fin 6 => #[Value.int .u8 (suitV x)]) (fun _ _ => True) (fun xs => xs = suits 6) (fun pre => ∃ k, 1 ≤ k ∧ k ≤ 6 ∧ pre = suits k) 6 w := fun l J Jx W _ _ _ hY h0 => by
  refine callsIn_of_wp Tryz.func179 rfl h135 ?_ hro
  simp only [Tryz.ntmps179, List.size_toArray, List.length_cons, List.length_nil, Nat.reduceAdd, Nat.reduceSub, Array.replicate_succ, Array.replicate_zero, List.push_toArray, List.append_toArray, List.nil_append, List.cons_append]
  gi_wp2
  gi_loopw [2] (fun s wr => ∃ k : Nat, k ≤ 6 ∧ s = .int .u8 (k + 1) ∧ J (suits k) wr) (fun s _ => 7 - (intOf s).toNat)
  case atStart => exact ⟨0, by omega, rfl, h0⟩
  case round =>
    obtain ⟨k, hk, rfl, hJs⟩ := hrel
    rcases (by omega : k = 0 ∨ k = 1 ∨ k = 2 ∨ k = 3 ∨ k = 4 ∨ k = 5 ∨ k = 6) with rfl | rfl | rfl | rfl | rfl | rfl | rfl
    all_goals simp only [Int.cast_ofNat_Int, Int.reduceAdd]
    · obtain ⟨fn, tmps, assign, body, hy, hR⟩ := hY (suits 0) 0 wr hJs (by rw [suits_length _ (by omega)]; omega)
      rw [v0] at hy
      gi_wp2
      refine hR.mono ?_
      rintro e W3 (⟨rfl, hJ3, _⟩ | ⟨rfl, hJx3⟩)
      · gi_wp2
        go_roundw
        case rel => exact ⟨1, by omega, rfl, hJ3⟩
        case measure => decide
      · gi_wp2
        refine bodyPost_ret (results_none rfl _ _ _) rfl ?_
        exact ⟨⟨_, rfl⟩, .inr ⟨suits 1, ⟨1, by omega, by omega, rfl⟩, hJx3⟩⟩
    · obtain ⟨fn, tmps, assign, body, hy, hR⟩ := hY (suits 1) 1 wr hJs (by rw [suits_length _ (by omega)]; omega)
      rw [v1] at hy
      gi_wp2
      refine hR.mono ?_
      rintro e W3 (⟨rfl, hJ3, _⟩ | ⟨rfl, hJx3⟩)
      · gi_wp2
        go_roundw
        case rel => exact ⟨2, by omega, rfl, hJ3⟩
        case measure => decide
      · gi_wp2
        refine bodyPost_ret (results_none rfl _ _ _) rfl ?_
        exact ⟨⟨_, rfl⟩, .inr ⟨suits 2, ⟨2, by omega, by omega, rfl⟩, hJx3⟩⟩
    · obtain ⟨fn, tmps, assign, body, hy, hR⟩ := hY (suits 2) 2 wr hJs (by rw [suits_length _ (by omega)]; omega)
      rw [v2] at hy
      gi_wp2
      refine hR.mono ?_
      rintro e W3 (⟨rfl, hJ3, _⟩ | ⟨rfl, hJx3⟩)
      · gi_wp2
        go_roundw
        case rel => exact ⟨3, by omega, rfl, hJ3⟩
        case measure => decide
      · gi_wp2
        refine bodyPost_ret (results_none rfl _ _ _) rfl ?_
        exact ⟨⟨_, rfl⟩, .inr ⟨suits 3, ⟨3, by omega, by omega, rfl⟩, hJx3⟩⟩
    · obtain ⟨fn, tmps, assign, body, hy, hR⟩ := hY (suits 3) 3 wr hJs (by rw [suits_length _ (by omega)]; omega)
      rw [v3] at hy
      gi_wp2
      refine hR.mono ?_
      rintro e W3 (⟨rfl, hJ3, _⟩ | ⟨rfl, hJx3⟩)
      · gi_wp2
        go_roundw
        case rel => exact ⟨4, by omega, rfl, hJ3⟩
        case measure => decide
      · gi_wp2
        refine bodyPost_ret (results_none rfl _ _ _) rfl ?_
        exact ⟨⟨_, rfl⟩, .inr ⟨suits 4, ⟨4, by omega, by omega, rfl⟩, hJx3⟩⟩
    · obtain ⟨fn, tmps, assign, body, hy, hR⟩ := hY (suits 4) 4 wr hJs (by rw [suits_length _ (by omega)]; omega)
      rw [v4] at hy
      gi_wp2
      refine hR.mono ?_
      rintro e W3 (⟨rfl, hJ3, _⟩ | ⟨rfl, hJx3⟩)
      · gi_wp2
        go_roundw
        case rel => exact ⟨5, by omega, rfl, hJ3⟩
        case measure => decide
      · gi_wp2
        refine bodyPost_ret (results_none rfl _ _ _) rfl ?_
        exact ⟨⟨_, rfl⟩, .inr ⟨suits 5, ⟨5, by omega, by omega, rfl⟩, hJx3⟩⟩
    · obtain ⟨fn, tmps, assign, body, hy, hR⟩ := hY (suits 5) 5 wr hJs (by rw [suits_length _ (by omega)]; omega)
      rw [v5] at hy
      gi_wp2
      refine hR.mono ?_
      rintro e W3 (⟨rfl, hJ3, _⟩ | ⟨rfl, hJx3⟩)
      · gi_wp2
        go_roundw
        case rel => exact ⟨6, by omega, rfl, hJ3⟩
        case measure => decide
      · gi_wp2
        refine bodyPost_ret (results_none rfl _ _ _) rfl ?_
        exact ⟨⟨_, rfl⟩, .inr ⟨suits 6, ⟨6, by omega, by omega, rfl⟩, hJx3⟩⟩
    · gi_wp2
      go_end0
      exact ⟨⟨_, rfl⟩, .inl ⟨_, rfl, hJs⟩⟩

/-- The names, in the package's table. -/
def SuitsAt (w : World) : Prop := w.cell? ⟨0, 1, none⟩ = some (.string ⟨#[97, 105, 114]⟩) ∧ w.cell? ⟨0, 2, none⟩ = some (.string ⟨#[101, 97, 114, 116, 104]⟩) ∧ w.cell? ⟨0, 3, none⟩ = some (.string ⟨#[102, 105, 114, 101]⟩) ∧ w.cell? ⟨0, 4, none⟩ = some (.string ⟨#[119, 97, 116, 101, 114]⟩) ∧ w.cell? ⟨0, 5, none⟩ = some (.string ⟨#[118, 111, 105, 100]⟩) ∧ w.cell? ⟨0, 6, none⟩ = some (.string ⟨#[103, 111, 108, 100]⟩)
theorem SuitsAt.keep {w w' : World} (h : SuitsAt w) (g : w.grownBy w' none) : SuitsAt w' := ⟨g.cell h.1 (by simp), g.cell h.2.1 (by simp), g.cell h.2.2.1 (by simp), g.cell h.2.2.2.1 (by simp), g.cell h.2.2.2.2.1 (by simp), g.cell h.2.2.2.2.2 (by simp)⟩
def sName (k : Int) : ByteArray := if k = 1 then ⟨#[97, 105, 114]⟩ else if k = 2 then ⟨#[101, 97, 114, 116, 104]⟩ else if k = 3 then ⟨#[102, 105, 114, 101]⟩ else if k = 4 then ⟨#[119, 97, 116, 101, 114]⟩ else if k = 5 then ⟨#[118, 111, 105, 100]⟩ else if k = 6 then ⟨#[103, 111, 108, 100]⟩ else ⟨#[]⟩
/-- One of the six. -/
def Six (k : Int) : Prop := k = 1 ∨ k = 2 ∨ k = 3 ∨ k = 4 ∨ k = 5 ∨ k = 6
theorem six_or (k : Int) : Six k ∨ (k < 1 ∨ 6 < k) := by unfold Six; omega
theorem six_no (k : Int) (h : k < 1 ∨ 6 < k) : sName k = ⟨#[]⟩ := by
  have h1 : ¬ k = 1 := by omega
  have h2 : ¬ k = 2 := by omega
  have h3 : ¬ k = 3 := by omega
  have h4 : ¬ k = 4 := by omega
  have h5 : ¬ k = 5 := by omega
  have h6 : ¬ k = 6 := by omega
  simp [sName, h1, h2, h3, h4, h5, h6]
set_option maxHeartbeats 1000000 in
theorem isSuit_yes (k : Int) (h : 1 ≤ k) (h' : k ≤ 6) (w : World) : Calls Tryz.prog 130 #[.int .u8 k] w fun e w' => e = .returned (.bool true) ∧ w' = w := by
  go_enter Tryz.func130, Tryz.ntmps130
  go_wp2
  go_ret
  exact ⟨rfl, rfl⟩
set_option maxHeartbeats 1000000 in
theorem isSuit_no (k : Int) (h : k < 1 ∨ 6 < k) (w : World) : Calls Tryz.prog 130 #[.int .u8 k] w fun e w' => e = .returned (.bool false) ∧ w' = w := by
  rcases h with h | h
  · have h0 : ¬ 1 ≤ k := by omega
    go_enter Tryz.func130, Tryz.ntmps130
    go_wp2
    go_ret
    exact ⟨rfl, rfl⟩
  · have h0 : 1 ≤ k := by omega
    have h1 : ¬ k ≤ 6 := by omega
    go_enter Tryz.func130, Tryz.ntmps130
    go_wp2
    go_ret
    exact ⟨rfl, rfl⟩
set_option maxHeartbeats 1000000 in
theorem sname_any (k : Int) (w : World) (N : SuitsAt w) : Calls Tryz.prog 80 #[.int .u8 k] w fun e w' => e = .returned (.string (sName k)) ∧ w' = w := by
  obtain ⟨c1, c2, c3, c4, c5, c6⟩ := N
  rcases six_or k with h | h
  · rcases h with rfl | rfl | rfl | rfl | rfl | rfl
    all_goals
      go_enter Tryz.func80, Tryz.ntmps80
      go_wp2_with fail
      refine (isSuit_yes _ (by omega) (by omega) _).mono ?_
      rintro e w1 ⟨rfl, rfl⟩
      go_wp2
      go_ret
      exact ⟨rfl, rfl⟩
  · rw [six_no k h]
    go_enter Tryz.func80, Tryz.ntmps80
    go_wp2_with fail
    refine (isSuit_no _ h _).mono ?_
    rintro e w1 ⟨rfl, rfl⟩
    go_wp2
    go_ret
    exact ⟨rfl, rfl⟩
/-- The name's bytes, by the suit's place. -/
def suL (x : Fin 6) : List UInt8 := match x.val with
  | 0 => [97, 105, 114]
  | 1 => [101, 97, 114, 116, 104]
  | 2 => [102, 105, 114, 101]
  | 3 => [119, 97, 116, 101, 114]
  | 4 => [118, 111, 105, 100]
  | _ => [103, 111, 108, 100]
def suI (s : List UInt8) : Int := if suL 0 = s then 1 else if suL 1 = s then 2 else if suL 2 = s then 3 else if suL 3 = s then 4 else if suL 4 = s then 5 else if suL 5 = s then 6 else 0
def suB (s : List UInt8) : Bool := if suL 0 = s then true else if suL 1 = s then true else if suL 2 = s then true else if suL 3 = s then true else if suL 4 = s then true else if suL 5 = s then true else false
theorem su_hit (x : Fin 6) : suI (suL x) = suitV x ∧ suB (suL x) = true := by revert x; decide
theorem su_miss (s : List UInt8) (h : ∀ x ∈ suits 6, suL x ≠ s) : suI s = 0 ∧ suB s = false := by
  have h0 := h 0 (by decide)
  have h1 := h 1 (by decide)
  have h2 := h 2 (by decide)
  have h3 := h 3 (by decide)
  have h4 := h 4 (by decide)
  have h5 := h 5 (by decide)
  simp [suI, suB, h0, h1, h2, h3, h4, h5]
/-- The loop's boxes: the text, the suit, whether it was found; and the tables. -/
def OfAt (B : Nat) (s : ByteArray) (v : Int) (b : Bool) (W : World) : Prop := W.cell? ⟨B, 0, none⟩ = some (.string s) ∧ W.cell? ⟨B + 1, 0, none⟩ = some (.int .u8 v) ∧ W.frozen? ⟨B + 1, 0, none⟩ = false ∧ W.cell? ⟨B + 1 + 1, 0, none⟩ = some (.bool b) ∧ W.frozen? ⟨B + 1 + 1, 0, none⟩ = false ∧ SuitsAt W
theorem SuitsAt.kept {W W' : World} {row : Option Nat} (h : SuitsAt W) (hg : W.grownBy W' row) (hr : ∀ r, row = some r → ∃ o : Obj, W.heap[r]? = some o ∧ o.isCells = false) : SuitsAt W' :=
  ⟨cell_kept h.1 hg hr, cell_kept h.2.1 hg hr, cell_kept h.2.2.1 hg hr, cell_kept h.2.2.2.1 hg hr, cell_kept h.2.2.2.2.1 hg hr, cell_kept h.2.2.2.2.2 hg hr⟩
theorem OfAt.kept {B : Nat} {s : ByteArray} {v : Int} {b : Bool} {W W' : World} {row : Option Nat} (h : OfAt B s v b W) (hg : W.grownBy W' row) (hr : ∀ r, row = some r → ∃ o : Obj, W.heap[r]? = some o ∧ o.isCells = false) : OfAt B s v b W' :=
  ⟨cell_kept h.1 hg hr, cell_kept h.2.1 hg hr, (frozen_kept h.2.1 hg hr).trans h.2.2.1, cell_kept h.2.2.2.1 hg hr, (frozen_kept h.2.2.2.1 hg hr).trans h.2.2.2.2.1, h.2.2.2.2.2.kept hg hr⟩
theorem OfAt.hit {B : Nat} {s : ByteArray} {W : World} (v : Int) (h : OfAt B s 0 false W) : OfAt B s v true ((W.setCell ⟨B + 1, 0, none⟩ (.int .u8 v)).setCell ⟨B + 1 + 1, 0, none⟩ (.bool true)).drew := by
  obtain ⟨k0, k1, f1, k2, f2, N⟩ := h
  have g1 := grown_set W (B + 1) 0 (.int .u8 v)
  have g2 := grown_set (W.setCell ⟨B + 1, 0, none⟩ (.int .u8 v)) (B + 1 + 1) 0 (.bool true)
  refine ⟨g2.cell (g1.cell k0 (by simp)) (by simp; omega), g2.cell (World.cell?_setCell_same' _ _ _ (by rw [k1]; rfl)) (by simp), ?_, World.cell?_setCell_same' _ _ _ (by rw [g1.cell k2 (by simp)]; rfl), ?_, ?_⟩
  · show World.frozen? (World.setCell _ _ _) _ = false
    rw [World.frozen?_setCell, World.frozen?_setCell]; exact f1
  · show World.frozen? (World.setCell _ _ _) _ = false
    rw [World.frozen?_setCell, World.frozen?_setCell]; exact f2
  · exact ⟨g2.cell (g1.cell N.1 (by simp)) (by simp), g2.cell (g1.cell N.2.1 (by simp)) (by simp), g2.cell (g1.cell N.2.2.1 (by simp)) (by simp), g2.cell (g1.cell N.2.2.2.1 (by simp)) (by simp), g2.cell (g1.cell N.2.2.2.2.1 (by simp)) (by simp), g2.cell (g1.cell N.2.2.2.2.2 (by simp)) (by simp)⟩
theorem keeps_two (W : World) (a b : Addr) (x y : Value) : KeepsOthers W ((W.setCell a x).setCell b y).drew := ((KeepsOthers.setCell _ _ _).trans (KeepsOthers.setCell _ _ _)).trans (KeepsOthers.drew _)
theorem below_two {w W : World} {B : Nat} (h : Below B w W) (i j : Nat) (x y : Value) : Below B w ((W.setCell ⟨B + 1, i, none⟩ x).setCell ⟨B + 1 + 1, j, none⟩ y).drew := ((h.setCell (p := ⟨B + 1, i, none⟩) (by simp) x).setCell (p := ⟨B + 1 + 1, j, none⟩) (by simp; omega) y).drew
theorem not_snoc {s : List UInt8} {pre : List (Fin 6)} {x : Fin 6} (h : ∀ y ∈ pre, suL y ≠ s) (hx : ¬ suL x = s) : ∀ y ∈ pre ++ [x], suL y ≠ s := fun y hy => (List.mem_append.1 hy).elim (h y) (fun e => by simp at e; subst e; exact hx)
set_option maxRecDepth 100000 in
set_option maxHeartbeats 2000000 in
theorem sof_any (s : ByteArray) (w : World) (N : SuitsAt w) : Calls Tryz.prog 138 #[.string s] w fun e w' => e = .returned (.tuple #[.int .u8 (suI s.toList), .bool (suB s.toList)]) ∧ w.grownBy w' none := by
  refine (callsIn_wide (n := 3)).1 ?_
  refine callsIn_of_wp_marks Tryz.func138 rfl trivial ?_ rfl
  simp only [Tryz.ntmps138, List.size_toArray, List.length_cons, List.length_nil, Nat.reduceAdd, Nat.reduceSub, Array.replicate_succ, Array.replicate_zero, List.push_toArray, List.append_toArray, List.nil_append, List.cons_append]
  gi_wp2_with (refine ⟨trivial, ?_⟩; gi_at_call 162; refine (callsIn_wide.2 (all_any _)).mono ?_; rintro e w' ⟨rfl, rfl⟩)
  obtain ⟨W0, hW0⟩ : ∃ W0, ((w.alloc (.cells #[.string s] 9)).alloc (.cells #[.int .u8 0] 25)).alloc (.cells #[.bool false] 4) = W0 := ⟨_, rfl⟩
  have hs0 : W0.heap.size = w.heap.size + 3 := by rw [← hW0]; simp
  have G0 : w.grownBy W0 none := by rw [← hW0]; exact grown_push (grown_push (World.grownBy_alloc _ _ _) _) _
  have b0 : W0.heap[w.heap.size]? = some (.cells #[.string s] 9 (0, 0)) := by
    rw [← hW0]; exact grown_keep (grown_push (World.grownBy_alloc _ _ none) _) (alloc_at w _ _) (by simp)
  have b1 : W0.heap[w.heap.size + 1]? = some (.cells #[.int .u8 0] 25 (0, 0)) := by
    rw [← hW0]; have := alloc_at (w.alloc (.cells #[.string s] 9)) #[.int .u8 0] 25; rw [World.size_alloc] at this; exact grown_keep (World.grownBy_alloc _ _ none) this (by simp)
  have b2 : W0.heap[w.heap.size + 1 + 1]? = some (.cells #[.bool false] 4 (0, 0)) := by
    rw [← hW0]; have := alloc_at ((w.alloc (.cells #[.string s] 9)).alloc (.cells #[.int .u8 0] 25)) #[.bool false] 4; rw [World.size_alloc, World.size_alloc] at this; exact this
  have A0 : OfAt w.heap.size s 0 false W0 := ⟨block_cell b0 0, block_cell b1 0, block_free b1 0, block_cell b2 0, block_free b2 0, N.keep G0⟩
  have B0 : Below w.heap.size w W0 := grown_below G0
  clear b0 b1 b2 G0
  rw [hW0]
  clear hW0
  refine wpIn_rangeFunc_ownF rfl (by omega) (gf := 179) (lb := #[]) rfl trivial (enters_of Tryz.func179 (by kernel_rfl) rfl) (all_stops Fence.wide _ trivial rfl (by omega) _) (fun _ _ => trivial) (fun _ _ _ _ _ _ _ _ => trivial) (Below.refl _ _) (fun _ => rfl)
    (fun pre W => ((∀ x ∈ pre, suL x ≠ s.toList) ∧ OfAt w.heap.size s 0 false W) ∧ Below w.heap.size w W)
    (fun c _ W => (c = .ret ∧ ∃ x, suL x = s.toList ∧ OfAt w.heap.size s (suitV x) true W) ∧ Below w.heap.size w W)
    (OwnFrom.and (Own.from (fun _ _ _ _ hs hg hr => ⟨hs.1, hs.2.kept hg hr⟩) _) (ownFrom_below (Nat.le_refl _) (by omega)))
    (fun _ => OwnFrom.and (Own.from (fun _ _ _ _ hs hg hr => ⟨hs.1, let ⟨x, hx, ho⟩ := hs.2; ⟨x, hx, ho.kept hg hr⟩⟩) _) (ownFrom_below (Nat.le_refl _) (by omega)))
    ⟨⟨by simp, A0⟩, B0⟩
    (fun x => { tmps := #[.string s, .pointer (some ⟨w.heap.size, 0, none⟩), .pointer (some ⟨w.heap.size + 1, 0, none⟩), .pointer (some ⟨w.heap.size + 1 + 1, 0, none⟩), .int .u8 (suitV x), .func (.func 179) #[] #[], .int .u8 (suitV x), undef, undef, undef, undef, undef, undef], defers := [] }) ?assign ?body ?done ?stop
  case assign =>
    intro l x W K hK
    gi_wp2
    exact hK
  case body =>
    rintro l pre x W ⟨⟨hp, hO⟩, hB⟩ _
    have hmx : Tryz.prog.follows .mixedOrders = true := by kernel_rfl
    have HO : Hid (OfAt w.heap.size s 0 false W) := hO
    have HB : Hid (Below w.heap.size w W) := hB
    have HP : Hid (∀ y ∈ pre, suL y ≠ s.toList) := hp
    obtain ⟨k0, k1, f1, k2, f2, c1, c2, c3, c4, c5, c6⟩ := hO
    clear hB hp
    rcases fin_six x with rfl | rfl | rfl | rfl | rfl | rfl
    · rw [v0]
      by_cases he : ([97, 105, 114] : List UInt8) = s.toList
      · have hd : (([97, 105, 114] : List UInt8) == s.toList) = true := by simpa using he
        have HE : Hid (([97, 105, 114] : List UInt8) = s.toList) := he
        clear he
        gi_wp2
        gi_region_with_o (fail)
        all_goals gi_wp2
        all_goals exact ⟨keeps_two _ _ _ _ _, ⟨rfl, 0, HE.out, HO.out.hit 1⟩, below_two HB.out _ _ _ _⟩
      · have hd : (([97, 105, 114] : List UInt8) == s.toList) = false := by simpa using he
        have HE : Hid (¬ ([97, 105, 114] : List UInt8) = s.toList) := he
        clear he
        gi_wp2
        gi_region_with_o (fail)
        all_goals gi_wp2
        all_goals exact ⟨KeepsOthers.drew _, trivial, ⟨not_snoc HP.out HE.out, HO.out⟩, HB.out.drew⟩
    · rw [v1]
      by_cases he : ([101, 97, 114, 116, 104] : List UInt8) = s.toList
      · have hd : (([101, 97, 114, 116, 104] : List UInt8) == s.toList) = true := by simpa using he
        have HE : Hid (([101, 97, 114, 116, 104] : List UInt8) = s.toList) := he
        clear he
        gi_wp2
        gi_region_with_o (fail)
        all_goals gi_wp2
        all_goals exact ⟨keeps_two _ _ _ _ _, ⟨rfl, 1, HE.out, HO.out.hit 2⟩, below_two HB.out _ _ _ _⟩
      · have hd : (([101, 97, 114, 116, 104] : List UInt8) == s.toList) = false := by simpa using he
        have HE : Hid (¬ ([101, 97, 114, 116, 104] : List UInt8) = s.toList) := he
        clear he
        gi_wp2
        gi_region_with_o (fail)
        all_goals gi_wp2
        all_goals exact ⟨KeepsOthers.drew _, trivial, ⟨not_snoc HP.out HE.out, HO.out⟩, HB.out.drew⟩
    · rw [v2]
      by_cases he : ([102, 105, 114, 101] : List UInt8) = s.toList
      · have hd : (([102, 105, 114, 101] : List UInt8) == s.toList) = true := by simpa using he
        have HE : Hid (([102, 105, 114, 101] : List UInt8) = s.toList) := he
        clear he
        gi_wp2
        gi_region_with_o (fail)
        all_goals gi_wp2
        all_goals exact ⟨keeps_two _ _ _ _ _, ⟨rfl, 2, HE.out, HO.out.hit 3⟩, below_two HB.out _ _ _ _⟩
      · have hd : (([102, 105, 114, 101] : List UInt8) == s.toList) = false := by simpa using he
        have HE : Hid (¬ ([102, 105, 114, 101] : List UInt8) = s.toList) := he
        clear he
        gi_wp2
        gi_region_with_o (fail)
        all_goals gi_wp2
        all_goals exact ⟨KeepsOthers.drew _, trivial, ⟨not_snoc HP.out HE.out, HO.out⟩, HB.out.drew⟩
    · rw [v3]
      by_cases he : ([119, 97, 116, 101, 114] : List UInt8) = s.toList
      · have hd : (([119, 97, 116, 101, 114] : List UInt8) == s.toList) = true := by simpa using he
        have HE : Hid (([119, 97, 116, 101, 114] : List UInt8) = s.toList) := he
        clear he
        gi_wp2
        gi_region_with_o (fail)
        all_goals gi_wp2
        all_goals exact ⟨keeps_two _ _ _ _ _, ⟨rfl, 3, HE.out, HO.out.hit 4⟩, below_two HB.out _ _ _ _⟩
      · have hd : (([119, 97, 116, 101, 114] : List UInt8) == s.toList) = false := by simpa using he
        have HE : Hid (¬ ([119, 97, 116, 101, 114] : List UInt8) = s.toList) := he
        clear he
        gi_wp2
        gi_region_with_o (fail)
        all_goals gi_wp2
        all_goals exact ⟨KeepsOthers.drew _, trivial, ⟨not_snoc HP.out HE.out, HO.out⟩, HB.out.drew⟩
    · rw [v4]
      by_cases he : ([118, 111, 105, 100] : List UInt8) = s.toList
      · have hd : (([118, 111, 105, 100] : List UInt8) == s.toList) = true := by simpa using he
        have HE : Hid (([118, 111, 105, 100] : List UInt8) = s.toList) := he
        clear he
        gi_wp2
        gi_region_with_o (fail)
        all_goals gi_wp2
        all_goals exact ⟨keeps_two _ _ _ _ _, ⟨rfl, 4, HE.out, HO.out.hit 5⟩, below_two HB.out _ _ _ _⟩
      · have hd : (([118, 111, 105, 100] : List UInt8) == s.toList) = false := by simpa using he
        have HE : Hid (¬ ([118, 111, 105, 100] : List UInt8) = s.toList) := he
        clear he
        gi_wp2
        gi_region_with_o (fail)
        all_goals gi_wp2
        all_goals exact ⟨KeepsOthers.drew _, trivial, ⟨not_snoc HP.out HE.out, HO.out⟩, HB.out.drew⟩
    · rw [v5]
      by_cases he : ([103, 111, 108, 100] : List UInt8) = s.toList
      · have hd : (([103, 111, 108, 100] : List UInt8) == s.toList) = true := by simpa using he
        have HE : Hid (([103, 111, 108, 100] : List UInt8) = s.toList) := he
        clear he
        gi_wp2
        gi_region_with_o (fail)
        all_goals gi_wp2
        all_goals exact ⟨keeps_two _ _ _ _ _, ⟨rfl, 5, HE.out, HO.out.hit 6⟩, below_two HB.out _ _ _ _⟩
      · have hd : (([103, 111, 108, 100] : List UInt8) == s.toList) = false := by simpa using he
        have HE : Hid (¬ ([103, 111, 108, 100] : List UInt8) = s.toList) := he
        clear he
        gi_wp2
        gi_region_with_o (fail)
        all_goals gi_wp2
        all_goals exact ⟨KeepsOthers.drew _, trivial, ⟨not_snoc HP.out HE.out, HO.out⟩, HB.out.drew⟩
  case done =>
    rintro D ys W hD rfl ⟨⟨hne, k0, k1, f1, k2, f2, _⟩, hB⟩ hK
    obtain ⟨e1, e2⟩ := su_miss _ hne
    gi_wp2
    have hK' := ((KeepsOthers.setCell W ⟨w.heap.size + 1, 0, none⟩ (.int .u8 0)).trans (KeepsOthers.setCell _ ⟨w.heap.size + 1 + 1, 0, none⟩ (.bool false))).same D _ hK rfl
    have g1 := grown_set W (w.heap.size + 1) 0 (.int .u8 0)
    have g2 := grown_set (W.setCell ⟨w.heap.size + 1, 0, none⟩ (.int .u8 0)) (w.heap.size + 1 + 1) 0 (.bool false)
    refine ⟨by simp, .inl ⟨_, _, rfl, run_takeDeferred hK', ?_⟩⟩
    have hc1 := cell_kept (g2.cell (World.cell?_setCell_same' W ⟨w.heap.size + 1, 0, none⟩ (.int .u8 0) (by rw [k1]; rfl)) (by simp)) (grownBy_putObj' _ D (.deferred none)) (fun r e => by cases e; exact ⟨_, hK', rfl⟩)
    have hc2 := cell_kept (World.cell?_setCell_same' (W.setCell ⟨w.heap.size + 1, 0, none⟩ (.int .u8 0)) ⟨w.heap.size + 1 + 1, 0, none⟩ (.bool false) (by rw [g1.cell k2 (by simp)]; rfl)) (grownBy_putObj' _ D (.deferred none)) (fun r e => by cases e; exact ⟨_, hK', rfl⟩)
    refine ⟨.tuple #[.int .u8 0, .bool false], ?_, by rw [e1, e2], below_grown (((hB.setCell (p := ⟨w.heap.size + 1, 0, none⟩) (by simp) _).setCell (p := ⟨w.heap.size + 1 + 1, 0, none⟩) (by simp; omega) _).trans (belowK_b (w := w) (Nat.le_refl _) _ D _ _ (by omega) hK' rfl rfl))⟩
    simp [results, Tryz.f138, go_sem, hc1, hc2]
  case stop =>
    rintro D c pre W hD hpre ⟨⟨rfl, x, hx, k0, k1, f1, k2, f2, _⟩, hB⟩ hK
    obtain ⟨e1, e2⟩ := su_hit x
    rw [hx] at e1 e2
    gi_wp2
    refine ⟨by simp, .inl ⟨_, _, rfl, run_takeDeferred hK, ?_⟩⟩
    have hc1 := cell_kept k1 (grownBy_putObj' _ D (.deferred none)) (fun r e => by cases e; exact ⟨_, hK, rfl⟩)
    have hc2 := cell_kept k2 (grownBy_putObj' _ D (.deferred none)) (fun r e => by cases e; exact ⟨_, hK, rfl⟩)
    refine ⟨.tuple #[.int .u8 (suitV x), .bool true], ?_, by rw [e1, e2], below_grown (hB.trans (belowK_b (w := w) (Nat.le_refl _) W D _ _ (by omega) hK rfl rfl))⟩
    simp [results, Tryz.f138, go_sem, hc1, hc2]

end Go.Proofs.YtpceelbphpfciaaGreatDoor
