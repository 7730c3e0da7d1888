/-
  The two examples that each statement asks.
  A range over a function whose elements lie in memory that the function makes: at each round something is known of the element in the world in which it is handed over. The body goes on, or returns.
-/
import Derived.Test.YtknlcjhcamhfmaaGreatDoorJ45
import Derived.Test.YtknlcjhcamhfmaaGreatDoorWhN
import Derived.Test.YtknlcjhcamhfmaaGreatDoorBok
import Derived.RangeFuncNested
import Derived.RangeFuncBound
import Derived.RangeFuncCalls
import Derived.RangeFuncLeaves
import Derived.Shelf.Abstract
import Derived.Shelf.RegionOpen
import Derived.OwnWalkIn
import Derived.TacticsInMore
import Derived.LoopNIn
import Derived.LoopIn
namespace Go.Proofs.YtknlcjhcamhfmaaGreatDoor
open Go.RowKit

open Go.Maps

theorem zero3 (w : World) : (zeroValue 3).run Tryz.prog w = .ok (.int .i64 0) w := by kernel_rfl
set_option maxRecDepth 100000 in
theorem num_look {w : World} {m : Nat} (M : NumAt w m) {k : Nat} (hk : k < 6) : (Instr.lookup 22 (.map (some m)) (.string (sNm k)) false).run Tryz.prog w = .ok (.int .i64 (sNo k)) w := by
  obtain ⟨c, hrun, hat, _⟩ := World.ownsMap.lookup_int M keyK Tryz.underlying22 Tryz.underlying3 (zero3 w) (key_of k)
  have e : (nD 6).atKey (kS k) (.lit (.int .i64 0)) = .lit (.int .i64 (sNo k)) := by
    rcases (show k = 0 ∨ k = 1 ∨ k = 2 ∨ k = 3 ∨ k = 4 ∨ k = 5 by omega) with rfl | rfl | rfl | rfl | rfl | rfl <;> kernel_rfl
  have h9 := e.symm.trans hat
  clear hat e
  injection h9 with h9
  injection h9 with _ h9
  rw [hrun, ← h9]
theorem lit_ints {w : World} (os : List Int) : IntsIn (w.alloc (.cells (os.map (Value.int .i64)).toArray 3)) (.slice (some ⟨w.heap.size, 0, none⟩) os.length os.length) os := ⟨_, _, rfl, fun _ => ⟨_, _, rfl, fun j x hx => by
  rw [block_cell (alloc_at w _ _), List.getElem?_toArray, Nat.zero_add, List.getElem?_map, hx]
  rfl⟩⟩
theorem IntsIn.keep {w w' : World} {v : Value} {os : List Int} (h : IntsIn w v os) (g : w.grownBy w' none) : IntsIn w' v os := by
  obtain ⟨a, k, e, h⟩ := h
  refine ⟨a, k, e, fun h0 => ?_⟩
  obtain ⟨b, o, e, h⟩ := h h0
  exact ⟨b, o, e, fun j x hx => g.cell (h j x hx) (by simp)⟩
theorem FB.len {w : World} {b : Nat} {es : List Ent} (h : FB w b es) : es.length = 36 := full_len h.row
set_option maxRecDepth 100000 in
set_option maxHeartbeats 4000000 in
theorem lives_any (w : World) (N : NamesAt w) : Calls Tryz.prog 10 #[] w fun e w' => e = .returned (.bool true) ∧ w.grownBy w' none := by
  have C1 := again_yes (.slice (some ⟨w.heap.size, 0, none⟩) 6 6) [5, 4, 3, 2, 1, 0] (w.alloc (.cells #[.int .i64 5, .int .i64 4, .int .i64 3, .int .i64 2, .int .i64 1, .int .i64 0] 3)) (lit_ints [5, 4, 3, 2, 1, 0]) (by unfold Ord6; decide) (N.keep (World.grownBy_alloc _ _ none))
  clear N
  go_enter Tryz.func10, Tryz.ntmps10
  go_wp2_with fail
  refine C1.mono ?_
  rintro e W1 ⟨b, es, rfl, F1, _, g1⟩
  have HG1 : Hid (w.grownBy W1 none) := grown_trans (World.grownBy_alloc _ _ none) g1
  have CL := len_yes b 36 (by decide) pShut W1 (by have h9 := F1.book.lies.flags; rw [F1.len] at h9; exact h9)
  clear F1 g1 C1
  go_wp2_with fail
  refine CL.mono ?_
  rintro e W2 ⟨rfl, g2, _⟩
  rw [show ((36 : Nat) : Int) = (36 : Int) from rfl]
  have HG2 : Hid (w.grownBy W2 none) := grown_trans HG1.out g2
  clear g2 CL HG1
  go_wp2_with fail
  refine (numbers_any W2).mono ?_
  rintro e W3 ⟨m, rfl, M, _, g3⟩
  have HG3 : Hid (w.grownBy W3 none) := grown_trans HG2.out g3
  have hl : (Instr.lookup 22 (.map (some m)) (.string ⟨#[97, 105, 114]⟩) false).run Tryz.prog W3 = .ok (.int .i64 27) W3 := num_look M (k := 0) (by decide)
  clear g3 M HG2
  go_wp2
  go_ret
  exact ⟨rfl, HG3.out⟩
end Go.Proofs.YtknlcjhcamhfmaaGreatDoor
namespace Go.Proofs.YtknlcjhcamhfmaaGreatDoor
open Go.RowKit Go.Shelf

/-- The function's side: it hands over elements of which Rd holds where they are handed over. -/
def SeqTold {α : Type} (F : Fence) (n : Nat) (P : Program) (g : Nat) (lb : Array Value) (encs : α → Array Value) (Rd : List α → α → World → Prop) (Kp : World → World → Prop) (S Sp : List α → Prop) (N : Nat) (w : World) : Prop :=
  ∀ (l : Nat) (J Jx : List α → World → Prop) (W : World), Below w.heap.size w W → AbidesFrom W.heap.size J → AbidesFrom W.heap.size Jx →
    (∀ pre x V, J pre V → Rd pre x V → pre.length < N → YieldAt F (n - 1) P l (encs x) V fun e V' => (e = .returned (.bool true) ∧ J (pre ++ [x]) V' ∧ Kp V V') ∨ (e = .returned (.bool false) ∧ Jx (pre ++ [x]) V')) →
    J [] W → CallsIn F n P g (#[.func (.yield l) #[] #[]] ++ lb) W fun e W' => (∃ v, e = .returned v) ∧ ((∃ xs, S xs ∧ J xs W') ∨ (∃ pre, Sp pre ∧ Jx pre W'))
/-- How a round is left. -/
def RoundEnds {α : Type} (B : Nat) (Kp : World → World → Prop) (I Ir : List α → World → Prop) (xs : List α) (W : World) : Exit → Act → World → Prop
  | .normal, _, W' => KeepsFrom B W W' ∧ Kp W W' ∧ I xs W'
  | .ret, _, W' => KeepsFrom B W W' ∧ Ir xs W'
  | _, _, _ => False
theorem wpIn_range_told {F : Fence} {n : Nat} {P : Program} {α : Type} {g : Operand} {ps : Array Tmp} {assign body : Code} {Q : Exit → Act → World → Prop} {a : Act} {w : World}
    (hro : F.round = none) (h1 : 1 ≤ n) {gf : Nat} {lb : Array Value} (hg : a.eval g = .func (.func gf) #[] lb) (hFg : F.fn gf) (eg : ∀ args w, (callFunc gf args).run P w = .ok (.enter gf args) w)
    {encs : α → Array Value} {Rd : List α → α → World → Prop} {Kp : World → World → Prop} {S Sp : List α → Prop} {N : Nat} {w0 : World} (hseq : SeqTold F (n - 1) P gf lb encs Rd Kp S Sp N w0)
    (hKt : ∀ {A B C : World}, Kp A B → Kp B C → Kp A C) (hKb : ∀ (W : World) (l : Nat) (o : Obj), w.heap.size ≤ l → l < W.heap.size → Kp W (W.putObj l o)) (hb0 : Below w0.heap.size w0 w) (hps : ∀ x, (encs x).size = ps.size)
    (I Ir : List α → World → Prop) (hI : OwnFrom w.heap.size I) (hIr : OwnFrom w.heap.size Ir) (h0 : I [] w) (Ax : List α → α → Act → World → Prop) (hAx : ∀ pre x a', OwnFrom w.heap.size (fun (_ : Unit) W => Ax pre x a' W))
    (hassign : ∀ (l : Nat) (pre : List α) (x : α) (W : World) (K : Act → World → Prop), I pre W → Rd pre x W → pre.length < N → (∀ a' W', KeepsFrom w.heap.size W W' → Kp W W' → I pre W' → Ax pre x a' W' → K a' W') →
      assign.wpIn (F.inRound l) (n - 1 - 1) P (Exit.then K (fun _ _ _ => False)) { tmps := (ps.zip (encs x)).foldl (fun t (p, v) => t.setIfInBounds p v) a.tmps, defers := [] } W)
    (hbody : ∀ (l : Nat) (pre : List α) (x : α) (a' : Act) (W : World), I pre W → Ax pre x a' W → pre.length < N → body.wpIn (F.inRound l) (n - 1 - 1) P (RoundEnds w.heap.size Kp I Ir (pre ++ [x]) W) a' W)
    (hdone : ∀ (D : Nat) (xs : List α) (W : World), w.heap.size ≤ D → S xs → I xs W → W.heap[D]? = some (.deferred (some [])) → Q .normal { a with defers := { target := .collected D, args := #[] } :: a.defers } W)
    (hstop : ∀ (D : Nat) (pre : List α) (W : World), w.heap.size ≤ D → Sp pre → Ir pre W → W.heap[D]? = some (.deferred (some [])) → Code.ret.wpIn F n P Q { a with defers := { target := .collected D, args := #[] } :: a.defers } W) :
    (Code.rangeFunc g ps assign body).wpIn F n P Q a w := by
  obtain ⟨B, hB⟩ : ∃ B, w.heap.size = B := ⟨_, rfl⟩
  refine wpIn_rangeFunc fun fn hfn => ?_
  rw [hro]
  -- the loop's record, in whatever state, and the two new blocks
  obtain ⟨mk, hmk⟩ : ∃ mk : LoopState → Option Code → Obj, mk = fun st pe => .loop { state := st, pending := pe, fn := fn, tmps := a.tmps, params := ps, assign := assign, body := body, defers := w.heap.size } := ⟨_, rfl⟩
  obtain ⟨V0, hV0⟩ : ∃ V0, (w.alloc (.deferred (some []))).alloc (mk .ready none) = V0 := ⟨_, rfl⟩
  have sV : V0.heap.size = B + 2 := by rw [← hV0, ← hB]; simp
  have bD : V0.heap[B]? = some (.deferred (some [])) := by
    rw [← hV0, ← hB]; exact (Below.heap_alloc _ _ _ (by simp)).trans (World.alloc_heap_new w _)
  have bL : V0.heap[B + 1]? = some (mk .ready none) := by
    have h := World.alloc_heap_new (w.alloc (.deferred (some []))) (mk .ready none)
    rw [World.size_alloc, hB, hV0] at h
    exact h
  have iV : I [] V0 := by rw [← hV0]; exact hI.alloc _ (hI.alloc _ h0)
  have bV : Below w0.heap.size w0 V0 := by
    rw [← hV0]; exact hb0.trans ((((Below.refl _ w).alloc (Nat.le_refl _) _).alloc (by simp) _).mono hb0.size)
  have nC : ∀ st pe, (mk st pe).isCells = false := fun st pe => by rw [hmk]; rfl
  have nW : ∀ st pe, (mk st pe).isWalk = false := fun st pe => by rw [hmk]; rfl
  refine ⟨B + 1, [{ target := .collected B, args := #[] }], V0, { target := .fn (.func gf) lb, args := #[.func (.yield (B + 1)) #[] #[]] }, V0, gf, #[.func (.yield (B + 1)) #[] #[]] ++ lb, V0, ?_, ?_, ?_, ?_, fun _ => h1, ?_⟩
  · rw [← hV0, hmk, ← hB]; exact run_enterLoop_outer _ _ _ _ _
  · simp only [resolve, hg]; simp [go_sem]
  · intro f' hf'; simp [Target.leads] at hf'; subst hf'; exact hFg
  · simp [invoke, go_sem, eg]
  · have off : ∀ {X : World} {r : Option Nat}, (∀ k, r = some k → V0.heap.size ≤ k ∧ ∃ o : Obj, X.heap[k]? = some o ∧ o.isWalk = true) → ∀ k, r = some k → w.heap.size ≤ k ∧ ∃ o : Obj, X.heap[k]? = some o ∧ o.isCells = false := fun h k e => by
      obtain ⟨h2, o, ho, hw⟩ := h k e
      exact ⟨by omega, o, ho, Obj.not_cells_of_walk hw⟩
    refine (hseq (B + 1) (fun pre W => I pre W ∧ W.heap[B + 1]? = some (mk .ready none) ∧ W.heap[B]? = some (.deferred (some [])))
      (fun pre W => Ir pre W ∧ W.heap[B + 1]? = some (mk .done (some .ret)) ∧ W.heap[B]? = some (.deferred (some []))) V0 bV ?_ ?_ ?_ ⟨iV, bL, bD⟩).mono ?_
    · intro s X Y r hs hgr hr
      exact ⟨hI s X Y r hs.1 hgr (off hr), (grownBy_keeps hgr (fun k e => (hr k e).2) hs.2.1 (nW _ _)).trans hs.2.1, (grownBy_keeps hgr (fun k e => (hr k e).2) hs.2.2 rfl).trans hs.2.2⟩
    · intro s X Y r hs hgr hr
      exact ⟨hIr s X Y r hs.1 hgr (off hr), (grownBy_keeps hgr (fun k e => (hr k e).2) hs.2.1 (nW _ _)).trans hs.2.1, (grownBy_keeps hgr (fun k e => (hr k e).2) hs.2.2 rfl).trans hs.2.2⟩
    · rintro pre x W ⟨iW, lW, dW⟩ rW hlen
      have hy := run_yield (P := P) (args := encs x) (by rw [hmk] at lW; exact lW) (hps x)
      refine ⟨fn, _, assign, body, hy, roundIn_of_wpIn hfn (hassign _ pre x W _ iW rW hlen ?_)⟩
      intro a' X kX pX iX xX
      have lX := kX.same (B + 1) _ (by omega) lW (nC _ _)
      have dX := kX.same B _ (by omega) dW rfl
      have zX : B + 1 < X.heap.size := (Array.getElem?_eq_some_iff.1 lX).1
      obtain ⟨Y, hY⟩ : ∃ Y, X.putObj (B + 1) (mk .busy none) = Y := ⟨_, rfl⟩
      have lY : Y.heap[B + 1]? = some (mk .busy none) := by rw [← hY]; exact World.putObj_heap_same zX
      have dY : Y.heap[B]? = some (.deferred (some [])) := by rw [← hY]; exact (World.putObj_heap_other (by omega)).trans dX
      have pY : Kp X Y := by rw [← hY]; exact hKb _ _ _ (by omega) zX
      have iY : I pre Y := by rw [← hY]; exact hI.putObj _ iX (by omega) lX (nC _ _)
      have xY : Ax pre x a' Y := by rw [← hY]; exact (hAx pre x a').putObj (s := ()) _ xX (by omega) lX (nC _ _)
      refine ⟨Y, ?_, wpIn_mono (hbody _ pre x a' Y iY xY hlen) ?_⟩
      · rw [← hY]
        have h := run_beginRound (P := P) (by rw [hmk] at lX; exact lX) rfl
        rw [hmk]
        exact h
      · intro e a3 Z hp
        cases e with
        | normal =>
          obtain ⟨kZ, pZ, iZ⟩ := hp
          have lZ := kZ.same (B + 1) _ (by omega) lY (nC _ _)
          have dZ := kZ.same B _ (by omega) dY rfl
          have zZ : B + 1 < Z.heap.size := (Array.getElem?_eq_some_iff.1 lZ).1
          have hr := run_endRound (P := P) none (by rw [hmk] at lZ; exact lZ)
          refine ⟨_, _, hr, .inl ⟨rfl, ⟨hI.putObj _ iZ (by omega) lZ (nC _ _), ?_, (World.putObj_heap_other (by omega)).trans dZ⟩, hKt pX (hKt (hKt pY pZ) (hKb _ _ _ (by omega) zZ))⟩⟩
          rw [World.putObj_heap_same zZ, hmk]
          rfl
        | ret =>
          obtain ⟨kZ, iZ⟩ := hp
          have lZ := kZ.same (B + 1) _ (by omega) lY (nC _ _)
          have dZ := kZ.same B _ (by omega) dY rfl
          have zZ : B + 1 < Z.heap.size := (Array.getElem?_eq_some_iff.1 lZ).1
          have hr := run_endRound (P := P) (some .ret) (by rw [hmk] at lZ; exact lZ)
          refine ⟨_, _, hr, .inr ⟨rfl, hIr.putObj _ iZ (by omega) lZ (nC _ _), ?_, (World.putObj_heap_other (by omega)).trans dZ⟩⟩
          rw [World.putObj_heap_same zZ, hmk]
          rfl
        | exit id => exact hp.elim
        | goto t => exact hp.elim
        | panic ch => exact hp.elim
        | outgrown => exact hp.elim
    · rintro e Z ⟨⟨v, rfl⟩, ⟨xs, hS, iZ, lZ, dZ⟩ | ⟨pre, hSp, iZ, lZ, dZ⟩⟩
      · have hr := run_endLoop (P := P) (by rw [hmk] at lZ; exact lZ) (by simp)
        exact ⟨none, _, hr, hdone B xs _ (by omega) hS (hI.putObj _ iZ (by omega) lZ (nC _ _)) ((World.putObj_heap_other (by omega)).trans dZ)⟩
      · have hr := run_endLoop (P := P) (by rw [hmk] at lZ; exact lZ) (by simp)
        exact ⟨some .ret, _, hr, hstop B pre _ (by omega) hSp (hIr.putObj _ iZ (by omega) lZ (nC _ _)) ((World.putObj_heap_other (by omega)).trans dZ)⟩
end Go.Proofs.YtknlcjhcamhfmaaGreatDoor
