/-
  A range over a function whose elements lie in memory that the function makes: at each round something is known of the element in the world in which it is handed over. The body goes on, or returns.
  The program's Cards of a book: a list of its own; the function over which one ranges.
  The function that Cards of a book tells: what it hands over, one by one.
-/
import Derived.Test.YtknlcjhcamhfmaaGreatDoorJ13
import Derived.RangeFuncNested
import Derived.RangeFuncBound
import Derived.RangeFuncCalls
import Derived.RangeFuncLeaves
import Derived.Shelf.Abstract
import Derived.Shelf.RegionOpen
import Derived.OwnWalkIn
import Derived.TacticsInMore
import Derived.LoopNIn
import Derived.LoopIn
import Derived.Test.YtknlcjhcamhfmaaGreatDoorJ27
import Derived.Maps.AppendAt
import Derived.Lib.BufferMore
namespace Go.Proofs.YtknlcjhcamhfmaaGreatDoor
open Go.RowKit Go.Shelf

/-- The function's side: it hands over elements of which Rd holds where they are handed over. -/
def SeqTold {α : Type} (F : Fence) (n : Nat) (P : Program) (g : Nat) (lb : Array Value) (encs : α → Array Value) (Rd : List α → α → World → Prop) (Kp : World → World → Prop) (S Sp : List α → Prop) (N : Nat) (w : World) : Prop :=
  ∀ (l : Nat) (J Jx : List α → World → Prop) (W : World), Below w.heap.size w W → AbidesFrom W.heap.size J → AbidesFrom W.heap.size Jx →
    (∀ pre x V, J pre V → Rd pre x V → pre.length < N → YieldAt F (n - 1) P l (encs x) V fun e V' => (e = .returned (.bool true) ∧ J (pre ++ [x]) V' ∧ Kp V V') ∨ (e = .returned (.bool false) ∧ Jx (pre ++ [x]) V')) →
    J [] W → CallsIn F n P g (#[.func (.yield l) #[] #[]] ++ lb) W fun e W' => (∃ v, e = .returned v) ∧ ((∃ xs, S xs ∧ J xs W') ∨ (∃ pre, Sp pre ∧ Jx pre W'))
/-- How a round is left. -/
def RoundEnds {α : Type} (B : Nat) (Kp : World → World → Prop) (I Ir : List α → World → Prop) (xs : List α) (W : World) : Exit → Act → World → Prop
  | .normal, _, W' => KeepsFrom B W W' ∧ Kp W W' ∧ I xs W'
  | .ret, _, W' => KeepsFrom B W W' ∧ Ir xs W'
  | _, _, _ => False
theorem wpIn_range_told {F : Fence} {n : Nat} {P : Program} {α : Type} {g : Operand} {ps : Array Tmp} {assign body : Code} {Q : Exit → Act → World → Prop} {a : Act} {w : World}
    (hro : F.round = none) (h1 : 1 ≤ n) {gf : Nat} {lb : Array Value} (hg : a.eval g = .func (.func gf) #[] lb) (hFg : F.fn gf) (eg : ∀ args w, (callFunc gf args).run P w = .ok (.enter gf args) w)
    {encs : α → Array Value} {Rd : List α → α → World → Prop} {Kp : World → World → Prop} {S Sp : List α → Prop} {N : Nat} {w0 : World} (hseq : SeqTold F (n - 1) P gf lb encs Rd Kp S Sp N w0)
    (hKt : ∀ {A B C : World}, Kp A B → Kp B C → Kp A C) (hKb : ∀ (W : World) (l : Nat) (o : Obj), w.heap.size ≤ l → l < W.heap.size → Kp W (W.putObj l o)) (hb0 : Below w0.heap.size w0 w) (hps : ∀ x, (encs x).size = ps.size)
    (I Ir : List α → World → Prop) (hI : OwnFrom w.heap.size I) (hIr : OwnFrom w.heap.size Ir) (h0 : I [] w) (Ax : List α → α → Act → World → Prop) (hAx : ∀ pre x a', OwnFrom w.heap.size (fun (_ : Unit) W => Ax pre x a' W))
    (hassign : ∀ (l : Nat) (pre : List α) (x : α) (W : World) (K : Act → World → Prop), I pre W → Rd pre x W → pre.length < N → (∀ a' W', KeepsFrom w.heap.size W W' → Kp W W' → I pre W' → Ax pre x a' W' → K a' W') →
      assign.wpIn (F.inRound l) (n - 1 - 1) P (Exit.then K (fun _ _ _ => False)) { tmps := (ps.zip (encs x)).foldl (fun t (p, v) => t.setIfInBounds p v) a.tmps, defers := [] } W)
    (hbody : ∀ (l : Nat) (pre : List α) (x : α) (a' : Act) (W : World), I pre W → Ax pre x a' W → pre.length < N → body.wpIn (F.inRound l) (n - 1 - 1) P (RoundEnds w.heap.size Kp I Ir (pre ++ [x]) W) a' W)
    (hdone : ∀ (D : Nat) (xs : List α) (W : World), w.heap.size ≤ D → S xs → I xs W → W.heap[D]? = some (.deferred (some [])) → Q .normal { a with defers := { target := .collected D, args := #[] } :: a.defers } W)
    (hstop : ∀ (D : Nat) (pre : List α) (W : World), w.heap.size ≤ D → Sp pre → Ir pre W → W.heap[D]? = some (.deferred (some [])) → Code.ret.wpIn F n P Q { a with defers := { target := .collected D, args := #[] } :: a.defers } W) :
    (Code.rangeFunc g ps assign body).wpIn F n P Q a w := by
  obtain ⟨B, hB⟩ : ∃ B, w.heap.size = B := ⟨_, rfl⟩
  refine wpIn_rangeFunc fun fn hfn => ?_
  rw [hro]
  -- the loop's record, in whatever state, and the two new blocks
  obtain ⟨mk, hmk⟩ : ∃ mk : LoopState → Option Code → Obj, mk = fun st pe => .loop { state := st, pending := pe, fn := fn, tmps := a.tmps, params := ps, assign := assign, body := body, defers := w.heap.size } := ⟨_, rfl⟩
  obtain ⟨V0, hV0⟩ : ∃ V0, (w.alloc (.deferred (some []))).alloc (mk .ready none) = V0 := ⟨_, rfl⟩
  have sV : V0.heap.size = B + 2 := by rw [← hV0, ← hB]; simp
  have bD : V0.heap[B]? = some (.deferred (some [])) := by
    rw [← hV0, ← hB]; exact (Below.heap_alloc _ _ _ (by simp)).trans (World.alloc_heap_new w _)
  have bL : V0.heap[B + 1]? = some (mk .ready none) := by
    have h := World.alloc_heap_new (w.alloc (.deferred (some []))) (mk .ready none)
    rw [World.size_alloc, hB, hV0] at h
    exact h
  have iV : I [] V0 := by rw [← hV0]; exact hI.alloc _ (hI.alloc _ h0)
  have bV : Below w0.heap.size w0 V0 := by
    rw [← hV0]; exact hb0.trans ((((Below.refl _ w).alloc (Nat.le_refl _) _).alloc (by simp) _).mono hb0.size)
  have nC : ∀ st pe, (mk st pe).isCells = false := fun st pe => by rw [hmk]; rfl
  have nW : ∀ st pe, (mk st pe).isWalk = false := fun st pe => by rw [hmk]; rfl
  refine ⟨B + 1, [{ target := .collected B, args := #[] }], V0, { target := .fn (.func gf) lb, args := #[.func (.yield (B + 1)) #[] #[]] }, V0, gf, #[.func (.yield (B + 1)) #[] #[]] ++ lb, V0, ?_, ?_, ?_, ?_, fun _ => h1, ?_⟩
  · rw [← hV0, hmk, ← hB]; exact run_enterLoop_outer _ _ _ _ _
  · simp only [resolve, hg]; simp [go_sem]
  · intro f' hf'; simp [Target.leads] at hf'; subst hf'; exact hFg
  · simp [invoke, go_sem, eg]
  · have off : ∀ {X : World} {r : Option Nat}, (∀ k, r = some k → V0.heap.size ≤ k ∧ ∃ o : Obj, X.heap[k]? = some o ∧ o.isWalk = true) → ∀ k, r = some k → w.heap.size ≤ k ∧ ∃ o : Obj, X.heap[k]? = some o ∧ o.isCells = false := fun h k e => by
      obtain ⟨h2, o, ho, hw⟩ := h k e
      exact ⟨by omega, o, ho, Obj.not_cells_of_walk hw⟩
    refine (hseq (B + 1) (fun pre W => I pre W ∧ W.heap[B + 1]? = some (mk .ready none) ∧ W.heap[B]? = some (.deferred (some [])))
      (fun pre W => Ir pre W ∧ W.heap[B + 1]? = some (mk .done (some .ret)) ∧ W.heap[B]? = some (.deferred (some []))) V0 bV ?_ ?_ ?_ ⟨iV, bL, bD⟩).mono ?_
    · intro s X Y r hs hgr hr
      exact ⟨hI s X Y r hs.1 hgr (off hr), (grownBy_keeps hgr (fun k e => (hr k e).2) hs.2.1 (nW _ _)).trans hs.2.1, (grownBy_keeps hgr (fun k e => (hr k e).2) hs.2.2 rfl).trans hs.2.2⟩
    · intro s X Y r hs hgr hr
      exact ⟨hIr s X Y r hs.1 hgr (off hr), (grownBy_keeps hgr (fun k e => (hr k e).2) hs.2.1 (nW _ _)).trans hs.2.1, (grownBy_keeps hgr (fun k e => (hr k e).2) hs.2.2 rfl).trans hs.2.2⟩
    · rintro pre x W ⟨iW, lW, dW⟩ rW hlen
      have hy := run_yield (P := P) (args := encs x) (by rw [hmk] at lW; exact lW) (hps x)
      refine ⟨fn, _, assign, body, hy, roundIn_of_wpIn hfn (hassign _ pre x W _ iW rW hlen ?_)⟩
      intro a' X kX pX iX xX
      have lX := kX.same (B + 1) _ (by omega) lW (nC _ _)
      have dX := kX.same B _ (by omega) dW rfl
      have zX : B + 1 < X.heap.size := (Array.getElem?_eq_some_iff.1 lX).1
      obtain ⟨Y, hY⟩ : ∃ Y, X.putObj (B + 1) (mk .busy none) = Y := ⟨_, rfl⟩
      have lY : Y.heap[B + 1]? = some (mk .busy none) := by rw [← hY]; exact World.putObj_heap_same zX
      have dY : Y.heap[B]? = some (.deferred (some [])) := by rw [← hY]; exact (World.putObj_heap_other (by omega)).trans dX
      have pY : Kp X Y := by rw [← hY]; exact hKb _ _ _ (by omega) zX
      have iY : I pre Y := by rw [← hY]; exact hI.putObj _ iX (by omega) lX (nC _ _)
      have xY : Ax pre x a' Y := by rw [← hY]; exact (hAx pre x a').putObj (s := ()) _ xX (by omega) lX (nC _ _)
      refine ⟨Y, ?_, wpIn_mono (hbody _ pre x a' Y iY xY hlen) ?_⟩
      · rw [← hY]
        have h := run_beginRound (P := P) (by rw [hmk] at lX; exact lX) rfl
        rw [hmk]
        exact h
      · intro e a3 Z hp
        cases e with
        | normal =>
          obtain ⟨kZ, pZ, iZ⟩ := hp
          have lZ := kZ.same (B + 1) _ (by omega) lY (nC _ _)
          have dZ := kZ.same B _ (by omega) dY rfl
          have zZ : B + 1 < Z.heap.size := (Array.getElem?_eq_some_iff.1 lZ).1
          have hr := run_endRound (P := P) none (by rw [hmk] at lZ; exact lZ)
          refine ⟨_, _, hr, .inl ⟨rfl, ⟨hI.putObj _ iZ (by omega) lZ (nC _ _), ?_, (World.putObj_heap_other (by omega)).trans dZ⟩, hKt pX (hKt (hKt pY pZ) (hKb _ _ _ (by omega) zZ))⟩⟩
          rw [World.putObj_heap_same zZ, hmk]
          rfl
        | ret =>
          obtain ⟨kZ, iZ⟩ := hp
          have lZ := kZ.same (B + 1) _ (by omega) lY (nC _ _)
          have dZ := kZ.same B _ (by omega) dY rfl
          have zZ : B + 1 < Z.heap.size := (Array.getElem?_eq_some_iff.1 lZ).1
          have hr := run_endRound (P := P) (some .ret) (by rw [hmk] at lZ; exact lZ)
          refine ⟨_, _, hr, .inr ⟨rfl, hIr.putObj _ iZ (by omega) lZ (nC _ _), ?_, (World.putObj_heap_other (by omega)).trans dZ⟩⟩
          rw [World.putObj_heap_same zZ, hmk]
          rfl
        | exit id => exact hp.elim
        | goto t => exact hp.elim
        | panic ch => exact hp.elim
        | outgrown => exact hp.elim
    · rintro e Z ⟨⟨v, rfl⟩, ⟨xs, hS, iZ, lZ, dZ⟩ | ⟨pre, hSp, iZ, lZ, dZ⟩⟩
      · have hr := run_endLoop (P := P) (by rw [hmk] at lZ; exact lZ) (by simp)
        exact ⟨none, _, hr, hdone B xs _ (by omega) hS (hI.putObj _ iZ (by omega) lZ (nC _ _)) ((World.putObj_heap_other (by omega)).trans dZ)⟩
      · have hr := run_endLoop (P := P) (by rw [hmk] at lZ; exact lZ) (by simp)
        exact ⟨some .ret, _, hr, hstop B pre _ (by omega) hSp (hIr.putObj _ iZ (by omega) lZ (nC _ _)) ((World.putObj_heap_other (by omega)).trans dZ)⟩
end Go.Proofs.YtknlcjhcamhfmaaGreatDoor
namespace Go.Proofs.YtknlcjhcamhfmaaGreatDoor
open Go.RowKit Go.Shelf

attribute [local go_sem] Oper.semAt_some

theorem ecells_ones {ok : Nat → Prop} {w : World} : ∀ {es : List Ent}, Good ok w es → ∀ u ∈ ecells es, u.oneCell' = true
  | [], _, u, hu => by simp [ecells] at hu
  | e :: r, h, u, hu => by
    simp only [ecells, List.mem_append] at hu
    rcases hu with hu | hu
    · obtain ⟨x, y, hf⟩ := (h e (by simp)).1.form
      rw [hf] at hu
      exact cvs_one _ _ _ _ u hu
    · exact ecells_ones (es := r) (fun e' he' => h e' (by simp [he'])) u hu
theorem row_cells {w : World} {b : Nat} {es : List Ent} (h : EsAt w b 0 es) : ∀ (j : Nat) u, (ecells es)[j]? = some u → w.cell? (Addr.add ⟨b, 0, none⟩ j) = some u := fun j u hu => by
  have hj : j < es.length * 9 := by have := (List.getElem?_eq_some_iff.1 hu).1; rw [ecells_len] at this; exact this
  obtain ⟨e, he⟩ : ∃ e, es[j / 9]? = some e := ⟨_, List.getElem?_eq_getElem (by omega)⟩
  have hr := h _ e he
  have hk : j % 9 < 9 := Nat.mod_lt _ (by decide)
  have hu' : (cvs e.h e.v)[j % 9]? = some u := by
    rw [← ecells_at es (j / 9) e he (j % 9) hk, show j / 9 * 9 + j % 9 = j by omega]
    exact hu
  rw [add_plain, show 0 + j = 0 + j / 9 * 9 + j % 9 by omega]
  obtain ⟨c0, c1, c2, c3, c4, c5, c6, c7, c8⟩ := hr
  rcases (show j % 9 = 0 ∨ j % 9 = 1 ∨ j % 9 = 2 ∨ j % 9 = 3 ∨ j % 9 = 4 ∨ j % 9 = 5 ∨ j % 9 = 6 ∨ j % 9 = 7 ∨ j % 9 = 8 by omega) with e' | e' | e' | e' | e' | e' | e' | e' | e' <;> rw [e'] at hu' ⊢ <;> simp only [cvs, List.getElem?_cons_zero, List.getElem?_cons_succ, Option.some.injEq] at hu' <;> subst hu' <;> assumption
theorem eown_keep {w w' : World} {base : Nat} {v : Value} {es : List Ent} (h : EOwn w base v es) (g : w.grownBy w' none) : EOwn w' base v es := World.ownsRow.kept h g (match hb : v.ownBlock with
  | none => Or.inl rfl
  | some k => Or.inr (by simp))
set_option maxRecDepth 100000 in
theorem cloneC_any (ok : Nat → Prop) (b c : Nat) (es : List Ent) (w : World) (R : EsAt w b 0 es) (hG : Good ok w es) (h64 : es.length ≤ 64) : Calls Tryz.prog 105 #[.slice (some ⟨b, 0, none⟩) es.length c] w fun e w' => ∃ v, e = .returned v ∧ EOwn w' w.heap.size v es ∧ w.grownBy w' none := by
  obtain ⟨i0, hi, hz0, hz1, hz2⟩ := info_parts Tryz.info56
  have hn : ∀ w, (binOp .eql 89 (.slice (some ⟨b, 0, none⟩) es.length c) (.slice none 0 0)).run Tryz.prog w = .ok (.bool false) w := fun w => by
    rw [Go.Lib.run_eql_slice_some_nil w _ _ _ Tryz.underlying89]
  have H1 : Hid (∀ u ∈ ecells es, u.oneCell' = true) := ecells_ones hG
  obtain ⟨W1, hW1⟩ : ∃ W1, W1 = w.alloc (.cells #[] 56) := ⟨_, rfl⟩
  have G1 : w.grownBy W1 none := by rw [hW1]; exact World.grownBy_alloc _ _ none
  have HG1 : Hid (w.grownBy W1 none) := G1
  have HR : Hid (∀ (j : Nat) u, (ecells es)[j]? = some u → W1.cell? (Addr.add ⟨b, 0, none⟩ j) = some u) := row_cells (R.keep G1)
  have HO : Hid (W1.ownsRow w.heap.size 56 9 (.slice (some ⟨w.heap.size, 0, none⟩) 0 0) 0 []) := ⟨rfl, Or.inr ⟨w.heap.size, 0, #[], rfl, Nat.le_refl _, by rw [hW1]; exact alloc_at _ _ _, Nat.le_refl _, Nat.zero_le _, rfl, rfl⟩⟩
  have HL : Hid ((ecells es).length = es.length * 9) := ecells_len es
  have hm : 0 + es.length ≤ maxLen := by unfold maxLen; omega
  have hm2 : (0 + es.length) * 80 ≤ 140737488355328 := by omega
  have HW1 : Hid (W1 = _) := hW1
  clear R hG G1 hW1 h64
  go_enter Tryz.func105, Tryz.ntmps105
  go_upto_region 3 with fail
  go_wp2_with (at_builtin; rw [← HW1.out]; refine wpList_append_own _ rfl (.tmp 5) (.tmp 6) 89 rfl w.heap.size 56 i0 _ 9 80 Tryz.underlying89 hi hz0 hz1 hz2 rfl (by decide) (.slice (some ⟨w.heap.size, 0, none⟩) 0 0) 0 [] rfl HO.out ⟨b, 0, none⟩ es.length c (ecells es) rfl HL.out HR.out H1.out hm hm2 HG1.out.size ?_; intro v' w7 hown hgrow hnil)
  have F1 : EOwn w7 w.heap.size v' es := by have h := hown; rw [List.nil_append, Nat.zero_add] at h; exact h
  have F2 : w.grownBy w7 none := grown_own HG1.out hgrow (fun x e => by cases e; exact Nat.le_refl _)
  obtain ⟨p, q, rfl⟩ := F1.rl.form
  clear hown hgrow hnil
  go_wp2
  go_ret
  exact ⟨_, rfl, F1, F2⟩
set_option maxRecDepth 100000 in
theorem cards_yes (ok : Nat → Prop) (b : Nat) (es : List Ent) (p : Pl) (w : World) (B : Book ok w b es p) : Calls Tryz.prog 43 #[.pointer (some ⟨b, 0, none⟩)] w fun e w' => ∃ x v, e = .returned (.func (.func 106) #[] #[.pointer (some ⟨x, 0, none⟩)]) ∧ w'.heap[x]? = some (.cells #[v] 89 (0, 0)) ∧ EOwn w' w.heap.size v es ∧ w.heap.size ≤ x ∧ w.grownBy w' none := by
  have hmf : ∀ fn bound caps ww, (Instr.makeFunc fn bound caps).run Tryz.prog ww = .ok (.func fn bound caps) ww := fun _ _ _ _ => rfl
  have C1 := list_yes b es.length B.lies.len p w B.lies.flags
  have C2 := fun W (g : w.grownBy W none) => cloneC_any ok b 64 es W (B.keep g).lies.row (B.keep g).good B.lies.len
  have HC2 : Hid (∀ W, w.grownBy W none → Calls Tryz.prog 105 #[.slice (some ⟨b, 0, none⟩) es.length 64] W fun e w' => ∃ v, e = .returned v ∧ EOwn w' W.heap.size v es ∧ W.grownBy w' none) := C2
  clear C2 B
  go_enter Tryz.func43, Tryz.ntmps43
  go_wp2_with fail
  refine C1.mono ?_
  rintro e w1 ⟨rfl, g1, s1⟩
  have HG1 : Hid (w.grownBy w1 none) := g1
  have HS1 : Hid (w1.heap.size = w.heap.size) := s1
  clear C1 g1 s1
  go_wp2_with fail
  refine (HC2.out w1 HG1.out).mono ?_
  rintro e w2 ⟨v, rfl, o2, g2⟩
  obtain ⟨xa, ya, rfl⟩ := o2.rl.form
  obtain ⟨W3, hW3⟩ : ∃ W3, W3 = w2.alloc (.cells #[.slice xa es.length ya] 89) := ⟨_, rfl⟩
  have FIN : Hid (∃ x v, (.returned (.func (.func 106) #[] #[.pointer (some ⟨w2.heap.size, 0, none⟩)]) : Ending) = .returned (.func (.func 106) #[] #[.pointer (some ⟨x, 0, none⟩)]) ∧ W3.heap[x]? = some (.cells #[v] 89 (0, 0)) ∧ EOwn W3 w.heap.size v es ∧ w.heap.size ≤ x ∧ w.grownBy W3 none) := by
    refine ⟨w2.heap.size, .slice xa es.length ya, rfl, by rw [hW3]; exact alloc_at _ _ _, ?_, Nat.le_trans (Nat.le_of_eq HS1.out.symm) g2.size, ?_⟩
    · rw [← HS1.out, hW3]; exact eown_keep o2 (World.grownBy_alloc _ _ none)
    · rw [hW3]; exact grown_push (grown_trans HG1.out g2) _
  have HW3 : Hid (W3 = _) := hW3
  clear o2 g2 hW3
  go_wp2
  rw [← HW3.out]
  go_ret
  exact FIN.out
end Go.Proofs.YtknlcjhcamhfmaaGreatDoor
namespace Go.Proofs.YtknlcjhcamhfmaaGreatDoor
open Go.RowKit Go.Shelf

attribute [local go_sem] Oper.semAt_some

/-- A card that is handed over: its parts in memory made since the loop began. -/
def Rdy (B : Nat) (es : List Ent) (pre : List Ent) (x : Ent) (W : World) : Prop := POwn W B x.v x.ps ∧ ∃ e, es[pre.length]? = some e ∧ x.h = e.h ∧ x.ps = e.ps
set_option maxRecDepth 100000 in
set_option maxHeartbeats 4000000 in
theorem seq_cards (n : Nat) (hn : 1 ≤ n) (x q : Nat) (v : Value) (es : List Ent) (w : World) (hx : w.cell? ⟨x, 0, none⟩ = some v) (hxq : ¬ x = q) (L : RL w v es) (hv : ∀ k, v.ownBlock = some k → ¬ k = q) (hG : Good (fun k => ¬ k = q) w es) (h64 : es.length ≤ 64) (h4 : ∀ e ∈ es, e.ps.length ≤ 4) :
    SeqTold Fence.wide n Tryz.prog 106 #[.pointer (some ⟨x, 0, none⟩)] (fun e : Ent => #[cv e.h e.v]) (Rdy w.heap.size es) (fun W W' => w.grownBy W (some q) → w.grownBy W' (some q)) (fun xs => xs.map hp = es.map hp) (fun _ => True) es.length w := fun l J Jx W hW hJ _ hY h0 => by
  have HW0 : Hid (w.grownBy W (some q)) := by
    have h9 := below_grown hW
    exact ⟨h9.os, h9.tape, h9.output, h9.size, fun k hk _ => h9.block k hk (by simp)⟩
  obtain ⟨va, vc, rfl⟩ := L.form
  have HC : Hid (∀ V, w.grownBy V (some q) → V.cell? ⟨x, 0, none⟩ = some (.slice va es.length vc)) := fun V g => g.cell hx (by simpa using hxq)
  have HL : Hid (RL w (.slice va es.length vc) es) := L
  have HV : Hid (∀ k, (Value.slice va es.length vc).ownBlock = some k → ¬ k = q) := hv
  have HG : Hid (Good (fun k => ¬ k = q) w es) := hG
  have H4 : Hid (∀ e ∈ es, e.ps.length ≤ 4) := h4
  have HJ : Hid (AbidesFrom W.heap.size J) := hJ
  have HY : Hid (∀ pre x V, J pre V → Rdy w.heap.size es pre x V → pre.length < es.length → YieldAt Fence.wide (n - 1) Tryz.prog l #[cv x.h x.v] V fun e V' => (e = .returned (.bool true) ∧ J (pre ++ [x]) V' ∧ (w.grownBy V (some q) → w.grownBy V' (some q))) ∨ (e = .returned (.bool false) ∧ Jx (pre ++ [x]) V')) := hY
  have hsm : Small es.length := by unfold Small; omega
  have hc := HC.out W HW0.out
  clear L hv hG h4 hJ hY hx hxq hW h64
  refine callsIn_of_wp Tryz.func106 rfl trivial ?_ rfl
  simp only [Tryz.ntmps106, List.size_toArray, List.length_cons, List.length_nil, Nat.reduceAdd, Nat.reduceSub, Array.replicate_succ, Array.replicate_zero, List.push_toArray, List.append_toArray, List.nil_append, List.cons_append]
  gi_wp2
  gi_loopw [4, 7] (fun _ s wr => ∃ (k : Nat) (pre : List Ent), k ≤ es.length ∧ s = .int .i64 (k : Int) ∧ pre.map hp = (es.take k).map hp ∧ J pre wr ∧ w.grownBy wr (some q)) (fun _ s _ => es.length - (intOf s).toNat)
  case atStart => exact ⟨0, [], Nat.zero_le _, rfl, rfl, h0, HW0.out⟩
  case round =>
    clear HW0 hc
    obtain ⟨k, pre, hk, rfl, hm, hj, hg⟩ := hrel
    obtain ⟨U, hU⟩ : ∃ U, U = wr := ⟨_, rfl⟩
    subst hU
    have HM : Hid (pre.map hp = (es.take k).map hp) := hm
    have HJ0 : Hid (J pre U) := hj
    have HG0 : Hid (w.grownBy U (some q)) := hg
    clear hm hj hg h0
    rcases (show k < es.length ∨ k = es.length from by omega) with hkl | hke
    · have k0 : (0 : Int) ≤ (k : Int) := by omega
      have k1 : (k : Int) < (es.length : Int) := by omega
      obtain ⟨e0, he0⟩ : ∃ e, es[k]? = some e := ⟨_, List.getElem?_eq_getElem hkl⟩
      obtain ⟨g1, c1, hv1, R1⟩ := HL.out.row (by omega)
      injection hv1 with hx1 _ hc1
      subst hx1
      subst hc1
      have C0 := (R1 k e0 he0).keepR HG0.out (by have h9 := HV.out g1 rfl; intro e; injection e with e; exact h9 e)
      have P0 := ((HG.out e0 (List.mem_of_getElem? he0)).keepR HG0.out (fun j hj e => by injection e with e; exact hj e)).1
      have hp4 := H4.out e0 (List.mem_of_getElem? he0)
      have HN : Hid (∀ u, (pre ++ [(⟨e0.h, u, e0.ps⟩ : Ent)]).map hp = (es.take (k + 1)).map hp) := fun u => hp_snoc HM.out he0 u
      have HPl : Hid (pre.length < es.length) := by
        have h9 := congrArg List.length HM.out
        simp only [List.length_map, List.length_take] at h9
        show pre.length < es.length
        omega
      have hpl : pre.length = k := by
        have h9 := congrArg List.length HM.out
        simp only [List.length_map, List.length_take] at h9
        omega
      have HE : Hid (es[pre.length]? = some e0) := by rw [hpl]; exact he0
      clear R1 he0 HM hpl
      obtain ⟨⟨m0, m1, m2, m3, m4, m5, m6, m7⟩, ev, eps⟩ := e0
      simp only at C0 P0 hp4 HN HE
      obtain ⟨xa, ya, rfl⟩ := P0.form
      obtain ⟨X1, hX1⟩ : ∃ X1, X1 = U.alloc (.cells (ccs ⟨m0, m1, m2, m3, m4, m5, m6, m7⟩ (.slice xa eps.length ya)) 56) := ⟨_, rfl⟩
      have GX : U.grownBy X1 none := by rw [hX1]; exact World.grownBy_alloc _ _ none
      have HGX : Hid (U.grownBy X1 none) := GX
      have KX : CAt X1 U.heap.size ⟨m0, m1, m2, m3, m4, m5, m6, m7⟩ (.slice xa eps.length ya) := by rw [hX1]; exact alloc_at _ _ _
      have CP := ccopy_any ⟨m0, m1, m2, m3, m4, m5, m6, m7⟩ (.slice xa eps.length ya) eps X1 (P0.keep GX) (by omega)
      obtain ⟨z0, z1, z2, z3, z4, z5, z6, z7, z8⟩ := C0
      obtain ⟨d0, d1, d2, d3, d4, d5, d6, d7, d8⟩ := KX.cells
      simp only at z0 z1 z2 z3 z4 z5 z6 z7 z8 d0 d1 d2 d3 d4 d5 d6 d7 d8
      unfold ccs at hX1
      unfold cv at CP
      simp only at hX1 CP
      have HX1 : Hid (X1 = _) := hX1
      clear KX GX P0 hX1 hp4
      gi_wp2_with fail
      rw [← HX1.out]
      first | refine (callsIn_wide.2 CP).mono ?_ | (refine ⟨trivial, ?_⟩; refine (callsIn_wide.2 CP).mono ?_)
      rintro e X2 ⟨u, rfl, o2, g2⟩
      obtain ⟨xb, yb, rfl⟩ := o2.at.form
      have GU : U.grownBy X2 none := grown_trans HGX.out g2
      have GW : Hid (w.grownBy X2 (some q)) := HG0.out.trans (grown_own' GU (grown_refl _ _))
      have sU : w.heap.size ≤ X1.heap.size := Nat.le_trans HG0.out.size HGX.out.size
      have J2 : J pre X2 := HJ.out pre U X2 none HJ0.out GU (fun r e => by cases e)
      obtain ⟨fn, tmps, assign, body, hy, hR⟩ := HY.out pre ⟨⟨m0, m1, m2, m3, m4, m5, m6, m7⟩, .slice xb eps.length yb, eps⟩ X2 J2 ⟨o2.big sU, _, HE.out, rfl, rfl⟩ HPl.out
      unfold cv at hy
      simp only at hy
      clear CP HX1 o2 g2 GU J2 sU z0 z1 z2 z3 z4 z5 z6 z7 z8 d0 d1 d2 d3 d4 d5 d6 d7 d8
      gi_wp2
      refine hR.mono ?_
      rintro e X3 (⟨rfl, hJ3, hk3⟩ | ⟨rfl, hJx3⟩)
      · have HJ3 : Hid (J (pre ++ [⟨⟨m0, m1, m2, m3, m4, m5, m6, m7⟩, .slice xb eps.length yb, eps⟩]) X3) := hJ3
        have HG3 : Hid (w.grownBy X3 (some q)) := hk3 GW.out
        clear hJ3 hk3 hR hy
        gi_wp2
        go_roundw
        case rel => exact ⟨k + 1, _, hkl, by first | rfl | (rw [hsm.wrap hkl]; rfl), HN.out _, HJ3.out, HG3.out⟩
        case measure => first | exact meas_next hkl | (rw [hsm.wrap hkl]; exact meas_next hkl)
      · clear hR hy
        gi_wp2
        refine bodyPost_ret (results_none rfl _ _ _) rfl ?_
        exact ⟨⟨_, rfl⟩, .inr ⟨_, trivial, hJx3⟩⟩
    · have k1 : ¬ (k : Int) < (es.length : Int) := by omega
      have HF : Hid (pre.map hp = es.map hp) := by
        have h9 := HM.out
        rw [hke, List.take_of_length_le (Nat.le_refl _)] at h9
        exact h9
      clear hke HM
      gi_wp2
      go_end0
      exact ⟨⟨_, rfl⟩, .inl ⟨pre, HF.out, HJ0.out⟩⟩
end Go.Proofs.YtknlcjhcamhfmaaGreatDoor
