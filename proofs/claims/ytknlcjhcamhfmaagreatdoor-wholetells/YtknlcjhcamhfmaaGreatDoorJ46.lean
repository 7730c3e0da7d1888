/-
  The two examples that each statement asks.
  The document's Again and Book.
  A range over a function whose elements lie in memory that the function makes: at each round something is known of the element in the world in which it is handed over. The body goes on, or returns.
-/
import Derived.Test.YtknlcjhcamhfmaaGreatDoorJ44
import Derived.Test.YtknlcjhcamhfmaaGreatDoorWhN
import Derived.Test.YtknlcjhcamhfmaaGreatDoorJ39
import Derived.Test.YtknlcjhcamhfmaaGreatDoorJ40
import Derived.Test.YtknlcjhcamhfmaaGreatDoorJ29
import Derived.Test.YtknlcjhcamhfmaaGreatDoorJ14
import Derived.RangeFuncNested
import Derived.RangeFuncBound
import Derived.RangeFuncCalls
import Derived.RangeFuncLeaves
import Derived.Shelf.Abstract
import Derived.Shelf.RegionOpen
import Derived.OwnWalkIn
import Derived.TacticsInMore
import Derived.LoopNIn
import Derived.LoopIn
namespace Go.Proofs.YtknlcjhcamhfmaaGreatDoor
open Go.RowKit

open Go.Maps

theorem zero3 (w : World) : (zeroValue 3).run Tryz.prog w = .ok (.int .i64 0) w := by kernel_rfl
set_option maxRecDepth 100000 in
theorem num_look {w : World} {m : Nat} (M : NumAt w m) {k : Nat} (hk : k < 6) : (Instr.lookup 22 (.map (some m)) (.string (sNm k)) false).run Tryz.prog w = .ok (.int .i64 (sNo k)) w := by
  obtain ⟨c, hrun, hat, _⟩ := World.ownsMap.lookup_int M keyK Tryz.underlying22 Tryz.underlying3 (zero3 w) (key_of k)
  have e : (nD 6).atKey (kS k) (.lit (.int .i64 0)) = .lit (.int .i64 (sNo k)) := by
    rcases (show k = 0 ∨ k = 1 ∨ k = 2 ∨ k = 3 ∨ k = 4 ∨ k = 5 by omega) with rfl | rfl | rfl | rfl | rfl | rfl <;> kernel_rfl
  have h9 := e.symm.trans hat
  clear hat e
  injection h9 with h9
  injection h9 with _ h9
  rw [hrun, ← h9]
theorem lit_ints {w : World} (os : List Int) : IntsIn (w.alloc (.cells (os.map (Value.int .i64)).toArray 3)) (.slice (some ⟨w.heap.size, 0, none⟩) os.length os.length) os := ⟨_, _, rfl, fun _ => ⟨_, _, rfl, fun j x hx => by
  rw [block_cell (alloc_at w _ _), List.getElem?_toArray, Nat.zero_add, List.getElem?_map, hx]
  rfl⟩⟩
theorem IntsIn.keep {w w' : World} {v : Value} {os : List Int} (h : IntsIn w v os) (g : w.grownBy w' none) : IntsIn w' v os := by
  obtain ⟨a, k, e, h⟩ := h
  refine ⟨a, k, e, fun h0 => ?_⟩
  obtain ⟨b, o, e, h⟩ := h h0
  exact ⟨b, o, e, fun j x hx => g.cell (h j x hx) (by simp)⟩
theorem FB.len {w : World} {b : Nat} {es : List Ent} (h : FB w b es) : es.length = 36 := full_len h.row
set_option maxRecDepth 100000 in
set_option maxHeartbeats 4000000 in
theorem lives_any (w : World) (N : NamesAt w) : Calls Tryz.prog 10 #[] w fun e w' => e = .returned (.bool true) ∧ w.grownBy w' none := by
  have C1 := again_yes (.slice (some ⟨w.heap.size, 0, none⟩) 6 6) [5, 4, 3, 2, 1, 0] (w.alloc (.cells #[.int .i64 5, .int .i64 4, .int .i64 3, .int .i64 2, .int .i64 1, .int .i64 0] 3)) (lit_ints [5, 4, 3, 2, 1, 0]) (by unfold Ord6; decide) (N.keep (World.grownBy_alloc _ _ none))
  clear N
  go_enter Tryz.func10, Tryz.ntmps10
  go_wp2_with fail
  refine C1.mono ?_
  rintro e W1 ⟨b, es, rfl, F1, _, g1⟩
  have HG1 : Hid (w.grownBy W1 none) := grown_trans (World.grownBy_alloc _ _ none) g1
  have CL := len_yes b 36 (by decide) pShut W1 (by have h9 := F1.book.lies.flags; rw [F1.len] at h9; exact h9)
  clear F1 g1 C1
  go_wp2_with fail
  refine CL.mono ?_
  rintro e W2 ⟨rfl, g2, _⟩
  rw [show ((36 : Nat) : Int) = (36 : Int) from rfl]
  have HG2 : Hid (w.grownBy W2 none) := grown_trans HG1.out g2
  clear g2 CL HG1
  go_wp2_with fail
  refine (numbers_any W2).mono ?_
  rintro e W3 ⟨m, rfl, M, _, g3⟩
  have HG3 : Hid (w.grownBy W3 none) := grown_trans HG2.out g3
  have hl : (Instr.lookup 22 (.map (some m)) (.string ⟨#[97, 105, 114]⟩) false).run Tryz.prog W3 = .ok (.int .i64 27) W3 := num_look M (k := 0) (by decide)
  clear g3 M HG2
  go_wp2
  go_ret
  exact ⟨rfl, HG3.out⟩
end Go.Proofs.YtknlcjhcamhfmaaGreatDoor
namespace Go.Proofs.YtknlcjhcamhfmaaGreatDoor
open Go.RowKit

/-- The document's book of all six, sealed. -/
structure RF (w : World) (r : Nat) (v : Value) (fs : List Ent) : Prop where
  book : RB w r v fs pShut
  row : fs.map hp = rowAll.map hp
theorem RF.keepR {w w' : World} {r : Nat} {v : Value} {fs : List Ent} {x : Option Nat} (h : RF w r v fs) (g : w.grownBy w' x) (hr : ∀ k, r ≤ k → some k ≠ x) : RF w' r v fs := ⟨h.book.keepR g hr, h.row⟩
theorem RF.keep {w w' : World} {r : Nat} {v : Value} {fs : List Ent} (h : RF w r v fs) (g : w.grownBy w' none) : RF w' r v fs := h.keepR g (by simp)
set_option maxRecDepth 100000 in
set_option maxHeartbeats 4000000 in
theorem ragain_no (v : Value) (os : List Int) (w : World) (O : IntsIn w v os) (hn : ¬ IsOrd os) : Calls Tryz.prog 23 #[v] w fun e w' => e = .returned (.tuple #[.pointer none, .int .i64 2]) ∧ w.grownBy w' none := by
  have C := rorder_any v os w O
  have HN : Hid (¬ IsOrd os) := hn
  obtain ⟨oa, oc, rfl, _⟩ := O
  clear hn
  go_enter Tryz.func23, Tryz.ntmps23
  go_wp2_with fail
  refine C.mono ?_
  rintro e W1 ⟨h9, g1⟩
  rcases h9 with ⟨h9, rfl⟩ | ⟨h9, rfl⟩
  · exact absurd h9 HN.out
  clear h9 C
  go_wp2
  go_ret2
  exact ⟨rfl, g1⟩
set_option maxRecDepth 100000 in
set_option maxHeartbeats 8000000 in
theorem ragain_yes (vv : Value) (ks : List Nat) (w : World) (O : IntsIn w vv (ks.map fun k : Nat => (k : Int))) (hk : Ord6 ks) : Calls Tryz.prog 23 #[vv] w fun e w' => ∃ r v fs, e = .returned (.tuple #[.pointer (some ⟨r, 0, none⟩), .int .i64 0]) ∧ RF w' r v fs ∧ w.heap.size ≤ r ∧ w.grownBy w' none := by
  have C := rorder_any vv _ w O
  have HK : Hid (Ord6 ks) := hk
  obtain ⟨oa, oc, rfl, HO0⟩ := O
  have h6 : (ks.map fun k : Nat => (k : Int)).length = 6 := by rw [List.length_map, hk.len]
  obtain ⟨og, oo, rfl, HO1⟩ := HO0 (by rw [h6]; decide)
  have HO : Hid (∀ (j : Nat) k, ks[j]? = some k → w.cell? ⟨og, oo + j, none⟩ = some (.int .i64 (k : Int))) := fun j k hjk => HO1 j _ (by rw [List.getElem?_map, hjk]; rfl)
  rw [h6] at C ⊢
  have sm6 : Small 6 := by unfold Small; decide
  clear HO0 HO1 h6 hk
  go_enter Tryz.func23, Tryz.ntmps23
  go_wp2_with fail
  refine C.mono ?_
  rintro e W1 ⟨h9, g1⟩
  rcases h9 with ⟨h9, rfl⟩ | ⟨h9, rfl⟩
  rotate_left 1
  · exact absurd ⟨ks, rfl, HK.out⟩ h9
  have HG1 : Hid (w.grownBy W1 none) := g1
  clear h9 C g1
  obtain ⟨r, hr⟩ : ∃ r, r = W1.heap.size := ⟨_, rfl⟩
  have CN := rnew_any W1
  rw [← hr] at CN
  have HR : Hid (r = W1.heap.size) := hr
  clear hr
  go_wp2_with fail
  refine CN.mono ?_
  rintro e W2 ⟨rfl, R2, g2, s2⟩
  have HB2 : Hid (RB W2 r (.slice none 0 0) [] plNew) := ⟨R2, Or.inl ⟨rfl, rfl⟩, (fun k hk => by cases hk), (fun e he => by simp at he), (by unfold Srt; exact List.Pairwise.nil), by decide, ⟨rfl, fun m hm => by simp [plNew] at hm; exact Or.inl hm⟩, rfl⟩
  have HG2 : Hid (w.grownBy W2 none) := grown_trans HG1.out g2
  have HS2 : Hid (W2.heap.size = r + 1) := s2
  clear R2 g2 s2 CN
  go_wp2_with fail
  refine (fills_any W2).mono ?_
  rintro e W3 ⟨g, rfl, F3, l3, g3⟩
  have HF3 : Hid (FlAt W2.heap.size W3 g) := F3
  have HB3 : Hid (RB W3 r (.slice none 0 0) [] plNew) := HB2.out.keep g3
  have HG3 : Hid (w.grownBy W3 none) := grown_trans HG2.out g3
  have HL3 : Hid (W2.heap.size ≤ g ∧ W2.heap.size ≤ W3.heap.size) := ⟨l3, g3.size⟩
  have hwr : Hid (w.heap.size ≤ r) := by show w.heap.size ≤ r; have h8 := HR.out; have h9 := HG1.out.size; omega
  obtain ⟨base, hbase⟩ : ∃ b, b = W2.heap.size := ⟨_, rfl⟩
  rw [← hbase] at HF3 HL3 HS2
  have hrb : r < base := by have h9 := HS2.out; omega
  clear F3 l3 g3 HB2 HG2 hbase HS2 HG1 HR
  go_wp2_with fail
  go_loopw [7] (fun x wr => ∃ (j : Nat) (v : Value) (fs : List Ent), j ≤ 6 ∧ x = .int .i64 (j : Int) ∧ RB wr r v fs (pL (ks.take j)) ∧ (fs.map hp).Perm (cL (ks.take j)) ∧ W3.grownBy wr (some r)) (fun x _ => 6 - (intOf x).toNat)
  case atStart =>
    refine ⟨0, .slice none 0 0, [], Nat.zero_le _, rfl, ?_, ?_, ?_⟩
    case refine_3 => exact grown_refl _ _
    case refine_2 => rw [List.take_zero]; exact List.Perm.refl _
    rw [List.take_zero]
    rw [pL_nil]
    exact HB3.out
  case round =>
    clear HB3
    obtain ⟨j, v, fs, hj, rfl, B, Pm, Gr⟩ := hrel
    obtain ⟨U, hU⟩ : ∃ U, U = wr := ⟨_, rfl⟩
    subst hU
    have HB : Hid (RB U r v fs (pL (ks.take j))) := B
    have HG : Hid (W3.grownBy U (some r)) := Gr
    have HPm : Hid ((fs.map hp).Perm (cL (ks.take j))) := Pm
    clear B Gr Pm
    have HGw : Hid (w.grownBy U none) := grown_own HG3.out HG.out (fun x e => by cases e; exact hwr.out)
    rcases (show j < 6 ∨ j = 6 from by omega) with h1 | h1
    · have h1' : (j : Int) < 6 := by omega
      have j0 : (0 : Int) ≤ (j : Int) := by omega
      obtain ⟨k, hk⟩ : ∃ k, ks[j]? = some k := ⟨_, List.getElem?_eq_getElem (by rw [HK.out.len]; exact h1)⟩
      obtain ⟨n1, n2, n3⟩ := cL_take HK.out hk
      have hst := pL_take HK.out hk
      have hk6 := HK.out.lt (List.mem_of_getElem? hk)
      have k6 : (k : Int) < 6 := by omega
      have k0 : (0 : Int) ≤ (k : Int) := by omega
      have i0 := HGw.out.cell (HO.out j k hk) (by simp)
      have FU := HF3.out.keepR HG.out HL3.out.1 (fun x hx e => by injection e with e; omega)
      obtain ⟨c, t, m, Fk, Rk⟩ := FU k hk6
      have HNx : Hid (cL (ks.take (j + 1)) = cL (ks.take j) ++ sCs k) := n2
      have CF := rfill_any k hk6 base r c t m v fs (pL (ks.take j)) (pL (ks.take (j + 1))) (cL (ks.take j)) U HB.out hrb Fk hst rfl HPm.out n1 n3 (.int .i64 (sNo k)) (sNm k) ⟨_, rfl⟩
      obtain ⟨xc, ec, hc, _⟩ := Fk.cs
      obtain ⟨xt, ht, _⟩ := Fk.ts
      obtain ⟨xm, hm, _⟩ := Fk.ms
      subst hc ht hm
      obtain ⟨c0, c1, c2, c3, c4⟩ := Rk
      clear hk n1 n2 n3 hst FU Fk
      go_wp2_with fail
      refine CF.mono ?_
      rintro e U2 ⟨rfl, v2, fs2, B2, P2, g2⟩
      have HB2 : Hid (RB U2 r v2 fs2 (pL (ks.take (j + 1)))) := B2
      have HP2 : Hid ((fs2.map hp).Perm (cL (ks.take (j + 1)))) := by show (fs2.map hp).Perm _; rw [HNx.out]; exact P2
      have HG2 : Hid (W3.grownBy U2 (some r)) := HG.out.trans g2
      clear B2 P2 g2 CF c0 c1 c2 c3 c4 i0
      go_wp2_with fail
      go_roundw
      case rel => exact ⟨j + 1, v2, fs2, h1, by first | rfl | (rw [sm6.wrap h1]; rfl), HB2.out, HP2.out, HG2.out⟩
      case measure => first | exact meas_next h1 | (rw [sm6.wrap h1]; exact meas_next h1)
    · have h1' : ¬ (j : Int) < 6 := by omega
      have e6 : ks.take j = ks := List.take_of_length_le (by rw [HK.out.len, h1]; exact Nat.le_refl _)
      have HBf : Hid (RB U r v fs pAll) := by have h9 := HB.out; rw [e6, HK.out.pL] at h9; exact h9
      have HRf : Hid (fs.map hp = rowAll.map hp) := row_full HBf.out.srt (by have h9 := HPm.out; rw [e6] at h9; exact h9.trans HK.out.cL)
      have h4 : ∀ e ∈ fs, e.ps.length ≤ 4 := fun e he => by
        have h9 : hp e ∈ rowAll.map hp := by rw [← HRf.out]; exact List.mem_map.2 ⟨e, he, rfl⟩
        exact cAll_four _ (rowAll_perm.mem_iff.1 h9)
      have CS := rseal_any (fun k => r < k) r v pAll fs U HBf.out.rj HBf.out.rl HBf.out.len HBf.out.good h4
      rw [seal_full HRf.out, sealP_full HRf.out] at CS
      clear e6 HB HPm h1 h4
      go_wp2_with fail
      refine CS.mono ?_
      rintro e U2 ⟨rfl, R2, g2⟩
      have HF : Hid (RF U2 r v fs ∧ w.heap.size ≤ r ∧ w.grownBy U2 none) := ⟨⟨⟨R2, HBf.out.rl.keepR g2 (fun k hk e => by have := (HBf.out.own k hk).1; injection e with e; omega), fun k hk => ⟨(HBf.out.own k hk).1, Nat.lt_of_lt_of_le (HBf.out.own k hk).2 g2.size⟩, HBf.out.good.keepR g2 (fun k hk e => by injection e with e; omega), HBf.out.srt, HBf.out.len, HBf.out.mkd, HBf.out.zero⟩, HRf.out⟩, hwr.out, grown_own HGw.out g2 (fun x e => by cases e; exact hwr.out)⟩
      clear R2 g2 CS
      go_wp2
      go_ret2
      exact ⟨r, v, fs, rfl, HF.out⟩
set_option maxRecDepth 100000 in
set_option maxHeartbeats 4000000 in
theorem rbook_any (w : World) : Calls Tryz.prog 16 #[] w fun e w' => ∃ r v fs, e = .returned (.pointer (some ⟨r, 0, none⟩)) ∧ RF w' r v fs ∧ w.heap.size ≤ r ∧ w.grownBy w' none := by
  have C1 := ragain_yes (.slice (some ⟨w.heap.size, 0, none⟩) 6 6) [0, 1, 2, 3, 4, 5] (w.alloc (.cells #[.int .i64 0, .int .i64 1, .int .i64 2, .int .i64 3, .int .i64 4, .int .i64 5] 3)) (lit_ints [0, 1, 2, 3, 4, 5]) (List.Perm.refl _)
  go_enter Tryz.func16, Tryz.ntmps16
  go_wp2_with fail
  refine C1.mono ?_
  rintro e W1 ⟨r, v, fs, rfl, F1, l1, g1⟩
  have HF : Hid (RF W1 r v fs ∧ w.heap.size ≤ r ∧ w.grownBy W1 none) := ⟨F1, Nat.le_trans (World.grownBy_alloc w (.cells #[.int .i64 0, .int .i64 1, .int .i64 2, .int .i64 3, .int .i64 4, .int .i64 5] 3) none).size l1, grown_trans (World.grownBy_alloc _ _ none) g1⟩
  clear F1 l1 g1 C1
  go_wp2
  go_ret
  exact ⟨r, v, fs, rfl, HF.out⟩
end Go.Proofs.YtknlcjhcamhfmaaGreatDoor
namespace Go.Proofs.YtknlcjhcamhfmaaGreatDoor
open Go.RowKit Go.Shelf

/-- The function's side: it hands over elements of which Rd holds where they are handed over. -/
def SeqTold {α : Type} (F : Fence) (n : Nat) (P : Program) (g : Nat) (lb : Array Value) (encs : α → Array Value) (Rd : List α → α → World → Prop) (Kp : World → World → Prop) (S Sp : List α → Prop) (N : Nat) (w : World) : Prop :=
  ∀ (l : Nat) (J Jx : List α → World → Prop) (W : World), Below w.heap.size w W → AbidesFrom W.heap.size J → AbidesFrom W.heap.size Jx →
    (∀ pre x V, J pre V → Rd pre x V → pre.length < N → YieldAt F (n - 1) P l (encs x) V fun e V' => (e = .returned (.bool true) ∧ J (pre ++ [x]) V' ∧ Kp V V') ∨ (e = .returned (.bool false) ∧ Jx (pre ++ [x]) V')) →
    J [] W → CallsIn F n P g (#[.func (.yield l) #[] #[]] ++ lb) W fun e W' => (∃ v, e = .returned v) ∧ ((∃ xs, S xs ∧ J xs W') ∨ (∃ pre, Sp pre ∧ Jx pre W'))
/-- How a round is left. -/
def RoundEnds {α : Type} (B : Nat) (Kp : World → World → Prop) (I Ir : List α → World → Prop) (xs : List α) (W : World) : Exit → Act → World → Prop
  | .normal, _, W' => KeepsFrom B W W' ∧ Kp W W' ∧ I xs W'
  | .ret, _, W' => KeepsFrom B W W' ∧ Ir xs W'
  | _, _, _ => False
theorem wpIn_range_told {F : Fence} {n : Nat} {P : Program} {α : Type} {g : Operand} {ps : Array Tmp} {assign body : Code} {Q : Exit → Act → World → Prop} {a : Act} {w : World}
    (hro : F.round = none) (h1 : 1 ≤ n) {gf : Nat} {lb : Array Value} (hg : a.eval g = .func (.func gf) #[] lb) (hFg : F.fn gf) (eg : ∀ args w, (callFunc gf args).run P w = .ok (.enter gf args) w)
    {encs : α → Array Value} {Rd : List α → α → World → Prop} {Kp : World → World → Prop} {S Sp : List α → Prop} {N : Nat} {w0 : World} (hseq : SeqTold F (n - 1) P gf lb encs Rd Kp S Sp N w0)
    (hKt : ∀ {A B C : World}, Kp A B → Kp B C → Kp A C) (hKb : ∀ (W : World) (l : Nat) (o : Obj), w.heap.size ≤ l → l < W.heap.size → Kp W (W.putObj l o)) (hb0 : Below w0.heap.size w0 w) (hps : ∀ x, (encs x).size = ps.size)
    (I Ir : List α → World → Prop) (hI : OwnFrom w.heap.size I) (hIr : OwnFrom w.heap.size Ir) (h0 : I [] w) (Ax : List α → α → Act → World → Prop) (hAx : ∀ pre x a', OwnFrom w.heap.size (fun (_ : Unit) W => Ax pre x a' W))
    (hassign : ∀ (l : Nat) (pre : List α) (x : α) (W : World) (K : Act → World → Prop), I pre W → Rd pre x W → pre.length < N → (∀ a' W', KeepsFrom w.heap.size W W' → Kp W W' → I pre W' → Ax pre x a' W' → K a' W') →
      assign.wpIn (F.inRound l) (n - 1 - 1) P (Exit.then K (fun _ _ _ => False)) { tmps := (ps.zip (encs x)).foldl (fun t (p, v) => t.setIfInBounds p v) a.tmps, defers := [] } W)
    (hbody : ∀ (l : Nat) (pre : List α) (x : α) (a' : Act) (W : World), I pre W → Ax pre x a' W → pre.length < N → body.wpIn (F.inRound l) (n - 1 - 1) P (RoundEnds w.heap.size Kp I Ir (pre ++ [x]) W) a' W)
    (hdone : ∀ (D : Nat) (xs : List α) (W : World), w.heap.size ≤ D → S xs → I xs W → W.heap[D]? = some (.deferred (some [])) → Q .normal { a with defers := { target := .collected D, args := #[] } :: a.defers } W)
    (hstop : ∀ (D : Nat) (pre : List α) (W : World), w.heap.size ≤ D → Sp pre → Ir pre W → W.heap[D]? = some (.deferred (some [])) → Code.ret.wpIn F n P Q { a with defers := { target := .collected D, args := #[] } :: a.defers } W) :
    (Code.rangeFunc g ps assign body).wpIn F n P Q a w := by
  obtain ⟨B, hB⟩ : ∃ B, w.heap.size = B := ⟨_, rfl⟩
  refine wpIn_rangeFunc fun fn hfn => ?_
  rw [hro]
  -- the loop's record, in whatever state, and the two new blocks
  obtain ⟨mk, hmk⟩ : ∃ mk : LoopState → Option Code → Obj, mk = fun st pe => .loop { state := st, pending := pe, fn := fn, tmps := a.tmps, params := ps, assign := assign, body := body, defers := w.heap.size } := ⟨_, rfl⟩
  obtain ⟨V0, hV0⟩ : ∃ V0, (w.alloc (.deferred (some []))).alloc (mk .ready none) = V0 := ⟨_, rfl⟩
  have sV : V0.heap.size = B + 2 := by rw [← hV0, ← hB]; simp
  have bD : V0.heap[B]? = some (.deferred (some [])) := by
    rw [← hV0, ← hB]; exact (Below.heap_alloc _ _ _ (by simp)).trans (World.alloc_heap_new w _)
  have bL : V0.heap[B + 1]? = some (mk .ready none) := by
    have h := World.alloc_heap_new (w.alloc (.deferred (some []))) (mk .ready none)
    rw [World.size_alloc, hB, hV0] at h
    exact h
  have iV : I [] V0 := by rw [← hV0]; exact hI.alloc _ (hI.alloc _ h0)
  have bV : Below w0.heap.size w0 V0 := by
    rw [← hV0]; exact hb0.trans ((((Below.refl _ w).alloc (Nat.le_refl _) _).alloc (by simp) _).mono hb0.size)
  have nC : ∀ st pe, (mk st pe).isCells = false := fun st pe => by rw [hmk]; rfl
  have nW : ∀ st pe, (mk st pe).isWalk = false := fun st pe => by rw [hmk]; rfl
  refine ⟨B + 1, [{ target := .collected B, args := #[] }], V0, { target := .fn (.func gf) lb, args := #[.func (.yield (B + 1)) #[] #[]] }, V0, gf, #[.func (.yield (B + 1)) #[] #[]] ++ lb, V0, ?_, ?_, ?_, ?_, fun _ => h1, ?_⟩
  · rw [← hV0, hmk, ← hB]; exact run_enterLoop_outer _ _ _ _ _
  · simp only [resolve, hg]; simp [go_sem]
  · intro f' hf'; simp [Target.leads] at hf'; subst hf'; exact hFg
  · simp [invoke, go_sem, eg]
  · have off : ∀ {X : World} {r : Option Nat}, (∀ k, r = some k → V0.heap.size ≤ k ∧ ∃ o : Obj, X.heap[k]? = some o ∧ o.isWalk = true) → ∀ k, r = some k → w.heap.size ≤ k ∧ ∃ o : Obj, X.heap[k]? = some o ∧ o.isCells = false := fun h k e => by
      obtain ⟨h2, o, ho, hw⟩ := h k e
      exact ⟨by omega, o, ho, Obj.not_cells_of_walk hw⟩
    refine (hseq (B + 1) (fun pre W => I pre W ∧ W.heap[B + 1]? = some (mk .ready none) ∧ W.heap[B]? = some (.deferred (some [])))
      (fun pre W => Ir pre W ∧ W.heap[B + 1]? = some (mk .done (some .ret)) ∧ W.heap[B]? = some (.deferred (some []))) V0 bV ?_ ?_ ?_ ⟨iV, bL, bD⟩).mono ?_
    · intro s X Y r hs hgr hr
      exact ⟨hI s X Y r hs.1 hgr (off hr), (grownBy_keeps hgr (fun k e => (hr k e).2) hs.2.1 (nW _ _)).trans hs.2.1, (grownBy_keeps hgr (fun k e => (hr k e).2) hs.2.2 rfl).trans hs.2.2⟩
    · intro s X Y r hs hgr hr
      exact ⟨hIr s X Y r hs.1 hgr (off hr), (grownBy_keeps hgr (fun k e => (hr k e).2) hs.2.1 (nW _ _)).trans hs.2.1, (grownBy_keeps hgr (fun k e => (hr k e).2) hs.2.2 rfl).trans hs.2.2⟩
    · rintro pre x W ⟨iW, lW, dW⟩ rW hlen
      have hy := run_yield (P := P) (args := encs x) (by rw [hmk] at lW; exact lW) (hps x)
      refine ⟨fn, _, assign, body, hy, roundIn_of_wpIn hfn (hassign _ pre x W _ iW rW hlen ?_)⟩
      intro a' X kX pX iX xX
      have lX := kX.same (B + 1) _ (by omega) lW (nC _ _)
      have dX := kX.same B _ (by omega) dW rfl
      have zX : B + 1 < X.heap.size := (Array.getElem?_eq_some_iff.1 lX).1
      obtain ⟨Y, hY⟩ : ∃ Y, X.putObj (B + 1) (mk .busy none) = Y := ⟨_, rfl⟩
      have lY : Y.heap[B + 1]? = some (mk .busy none) := by rw [← hY]; exact World.putObj_heap_same zX
      have dY : Y.heap[B]? = some (.deferred (some [])) := by rw [← hY]; exact (World.putObj_heap_other (by omega)).trans dX
      have pY : Kp X Y := by rw [← hY]; exact hKb _ _ _ (by omega) zX
      have iY : I pre Y := by rw [← hY]; exact hI.putObj _ iX (by omega) lX (nC _ _)
      have xY : Ax pre x a' Y := by rw [← hY]; exact (hAx pre x a').putObj (s := ()) _ xX (by omega) lX (nC _ _)
      refine ⟨Y, ?_, wpIn_mono (hbody _ pre x a' Y iY xY hlen) ?_⟩
      · rw [← hY]
        have h := run_beginRound (P := P) (by rw [hmk] at lX; exact lX) rfl
        rw [hmk]
        exact h
      · intro e a3 Z hp
        cases e with
        | normal =>
          obtain ⟨kZ, pZ, iZ⟩ := hp
          have lZ := kZ.same (B + 1) _ (by omega) lY (nC _ _)
          have dZ := kZ.same B _ (by omega) dY rfl
          have zZ : B + 1 < Z.heap.size := (Array.getElem?_eq_some_iff.1 lZ).1
          have hr := run_endRound (P := P) none (by rw [hmk] at lZ; exact lZ)
          refine ⟨_, _, hr, .inl ⟨rfl, ⟨hI.putObj _ iZ (by omega) lZ (nC _ _), ?_, (World.putObj_heap_other (by omega)).trans dZ⟩, hKt pX (hKt (hKt pY pZ) (hKb _ _ _ (by omega) zZ))⟩⟩
          rw [World.putObj_heap_same zZ, hmk]
          rfl
        | ret =>
          obtain ⟨kZ, iZ⟩ := hp
          have lZ := kZ.same (B + 1) _ (by omega) lY (nC _ _)
          have dZ := kZ.same B _ (by omega) dY rfl
          have zZ : B + 1 < Z.heap.size := (Array.getElem?_eq_some_iff.1 lZ).1
          have hr := run_endRound (P := P) (some .ret) (by rw [hmk] at lZ; exact lZ)
          refine ⟨_, _, hr, .inr ⟨rfl, hIr.putObj _ iZ (by omega) lZ (nC _ _), ?_, (World.putObj_heap_other (by omega)).trans dZ⟩⟩
          rw [World.putObj_heap_same zZ, hmk]
          rfl
        | exit id => exact hp.elim
        | goto t => exact hp.elim
        | panic ch => exact hp.elim
        | outgrown => exact hp.elim
    · rintro e Z ⟨⟨v, rfl⟩, ⟨xs, hS, iZ, lZ, dZ⟩ | ⟨pre, hSp, iZ, lZ, dZ⟩⟩
      · have hr := run_endLoop (P := P) (by rw [hmk] at lZ; exact lZ) (by simp)
        exact ⟨none, _, hr, hdone B xs _ (by omega) hS (hI.putObj _ iZ (by omega) lZ (nC _ _)) ((World.putObj_heap_other (by omega)).trans dZ)⟩
      · have hr := run_endLoop (P := P) (by rw [hmk] at lZ; exact lZ) (by simp)
        exact ⟨some .ret, _, hr, hstop B pre _ (by omega) hSp (hIr.putObj _ iZ (by omega) lZ (nC _ _)) ((World.putObj_heap_other (by omega)).trans dZ)⟩
end Go.Proofs.YtknlcjhcamhfmaaGreatDoor
