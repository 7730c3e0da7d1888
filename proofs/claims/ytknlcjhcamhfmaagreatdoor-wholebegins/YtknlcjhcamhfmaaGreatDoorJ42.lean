/-
  The two examples that each statement asks.
  The document's Again and Book.
  BookScript: pair.asked: Len and Sealed.
  BookScript: pair.asked: TraitName and MarkOf.
  BookScript: pair.asked: At.
-/
import Derived.Test.YtknlcjhcamhfmaaGreatDoorJ40
import Derived.Test.YtknlcjhcamhfmaaGreatDoorWhN
import Derived.Test.YtknlcjhcamhfmaaGreatDoorJ36
import Derived.Test.YtknlcjhcamhfmaaGreatDoorJ37
import Derived.Test.YtknlcjhcamhfmaaGreatDoorJ26
import Derived.Test.YtknlcjhcamhfmaaGreatDoorJ31
import Derived.Laws.StructEq
namespace Go.Proofs.YtknlcjhcamhfmaaGreatDoor
open Go.RowKit

open Go.Maps

theorem zero3 (w : World) : (zeroValue 3).run Tryz.prog w = .ok (.int .i64 0) w := by kernel_rfl
set_option maxRecDepth 100000 in
theorem num_look {w : World} {m : Nat} (M : NumAt w m) {k : Nat} (hk : k < 6) : (Instr.lookup 22 (.map (some m)) (.string (sNm k)) false).run Tryz.prog w = .ok (.int .i64 (sNo k)) w := by
  obtain ⟨c, hrun, hat, _⟩ := World.ownsMap.lookup_int M keyK Tryz.underlying22 Tryz.underlying3 (zero3 w) (key_of k)
  have e : (nD 6).atKey (kS k) (.lit (.int .i64 0)) = .lit (.int .i64 (sNo k)) := by
    rcases (show k = 0 ∨ k = 1 ∨ k = 2 ∨ k = 3 ∨ k = 4 ∨ k = 5 by omega) with rfl | rfl | rfl | rfl | rfl | rfl <;> kernel_rfl
  have h9 := e.symm.trans hat
  clear hat e
  injection h9 with h9
  injection h9 with _ h9
  rw [hrun, ← h9]
theorem lit_ints {w : World} (os : List Int) : IntsIn (w.alloc (.cells (os.map (Value.int .i64)).toArray 3)) (.slice (some ⟨w.heap.size, 0, none⟩) os.length os.length) os := ⟨_, _, rfl, fun _ => ⟨_, _, rfl, fun j x hx => by
  rw [block_cell (alloc_at w _ _), List.getElem?_toArray, Nat.zero_add, List.getElem?_map, hx]
  rfl⟩⟩
theorem IntsIn.keep {w w' : World} {v : Value} {os : List Int} (h : IntsIn w v os) (g : w.grownBy w' none) : IntsIn w' v os := by
  obtain ⟨a, k, e, h⟩ := h
  refine ⟨a, k, e, fun h0 => ?_⟩
  obtain ⟨b, o, e, h⟩ := h h0
  exact ⟨b, o, e, fun j x hx => g.cell (h j x hx) (by simp)⟩
theorem FB.len {w : World} {b : Nat} {es : List Ent} (h : FB w b es) : es.length = 36 := full_len h.row
set_option maxRecDepth 100000 in
set_option maxHeartbeats 4000000 in
theorem lives_any (w : World) (N : NamesAt w) : Calls Tryz.prog 10 #[] w fun e w' => e = .returned (.bool true) ∧ w.grownBy w' none := by
  have C1 := again_yes (.slice (some ⟨w.heap.size, 0, none⟩) 6 6) [5, 4, 3, 2, 1, 0] (w.alloc (.cells #[.int .i64 5, .int .i64 4, .int .i64 3, .int .i64 2, .int .i64 1, .int .i64 0] 3)) (lit_ints [5, 4, 3, 2, 1, 0]) (by unfold Ord6; decide) (N.keep (World.grownBy_alloc _ _ none))
  clear N
  go_enter Tryz.func10, Tryz.ntmps10
  go_wp2_with fail
  refine C1.mono ?_
  rintro e W1 ⟨b, es, rfl, F1, _, g1⟩
  have HG1 : Hid (w.grownBy W1 none) := grown_trans (World.grownBy_alloc _ _ none) g1
  have CL := len_yes b 36 (by decide) pShut W1 (by have h9 := F1.book.lies.flags; rw [F1.len] at h9; exact h9)
  clear F1 g1 C1
  go_wp2_with fail
  refine CL.mono ?_
  rintro e W2 ⟨rfl, g2, _⟩
  rw [show ((36 : Nat) : Int) = (36 : Int) from rfl]
  have HG2 : Hid (w.grownBy W2 none) := grown_trans HG1.out g2
  clear g2 CL HG1
  go_wp2_with fail
  refine (numbers_any W2).mono ?_
  rintro e W3 ⟨m, rfl, M, _, g3⟩
  have HG3 : Hid (w.grownBy W3 none) := grown_trans HG2.out g3
  have hl : (Instr.lookup 22 (.map (some m)) (.string ⟨#[97, 105, 114]⟩) false).run Tryz.prog W3 = .ok (.int .i64 27) W3 := num_look M (k := 0) (by decide)
  clear g3 M HG2
  go_wp2
  go_ret
  exact ⟨rfl, HG3.out⟩
end Go.Proofs.YtknlcjhcamhfmaaGreatDoor
namespace Go.Proofs.YtknlcjhcamhfmaaGreatDoor
open Go.RowKit

/-- The document's book of all six, sealed. -/
structure RF (w : World) (r : Nat) (v : Value) (fs : List Ent) : Prop where
  book : RB w r v fs pShut
  row : fs.map hp = rowAll.map hp
theorem RF.keepR {w w' : World} {r : Nat} {v : Value} {fs : List Ent} {x : Option Nat} (h : RF w r v fs) (g : w.grownBy w' x) (hr : ∀ k, r ≤ k → some k ≠ x) : RF w' r v fs := ⟨h.book.keepR g hr, h.row⟩
theorem RF.keep {w w' : World} {r : Nat} {v : Value} {fs : List Ent} (h : RF w r v fs) (g : w.grownBy w' none) : RF w' r v fs := h.keepR g (by simp)
set_option maxRecDepth 100000 in
set_option maxHeartbeats 4000000 in
theorem ragain_no (v : Value) (os : List Int) (w : World) (O : IntsIn w v os) (hn : ¬ IsOrd os) : Calls Tryz.prog 23 #[v] w fun e w' => e = .returned (.tuple #[.pointer none, .int .i64 2]) ∧ w.grownBy w' none := by
  have C := rorder_any v os w O
  have HN : Hid (¬ IsOrd os) := hn
  obtain ⟨oa, oc, rfl, _⟩ := O
  clear hn
  go_enter Tryz.func23, Tryz.ntmps23
  go_wp2_with fail
  refine C.mono ?_
  rintro e W1 ⟨h9, g1⟩
  rcases h9 with ⟨h9, rfl⟩ | ⟨h9, rfl⟩
  · exact absurd h9 HN.out
  clear h9 C
  go_wp2
  go_ret2
  exact ⟨rfl, g1⟩
set_option maxRecDepth 100000 in
set_option maxHeartbeats 8000000 in
theorem ragain_yes (vv : Value) (ks : List Nat) (w : World) (O : IntsIn w vv (ks.map fun k : Nat => (k : Int))) (hk : Ord6 ks) : Calls Tryz.prog 23 #[vv] w fun e w' => ∃ r v fs, e = .returned (.tuple #[.pointer (some ⟨r, 0, none⟩), .int .i64 0]) ∧ RF w' r v fs ∧ w.heap.size ≤ r ∧ w.grownBy w' none := by
  have C := rorder_any vv _ w O
  have HK : Hid (Ord6 ks) := hk
  obtain ⟨oa, oc, rfl, HO0⟩ := O
  have h6 : (ks.map fun k : Nat => (k : Int)).length = 6 := by rw [List.length_map, hk.len]
  obtain ⟨og, oo, rfl, HO1⟩ := HO0 (by rw [h6]; decide)
  have HO : Hid (∀ (j : Nat) k, ks[j]? = some k → w.cell? ⟨og, oo + j, none⟩ = some (.int .i64 (k : Int))) := fun j k hjk => HO1 j _ (by rw [List.getElem?_map, hjk]; rfl)
  rw [h6] at C ⊢
  have sm6 : Small 6 := by unfold Small; decide
  clear HO0 HO1 h6 hk
  go_enter Tryz.func23, Tryz.ntmps23
  go_wp2_with fail
  refine C.mono ?_
  rintro e W1 ⟨h9, g1⟩
  rcases h9 with ⟨h9, rfl⟩ | ⟨h9, rfl⟩
  rotate_left 1
  · exact absurd ⟨ks, rfl, HK.out⟩ h9
  have HG1 : Hid (w.grownBy W1 none) := g1
  clear h9 C g1
  obtain ⟨r, hr⟩ : ∃ r, r = W1.heap.size := ⟨_, rfl⟩
  have CN := rnew_any W1
  rw [← hr] at CN
  have HR : Hid (r = W1.heap.size) := hr
  clear hr
  go_wp2_with fail
  refine CN.mono ?_
  rintro e W2 ⟨rfl, R2, g2, s2⟩
  have HB2 : Hid (RB W2 r (.slice none 0 0) [] plNew) := ⟨R2, Or.inl ⟨rfl, rfl⟩, (fun k hk => by cases hk), (fun e he => by simp at he), (by unfold Srt; exact List.Pairwise.nil), by decide, ⟨rfl, fun m hm => by simp [plNew] at hm; exact Or.inl hm⟩, rfl⟩
  have HG2 : Hid (w.grownBy W2 none) := grown_trans HG1.out g2
  have HS2 : Hid (W2.heap.size = r + 1) := s2
  clear R2 g2 s2 CN
  go_wp2_with fail
  refine (fills_any W2).mono ?_
  rintro e W3 ⟨g, rfl, F3, l3, g3⟩
  have HF3 : Hid (FlAt W2.heap.size W3 g) := F3
  have HB3 : Hid (RB W3 r (.slice none 0 0) [] plNew) := HB2.out.keep g3
  have HG3 : Hid (w.grownBy W3 none) := grown_trans HG2.out g3
  have HL3 : Hid (W2.heap.size ≤ g ∧ W2.heap.size ≤ W3.heap.size) := ⟨l3, g3.size⟩
  have hwr : Hid (w.heap.size ≤ r) := by show w.heap.size ≤ r; have h8 := HR.out; have h9 := HG1.out.size; omega
  obtain ⟨base, hbase⟩ : ∃ b, b = W2.heap.size := ⟨_, rfl⟩
  rw [← hbase] at HF3 HL3 HS2
  have hrb : r < base := by have h9 := HS2.out; omega
  clear F3 l3 g3 HB2 HG2 hbase HS2 HG1 HR
  go_wp2_with fail
  go_loopw [7] (fun x wr => ∃ (j : Nat) (v : Value) (fs : List Ent), j ≤ 6 ∧ x = .int .i64 (j : Int) ∧ RB wr r v fs (pL (ks.take j)) ∧ (fs.map hp).Perm (cL (ks.take j)) ∧ W3.grownBy wr (some r)) (fun x _ => 6 - (intOf x).toNat)
  case atStart =>
    refine ⟨0, .slice none 0 0, [], Nat.zero_le _, rfl, ?_, ?_, ?_⟩
    case refine_3 => exact grown_refl _ _
    case refine_2 => rw [List.take_zero]; exact List.Perm.refl _
    rw [List.take_zero]
    rw [pL_nil]
    exact HB3.out
  case round =>
    clear HB3
    obtain ⟨j, v, fs, hj, rfl, B, Pm, Gr⟩ := hrel
    obtain ⟨U, hU⟩ : ∃ U, U = wr := ⟨_, rfl⟩
    subst hU
    have HB : Hid (RB U r v fs (pL (ks.take j))) := B
    have HG : Hid (W3.grownBy U (some r)) := Gr
    have HPm : Hid ((fs.map hp).Perm (cL (ks.take j))) := Pm
    clear B Gr Pm
    have HGw : Hid (w.grownBy U none) := grown_own HG3.out HG.out (fun x e => by cases e; exact hwr.out)
    rcases (show j < 6 ∨ j = 6 from by omega) with h1 | h1
    · have h1' : (j : Int) < 6 := by omega
      have j0 : (0 : Int) ≤ (j : Int) := by omega
      obtain ⟨k, hk⟩ : ∃ k, ks[j]? = some k := ⟨_, List.getElem?_eq_getElem (by rw [HK.out.len]; exact h1)⟩
      obtain ⟨n1, n2, n3⟩ := cL_take HK.out hk
      have hst := pL_take HK.out hk
      have hk6 := HK.out.lt (List.mem_of_getElem? hk)
      have k6 : (k : Int) < 6 := by omega
      have k0 : (0 : Int) ≤ (k : Int) := by omega
      have i0 := HGw.out.cell (HO.out j k hk) (by simp)
      have FU := HF3.out.keepR HG.out HL3.out.1 (fun x hx e => by injection e with e; omega)
      obtain ⟨c, t, m, Fk, Rk⟩ := FU k hk6
      have HNx : Hid (cL (ks.take (j + 1)) = cL (ks.take j) ++ sCs k) := n2
      have CF := rfill_any k hk6 base r c t m v fs (pL (ks.take j)) (pL (ks.take (j + 1))) (cL (ks.take j)) U HB.out hrb Fk hst rfl HPm.out n1 n3 (.int .i64 (sNo k)) (sNm k) ⟨_, rfl⟩
      obtain ⟨xc, ec, hc, _⟩ := Fk.cs
      obtain ⟨xt, ht, _⟩ := Fk.ts
      obtain ⟨xm, hm, _⟩ := Fk.ms
      subst hc ht hm
      obtain ⟨c0, c1, c2, c3, c4⟩ := Rk
      clear hk n1 n2 n3 hst FU Fk
      go_wp2_with fail
      refine CF.mono ?_
      rintro e U2 ⟨rfl, v2, fs2, B2, P2, g2⟩
      have HB2 : Hid (RB U2 r v2 fs2 (pL (ks.take (j + 1)))) := B2
      have HP2 : Hid ((fs2.map hp).Perm (cL (ks.take (j + 1)))) := by show (fs2.map hp).Perm _; rw [HNx.out]; exact P2
      have HG2 : Hid (W3.grownBy U2 (some r)) := HG.out.trans g2
      clear B2 P2 g2 CF c0 c1 c2 c3 c4 i0
      go_wp2_with fail
      go_roundw
      case rel => exact ⟨j + 1, v2, fs2, h1, by first | rfl | (rw [sm6.wrap h1]; rfl), HB2.out, HP2.out, HG2.out⟩
      case measure => first | exact meas_next h1 | (rw [sm6.wrap h1]; exact meas_next h1)
    · have h1' : ¬ (j : Int) < 6 := by omega
      have e6 : ks.take j = ks := List.take_of_length_le (by rw [HK.out.len, h1]; exact Nat.le_refl _)
      have HBf : Hid (RB U r v fs pAll) := by have h9 := HB.out; rw [e6, HK.out.pL] at h9; exact h9
      have HRf : Hid (fs.map hp = rowAll.map hp) := row_full HBf.out.srt (by have h9 := HPm.out; rw [e6] at h9; exact h9.trans HK.out.cL)
      have h4 : ∀ e ∈ fs, e.ps.length ≤ 4 := fun e he => by
        have h9 : hp e ∈ rowAll.map hp := by rw [← HRf.out]; exact List.mem_map.2 ⟨e, he, rfl⟩
        exact cAll_four _ (rowAll_perm.mem_iff.1 h9)
      have CS := rseal_any (fun k => r < k) r v pAll fs U HBf.out.rj HBf.out.rl HBf.out.len HBf.out.good h4
      rw [seal_full HRf.out, sealP_full HRf.out] at CS
      clear e6 HB HPm h1 h4
      go_wp2_with fail
      refine CS.mono ?_
      rintro e U2 ⟨rfl, R2, g2⟩
      have HF : Hid (RF U2 r v fs ∧ w.heap.size ≤ r ∧ w.grownBy U2 none) := ⟨⟨⟨R2, HBf.out.rl.keepR g2 (fun k hk e => by have := (HBf.out.own k hk).1; injection e with e; omega), fun k hk => ⟨(HBf.out.own k hk).1, Nat.lt_of_lt_of_le (HBf.out.own k hk).2 g2.size⟩, HBf.out.good.keepR g2 (fun k hk e => by injection e with e; omega), HBf.out.srt, HBf.out.len, HBf.out.mkd, HBf.out.zero⟩, HRf.out⟩, hwr.out, grown_own HGw.out g2 (fun x e => by cases e; exact hwr.out)⟩
      clear R2 g2 CS
      go_wp2
      go_ret2
      exact ⟨r, v, fs, rfl, HF.out⟩
set_option maxRecDepth 100000 in
set_option maxHeartbeats 4000000 in
theorem rbook_any (w : World) : Calls Tryz.prog 16 #[] w fun e w' => ∃ r v fs, e = .returned (.pointer (some ⟨r, 0, none⟩)) ∧ RF w' r v fs ∧ w.heap.size ≤ r ∧ w.grownBy w' none := by
  have C1 := ragain_yes (.slice (some ⟨w.heap.size, 0, none⟩) 6 6) [0, 1, 2, 3, 4, 5] (w.alloc (.cells #[.int .i64 0, .int .i64 1, .int .i64 2, .int .i64 3, .int .i64 4, .int .i64 5] 3)) (lit_ints [0, 1, 2, 3, 4, 5]) (List.Perm.refl _)
  go_enter Tryz.func16, Tryz.ntmps16
  go_wp2_with fail
  refine C1.mono ?_
  rintro e W1 ⟨r, v, fs, rfl, F1, l1, g1⟩
  have HF : Hid (RF W1 r v fs ∧ w.heap.size ≤ r ∧ w.grownBy W1 none) := ⟨F1, Nat.le_trans (World.grownBy_alloc w (.cells #[.int .i64 0, .int .i64 1, .int .i64 2, .int .i64 3, .int .i64 4, .int .i64 5] 3) none).size l1, grown_trans (World.grownBy_alloc _ _ none) g1⟩
  clear F1 l1 g1 C1
  go_wp2
  go_ret
  exact ⟨r, v, fs, rfl, HF.out⟩
end Go.Proofs.YtknlcjhcamhfmaaGreatDoor
namespace Go.Proofs.YtknlcjhcamhfmaaGreatDoor
open Go.RowKit

/-- An act, plainly. -/
structure Dn where
  kd : Int
  onn : Int
  h : Hd
  v : Value
  t : Int
  nm : ByteArray
  m : Mk
  n : Int
def dcs (a : Dn) : Array Value := #[.int .i64 a.kd, .int .i64 a.onn, .string a.h.nm, .int .u8 a.h.su, .int .u8 a.h.kd, .int .i64 a.h.co, .int .i64 a.h.po, .int .i64 a.h.he, .int .u16 a.h.tr, .bool a.h.tk, a.v, .int .u8 a.t, .string a.nm, .int .u8 a.m.mi, .string a.m.nm, .int .i64 a.m.po, .int .i64 a.m.he, .int .i64 a.n]
theorem Pr.keep {ok : Nat → Prop} {w w' : World} {b r : Nat} {v : Value} {es fs : List Ent} {p : Pl} (h : Pr ok w b r v es fs p) (g : w.grownBy w' none) : Pr ok w' b r v es fs p := ⟨h.book.keep g, h.rj.keep g, h.rl.keep g, fun k hk => ⟨(h.own k hk).1, Nat.lt_of_lt_of_le (h.own k hk).2 g.size⟩, h.good.keep g, h.same, h.mkd, h.zero⟩
end Go.Proofs.YtknlcjhcamhfmaaGreatDoor
namespace Go.Proofs.YtknlcjhcamhfmaaGreatDoor
open Go.RowKit

theorem eqg_mk (op : BinOp) (x y : Operand) (xs ys : Array Value) (w : World) : (eqGuard op 60 x y (.agg xs) (.agg ys)).run Tryz.prog w = .ok () w := run_eqGuard_agg w op 60 x y xs ys (by kernel_rfl)
theorem eql_mk (a0 a2 a3 : Int) (s : ByteArray) (w : World) : (binOp .eql 60 (.agg #[.int .u8 a0, .string s, .int .i64 a2, .int .i64 a3]) (.agg #[.int .u8 a0, .string s, .int .i64 a2, .int .i64 a3])).run Tryz.prog w = .ok (.bool true) w := by
  have hS : Tryz.prog.underlying 60 = some (.struct (Tryz.prog.fieldsOf 60)) := by kernel_rfl
  have hp : Tryz.prog.stoodInHeld 60 = false := by kernel_rfl
  have u3 := Tryz.underlying3
  have i3 := Tryz.isAgg3
  have z3 := Tryz.sizeOf3
  have u9 := Tryz.underlying9
  have i9 := Tryz.isAgg9
  have z9 := Tryz.sizeOf9
  have u28 := Tryz.underlying58
  have i28 := Tryz.isAgg58
  have z28 := Tryz.sizeOf58
  rw [run_eql_struct, show (10000 : Nat) = 9999 + 1 from rfl, run_equalIn_agg w 9999 60 _ _ hS hp]
  simp only [Program.fieldsOf, Tryz.underlying60]
  go_simp
end Go.Proofs.YtknlcjhcamhfmaaGreatDoor
namespace Go.Proofs.YtknlcjhcamhfmaaGreatDoor
open Go.RowKit

theorem hp_at {es fs : List Ent} (h : es.map hp = fs.map hp) {m : Nat} {e : Ent} (he : es[m]? = some e) : ∃ f, fs[m]? = some f ∧ f.h = e.h ∧ f.ps = e.ps := by
  have h1 : (es.map hp)[m]? = some (hp e) := by rw [List.getElem?_map, he]; rfl
  rw [h, List.getElem?_map] at h1
  cases hf : fs[m]? with
  | none => rw [hf] at h1; cases h1
  | some f =>
    rw [hf] at h1
    injection h1 with h1
    injection h1 with h1 h2
    exact ⟨f, rfl, h1, h2⟩
theorem hp_in {es fs : List Ent} (h : es.map hp = fs.map hp) (p : Pl) (n : Int) : atIn p es n ↔ atIn p fs n := by
  unfold atIn
  rw [hp_len h]
end Go.Proofs.YtknlcjhcamhfmaaGreatDoor
