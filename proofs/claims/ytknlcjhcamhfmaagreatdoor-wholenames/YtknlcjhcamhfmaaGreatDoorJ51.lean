/-
  ApartMarks of lists that lie in blocks of their own answers true: each place holds what was written there.
  Lists held against each other: SameTraits, SameMarks, SameTexts of lists that are the same.
  WholeNames, walked.
  What trait's table of names holds when the call begins, as the row says it; a start that meets it.
-/
import Derived.Test.YtknlcjhcamhfmaaGreatDoorJ50
import Derived.Laws.StructEq
import Derived.Test.YtknlcjhcamhfmaaGreatDoorJ49
import Derived.Test.YtknlcjhcamhfmaaGreatDoorJ31
import Derived.Test.YtknlcjhcamhfmaaGreatDoorRows
import Derived.ProofKit
import Derived.OpenShut
import Derived.ChangeSame
import Derived.ChangeVars
import Derived.JoinedOf
import Derived.LaidLaws
namespace Go.Proofs.YtknlcjhcamhfmaaGreatDoor
open Go.RowKit

def RoomM (w : World) (g cap : Nat) : Prop := ∃ cs, w.heap[g]? = some (.cells cs 60 (0, 0)) ∧ cs.size = cap * 4
theorem RoomM.cell {w : World} {g cap : Nat} (h : RoomM w g cap) {i : Nat} (hi : i < cap * 4) : ∃ u, w.cell? ⟨g, i, none⟩ = some u := by
  obtain ⟨cs, h1, h2⟩ := h
  exact ⟨_, by rw [block_cell h1]; exact Array.getElem?_eq_getElem (by omega)⟩
theorem RoomM.free {w : World} {g cap : Nat} (h : RoomM w g cap) (i : Nat) : w.frozen? ⟨g, i, none⟩ = false := by
  obtain ⟨cs, h1, h2⟩ := h
  exact block_free h1 i
theorem RoomM.four {w : World} {g cap m : Nat} (h : RoomM w g cap) (hm : m < cap) : ∃ v0 v1 v2 v3, w.cell? ⟨g, m * 4, none⟩ = some v0 ∧ w.cell? ⟨g, m * 4 + 1, none⟩ = some v1 ∧ w.cell? ⟨g, m * 4 + 2, none⟩ = some v2 ∧ w.cell? ⟨g, m * 4 + 3, none⟩ = some v3 := by
  obtain ⟨v0, e0⟩ := h.cell (i := m * 4) (by omega)
  obtain ⟨v1, e1⟩ := h.cell (i := m * 4 + 1) (by omega)
  obtain ⟨v2, e2⟩ := h.cell (i := m * 4 + 2) (by omega)
  obtain ⟨v3, e3⟩ := h.cell (i := m * 4 + 3) (by omega)
  exact ⟨v0, v1, v2, v3, e0, e1, e2, e3⟩
def mkMM (i k : Int) : Mk := ⟨0, ⟨#[]⟩, wrap64 (wrap64 (-i) - 1), k⟩
theorem eqg_mark (op : BinOp) (x y : Operand) (xs ys : Array Value) (w : World) : (eqGuard op 60 x y (.agg xs) (.agg ys)).run Tryz.prog w = .ok () w := run_eqGuard_agg w op 60 x y xs ys (by kernel_rfl)
theorem neq_mark (a0 a2 a3 : Int) (s : ByteArray) (w : World) : (binOp .neq 60 (.agg #[.int .u8 a0, .string s, .int .i64 a2, .int .i64 a3]) (.agg #[.int .u8 a0, .string s, .int .i64 a2, .int .i64 a3])).run Tryz.prog w = .ok (.bool false) w := by
  have hS : Tryz.prog.underlying 60 = some (.struct (Tryz.prog.fieldsOf 60)) := by kernel_rfl
  have hp : Tryz.prog.stoodInHeld 60 = false := by kernel_rfl
  have u3 := Tryz.underlying3
  have i3 := Tryz.isAgg3
  have z3 := Tryz.sizeOf3
  have u9 := Tryz.underlying9
  have i9 := Tryz.isAgg9
  have z9 := Tryz.sizeOf9
  have u28 := Tryz.underlying58
  have i28 := Tryz.isAgg58
  have z28 := Tryz.sizeOf58
  rw [run_neq_struct, show (10000 : Nat) = 9999 + 1 from rfl, run_equalIn_agg w 9999 60 _ _ hS hp]
  simp only [Program.fieldsOf, Tryz.underlying60]
  go_simp
def Lst.okM (w : World) (x : Lst) : Prop := (x.a = none ∧ x.n = 0 ∧ x.cap = 0) ∨ ∃ g, x.a = some g ∧ x.n ≤ x.cap ∧ lim x.cap ∧ RoomM w g x.cap
/-- The lists, marked so far: those before i, and of list i the first k places. -/
def MkM (w : World) (T : List Lst) (i k : Nat) : Prop := ∀ (j : Nat) (x : Lst) (g : Nat), T[j]? = some x → x.a = some g → ∃ cs, w.heap[g]? = some (.cells cs 60 (0, 0)) ∧ cs.size = x.cap * 4 ∧ ∀ m, m < x.cap → (j < i ∨ (j = i ∧ m < k)) → ∀ (c : Nat) u, (mvs (mkMM j m))[c]? = some u → cs[m * 4 + c]? = some u
theorem MkM.keep {w w' : World} {T : List Lst} {i k : Nat} (M : MkM w T i k) (g : w.grownBy w' none) : MkM w' T i k := fun j x b hj hb => by
  obtain ⟨cs, h1, h2⟩ := M j x b hj hb
  exact ⟨cs, grown_keep g h1 (by simp), h2⟩
theorem mkM_start {w w' : World} {T : List Lst} (D : ∀ x ∈ T, x.okM w) (g : w.grownBy w' none) : MkM w' T 0 0 := fun j x b hj hb => by
  rcases D x (List.mem_of_getElem? hj) with ⟨h, _⟩ | ⟨g', h, _, _, cs, h1, h2⟩
  · rw [h] at hb; cases hb
  · rw [h] at hb
    obtain rfl := Option.some.inj hb
    exact ⟨cs, grown_keep g h1 (by simp), h2, fun m _ h => by omega⟩
theorem MkM.room {w : World} {T : List Lst} {i k j g : Nat} {x : Lst} (M : MkM w T i k) (hj : T[j]? = some x) (hg : x.a = some g) : RoomM w g x.cap := by
  obtain ⟨cs, h1, h2, _⟩ := M j x g hj hg
  exact ⟨cs, h1, h2⟩
theorem MkM.read {w : World} {T : List Lst} {g : Nat} {j : Nat} {x : Lst} (M : MkM w T T.length 0) (hj : T[j]? = some x) (hg : x.a = some g) {m : Nat} (hm : m < x.cap) : M4 w g (m * 4) (mkMM j m) := by
  obtain ⟨cs, h1, h2, h3⟩ := M j x g hj hg
  have hl := (List.getElem?_eq_some_iff.1 hj).1
  have f := h3 m hm (Or.inl hl)
  have e : ∀ c u, (mvs (mkMM j m))[c]? = some u → w.cell? ⟨g, m * 4 + c, none⟩ = some u := fun c u hu => by rw [block_cell h1]; exact f c u hu
  exact ⟨e 0 _ rfl, e 1 _ rfl, e 2 _ rfl, e 3 _ rfl⟩
/-- A mark is written at place m of block g. -/
def putM (w : World) (g o : Nat) (p : Mk) : World := (((w.setCell ⟨g, o, none⟩ (.int .u8 p.mi)).setCell ⟨g, o + 1, none⟩ (.string p.nm)).setCell ⟨g, o + 2, none⟩ (.int .i64 p.po)).setCell ⟨g, o + 3, none⟩ (.int .i64 p.he)
def arrM (cs : Array Value) (o : Nat) (p : Mk) : Array Value := (((cs.setIfInBounds o (.int .u8 p.mi)).setIfInBounds (o + 1) (.string p.nm)).setIfInBounds (o + 2) (.int .i64 p.po)).setIfInBounds (o + 3) (.int .i64 p.he)
theorem putM_block {w : World} {g : Nat} {cs : Array Value} (h : w.heap[g]? = some (.cells cs 60 (0, 0))) (o : Nat) (p : Mk) : (putM w g o p).heap[g]? = some (.cells (arrM cs o p) 60 (0, 0)) :=
  block_set (block_set (block_set (block_set h _ _) _ _) _ _) _ _
theorem putM_grown (w : World) (g o : Nat) (p : Mk) : w.grownBy (putM w g o p) (some g) :=
  grown_trans (grown_trans (grown_trans (grown_set _ _ _ _) (grown_set _ _ _ _)) (grown_set _ _ _ _)) (grown_set _ _ _ _)
theorem arrM_size (cs : Array Value) (o : Nat) (p : Mk) : (arrM cs o p).size = cs.size := by simp [arrM]
theorem arrM_else {cs : Array Value} {o i : Nat} {p : Mk} (h : i < o ∨ o + 4 ≤ i) : (arrM cs o p)[i]? = cs[i]? := by
  unfold arrM
  rw [Array.getElem?_setIfInBounds_ne (by omega), Array.getElem?_setIfInBounds_ne (by omega), Array.getElem?_setIfInBounds_ne (by omega), Array.getElem?_setIfInBounds_ne (by omega)]
theorem arrM_in {cs : Array Value} {o c : Nat} {p : Mk} {u : Value} (h : o + 4 ≤ cs.size) (hu : (mvs p)[c]? = some u) : (arrM cs o p)[o + c]? = some u := by
  have hc : c < 4 := (List.getElem?_eq_some_iff.1 hu).1
  rcases (show c = 0 ∨ c = 1 ∨ c = 2 ∨ c = 3 from by omega) with rfl | rfl | rfl | rfl
  all_goals
    simp only [mvs, List.getElem?_cons_zero, List.getElem?_cons_succ, Option.some.injEq] at hu
    subst hu
    simp [arrM, Array.getElem?_setIfInBounds]
    omega
theorem MkM.step {w : World} {T : List Lst} {i k g : Nat} {x : Lst} (M : MkM w T i k) (hD : Diff T) (hi : T[i]? = some x) (hg : x.a = some g) (hk : k < x.cap) : MkM (putM w g (k * 4) (mkMM i k)) T i (k + 1) := fun j y b hj hb => by
  obtain ⟨cs, h1, h2, h3⟩ := M j y b hj hb
  by_cases e : b = g
  · subst e
    obtain rfl := hD j i y x b hj hi hb hg
    obtain rfl : y = x := Option.some.inj (hj.symm.trans hi)
    refine ⟨arrM cs (k * 4) (mkMM j k), putM_block h1 _ _, by rw [arrM_size]; exact h2, fun m hm h c u hu => ?_⟩
    have hc : c < 4 := (List.getElem?_eq_some_iff.1 hu).1
    by_cases em : m = k
    · subst em
      exact arrM_in (by omega) hu
    · rw [arrM_else (by omega)]
      exact h3 m hm (by omega) c u hu
  · refine ⟨cs, grown_keep (putM_grown w g _ _) h1 (by simpa using e), h2, fun m hm h => h3 m hm ?_⟩
    by_cases ej : j = i
    · subst ej
      obtain rfl : y = x := Option.some.inj (hj.symm.trans hi)
      rw [hg] at hb
      exact absurd (Option.some.inj hb).symm e
    · omega
theorem MkM.next {w : World} {T : List Lst} {i k : Nat} {x : Lst} (M : MkM w T i k) (hi : T[i]? = some x) (hk : x.cap ≤ k) : MkM w T (i + 1) 0 := fun j y b hj hb => by
  obtain ⟨cs, h1, h2, h3⟩ := M j y b hj hb
  refine ⟨cs, h1, h2, fun m hm h => h3 m hm ?_⟩
  by_cases e : j = i
  · subst e
    obtain rfl : y = x := Option.some.inj (hj.symm.trans hi)
    omega
  · omega
theorem Tryz.info120 : (Tryz.prog.info? 120).map (fun i => (i.zero, i.size, i.bytes)) = some (some (.slice none 0 0), 1, 24) := by kernel_rfl
theorem rowM_of_own {w : World} {base : Nat} {v : Value} {T : List Lst} (h : w.ownsRow base 120 1 v T.length (fcells T)) (h0 : 0 < T.length) : ∃ g cap, v = .slice (some ⟨g, 0, none⟩) T.length cap ∧ base ≤ g ∧ (∀ (j : Nat) x, T[j]? = some x → w.cell? ⟨g, j, none⟩ = some x.f) ∧ ∃ cs, w.heap[g]? = some (.cells cs 120 (0, 0)) := by
  obtain ⟨h1, h2⟩ := h
  rcases h2 with ⟨rfl, e⟩ | ⟨g, cap, cur, rfl, hg0, hh, hn, hm, hs, ht⟩
  · omega
  · refine ⟨g, cap, rfl, hg0, fun j x hj => ?_, cur, hh⟩
    have hl := (List.getElem?_eq_some_iff.1 hj).1
    have e : (fcells T)[j]? = some x.f := by unfold fcells; rw [List.getElem?_map, hj]; rfl
    rw [block_cell hh, ← e, ← ht, List.getElem?_take, if_pos (by omega)]
    simp
def S12M (ga k g xc : Nat) (w : World) : Prop := w.cell? ⟨ga, k, none⟩ = some (.slice (some ⟨g, 0, none⟩) xc xc)
theorem S12M.c {ga k g xc : Nat} {w : World} (h : S12M ga k g xc w) : w.cell? ⟨ga, k, none⟩ = some (.slice (some ⟨g, 0, none⟩) xc xc) := h
def S19M (ga k g xc m : Nat) (w : World) : Prop := w.cell? ⟨ga, k, none⟩ = some (.slice (some ⟨g, 0, none⟩) xc xc) ∧ M4 w g (m * 4) (mkMM k m)
theorem S19M.c {ga k g xc m : Nat} {w : World} (h : S19M ga k g xc m w) : w.cell? ⟨ga, k, none⟩ = some (.slice (some ⟨g, 0, none⟩) xc xc) := h.1
theorem S19M.p {ga k g xc m : Nat} {w : World} (h : S19M ga k g xc m w) : M4 w g (m * 4) (mkMM k m) := h.2
end Go.Proofs.YtknlcjhcamhfmaaGreatDoor
namespace Go.Proofs.YtknlcjhcamhfmaaGreatDoor
open Go.RowKit

set_option maxRecDepth 100000 in
set_option maxHeartbeats 2000000 in
theorem sameTexts_eq (g g' c c' : Nat) (ts : List ByteArray) (w : World) (hE : ∀ (j : Nat) x, ts[j]? = some x → w.cell? ⟨g, j, none⟩ = some (.string x)) (hF : ∀ (j : Nat) x, ts[j]? = some x → w.cell? ⟨g', j, none⟩ = some (.string x)) (hs : ts.length ≤ 64) : Calls Tryz.prog 13 #[.slice (some ⟨g, 0, none⟩) ts.length c, .slice (some ⟨g', 0, none⟩) ts.length c'] w fun e w' => e = .returned (.bool true) ∧ w.grownBy w' none := by
  have HE : Hid (∀ (j : Nat) x, ts[j]? = some x → w.cell? ⟨g, j, none⟩ = some (.string x)) := hE
  have HF : Hid (∀ (j : Nat) x, ts[j]? = some x → w.cell? ⟨g', j, none⟩ = some (.string x)) := hF
  have hsm : Small ts.length := by unfold Small; omega
  clear hE hF hs
  go_enter Tryz.func13, Tryz.ntmps13
  go_wp2_with fail
  go_loopw [5] (fun x5 wr => ∃ k : Nat, k ≤ ts.length ∧ x5 = .int .i64 (k : Int) ∧ w.grownBy wr none) (fun x5 _ => ts.length - (intOf x5).toNat)
  case atStart => exact ⟨0, Nat.zero_le _, rfl, grown_refl _ _⟩
  case round =>
    obtain ⟨k, hk, rfl, G⟩ := hrel
    obtain ⟨U, hU⟩ : ∃ U, U = wr := ⟨_, rfl⟩
    subst hU
    have HG : Hid (w.grownBy U none) := G
    clear G
    rcases (show k < ts.length ∨ k = ts.length from by omega) with hkl | hke
    · have k0 : (0 : Int) ≤ (k : Int) := by omega
      have k1 : (k : Int) < (ts.length : Int) := by omega
      obtain ⟨x, hx⟩ : ∃ x, ts[k]? = some x := ⟨_, List.getElem?_eq_getElem hkl⟩
      have a0 := HG.out.cell (HE.out k x hx) (by simp)
      have b0 := HG.out.cell (HF.out k x hx) (by simp)
      clear hx
      go_upto_region 6 with fail
      go_quiet (fail)
      go_wp2_with fail
      go_roundw
      case rel => exact ⟨k + 1, hkl, by first | rfl | (rw [hsm.wrap hkl]; rfl), grown_trans HG.out (grown_drewN _ _ _)⟩
      case measure => first | exact meas_next hkl | (rw [hsm.wrap hkl]; exact meas_next hkl)
    · have k1 : ¬ (k : Int) < (ts.length : Int) := by omega
      clear hke
      go_wp2
      go_ret
      exact ⟨rfl, HG.out⟩
end Go.Proofs.YtknlcjhcamhfmaaGreatDoor
namespace Go.Proofs.YtknlcjhcamhfmaaGreatDoor
open Go.RowKit

theorem IsOrd.nodup {os : List Int} (h : IsOrd os) : os.Nodup := by
  obtain ⟨ks, rfl, h⟩ := h
  exact h.nodup.map _ (fun a b hab e => hab (by have h9 : ((a : Nat) : Int) = (b : Int) := e; omega))
/-- Texts that a list of the call's own holds. -/
theorem own_texts {w : World} {base : Nat} {v : Value} {ts : List ByteArray} (h : w.ownsRow base 9 1 v ts.length (ts.map Value.string)) (h0 : 0 < ts.length) : ∃ g c, v = .slice (some ⟨g, 0, none⟩) ts.length c ∧ base ≤ g ∧ g < w.heap.size ∧ ∀ (j : Nat) x, ts[j]? = some x → w.cell? ⟨g, j, none⟩ = some (.string x) := by
  rcases h.2 with ⟨_, h1⟩ | ⟨g, cap, cur, e, hb, hh, _, _, _, ht⟩
  · omega
  · refine ⟨g, cap, e, hb, block_lt hh, fun j x hx => ?_⟩
    have hj := (List.getElem?_eq_some_iff.1 hx).1
    have h9 : (ts.map Value.string)[j]? = some (.string x) := by rw [List.getElem?_map, hx]; rfl
    rw [← ht, List.getElem?_take, if_pos (by omega)] at h9
    rw [block_cell hh]
    simpa using h9
theorem lit_texts {w : World} (ts : List ByteArray) : ∀ (j : Nat) x, ts[j]? = some x → (w.alloc (.cells (ts.map Value.string).toArray 9)).cell? ⟨w.heap.size, j, none⟩ = some (.string x) := fun j x hx => by
  rw [block_cell (alloc_at w _ _), List.getElem?_toArray, List.getElem?_map, hx]
  rfl
set_option maxRecDepth 100000 in
set_option maxHeartbeats 8000000 in
theorem names14 (w : World) (N : NamesAt w) : Calls Tryz.prog 3 #[] w fun e w' => e = .returned (.bool true) ∧ w.grownBy w' none := by
  have HN : Hid (NamesAt w) := N
  clear N
  go_enter Tryz.func3, Tryz.ntmps3
  go_wp2_with fail
  refine (numbers_any w).mono ?_
  rintro e W1 ⟨m, rfl, M, lm, g1⟩
  have HM1 : Hid (NumAt W1 m) := M
  have HG1 : Hid (w.grownBy W1 none) := g1
  clear M lm g1
  have C2 := again_no (.slice (some ⟨W1.heap.size, 0, none⟩) 6 6) [0, 1, 2, 3, 4, 4] (W1.alloc (.cells #[.int .i64 0, .int .i64 1, .int .i64 2, .int .i64 3, .int .i64 4, .int .i64 4] 3)) (lit_ints [0, 1, 2, 3, 4, 4]) (fun h => absurd h.nodup (by decide))
  go_wp2_with fail
  refine C2.mono ?_
  rintro e W2 ⟨rfl, g2⟩
  have HG2 : Hid (w.grownBy W2 none) := grown_trans (grown_push HG1.out _) g2
  have HM2 : Hid (NumAt W2 m) := (World.ownsMap.alloc HM1.out _).kept g2 (by simp)
  clear g2 C2 HG1 HM1
  have C3 := again_no (.slice none 0 0) [] W2 ⟨_, _, rfl, fun h => absurd h (by decide)⟩ (fun h => absurd h.len (by decide))
  go_wp2_with fail
  refine C3.mono ?_
  rintro e W3 ⟨rfl, g3⟩
  have HG3 : Hid (w.grownBy W3 none) := grown_trans HG2.out g3
  have HM3 : Hid (NumAt W3 m) := World.ownsMap.kept HM2.out g3 (by simp)
  clear g3 C3 HG2 HM2
  go_wp2_with fail
  refine (lives_any W3 (HN.out.keep HG3.out)).mono ?_
  rintro e W4 ⟨rfl, g4⟩
  have HG4 : Hid (w.grownBy W4 none) := grown_trans HG3.out g4
  have HM4 : Hid (NumAt W4 m) := World.ownsMap.kept HM3.out g4 (by simp)
  clear g4 HG3 HM3
  go_wp2_with fail
  refine (book_any W4 (HN.out.keep HG4.out)).mono ?_
  rintro e W5 ⟨b, es, rfl, F5, _, g5⟩
  have HG5 : Hid (w.grownBy W5 none) := grown_trans HG4.out g5
  have HM5 : Hid (NumAt W5 m) := World.ownsMap.kept HM4.out g5 (by simp)
  have CL := len_yes b 36 (by decide) pShut W5 (by have h9 := F5.book.lies.flags; rw [F5.len] at h9; exact h9)
  clear g5 F5 HG4 HM4
  go_wp2_with fail
  refine CL.mono ?_
  rintro e W6 ⟨rfl, g6, _⟩
  rw [show ((36 : Nat) : Int) = (36 : Int) from rfl]
  have HG6 : Hid (w.grownBy W6 none) := grown_trans HG5.out g6
  have M6 : NumAt W6 m := World.ownsMap.kept HM5.out g6 (by simp)
  have hl1 : (Instr.lookup 22 (.map (some m)) (.string ⟨#[97, 105, 114]⟩) false).run Tryz.prog W6 = .ok (.int .i64 27) W6 := num_look M6 (k := 0) (by decide)
  have hl2 : (Instr.lookup 22 (.map (some m)) (.string ⟨#[119, 97, 116, 101, 114]⟩) false).run Tryz.prog W6 = .ok (.int .i64 51) W6 := num_look M6 (k := 3) (by decide)
  clear g6 CL M6 HG5 HM5
  go_wp2_with fail
  refine (tokens_any W6 (HN.out.keep HG6.out)).mono ?_
  rintro e W7 ⟨v, rfl, O7, g7⟩
  obtain ⟨g, c, rfl, _, _, hT⟩ := own_texts (ts := tokens) O7 (by decide)
  have HG7 : Hid (w.grownBy W7 none) := grown_trans HG6.out g7
  have CT := sameTexts_eq g W7.heap.size c 6 tokens (W7.alloc (.cells (tokens.map Value.string).toArray 9)) (fun j x hx => (World.grownBy_alloc W7 _ none).cell (hT j x hx) (by simp)) (lit_texts tokens) (by decide)
  rw [show tokens.length = 6 from rfl] at CT ⊢
  clear O7 g7 hT hl1 hl2 HG6
  go_wp2_with fail
  refine CT.mono ?_
  rintro e W8 ⟨rfl, g8⟩
  have HG8 : Hid (w.grownBy W8 none) := grown_trans (grown_push HG7.out _) g8
  clear g8 CT HG7
  go_wp2
  go_ret
  exact ⟨rfl, HG8.out⟩
end Go.Proofs.YtknlcjhcamhfmaaGreatDoor
namespace Go.Proofs.YtknlcjhcamhfmaaGreatDoor
open Go.ChangeShapes Go.WideShapes Go.ChangeAt Go.RowKit

theorem Tryz.own : ownKnob Tryz.prog.godebug = none := by kernel_rfl
theorem Tryz.laidOut : laidOutB Tryz.prog = true := by kernel_rfl
theorem Tryz.gN : Tryz.prog.globalNamed "gambit/trait.names" = some 0 := by kernel_rfl
theorem Tryz.gNType : (Tryz.prog.globals[0]?).map (·.type) = some 104 := by kernel_rfl
theorem Tryz.cellsN' : Tryz.prog.cellsOf 104 = 9 := by kernel_rfl
theorem Tryz.cells9n : Tryz.prog.cellsOf 9 = 1 := by kernel_rfl
def cellsN : Array Value := #[.string ⟨#[]⟩, .string ⟨#[102, 97, 115, 116]⟩, .string ⟨#[103, 117, 97, 114, 100]⟩, .string ⟨#[118, 101, 110, 111, 109]⟩, .string ⟨#[108, 111, 110, 101]⟩, .string ⟨#[100, 114, 97, 105, 110]⟩, .string ⟨#[109, 117, 116, 101]⟩, .string ⟨#[102, 105, 120, 101, 100]⟩, .string ⟨#[115, 119, 105, 102, 116]⟩]
theorem str_of_trod {H : Type} {enc : TypeId × Value → H} {w : World} {base : Nat} {sp : Nat → Bool} {held : Bool} {fuel : Nat} {c : Value} {y : DataW H × List MemPlace}
    (h : DataW.trod enc Tryz.prog w base sp held fuel 9 [c] = some y) : ∃ s : ByteArray, c = .string s ∧ y = (.lit (.string s.data.toList), []) := by
  obtain ⟨s, hc, hy, _⟩ := DataW.trod_string Tryz.underlying9 h
  simp only [List.cons.injEq, and_true] at hc
  exact ⟨s, hc, hy⟩
theorem ba_of_list {s : ByteArray} {l : List UInt8} (h : s.data.toList = l) : s = ⟨l.toArray⟩ := by
  obtain ⟨⟨d⟩⟩ := s
  simp only at h
  rw [h]
set_option maxRecDepth 100000 in
theorem cellsN_of {W : World} {cs : Array Value} {fuel : Nat} {p : List MemPlace} {enc : TypeId × Value → Unit} {base : Nat} {sp : Nat → Bool} {held : Bool} (hd : DataW.trod enc Tryz.prog W base sp held fuel 104 cs.toList = some (Rows.laid_gambit_trait_names, p)) : cs = cellsN := by
  obtain ⟨l⟩ := cs
  cases fuel with
  | zero => simp [DataW.trod] at hd
  | succ fuel =>
    simp only [DataW.trod, Tryz.underlying104, Tryz.cellsN', Tryz.cells9n] at hd
    split at hd
    · rename_i hl
      obtain ⟨c0, c1, c2, c3, c4, c5, c6, c7, c8, rfl⟩ : ∃ c0 c1 c2 c3 c4 c5 c6 c7 c8, l = [c0, c1, c2, c3, c4, c5, c6, c7, c8] := by
        match l, hl with
        | [c0, c1, c2, c3, c4, c5, c6, c7, c8], _ => exact ⟨c0, c1, c2, c3, c4, c5, c6, c7, c8, rfl⟩
      have e : List.range 9 = [0, 1, 2, 3, 4, 5, 6, 7, 8] := rfl
      rw [e] at hd
      simp only [Option.map_eq_some_iff, List.mapM_cons, List.mapM_nil, Option.bind_eq_bind, Option.bind_eq_some_iff, Option.pure_def, Option.some.injEq] at hd
      obtain ⟨xs, ⟨y0, h0, _, ⟨y1, h1, _, ⟨y2, h2, _, ⟨y3, h3, _, ⟨y4, h4, _, ⟨y5, h5, _, ⟨y6, h6, _, ⟨y7, h7, _, ⟨y8, h8, _, rfl, rfl⟩, rfl⟩, rfl⟩, rfl⟩, rfl⟩, rfl⟩, rfl⟩, rfl⟩, rfl⟩, hx⟩ := hd
      obtain ⟨n0, rfl, rfl⟩ := str_of_trod h0
      obtain ⟨n1, rfl, rfl⟩ := str_of_trod h1
      obtain ⟨n2, rfl, rfl⟩ := str_of_trod h2
      obtain ⟨n3, rfl, rfl⟩ := str_of_trod h3
      obtain ⟨n4, rfl, rfl⟩ := str_of_trod h4
      obtain ⟨n5, rfl, rfl⟩ := str_of_trod h5
      obtain ⟨n6, rfl, rfl⟩ := str_of_trod h6
      obtain ⟨n7, rfl, rfl⟩ := str_of_trod h7
      obtain ⟨n8, rfl, rfl⟩ := str_of_trod h8
      simp [Rows.laid_gambit_trait_names] at hx
      obtain ⟨⟨e0, e1, e2, e3, e4, e5, e6, e7, e8⟩, _⟩ := hx
      have e0' : n0 = ⟨#[]⟩ := by
        obtain ⟨d⟩ := n0
        simp at e0
        rw [e0]
      rw [e0', ba_of_list e1, ba_of_list e2, ba_of_list e3, ba_of_list e4, ba_of_list e5, ba_of_list e6, ba_of_list e7, ba_of_list e8]
      rfl
    · cases hd
theorem laid_of {W : World} (h : laidMet Tryz.prog [("gambit/trait.names", Rows.laid_gambit_trait_names)] W) : NamesAt W := by
  obtain ⟨ps, ⟨g1, t1, cs1, fuel1, p1, q1, hg1, ht1, hvar1, hd1, _, _⟩, _⟩ := h
  obtain rfl := Option.some.inj (Tryz.gN.symm.trans hg1)
  obtain rfl := Option.some.inj (Tryz.gNType.symm.trans ht1)
  rw [cellsN_of hd1] at hvar1
  exact ⟨World.var?_cell Tryz.gN hvar1 1, World.var?_cell Tryz.gN hvar1 2, World.var?_cell Tryz.gN hvar1 3, World.var?_cell Tryz.gN hvar1 4, World.var?_cell Tryz.gN hvar1 5, World.var?_cell Tryz.gN hvar1 6, World.var?_cell Tryz.gN hvar1 7, World.var?_cell Tryz.gN hvar1 8⟩
def putC (cs : Array Value) : Obj → Obj
  | .cells _ t frozen => .cells cs t frozen
  | o => o
set_option maxRecDepth 100000 in
theorem laid_met (os : Os) (args : Array Value) : laidMet Tryz.prog [("gambit/trait.names", Rows.laid_gambit_trait_names)] (({ World.holding Tryz.prog os ⟨#[], #[], []⟩ with heap := (World.holding Tryz.prog os ⟨#[], #[], []⟩).heap.modify 0 (putC cellsN) } : World).forCall (fun _ _ => 0) ⟨#[], args, []⟩).memory :=
  laidMet_of_run (ps := [.cell 0 0, .cell 0 1, .cell 0 2, .cell 0 3, .cell 0 4, .cell 0 5, .cell 0 6, .cell 0 7, .cell 0 8]) 8 (by kernel_rfl) (by kernel_rfl) (by kernel_rfl)
end Go.Proofs.YtknlcjhcamhfmaaGreatDoor
