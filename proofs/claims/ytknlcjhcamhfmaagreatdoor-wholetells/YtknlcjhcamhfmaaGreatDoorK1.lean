/-
  Tokens.
  ApartMarks of lists that lie in blocks of their own answers true: each place holds what was written there.
  Lists held against each other: SameTraits, SameMarks, SameTexts of lists that are the same.
  WholeNames, walked.
-/
import Derived.Test.YtknlcjhcamhfmaaGreatDoorJ42
import Derived.Test.YtknlcjhcamhfmaaGreatDoorK0
import Derived.Test.YtknlcjhcamhfmaaGreatDoorApart
import Derived.Laws.StructEq
namespace Go.Proofs.YtknlcjhcamhfmaaGreatDoor
open Go.RowKit Go.Shelf

attribute [local go_sem] Oper.semAt_some

theorem grown_off {a x y : World} {r row : Option Nat} (h : a.grownBy x r) (k : x.grownBy y row) (hr : ∀ j, row = some j → a.heap.size ≤ j) : a.grownBy y r := by
  obtain ⟨h1, h2, h3, h4, h5⟩ := h
  obtain ⟨k1, k2, k3, k4, k5⟩ := k
  refine ⟨k1.trans h1, k2.trans h2, k3.trans h3, Nat.le_trans h4 k4, fun j hj hn => ?_⟩
  rw [k5 j (by omega) (fun e => by have := hr j e.symm; omega)]
  exact h5 j hj hn
theorem fnilC (x : Nat) (w : World) : Sem.run Tryz.prog (binOp BinOp.eql 91 (Value.func (Fn.func 106) #[] #[.pointer (some ⟨x, 0, none⟩)]) Value.nilFunc) w = .ok (.bool false) w := by kernel_rfl
theorem Tryz.info9t : (Tryz.prog.info? 9).map (fun i => (i.zero, i.size, i.bytes)) = some (some (.string ⟨#[]⟩), 1, 16) := by kernel_rfl
/-- The names of the tokens among some cards. -/
def tkN (l : List Ent) : List ByteArray := (l.filter fun e => e.h.tk).map fun e => e.h.nm
theorem tkN_snoc (l : List Ent) (e : Ent) : tkN (l ++ [e]) = if e.h.tk = true then tkN l ++ [e.h.nm] else tkN l := by
  unfold tkN
  rw [List.filter_append, List.map_append]
  cases h : e.h.tk <;> simp [h]
theorem tkN_hp : ∀ {a b : List Ent}, a.map hp = b.map hp → tkN a = tkN b
  | [], [], _ => rfl
  | [], _ :: _, h => by simp at h
  | _ :: _, [], h => by simp at h
  | x :: r, y :: t, h => by
    rw [List.map_cons, List.map_cons] at h
    injection h with h1 h2
    have h3 : x.h = y.h := congrArg Prod.fst h1
    have h4 := tkN_hp h2
    unfold tkN at h4 ⊢
    simp only [List.filter_cons, h3]
    split
    · rw [List.map_cons, List.map_cons, h4, h3]
    · exact h4
theorem tkN_len (l : List Ent) : (tkN l).length ≤ l.length := by
  unfold tkN
  rw [List.length_map]
  exact List.length_filter_le _ _
def tokens : List ByteArray := [⟨#[119, 105, 115, 112]⟩, ⟨#[112, 101, 98, 98, 108, 101]⟩, ⟨#[101, 109, 98, 101, 114]⟩, ⟨#[100, 114, 111, 112]⟩, ⟨#[115, 104, 97, 100, 101]⟩, ⟨#[99, 111, 105, 110]⟩]
set_option maxRecDepth 100000 in
theorem tkN_all : tkN rowAll = tokens := by decide +kernel
theorem boxed_app {W w1 : World} {n₀ B : Nat} {t e : TypeId} {size : Nat} {v v' : Value} {k m : Nat} {xs ys : List Value} {tmp : Obj} (hv : Boxed W B t v) (hte : t ≠ e) (hrow : W.ownsRow n₀ e size v k xs) (hown' : w1.ownsRow n₀ e size v' m ys) (hgrow : (W.alloc tmp).grownBy w1 v.ownBlock) : Boxed w1 B t v ∧ Boxed (w1.setCell ⟨B, 0, none⟩ v') B t v' ∧ (w1.setCell ⟨B, 0, none⟩ v').ownsRow n₀ e size v' m ys ∧ KeepsOthers W (w1.setCell ⟨B, 0, none⟩ v') := by
  have hv1 : Boxed w1 B t v := (hv.alloc tmp).kept hgrow (hv.not_row hte hrow)
  refine ⟨hv1, hv1.set v', hown'.kept (grownBy_setCell' w1 B v') (.inr (hv1.not_row hte hown').symm), ?_⟩
  refine ((KeepsOthers.alloc W tmp).trans (KeepsOthers.of_grownBy hgrow fun j o ej hj => ?_)).trans (KeepsOthers.setCell _ _ _)
  rcases (hrow.alloc tmp).2 with ⟨rfl, _⟩ | ⟨g, cap, cur, rfl, _, hgb, _⟩
  · simp [Value.ownBlock] at ej
  · obtain rfl : g = j := by simpa [Value.ownBlock] using ej
    rw [hgb] at hj; cases hj; rfl
theorem row_base {W : World} {n m : Nat} {e : TypeId} {size : Nat} {v : Value} {k : Nat} {xs : List Value} (h : W.ownsRow n e size v k xs) (hb : m ≤ n) : W.ownsRow m e size v k xs := by
  obtain ⟨h1, h2⟩ := h
  refine ⟨h1, h2.imp id ?_⟩
  rintro ⟨g, cap, cur, h3, h4, h5⟩
  exact ⟨g, cap, cur, h3, Nat.le_trans hb h4, h5⟩
theorem row_low {W : World} {n₀ : Nat} {e : TypeId} {size : Nat} {v : Value} {k : Nat} {xs : List Value} (h : W.ownsRow n₀ e size v k xs) : ∀ j, v.ownBlock = some j → n₀ ≤ j := fun j hj => (World.ownsRow.lt h j hj).1
/-- What holds in the rounds of Tokens. -/
def TkI (w W3 : World) (pre : List Ent) (W : World) : Prop := W3.grownBy W (some w.heap.size) ∧ ∃ v, Boxed W w.heap.size 33 v ∧ W.ownsRow W3.heap.size 9 1 v (tkN pre).length ((tkN pre).map Value.string)
theorem TkI.own (w W3 : World) : OwnFrom W3.heap.size (TkI w W3) := fun s X Y row hs hg hr => by
  obtain ⟨h1, v, h2, h3⟩ := hs
  have hne : ∀ k cs t, X.heap[k]? = some (.cells cs t (0, 0)) → some k ≠ row := fun k cs t hk e => by
    obtain ⟨_, o, ho, hc⟩ := hr k e.symm
    rw [hk] at ho
    injection ho with ho
    subst ho
    cases hc
  refine ⟨grown_off h1 hg (fun j e => (hr j e).1), v, h2.kept hg (hne _ _ _ h2), World.ownsRow.kept h3 hg ?_⟩
  rcases h3.2 with ⟨e, _⟩ | ⟨g, cap, cur, e, _, hh, _⟩
  · rw [e]; exact Or.inl rfl
  · rw [e]; exact Or.inr (hne _ _ _ hh)
set_option maxRecDepth 100000 in
set_option maxHeartbeats 8000000 in
theorem tokens_any (w : World) (N : NamesAt w) : Calls Tryz.prog 14 #[] w fun e w' => ∃ v, e = .returned v ∧ w'.ownsRow w.heap.size 9 1 v 6 (tokens.map Value.string) ∧ w.grownBy w' none := by
  obtain ⟨i0, hi, hz0, hz1, hz2⟩ := info_parts Tryz.info9t
  have HN : Hid (NamesAt w) := N
  obtain ⟨W1, hW1⟩ : ∃ W1, W1 = w.alloc (.cells #[.slice none 0 0] 33) := ⟨_, rfl⟩
  have HG1 : Hid (w.grownBy W1 none) := by show w.grownBy W1 none; rw [hW1]; exact World.grownBy_alloc _ _ none
  have HQ1 : Hid (Boxed W1 w.heap.size 33 (.slice none 0 0)) := by show Boxed W1 _ _ _; rw [hW1]; exact Boxed.new _ _ _
  have HW1 : Hid (W1 = w.alloc (.cells #[.slice none 0 0] 33)) := hW1
  clear N hW1
  refine (callsIn_wide (n := 5)).1 ?_
  refine callsIn_of_wp_marks Tryz.func14 rfl trivial ?_ rfl
  simp only [Tryz.ntmps14, List.size_toArray, List.length_nil, Nat.reduceSub, Array.replicate_succ, Array.replicate_zero, List.push_toArray, List.append_toArray, List.nil_append, List.cons_append]
  gi_wp2_with fail
  rw [← HW1.out]
  clear HW1
  refine ⟨trivial, ?_⟩
  refine (callsIn_wide.2 (book_any W1 (HN.out.keep HG1.out))).mono ?_
  rintro e W2 ⟨b, es, rfl, F2, l2, g2⟩
  have HF2 : Hid (FB W2 b es) := F2
  have HG2 : Hid (w.grownBy W2 none) := grown_trans HG1.out g2
  have HQ2 : Hid (Boxed W2 w.heap.size 33 (.slice none 0 0)) := HQ1.out.kept g2 (by simp)
  have Hl2 : Hid (W1.heap.size ≤ b) := l2
  clear F2 l2 g2
  gi_wp2_with fail
  refine ⟨trivial, ?_⟩
  refine (callsIn_wide.2 (cards_yes (fun k => b < k) b es pShut W2 HF2.out.book)).mono ?_
  rintro e W3 ⟨x, vv, rfl, B3, O3, hx3, g3⟩
  have HG3 : Hid (w.grownBy W3 none) := grown_trans HG2.out g3
  have HQ3 : Hid (Boxed W3 w.heap.size 33 (.slice none 0 0)) := HQ2.out.kept g3 (by simp)
  have hQb : w.heap.size < b := by have h9 := block_lt HQ1.out; have h8 := Hl2.out; omega
  have hQW : w.heap.size < W2.heap.size := block_lt HQ2.out
  have SEQ := seq_cards 4 (by decide) x w.heap.size vv es W3 (block_cell B3 0) (by omega) O3.rl (fun k hk => by have h9 := (World.ownsRow.lt O3 k hk).1; omega) (fun e he => ((HF2.out.keep g3).book.good e he).mono fun k hk => by omega) HF2.out.book.lies.len HF2.out.book.parts
  have HSEQ : Hid (SeqTold Fence.wide 4 Tryz.prog 106 #[.pointer (some ⟨x, 0, none⟩)] (fun e : Ent => #[cv e.h e.v]) (Rdy W3.heap.size es) (fun W W' => W3.grownBy W (some w.heap.size) → W3.grownBy W' (some w.heap.size)) (fun xs => xs.map hp = es.map hp) (fun _ => True) es.length W3) := SEQ
  have hfn := fnilC x
  have HQl : Hid (w.heap.size < W3.heap.size) := block_lt HQ3.out
  clear SEQ B3 O3 hx3 g3 HG1 HQ1 HQ2 hQb hQW Hl2
  gi_wp2_with fail
  clear hfn
  have H64 : Hid (es.length ≤ 64) := HF2.out.book.lies.len
  refine wpIn_range_told (Rd := Rdy W3.heap.size es) rfl (by omega) (gf := 106) (lb := #[.pointer (some ⟨x, 0, none⟩)]) rfl trivial (enters_of Tryz.func106 (by kernel_rfl) rfl) HSEQ.out (fun h k g => k (h g)) (fun W l o hl hlt g => grown_off g (grownBy_putObj' W l o) (fun j e => by cases e; exact hl)) (Below.refl _ _) (fun _ => rfl)
    (TkI w W3) (fun _ _ => False) (TkI.own w W3) (fun s X Y row hs hg hr => hs)
    ⟨grown_refl _ _, _, HQ3.out, World.ownsRow_nil _ _ _ _⟩
    (fun pre y a' W => ∃ q8, W3.heap.size ≤ q8 ∧ CAt W q8 y.h y.v ∧ a' = { tmps := #[.slice none 0 0, .pointer (some ⟨w.heap.size, 0, none⟩), .pointer (some ⟨q8, 0, none⟩), .pointer (some ⟨b, 0, none⟩), .func (.func 106) #[] #[.pointer (some ⟨x, 0, none⟩)], cv y.h y.v, undef, undef, undef, undef, undef, undef, undef, undef], defers := [] } ∧ ∃ (ya : Option Addr) (yl yc : Nat), y.v = .slice ya yl yc)
    (fun pre y a' s X Y row hs hg hr => by
      obtain ⟨q8, h8, k8, ha, hk⟩ := hs
      have hne : ∀ k cs t, X.heap[k]? = some (.cells cs t (0, 0)) → some k ≠ row := fun k cs t hk e => by
        obtain ⟨_, o, ho, hc⟩ := hr k e.symm
        rw [hk] at ho
        injection ho with ho
        subst ho
        cases hc
      exact ⟨q8, h8, grown_keep hg k8 (hne _ _ _ k8), ha, hk⟩)
    ?assign ?body ?done ?stop
  case assign =>
    rintro l pre ⟨⟨m0, m1, m2, m3, m4, m5, m6, m7⟩, yv, yps⟩ W K ⟨iW, v, bW, rW⟩ ⟨oW, eW⟩ _ hK
    simp only at oW eW
    obtain ⟨ya, yc, rfl⟩ := oW.at.form
    have FIN := hK _ (W.alloc (.cells (ccs ⟨m0, m1, m2, m3, m4, m5, m6, m7⟩ (.slice ya yps.length yc)) 56)) ((KeepsOthers.alloc _ _).from _) (fun g => grown_off g (World.grownBy_alloc _ _ none) (fun j e => by cases e)) ⟨grown_off iW (World.grownBy_alloc _ _ none) (fun j e => by cases e), v, bW.alloc _, rW.alloc _⟩ ⟨W.heap.size, iW.size, alloc_at _ _ _, rfl, ya, yps.length, yc, rfl⟩
    unfold ccs cv at FIN
    unfold cv
    simp only at FIN ⊢
    clear hK oW eW iW bW rW
    gi_wp2
    exact FIN
  case body =>
    rintro l pre ⟨⟨m0, m1, m2, m3, m4, m5, m6, m7⟩, yv, yps⟩ a' W ⟨iW, v, hv, hrow⟩ ⟨q8, h8, k8, rfl, ya, yl, yc, hkv⟩ hlen
    simp only at k8 hkv
    subst hkv
    have hc := hv.cell
    have d0 := k8.cells.1
    have d7 := k8.cells.2.2.2.2.2.2.2.1
    simp only at d0 d7
    have HI : Hid (W3.grownBy W (some w.heap.size)) := iW
    have htl : (tkN pre).length < 64 := by have h9 := tkN_len pre; have h8 := H64.out; omega
    unfold cv
    simp only
    cases m7 with
    | false =>
      have HS : Hid (tkN (pre ++ [(⟨⟨m0, m1, m2, m3, m4, m5, m6, false⟩, .slice ya yl yc, yps⟩ : Ent)]) = tkN pre) := tkN_snoc pre _
      have HF : Hid (TkI w W3 (pre ++ [⟨⟨m0, m1, m2, m3, m4, m5, m6, false⟩, .slice ya yl yc, yps⟩]) W) := by show TkI w W3 _ W; unfold TkI; rw [HS.out]; exact ⟨iW, v, hv, hrow⟩
      clear hv hrow iW
      gi_wp2
      exact ⟨(KeepsOthers.refl _).from _, fun g => g, HF.out⟩
    | true =>
      have HS : Hid (tkN (pre ++ [(⟨⟨m0, m1, m2, m3, m4, m5, m6, true⟩, .slice ya yl yc, yps⟩ : Ent)]) = tkN pre ++ [m0]) := tkN_snoc pre _
      have hr3 : ∀ (z : Value) (U : World), U.ownsRow W3.heap.size 9 1 z ((tkN pre).length + 1) ((tkN pre).map Value.string ++ [.string m0]) → U.ownsRow W3.heap.size 9 1 z (tkN (pre ++ [(⟨⟨m0, m1, m2, m3, m4, m5, m6, true⟩, .slice ya yl yc, yps⟩ : Ent)])).length ((tkN (pre ++ [(⟨⟨m0, m1, m2, m3, m4, m5, m6, true⟩, .slice ya yl yc, yps⟩ : Ent)])).map Value.string) := fun z U h => by rw [HS.out]; simpa using h
      have HR3 : Hid (∀ (z : Value) (U : World), U.ownsRow W3.heap.size 9 1 z ((tkN pre).length + 1) ((tkN pre).map Value.string ++ [.string m0]) → U.ownsRow W3.heap.size 9 1 z (tkN (pre ++ [(⟨⟨m0, m1, m2, m3, m4, m5, m6, true⟩, .slice ya yl yc, yps⟩ : Ent)])).length ((tkN (pre ++ [(⟨⟨m0, m1, m2, m3, m4, m5, m6, true⟩, .slice ya yl yc, yps⟩ : Ent)])).map Value.string)) := hr3
      clear hr3 iW
      obtain ⟨tl, htl'⟩ : ∃ n, n = (tkN pre).length := ⟨_, rfl⟩
      rw [← htl'] at hrow HR3 htl
      clear htl'
      gi_wp2_with (gi_at_builtin; refine wpListIn_append_own _ rfl _ _ 33 rfl W3.heap.size 9 i0 (.string ⟨#[]⟩) 1 16 Tryz.underlying33 hi hz0 hz1 hz2 rfl (by decide) _ _ _ rfl (hrow.alloc _) ⟨W.heap.size, 0, none⟩ 1 1 [.string m0] rfl rfl (cell_one_new _ _ _) (by simp [Value.oneCell']) (by unfold maxLen; omega) (by omega) (by have := HI.out.size; simp; omega) ?_; intro v' w1 hown' hgrow _; obtain ⟨g', cap', rfl⟩ := ownsRow_succ hown'; obtain ⟨hv1, hv2, hr2, hk2⟩ := boxed_app hv (by decide) hrow hown' hgrow; have hc1 := hv1.cell; have hf1 := hv1.frozen; have hc2 := hv2.cell)
      have GF : W3.grownBy (w1.setCell ⟨w.heap.size, 0, none⟩ (.slice (some ⟨g', 0, none⟩) (tl + 1) cap')) (some w.heap.size) := grown_trans (grown_off (grown_off HI.out (World.grownBy_alloc _ _ none) (fun j e => by cases e)) hgrow (row_low hrow)) (grown_set _ _ _ _)
      exact ⟨hk2.from _, fun _ => GF, GF, _, hv2, HR3.out _ _ hr2⟩
  case done =>
    rintro D ys W hD hS ⟨iW, v, hv, hrow⟩ hK
    have hc := hv.cell
    have ht : tkN ys = tokens := (tkN_hp (hS.trans HF2.out.row)).trans tkN_all
    rw [ht] at hrow
    gi_wp2
    refine ⟨by simp, .inl ⟨_, _, rfl, run_takeDeferred hK, ?_⟩⟩
    exact ⟨_, results_tmp rfl _ _ _, v, rfl, row_base (ownsRow_putObj hrow _ hK rfl) (by have h9 := HQl.out; omega), grown_own (grown_own HG3.out iW (fun j e => by cases e; exact Nat.le_refl _)) (grownBy_putObj' _ D _) (fun j e => by cases e; have h9 := HQl.out; omega)⟩
  case stop =>
    rintro D pre W hD _ hf
    exact hf.elim
end Go.Proofs.YtknlcjhcamhfmaaGreatDoor
namespace Go.Proofs.YtknlcjhcamhfmaaGreatDoor
open Go.RowKit

def RoomM (w : World) (g cap : Nat) : Prop := ∃ cs, w.heap[g]? = some (.cells cs 60 (0, 0)) ∧ cs.size = cap * 4
theorem RoomM.cell {w : World} {g cap : Nat} (h : RoomM w g cap) {i : Nat} (hi : i < cap * 4) : ∃ u, w.cell? ⟨g, i, none⟩ = some u := by
  obtain ⟨cs, h1, h2⟩ := h
  exact ⟨_, by rw [block_cell h1]; exact Array.getElem?_eq_getElem (by omega)⟩
theorem RoomM.free {w : World} {g cap : Nat} (h : RoomM w g cap) (i : Nat) : w.frozen? ⟨g, i, none⟩ = false := by
  obtain ⟨cs, h1, h2⟩ := h
  exact block_free h1 i
theorem RoomM.four {w : World} {g cap m : Nat} (h : RoomM w g cap) (hm : m < cap) : ∃ v0 v1 v2 v3, w.cell? ⟨g, m * 4, none⟩ = some v0 ∧ w.cell? ⟨g, m * 4 + 1, none⟩ = some v1 ∧ w.cell? ⟨g, m * 4 + 2, none⟩ = some v2 ∧ w.cell? ⟨g, m * 4 + 3, none⟩ = some v3 := by
  obtain ⟨v0, e0⟩ := h.cell (i := m * 4) (by omega)
  obtain ⟨v1, e1⟩ := h.cell (i := m * 4 + 1) (by omega)
  obtain ⟨v2, e2⟩ := h.cell (i := m * 4 + 2) (by omega)
  obtain ⟨v3, e3⟩ := h.cell (i := m * 4 + 3) (by omega)
  exact ⟨v0, v1, v2, v3, e0, e1, e2, e3⟩
def mkMM (i k : Int) : Mk := ⟨0, ⟨#[]⟩, wrap64 (wrap64 (-i) - 1), k⟩
theorem eqg_mark (op : BinOp) (x y : Operand) (xs ys : Array Value) (w : World) : (eqGuard op 60 x y (.agg xs) (.agg ys)).run Tryz.prog w = .ok () w := run_eqGuard_agg w op 60 x y xs ys (by kernel_rfl)
theorem neq_mark (a0 a2 a3 : Int) (s : ByteArray) (w : World) : (binOp .neq 60 (.agg #[.int .u8 a0, .string s, .int .i64 a2, .int .i64 a3]) (.agg #[.int .u8 a0, .string s, .int .i64 a2, .int .i64 a3])).run Tryz.prog w = .ok (.bool false) w := by
  have hS : Tryz.prog.underlying 60 = some (.struct (Tryz.prog.fieldsOf 60)) := by kernel_rfl
  have hp : Tryz.prog.stoodInHeld 60 = false := by kernel_rfl
  have u3 := Tryz.underlying3
  have i3 := Tryz.isAgg3
  have z3 := Tryz.sizeOf3
  have u9 := Tryz.underlying9
  have i9 := Tryz.isAgg9
  have z9 := Tryz.sizeOf9
  have u28 := Tryz.underlying58
  have i28 := Tryz.isAgg58
  have z28 := Tryz.sizeOf58
  rw [run_neq_struct, show (10000 : Nat) = 9999 + 1 from rfl, run_equalIn_agg w 9999 60 _ _ hS hp]
  simp only [Program.fieldsOf, Tryz.underlying60]
  go_simp
def Lst.okM (w : World) (x : Lst) : Prop := (x.a = none ∧ x.n = 0 ∧ x.cap = 0) ∨ ∃ g, x.a = some g ∧ x.n ≤ x.cap ∧ lim x.cap ∧ RoomM w g x.cap
/-- The lists, marked so far: those before i, and of list i the first k places. -/
def MkM (w : World) (T : List Lst) (i k : Nat) : Prop := ∀ (j : Nat) (x : Lst) (g : Nat), T[j]? = some x → x.a = some g → ∃ cs, w.heap[g]? = some (.cells cs 60 (0, 0)) ∧ cs.size = x.cap * 4 ∧ ∀ m, m < x.cap → (j < i ∨ (j = i ∧ m < k)) → ∀ (c : Nat) u, (mvs (mkMM j m))[c]? = some u → cs[m * 4 + c]? = some u
theorem MkM.keep {w w' : World} {T : List Lst} {i k : Nat} (M : MkM w T i k) (g : w.grownBy w' none) : MkM w' T i k := fun j x b hj hb => by
  obtain ⟨cs, h1, h2⟩ := M j x b hj hb
  exact ⟨cs, grown_keep g h1 (by simp), h2⟩
theorem mkM_start {w w' : World} {T : List Lst} (D : ∀ x ∈ T, x.okM w) (g : w.grownBy w' none) : MkM w' T 0 0 := fun j x b hj hb => by
  rcases D x (List.mem_of_getElem? hj) with ⟨h, _⟩ | ⟨g', h, _, _, cs, h1, h2⟩
  · rw [h] at hb; cases hb
  · rw [h] at hb
    obtain rfl := Option.some.inj hb
    exact ⟨cs, grown_keep g h1 (by simp), h2, fun m _ h => by omega⟩
theorem MkM.room {w : World} {T : List Lst} {i k j g : Nat} {x : Lst} (M : MkM w T i k) (hj : T[j]? = some x) (hg : x.a = some g) : RoomM w g x.cap := by
  obtain ⟨cs, h1, h2, _⟩ := M j x g hj hg
  exact ⟨cs, h1, h2⟩
theorem MkM.read {w : World} {T : List Lst} {g : Nat} {j : Nat} {x : Lst} (M : MkM w T T.length 0) (hj : T[j]? = some x) (hg : x.a = some g) {m : Nat} (hm : m < x.cap) : M4 w g (m * 4) (mkMM j m) := by
  obtain ⟨cs, h1, h2, h3⟩ := M j x g hj hg
  have hl := (List.getElem?_eq_some_iff.1 hj).1
  have f := h3 m hm (Or.inl hl)
  have e : ∀ c u, (mvs (mkMM j m))[c]? = some u → w.cell? ⟨g, m * 4 + c, none⟩ = some u := fun c u hu => by rw [block_cell h1]; exact f c u hu
  exact ⟨e 0 _ rfl, e 1 _ rfl, e 2 _ rfl, e 3 _ rfl⟩
/-- A mark is written at place m of block g. -/
def putM (w : World) (g o : Nat) (p : Mk) : World := (((w.setCell ⟨g, o, none⟩ (.int .u8 p.mi)).setCell ⟨g, o + 1, none⟩ (.string p.nm)).setCell ⟨g, o + 2, none⟩ (.int .i64 p.po)).setCell ⟨g, o + 3, none⟩ (.int .i64 p.he)
def arrM (cs : Array Value) (o : Nat) (p : Mk) : Array Value := (((cs.setIfInBounds o (.int .u8 p.mi)).setIfInBounds (o + 1) (.string p.nm)).setIfInBounds (o + 2) (.int .i64 p.po)).setIfInBounds (o + 3) (.int .i64 p.he)
theorem putM_block {w : World} {g : Nat} {cs : Array Value} (h : w.heap[g]? = some (.cells cs 60 (0, 0))) (o : Nat) (p : Mk) : (putM w g o p).heap[g]? = some (.cells (arrM cs o p) 60 (0, 0)) :=
  block_set (block_set (block_set (block_set h _ _) _ _) _ _) _ _
theorem putM_grown (w : World) (g o : Nat) (p : Mk) : w.grownBy (putM w g o p) (some g) :=
  grown_trans (grown_trans (grown_trans (grown_set _ _ _ _) (grown_set _ _ _ _)) (grown_set _ _ _ _)) (grown_set _ _ _ _)
theorem arrM_size (cs : Array Value) (o : Nat) (p : Mk) : (arrM cs o p).size = cs.size := by simp [arrM]
theorem arrM_else {cs : Array Value} {o i : Nat} {p : Mk} (h : i < o ∨ o + 4 ≤ i) : (arrM cs o p)[i]? = cs[i]? := by
  unfold arrM
  rw [Array.getElem?_setIfInBounds_ne (by omega), Array.getElem?_setIfInBounds_ne (by omega), Array.getElem?_setIfInBounds_ne (by omega), Array.getElem?_setIfInBounds_ne (by omega)]
theorem arrM_in {cs : Array Value} {o c : Nat} {p : Mk} {u : Value} (h : o + 4 ≤ cs.size) (hu : (mvs p)[c]? = some u) : (arrM cs o p)[o + c]? = some u := by
  have hc : c < 4 := (List.getElem?_eq_some_iff.1 hu).1
  rcases (show c = 0 ∨ c = 1 ∨ c = 2 ∨ c = 3 from by omega) with rfl | rfl | rfl | rfl
  all_goals
    simp only [mvs, List.getElem?_cons_zero, List.getElem?_cons_succ, Option.some.injEq] at hu
    subst hu
    simp [arrM, Array.getElem?_setIfInBounds]
    omega
theorem MkM.step {w : World} {T : List Lst} {i k g : Nat} {x : Lst} (M : MkM w T i k) (hD : Diff T) (hi : T[i]? = some x) (hg : x.a = some g) (hk : k < x.cap) : MkM (putM w g (k * 4) (mkMM i k)) T i (k + 1) := fun j y b hj hb => by
  obtain ⟨cs, h1, h2, h3⟩ := M j y b hj hb
  by_cases e : b = g
  · subst e
    obtain rfl := hD j i y x b hj hi hb hg
    obtain rfl : y = x := Option.some.inj (hj.symm.trans hi)
    refine ⟨arrM cs (k * 4) (mkMM j k), putM_block h1 _ _, by rw [arrM_size]; exact h2, fun m hm h c u hu => ?_⟩
    have hc : c < 4 := (List.getElem?_eq_some_iff.1 hu).1
    by_cases em : m = k
    · subst em
      exact arrM_in (by omega) hu
    · rw [arrM_else (by omega)]
      exact h3 m hm (by omega) c u hu
  · refine ⟨cs, grown_keep (putM_grown w g _ _) h1 (by simpa using e), h2, fun m hm h => h3 m hm ?_⟩
    by_cases ej : j = i
    · subst ej
      obtain rfl : y = x := Option.some.inj (hj.symm.trans hi)
      rw [hg] at hb
      exact absurd (Option.some.inj hb).symm e
    · omega
theorem MkM.next {w : World} {T : List Lst} {i k : Nat} {x : Lst} (M : MkM w T i k) (hi : T[i]? = some x) (hk : x.cap ≤ k) : MkM w T (i + 1) 0 := fun j y b hj hb => by
  obtain ⟨cs, h1, h2, h3⟩ := M j y b hj hb
  refine ⟨cs, h1, h2, fun m hm h => h3 m hm ?_⟩
  by_cases e : j = i
  · subst e
    obtain rfl : y = x := Option.some.inj (hj.symm.trans hi)
    omega
  · omega
theorem Tryz.info120 : (Tryz.prog.info? 120).map (fun i => (i.zero, i.size, i.bytes)) = some (some (.slice none 0 0), 1, 24) := by kernel_rfl
theorem rowM_of_own {w : World} {base : Nat} {v : Value} {T : List Lst} (h : w.ownsRow base 120 1 v T.length (fcells T)) (h0 : 0 < T.length) : ∃ g cap, v = .slice (some ⟨g, 0, none⟩) T.length cap ∧ base ≤ g ∧ (∀ (j : Nat) x, T[j]? = some x → w.cell? ⟨g, j, none⟩ = some x.f) ∧ ∃ cs, w.heap[g]? = some (.cells cs 120 (0, 0)) := by
  obtain ⟨h1, h2⟩ := h
  rcases h2 with ⟨rfl, e⟩ | ⟨g, cap, cur, rfl, hg0, hh, hn, hm, hs, ht⟩
  · omega
  · refine ⟨g, cap, rfl, hg0, fun j x hj => ?_, cur, hh⟩
    have hl := (List.getElem?_eq_some_iff.1 hj).1
    have e : (fcells T)[j]? = some x.f := by unfold fcells; rw [List.getElem?_map, hj]; rfl
    rw [block_cell hh, ← e, ← ht, List.getElem?_take, if_pos (by omega)]
    simp
def S12M (ga k g xc : Nat) (w : World) : Prop := w.cell? ⟨ga, k, none⟩ = some (.slice (some ⟨g, 0, none⟩) xc xc)
theorem S12M.c {ga k g xc : Nat} {w : World} (h : S12M ga k g xc w) : w.cell? ⟨ga, k, none⟩ = some (.slice (some ⟨g, 0, none⟩) xc xc) := h
def S19M (ga k g xc m : Nat) (w : World) : Prop := w.cell? ⟨ga, k, none⟩ = some (.slice (some ⟨g, 0, none⟩) xc xc) ∧ M4 w g (m * 4) (mkMM k m)
theorem S19M.c {ga k g xc m : Nat} {w : World} (h : S19M ga k g xc m w) : w.cell? ⟨ga, k, none⟩ = some (.slice (some ⟨g, 0, none⟩) xc xc) := h.1
theorem S19M.p {ga k g xc m : Nat} {w : World} (h : S19M ga k g xc m w) : M4 w g (m * 4) (mkMM k m) := h.2
end Go.Proofs.YtknlcjhcamhfmaaGreatDoor
namespace Go.Proofs.YtknlcjhcamhfmaaGreatDoor
open Go.RowKit

set_option maxRecDepth 100000 in
set_option maxHeartbeats 2000000 in
theorem sameTexts_eq (g g' c c' : Nat) (ts : List ByteArray) (w : World) (hE : ∀ (j : Nat) x, ts[j]? = some x → w.cell? ⟨g, j, none⟩ = some (.string x)) (hF : ∀ (j : Nat) x, ts[j]? = some x → w.cell? ⟨g', j, none⟩ = some (.string x)) (hs : ts.length ≤ 64) : Calls Tryz.prog 13 #[.slice (some ⟨g, 0, none⟩) ts.length c, .slice (some ⟨g', 0, none⟩) ts.length c'] w fun e w' => e = .returned (.bool true) ∧ w.grownBy w' none := by
  have HE : Hid (∀ (j : Nat) x, ts[j]? = some x → w.cell? ⟨g, j, none⟩ = some (.string x)) := hE
  have HF : Hid (∀ (j : Nat) x, ts[j]? = some x → w.cell? ⟨g', j, none⟩ = some (.string x)) := hF
  have hsm : Small ts.length := by unfold Small; omega
  clear hE hF hs
  go_enter Tryz.func13, Tryz.ntmps13
  go_wp2_with fail
  go_loopw [5] (fun x5 wr => ∃ k : Nat, k ≤ ts.length ∧ x5 = .int .i64 (k : Int) ∧ w.grownBy wr none) (fun x5 _ => ts.length - (intOf x5).toNat)
  case atStart => exact ⟨0, Nat.zero_le _, rfl, grown_refl _ _⟩
  case round =>
    obtain ⟨k, hk, rfl, G⟩ := hrel
    obtain ⟨U, hU⟩ : ∃ U, U = wr := ⟨_, rfl⟩
    subst hU
    have HG : Hid (w.grownBy U none) := G
    clear G
    rcases (show k < ts.length ∨ k = ts.length from by omega) with hkl | hke
    · have k0 : (0 : Int) ≤ (k : Int) := by omega
      have k1 : (k : Int) < (ts.length : Int) := by omega
      obtain ⟨x, hx⟩ : ∃ x, ts[k]? = some x := ⟨_, List.getElem?_eq_getElem hkl⟩
      have a0 := HG.out.cell (HE.out k x hx) (by simp)
      have b0 := HG.out.cell (HF.out k x hx) (by simp)
      clear hx
      go_upto_region 6 with fail
      go_quiet (fail)
      go_wp2_with fail
      go_roundw
      case rel => exact ⟨k + 1, hkl, by first | rfl | (rw [hsm.wrap hkl]; rfl), grown_trans HG.out (grown_drewN _ _ _)⟩
      case measure => first | exact meas_next hkl | (rw [hsm.wrap hkl]; exact meas_next hkl)
    · have k1 : ¬ (k : Int) < (ts.length : Int) := by omega
      clear hke
      go_wp2
      go_ret
      exact ⟨rfl, HG.out⟩
end Go.Proofs.YtknlcjhcamhfmaaGreatDoor
namespace Go.Proofs.YtknlcjhcamhfmaaGreatDoor
open Go.RowKit

theorem IsOrd.nodup {os : List Int} (h : IsOrd os) : os.Nodup := by
  obtain ⟨ks, rfl, h⟩ := h
  exact h.nodup.map _ (fun a b hab e => hab (by have h9 : ((a : Nat) : Int) = (b : Int) := e; omega))
/-- Texts that a list of the call's own holds. -/
theorem own_texts {w : World} {base : Nat} {v : Value} {ts : List ByteArray} (h : w.ownsRow base 9 1 v ts.length (ts.map Value.string)) (h0 : 0 < ts.length) : ∃ g c, v = .slice (some ⟨g, 0, none⟩) ts.length c ∧ base ≤ g ∧ g < w.heap.size ∧ ∀ (j : Nat) x, ts[j]? = some x → w.cell? ⟨g, j, none⟩ = some (.string x) := by
  rcases h.2 with ⟨_, h1⟩ | ⟨g, cap, cur, e, hb, hh, _, _, _, ht⟩
  · omega
  · refine ⟨g, cap, e, hb, block_lt hh, fun j x hx => ?_⟩
    have hj := (List.getElem?_eq_some_iff.1 hx).1
    have h9 : (ts.map Value.string)[j]? = some (.string x) := by rw [List.getElem?_map, hx]; rfl
    rw [← ht, List.getElem?_take, if_pos (by omega)] at h9
    rw [block_cell hh]
    simpa using h9
theorem lit_texts {w : World} (ts : List ByteArray) : ∀ (j : Nat) x, ts[j]? = some x → (w.alloc (.cells (ts.map Value.string).toArray 9)).cell? ⟨w.heap.size, j, none⟩ = some (.string x) := fun j x hx => by
  rw [block_cell (alloc_at w _ _), List.getElem?_toArray, List.getElem?_map, hx]
  rfl
set_option maxRecDepth 100000 in
set_option maxHeartbeats 8000000 in
theorem names14 (w : World) (N : NamesAt w) : Calls Tryz.prog 3 #[] w fun e w' => e = .returned (.bool true) ∧ w.grownBy w' none := by
  have HN : Hid (NamesAt w) := N
  clear N
  go_enter Tryz.func3, Tryz.ntmps3
  go_wp2_with fail
  refine (numbers_any w).mono ?_
  rintro e W1 ⟨m, rfl, M, lm, g1⟩
  have HM1 : Hid (NumAt W1 m) := M
  have HG1 : Hid (w.grownBy W1 none) := g1
  clear M lm g1
  have C2 := again_no (.slice (some ⟨W1.heap.size, 0, none⟩) 6 6) [0, 1, 2, 3, 4, 4] (W1.alloc (.cells #[.int .i64 0, .int .i64 1, .int .i64 2, .int .i64 3, .int .i64 4, .int .i64 4] 3)) (lit_ints [0, 1, 2, 3, 4, 4]) (fun h => absurd h.nodup (by decide))
  go_wp2_with fail
  refine C2.mono ?_
  rintro e W2 ⟨rfl, g2⟩
  have HG2 : Hid (w.grownBy W2 none) := grown_trans (grown_push HG1.out _) g2
  have HM2 : Hid (NumAt W2 m) := (World.ownsMap.alloc HM1.out _).kept g2 (by simp)
  clear g2 C2 HG1 HM1
  have C3 := again_no (.slice none 0 0) [] W2 ⟨_, _, rfl, fun h => absurd h (by decide)⟩ (fun h => absurd h.len (by decide))
  go_wp2_with fail
  refine C3.mono ?_
  rintro e W3 ⟨rfl, g3⟩
  have HG3 : Hid (w.grownBy W3 none) := grown_trans HG2.out g3
  have HM3 : Hid (NumAt W3 m) := World.ownsMap.kept HM2.out g3 (by simp)
  clear g3 C3 HG2 HM2
  go_wp2_with fail
  refine (lives_any W3 (HN.out.keep HG3.out)).mono ?_
  rintro e W4 ⟨rfl, g4⟩
  have HG4 : Hid (w.grownBy W4 none) := grown_trans HG3.out g4
  have HM4 : Hid (NumAt W4 m) := World.ownsMap.kept HM3.out g4 (by simp)
  clear g4 HG3 HM3
  go_wp2_with fail
  refine (book_any W4 (HN.out.keep HG4.out)).mono ?_
  rintro e W5 ⟨b, es, rfl, F5, _, g5⟩
  have HG5 : Hid (w.grownBy W5 none) := grown_trans HG4.out g5
  have HM5 : Hid (NumAt W5 m) := World.ownsMap.kept HM4.out g5 (by simp)
  have CL := len_yes b 36 (by decide) pShut W5 (by have h9 := F5.book.lies.flags; rw [F5.len] at h9; exact h9)
  clear g5 F5 HG4 HM4
  go_wp2_with fail
  refine CL.mono ?_
  rintro e W6 ⟨rfl, g6, _⟩
  rw [show ((36 : Nat) : Int) = (36 : Int) from rfl]
  have HG6 : Hid (w.grownBy W6 none) := grown_trans HG5.out g6
  have M6 : NumAt W6 m := World.ownsMap.kept HM5.out g6 (by simp)
  have hl1 : (Instr.lookup 22 (.map (some m)) (.string ⟨#[97, 105, 114]⟩) false).run Tryz.prog W6 = .ok (.int .i64 27) W6 := num_look M6 (k := 0) (by decide)
  have hl2 : (Instr.lookup 22 (.map (some m)) (.string ⟨#[119, 97, 116, 101, 114]⟩) false).run Tryz.prog W6 = .ok (.int .i64 51) W6 := num_look M6 (k := 3) (by decide)
  clear g6 CL M6 HG5 HM5
  go_wp2_with fail
  refine (tokens_any W6 (HN.out.keep HG6.out)).mono ?_
  rintro e W7 ⟨v, rfl, O7, g7⟩
  obtain ⟨g, c, rfl, _, _, hT⟩ := own_texts (ts := tokens) O7 (by decide)
  have HG7 : Hid (w.grownBy W7 none) := grown_trans HG6.out g7
  have CT := sameTexts_eq g W7.heap.size c 6 tokens (W7.alloc (.cells (tokens.map Value.string).toArray 9)) (fun j x hx => (World.grownBy_alloc W7 _ none).cell (hT j x hx) (by simp)) (lit_texts tokens) (by decide)
  rw [show tokens.length = 6 from rfl] at CT ⊢
  clear O7 g7 hT hl1 hl2 HG6
  go_wp2_with fail
  refine CT.mono ?_
  rintro e W8 ⟨rfl, g8⟩
  have HG8 : Hid (w.grownBy W8 none) := grown_trans (grown_push HG7.out _) g8
  clear g8 CT HG7
  go_wp2
  go_ret
  exact ⟨rfl, HG8.out⟩
end Go.Proofs.YtknlcjhcamhfmaaGreatDoor
