/-
  AirOrder, walked.
-/
import Derived.Test.YtmepidalecdmkaaDoorAOP
import Derived.Test.YtmepidalecdmkaaDoorAirN
import Derived.Test.YtmepidalecdmkaaDoorDName
import Derived.Deep.CutRange
import Derived.Deep.MidRow
namespace Go.Proofs.YtmepidalecdmkaaDoor
open Go.RowKit

/-- Where a list of numbers lies. -/
def IntsIn (w : World) (v : Value) (os : List Int) : Prop := ∃ a k, v = .slice a os.length k ∧ (0 < os.length → ∃ g o, a = some ⟨g, o, none⟩ ∧ ∀ (j : Nat) x, os[j]? = some x → w.cell? ⟨g, o + j, none⟩ = some (.int .i64 x))
theorem row_of {w : World} {g : Nat} {es : List Ent} {t : TypeId} (h : w.heap[g]? = some (.cells (ecells es).toArray t (0, 0))) {j : Nat} {e : Ent} (he : es[j]? = some e) : C9 w g (j * 9) e.h e.v := by
  have at_ : ∀ k u, k < 9 → (cvs e.h e.v)[k]? = some u → w.cell? ⟨g, j * 9 + k, none⟩ = some u := fun k u hk hu => by
    rw [block_cell h, List.getElem?_toArray, ecells_at es j e he k hk]
    exact hu
  exact ⟨at_ 0 _ (by omega) rfl, at_ 1 _ (by omega) rfl, at_ 2 _ (by omega) rfl, at_ 3 _ (by omega) rfl, at_ 4 _ (by omega) rfl, at_ 5 _ (by omega) rfl, at_ 6 _ (by omega) rfl, at_ 7 _ (by omega) rfl, at_ 8 _ (by omega) rfl⟩
theorem ecells_split (es : List Ent) {j : Nat} {e : Ent} (he : es[j]? = some e) : ecells es = ecells (es.take j) ++ (cvs e.h e.v ++ ecells (es.drop (j + 1))) := by
  obtain ⟨h1, h2⟩ := List.getElem?_eq_some_iff.1 he
  have h3 : es = es.take j ++ (e :: es.drop (j + 1)) := by
    rw [← h2, ← List.drop_eq_getElem_cons h1, List.take_append_drop]
  conv => lhs; rw [h3]
  rw [ecells_app]
  rfl
theorem set9_row {w : World} {g : Nat} {es : List Ent} {t : TypeId} (h : w.heap[g]? = some (.cells (ecells es).toArray t (0, 0))) {j : Nat} {e : Ent} (he : es[j]? = some e) (x : Ent) : (set9 w g (j * 9) x.h x.v).heap[g]? = some (.cells (ecells (es.set j x)).toArray t (0, 0)) := by
  have h1 := (List.getElem?_eq_some_iff.1 he).1
  rw [ecells_split es he] at h
  have h2 := set9_block h (j * 9) (by rw [ecells_len, List.length_take]; omega) rfl x.h x.v
  have h3 : (es.set j x)[j]? = some x := by rw [List.getElem?_set]; simp [h1]
  rw [h2, ecells_split _ h3, List.take_set_of_le (Nat.le_refl _), List.drop_set_of_lt (Nat.lt_succ_self _)]
theorem mod6 {i : Nat} (hi : i < 60) : ∃ j : Nat, j < 6 ∧ (i : Int).tmod 6 = (j : Int) ∧ (i : Int) % 6 = (j : Int) := by
  refine ⟨i % 6, by omega, ?_, by omega⟩
  rw [Int.tmod_eq_emod_of_nonneg (by omega)]
  omega
/-- The cards, in a block of their own, in any order. -/
structure Crd (base : Nat) (w : World) (g : Nat) (es : List Ent) : Prop where
  six : Six es
  lies : w.heap[g]? = some (.cells (ecells es).toArray 32 (0, 0))
  own : ∀ e ∈ es, Own8 base w e.v e.ps
theorem Crd.keepR {base : Nat} {w w' : World} {g : Nat} {es : List Ent} {r : Option Nat} (h : Crd base w g es) (k : w.grownBy w' r) (hg : some g ≠ r) (hr : ∀ x, base ≤ x → some x ≠ r) : Crd base w' g es := ⟨h.six, grown_keep k h.lies hg, fun e he => (h.own e he).keepR k hr⟩
theorem Crd.keep {base : Nat} {w w' : World} {g : Nat} {es : List Ent} (h : Crd base w g es) (k : w.grownBy w' none) : Crd base w' g es := h.keepR k (by simp) (by simp)
theorem Crd.swap {base : Nat} {w : World} {g : Nat} {es : List Ent} (h : Crd base w g es) (hb : g < base) {j k : Nat} {a b : Ent} (hj : es[j]? = some a) (hk : es[k]? = some b) : Crd base (set9 (set9 w g (j * 9) b.h b.v) g (k * 9) a.h a.v) g ((es.set j b).set k a) := by
  have h1 := set9_row h.lies hj b
  have hk' : ∃ y, (es.set j b)[k]? = some y := ⟨_, List.getElem?_eq_getElem (by have := (List.getElem?_eq_some_iff.1 hk).1; simpa using this)⟩
  obtain ⟨y, hy⟩ := hk'
  have h2 := set9_row h1 hy a
  refine ⟨h.six.swap hj hk, h2, fun e he => ?_⟩
  exact ((h.own e (swap_mem hj hk he)).keepR (grown_s9 _ _ _ _ _) (fun x hx e => by injection e with e; omega)).keepR (grown_s9 _ _ _ _ _) (fun x hx e => by injection e with e; omega)
theorem setCells_set9 (w : World) (b o : Nat) (h : Hd) (v : Value) : w.setCells b o (cvs h v).toArray.toList = set9 w b o h v := rfl
theorem cvs_one (h : Hd) (n : Nat) {a : Option Addr} {c : Nat} : (cvs h (.slice a n c)).toArray.all (·.oneCell') = true := all_oneCell_toArray fun v hv => by
  simp only [cvs, List.mem_cons, List.not_mem_nil, or_false] at hv
  rcases hv with rfl | rfl | rfl | rfl | rfl | rfl | rfl | rfl | rfl <;> rfl
theorem row_range {base : Nat} {w : World} {g : Nat} {es : List Ent} (h : Crd base w g es) {j : Nat} {e : Ent} (he : es[j]? = some e) : w.rangeAt g (j * 9) (cvs e.h e.v) := fun k u hu => by
  rw [block_cell h.lies, List.getElem?_toArray, ecells_at es j e he k (List.getElem?_eq_some_iff.1 hu).1]
  exact hu
theorem block_there {w : World} {g : Nat} {es : List Ent} {t : TypeId} (h : w.heap[g]? = some (.cells (ecells es).toArray t (0, 0))) {j : Nat} {e : Ent} (he : es[j]? = some e) : w.there g (j * 9) 9 := fun k hk => by
  have hj := (List.getElem?_eq_some_iff.1 he).1
  refine ⟨?_, block_free h _⟩
  rw [block_cell h, List.getElem?_toArray, List.getElem?_eq_getElem (by rw [ecells_len]; omega)]
  rfl
theorem row_there {base : Nat} {w : World} {g : Nat} {es : List Ent} (h : Crd base w g es) {j : Nat} {e : Ent} (he : es[j]? = some e) : w.there g (j * 9) 9 := block_there h.lies he
theorem row_there2 {base : Nat} {w : World} {g : Nat} {es : List Ent} (h : Crd base w g es) {j k : Nat} {e x : Ent} (he : es[j]? = some e) (y : Ent) (hx : es[k]? = some x) : (set9 w g (j * 9) y.h y.v).there g (k * 9) 9 := by
  obtain ⟨z, hz⟩ : ∃ z, (es.set j y)[k]? = some z := ⟨_, List.getElem?_eq_getElem (by have := (List.getElem?_eq_some_iff.1 hx).1; simpa using this)⟩
  exact block_there (set9_row h.lies he y) hz
def nmA : Array Value := #[.string ⟨#[98, 114, 101, 101, 122, 101]⟩, .string ⟨#[99, 97, 108, 109]⟩, .string ⟨#[102, 108, 111, 99, 107]⟩, .string ⟨#[107, 105, 116, 101]⟩, .string ⟨#[115, 119, 105, 102, 116, 45, 119, 105, 110, 103]⟩, .string ⟨#[119, 105, 115, 112]⟩]
def pSh : Pl := { pS2 with shut := true }
theorem sealP_zero' {es : List Ent} (h : sealE pS2 es = 0) : sealP pS2 es = pSh := if_pos h
/-- The cards beside a book. -/
structure Crd2 (b : Nat) (w : World) (g : Nat) (es : List Ent) : Prop where
  six : Six es
  lies : w.heap[g]? = some (.cells (ecells es).toArray 32 (0, 0))
  ps : ∀ e ∈ es, PsOk (fun k => k < b) w e.v e.ps
theorem Crd2.keepR {b : Nat} {w w' : World} {g : Nat} {es : List Ent} {r : Option Nat} (h : Crd2 b w g es) (k : w.grownBy w' r) (hg : some g ≠ r) (hr : ∀ x, x < b → some x ≠ r) : Crd2 b w' g es := ⟨h.six, grown_keep k h.lies hg, fun e he => (h.ps e he).keepR k hr⟩
theorem Crd2.keep {b : Nat} {w w' : World} {g : Nat} {es : List Ent} (h : Crd2 b w g es) (k : w.grownBy w' none) : Crd2 b w' g es := h.keepR k (by simp) (by simp)
theorem Crd.two {base : Nat} {w : World} {g : Nat} {es : List Ent} (h : Crd base w g es) : Crd2 w.heap.size w g es := ⟨h.six, h.lies, fun e he => ⟨(h.own e he).at, fun g o n c ev _ => ((h.own e he).block g (by rw [ev]; rfl)).2⟩⟩
set_option maxRecDepth 100000 in
set_option maxHeartbeats 4000000 in
theorem order_air (v : Value) (os : List Int) (w : World) (O : IntsIn w v os) (N : NamesAt w) : Calls Tryd.prog 3 #[v] w fun e w' => e = .returned (.bool true) ∧ w.grownBy w' none := by
  have HN : Hid (NamesAt w) := N
  obtain ⟨oa, oc, rfl, HO0⟩ := O
  have HO : Hid (0 < os.length → ∃ g o, oa = some ⟨g, o, none⟩ ∧ ∀ (j : Nat) x, os[j]? = some x → w.cell? ⟨g, o + j, none⟩ = some (.int .i64 x)) := HO0
  clear HO0 N
  go_enter Tryd.func3, Tryd.ntmps3
  go_wp2_with fail
  refine (list_air _).mono ?_
  rintro e W1 ⟨es0, rfl, L1, B1, O1, g1⟩
  have HC1 : Hid (Crd (w.heap.size + 2) W1 (w.heap.size + 1) es0) := ⟨L1.six, B1, O1.own⟩
  have HG1 : Hid (w.grownBy W1 none) := g1
  clear L1 B1 O1 g1
  obtain ⟨G, hG⟩ : ∃ G, G = w.heap.size + 1 := ⟨_, rfl⟩
  rw [← hG] at HC1 ⊢
  obtain ⟨base, hbase⟩ : ∃ base, base = w.heap.size + 2 := ⟨_, rfl⟩
  rw [← hbase] at HC1
  have gb : G < base := by omega
  have wG : w.heap.size ≤ G := by omega
  clear hG hbase
  go_upto_block 0 with fail
  go_cut [4, 5, 6] from 16 to 55 (fun v4 v5 v6 wc => ∃ es, Crd base wc G es ∧ w.grownBy wc none)
  case first =>
    go_wp2_with fail
    go_loopw [4] (fun x4 wr => ∃ (i : Nat) (es : List Ent), i ≤ 60 ∧ x4 = .int .i64 (i : Int) ∧ Crd base wr G es ∧ w.grownBy wr none) (fun x4 _ => 60 - (intOf x4).toNat)
    case atStart => exact ⟨0, es0, Nat.zero_le _, rfl, HC1.out, HG1.out⟩
    case round =>
      clear HC1 HG1
      obtain ⟨i, es, hi, rfl, C, Gr⟩ := hrel
      obtain ⟨U, hU⟩ : ∃ U, U = wr := ⟨_, rfl⟩
      subst hU
      have HC : Hid (Crd base U G es) := C
      have HG : Hid (w.grownBy U none) := Gr
      clear C Gr
      by_cases hb : i < os.length ∧ i < 60
      · obtain ⟨h1, h2⟩ := hb
        have h1' : (i : Int) < (os.length : Int) := by omega
        have h2' : (i : Int) < 60 := by omega
        have i0 : (0 : Int) ≤ (i : Int) := by omega
        obtain ⟨g, o, rfl, HOc⟩ := HO.out (by omega)
        obtain ⟨x, hx⟩ : ∃ x, os[i]? = some x := ⟨_, List.getElem?_eq_getElem h1⟩
        have cx := HG.out.cell (HOc i x hx) (by simp)
        obtain ⟨j, hj6, hjt, hje⟩ := mod6 h2
        have HJ : Hid ((i : Int).tmod 6 = (j : Int) ∧ (i : Int) % 6 = (j : Int)) := ⟨hjt, hje⟩
        clear hx HOc hjt hje
        go_wp2_with fail
        refine (pick_any x 6 _ (by decide) (by decide)).mono ?_
        rintro e U2 ⟨⟨k, hk6, rfl⟩, hU2⟩
        obtain rfl : U = U2 := hU2.symm
        clear cx
        obtain ⟨ej, hej⟩ : ∃ e, es[j]? = some e := ⟨_, List.getElem?_eq_getElem (by rw [HC.out.six.len]; exact hj6)⟩
        obtain ⟨ek, hek⟩ : ∃ e, es[k]? = some e := ⟨_, List.getElem?_eq_getElem (by rw [HC.out.six.len]; exact hk6)⟩
        obtain ⟨hjt, hje⟩ := HJ.out
        go_upto_region 7 with fail
        clear hjt hje HJ
        obtain ⟨hdj, vj, psj⟩ := ej
        obtain ⟨hdk, vk, psk⟩ := ek
        have fj := (HC.out.own _ (List.mem_of_getElem? hej)).at.form
        have fk := (HC.out.own _ (List.mem_of_getElem? hek)).at.form
        simp only at fj fk
        obtain ⟨xj, yj, rfl⟩ := fj
        obtain ⟨xk, yk, rfl⟩ := fk
        obtain ⟨z0, z1, z2, z3, z4, z5, z6, z7, z8⟩ := row_of HC.out.lies hej
        obtain ⟨y0, y1, y2, y3, y4, y5, y6, y7, y8⟩ := row_of HC.out.lies hek
        have zf := fun i => block_free HC.out.lies i
        simp only at z0 z1 z2 z3 z4 z5 z6 z7 z8 y0 y1 y2 y3 y4 y5 y6 y7 y8
        have HCd : Hid (Crd base U.drew G es) := HC.out.keep (grown_drew _)
        have hsm : Small 60 := by unfold Small; decide
        obtain ⟨W2, hW2⟩ : ∃ W2, W2 = set9 U.drew G (j * 9) hdk (.slice xk psk.length yk) := ⟨_, rfl⟩
        obtain ⟨W3, hW3⟩ : ∃ W3, W3 = set9 W2 G (k * 9) hdj (.slice xj psj.length yj) := ⟨_, rfl⟩
        have HC3 : Hid (Crd base W3 G ((es.set j ⟨hdk, .slice xk psk.length yk, psk⟩).set k ⟨hdj, .slice xj psj.length yj, psj⟩)) := by have h9 := Crd.swap HCd.out gb hej hek; simp only at h9; rw [← hW2, ← hW3] at h9; exact h9
        have g2 : U.drew.grownBy W2 (some G) := by rw [hW2]; exact grown_s9 U.drew G (j * 9) hdk (.slice xk psk.length yk)
        have g3 : W2.grownBy W3 (some G) := by rw [hW3]; exact grown_s9 W2 G (k * 9) hdj (.slice xj psj.length yj)
        have HG3 : Hid (w.grownBy W3 none) := grown_own (grown_own (grown_trans HG.out (grown_drew _)) g2 (fun x e => by cases e; exact wG)) g3 (fun x e => by cases e; exact wG)
        clear g2 g3
        have HW2 : Hid (W2 = set9 U.drew G (j * 9) hdk (.slice xk psk.length yk)) := hW2
        have HW3 : Hid (W3 = set9 W2 G (k * 9) hdj (.slice xj psj.length yj)) := hW3
        have HT2 : Hid (W2.there G (k * 9) 9) := by rw [hW2]; exact row_there2 HCd.out hej ⟨hdk, .slice xk psk.length yk, psk⟩ hek
        clear hW2 hW3
        have j0 : (0 : Int) ≤ (j : Int) := by omega
        have j1 : (j : Int) < 6 := by omega
        have k0 : (0 : Int) ≤ (k : Int) := by omega
        have k1 : (k : Int) < 6 := by omega
        refine wp_region_held_drew (S := fun _ => True) (by kernel_rfl) trivial (fun hHeld => ?_)
        refine wpAnyH_take (i := 0) (v := ?_) rfl (by kernel_rfl) (by kernel_rfl) (by kernel_rfl) (fun _ _ _ h => h) (Or.inl ⟨by rfl, ?_⟩) (by assumption) ?_
        rotate_left 1
        · (intro w0 hSw; go_simp; try with_reducible rfl)
        simp only [List.getElem_toArray, List.getElem_cons_zero]
        go_frame
        refine wpAnyH_take (i := 1) (v := ?_) rfl (by kernel_rfl) (by kernel_rfl) (by kernel_rfl) (fun _ _ _ h => h) (Or.inl ⟨by rfl, ?_⟩) (by assumption) ?_
        rotate_left 1
        · (intro w0 hSw; go_simp; try with_reducible rfl)
        simp only [List.getElem_toArray, List.getElem_cons_zero, List.getElem_cons_succ]
        go_frame
        refine wpAnyH_take (i := 2) (v := ?_) rfl (by kernel_rfl) (by kernel_rfl) (by kernel_rfl) (fun _ _ _ h => h) (Or.inl ⟨by rfl, ?_⟩) (by assumption) ?_
        rotate_left 1
        · (intro w0 hSw; go_simp; try with_reducible rfl)
        simp only [List.getElem_toArray, List.getElem_cons_zero, List.getElem_cons_succ]
        go_frame
        refine wpAnyH_take (i := 3) (v := ?_) rfl (by kernel_rfl) (by kernel_rfl) (by kernel_rfl) (fun _ _ _ h => h) (Or.inl ⟨by rfl, ?_⟩) (by assumption) ?_
        rotate_left 1
        · (intro w0 hSw; go_simp; try with_reducible rfl)
        simp only [List.getElem_toArray, List.getElem_cons_zero, List.getElem_cons_succ]
        go_frame
        refine wpAnyH_take (i := 4) (v := ?_) rfl (by kernel_rfl) (by kernel_rfl) (by kernel_rfl) (fun _ _ _ h => h) (Or.inl ⟨by rfl, ?_⟩) (by assumption) ?_
        rotate_left 1
        · (intro w0 hSw; go_simp; try with_reducible rfl)
        simp only [List.getElem_toArray, List.getElem_cons_zero, List.getElem_cons_succ]
        go_frame
        refine wpAnyH_take (i := 5) (v := ?_) rfl (by kernel_rfl) (by kernel_rfl) (by kernel_rfl) (fun _ _ _ h => h) (Or.inl ⟨by rfl, ?_⟩) (by assumption) ?_
        rotate_left 1
        · (intro w0 hSw; go_simp; try with_reducible rfl)
        simp only [List.getElem_toArray, List.getElem_cons_zero, List.getElem_cons_succ]
        go_frame
        refine wpAnyH_take (i := 6) (v := ?_) rfl (by kernel_rfl) (by kernel_rfl) (by kernel_rfl) (fun _ _ _ h => h) (Or.inl ⟨by rfl, ?_⟩) (by assumption) ?_
        rotate_left 1
        · (intro w0 hSw; go_simp; try with_reducible rfl)
        simp only [List.getElem_toArray, List.getElem_cons_zero, List.getElem_cons_succ]
        go_frame
        refine wpAnyH_take (i := 8) (v := ?_) rfl (by kernel_rfl) (by kernel_rfl) (by kernel_rfl) (fun _ _ _ h => h) (Or.inl ⟨by rfl, ?_⟩) (by assumption) ?_
        rotate_left 1
        · (intro w0 hSw; go_simp; try with_reducible rfl)
        simp only [List.getElem_toArray, List.getElem_cons_zero, List.getElem_cons_succ]
        go_frame
        refine wpAnyH_take (i := 9) (v := ?_) rfl (by kernel_rfl) (by kernel_rfl) (by kernel_rfl) (fun _ _ _ h => h) (Or.inl ⟨by rfl, ?_⟩) (by assumption) ?_
        rotate_left 1
        · (intro w0 hSw; go_simp; try with_reducible rfl)
        simp only [List.getElem_toArray, List.getElem_cons_zero, List.getElem_cons_succ]
        go_frame
        refine wpAnyH_take (i := 10) (v := ?_) rfl (by kernel_rfl) (by kernel_rfl) (by kernel_rfl) (fun _ _ _ h => h) (Or.inl ⟨by rfl, ?_⟩) (by assumption) ?_
        rotate_left 1
        · (intro w0 hSw; go_simp; try with_reducible rfl)
        simp only [List.getElem_toArray, List.getElem_cons_zero, List.getElem_cons_succ]
        go_frame
        refine wpAnyH_ready (rs := [7, 11]) (by kernel_rfl) (by simp) ?_
        refine AllReadyH.cons rfl (fun K hK => ?_) (AllReadyH.cons rfl (fun K hK => ?_) AllReadyH.nil)
        · simp only [List.getElem_toArray, List.getElem_cons_zero, List.getElem_cons_succ]
          rw [if_pos (by rfl)]
          refine wp_load_mid 32 (.tmp 48) rfl G (k * 9) rfl (cvs hdk (.slice xk psk.length yk)) _ (row_range HCd.out hek) Tryd.underlying32 rfl (by kernel_rfl) ?_
          refine hK.out _ _ trivial (fun _ => ?_)
          clear hK K
          go_frame
          refine wpAnyH_ready (rs := [11]) (by kernel_rfl) (by simp) ?_
          refine AllReadyH.cons rfl (fun K hK => ?_) AllReadyH.nil
          simp only [List.getElem_toArray, List.getElem_cons_zero, List.getElem_cons_succ]
          rw [if_pos (by rfl)]
          refine wp_load_mid 32 (.tmp 52) rfl G (j * 9) rfl (cvs hdj (.slice xj psj.length yj)) _ (row_range HCd.out hej) Tryd.underlying32 rfl (by kernel_rfl) ?_
          refine hK.out _ _ trivial (fun _ => ?_)
          clear hK K
          go_frame
          refine wpAnyH_take (i := 12) (v := ?_) rfl (by kernel_rfl) (by kernel_rfl) (by kernel_rfl) (fun _ _ _ h => h) (Or.inl ⟨by rfl, ?_⟩) (by assumption) ?_
          rotate_left 1
          · (intro w0 hSw; go_simp; try with_reducible rfl)
          simp only [List.getElem_toArray, List.getElem_cons_zero, List.getElem_cons_succ]
          go_frame
          refine wpAnyH_ready (rs := [13]) (by kernel_rfl) (by simp) ?_
          refine AllReadyH.cons rfl (fun K hK => ?_) AllReadyH.nil
          simp only [List.getElem_toArray, List.getElem_cons_zero, List.getElem_cons_succ]
          rw [if_pos (by rfl)]
          refine wp_store_mid 32 (.tmp 54) (.tmp 49) rfl G (j * 9) (cvs hdk (.slice xk psk.length yk)).toArray rfl rfl (row_there HCd.out hej) (by kernel_rfl) (cvs_one _ _) ?_
          rw [setCells_set9, ← HW2.out]
          refine hK.out _ _ trivial (fun _ => ?_)
          clear hK K
          go_frame
          refine wpAnyH_take (i := 14) (v := ?_) rfl (by kernel_rfl) (by kernel_rfl) (by kernel_rfl) (fun _ _ _ h => h) (Or.inl ⟨by rfl, ?_⟩) (by assumption) ?_
          rotate_left 1
          · (intro w0 hSw; go_simp; try with_reducible rfl)
          simp only [List.getElem_toArray, List.getElem_cons_zero, List.getElem_cons_succ]
          go_frame
          refine wpAnyH_ready (rs := [15]) (by kernel_rfl) (by simp) ?_
          refine AllReadyH.cons rfl (fun K hK => ?_) AllReadyH.nil
          simp only [List.getElem_toArray, List.getElem_cons_zero, List.getElem_cons_succ]
          rw [if_pos (by rfl)]
          refine wp_store_mid 32 (.tmp 55) (.tmp 53) rfl G (k * 9) (cvs hdj (.slice xj psj.length yj)).toArray rfl rfl HT2.out (by kernel_rfl) (cvs_one _ _) ?_
          rw [setCells_set9, ← HW3.out]
          refine hK.out _ _ trivial (fun _ => ?_)
          clear hK K
          go_frame
          refine wpAnyH_done (by kernel_rfl) ?_ _
          go_wp2_with fail
          go_roundw
          case rel => exact ⟨i + 1, _, h2, by first | rfl | (rw [hsm.wrap h2]; rfl), HC3.out, HG3.out⟩
          case measure => first | exact meas_next h2 | (rw [hsm.wrap h2]; exact meas_next h2)
        · simp only [List.getElem_toArray, List.getElem_cons_zero, List.getElem_cons_succ]
          rw [if_pos (by rfl)]
          refine wp_load_mid 32 (.tmp 52) rfl G (j * 9) rfl (cvs hdj (.slice xj psj.length yj)) _ (row_range HCd.out hej) Tryd.underlying32 rfl (by kernel_rfl) ?_
          refine hK.out _ _ trivial (fun _ => ?_)
          clear hK K
          go_frame
          refine wpAnyH_ready (rs := [7]) (by kernel_rfl) (by simp) ?_
          refine AllReadyH.cons rfl (fun K hK => ?_) AllReadyH.nil
          simp only [List.getElem_toArray, List.getElem_cons_zero, List.getElem_cons_succ]
          rw [if_pos (by rfl)]
          refine wp_load_mid 32 (.tmp 48) rfl G (k * 9) rfl (cvs hdk (.slice xk psk.length yk)) _ (row_range HCd.out hek) Tryd.underlying32 rfl (by kernel_rfl) ?_
          refine hK.out _ _ trivial (fun _ => ?_)
          clear hK K
          go_frame
          refine wpAnyH_take (i := 12) (v := ?_) rfl (by kernel_rfl) (by kernel_rfl) (by kernel_rfl) (fun _ _ _ h => h) (Or.inl ⟨by rfl, ?_⟩) (by assumption) ?_
          rotate_left 1
          · (intro w0 hSw; go_simp; try with_reducible rfl)
          simp only [List.getElem_toArray, List.getElem_cons_zero, List.getElem_cons_succ]
          go_frame
          refine wpAnyH_ready (rs := [13]) (by kernel_rfl) (by simp) ?_
          refine AllReadyH.cons rfl (fun K hK => ?_) AllReadyH.nil
          simp only [List.getElem_toArray, List.getElem_cons_zero, List.getElem_cons_succ]
          rw [if_pos (by rfl)]
          refine wp_store_mid 32 (.tmp 54) (.tmp 49) rfl G (j * 9) (cvs hdk (.slice xk psk.length yk)).toArray rfl rfl (row_there HCd.out hej) (by kernel_rfl) (cvs_one _ _) ?_
          rw [setCells_set9, ← HW2.out]
          refine hK.out _ _ trivial (fun _ => ?_)
          clear hK K
          go_frame
          refine wpAnyH_take (i := 14) (v := ?_) rfl (by kernel_rfl) (by kernel_rfl) (by kernel_rfl) (fun _ _ _ h => h) (Or.inl ⟨by rfl, ?_⟩) (by assumption) ?_
          rotate_left 1
          · (intro w0 hSw; go_simp; try with_reducible rfl)
          simp only [List.getElem_toArray, List.getElem_cons_zero, List.getElem_cons_succ]
          go_frame
          refine wpAnyH_ready (rs := [15]) (by kernel_rfl) (by simp) ?_
          refine AllReadyH.cons rfl (fun K hK => ?_) AllReadyH.nil
          simp only [List.getElem_toArray, List.getElem_cons_zero, List.getElem_cons_succ]
          rw [if_pos (by rfl)]
          refine wp_store_mid 32 (.tmp 55) (.tmp 53) rfl G (k * 9) (cvs hdj (.slice xj psj.length yj)).toArray rfl rfl HT2.out (by kernel_rfl) (cvs_one _ _) ?_
          rw [setCells_set9, ← HW3.out]
          refine hK.out _ _ trivial (fun _ => ?_)
          clear hK K
          go_frame
          refine wpAnyH_done (by kernel_rfl) ?_ _
          go_wp2_with fail
          go_roundw
          case rel => exact ⟨i + 1, _, h2, by first | rfl | (rw [hsm.wrap h2]; rfl), HC3.out, HG3.out⟩
          case measure => first | exact meas_next h2 | (rw [hsm.wrap h2]; exact meas_next h2)
      · rcases (show os.length ≤ i ∨ (i < os.length ∧ 60 ≤ i) from by omega) with h1 | ⟨h1, h2⟩
        · have h1' : ¬ (i : Int) < (os.length : Int) := by omega
          clear hb
          go_wp2_with fail
          go_meet
          case rel => exact ⟨es, HC.out, HG.out⟩
        · have h1' : (i : Int) < (os.length : Int) := by omega
          have h2' : ¬ (i : Int) < 60 := by omega
          clear hb
          go_wp2_with fail
          go_meet
          case rel => exact ⟨es, HC.out, HG.out⟩
  case rest =>
    obtain ⟨es, C, Gr⟩ := hcut
    obtain ⟨V, hV⟩ : ∃ V, V = wc := ⟨_, rfl⟩
    subst hV
    have HCv : Hid (Crd base V G es) := C
    have HGv : Hid (w.grownBy V none) := Gr
    clear C Gr HC1 HG1
    obtain ⟨b, hb⟩ : ∃ b, b = V.heap.size := ⟨_, rfl⟩
    obtain ⟨ok, hok⟩ : ∃ ok : Nat → Prop, ok = fun k => b < k := ⟨_, rfl⟩
    have nb : ¬ ok b := by rw [hok]; exact Nat.lt_irrefl _
    have nw : ∀ W : World, b < W.heap.size → ∀ k, W.heap.size ≤ k → ok k := fun W h k hk => by rw [hok]; exact Nat.lt_of_lt_of_le h hk
    have HC2 : Hid (Crd2 b V G es) := by rw [hb]; exact HCv.out.two
    have Gb : G < b := by rw [hb]; exact block_lt HCv.out.lies
    have wb : w.heap.size ≤ b := by rw [hb]; exact HGv.out.size
    clear hok HCv
    go_wp2_with fail
    refine (bnew ok V).mono ?_
    rintro e V1 ⟨rfl, B1, g1, s1⟩
    rw [← hb] at B1 ⊢
    have HB1 : Hid (Book ok V1 b [] plNew) := B1
    have HC1' : Hid (Crd2 b V1 G es) := HC2.out.keep g1
    have HG1' : Hid (w.grownBy V1 none) := grown_trans HGv.out g1
    have sm4 : Small 4 := by unfold Small; decide
    have sm6 : Small 6 := by unfold Small; decide
    clear B1 g1 s1 hb HC2 HGv
    go_wp2_with fail
    go_loopw [8] (fun x8 wr => ∃ (k : Nat) (l : List Nat) (fs : List Ent), k ≤ 6 ∧ x8 = .int .i64 (k : Int) ∧ (∀ i, i ∈ l ↔ i < k) ∧ Inv es [] [] l fs plNew ∧ Book ok wr b fs plNew ∧ Crd2 b wr G es ∧ w.grownBy wr none) (fun x8 _ => 6 - (intOf x8).toNat)
    case atStart => exact ⟨0, [], [], Nat.zero_le _, rfl, fun i => by simp, Inv.nil _ _ _, HB1.out, HC1'.out, HG1'.out⟩
    case round =>
      clear HB1 HC1' HG1'
      obtain ⟨k, l, fs, hk, rfl, hl, I, B, C, Gr⟩ := hrel
      obtain ⟨U, hU⟩ : ∃ U, U = wr := ⟨_, rfl⟩
      subst hU
      have HI : Hid (Inv es [] [] l fs plNew) := I
      have HB : Hid (Book ok U b fs plNew) := B
      have HC : Hid (Crd2 b U G es) := C
      have HG : Hid (w.grownBy U none) := Gr
      have Hl : Hid (∀ i, i ∈ l ↔ i < k) := hl
      clear I B C Gr hl
      rcases (show k < 6 ∨ k = 6 from by omega) with hk6 | hk6
      · have k0 : (0 : Int) ≤ (k : Int) := by omega
        have k6 : (k : Int) < 6 := by omega
        obtain ⟨e0, he0⟩ : ∃ e, es[k]? = some e := ⟨_, List.getElem?_eq_getElem (by rw [HC.out.six.len]; exact hk6)⟩
        have mem0 := List.mem_of_getElem? he0
        have HT := six_takes HC.out.six HI.out rfl he0 (fun h => absurd ((Hl.out k).1 h) (Nat.lt_irrefl _))
        have HCk := HC.out.six.chk mem0
        have Hsu : e0.h.su = 1 := spec_su _ (HC.out.six.mem mem0)
        have Hps : e0.ps.length ≤ 4 := spec_ps _ (HC.out.six.mem mem0)
        have HP := (HC.out.ps e0 mem0).1
        have HD := row_of HC.out.lies he0
        have HIn : Hid (∀ u, Inv es [] [] (k :: l) (ins fs ⟨e0.h, u, e0.ps⟩) plNew) := fun u => HI.out.card u (fun h => absurd ((Hl.out k).1 h) (Nat.lt_irrefl _)) he0
        have Hl2 : Hid (∀ i, i ∈ k :: l ↔ i < k + 1) := fun i => by rw [List.mem_cons, Hl.out i]; omega
        have HPs : Hid (PsAt U e0.v e0.ps) := HP
        have hsmp : Small e0.ps.length := by unfold Small; omega
        clear he0 mem0 HI Hl Hps
        obtain ⟨⟨nm, su, kd, co, po, he, tr, tk⟩, vv, ps⟩ := e0
        simp only at Hsu HD HPs HP HIn hsmp HT HCk
        subst Hsu
        obtain ⟨xx, yy, rfl⟩ := HP.form
        clear HP
        have HK1 := ccheck_any ⟨nm, 1, kd, co, po, he, tr, tk⟩ _ ps U HPs.out hsmp
        rw [show cchk (Hd.with ⟨nm, 1, kd, co, po, he, tr, tk⟩ ps) = 0 from HCk] at HK1
        unfold cv at HK1
        obtain ⟨z0, z1, z2, z3, z4, z5, z6, z7, z8⟩ := HD
        go_wp2_with fail
        refine HK1.mono ?_
        rintro e U2 ⟨rfl, g2⟩
        have HC2 := HC.out.keep g2
        have y0 := g2.cell z0 (by simp)
        have y1 := g2.cell z1 (by simp)
        have y2 := g2.cell z2 (by simp)
        have y3 := g2.cell z3 (by simp)
        have y4 := g2.cell z4 (by simp)
        have y5 := g2.cell z5 (by simp)
        have y6 := g2.cell z6 (by simp)
        have y7 := g2.cell z7 (by simp)
        have y8 := g2.cell z8 (by simp)
        have HB2 := HB.out.keep g2
        have HK2 := bcard ok b fs plNew ⟨nm, 1, kd, co, po, he, tr, tk⟩ _ ps U2 HB2 nb (nw _ HB2.lt) (HPs.out.keep g2) hsmp
        rw [show caE plNew fs (Hd.with ⟨nm, 1, kd, co, po, he, tr, tk⟩ ps) = 0 from HT] at HK2
        unfold cv at HK2
        clear z0 z1 z2 z3 z4 z5 z6 z7 z8 HK1 HB2
        go_wp2_with fail
        refine HK2.mono ?_
        rintro e U3 ⟨u, rfl, B3, g3⟩
        (first | rw [if_pos rfl] at B3 | rw [if_pos trivial] at B3)
        have HB3 : Hid (Book ok U3 b (ins fs ⟨⟨nm, 1, kd, co, po, he, tr, tk⟩, u, ps⟩) plNew) := B3
        have HC3 : Hid (Crd2 b U3 G es) := HC2.keepR g3 (fun e => by injection e with e; omega) (fun x hx e => by injection e with e; omega)
        have HG3 : Hid (w.grownBy U3 none) := grown_own (grown_trans HG.out g2) g3 (fun x e => by cases e; exact wb)
        clear B3 HC2 g2 g3 y0 y1 y2 y3 y4 y5 y6 y7 y8 HK2
        go_wp2_with fail
        go_roundw
        case rel => exact ⟨k + 1, k :: l, _, hk6, by first | rfl | (rw [sm6.wrap hk6]; rfl), Hl2.out, HIn.out u, HB3.out, HC3.out, HG3.out⟩
        case measure => first | exact meas_next hk6 | (rw [sm6.wrap hk6]; exact meas_next hk6)
      · have HSm : Hid (sameEs fs airF = true) := six_same HC.out.six HI.out (fun i hi => (Hl.out i).2 (by omega)) HB.out.srt
        have k6 : ¬ (k : Int) < 6 := by omega
        clear hk6 HI Hl HC
        go_wp2_with fail
        refine (traits_air _).mono ?_
        rintro e U1 ⟨rfl, hU1⟩
        obtain ⟨T, hT⟩ : ∃ T, T = U.heap.size := ⟨_, rfl⟩
        have g1 : U.grownBy U1 none := by rw [hU1]; exact World.grownBy_alloc _ _ none
        have HA1 : Hid (U1.heap[T]? = some (.cells #[.int .u8 1, .int .u8 8] 40 (0, 0))) := by rw [hU1, hT]; exact alloc_at _ _ _
        have Tb : ¬ T = b := by rw [hT]; have := HB.out.lt; omega
        rw [← hT]
        have HB1 : Hid (Book ok U1 b fs plNew) := HB.out.keep g1
        have HG1 : Hid (w.grownBy U1 none) := grown_trans HG.out g1
        clear g1 hU1 HB HG hT
        go_wp2_with fail
        go_loopw [10] (fun x10 wr => ((x10 = .int .i64 1 ∧ Book ok wr b fs plNew) ∨ (x10 = .int .i64 0 ∧ Book ok wr b fs pS1) ∨ (x10 = .int .i64 (-1) ∧ Book ok wr b fs pS2)) ∧ wr.heap[T]? = some (.cells #[.int .u8 1, .int .u8 8] 40 (0, 0)) ∧ w.grownBy wr none) (fun x10 _ => (intOf x10 + 1).toNat)
        case atStart => exact ⟨Or.inl ⟨rfl, HB1.out⟩, HA1.out, HG1.out⟩
        case round =>
          clear HB1 HA1 HG1
          obtain ⟨hc, A, Gr⟩ := hrel
          obtain ⟨U2, hU2⟩ : ∃ U2, U2 = wr := ⟨_, rfl⟩
          subst hU2
          have HA2 : Hid (U2.heap[T]? = some (.cells #[.int .u8 1, .int .u8 8] 40 (0, 0))) := A
          have HG2 : Hid (w.grownBy U2 none) := Gr
          clear A Gr
          rcases hc with ⟨rfl, B⟩ | ⟨rfl, B⟩ | ⟨rfl, B⟩
          · have HB2 : Hid (Book ok U2 b fs plNew) := B
            clear B
            have c0 : U2.cell? ⟨T, 1, none⟩ = some (.int .u8 8) := block_cell HA2.out 1
            have H0 : U2.grownBy U2.drew (some b) := grown_drew' _ _
            have HNm := tname_any 8 (by decide) U2.drew (HN.out.keep (grown_trans HG2.out (grown_drew _)))
            have HTr := btrait ok b fs plNew 8 (tName 8) U2.drew (HB2.out.keep (grown_drew _)) nb
            rw [show trE plNew 8 (tName 8) = 0 from tr_swift.1, show trP plNew 8 (tName 8) = pS1 from trP_swift] at HTr
            go_upto_region 18 with fail
            refine wp_region_held_drew (S := fun w' => U2.grownBy w' (some b)) (by kernel_rfl) H0 (fun hHeld => ?_)
            refine wpAnyH_take (i := 0) (v := ?_) rfl (by kernel_rfl) (by kernel_rfl) (by kernel_rfl) (fun _ _ _ h => h) (Or.inl ⟨by rfl, ?_⟩) (by assumption) ?_
            rotate_left 1
            · (intro w0 hSw; go_simp; try with_reducible rfl)
            simp only [List.getElem_toArray, List.getElem_cons_zero]
            go_frame
            refine wpAnyH_take (i := 1) (v := ?_) rfl (by kernel_rfl) (by kernel_rfl) (by kernel_rfl) (fun _ _ _ h => h) (Or.inl ⟨by rfl, ?_⟩) (by assumption) ?_
            rotate_left 1
            · (intro w0 hSw; go_simp; try with_reducible rfl)
            simp only [List.getElem_toArray, List.getElem_cons_zero, List.getElem_cons_succ]
            go_frame
            refine wpAnyH_take (i := 2) (v := ?_) rfl (by kernel_rfl) (by kernel_rfl) (by kernel_rfl) (fun _ _ _ h => h) (Or.inl ⟨by rfl, ?_⟩) (by assumption) ?_
            rotate_left 1
            · (intro w0 hSw; go_simp; try with_reducible rfl)
            simp only [List.getElem_toArray, List.getElem_cons_zero, List.getElem_cons_succ]
            go_frame
            refine wpAnyH_take (i := 3) (v := ?_) rfl (by kernel_rfl) (by kernel_rfl) (by kernel_rfl) (fun _ _ _ h => h) (Or.inl ⟨by rfl, ?_⟩) (by assumption) ?_
            rotate_left 1
            · (intro w0 hSw; go_simp; try with_reducible rfl)
            simp only [List.getElem_toArray, List.getElem_cons_zero, List.getElem_cons_succ]
            go_frame
            refine wpAnyH_take (i := 4) (v := ?_) rfl (by kernel_rfl) (by kernel_rfl) (by kernel_rfl) (fun _ _ _ h => h) (Or.inl ⟨by rfl, ?_⟩) (by assumption) ?_
            rotate_left 1
            · (intro w0 hSw; have a9 := World.grownBy.cell hSw c0 (by simpa using Tb); go_simp; try with_reducible rfl)
            simp only [List.getElem_toArray, List.getElem_cons_zero, List.getElem_cons_succ]
            go_frame
            refine wpAnyH_take (i := 5) (v := ?_) rfl (by kernel_rfl) (by kernel_rfl) (by kernel_rfl) (fun _ _ _ h => h) (Or.inl ⟨by rfl, ?_⟩) (by assumption) ?_
            rotate_left 1
            · (intro w0 hSw; go_simp; try with_reducible rfl)
            simp only [List.getElem_toArray, List.getElem_cons_zero, List.getElem_cons_succ]
            go_frame
            refine wpAnyH_take (i := 6) (v := ?_) rfl (by kernel_rfl) (by kernel_rfl) (by kernel_rfl) (fun _ _ _ h => h) (Or.inl ⟨by rfl, ?_⟩) (by assumption) ?_
            rotate_left 1
            · (intro w0 hSw; go_simp; try with_reducible rfl)
            simp only [List.getElem_toArray, List.getElem_cons_zero, List.getElem_cons_succ]
            go_frame
            refine wpAnyH_take (i := 7) (v := ?_) rfl (by kernel_rfl) (by kernel_rfl) (by kernel_rfl) (fun _ _ _ h => h) (Or.inl ⟨by rfl, ?_⟩) (by assumption) ?_
            rotate_left 1
            · (intro w0 hSw; go_simp; try with_reducible rfl)
            simp only [List.getElem_toArray, List.getElem_cons_zero, List.getElem_cons_succ]
            go_frame
            refine wpAnyH_take (i := 8) (v := ?_) rfl (by kernel_rfl) (by kernel_rfl) (by kernel_rfl) (fun _ _ _ h => h) (Or.inl ⟨by rfl, ?_⟩) (by assumption) ?_
            rotate_left 1
            · (intro w0 hSw; have a9 := World.grownBy.cell hSw c0 (by simpa using Tb); go_simp; try with_reducible rfl)
            simp only [List.getElem_toArray, List.getElem_cons_zero, List.getElem_cons_succ]
            go_frame
            refine wpAnyH_ready (rs := [9]) (by kernel_rfl) (by simp) ?_
            refine AllReadyH.cons rfl (fun K hK => ?_) AllReadyH.nil
            simp only [List.getElem_toArray, List.getElem_cons_zero, List.getElem_cons_succ]
            go_simp
            go_at_call 11
            refine (HNm).mono ?_
            rintro e U3 ⟨rfl, h3⟩
            subst h3
            refine hK.out _ _ (hHeld) (fun hHeld2 => ?_)
            clear hK K
            (try go_frame)
            clear hHeld2
            refine wpAnyH_ready (rs := [10]) (by kernel_rfl) (by simp) ?_
            refine AllReadyH.cons rfl (fun K hK => ?_) AllReadyH.nil
            simp only [List.getElem_toArray, List.getElem_cons_zero, List.getElem_cons_succ]
            go_simp
            go_at_call 10
            refine (HTr).mono ?_
            rintro e U4 ⟨rfl, B4, g4⟩
            refine hK.out _ _ (grown_own' (grown_drew _) g4) (fun hHeld2 => ?_)
            clear hK K
            (try go_frame)
            refine wpAnyH_take (i := 11) (v := ?_) rfl (by kernel_rfl) (by kernel_rfl) (by kernel_rfl) (fun _ _ _ h => h) (Or.inl ⟨by rfl, ?_⟩) (by assumption) ?_
            rotate_left 1
            · (intro w0 hSw; go_simp; try with_reducible rfl)
            simp only [List.getElem_toArray, List.getElem_cons_zero, List.getElem_cons_succ]
            go_frame
            refine wpAnyH_done (by kernel_rfl) ?_ _
            have HB4 : Hid (Book ok U4 b fs pS1) := B4
            have HA4 : Hid (U4.heap[T]? = some (.cells #[.int .u8 1, .int .u8 8] 40 (0, 0))) := grown_keep g4 (show U2.drew.heap[T]? = _ from HA2.out) (by simpa using Tb)
            have HG4 : Hid (w.grownBy U4 none) := grown_own (grown_trans HG2.out (grown_drew _)) g4 (fun x e => by cases e; exact wb)
            clear B4 g4 hHeld hHeld2 H0 HTr HNm c0 HA2 HB2 HG2
            go_wp2_with fail
            go_roundw
            case rel => exact ⟨Or.inr (Or.inl ⟨rfl, HB4.out⟩), HA4.out, HG4.out⟩
            case measure => decide
          · have HB2 : Hid (Book ok U2 b fs pS1) := B
            clear B
            have c0 : U2.cell? ⟨T, 0, none⟩ = some (.int .u8 1) := block_cell HA2.out 0
            have H0 : U2.grownBy U2.drew (some b) := grown_drew' _ _
            have HNm := tname_any 1 (by decide) U2.drew (HN.out.keep (grown_trans HG2.out (grown_drew _)))
            have HTr := btrait ok b fs pS1 1 (tName 1) U2.drew (HB2.out.keep (grown_drew _)) nb
            rw [show trE pS1 1 (tName 1) = 0 from tr_swift.2, show trP pS1 1 (tName 1) = pS2 from trP_fast] at HTr
            go_upto_region 18 with fail
            refine wp_region_held_drew (S := fun w' => U2.grownBy w' (some b)) (by kernel_rfl) H0 (fun hHeld => ?_)
            refine wpAnyH_take (i := 0) (v := ?_) rfl (by kernel_rfl) (by kernel_rfl) (by kernel_rfl) (fun _ _ _ h => h) (Or.inl ⟨by rfl, ?_⟩) (by assumption) ?_
            rotate_left 1
            · (intro w0 hSw; go_simp; try with_reducible rfl)
            simp only [List.getElem_toArray, List.getElem_cons_zero]
            go_frame
            refine wpAnyH_take (i := 1) (v := ?_) rfl (by kernel_rfl) (by kernel_rfl) (by kernel_rfl) (fun _ _ _ h => h) (Or.inl ⟨by rfl, ?_⟩) (by assumption) ?_
            rotate_left 1
            · (intro w0 hSw; go_simp; try with_reducible rfl)
            simp only [List.getElem_toArray, List.getElem_cons_zero, List.getElem_cons_succ]
            go_frame
            refine wpAnyH_take (i := 2) (v := ?_) rfl (by kernel_rfl) (by kernel_rfl) (by kernel_rfl) (fun _ _ _ h => h) (Or.inl ⟨by rfl, ?_⟩) (by assumption) ?_
            rotate_left 1
            · (intro w0 hSw; go_simp; try with_reducible rfl)
            simp only [List.getElem_toArray, List.getElem_cons_zero, List.getElem_cons_succ]
            go_frame
            refine wpAnyH_take (i := 3) (v := ?_) rfl (by kernel_rfl) (by kernel_rfl) (by kernel_rfl) (fun _ _ _ h => h) (Or.inl ⟨by rfl, ?_⟩) (by assumption) ?_
            rotate_left 1
            · (intro w0 hSw; go_simp; try with_reducible rfl)
            simp only [List.getElem_toArray, List.getElem_cons_zero, List.getElem_cons_succ]
            go_frame
            refine wpAnyH_take (i := 4) (v := ?_) rfl (by kernel_rfl) (by kernel_rfl) (by kernel_rfl) (fun _ _ _ h => h) (Or.inl ⟨by rfl, ?_⟩) (by assumption) ?_
            rotate_left 1
            · (intro w0 hSw; have a9 := World.grownBy.cell hSw c0 (by simpa using Tb); go_simp; try with_reducible rfl)
            simp only [List.getElem_toArray, List.getElem_cons_zero, List.getElem_cons_succ]
            go_frame
            refine wpAnyH_take (i := 5) (v := ?_) rfl (by kernel_rfl) (by kernel_rfl) (by kernel_rfl) (fun _ _ _ h => h) (Or.inl ⟨by rfl, ?_⟩) (by assumption) ?_
            rotate_left 1
            · (intro w0 hSw; go_simp; try with_reducible rfl)
            simp only [List.getElem_toArray, List.getElem_cons_zero, List.getElem_cons_succ]
            go_frame
            refine wpAnyH_take (i := 6) (v := ?_) rfl (by kernel_rfl) (by kernel_rfl) (by kernel_rfl) (fun _ _ _ h => h) (Or.inl ⟨by rfl, ?_⟩) (by assumption) ?_
            rotate_left 1
            · (intro w0 hSw; go_simp; try with_reducible rfl)
            simp only [List.getElem_toArray, List.getElem_cons_zero, List.getElem_cons_succ]
            go_frame
            refine wpAnyH_take (i := 7) (v := ?_) rfl (by kernel_rfl) (by kernel_rfl) (by kernel_rfl) (fun _ _ _ h => h) (Or.inl ⟨by rfl, ?_⟩) (by assumption) ?_
            rotate_left 1
            · (intro w0 hSw; go_simp; try with_reducible rfl)
            simp only [List.getElem_toArray, List.getElem_cons_zero, List.getElem_cons_succ]
            go_frame
            refine wpAnyH_take (i := 8) (v := ?_) rfl (by kernel_rfl) (by kernel_rfl) (by kernel_rfl) (fun _ _ _ h => h) (Or.inl ⟨by rfl, ?_⟩) (by assumption) ?_
            rotate_left 1
            · (intro w0 hSw; have a9 := World.grownBy.cell hSw c0 (by simpa using Tb); go_simp; try with_reducible rfl)
            simp only [List.getElem_toArray, List.getElem_cons_zero, List.getElem_cons_succ]
            go_frame
            refine wpAnyH_ready (rs := [9]) (by kernel_rfl) (by simp) ?_
            refine AllReadyH.cons rfl (fun K hK => ?_) AllReadyH.nil
            simp only [List.getElem_toArray, List.getElem_cons_zero, List.getElem_cons_succ]
            go_simp
            go_at_call 11
            refine (HNm).mono ?_
            rintro e U3 ⟨rfl, h3⟩
            subst h3
            refine hK.out _ _ (hHeld) (fun hHeld2 => ?_)
            clear hK K
            (try go_frame)
            clear hHeld2
            refine wpAnyH_ready (rs := [10]) (by kernel_rfl) (by simp) ?_
            refine AllReadyH.cons rfl (fun K hK => ?_) AllReadyH.nil
            simp only [List.getElem_toArray, List.getElem_cons_zero, List.getElem_cons_succ]
            go_simp
            go_at_call 10
            refine (HTr).mono ?_
            rintro e U4 ⟨rfl, B4, g4⟩
            refine hK.out _ _ (grown_own' (grown_drew _) g4) (fun hHeld2 => ?_)
            clear hK K
            (try go_frame)
            refine wpAnyH_take (i := 11) (v := ?_) rfl (by kernel_rfl) (by kernel_rfl) (by kernel_rfl) (fun _ _ _ h => h) (Or.inl ⟨by rfl, ?_⟩) (by assumption) ?_
            rotate_left 1
            · (intro w0 hSw; go_simp; try with_reducible rfl)
            simp only [List.getElem_toArray, List.getElem_cons_zero, List.getElem_cons_succ]
            go_frame
            refine wpAnyH_done (by kernel_rfl) ?_ _
            have HB4 : Hid (Book ok U4 b fs pS2) := B4
            have HA4 : Hid (U4.heap[T]? = some (.cells #[.int .u8 1, .int .u8 8] 40 (0, 0))) := grown_keep g4 (show U2.drew.heap[T]? = _ from HA2.out) (by simpa using Tb)
            have HG4 : Hid (w.grownBy U4 none) := grown_own (grown_trans HG2.out (grown_drew _)) g4 (fun x e => by cases e; exact wb)
            clear B4 g4 hHeld hHeld2 H0 HTr HNm c0 HA2 HB2 HG2
            go_wp2_with fail
            go_roundw
            case rel => exact ⟨Or.inr (Or.inr ⟨rfl, HB4.out⟩), HA4.out, HG4.out⟩
            case measure => decide
          · have HB2 : Hid (Book ok U2 b fs pS2) := B
            clear B HA2
            have HSl := bseal ok b fs pS2 U2 HB2.out nb
            rw [sealE_of HSm.out (rfl : pS2.shut = pS2.shut), seal_airF, sealP_zero' (by rw [sealE_of HSm.out (rfl : pS2.shut = pS2.shut)]; exact seal_airF)] at HSl
            go_wp2_with fail
            refine HSl.mono ?_
            rintro e U3 ⟨rfl, B3, g3⟩
            have HG3 : Hid (w.grownBy U3 none) := grown_own HG2.out g3 (fun x e => by cases e; exact wb)
            have HB3 : Hid (Book ok U3 b fs pSh) := B3
            clear B3 g3 HSl HB2 HG2
            obtain ⟨U4, hU4⟩ : ∃ U4, U4 = U3.alloc (.cells nmA 9) := ⟨_, rfl⟩
            obtain ⟨M, hM⟩ : ∃ M, M = U3.heap.size := ⟨_, rfl⟩
            have HG4 : Hid (w.grownBy U4 none) := by rw [hU4]; exact grown_push HG3.out _
            have HB4 : Hid (Book ok U4 b fs pSh) := by rw [hU4]; exact HB3.out.keep (World.grownBy_alloc _ _ none)
            have HA4 : Hid (U4.heap[M]? = some (.cells nmA 9 (0, 0))) := by rw [hU4, hM]; exact alloc_at _ _ _
            unfold nmA at hU4
            go_upto_region 23 with fail
            rw [← hU4, ← hM]
            clear hU4 hM HG3 HB3
            go_wp2_with fail
            go_loopw [12] (fun x12 wr => ∃ i : Nat, i ≤ 6 ∧ x12 = .int .i64 (i : Int) ∧ U4.grownBy wr none) (fun x12 _ => 6 - (intOf x12).toNat)
            case atStart => exact ⟨0, Nat.zero_le _, rfl, grown_refl _ _⟩
            case round =>
              obtain ⟨i, hi, rfl, Gi⟩ := hrel
              obtain ⟨X, hX⟩ : ∃ X, X = wr := ⟨_, rfl⟩
              subst hX
              have HGi : Hid (U4.grownBy X none) := Gi
              clear Gi
              rcases (show i = 0 ∨ i = 1 ∨ i = 2 ∨ i = 3 ∨ i = 4 ∨ i = 5 ∨ i = 6 from by omega) with rfl | rfl | rfl | rfl | rfl | rfl | rfl
              · rw [show ((0 : Nat) : Int) = (0 : Int) from rfl]
                obtain ⟨e0, he0, hh0⟩ := same_get HSm.out (i := 0) (y := ⟨breezeH, .bool false, breezeP⟩) rfl
                have BX := HB4.out.keep HGi.out
                have HAt := at_in ok b fs pSh 0 e0 X BX.lies BX.good rfl he0 (BX.parts e0 (List.mem_of_getElem? he0))
                rw [hh0, show (((0 : Nat) : Int) + 1) = (1 : Int) from rfl] at HAt
                clear BX
                unfold cv breezeH at HAt
                go_wp2_with fail
                refine HAt.mono ?_
                rintro e X1 ⟨u, rfl, O1, g1⟩
                obtain ⟨xx, yy, rfl⟩ := O1.at.form
                have HG5 : Hid (U4.grownBy (X1.alloc (.cells (ccs breezeH (.slice xx e0.ps.length yy)) 32)) none) := grown_push (grown_trans HGi.out g1) _
                have HC5 : CAt (X1.alloc (.cells (ccs breezeH (.slice xx e0.ps.length yy)) 32)) X1.heap.size breezeH (.slice xx e0.ps.length yy) := alloc_at _ _ _
                obtain ⟨X2, hX2⟩ : ∃ X2, X2 = X1.alloc (.cells (ccs breezeH (.slice xx e0.ps.length yy)) 32) := ⟨_, rfl⟩
                rw [← hX2] at HG5 HC5
                have a13 : X2.cell? ⟨X1.heap.size, 0, none⟩ = some (.string ⟨#[98, 114, 101, 101, 122, 101]⟩) := HC5.cells.1
                have n13 : X2.cell? ⟨M, 0, none⟩ = some (.string ⟨#[98, 114, 101, 101, 122, 101]⟩) := (block_cell (grown_keep HG5.out HA4.out (by simp)) 0).trans rfl
                unfold ccs breezeH at hX2
                clear O1 g1 HAt HC5 he0 hh0
                go_upto_region 27 with fail
                rw [← hX2]
                clear hX2
                refine wp_region_held_drew (S := fun w' => X2.grownBy w' none) (by kernel_rfl) (grown_drew _) (fun hHeld => ?_)
                refine wpAnyH_take (i := 0) (v := ?_) rfl (by kernel_rfl) (by kernel_rfl) (by kernel_rfl) (fun _ _ _ h => h) (Or.inl ⟨by rfl, ?_⟩) (by assumption) ?_
                rotate_left 1
                · (intro w0 hSw; go_simp; try with_reducible rfl)
                simp only [List.getElem_toArray, List.getElem_cons_zero]
                go_frame
                refine wpAnyH_take (i := 1) (v := ?_) rfl (by kernel_rfl) (by kernel_rfl) (by kernel_rfl) (fun _ _ _ h => h) (Or.inl ⟨by rfl, ?_⟩) (by assumption) ?_
                rotate_left 1
                · (intro w0 hSw; go_simp; try with_reducible rfl)
                simp only [List.getElem_toArray, List.getElem_cons_zero, List.getElem_cons_succ]
                go_frame
                refine wpAnyH_take (i := 2) (v := ?_) rfl (by kernel_rfl) (by kernel_rfl) (by kernel_rfl) (fun _ _ _ h => h) (Or.inl ⟨by rfl, ?_⟩) (by assumption) ?_
                rotate_left 1
                · (intro w0 hSw; go_simp; try with_reducible rfl)
                simp only [List.getElem_toArray, List.getElem_cons_zero, List.getElem_cons_succ]
                go_frame
                refine wpAnyH_take (i := 3) (v := ?_) rfl (by kernel_rfl) (by kernel_rfl) (by kernel_rfl) (fun _ _ _ h => h) (Or.inl ⟨by rfl, ?_⟩) (by assumption) ?_
                rotate_left 1
                · (intro w0 hSw; go_simp; try with_reducible rfl)
                simp only [List.getElem_toArray, List.getElem_cons_zero, List.getElem_cons_succ]
                go_frame
                refine wpAnyH_take (i := 4) (v := ?_) rfl (by kernel_rfl) (by kernel_rfl) (by kernel_rfl) (fun _ _ _ h => h) (Or.inl ⟨by rfl, ?_⟩) (by assumption) ?_
                rotate_left 1
                · (intro w0 hSw; have a9 := World.grownBy.cell hSw a13 (by simp); go_simp; try with_reducible rfl)
                simp only [List.getElem_toArray, List.getElem_cons_zero, List.getElem_cons_succ]
                go_frame
                refine wpAnyH_take (i := 5) (v := ?_) rfl (by kernel_rfl) (by kernel_rfl) (by kernel_rfl) (fun _ _ _ h => h) (Or.inl ⟨by rfl, ?_⟩) (by assumption) ?_
                rotate_left 1
                · (intro w0 hSw; go_simp; try with_reducible rfl)
                simp only [List.getElem_toArray, List.getElem_cons_zero, List.getElem_cons_succ]
                go_frame
                refine wpAnyH_take (i := 6) (v := ?_) rfl (by kernel_rfl) (by kernel_rfl) (by kernel_rfl) (fun _ _ _ h => h) (Or.inl ⟨by rfl, ?_⟩) (by assumption) ?_
                rotate_left 1
                · (intro w0 hSw; go_simp; try with_reducible rfl)
                simp only [List.getElem_toArray, List.getElem_cons_zero, List.getElem_cons_succ]
                go_frame
                refine wpAnyH_take (i := 7) (v := ?_) rfl (by kernel_rfl) (by kernel_rfl) (by kernel_rfl) (fun _ _ _ h => h) (Or.inl ⟨by rfl, ?_⟩) (by assumption) ?_
                rotate_left 1
                · (intro w0 hSw; go_simp; try with_reducible rfl)
                simp only [List.getElem_toArray, List.getElem_cons_zero, List.getElem_cons_succ]
                go_frame
                refine wpAnyH_take (i := 8) (v := ?_) rfl (by kernel_rfl) (by kernel_rfl) (by kernel_rfl) (fun _ _ _ h => h) (Or.inl ⟨by rfl, ?_⟩) (by assumption) ?_
                rotate_left 1
                · (intro w0 hSw; have a9 := World.grownBy.cell hSw n13 (by simp); go_simp; try with_reducible rfl)
                simp only [List.getElem_toArray, List.getElem_cons_zero, List.getElem_cons_succ]
                go_frame
                refine wpAnyH_take (i := 9) (v := ?_) rfl (by kernel_rfl) (by kernel_rfl) (by kernel_rfl) (fun _ _ _ h => h) (Or.inl ⟨by rfl, ?_⟩) (by assumption) ?_
                rotate_left 1
                · (intro w0 hSw; go_simp; try with_reducible rfl)
                simp only [List.getElem_toArray, List.getElem_cons_zero, List.getElem_cons_succ]
                go_frame
                refine wpAnyH_take (i := 10) (v := ?_) rfl (by kernel_rfl) (by kernel_rfl) (by kernel_rfl) (fun _ _ _ h => h) (Or.inl ⟨by rfl, ?_⟩) (by assumption) ?_
                rotate_left 1
                · (intro w0 hSw; go_simp; try with_reducible rfl)
                simp only [List.getElem_toArray, List.getElem_cons_zero, List.getElem_cons_succ]
                go_frame
                refine wpAnyH_done (by kernel_rfl) ?_ _
                have HG6 : Hid (U4.grownBy X2.drew none) := grown_trans HG5.out (grown_drew _)
                clear hHeld a13 n13 HG5
                go_wp2_with fail
                go_roundw
                case rel => exact ⟨1, by decide, rfl, HG6.out⟩
                case measure => decide
              · rw [show ((1 : Nat) : Int) = (1 : Int) from rfl]
                obtain ⟨e0, he0, hh0⟩ := same_get HSm.out (i := 1) (y := ⟨calmH, .bool false, calmP⟩) rfl
                have BX := HB4.out.keep HGi.out
                have HAt := at_in ok b fs pSh 1 e0 X BX.lies BX.good rfl he0 (BX.parts e0 (List.mem_of_getElem? he0))
                rw [hh0, show (((1 : Nat) : Int) + 1) = (2 : Int) from rfl] at HAt
                clear BX
                unfold cv calmH at HAt
                go_wp2_with fail
                refine HAt.mono ?_
                rintro e X1 ⟨u, rfl, O1, g1⟩
                obtain ⟨xx, yy, rfl⟩ := O1.at.form
                have HG5 : Hid (U4.grownBy (X1.alloc (.cells (ccs calmH (.slice xx e0.ps.length yy)) 32)) none) := grown_push (grown_trans HGi.out g1) _
                have HC5 : CAt (X1.alloc (.cells (ccs calmH (.slice xx e0.ps.length yy)) 32)) X1.heap.size calmH (.slice xx e0.ps.length yy) := alloc_at _ _ _
                obtain ⟨X2, hX2⟩ : ∃ X2, X2 = X1.alloc (.cells (ccs calmH (.slice xx e0.ps.length yy)) 32) := ⟨_, rfl⟩
                rw [← hX2] at HG5 HC5
                have a13 : X2.cell? ⟨X1.heap.size, 0, none⟩ = some (.string ⟨#[99, 97, 108, 109]⟩) := HC5.cells.1
                have n13 : X2.cell? ⟨M, 1, none⟩ = some (.string ⟨#[99, 97, 108, 109]⟩) := (block_cell (grown_keep HG5.out HA4.out (by simp)) 1).trans rfl
                unfold ccs calmH at hX2
                clear O1 g1 HAt HC5 he0 hh0
                go_upto_region 27 with fail
                rw [← hX2]
                clear hX2
                refine wp_region_held_drew (S := fun w' => X2.grownBy w' none) (by kernel_rfl) (grown_drew _) (fun hHeld => ?_)
                refine wpAnyH_take (i := 0) (v := ?_) rfl (by kernel_rfl) (by kernel_rfl) (by kernel_rfl) (fun _ _ _ h => h) (Or.inl ⟨by rfl, ?_⟩) (by assumption) ?_
                rotate_left 1
                · (intro w0 hSw; go_simp; try with_reducible rfl)
                simp only [List.getElem_toArray, List.getElem_cons_zero]
                go_frame
                refine wpAnyH_take (i := 1) (v := ?_) rfl (by kernel_rfl) (by kernel_rfl) (by kernel_rfl) (fun _ _ _ h => h) (Or.inl ⟨by rfl, ?_⟩) (by assumption) ?_
                rotate_left 1
                · (intro w0 hSw; go_simp; try with_reducible rfl)
                simp only [List.getElem_toArray, List.getElem_cons_zero, List.getElem_cons_succ]
                go_frame
                refine wpAnyH_take (i := 2) (v := ?_) rfl (by kernel_rfl) (by kernel_rfl) (by kernel_rfl) (fun _ _ _ h => h) (Or.inl ⟨by rfl, ?_⟩) (by assumption) ?_
                rotate_left 1
                · (intro w0 hSw; go_simp; try with_reducible rfl)
                simp only [List.getElem_toArray, List.getElem_cons_zero, List.getElem_cons_succ]
                go_frame
                refine wpAnyH_take (i := 3) (v := ?_) rfl (by kernel_rfl) (by kernel_rfl) (by kernel_rfl) (fun _ _ _ h => h) (Or.inl ⟨by rfl, ?_⟩) (by assumption) ?_
                rotate_left 1
                · (intro w0 hSw; go_simp; try with_reducible rfl)
                simp only [List.getElem_toArray, List.getElem_cons_zero, List.getElem_cons_succ]
                go_frame
                refine wpAnyH_take (i := 4) (v := ?_) rfl (by kernel_rfl) (by kernel_rfl) (by kernel_rfl) (fun _ _ _ h => h) (Or.inl ⟨by rfl, ?_⟩) (by assumption) ?_
                rotate_left 1
                · (intro w0 hSw; have a9 := World.grownBy.cell hSw a13 (by simp); go_simp; try with_reducible rfl)
                simp only [List.getElem_toArray, List.getElem_cons_zero, List.getElem_cons_succ]
                go_frame
                refine wpAnyH_take (i := 5) (v := ?_) rfl (by kernel_rfl) (by kernel_rfl) (by kernel_rfl) (fun _ _ _ h => h) (Or.inl ⟨by rfl, ?_⟩) (by assumption) ?_
                rotate_left 1
                · (intro w0 hSw; go_simp; try with_reducible rfl)
                simp only [List.getElem_toArray, List.getElem_cons_zero, List.getElem_cons_succ]
                go_frame
                refine wpAnyH_take (i := 6) (v := ?_) rfl (by kernel_rfl) (by kernel_rfl) (by kernel_rfl) (fun _ _ _ h => h) (Or.inl ⟨by rfl, ?_⟩) (by assumption) ?_
                rotate_left 1
                · (intro w0 hSw; go_simp; try with_reducible rfl)
                simp only [List.getElem_toArray, List.getElem_cons_zero, List.getElem_cons_succ]
                go_frame
                refine wpAnyH_take (i := 7) (v := ?_) rfl (by kernel_rfl) (by kernel_rfl) (by kernel_rfl) (fun _ _ _ h => h) (Or.inl ⟨by rfl, ?_⟩) (by assumption) ?_
                rotate_left 1
                · (intro w0 hSw; go_simp; try with_reducible rfl)
                simp only [List.getElem_toArray, List.getElem_cons_zero, List.getElem_cons_succ]
                go_frame
                refine wpAnyH_take (i := 8) (v := ?_) rfl (by kernel_rfl) (by kernel_rfl) (by kernel_rfl) (fun _ _ _ h => h) (Or.inl ⟨by rfl, ?_⟩) (by assumption) ?_
                rotate_left 1
                · (intro w0 hSw; have a9 := World.grownBy.cell hSw n13 (by simp); go_simp; try with_reducible rfl)
                simp only [List.getElem_toArray, List.getElem_cons_zero, List.getElem_cons_succ]
                go_frame
                refine wpAnyH_take (i := 9) (v := ?_) rfl (by kernel_rfl) (by kernel_rfl) (by kernel_rfl) (fun _ _ _ h => h) (Or.inl ⟨by rfl, ?_⟩) (by assumption) ?_
                rotate_left 1
                · (intro w0 hSw; go_simp; try with_reducible rfl)
                simp only [List.getElem_toArray, List.getElem_cons_zero, List.getElem_cons_succ]
                go_frame
                refine wpAnyH_take (i := 10) (v := ?_) rfl (by kernel_rfl) (by kernel_rfl) (by kernel_rfl) (fun _ _ _ h => h) (Or.inl ⟨by rfl, ?_⟩) (by assumption) ?_
                rotate_left 1
                · (intro w0 hSw; go_simp; try with_reducible rfl)
                simp only [List.getElem_toArray, List.getElem_cons_zero, List.getElem_cons_succ]
                go_frame
                refine wpAnyH_done (by kernel_rfl) ?_ _
                have HG6 : Hid (U4.grownBy X2.drew none) := grown_trans HG5.out (grown_drew _)
                clear hHeld a13 n13 HG5
                go_wp2_with fail
                go_roundw
                case rel => exact ⟨2, by decide, rfl, HG6.out⟩
                case measure => decide
              · rw [show ((2 : Nat) : Int) = (2 : Int) from rfl]
                obtain ⟨e0, he0, hh0⟩ := same_get HSm.out (i := 2) (y := ⟨flockH, .bool false, flockP⟩) rfl
                have BX := HB4.out.keep HGi.out
                have HAt := at_in ok b fs pSh 2 e0 X BX.lies BX.good rfl he0 (BX.parts e0 (List.mem_of_getElem? he0))
                rw [hh0, show (((2 : Nat) : Int) + 1) = (3 : Int) from rfl] at HAt
                clear BX
                unfold cv flockH at HAt
                go_wp2_with fail
                refine HAt.mono ?_
                rintro e X1 ⟨u, rfl, O1, g1⟩
                obtain ⟨xx, yy, rfl⟩ := O1.at.form
                have HG5 : Hid (U4.grownBy (X1.alloc (.cells (ccs flockH (.slice xx e0.ps.length yy)) 32)) none) := grown_push (grown_trans HGi.out g1) _
                have HC5 : CAt (X1.alloc (.cells (ccs flockH (.slice xx e0.ps.length yy)) 32)) X1.heap.size flockH (.slice xx e0.ps.length yy) := alloc_at _ _ _
                obtain ⟨X2, hX2⟩ : ∃ X2, X2 = X1.alloc (.cells (ccs flockH (.slice xx e0.ps.length yy)) 32) := ⟨_, rfl⟩
                rw [← hX2] at HG5 HC5
                have a13 : X2.cell? ⟨X1.heap.size, 0, none⟩ = some (.string ⟨#[102, 108, 111, 99, 107]⟩) := HC5.cells.1
                have n13 : X2.cell? ⟨M, 2, none⟩ = some (.string ⟨#[102, 108, 111, 99, 107]⟩) := (block_cell (grown_keep HG5.out HA4.out (by simp)) 2).trans rfl
                unfold ccs flockH at hX2
                clear O1 g1 HAt HC5 he0 hh0
                go_upto_region 27 with fail
                rw [← hX2]
                clear hX2
                refine wp_region_held_drew (S := fun w' => X2.grownBy w' none) (by kernel_rfl) (grown_drew _) (fun hHeld => ?_)
                refine wpAnyH_take (i := 0) (v := ?_) rfl (by kernel_rfl) (by kernel_rfl) (by kernel_rfl) (fun _ _ _ h => h) (Or.inl ⟨by rfl, ?_⟩) (by assumption) ?_
                rotate_left 1
                · (intro w0 hSw; go_simp; try with_reducible rfl)
                simp only [List.getElem_toArray, List.getElem_cons_zero]
                go_frame
                refine wpAnyH_take (i := 1) (v := ?_) rfl (by kernel_rfl) (by kernel_rfl) (by kernel_rfl) (fun _ _ _ h => h) (Or.inl ⟨by rfl, ?_⟩) (by assumption) ?_
                rotate_left 1
                · (intro w0 hSw; go_simp; try with_reducible rfl)
                simp only [List.getElem_toArray, List.getElem_cons_zero, List.getElem_cons_succ]
                go_frame
                refine wpAnyH_take (i := 2) (v := ?_) rfl (by kernel_rfl) (by kernel_rfl) (by kernel_rfl) (fun _ _ _ h => h) (Or.inl ⟨by rfl, ?_⟩) (by assumption) ?_
                rotate_left 1
                · (intro w0 hSw; go_simp; try with_reducible rfl)
                simp only [List.getElem_toArray, List.getElem_cons_zero, List.getElem_cons_succ]
                go_frame
                refine wpAnyH_take (i := 3) (v := ?_) rfl (by kernel_rfl) (by kernel_rfl) (by kernel_rfl) (fun _ _ _ h => h) (Or.inl ⟨by rfl, ?_⟩) (by assumption) ?_
                rotate_left 1
                · (intro w0 hSw; go_simp; try with_reducible rfl)
                simp only [List.getElem_toArray, List.getElem_cons_zero, List.getElem_cons_succ]
                go_frame
                refine wpAnyH_take (i := 4) (v := ?_) rfl (by kernel_rfl) (by kernel_rfl) (by kernel_rfl) (fun _ _ _ h => h) (Or.inl ⟨by rfl, ?_⟩) (by assumption) ?_
                rotate_left 1
                · (intro w0 hSw; have a9 := World.grownBy.cell hSw a13 (by simp); go_simp; try with_reducible rfl)
                simp only [List.getElem_toArray, List.getElem_cons_zero, List.getElem_cons_succ]
                go_frame
                refine wpAnyH_take (i := 5) (v := ?_) rfl (by kernel_rfl) (by kernel_rfl) (by kernel_rfl) (fun _ _ _ h => h) (Or.inl ⟨by rfl, ?_⟩) (by assumption) ?_
                rotate_left 1
                · (intro w0 hSw; go_simp; try with_reducible rfl)
                simp only [List.getElem_toArray, List.getElem_cons_zero, List.getElem_cons_succ]
                go_frame
                refine wpAnyH_take (i := 6) (v := ?_) rfl (by kernel_rfl) (by kernel_rfl) (by kernel_rfl) (fun _ _ _ h => h) (Or.inl ⟨by rfl, ?_⟩) (by assumption) ?_
                rotate_left 1
                · (intro w0 hSw; go_simp; try with_reducible rfl)
                simp only [List.getElem_toArray, List.getElem_cons_zero, List.getElem_cons_succ]
                go_frame
                refine wpAnyH_take (i := 7) (v := ?_) rfl (by kernel_rfl) (by kernel_rfl) (by kernel_rfl) (fun _ _ _ h => h) (Or.inl ⟨by rfl, ?_⟩) (by assumption) ?_
                rotate_left 1
                · (intro w0 hSw; go_simp; try with_reducible rfl)
                simp only [List.getElem_toArray, List.getElem_cons_zero, List.getElem_cons_succ]
                go_frame
                refine wpAnyH_take (i := 8) (v := ?_) rfl (by kernel_rfl) (by kernel_rfl) (by kernel_rfl) (fun _ _ _ h => h) (Or.inl ⟨by rfl, ?_⟩) (by assumption) ?_
                rotate_left 1
                · (intro w0 hSw; have a9 := World.grownBy.cell hSw n13 (by simp); go_simp; try with_reducible rfl)
                simp only [List.getElem_toArray, List.getElem_cons_zero, List.getElem_cons_succ]
                go_frame
                refine wpAnyH_take (i := 9) (v := ?_) rfl (by kernel_rfl) (by kernel_rfl) (by kernel_rfl) (fun _ _ _ h => h) (Or.inl ⟨by rfl, ?_⟩) (by assumption) ?_
                rotate_left 1
                · (intro w0 hSw; go_simp; try with_reducible rfl)
                simp only [List.getElem_toArray, List.getElem_cons_zero, List.getElem_cons_succ]
                go_frame
                refine wpAnyH_take (i := 10) (v := ?_) rfl (by kernel_rfl) (by kernel_rfl) (by kernel_rfl) (fun _ _ _ h => h) (Or.inl ⟨by rfl, ?_⟩) (by assumption) ?_
                rotate_left 1
                · (intro w0 hSw; go_simp; try with_reducible rfl)
                simp only [List.getElem_toArray, List.getElem_cons_zero, List.getElem_cons_succ]
                go_frame
                refine wpAnyH_done (by kernel_rfl) ?_ _
                have HG6 : Hid (U4.grownBy X2.drew none) := grown_trans HG5.out (grown_drew _)
                clear hHeld a13 n13 HG5
                go_wp2_with fail
                go_roundw
                case rel => exact ⟨3, by decide, rfl, HG6.out⟩
                case measure => decide
              · rw [show ((3 : Nat) : Int) = (3 : Int) from rfl]
                obtain ⟨e0, he0, hh0⟩ := same_get HSm.out (i := 3) (y := ⟨kiteH, .bool false, kiteP⟩) rfl
                have BX := HB4.out.keep HGi.out
                have HAt := at_in ok b fs pSh 3 e0 X BX.lies BX.good rfl he0 (BX.parts e0 (List.mem_of_getElem? he0))
                rw [hh0, show (((3 : Nat) : Int) + 1) = (4 : Int) from rfl] at HAt
                clear BX
                unfold cv kiteH at HAt
                go_wp2_with fail
                refine HAt.mono ?_
                rintro e X1 ⟨u, rfl, O1, g1⟩
                obtain ⟨xx, yy, rfl⟩ := O1.at.form
                have HG5 : Hid (U4.grownBy (X1.alloc (.cells (ccs kiteH (.slice xx e0.ps.length yy)) 32)) none) := grown_push (grown_trans HGi.out g1) _
                have HC5 : CAt (X1.alloc (.cells (ccs kiteH (.slice xx e0.ps.length yy)) 32)) X1.heap.size kiteH (.slice xx e0.ps.length yy) := alloc_at _ _ _
                obtain ⟨X2, hX2⟩ : ∃ X2, X2 = X1.alloc (.cells (ccs kiteH (.slice xx e0.ps.length yy)) 32) := ⟨_, rfl⟩
                rw [← hX2] at HG5 HC5
                have a13 : X2.cell? ⟨X1.heap.size, 0, none⟩ = some (.string ⟨#[107, 105, 116, 101]⟩) := HC5.cells.1
                have n13 : X2.cell? ⟨M, 3, none⟩ = some (.string ⟨#[107, 105, 116, 101]⟩) := (block_cell (grown_keep HG5.out HA4.out (by simp)) 3).trans rfl
                unfold ccs kiteH at hX2
                clear O1 g1 HAt HC5 he0 hh0
                go_upto_region 27 with fail
                rw [← hX2]
                clear hX2
                refine wp_region_held_drew (S := fun w' => X2.grownBy w' none) (by kernel_rfl) (grown_drew _) (fun hHeld => ?_)
                refine wpAnyH_take (i := 0) (v := ?_) rfl (by kernel_rfl) (by kernel_rfl) (by kernel_rfl) (fun _ _ _ h => h) (Or.inl ⟨by rfl, ?_⟩) (by assumption) ?_
                rotate_left 1
                · (intro w0 hSw; go_simp; try with_reducible rfl)
                simp only [List.getElem_toArray, List.getElem_cons_zero]
                go_frame
                refine wpAnyH_take (i := 1) (v := ?_) rfl (by kernel_rfl) (by kernel_rfl) (by kernel_rfl) (fun _ _ _ h => h) (Or.inl ⟨by rfl, ?_⟩) (by assumption) ?_
                rotate_left 1
                · (intro w0 hSw; go_simp; try with_reducible rfl)
                simp only [List.getElem_toArray, List.getElem_cons_zero, List.getElem_cons_succ]
                go_frame
                refine wpAnyH_take (i := 2) (v := ?_) rfl (by kernel_rfl) (by kernel_rfl) (by kernel_rfl) (fun _ _ _ h => h) (Or.inl ⟨by rfl, ?_⟩) (by assumption) ?_
                rotate_left 1
                · (intro w0 hSw; go_simp; try with_reducible rfl)
                simp only [List.getElem_toArray, List.getElem_cons_zero, List.getElem_cons_succ]
                go_frame
                refine wpAnyH_take (i := 3) (v := ?_) rfl (by kernel_rfl) (by kernel_rfl) (by kernel_rfl) (fun _ _ _ h => h) (Or.inl ⟨by rfl, ?_⟩) (by assumption) ?_
                rotate_left 1
                · (intro w0 hSw; go_simp; try with_reducible rfl)
                simp only [List.getElem_toArray, List.getElem_cons_zero, List.getElem_cons_succ]
                go_frame
                refine wpAnyH_take (i := 4) (v := ?_) rfl (by kernel_rfl) (by kernel_rfl) (by kernel_rfl) (fun _ _ _ h => h) (Or.inl ⟨by rfl, ?_⟩) (by assumption) ?_
                rotate_left 1
                · (intro w0 hSw; have a9 := World.grownBy.cell hSw a13 (by simp); go_simp; try with_reducible rfl)
                simp only [List.getElem_toArray, List.getElem_cons_zero, List.getElem_cons_succ]
                go_frame
                refine wpAnyH_take (i := 5) (v := ?_) rfl (by kernel_rfl) (by kernel_rfl) (by kernel_rfl) (fun _ _ _ h => h) (Or.inl ⟨by rfl, ?_⟩) (by assumption) ?_
                rotate_left 1
                · (intro w0 hSw; go_simp; try with_reducible rfl)
                simp only [List.getElem_toArray, List.getElem_cons_zero, List.getElem_cons_succ]
                go_frame
                refine wpAnyH_take (i := 6) (v := ?_) rfl (by kernel_rfl) (by kernel_rfl) (by kernel_rfl) (fun _ _ _ h => h) (Or.inl ⟨by rfl, ?_⟩) (by assumption) ?_
                rotate_left 1
                · (intro w0 hSw; go_simp; try with_reducible rfl)
                simp only [List.getElem_toArray, List.getElem_cons_zero, List.getElem_cons_succ]
                go_frame
                refine wpAnyH_take (i := 7) (v := ?_) rfl (by kernel_rfl) (by kernel_rfl) (by kernel_rfl) (fun _ _ _ h => h) (Or.inl ⟨by rfl, ?_⟩) (by assumption) ?_
                rotate_left 1
                · (intro w0 hSw; go_simp; try with_reducible rfl)
                simp only [List.getElem_toArray, List.getElem_cons_zero, List.getElem_cons_succ]
                go_frame
                refine wpAnyH_take (i := 8) (v := ?_) rfl (by kernel_rfl) (by kernel_rfl) (by kernel_rfl) (fun _ _ _ h => h) (Or.inl ⟨by rfl, ?_⟩) (by assumption) ?_
                rotate_left 1
                · (intro w0 hSw; have a9 := World.grownBy.cell hSw n13 (by simp); go_simp; try with_reducible rfl)
                simp only [List.getElem_toArray, List.getElem_cons_zero, List.getElem_cons_succ]
                go_frame
                refine wpAnyH_take (i := 9) (v := ?_) rfl (by kernel_rfl) (by kernel_rfl) (by kernel_rfl) (fun _ _ _ h => h) (Or.inl ⟨by rfl, ?_⟩) (by assumption) ?_
                rotate_left 1
                · (intro w0 hSw; go_simp; try with_reducible rfl)
                simp only [List.getElem_toArray, List.getElem_cons_zero, List.getElem_cons_succ]
                go_frame
                refine wpAnyH_take (i := 10) (v := ?_) rfl (by kernel_rfl) (by kernel_rfl) (by kernel_rfl) (fun _ _ _ h => h) (Or.inl ⟨by rfl, ?_⟩) (by assumption) ?_
                rotate_left 1
                · (intro w0 hSw; go_simp; try with_reducible rfl)
                simp only [List.getElem_toArray, List.getElem_cons_zero, List.getElem_cons_succ]
                go_frame
                refine wpAnyH_done (by kernel_rfl) ?_ _
                have HG6 : Hid (U4.grownBy X2.drew none) := grown_trans HG5.out (grown_drew _)
                clear hHeld a13 n13 HG5
                go_wp2_with fail
                go_roundw
                case rel => exact ⟨4, by decide, rfl, HG6.out⟩
                case measure => decide
              · rw [show ((4 : Nat) : Int) = (4 : Int) from rfl]
                obtain ⟨e0, he0, hh0⟩ := same_get HSm.out (i := 4) (y := ⟨swiftWingH, .bool false, swiftWingP⟩) rfl
                have BX := HB4.out.keep HGi.out
                have HAt := at_in ok b fs pSh 4 e0 X BX.lies BX.good rfl he0 (BX.parts e0 (List.mem_of_getElem? he0))
                rw [hh0, show (((4 : Nat) : Int) + 1) = (5 : Int) from rfl] at HAt
                clear BX
                unfold cv swiftWingH at HAt
                go_wp2_with fail
                refine HAt.mono ?_
                rintro e X1 ⟨u, rfl, O1, g1⟩
                obtain ⟨xx, yy, rfl⟩ := O1.at.form
                have HG5 : Hid (U4.grownBy (X1.alloc (.cells (ccs swiftWingH (.slice xx e0.ps.length yy)) 32)) none) := grown_push (grown_trans HGi.out g1) _
                have HC5 : CAt (X1.alloc (.cells (ccs swiftWingH (.slice xx e0.ps.length yy)) 32)) X1.heap.size swiftWingH (.slice xx e0.ps.length yy) := alloc_at _ _ _
                obtain ⟨X2, hX2⟩ : ∃ X2, X2 = X1.alloc (.cells (ccs swiftWingH (.slice xx e0.ps.length yy)) 32) := ⟨_, rfl⟩
                rw [← hX2] at HG5 HC5
                have a13 : X2.cell? ⟨X1.heap.size, 0, none⟩ = some (.string ⟨#[115, 119, 105, 102, 116, 45, 119, 105, 110, 103]⟩) := HC5.cells.1
                have n13 : X2.cell? ⟨M, 4, none⟩ = some (.string ⟨#[115, 119, 105, 102, 116, 45, 119, 105, 110, 103]⟩) := (block_cell (grown_keep HG5.out HA4.out (by simp)) 4).trans rfl
                unfold ccs swiftWingH at hX2
                clear O1 g1 HAt HC5 he0 hh0
                go_upto_region 27 with fail
                rw [← hX2]
                clear hX2
                refine wp_region_held_drew (S := fun w' => X2.grownBy w' none) (by kernel_rfl) (grown_drew _) (fun hHeld => ?_)
                refine wpAnyH_take (i := 0) (v := ?_) rfl (by kernel_rfl) (by kernel_rfl) (by kernel_rfl) (fun _ _ _ h => h) (Or.inl ⟨by rfl, ?_⟩) (by assumption) ?_
                rotate_left 1
                · (intro w0 hSw; go_simp; try with_reducible rfl)
                simp only [List.getElem_toArray, List.getElem_cons_zero]
                go_frame
                refine wpAnyH_take (i := 1) (v := ?_) rfl (by kernel_rfl) (by kernel_rfl) (by kernel_rfl) (fun _ _ _ h => h) (Or.inl ⟨by rfl, ?_⟩) (by assumption) ?_
                rotate_left 1
                · (intro w0 hSw; go_simp; try with_reducible rfl)
                simp only [List.getElem_toArray, List.getElem_cons_zero, List.getElem_cons_succ]
                go_frame
                refine wpAnyH_take (i := 2) (v := ?_) rfl (by kernel_rfl) (by kernel_rfl) (by kernel_rfl) (fun _ _ _ h => h) (Or.inl ⟨by rfl, ?_⟩) (by assumption) ?_
                rotate_left 1
                · (intro w0 hSw; go_simp; try with_reducible rfl)
                simp only [List.getElem_toArray, List.getElem_cons_zero, List.getElem_cons_succ]
                go_frame
                refine wpAnyH_take (i := 3) (v := ?_) rfl (by kernel_rfl) (by kernel_rfl) (by kernel_rfl) (fun _ _ _ h => h) (Or.inl ⟨by rfl, ?_⟩) (by assumption) ?_
                rotate_left 1
                · (intro w0 hSw; go_simp; try with_reducible rfl)
                simp only [List.getElem_toArray, List.getElem_cons_zero, List.getElem_cons_succ]
                go_frame
                refine wpAnyH_take (i := 4) (v := ?_) rfl (by kernel_rfl) (by kernel_rfl) (by kernel_rfl) (fun _ _ _ h => h) (Or.inl ⟨by rfl, ?_⟩) (by assumption) ?_
                rotate_left 1
                · (intro w0 hSw; have a9 := World.grownBy.cell hSw a13 (by simp); go_simp; try with_reducible rfl)
                simp only [List.getElem_toArray, List.getElem_cons_zero, List.getElem_cons_succ]
                go_frame
                refine wpAnyH_take (i := 5) (v := ?_) rfl (by kernel_rfl) (by kernel_rfl) (by kernel_rfl) (fun _ _ _ h => h) (Or.inl ⟨by rfl, ?_⟩) (by assumption) ?_
                rotate_left 1
                · (intro w0 hSw; go_simp; try with_reducible rfl)
                simp only [List.getElem_toArray, List.getElem_cons_zero, List.getElem_cons_succ]
                go_frame
                refine wpAnyH_take (i := 6) (v := ?_) rfl (by kernel_rfl) (by kernel_rfl) (by kernel_rfl) (fun _ _ _ h => h) (Or.inl ⟨by rfl, ?_⟩) (by assumption) ?_
                rotate_left 1
                · (intro w0 hSw; go_simp; try with_reducible rfl)
                simp only [List.getElem_toArray, List.getElem_cons_zero, List.getElem_cons_succ]
                go_frame
                refine wpAnyH_take (i := 7) (v := ?_) rfl (by kernel_rfl) (by kernel_rfl) (by kernel_rfl) (fun _ _ _ h => h) (Or.inl ⟨by rfl, ?_⟩) (by assumption) ?_
                rotate_left 1
                · (intro w0 hSw; go_simp; try with_reducible rfl)
                simp only [List.getElem_toArray, List.getElem_cons_zero, List.getElem_cons_succ]
                go_frame
                refine wpAnyH_take (i := 8) (v := ?_) rfl (by kernel_rfl) (by kernel_rfl) (by kernel_rfl) (fun _ _ _ h => h) (Or.inl ⟨by rfl, ?_⟩) (by assumption) ?_
                rotate_left 1
                · (intro w0 hSw; have a9 := World.grownBy.cell hSw n13 (by simp); go_simp; try with_reducible rfl)
                simp only [List.getElem_toArray, List.getElem_cons_zero, List.getElem_cons_succ]
                go_frame
                refine wpAnyH_take (i := 9) (v := ?_) rfl (by kernel_rfl) (by kernel_rfl) (by kernel_rfl) (fun _ _ _ h => h) (Or.inl ⟨by rfl, ?_⟩) (by assumption) ?_
                rotate_left 1
                · (intro w0 hSw; go_simp; try with_reducible rfl)
                simp only [List.getElem_toArray, List.getElem_cons_zero, List.getElem_cons_succ]
                go_frame
                refine wpAnyH_take (i := 10) (v := ?_) rfl (by kernel_rfl) (by kernel_rfl) (by kernel_rfl) (fun _ _ _ h => h) (Or.inl ⟨by rfl, ?_⟩) (by assumption) ?_
                rotate_left 1
                · (intro w0 hSw; go_simp; try with_reducible rfl)
                simp only [List.getElem_toArray, List.getElem_cons_zero, List.getElem_cons_succ]
                go_frame
                refine wpAnyH_done (by kernel_rfl) ?_ _
                have HG6 : Hid (U4.grownBy X2.drew none) := grown_trans HG5.out (grown_drew _)
                clear hHeld a13 n13 HG5
                go_wp2_with fail
                go_roundw
                case rel => exact ⟨5, by decide, rfl, HG6.out⟩
                case measure => decide
              · rw [show ((5 : Nat) : Int) = (5 : Int) from rfl]
                obtain ⟨e0, he0, hh0⟩ := same_get HSm.out (i := 5) (y := ⟨wispH, .bool false, wispP⟩) rfl
                have BX := HB4.out.keep HGi.out
                have HAt := at_in ok b fs pSh 5 e0 X BX.lies BX.good rfl he0 (BX.parts e0 (List.mem_of_getElem? he0))
                rw [hh0, show (((5 : Nat) : Int) + 1) = (6 : Int) from rfl] at HAt
                clear BX
                unfold cv wispH at HAt
                go_wp2_with fail
                refine HAt.mono ?_
                rintro e X1 ⟨u, rfl, O1, g1⟩
                obtain ⟨xx, yy, rfl⟩ := O1.at.form
                have HG5 : Hid (U4.grownBy (X1.alloc (.cells (ccs wispH (.slice xx e0.ps.length yy)) 32)) none) := grown_push (grown_trans HGi.out g1) _
                have HC5 : CAt (X1.alloc (.cells (ccs wispH (.slice xx e0.ps.length yy)) 32)) X1.heap.size wispH (.slice xx e0.ps.length yy) := alloc_at _ _ _
                obtain ⟨X2, hX2⟩ : ∃ X2, X2 = X1.alloc (.cells (ccs wispH (.slice xx e0.ps.length yy)) 32) := ⟨_, rfl⟩
                rw [← hX2] at HG5 HC5
                have a13 : X2.cell? ⟨X1.heap.size, 0, none⟩ = some (.string ⟨#[119, 105, 115, 112]⟩) := HC5.cells.1
                have n13 : X2.cell? ⟨M, 5, none⟩ = some (.string ⟨#[119, 105, 115, 112]⟩) := (block_cell (grown_keep HG5.out HA4.out (by simp)) 5).trans rfl
                unfold ccs wispH at hX2
                clear O1 g1 HAt HC5 he0 hh0
                go_upto_region 27 with fail
                rw [← hX2]
                clear hX2
                refine wp_region_held_drew (S := fun w' => X2.grownBy w' none) (by kernel_rfl) (grown_drew _) (fun hHeld => ?_)
                refine wpAnyH_take (i := 0) (v := ?_) rfl (by kernel_rfl) (by kernel_rfl) (by kernel_rfl) (fun _ _ _ h => h) (Or.inl ⟨by rfl, ?_⟩) (by assumption) ?_
                rotate_left 1
                · (intro w0 hSw; go_simp; try with_reducible rfl)
                simp only [List.getElem_toArray, List.getElem_cons_zero]
                go_frame
                refine wpAnyH_take (i := 1) (v := ?_) rfl (by kernel_rfl) (by kernel_rfl) (by kernel_rfl) (fun _ _ _ h => h) (Or.inl ⟨by rfl, ?_⟩) (by assumption) ?_
                rotate_left 1
                · (intro w0 hSw; go_simp; try with_reducible rfl)
                simp only [List.getElem_toArray, List.getElem_cons_zero, List.getElem_cons_succ]
                go_frame
                refine wpAnyH_take (i := 2) (v := ?_) rfl (by kernel_rfl) (by kernel_rfl) (by kernel_rfl) (fun _ _ _ h => h) (Or.inl ⟨by rfl, ?_⟩) (by assumption) ?_
                rotate_left 1
                · (intro w0 hSw; go_simp; try with_reducible rfl)
                simp only [List.getElem_toArray, List.getElem_cons_zero, List.getElem_cons_succ]
                go_frame
                refine wpAnyH_take (i := 3) (v := ?_) rfl (by kernel_rfl) (by kernel_rfl) (by kernel_rfl) (fun _ _ _ h => h) (Or.inl ⟨by rfl, ?_⟩) (by assumption) ?_
                rotate_left 1
                · (intro w0 hSw; go_simp; try with_reducible rfl)
                simp only [List.getElem_toArray, List.getElem_cons_zero, List.getElem_cons_succ]
                go_frame
                refine wpAnyH_take (i := 4) (v := ?_) rfl (by kernel_rfl) (by kernel_rfl) (by kernel_rfl) (fun _ _ _ h => h) (Or.inl ⟨by rfl, ?_⟩) (by assumption) ?_
                rotate_left 1
                · (intro w0 hSw; have a9 := World.grownBy.cell hSw a13 (by simp); go_simp; try with_reducible rfl)
                simp only [List.getElem_toArray, List.getElem_cons_zero, List.getElem_cons_succ]
                go_frame
                refine wpAnyH_take (i := 5) (v := ?_) rfl (by kernel_rfl) (by kernel_rfl) (by kernel_rfl) (fun _ _ _ h => h) (Or.inl ⟨by rfl, ?_⟩) (by assumption) ?_
                rotate_left 1
                · (intro w0 hSw; go_simp; try with_reducible rfl)
                simp only [List.getElem_toArray, List.getElem_cons_zero, List.getElem_cons_succ]
                go_frame
                refine wpAnyH_take (i := 6) (v := ?_) rfl (by kernel_rfl) (by kernel_rfl) (by kernel_rfl) (fun _ _ _ h => h) (Or.inl ⟨by rfl, ?_⟩) (by assumption) ?_
                rotate_left 1
                · (intro w0 hSw; go_simp; try with_reducible rfl)
                simp only [List.getElem_toArray, List.getElem_cons_zero, List.getElem_cons_succ]
                go_frame
                refine wpAnyH_take (i := 7) (v := ?_) rfl (by kernel_rfl) (by kernel_rfl) (by kernel_rfl) (fun _ _ _ h => h) (Or.inl ⟨by rfl, ?_⟩) (by assumption) ?_
                rotate_left 1
                · (intro w0 hSw; go_simp; try with_reducible rfl)
                simp only [List.getElem_toArray, List.getElem_cons_zero, List.getElem_cons_succ]
                go_frame
                refine wpAnyH_take (i := 8) (v := ?_) rfl (by kernel_rfl) (by kernel_rfl) (by kernel_rfl) (fun _ _ _ h => h) (Or.inl ⟨by rfl, ?_⟩) (by assumption) ?_
                rotate_left 1
                · (intro w0 hSw; have a9 := World.grownBy.cell hSw n13 (by simp); go_simp; try with_reducible rfl)
                simp only [List.getElem_toArray, List.getElem_cons_zero, List.getElem_cons_succ]
                go_frame
                refine wpAnyH_take (i := 9) (v := ?_) rfl (by kernel_rfl) (by kernel_rfl) (by kernel_rfl) (fun _ _ _ h => h) (Or.inl ⟨by rfl, ?_⟩) (by assumption) ?_
                rotate_left 1
                · (intro w0 hSw; go_simp; try with_reducible rfl)
                simp only [List.getElem_toArray, List.getElem_cons_zero, List.getElem_cons_succ]
                go_frame
                refine wpAnyH_take (i := 10) (v := ?_) rfl (by kernel_rfl) (by kernel_rfl) (by kernel_rfl) (fun _ _ _ h => h) (Or.inl ⟨by rfl, ?_⟩) (by assumption) ?_
                rotate_left 1
                · (intro w0 hSw; go_simp; try with_reducible rfl)
                simp only [List.getElem_toArray, List.getElem_cons_zero, List.getElem_cons_succ]
                go_frame
                refine wpAnyH_done (by kernel_rfl) ?_ _
                have HG6 : Hid (U4.grownBy X2.drew none) := grown_trans HG5.out (grown_drew _)
                clear hHeld a13 n13 HG5
                go_wp2_with fail
                go_roundw
                case rel => exact ⟨6, by decide, rfl, HG6.out⟩
                case measure => decide
              · rw [show ((6 : Nat) : Int) = (6 : Int) from rfl]
                go_wp2_with fail
                refine (lives_air _).mono ?_
                rintro e X1 ⟨rfl, g1⟩
                go_wp2
                go_ret
                exact ⟨rfl, grown_trans HG4.out (grown_trans HGi.out g1)⟩
end Go.Proofs.YtmepidalecdmkaaDoor
