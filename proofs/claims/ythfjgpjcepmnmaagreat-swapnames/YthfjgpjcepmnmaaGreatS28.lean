/-
  Layers, plainly: other stamps in the same order.
  Views, plainly: printed features, features behind each layer, with marks; the steps; what was about a thing.
  Layers, plainly: whom an effect is about, by their numbers; what becomes of each feature.
  Views, plainly: the same table under other numbers and stamps has the same features, by the same effects.
  The document's layers, plainly: when a book, things and features go together.
  The document's layers: whether a book, things and features go together; what is refused.
  The document's traits and parts: Has, With, Without, the layer of a verb, whether two parts are the same.
  The document's layers: the numbers of the things on the table, by rising stamps.
  The document's layers: a unit; whom an effect is about.
  Swaps: players' numbers, who holds a thing, how many Shield marks lie on it, whether it lies on the table.
-/
import Derived.Test.YthfjgpjcepmnmaaGreatLpA
import Derived.Test.YthfjgpjcepmnmaaGreatS27
import Derived.Test.YthfjgpjcepmnmaaGreatS16
import Derived.Test.YthfjgpjcepmnmaaGreatS12
import Derived.Test.YthfjgpjcepmnmaaGreatLyX
import Derived.BigQuiet
import Derived.Test.YthfjgpjcepmnmaaGreatS4
import Derived.Test.YthfjgpjcepmnmaaGreatS14
import Derived.Test.YthfjgpjcepmnmaaGreatLyK
namespace Go.Proofs.YthfjgpjcepmnmaaGreat
open Go.RowKit Go.Shelf

theorem RecT.set1 {α : Type} (R : RecT α) {t t' : α} {d : Nat} {v : Value} (hd : d < R.k) (he : (R.enc t).set d v = R.enc t') : ∀ (l : List α) (i : Nat), l[i]? = some t → (R.cs l).set (i * R.k + d) v = R.cs (l.set i t')
  | [], i, h => by simp at h
  | y :: l, 0, h => by
    simp at h
    subst h
    show (R.enc y ++ R.cs l).set (0 * R.k + d) v = R.enc t' ++ R.cs l
    rw [Nat.zero_mul, Nat.zero_add, List.set_append_left _ _ (by rw [R.hk]; exact hd), he]
  | y :: l, i + 1, h => by
    show (R.enc y ++ R.cs l).set ((i + 1) * R.k + d) v = R.enc y ++ R.cs (l.set i t')
    rw [List.set_append_right _ _ (by rw [R.hk, Nat.succ_mul]; omega), R.hk, show (i + 1) * R.k + d - R.k = i * R.k + d from by rw [Nat.succ_mul]; omega, R.set1 hd he l i (by simpa using h)]
end Go.Proofs.YthfjgpjcepmnmaaGreat
namespace Go.Proofs.YthfjgpjcepmnmaaGreat
open Go.RowKit Go.Shelf

def nxtF (R : List Rw) (fs : List Fe) (k : Int) : List Fe := amgL fs R (allR R fs k).1
def clF (R : List Rw) (fs : List Fe) : Nat → List Fe
  | 0 => fs
  | k + 1 => nxtF R (clF R fs k) ((k : Int) + 1)
theorem Onc.run {m : Int} {cd : Int → Hd × List Pt} {ts : List Th} {fs : List Fe} {R : List Rw} {k : Int} : ∀ (n : Nat) (X : List Fe) (L acc : List Se), L.length = n → Onc m cd ts fs R k X L acc → ∃ Y B, Onc m cd ts fs R k Y [] B
  | 0, X, L, acc, h, q => by
    have : L = [] := List.length_eq_zero_iff.1 h
    subst this
    exact ⟨X, acc, q⟩
  | n + 1, X, L, acc, h, q => Onc.run n _ _ _ (by rw [List.length_eraseIdx_of_lt (q.lt (by omega))]; omega) (q.step (by omega))
theorem Tab.next {m : Int} {cd : Int → Hd × List Pt} {ts : List Th} {fs : List Fe} {R : List Rw} (h : Tab m cd ts fs R) (k : Int) : Tab m cd ts (nxtF R fs k) R := by
  obtain ⟨Y, B, q⟩ := Onc.run (k := k) _ _ _ _ rfl (Onc.start h)
  unfold nxtF
  rw [q.end]
  exact q.tab
theorem Tab.cl {m : Int} {cd : Int → Hd × List Pt} {ts : List Th} {fs : List Fe} {R : List Rw} (h : Tab m cd ts fs R) : ∀ k, Tab m cd ts (clF R fs k) R
  | 0 => h
  | k + 1 => (h.cl k).next _
end Go.Proofs.YthfjgpjcepmnmaaGreat
namespace Go.Proofs.YthfjgpjcepmnmaaGreat
open Go.RowKit Go.Shelf

def stOf (ts : List Th) (x : Int) : Int := (ts.getD (x - 1).toNat Th.none).stamp
theorem Tab.up {n : Int} {cd : Int → Hd × List Pt} {ts : List Th} {fs : List Fe} {R : List Rw} (h : Tab n cd ts fs R) : R.Pairwise fun a b => a.st < b.st := by
  have h' := h.tab
  unfold tabR at h'
  split at h'
  · split at h'
    · split at h'
      · rename_i hd
        cases h'
        have := dif_up (stamps_up (sortR_up _)) hd
        unfold stampsR at this
        rw [List.pairwise_map] at this
        exact this
      · cases h'
    · cases h'
  · cases h'
theorem Tab.thing {n : Int} {cd : Int → Hd × List Pt} {ts : List Th} {fs : List Fe} {R : List Rw} (h : Tab n cd ts fs R) {i : Nat} (hi : i < R.length) : (ts.getD ((R.getD i Rw.none).nu - 1).toNat Th.none).place = 4 ∧ stOf ts (R.getD i Rw.none).nu = (R.getD i Rw.none).st ∧ 0 < (R.getD i Rw.none).st ∧ 1 ≤ (R.getD i Rw.none).nu ∧ (R.getD i Rw.none).nu ≤ (fs.length : Int) := by
  have hr : R.getD i Rw.none ∈ R := by rw [getD_in hi]; exact List.getElem_mem _
  obtain ⟨j, t, ht, h4, hn, hs⟩ := h.from hr
  have hj : j < ts.length := (List.getElem?_eq_some_iff.1 ht).1
  have e : ts.getD j Th.none = t := by rw [List.getD_eq_getElem?_getD, ht]; rfl
  have hm := h.may j t _ ht (List.getElem?_eq_getElem (by rw [← h.len]; exact hj)) h4
  unfold mayLieB at hm
  simp only [Bool.and_eq_true, decide_eq_true_eq] at hm
  unfold stOf
  rw [hn, show ((j : Int) + 1 - 1).toNat = j by omega, e, hs]
  exact ⟨h4, rfl, hm.1.1, by omega, by rw [← h.len]; omega⟩
end Go.Proofs.YthfjgpjcepmnmaaGreat
namespace Go.Proofs.YthfjgpjcepmnmaaGreat
open Go.RowKit Go.Shelf

theorem getD_map {α β : Type} (f : α → β) (l : List α) (i : Nat) (d : α) (e : β) (h : i < l.length) : (l.map f).getD i e = f (l.getD i d) := by
  rw [List.getD_eq_getElem?_getD, List.getD_eq_getElem?_getD, List.getElem?_map, List.getElem?_eq_getElem h]
  rfl
theorem layF_may {n : Int} {cd : Int → Hd × List Pt} : ∀ (l : List (Th × Fe)) (i : Nat) (acc A : List Rw), layF n cd l i acc = some A → ∀ x ∈ l, mayBeB n x.1 = true ∧ (x.1.place = 4 → mayLieB x.1 x.2 = true ∧ (cd x.1.card).1.kd ≠ 2)
  | [], i, acc, A, h, x, hx => by cases hx
  | (t, f) :: r, i, acc, A, h, x, hx => by
    unfold layF at h
    split at h
    · cases h
    · rename_i h1
      have h1' : mayBeB n t = true := by cases q : mayBeB n t with | true => rfl | false => exact absurd q h1
      split at h
      · rename_i hp
        rcases List.mem_cons.1 hx with rfl | hx
        · exact ⟨h1', fun z => absurd z hp⟩
        · exact layF_may r _ _ A h x hx
      · split at h
        · cases h
        · rename_i hm
          split at h
          · cases h
          · rename_i hk
            rcases List.mem_cons.1 hx with rfl | hx
            · refine ⟨h1', fun _ => ⟨?_, hk⟩⟩
              cases q : mayLieB t f with
              | true => rfl
              | false => exact absurd (Or.inr q) hm
            · exact layF_may r _ _ A h x hx
theorem Tab.mays {n : Int} {cd : Int → Hd × List Pt} {ts : List Th} {fs : List Fe} {R : List Rw} (h : Tab n cd ts fs R) {j : Nat} {t : Th} {f : Fe} (ht : ts[j]? = some t) (hf : fs[j]? = some f) : mayBeB n t = true ∧ (t.place = 4 → mayLieB t f = true ∧ (cd t.card).1.kd ≠ 2) := by
  have := h.tab
  unfold tabR at this
  split at this
  · split at this
    · rename_i acc ha
      exact layF_may _ _ _ _ ha (t, f) (List.mem_of_getElem? (zip_get.2 ⟨ht, hf⟩))
    · cases this
  · cases this
theorem Tab.row {n : Int} {cd : Int → Hd × List Pt} {ts : List Th} {fs : List Fe} {R : List Rw} (h : Tab n cd ts fs R) {r : Rw} (hr : r ∈ R) : ∃ (j : Nat) (t : Th), ts[j]? = some t ∧ t.place = 4 ∧ r = ⟨(j : Int) + 1, t.stamp, (cd t.card).1, (cd t.card).2⟩ := by
  obtain ⟨j, t, f, a, b, c⟩ := tbl_of _ _ _ (h.perm.mem_iff.1 hr)
  exact ⟨j, t, (zip_get.1 a).1, b, by rw [c]; simp⟩
theorem toN (j : Nat) : ((j : Int) + 1 - 1).toNat = j := by omega
end Go.Proofs.YthfjgpjcepmnmaaGreat
namespace Go.Proofs.YthfjgpjcepmnmaaGreat
open Go.RowKit Go.Shelf

section
variable {n : Int} {cd : Int → Hd × List Pt} {ts : List Th} {fs : List Fe}
end
end Go.Proofs.YthfjgpjcepmnmaaGreat
namespace Go.Proofs.YthfjgpjcepmnmaaGreat
open Go.RowKit Go.Shelf

theorem rec_thV {w : World} {g off n c : Nat} {X : List Th} (h : thR.At w (.slice (some ⟨g, off, none⟩) n c) X) {i : Nat} {x : Th} (hx : X[i]? = some x) : w.rangeAt g (off + i * 11) (thc x) := by
  obtain ⟨hi, e⟩ := List.getElem?_eq_some_iff.1 hx
  obtain ⟨g', off', cap, e1, r⟩ := th_there h hi
  injection e1 with e1 _ _
  injection e1 with e1
  injection e1 with ea eb
  rw [ea, eb, ← e]
  exact r
end Go.Proofs.YthfjgpjcepmnmaaGreat
namespace Go.Proofs.YthfjgpjcepmnmaaGreat
open Go.RowKit

end Go.Proofs.YthfjgpjcepmnmaaGreat
namespace Go.Proofs.YthfjgpjcepmnmaaGreat
open Go.RowKit Go.Shelf

end Go.Proofs.YthfjgpjcepmnmaaGreat
namespace Go.Proofs.YthfjgpjcepmnmaaGreat
open Go.RowKit Go.Shelf

theorem rec_feV {w : World} {g off n c : Nat} {X : List Fe} (h : feR.At w (.slice (some ⟨g, off, none⟩) n c) X) {i : Nat} {x : Fe} (hx : X[i]? = some x) : w.rangeAt g (off + i * 5) (fec x) := by
  obtain ⟨hi, e⟩ := List.getElem?_eq_some_iff.1 hx
  obtain ⟨g', off', cap, e1, r⟩ := fe_there h hi
  injection e1 with e1 _ _
  injection e1 with e1
  injection e1 with ea eb
  rw [ea, eb, ← e]
  exact r
end Go.Proofs.YthfjgpjcepmnmaaGreat
namespace Go.Proofs.YthfjgpjcepmnmaaGreat
open Go.RowKit

def scnv (bv vt vf vl : Value) : Value := .agg #[bv, vt, vf, vl]
def ScnB (w : World) (g : Nat) (bv vt vf vl : Value) : Prop := w.heap[g]? = some (.cells #[bv, vt, vf, vl] 136 (0, 0))
theorem scn_box {w : World} {g : Nat} {bv vt vf vl : Value} (h : ScnB w g bv vt vf vl) : w.cell? ⟨g, 0, none⟩ = some bv ∧ w.cell? ⟨g, 1, none⟩ = some vt ∧ w.cell? ⟨g, 2, none⟩ = some vf ∧ w.cell? ⟨g, 3, none⟩ = some vl := ⟨(block_cell h 0).trans rfl, (block_cell h 1).trans rfl, (block_cell h 2).trans rfl, (block_cell h 3).trans rfl⟩
def hpv (h : Hp) : Value := .agg #[.int .u8 h.vb, .int .i64 h.on, .int .i64 h.ct, .int .i64 h.ho, .bool h.vn, .bool h.dr]
def HpB (w : World) (g : Nat) (h : Hp) : Prop := w.heap[g]? = some (.cells #[.int .u8 h.vb, .int .i64 h.on, .int .i64 h.ct, .int .i64 h.ho, .bool h.vn, .bool h.dr] 43 (0, 0))
theorem hp_box {w : World} {g : Nat} {h : Hp} (H : HpB w g h) : w.cell? ⟨g, 0, none⟩ = some (.int .u8 h.vb) ∧ w.cell? ⟨g, 1, none⟩ = some (.int .i64 h.on) ∧ w.cell? ⟨g, 2, none⟩ = some (.int .i64 h.ct) ∧ w.cell? ⟨g, 3, none⟩ = some (.int .i64 h.ho) ∧ w.cell? ⟨g, 4, none⟩ = some (.bool h.vn) ∧ w.cell? ⟨g, 5, none⟩ = some (.bool h.dr) :=
  ⟨(block_cell H 0).trans rfl, (block_cell H 1).trans rfl, (block_cell H 2).trans rfl, (block_cell H 3).trans rfl, (block_cell H 4).trans rfl, (block_cell H 5).trans rfl⟩
theorem snumber_any (k : Int) (w : World) : Calls Tryz.prog 200 #[.int .i64 k] w fun e w' => e = .returned (.int .i64 (wrap64 (-1 - k))) ∧ w' = w := by
  go_enter Tryz.func200, Tryz.ntmps200
  go_wp2
  go_ret
  exact ⟨rfl, rfl⟩
theorem sfoe_any (k : Int) (w : World) : Calls Tryz.prog 213 #[.int .i64 k] w fun e w' => e = .returned (.int .i64 (wrap64 (1 - k))) ∧ w' = w := by
  go_enter Tryz.func213, Tryz.ntmps213
  go_wp2
  go_ret
  exact ⟨rfl, rfl⟩
theorem snumber_0 (w : World) : Calls Tryz.prog 200 #[.int .i64 0] w fun e w' => e = .returned (.int .i64 (-1)) ∧ w' = w := by
  have h := snumber_any 0 w
  rwa [show wrap64 (-1 - 0) = -1 from by unfold wrap64; omega] at h
theorem snumber_1 (w : World) : Calls Tryz.prog 200 #[.int .i64 1] w fun e w' => e = .returned (.int .i64 (-2)) ∧ w' = w := by
  have h := snumber_any 1 w
  rwa [show wrap64 (-1 - 1) = -2 from by unfold wrap64; omega] at h
theorem isPlN_no {n : Int} (h : ¬ n = -1) : isPlN n = (n == -2) := by
  by_cases k : n = -2
  · subst k; rfl
  · unfold isPlN
    simp [h, k]
theorem sisPlayer_any (n : Int) (w : World) : Calls Tryz.prog 132 #[.int .i64 n] w fun e w' => e = .returned (.bool (isPlN n)) ∧ w' = w := by
  by_cases h0 : n = -1
  · have e0 : (n == -1) = true := by rw [h0]; rfl
    have HE : Hid (isPlN n = true) := by show isPlN n = _; unfold isPlN; rw [decide_eq_true h0, Bool.true_or]
    clear h0
    go_enter Tryz.func132, Tryz.ntmps132
    go_wp2_with fail
    refine (snumber_0 _).mono ?_
    rintro e1 w1 ⟨rfl, rfl⟩
    go_wp2_with fail
    go_ret
    exact ⟨ret_bb HE.out.symm, rfl⟩
  · have e0 : (n == -1) = false := by simpa using h0
    have HE : Hid (isPlN n = (n == -2)) := isPlN_no h0
    clear h0
    go_enter Tryz.func132, Tryz.ntmps132
    go_wp2_with fail
    refine (snumber_0 _).mono ?_
    rintro e1 w1 ⟨rfl, rfl⟩
    go_wp2_with fail
    refine (snumber_1 _).mono ?_
    rintro e2 w2 ⟨rfl, rfl⟩
    go_wp2_with fail
    go_ret
    exact ⟨ret_bb HE.out.symm, rfl⟩
set_option maxRecDepth 100000 in
set_option maxHeartbeats 4000000 in
theorem sholder_any (bv vt vf vl : Value) (F : List Fe) (s : Sd) (z : Nat) (f : Fe) (w : World) (AF : feR.At w vf F) (hf : F[z]? = some f) (hz : s.th = (z : Int) + 1) (hl : F.length ≤ 4096) : Calls Tryz.prog 212 #[scnv bv vt vf vl, sdv s] w fun e w' => e = .returned (.int .i64 f.ho) ∧ w.grownBy w' none := by
  obtain ⟨pf, cf, rfl⟩ := AF.form
  have hzf : z < F.length := (List.getElem?_eq_some_iff.1 hf).1
  obtain ⟨V, hV⟩ : ∃ V, V = (w.alloc (.cells #[bv, vt, .slice pf F.length cf, vl] 136)).alloc (.cells #[.int .i64 s.th, .int .i64 s.pl, .int .u8 s.wh.wn, .int .u8 s.wh.vb, .int .u8 s.wh.wm, .int .i64 s.wh.ct, .int .u8 s.wh.su, .int .u8 s.wh.tr, .int .u8 s.wh.mr, .string s.wh.nm] 40) := ⟨_, rfl⟩
  have HG : Hid (w.grownBy V none) := by rw [hV]; exact grown_push (World.grownBy_alloc _ _ none) _
  have HS : Hid (SdB V (w.heap.size + 1) s) := by rw [hV]; exact alloc2_b _ _ _ _
  have HC : Hid (ScnB V w.heap.size bv vt (.slice pf F.length cf) vl) := by rw [hV]; exact grown_keep (World.grownBy_alloc _ _ none) (alloc_at w _ _) (by simp)
  have z1 : ((z : Int)) < (F.length : Int) := Int.ofNat_lt.2 hzf
  have wz : wrap64 (z : Int) = (z : Int) := by unfold wrap64; omega
  have wz2 : IntKind.i64.wrap (z : Int) = (z : Int) := by rw [IntWalk.i64_in _ (by omega)]
  obtain ⟨gF, oF, cF, eF, -⟩ := fe_there AF hzf
  injection eF with eF eF2 eF3
  clear eF2 eF3
  subst eF
  obtain ⟨g0, -⟩ := fe_cells (rec_feV (AF.keep HG.out) hf)
  obtain ⟨s0, -⟩ := sd_box HS.out
  obtain ⟨-, -, c2, -⟩ := scn_box HC.out
  rw [hz] at s0
  have Hz : Hid (s.th = (z : Int) + 1) := hz
  unfold scnv sdv
  clear AF hf hl hzf hz
  go_enter Tryz.func212, Tryz.ntmps212
  go_upto_region 1 with fail
  rw [← hV]
  clear hV
  go_wp2
  go_ret
  exact ⟨rfl, HG.out⟩
set_option maxRecDepth 100000 in
set_option maxHeartbeats 4000000 in
theorem sshields_any (bv vt vf vl : Value) (ts : List Th) (j : Nat) (t : Th) (w : World) (A : thR.At w vt ts) (ht : ts[j]? = some t) (hl : ts.length ≤ 2048) : Calls Tryz.prog 134 #[scnv bv vt vf vl, .int .i64 ((j : Int) + 1)] w fun e w' => e = .returned (.int .i64 t.m2) ∧ w.grownBy w' none := by
  obtain ⟨pt, ct, rfl⟩ := A.form
  have hjl : j < ts.length := (List.getElem?_eq_some_iff.1 ht).1
  obtain ⟨V, hV⟩ : ∃ V, V = w.alloc (.cells #[bv, .slice pt ts.length ct, vf, vl] 136) := ⟨_, rfl⟩
  have HG : Hid (w.grownBy V none) := by rw [hV]; exact World.grownBy_alloc _ _ none
  have HC : Hid (ScnB V w.heap.size bv (.slice pt ts.length ct) vf vl) := by rw [hV]; exact alloc_at w _ _
  have z1 : ((j : Int)) < (ts.length : Int) := Int.ofNat_lt.2 hjl
  have wz : wrap64 (j : Int) = (j : Int) := by unfold wrap64; omega
  have wz2 : IntKind.i64.wrap (j : Int) = (j : Int) := by rw [IntWalk.i64_in _ (by omega)]
  obtain ⟨gT, oT, cT, eT, -⟩ := th_there A hjl
  injection eT with eT eT2 eT3
  clear eT2 eT3
  subst eT
  obtain ⟨-, -, -, -, -, -, -, t7, -⟩ := th_cells (rec_thV (A.keep HG.out) ht)
  obtain ⟨-, c1, -, -⟩ := scn_box HC.out
  unfold scnv
  clear A ht hl hjl
  go_enter Tryz.func134, Tryz.ntmps134
  go_upto_region 1 with fail
  rw [← hV]
  clear hV
  go_wp2
  go_ret
  exact ⟨rfl, HG.out⟩
end Go.Proofs.YthfjgpjcepmnmaaGreat
