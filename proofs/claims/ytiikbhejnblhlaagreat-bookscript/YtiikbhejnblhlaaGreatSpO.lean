/-
  A list of acts that was handed in, read as data.
-/
import Derived.Test.YtiikbhejnblhlaaGreatOpenC
import Derived.Test.YtiikbhejnblhlaaGreatSpA
import Derived.ChangeSlices
namespace Go.Proofs.YtiikbhejnblhlaaGreat
open Go.ChangeShapes Go.WideShapes Go.ChangeAt Go.RowKit Go.Deep

theorem u8_of {n : Int} (h : (Lit.int .u8 n).wf = true) : 0 ≤ n ∧ n ≤ 255 := by
  simp [Lit.wf, IntKind.min, IntKind.max, IntKind.signed, IntKind.bits] at h
  omega
theorem u16_of {n : Int} (h : (Lit.int .u16 n).wf = true) : 0 ≤ n ∧ n ≤ 65535 := by
  simp [Lit.wf, IntKind.min, IntKind.max, IntKind.signed, IntKind.bits] at h
  omega
theorem i64_of {n : Int} (h : (Lit.int .i64 n).wf = true) : -9223372036854775808 ≤ n ∧ n ≤ 9223372036854775807 := by
  have h1 : IntKind.i64.min = -9223372036854775808 := rfl
  have h2 : IntKind.i64.max = 9223372036854775807 := rfl
  simp [Lit.wf, h1, h2] at h
  omega
theorem wf_of {h : Hd} {ps : List Pt} (k : Hwf h) (q : ∀ p ∈ ps, Pwf p) : (h.with ps).wf := ⟨u8_of k.su, u8_of k.kd, i64_of k.co, i64_of k.po, i64_of k.he, u16_of k.tr, fun p hp => ⟨u8_of (q p hp).wn, u8_of (q p hp).vb, u8_of (q p hp).wm, i64_of (q p hp).ct, u8_of (q p hp).su, u8_of (q p hp).tr, u8_of (q p hp).mr⟩⟩
theorem Tryz.cells39'' : Tryz.prog.cellsOf 39 = 4 := by kernel_rfl
theorem Tryz.cells37'' : Tryz.prog.cellsOf 37 = 1 := by kernel_rfl
/-- The four cells of a mark, read as data. -/
theorem mark_cells {H : Type} {enc : TypeId × Value → H} {w : World} {base : Nat} {sp : Nat → Bool} {held : Bool} {fuel : Nat} {l : List Value} {x : DataW H × List MemPlace} (hsz : l.length = 4) (hf : DataW.trod enc Tryz.prog w base sp held fuel 39 l = some x) : ∃ m : Mk, l = mvs m ∧ (0 ≤ m.mi ∧ m.mi ≤ 255) := by
  obtain ⟨c0, c1, c2, c3, rfl⟩ : ∃ c0 c1 c2 c3, l = [c0, c1, c2, c3] := by
    match l, hsz with
    | [c0, c1, c2, c3], _ => exact ⟨c0, c1, c2, c3, rfl⟩
  obtain ⟨xs, n, _, hx, _, hlen, hfl⟩ := DataW.trod_struct Tryz.underlying39 hf
  match xs, hlen with
  | [y0, y1, y2, y3], _ =>
    have t0 : DataW.trod enc Tryz.prog w base sp held n 37 (([c0, c1, c2, c3].drop 0).take (Tryz.prog.cellsOf 37)) = some y0 := hfl 0 _ rfl
    have t1 : DataW.trod enc Tryz.prog w base sp held n 9 (([c0, c1, c2, c3].drop 1).take (Tryz.prog.cellsOf 9)) = some y1 := hfl 1 _ rfl
    have t2 : DataW.trod enc Tryz.prog w base sp held n 3 (([c0, c1, c2, c3].drop 2).take (Tryz.prog.cellsOf 3)) = some y2 := hfl 2 _ rfl
    have t3 : DataW.trod enc Tryz.prog w base sp held n 3 (([c0, c1, c2, c3].drop 3).take (Tryz.prog.cellsOf 3)) = some y3 := hfl 3 _ rfl
    rw [Tryz.cells37''] at t0
    rw [Tryz.cells9'] at t1
    rw [Tryz.cells3'] at t2 t3
    obtain ⟨z0, e0, _, w0⟩ := DataW.trod_int Tryz.underlying37 (cs := [c0]) t0
    obtain ⟨z1, e1, _, _⟩ := DataW.trod_string Tryz.underlying9 (cs := [c1]) t1
    obtain ⟨z2, e2, _, _⟩ := DataW.trod_int Tryz.underlying3 (cs := [c2]) t2
    obtain ⟨z3, e3, _, _⟩ := DataW.trod_int Tryz.underlying3 (cs := [c3]) t3
    simp only [List.cons.injEq, and_true] at e0 e1 e2 e3
    subst e0 e1 e2 e3
    exact ⟨⟨z0, z1, z2, z3⟩, rfl, by have h0 := w0; simp [Lit.wf, IntKind.min, IntKind.max, IntKind.signed, IntKind.bits] at h0; omega⟩
theorem weights_in {H : Type} {P : Program} {e : TypeId} {n : Nat} : ∀ {l : List (DataW H)} {d : DataW H}, d ∈ l → n ∈ d.weights P e → n ∈ DataW.weightsAll P e l
  | x :: r, d, hd, hn => by
    simp only [DataW.weightsAll, List.mem_append]
    rcases List.mem_cons.1 hd with rfl | hd
    · exact Or.inl hn
    · exact Or.inr (weights_in hd hn)
theorem cellsOfAct : Tryz.prog.cellsOf 41 = 18 := by kernel_rfl
theorem cellsOf5 : Tryz.prog.cellsOf 5 = 1 := by kernel_rfl
theorem eighteen {α : Type} {X : List α} (h : X.length = 18) : ∃ a b c d e f g i j k l m n o p q r s, X = [a, b, c, d, e, f, g, i, j, k, l, m, n, o, p, q, r, s] := by
  match X, h with
  | [a, b, c, d, e, f, g, i, j, k, l, m, n, o, p, q, r, s], _ => exact ⟨a, b, c, d, e, f, g, i, j, k, l, m, n, o, p, q, r, s, rfl⟩
set_option maxRecDepth 100000 in
/-- The eighteen cells of an act, read as data. -/
theorem act_cells {H : Type} {enc : TypeId × Value → H} {w : World} {base : Nat} {sp : Nat → Bool} {held : Bool} {fuel : Nat} {l : List Value} {x : DataW H × List MemPlace} (hsz : l.length = 18) (hf : DataW.trod enc Tryz.prog w base sp held fuel 41 l = some x) (hz : ∀ n ∈ x.1.weights Tryz.prog 41, n ≤ reachBytes) : ∃ d : Dn × List Pt, l = (dcs d.1).toList ∧ PsAt w d.1.v d.2 ∧ Fits d.2.length ∧ (d.1.h.with d.2).wf ∧ (0 ≤ d.1.t ∧ d.1.t ≤ 255) ∧ (0 ≤ d.1.m.mi ∧ d.1.m.mi ≤ 255) := by
  obtain ⟨c0, c1, c2, c3, c4, c5, c6, c7, c8, c9, c10, c11, c12, c13, c14, c15, c16, c17, rfl⟩ := eighteen hsz
  obtain ⟨xs, n, _, hx, _, hlen, hfl⟩ := DataW.trod_struct Tryz.underlying41 hf
  match xs, hlen with
  | [y0, y1, y2, y3, y4, y5, y6], _ =>
    have t0 : DataW.trod enc Tryz.prog w base sp held n 3 (([c0, c1, c2, c3, c4, c5, c6, c7, c8, c9, c10, c11, c12, c13, c14, c15, c16, c17].drop 0).take (Tryz.prog.cellsOf 3)) = some y0 := hfl 0 _ rfl
    have t1 : DataW.trod enc Tryz.prog w base sp held n 3 (([c0, c1, c2, c3, c4, c5, c6, c7, c8, c9, c10, c11, c12, c13, c14, c15, c16, c17].drop 1).take (Tryz.prog.cellsOf 3)) = some y1 := hfl 1 _ rfl
    have t2 : DataW.trod enc Tryz.prog w base sp held n 36 (([c0, c1, c2, c3, c4, c5, c6, c7, c8, c9, c10, c11, c12, c13, c14, c15, c16, c17].drop 2).take (Tryz.prog.cellsOf 36)) = some y2 := hfl 2 _ rfl
    have t3 : DataW.trod enc Tryz.prog w base sp held n 5 (([c0, c1, c2, c3, c4, c5, c6, c7, c8, c9, c10, c11, c12, c13, c14, c15, c16, c17].drop 11).take (Tryz.prog.cellsOf 5)) = some y3 := hfl 3 _ rfl
    have t4 : DataW.trod enc Tryz.prog w base sp held n 9 (([c0, c1, c2, c3, c4, c5, c6, c7, c8, c9, c10, c11, c12, c13, c14, c15, c16, c17].drop 12).take (Tryz.prog.cellsOf 9)) = some y4 := hfl 4 _ rfl
    have t5 : DataW.trod enc Tryz.prog w base sp held n 39 (([c0, c1, c2, c3, c4, c5, c6, c7, c8, c9, c10, c11, c12, c13, c14, c15, c16, c17].drop 13).take (Tryz.prog.cellsOf 39)) = some y5 := hfl 5 _ rfl
    have t6 : DataW.trod enc Tryz.prog w base sp held n 3 (([c0, c1, c2, c3, c4, c5, c6, c7, c8, c9, c10, c11, c12, c13, c14, c15, c16, c17].drop 17).take (Tryz.prog.cellsOf 3)) = some y6 := hfl 6 _ rfl
    rw [cellsOf3] at t0 t1 t6
    rw [Tryz.cells36'] at t2
    rw [cellsOf5] at t3
    rw [cellsOf9] at t4
    rw [cellsOfMI] at t5
    obtain ⟨z0, e0, _, _⟩ := DataW.trod_int Tryz.underlying3 (cs := [c0]) t0
    obtain ⟨z1, e1, _, _⟩ := DataW.trod_int Tryz.underlying3 (cs := [c1]) t1
    obtain ⟨z3, e3, _, w3⟩ := DataW.trod_int Tryz.underlying5 (cs := [c11]) t3
    obtain ⟨z4, e4, _, _⟩ := DataW.trod_string Tryz.underlying9 (cs := [c12]) t4
    obtain ⟨z6, e6, _, _⟩ := DataW.trod_int Tryz.underlying3 (cs := [c17]) t6
    obtain ⟨h, u, ps, e2, hp, hfi, hwf, hpw⟩ := card_cells (l := [c2, c3, c4, c5, c6, c7, c8, c9, c10]) rfl t2 (fun n hn => hz n (by
      rw [hx]
      simp only [DataW.weights, Tryz.underlying41]
      exact DataW.weights_mem_each (j := 2) rfl rfl n hn))
    obtain ⟨m, e5, hmi⟩ := mark_cells (l := [c13, c14, c15, c16]) rfl t5
    simp only [List.cons.injEq, and_true] at e0 e1 e3 e4 e6
    simp only [cvs, mvs, List.cons.injEq, and_true] at e2 e5
    obtain ⟨q0, q1, q2, q3, q4, q5, q6, q7, q8⟩ := e2
    obtain ⟨r0, r1, r2, r3⟩ := e5
    subst e0 e1 e3 e4 e6 q0 q1 q2 q3 q4 q5 q6 q7 q8 r0 r1 r2 r3
    exact ⟨(⟨z0, z1, h, _, z3, z4, m, z6⟩, ps), rfl, hp, hfi, wf_of hwf hpw, u8_of w3, hmi⟩
set_option maxRecDepth 100000 in
/-- A list of acts, read as data. -/
theorem acts_open {H : Type} {enc : TypeId × Value → H} {w : World} {base : Nat} {sp : Nat → Bool} {held : Bool} {fuel : Nat} {v : Value} {x : DataW H × List MemPlace}
    (h : DataW.trod enc Tryz.prog w base sp held fuel 22 [v] = some x) (hz : ∀ n ∈ x.1.weights Tryz.prog 22, n ≤ reachBytes) : ∃ ds : List (Dn × List Pt), ActsIn w v ds := by
  rcases open_slice Tryz.underlying22 h with ⟨hcs, _⟩ | ⟨a, len, cp, m, f, D, Pl, hcs, _, hl, hm, hmm, hxx, hx⟩
  · simp at hcs
    subst hcs
    exact ⟨[], ⟨none, 0, rfl, fun h0 => by simp at h0⟩, by simp⟩
  · simp at hcs
    subst hcs
    rw [cellsOfAct] at hx
    have hnm : len ≤ m := by rw [hmm]; split <;> omega
    have hp : ∀ i, i < len → ∃ d : Dn × List Pt, (PsAt w d.1.v d.2 ∧ Fits d.2.length ∧ (d.1.h.with d.2).wf ∧ (0 ≤ d.1.t ∧ d.1.t ≤ 255) ∧ (0 ≤ d.1.m.mi ∧ d.1.m.mi ≤ 255)) ∧ ∀ k u, (dcs d.1).toList[k]? = some u → w.cell? ((a.add (i * 18)).add k) = some u := fun i hi => by
      obtain ⟨cs', h1, h2⟩ := hx i (by omega)
      obtain ⟨_, hlen, hc⟩ := World.cells?_some h1
      obtain ⟨d, e, p1⟩ := act_cells hlen h2 (fun n hn => hz n (by
        rw [hxx]
        simp only [DataW.weights, Tryz.underlying22]
        exact List.mem_cons_of_mem _ (List.mem_append_left _ (weights_in (List.mem_map.2 ⟨i, List.mem_range.2 hi, rfl⟩) hn))))
      subst e
      refine ⟨d, p1, fun k y hk => ?_⟩
      have hk9 : k < 18 := (List.getElem?_eq_some_iff.1 hk).1
      rw [hc k hk9]
      exact hk
    haveI : Inhabited (Dn × List Pt) := ⟨(⟨0, 0, Hd.none, .bool false, 0, ⟨#[]⟩, Mk.none, 0⟩, [])⟩
    obtain ⟨F, hF⟩ := choose_lt (α := Dn × List Pt) hp
    refine ⟨(List.range len).map F, ⟨some a, cp, by simp, fun h0 => ?_⟩, ?_⟩
    · have h0' : 0 < len := by simpa using h0
      have c0 := (hF 0 h0').2 0 _ rfl
      have ex : (a.add (0 * 18)).add 0 = a := by simp [Addr.add]
      rw [ex] at c0
      have pl := addr_plain c0
      refine ⟨a.block, a.off, by rw [← pl], fun j e he k u hk => ?_⟩
      have hj : j < len := by have := (List.getElem?_eq_some_iff.1 he).1; simpa using this
      obtain rfl : e = F j := by simp [hj] at he; exact he.symm
      have := (hF j hj).2 k u hk
      rw [add_add pl, pl, add_plain, ← Nat.add_assoc] at this
      exact this
    · intro d hd
      obtain ⟨i, hi, rfl⟩ := List.mem_map.1 hd
      obtain ⟨p1, p2, p3, p4, p5⟩ := (hF i (List.mem_range.1 hi)).1
      exact ⟨(show PsOk (fun _ => True) w _ _ from ⟨p1, fun _ _ _ _ _ _ => trivial⟩).old.mono fun k hk => hk.2, p2, p3, p4, p5⟩
end Go.Proofs.YtiikbhejnblhlaaGreat
