/-
  What a book is filled with, read as data: cards, texts, marks; lists of numbers.
-/
import Derived.Test.YtmepidalecdmkaaOpenC
import Derived.Test.YtmepidalecdmkaaAdded
import Derived.ChangeSlices
namespace Go.Proofs.Ytmepidalecdmkaa
open Go.ChangeShapes Go.WideShapes Go.ChangeAt Go.RowKit Go.Deep

theorem Try.cells52'' : Try.prog.cellsOf 52 = 4 := by kernel_rfl
theorem Try.cells50'' : Try.prog.cellsOf 50 = 1 := by kernel_rfl
/-- The four cells of a mark, read as data. -/
theorem mark_cells {H : Type} {enc : TypeId × Value → H} {w : World} {base : Nat} {sp : Nat → Bool} {held : Bool} {fuel : Nat} {l : List Value} {x : DataW H × List MemPlace} (hsz : l.length = 4) (hf : DataW.trod enc Try.prog w base sp held fuel 52 l = some x) : ∃ m : Mk, l = mvs m ∧ (0 ≤ m.mi ∧ m.mi ≤ 255) := by
  obtain ⟨c0, c1, c2, c3, rfl⟩ : ∃ c0 c1 c2 c3, l = [c0, c1, c2, c3] := by
    match l, hsz with
    | [c0, c1, c2, c3], _ => exact ⟨c0, c1, c2, c3, rfl⟩
  obtain ⟨xs, n, _, hx, _, hlen, hfl⟩ := DataW.trod_struct Try.underlying52 hf
  match xs, hlen with
  | [y0, y1, y2, y3], _ =>
    have t0 : DataW.trod enc Try.prog w base sp held n 50 (([c0, c1, c2, c3].drop 0).take (Try.prog.cellsOf 50)) = some y0 := hfl 0 _ rfl
    have t1 : DataW.trod enc Try.prog w base sp held n 9 (([c0, c1, c2, c3].drop 1).take (Try.prog.cellsOf 9)) = some y1 := hfl 1 _ rfl
    have t2 : DataW.trod enc Try.prog w base sp held n 3 (([c0, c1, c2, c3].drop 2).take (Try.prog.cellsOf 3)) = some y2 := hfl 2 _ rfl
    have t3 : DataW.trod enc Try.prog w base sp held n 3 (([c0, c1, c2, c3].drop 3).take (Try.prog.cellsOf 3)) = some y3 := hfl 3 _ rfl
    rw [Try.cells50''] at t0
    rw [Try.cells9'] at t1
    rw [Try.cells3'] at t2 t3
    obtain ⟨z0, e0, _, w0⟩ := DataW.trod_int Try.underlying50 (cs := [c0]) t0
    obtain ⟨z1, e1, _, _⟩ := DataW.trod_string Try.underlying9 (cs := [c1]) t1
    obtain ⟨z2, e2, _, _⟩ := DataW.trod_int Try.underlying3 (cs := [c2]) t2
    obtain ⟨z3, e3, _, _⟩ := DataW.trod_int Try.underlying3 (cs := [c3]) t3
    simp only [List.cons.injEq, and_true] at e0 e1 e2 e3
    subst e0 e1 e2 e3
    exact ⟨⟨z0, z1, z2, z3⟩, rfl, by have h0 := w0; simp [Lit.wf, IntKind.min, IntKind.max, IntKind.signed, IntKind.bits] at h0; omega⟩
theorem weights_in {H : Type} {P : Program} {e : TypeId} {n : Nat} : ∀ {l : List (DataW H)} {d : DataW H}, d ∈ l → n ∈ d.weights P e → n ∈ DataW.weightsAll P e l
  | x :: r, d, hd, hn => by
    simp only [DataW.weightsAll, List.mem_append]
    rcases List.mem_cons.1 hd with rfl | hd
    · exact Or.inl hn
    · exact Or.inr (weights_in hd hn)
set_option maxRecDepth 100000 in
/-- A list of cards, read as data. -/
theorem cards_open {H : Type} {enc : TypeId × Value → H} {w : World} {base : Nat} {sp : Nat → Bool} {held : Bool} {fuel : Nat} {v : Value} {x : DataW H × List MemPlace}
    (h : DataW.trod enc Try.prog w base sp held fuel 22 [v] = some x) (hz : ∀ n ∈ x.1.weights Try.prog 22, n ≤ reachBytes) : ∃ cs : List Ent, (∃ a k, v = .slice a cs.length k ∧ (0 < cs.length → ∃ g o, a = some ⟨g, o, none⟩ ∧ EsAt w g o cs)) ∧ ∀ e ∈ cs, PsAt w e.v e.ps ∧ Small e.ps.length := by
  rcases open_slice Try.underlying22 h with ⟨hcs, _⟩ | ⟨a, len, cp, m, f, D, Pl, hcs, _, hl, hm, hmm, hxx, hx⟩
  · simp at hcs
    subst hcs
    exact ⟨[], ⟨none, 0, rfl, fun h0 => by simp at h0⟩, by simp⟩
  · simp at hcs
    subst hcs
    rw [Try.cells44'] at hx
    have hnm : len ≤ m := by rw [hmm]; split <;> omega
    have hp : ∀ i, i < len → ∃ e : Ent, (PsAt w e.v e.ps ∧ Small e.ps.length) ∧ ∀ k u, (cvs e.h e.v)[k]? = some u → w.cell? ((a.add (i * 9)).add k) = some u := fun i hi => by
      obtain ⟨cs', h1, h2⟩ := hx i (by omega)
      obtain ⟨_, hlen, hc⟩ := World.cells?_some h1
      obtain ⟨hd, u, ps, e, p1, p2, _⟩ := card_cells hlen h2 (fun n hn => hz n (by
        rw [hxx]
        simp only [DataW.weights, Try.underlying22]
        exact List.mem_cons_of_mem _ (List.mem_append_left _ (weights_in (List.mem_map.2 ⟨i, List.mem_range.2 hi, rfl⟩) hn))))
      subst e
      refine ⟨⟨hd, u, ps⟩, ⟨p1, p2.small⟩, fun k y hk => ?_⟩
      have hk9 : k < 9 := (List.getElem?_eq_some_iff.1 hk).1
      rw [hc k hk9]
      exact hk
    haveI : Inhabited Ent := ⟨⟨Hd.none, .bool false, []⟩⟩
    obtain ⟨F, hF⟩ := choose_lt (α := Ent) hp
    refine ⟨(List.range len).map F, ⟨some a, cp, by simp, fun h0 => ?_⟩, ?_⟩
    · have h0' : 0 < len := by simpa using h0
      have c0 := (hF 0 h0').2 0 _ rfl
      have ex : (a.add (0 * 9)).add 0 = a := by simp [Addr.add]
      rw [ex] at c0
      have pl := addr_plain c0
      refine ⟨a.block, a.off, by rw [← pl], fun j e he => ?_⟩
      have hj : j < len := by have := (List.getElem?_eq_some_iff.1 he).1; simpa using this
      obtain rfl : e = F j := by simp [hj] at he; exact he.symm
      have at_ : ∀ k u, (cvs (F j).h (F j).v)[k]? = some u → w.cell? ⟨a.block, a.off + j * 9 + k, none⟩ = some u := fun k u hk => by
        have := (hF j hj).2 k u hk
        rw [add_add pl, pl, add_plain, ← Nat.add_assoc] at this
        exact this
      exact ⟨at_ 0 _ rfl, at_ 1 _ rfl, at_ 2 _ rfl, at_ 3 _ rfl, at_ 4 _ rfl, at_ 5 _ rfl, at_ 6 _ rfl, at_ 7 _ rfl, at_ 8 _ rfl⟩
    · intro e he
      obtain ⟨i, hi, rfl⟩ := List.mem_map.1 he
      exact (hF i (List.mem_range.1 hi)).1
set_option maxRecDepth 100000 in
/-- A list of marks, read as data. -/
theorem marks_open {H : Type} {enc : TypeId × Value → H} {w : World} {base : Nat} {sp : Nat → Bool} {held : Bool} {fuel : Nat} {v : Value} {x : DataW H × List MemPlace}
    (h : DataW.trod enc Try.prog w base sp held fuel 24 [v] = some x) : ∃ ms : List Mk, (∃ a k, v = .slice a ms.length k ∧ (0 < ms.length → ∃ g o, a = some ⟨g, o, none⟩ ∧ MAt w g o ms)) := by
  rcases open_slice Try.underlying24 h with ⟨hcs, _⟩ | ⟨a, len, cp, m, f, D, Pl, hcs, _, hl, hm, hmm, hxx, hx⟩
  · simp at hcs
    subst hcs
    exact ⟨[], none, 0, rfl, fun h0 => by simp at h0⟩
  · simp at hcs
    subst hcs
    rw [Try.cells52''] at hx
    have hnm : len ≤ m := by rw [hmm]; split <;> omega
    have hp : ∀ i, i < len → ∃ e : Mk, ∀ k u, (mvs e)[k]? = some u → w.cell? ((a.add (i * 4)).add k) = some u := fun i hi => by
      obtain ⟨cs', h1, h2⟩ := hx i (by omega)
      obtain ⟨_, hlen, hc⟩ := World.cells?_some h1
      obtain ⟨e, he, _⟩ := mark_cells hlen h2
      subst he
      refine ⟨e, fun k y hk => ?_⟩
      have hk4 : k < 4 := (List.getElem?_eq_some_iff.1 hk).1
      rw [hc k hk4]
      exact hk
    haveI : Inhabited Mk := ⟨Mk.none⟩
    obtain ⟨F, hF⟩ := choose_lt (α := Mk) hp
    refine ⟨(List.range len).map F, some a, cp, by simp, fun h0 => ?_⟩
    have h0' : 0 < len := by simpa using h0
    have c0 := (hF 0 h0') 0 _ rfl
    have ex : (a.add (0 * 4)).add 0 = a := by simp [Addr.add]
    rw [ex] at c0
    have pl := addr_plain c0
    refine ⟨a.block, a.off, by rw [← pl], fun j e he => ?_⟩
    have hj : j < len := by have := (List.getElem?_eq_some_iff.1 he).1; simpa using this
    obtain rfl : e = F j := by simp [hj] at he; exact he.symm
    have at_ : ∀ k u, (mvs (F j))[k]? = some u → w.cell? ⟨a.block, a.off + j * 4 + k, none⟩ = some u := fun k u hk => by
      have := hF j hj k u hk
      rw [add_add pl, pl, add_plain, ← Nat.add_assoc] at this
      exact this
    exact ⟨at_ 0 _ rfl, at_ 1 _ rfl, at_ 2 _ rfl, at_ 3 _ rfl⟩
set_option maxRecDepth 100000 in
/-- A list of texts, read as data. -/
theorem texts_open {H : Type} {enc : TypeId × Value → H} {w : World} {base : Nat} {sp : Nat → Bool} {held : Bool} {fuel : Nat} {v : Value} {x : DataW H × List MemPlace}
    (h : DataW.trod enc Try.prog w base sp held fuel 23 [v] = some x) : ∃ ts : List ByteArray, (∃ a k, v = .slice a ts.length k ∧ (0 < ts.length → ∃ g o, a = some ⟨g, o, none⟩ ∧ StrAt w g o ts)) := by
  rcases open_slice1 Try.underlying23 Try.cells9' h with ⟨hcs, _⟩ | ⟨a, len, cp, m, f, V, D, Pl, hcs, _, hl, hm, hmm, hxx, hx⟩
  · simp at hcs
    subst hcs
    exact ⟨[], none, 0, rfl, fun h0 => by simp at h0⟩
  · simp at hcs
    subst hcs
    have hnm : len ≤ m := by rw [hmm]; split <;> omega
    have hp : ∀ i, i < len → ∃ s : ByteArray, w.cell? (a.add i) = some (.string s) := fun i hi => by
      obtain ⟨h1, h2⟩ := hx i (by omega)
      obtain ⟨z, e, _, _⟩ := DataW.trod_string Try.underlying9 h2
      simp only [List.cons.injEq, and_true] at e
      exact ⟨z, by rw [h1, e]⟩
    haveI : Inhabited ByteArray := ⟨⟨#[]⟩⟩
    obtain ⟨F, hF⟩ := choose_lt (α := ByteArray) hp
    refine ⟨(List.range len).map F, some a, cp, by simp, fun h0 => ?_⟩
    have h0' : 0 < len := by simpa using h0
    have c0 := hF 0 h0'
    have ex : a.add 0 = a := by simp [Addr.add]
    rw [ex] at c0
    have pl := addr_plain c0
    refine ⟨a.block, a.off, by rw [← pl], fun j e he => ?_⟩
    have hj : j < len := by have := (List.getElem?_eq_some_iff.1 he).1; simpa using this
    obtain rfl : e = F j := by simp [hj] at he; exact he.symm
    have := hF j hj
    rw [pl, add_plain] at this
    exact this
set_option maxRecDepth 100000 in
/-- A list of numbers, read as data. -/
theorem nums_open {H : Type} {enc : TypeId × Value → H} {w : World} {base : Nat} {sp : Nat → Bool} {held : Bool} {fuel : Nat} {v : Value} {x : DataW H × List MemPlace}
    (h : DataW.trod enc Try.prog w base sp held fuel 27 [v] = some x) : ∃ os : List Int, IntsIn w v os := by
  rcases open_slice1 Try.underlying27 Try.cells3' h with ⟨hcs, _⟩ | ⟨a, len, cp, m, f, V, D, Pl, hcs, _, hl, hm, hmm, hxx, hx⟩
  · simp at hcs
    subst hcs
    exact ⟨[], none, 0, rfl, fun h0 => by simp at h0⟩
  · simp at hcs
    subst hcs
    have hnm : len ≤ m := by rw [hmm]; split <;> omega
    have hp : ∀ i, i < len → ∃ s : Int, w.cell? (a.add i) = some (.int .i64 s) := fun i hi => by
      obtain ⟨h1, h2⟩ := hx i (by omega)
      obtain ⟨z, e, _, _⟩ := DataW.trod_int Try.underlying3 h2
      simp only [List.cons.injEq, and_true] at e
      exact ⟨z, by rw [h1, e]⟩
    obtain ⟨F, hF⟩ := choose_lt (α := Int) hp
    refine ⟨(List.range len).map F, some a, cp, by simp, fun h0 => ?_⟩
    have h0' : 0 < len := by simpa using h0
    have c0 := hF 0 h0'
    have ex : a.add 0 = a := by simp [Addr.add]
    rw [ex] at c0
    have pl := addr_plain c0
    refine ⟨a.block, a.off, by rw [← pl], fun j e he => ?_⟩
    have hj : j < len := by have := (List.getElem?_eq_some_iff.1 he).1; simpa using this
    obtain rfl : e = F j := by simp [hj] at he; exact he.symm
    have := hF j hj
    rw [pl, add_plain] at this
    exact this
theorem cellsOfFill : Try.prog.cellsOf 26 = 3 := by kernel_rfl
theorem Try.cells22'' : Try.prog.cellsOf 22 = 1 := by kernel_rfl
theorem Try.cells23'' : Try.prog.cellsOf 23 = 1 := by kernel_rfl
theorem Try.cells24'' : Try.prog.cellsOf 24 = 1 := by kernel_rfl
set_option maxRecDepth 100000 in
/-- What a book is filled with, read as data. -/
theorem open_fill {H : Type} {enc : TypeId × Value → H} {w : World} {base : Nat} {sp : Nat → Bool} {held : Bool} {r : Reach} {b0 : Nat} {v : Value} {d : DataW H} {pl : List MemPlace} (hval : Value.okWide Try.prog w r b0 26 v) (hd : DataW.Trod enc Try.prog w base sp held 26 v d pl) (hz : ∀ n ∈ d.weights Try.prog 26, n ≤ reachBytes) : ∃ (vc vt vm : Value) (cs : List Ent) (ts : List ByteArray) (ms : List Mk), v = fv vc vt vm ∧ FillAt w vc vt vm cs ts ms := by
  obtain ⟨cs, rfl, hsz⟩ := okWide_struct Try.underlying26 hval
  rw [cellsOfFill] at hsz
  obtain ⟨fuel, hf⟩ := hd
  obtain ⟨l⟩ := cs
  obtain ⟨c0, c1, c2, rfl⟩ : ∃ c0 c1 c2, l = [c0, c1, c2] := by
    match l, (show l.length = 3 from hsz) with
    | [c0, c1, c2], _ => exact ⟨c0, c1, c2, rfl⟩
  obtain ⟨xs, n, _, hx, _, hlen, hfl⟩ := DataW.trod_struct Try.underlying26 hf
  match xs, hlen with
  | [y0, y1, y2], _ =>
    have t0 : DataW.trod enc Try.prog w base sp held n 22 (([c0, c1, c2].drop 0).take (Try.prog.cellsOf 22)) = some y0 := hfl 0 _ rfl
    have t1 : DataW.trod enc Try.prog w base sp held n 23 (([c0, c1, c2].drop 1).take (Try.prog.cellsOf 23)) = some y1 := hfl 1 _ rfl
    have t2 : DataW.trod enc Try.prog w base sp held n 24 (([c0, c1, c2].drop 2).take (Try.prog.cellsOf 24)) = some y2 := hfl 2 _ rfl
    rw [Try.cells22''] at t0
    rw [Try.cells23''] at t1
    rw [Try.cells24''] at t2
    obtain ⟨cs, hC, hP⟩ := cards_open (v := c0) t0 (fun n hn => hz n (by
      rw [(Prod.mk.inj hx).1]
      simp only [DataW.weights, Try.underlying26]
      exact DataW.weights_mem_each (j := 0) rfl rfl n hn))
    obtain ⟨ts, hT⟩ := texts_open (v := c1) t1
    obtain ⟨ms, hM⟩ := marks_open (v := c2) t2
    exact ⟨c0, c1, c2, cs, ts, ms, rfl, hC, hT, hM, hP⟩
end Go.Proofs.Ytmepidalecdmkaa
