/-
  GoldLists, walked: what is told, held against what the document tells; lists of cards apart.
-/
import Derived.Test.YtpoicbefemjckaaApartC
import Derived.Test.YtpoicbefemjckaaApartT
import Derived.Test.YtpoicbefemjckaaGdR
import Derived.Test.YtpoicbefemjckaaSaL
import Derived.Test.YtpoicbefemjckaaSameC
namespace Go.Proofs.Ytpoicbefemjckaa
open Go.RowKit

theorem Own8.kpt {base : Nat} {w w' : World} {v : Value} {ps : List Pt} {S : List Nat} (h : Own8 base w v ps) (k : Kpt S w w') (hS : ∀ x, x ∈ S → x < base) : Own8 base w' v ps := by
  rcases h with h | ⟨b, e, h, hb⟩
  · exact Or.inl h
  · exact Or.inr ⟨b, e, k.keep h (fun hm => by have := hS b hm; omega), hb⟩
theorem filterMap_inj {α : Type} {f : α → Option Nat} : ∀ {l : List α}, (l.filterMap f).Nodup → ∀ {i j : Nat} {x y : α} {g : Nat}, l[i]? = some x → l[j]? = some y → f x = some g → f y = some g → i = j
  | [], _, i, j, x, y, g, hi, _, _, _ => by simp at hi
  | a :: r, h, i, j, x, y, g, hi, hj, hx, hy => by
    have hr : (r.filterMap f).Nodup := by
      cases ha : f a with
      | none => simpa [List.filterMap_cons, ha] using h
      | some b => simp only [List.filterMap_cons, ha, List.nodup_cons] at h; exact h.2
    have hno : ∀ {k : Nat} {z : α}, r[k]? = some z → f z = some g → f a = some g → False := fun {k z} hk hz ha => by
      simp only [List.filterMap_cons, ha, List.nodup_cons] at h
      exact h.1 (List.mem_filterMap.2 ⟨z, List.mem_of_getElem? hk, hz⟩)
    cases i with
    | zero =>
      cases j with
      | zero => rfl
      | succ j =>
        obtain rfl : a = x := by simpa using hi
        exact absurd (hno (by simpa using hj) hy hx) id
    | succ i =>
      cases j with
      | zero =>
        obtain rfl : a = y := by simpa using hj
        exact absurd (hno (by simpa using hi) hx hy) id
      | succ j => rw [filterMap_inj hr (i := i) (j := j) (x := x) (y := y) (by simpa using hi) (by simpa using hj) hx hy]
theorem diff_of {es : List Ent} (h : (es.filterMap fun e => e.v.ownBlock).Nodup) : Diff (es.map lstOf) := fun i j x y g hi hj hx hy => by
  rw [List.getElem?_map] at hi hj
  cases hi' : es[i]? with
  | none => rw [hi'] at hi; cases hi
  | some a =>
    cases hj' : es[j]? with
    | none => rw [hj'] at hj; cases hj
    | some b =>
      rw [hi'] at hi
      rw [hj'] at hj
      obtain rfl : lstOf a = x := Option.some.inj hi
      obtain rfl : lstOf b = y := Option.some.inj hj
      exact filterMap_inj h hi' hj' hx hy
theorem blocks_mem {es : List Ent} {b : Nat} (h : b ∈ blocks (es.map lstOf)) : ∃ e ∈ es, e.v.ownBlock = some b := by
  obtain ⟨y, hy, hb⟩ := List.mem_filterMap.1 h
  obtain ⟨e, he, rfl⟩ := List.mem_map.1 hy
  exact ⟨e, he, hb⟩
def TB (w : World) (t : Nat) : Prop := w.heap[t]? = some (.cells tCells 52 (0, 0))
def MB (w : World) (t : Nat) : Prop := w.heap[t]? = some (.cells mCells 56 (0, 0))
theorem TB.keep {w w' : World} {t : Nat} (h : TB w t) (g : w.grownBy w' none) : TB w' t := grown_keep g h (by simp)
theorem MB.keep {w w' : World} {t : Nat} (h : MB w t) (g : w.grownBy w' none) : MB w' t := grown_keep g h (by simp)
theorem st_gd (t t' : Nat) (w : World) (h : TB w t) (h' : TB w t') : Calls Try.prog 11 #[.slice (some ⟨t, 0, none⟩) 1 1, .slice (some ⟨t', 0, none⟩) 1 1] w fun e w' => e = .returned (.bool true) ∧ w.grownBy w' none :=
  sameTraits_eq t t' 1 1 [7] w (fun j x hx => by
    obtain rfl : j = 0 := by have := (List.getElem?_eq_some_iff.1 hx).1; simp at this; omega
    obtain rfl : (7 : Int) = x := by simpa using hx
    exact block_cell h 0) (fun j x hx => by
    obtain rfl : j = 0 := by have := (List.getElem?_eq_some_iff.1 hx).1; simp at this; omega
    obtain rfl : (7 : Int) = x := by simpa using hx
    exact block_cell h' 0) (by decide)
theorem sm_gd (t t' : Nat) (w : World) (h : MB w t) (h' : MB w t') : Calls Try.prog 13 #[.slice (some ⟨t, 0, none⟩) 1 1, .slice (some ⟨t', 0, none⟩) 1 1] w fun e w' => e = .returned (.bool true) ∧ w.grownBy w' none :=
  sameMarks_eq t t' 1 1 [upM] w (fun j x hx => by
    obtain rfl : j = 0 := by have := (List.getElem?_eq_some_iff.1 hx).1; simp at this; omega
    obtain rfl : upM = x := by simpa using hx
    exact ⟨block_cell h 0, block_cell h 1, block_cell h 2, block_cell h 3⟩) (fun j x hx => by
    obtain rfl : j = 0 := by have := (List.getElem?_eq_some_iff.1 hx).1; simp at this; omega
    obtain rfl : upM = x := by simpa using hx
    exact ⟨block_cell h' 0, block_cell h' 1, block_cell h' 2, block_cell h' 3⟩) (by decide)
theorem sc_gd (g g' : Nat) (es fs : List Ent) (w : World) (hE : w.heap[g]? = some (.cells (ecells es).toArray 47 (0, 0))) (hF : w.heap[g']? = some (.cells (ecells fs).toArray 47 (0, 0))) (hP : ∀ e ∈ es, PsAt w e.v e.ps) (hQ : ∀ e ∈ fs, PsAt w e.v e.ps) (h1 : LIs es 6) (h2 : LIs fs 6) : Calls Try.prog 9 #[.slice (some ⟨g, 0, none⟩) 6 6, .slice (some ⟨g', 0, none⟩) 6 6] w fun e w' => e = .returned (.bool true) ∧ w.grownBy w' none := by
  have h := sameCards_any g g' 6 6 es fs w hE hF hP hQ (fun e he => h1.four he) (by rw [h1.len (Nat.le_refl _)]; decide) (h1.trans h2.symm)
  rw [h1.len (Nat.le_refl _), h2.len (Nat.le_refl _)] at h
  exact h
theorem diff_two {a b : Nat} (h : ¬ a = b) : Diff [⟨some a, 1, 1⟩, ⟨some b, 1, 1⟩] := fun i j x y k hi hj hx hy => by
  rcases i with _ | _ | i
  · rcases j with _ | _ | j
    · rfl
    · obtain rfl : (⟨some a, 1, 1⟩ : Lst) = x := by simpa using hi
      obtain rfl : (⟨some b, 1, 1⟩ : Lst) = y := by simpa using hj
      exact absurd ((Option.some.inj hx).trans (Option.some.inj hy).symm) h
    · simp at hj
  · rcases j with _ | _ | j
    · obtain rfl : (⟨some b, 1, 1⟩ : Lst) = x := by simpa using hi
      obtain rfl : (⟨some a, 1, 1⟩ : Lst) = y := by simpa using hj
      exact absurd ((Option.some.inj hy).trans (Option.some.inj hx).symm) h
    · rfl
    · simp at hj
  · simp at hi
theorem apC_two {w0 V1 V2 V q : _} {g f : Nat} {es fs : List Ent} (A : LAt w0 V1 g es) (B : LAt V1 V2 f fs) (k : V2.grownBy V none) (hQ : V.heap[q]? = some (.cells #[.slice (some ⟨g, 0, none⟩) 6 6, .slice (some ⟨f, 0, none⟩) 6 6] 22 (0, 0))) (hq : V2.heap.size ≤ q) : ApC V q [(g, es), (f, fs)] ∧ ∀ b, b ∈ blocks ((flat [(g, es), (f, fs)]).map lstOf) ++ cblocks [(g, es), (f, fs)] → w0.heap.size ≤ b ∧ b < V2.heap.size := by
  have hLen1 := A.is.len (Nat.le_refl _)
  have hLen2 := B.is.len (Nat.le_refl _)
  have a1 := A.top
  have a2 := A.low
  have b1 := B.top
  have b2 := B.low
  have k1 := B.gr.size
  have pA : ∀ e ∈ es, ∀ b, e.v.ownBlock = some b → w0.heap.size ≤ b ∧ b < V1.heap.size ∧ ¬ b = g := fun e he b hb => by
    have h1 := (A.own.own e he).block b hb
    have h2 := A.other e he b hb
    omega
  have pB : ∀ e ∈ fs, ∀ b, e.v.ownBlock = some b → V1.heap.size ≤ b ∧ b < V2.heap.size ∧ ¬ b = f := fun e he b hb => by
    have h1 := (B.own.own e he).block b hb
    have h2 := B.other e he b hb
    omega
  refine ⟨⟨fun j x hj => ?_, fun x hx => ?_, fun x hx e he => ?_, ?_, ?_, fun x hx => ?_, ⟨by simp, by simp [flat, hLen1, hLen2], fun x hx => ?_⟩, by simp [flat, hLen1, hLen2]⟩, fun b hb => ?_⟩
  · rcases j with _ | _ | j
    · obtain rfl : (g, es) = x := by simpa using hj
      unfold slc
      rw [block_cell hQ, hLen1]
      rfl
    · obtain rfl : (f, fs) = x := by simpa using hj
      unfold slc
      rw [block_cell hQ, hLen2]
      rfl
    · simp at hj
  · simp only [List.mem_cons, List.not_mem_nil, or_false] at hx
    rcases hx with rfl | rfl
    · exact grown_keep k (grown_keep B.gr A.lies (by simp)) (by simp)
    · exact grown_keep k B.lies (by simp)
  · simp only [List.mem_cons, List.not_mem_nil, or_false] at hx
    rcases hx with rfl | rfl
    · exact ⟨(((A.own.own e he).low (Nat.zero_le _)).keep B.gr).keep k, A.is.four he⟩
    · exact ⟨((B.own.own e he).low (Nat.zero_le _)).keep k, B.is.four he⟩
  · refine diff_of ?_
    show ((es ++ (fs ++ [])).filterMap fun (e : Ent) => e.v.ownBlock).Nodup
    rw [List.append_nil, List.filterMap_append, List.nodup_append]
    refine ⟨A.own.nod, B.own.nod, fun a ha b hb hab => ?_⟩
    obtain ⟨e, he, hea⟩ := List.mem_filterMap.1 ha
    obtain ⟨e', he', heb⟩ := List.mem_filterMap.1 hb
    have h1 := pA e he a hea
    have h2 := pB e' he' b heb
    omega
  · intro i j x y hi hj hxy
    have gf : ¬ g = f := by omega
    rcases i with _ | _ | i
    · rcases j with _ | _ | j
      · rfl
      · obtain rfl : (g, es) = x := by simpa using hi
        obtain rfl : (f, fs) = y := by simpa using hj
        exact absurd hxy gf
      · simp at hj
    · rcases j with _ | _ | j
      · obtain rfl : (f, fs) = x := by simpa using hi
        obtain rfl : (g, es) = y := by simpa using hj
        exact absurd hxy.symm gf
      · rfl
      · simp at hj
    · simp at hi
  · simp only [List.mem_cons, List.not_mem_nil, or_false] at hx
    rcases hx with rfl | rfl
    · simp only; omega
    · simp only; omega
  · simp only [List.mem_cons, List.not_mem_nil, or_false] at hx
    rcases hx with rfl | rfl
    · simp only; omega
    · simp only; omega
  · rcases List.mem_append.1 hb with hb | hb
    · obtain ⟨e, he, heb⟩ := blocks_mem hb
      have he' : e ∈ es ∨ e ∈ fs := by simpa [flat] using he
      rcases he' with he' | he'
      · have := pA e he' b heb; omega
      · have := pB e he' b heb; omega
    · have hb' : b = g ∨ b = f := by simpa [cblocks] using hb
      rcases hb' with rfl | rfl <;> omega
end Go.Proofs.Ytpoicbefemjckaa
