/-
  Cards of a suit in a block of their own, beside books: what a walk keeps of them, in general.
-/
import Derived.Test.YtpoicbefemjckaaSuP
import Derived.Deep.CutRange
import Derived.Deep.CutBlock
import Derived.Deep.MidRow
namespace Go.Proofs.Ytpoicbefemjckaa
open Go.RowKit

theorem perm_pick {α : Type} {l r : List α} {x : α} (a b : List α) (hl : l = a ++ x :: b) (h : (a ++ b).Perm r) : l.Perm (x :: r) := by
  rw [hl]
  exact List.perm_middle.trans (List.Perm.cons _ h)
theorem fnd_yes {q : Int} (h : 0 ≤ q) : fndN true q = q + 1 ∧ fndE true q = 0 := ⟨if_pos ⟨rfl, h⟩, if_pos ⟨rfl, h⟩⟩
/-- Where a list of numbers lies. -/
def IntsIn (w : World) (v : Value) (os : List Int) : Prop := ∃ a k, v = .slice a os.length k ∧ (0 < os.length → ∃ g o, a = some ⟨g, o, none⟩ ∧ ∀ (j : Nat) x, os[j]? = some x → w.cell? ⟨g, o + j, none⟩ = some (.int .i64 x))
/-- Cards at the head of a block. -/
def Lie (w : World) (G : Nat) (es : List Ent) : Prop := ∃ junk : List Value, w.heap[G]? = some (.cells (ecells es ++ junk).toArray 47 (0, 0))
theorem Lie.keepR {w w' : World} {G : Nat} {es : List Ent} {r : Option Nat} (h : Lie w G es) (g : w.grownBy w' r) (hr : some G ≠ r) : Lie w' G es := h.imp fun _ k => grown_keep g k hr
theorem Lie.at {w : World} {G : Nat} {es : List Ent} (h : Lie w G es) {j : Nat} {e : Ent} (he : es[j]? = some e) {k : Nat} {u : Value} (hk : k < 9) (hu : (cvs e.h e.v)[k]? = some u) : w.cell? ⟨G, j * 9 + k, none⟩ = some u := by
  obtain ⟨junk, h⟩ := h
  have hj : j < es.length := (List.getElem?_eq_some_iff.1 he).1
  rw [block_cell h, List.getElem?_toArray, List.getElem?_append_left (by rw [ecells_len]; omega), ecells_at es j e he k hk]
  exact hu
theorem Lie.row {w : World} {G : Nat} {es : List Ent} (h : Lie w G es) {j : Nat} {e : Ent} (he : es[j]? = some e) : C9 w G (j * 9) e.h e.v :=
  ⟨h.at he (k := 0) (by omega) rfl, h.at he (k := 1) (by omega) rfl, h.at he (k := 2) (by omega) rfl, h.at he (k := 3) (by omega) rfl, h.at he (k := 4) (by omega) rfl, h.at he (k := 5) (by omega) rfl, h.at he (k := 6) (by omega) rfl, h.at he (k := 7) (by omega) rfl, h.at he (k := 8) (by omega) rfl⟩
theorem Lie.range {w : World} {G : Nat} {es : List Ent} (h : Lie w G es) {j : Nat} {e : Ent} (he : es[j]? = some e) : w.rangeAt G (j * 9) (cvs e.h e.v) := fun _ _ hu => h.at he (List.getElem?_eq_some_iff.1 hu).1 hu
theorem Lie.free {w : World} {G : Nat} {es : List Ent} (h : Lie w G es) (i : Nat) : w.frozen? ⟨G, i, none⟩ = false := by obtain ⟨junk, h⟩ := h; exact block_free h i
theorem Lie.there {w : World} {G : Nat} {es : List Ent} (h : Lie w G es) {j : Nat} {e : Ent} (he : es[j]? = some e) : w.there G (j * 9) 9 := fun k hk => by
  have hj := (List.getElem?_eq_some_iff.1 he).1
  refine ⟨?_, h.free _⟩
  obtain ⟨u, hu⟩ : ∃ u, (cvs e.h e.v)[k]? = some u := ⟨_, List.getElem?_eq_getElem (by simpa [cvs] using hk)⟩
  rw [h.at he hk hu]
  rfl
theorem ecells_split (es : List Ent) {j : Nat} {e : Ent} (he : es[j]? = some e) : ecells es = ecells (es.take j) ++ (cvs e.h e.v ++ ecells (es.drop (j + 1))) := by
  obtain ⟨h1, h2⟩ := List.getElem?_eq_some_iff.1 he
  have h3 : es = es.take j ++ (e :: es.drop (j + 1)) := by
    rw [← h2, ← List.drop_eq_getElem_cons h1, List.take_append_drop]
  conv => lhs; rw [h3]
  rw [ecells_app]
  rfl
theorem Lie.set {w : World} {G : Nat} {es : List Ent} (h : Lie w G es) {j : Nat} {e : Ent} (he : es[j]? = some e) (x : Ent) : Lie (set9 w G (j * 9) x.h x.v) G (es.set j x) := by
  obtain ⟨junk, h⟩ := h
  have h1 := (List.getElem?_eq_some_iff.1 he).1
  rw [ecells_split es he, List.append_assoc, List.append_assoc] at h
  have h2 := set9_block h (j * 9) (by rw [ecells_len, List.length_take]; omega) rfl x.h x.v
  have h3 : (es.set j x)[j]? = some x := by rw [List.getElem?_set]; simp [h1]
  refine ⟨junk, ?_⟩
  rw [h2, ecells_split _ h3, List.take_set_of_le (Nat.le_refl _), List.drop_set_of_lt (Nat.lt_succ_self _), List.append_assoc, List.append_assoc]
/-- The cards: at the head of a block, in any order; their parts elsewhere, below a bound. -/
structure Cr (lim : Nat) (sp : List (Hd × List Pt)) (w : World) (G : Nat) (es : List Ent) : Prop where
  crs : Crs sp es
  lies : Lie w G es
  ps : ∀ e ∈ es, PsOk (fun k => k < lim ∧ ¬ k = G) w e.v e.ps
theorem Cr.keepR {lim : Nat} {sp : List (Hd × List Pt)} {w w' : World} {G : Nat} {es : List Ent} {r : Option Nat} (h : Cr lim sp w G es) (k : w.grownBy w' r) (hg : some G ≠ r) (hr : ∀ x, x < lim → some x ≠ r) : Cr lim sp w' G es := ⟨h.crs, h.lies.keepR k hg, fun e he => (h.ps e he).keepR k (fun x hx => hr x hx.1)⟩
theorem Cr.keep {lim : Nat} {sp : List (Hd × List Pt)} {w w' : World} {G : Nat} {es : List Ent} (h : Cr lim sp w G es) (k : w.grownBy w' none) : Cr lim sp w' G es := h.keepR k (by simp) (by simp)
theorem Cr.up {lim lim' : Nat} {sp : List (Hd × List Pt)} {w : World} {G : Nat} {es : List Ent} (h : Cr lim sp w G es) (k : lim ≤ lim') : Cr lim' sp w G es := ⟨h.crs, h.lies, fun e he => (h.ps e he).mono fun _ hx => ⟨Nat.lt_of_lt_of_le hx.1 k, hx.2⟩⟩
theorem Cr.swap {lim : Nat} {sp : List (Hd × List Pt)} {w : World} {G : Nat} {es : List Ent} (h : Cr lim sp w G es) {j k : Nat} {a b : Ent} (hj : es[j]? = some a) (hk : es[k]? = some b) : Cr lim sp (set9 (set9 w G (j * 9) b.h b.v) G (k * 9) a.h a.v) G ((es.set j b).set k a) := by
  have h1 := h.lies.set hj b
  have hk' : ∃ y, (es.set j b)[k]? = some y := ⟨_, List.getElem?_eq_getElem (by have := (List.getElem?_eq_some_iff.1 hk).1; simpa using this)⟩
  obtain ⟨y, hy⟩ := hk'
  have h2 := h1.set hy a
  refine ⟨h.crs.swap hj hk, h2, fun e he => ?_⟩
  exact ((h.ps e (swap_mem hj hk he)).keepR (grown_s9 _ _ _ _ _) (fun x hx e => by injection e with e; exact hx.2 e)).keepR (grown_s9 _ _ _ _ _) (fun x hx e => by injection e with e; exact hx.2 e)
theorem Cr.there2 {lim : Nat} {sp : List (Hd × List Pt)} {w : World} {G : Nat} {es : List Ent} (h : Cr lim sp w G es) {j k : Nat} {e x : Ent} (he : es[j]? = some e) (y : Ent) (hx : es[k]? = some x) : (set9 w G (j * 9) y.h y.v).there G (k * 9) 9 := by
  obtain ⟨z, hz⟩ : ∃ z, (es.set j y)[k]? = some z := ⟨_, List.getElem?_eq_getElem (by have := (List.getElem?_eq_some_iff.1 hx).1; simpa using this)⟩
  exact (h.lies.set he y).there hz
theorem setCells_set9 (w : World) (b o : Nat) (h : Hd) (v : Value) : w.setCells b o (cvs h v).toArray.toList = set9 w b o h v := rfl
theorem cvs_one (h : Hd) (n : Nat) {a : Option Addr} {c : Nat} : (cvs h (.slice a n c)).toArray.all (·.oneCell') = true := all_oneCell_toArray fun v hv => by
  simp only [cvs, List.mem_cons, List.not_mem_nil, or_false] at hv
  rcases hv with rfl | rfl | rfl | rfl | rfl | rfl | rfl | rfl | rfl <;> rfl
theorem mod_n (n : Nat) (hn : 0 < n) (i : Nat) : ∃ j : Nat, j < n ∧ (i : Int).tmod n = (j : Int) ∧ (i : Int) % n = (j : Int) := by
  refine ⟨i % n, Nat.mod_lt _ hn, ?_, by omega⟩
  rw [Int.tmod_eq_emod_of_nonneg (by omega)]
  omega
/-- Parts of a card's own lie in no block of cards. -/
theorem own_off {base : Nat} {w : World} {v : Value} {ps : List Pt} {G : Nat} {cs : Array Value} (h : Own8 base w v ps) (k : w.heap[G]? = some (.cells cs 47 (0, 0))) : PsOk (fun k => k < w.heap.size ∧ ¬ k = G) w v ps := by
  refine ⟨h.at, fun g o n c ev _ => ?_⟩
  have hb := h.block g (by rw [ev]; rfl)
  refine ⟨hb.2, fun e => ?_⟩
  rcases h with ⟨h, _⟩ | ⟨b, hv, hh, _⟩
  · rw [h] at ev; cases ev
  · rw [hv] at ev
    injection ev with e1 _ _
    injection e1 with e1
    injection e1 with e1 _ _
    unfold PB at hh
    rw [e1, e, k] at hh
    injection hh with hh
    injection hh with _ hh _
    exact absurd hh (by decide)
theorem Own8.keepRb {base : Nat} {w w' : World} {v : Value} {ps : List Pt} {g : Nat} (h : Own8 base w v ps) (k : w.grownBy w' (some g)) (hb : ∀ b, v.ownBlock = some b → b < g) : Own8 base w' v ps := by
  rcases h with h | ⟨b, e, h, hb'⟩
  · exact Or.inl h
  · exact Or.inr ⟨b, e, grown_keep k h (fun e' => by have := hb b (by rw [e]; rfl); injection e' with e'; omega), hb'⟩
theorem ps_nil {ok : Nat → Prop} {w : World} : PsOk ok w (.slice none 0 0) [] := ⟨Or.inl ⟨rfl, rfl⟩, fun g o n c e _ => by cases e⟩
end Go.Proofs.Ytpoicbefemjckaa
