/-
  Layers, plainly: the rows of a table, what they hang on; features picked and laid back; effects found, and listed.
  Layers, plainly: two Raises, neither of which depends on the other, in either order.
  Layers, plainly: each effect of a layer once, as it comes.
  LayerNone: what is answered of no book.
  Layers: a table and a standing effect, read as data.
  Layers' laws, small helpers: Pick; lists copied; lists held against lists that are the same; heavy.
  LayerKnown: a book of two cards, of which the first one's effect depends on the second's.
-/
import Derived.Test.YtmemeloehgemcaaGreatK41
import Derived.Test.YtmemeloehgemcaaGreatK28
import Derived.Test.YtmemeloehgemcaaGreatK44
import Derived.Test.YtmemeloehgemcaaGreatK18
import Derived.Test.YtmemeloehgemcaaGreatK4
import Derived.BigQuiet
namespace Go.Proofs.YtmemeloehgemcaaGreat
open Go.RowKit Go.Shelf

end Go.Proofs.YtmemeloehgemcaaGreat
namespace Go.Proofs.YtmemeloehgemcaaGreat
open Go.RowKit Go.Shelf

end Go.Proofs.YtmemeloehgemcaaGreat
namespace Go.Proofs.YtmemeloehgemcaaGreat
open Go.RowKit Go.Shelf

end Go.Proofs.YtmemeloehgemcaaGreat
namespace Go.Proofs.YtmemeloehgemcaaGreat
open Go.RowKit Go.Shelf

end Go.Proofs.YtmemeloehgemcaaGreat
namespace Go.Proofs.YtmemeloehgemcaaGreat
open Go.ChangeShapes Go.WideShapes Go.ChangeAt Go.RowKit Go.Deep

end Go.Proofs.YtmemeloehgemcaaGreat
namespace Go.Proofs.YtmemeloehgemcaaGreat
open Go.RowKit Go.Shelf

theorem alloc_two (w : World) (a b : Array Value) (s t : TypeId) : ((w.alloc (.cells a s)).alloc (.cells b t)).heap[w.heap.size]? = some (.cells a s (0, 0)) := grown_keep (World.grownBy_alloc _ _ none) (alloc_at w a s) (by simp)
end Go.Proofs.YtmemeloehgemcaaGreat
namespace Go.Proofs.YtmemeloehgemcaaGreat
open Go.RowKit Go.Shelf

def hgS : Hd := ⟨⟨#[115, 116, 114, 105, 112]⟩, 2, 1, 0, 0, 1, 0, false⟩
def hgSp : Pt := ⟨5, 13, 10, 0, 0, 1, 0, ⟨#[]⟩⟩
def hgG : Hd := ⟨⟨#[103, 114, 97, 110, 116]⟩, 2, 1, 0, 0, 1, 0, false⟩
def hgGp : Pt := ⟨5, 12, 7, 0, 0, 1, 0, ⟨#[]⟩⟩
theorem hg_caS : caE plNew [] (hgS.with [hgSp]) = 0 := by
  show (if plNew.shut = true then (7 : Int) else if ¬ cchk (hgS.with [hgSp]) = 0 then cchk (hgS.with [hgSp]) else if 0 ≤ pos [] hgS.nm then 5 else if (0 : Nat) = 64 then 14 else 0) = 0
  decide +kernel
theorem hg_inS (vS : Value) : ins [] ⟨hgS, vS, [hgSp]⟩ = [⟨hgS, vS, [hgSp]⟩] := by
  rfl
theorem hg_caG (vS : Value) : caE plNew [⟨hgS, vS, [hgSp]⟩] (hgG.with [hgGp]) = 0 := by
  show (if plNew.shut = true then (7 : Int) else if ¬ cchk (hgG.with [hgGp]) = 0 then cchk (hgG.with [hgGp]) else if 0 ≤ pos [hgS.nm] hgG.nm then 5 else if (1 : Nat) = 64 then 14 else 0) = 0
  decide +kernel
theorem hg_inG (vG vS : Value) : ins [⟨hgS, vS, [hgSp]⟩] ⟨hgG, vG, [hgGp]⟩ = [⟨hgG, vG, [hgGp]⟩, ⟨hgS, vS, [hgSp]⟩] := by
  rw [ins_cons, if_neg (by show ¬ ord hgS hgG < 0; decide +kernel)]
def hgES (vG vS : Value) : List Ent := [⟨hgG, vG, [hgGp]⟩, ⟨hgS, vS, [hgSp]⟩]
theorem hg_seal (vG vS : Value) : sealE plNew (hgES vG vS) = 0 := by
  unfold sealE
  rw [if_neg (by decide)]
  simp [hgES, sealL, callsE, callE, hgSp, hgGp]
theorem hg_shut (vG vS : Value) : sealP plNew (hgES vG vS) = exP := if_pos (hg_seal vG vS)
theorem hg_fN (vG vS : Value) : fndN exP.shut (pos (names (hgES vG vS)) hgG.nm) = 1 ∧ fndN exP.shut (pos (names (hgES vG vS)) hgS.nm) = 2 := by
  show fndN true (pos [hgG.nm, hgS.nm] hgG.nm) = 1 ∧ fndN true (pos [hgG.nm, hgS.nm] hgS.nm) = 2
  decide +kernel
theorem hg_fE (vG vS : Value) : fndE exP.shut (pos (names (hgES vG vS)) hgG.nm) = 0 ∧ fndE exP.shut (pos (names (hgES vG vS)) hgS.nm) = 0 := by
  show fndE true (pos [hgG.nm, hgS.nm] hgG.nm) = 0 ∧ fndE true (pos [hgG.nm, hgS.nm] hgS.nm) = 0
  decide +kernel
def hgT : List Th := [⟨2, 0, 4, 1, 0, 0, 0, 0, 0, 0, false⟩, ⟨1, 0, 4, 2, 0, 0, 0, 0, 0, 0, false⟩]
def hgF : List Fe := [⟨0, 2, 0, 0, 1⟩, ⟨0, 2, 0, 0, 1⟩]
def hgRw : List Rw := [⟨1, 1, hgS, [hgSp]⟩, ⟨2, 2, hgG, [hgGp]⟩]
def hgA : Se := ⟨⟨1, 0, hgSp⟩, 0⟩
def hgB : Se := ⟨⟨2, 0, hgGp⟩, 1⟩
theorem hg_sort : sortR hgRw = hgRw := List.mergeSort_of_pairwise (by unfold hgRw; simp)
theorem hg_tab (vG vS : Value) : tabR 2 (atC exP (hgES vG vS)) hgT hgF = some hgRw := by
  unfold tabR
  rw [if_pos (show hgT.length = hgF.length from rfl), show layF 2 (atC exP (hgES vG vS)) (hgT.zip hgF) 0 [] = some hgRw from by kernel_rfl]
  simp only [hg_sort]
  rfl
theorem hg_eff : effL hgRw (pickF hgRw hgF) 3 = [hgA, hgB] := by kernel_rfl
theorem hg_dep : depB hgRw (pickF hgRw hgF) hgA hgB = true := by kernel_rfl
theorem hg_next : nextN hgRw (pickF hgRw hgF) [hgA, hgB] = 1 := by kernel_rfl
theorem hg_li : listF hgRw [hgA.s, hgB.s] [] = some [hgA, hgB] := by kernel_rfl
theorem hg_li2 : listF hgRw [hgB.s, hgA.s] [] = some [hgB, hgA] := by kernel_rfl
theorem hg_bg (vG vS : Value) (k : Int) (h : 1 ≤ k ∧ k ≤ 5) : bgE 0 2 (atC exP (hgES vG vS)) hgT hgF k = 0 := bgE_ok (hg_tab vG vS) h
theorem hg_pair {L : List Se} (hp : L.Perm [hgA, hgB]) (h : L.Pairwise inS) : L = [hgA, hgB] := by
  have h2 : ([hgA, hgB] : List Se).Pairwise inS := List.pairwise_cons.2 ⟨fun b hb => by rw [List.mem_singleton] at hb; subst hb; exact Or.inl (by decide), List.pairwise_singleton _ _⟩
  refine hp.eq_of_pairwise (fun a b ha hb q1 q2 => ?_) h h2
  have ha := hp.mem_iff.1 ha
  simp only [List.mem_cons, List.not_mem_nil, or_false] at ha hb
  rcases ha with rfl | rfl <;> rcases hb with rfl | rfl
  · rfl
  · exact absurd q2 (by unfold inS hgA hgB; simp)
  · exact absurd q1 (by unfold inS hgA hgB; simp)
  · rfl
variable {W w' : World} {e : Ending} {vG vS : Value}
theorem hg_effp (h : EffectsPost W 0 2 (atC exP (hgES vG vS)) hgT hgF 3 e w') : ∃ g c, e = .returned (.tuple #[.slice (some ⟨g, 0, none⟩) 2 c, .int .i64 0]) ∧ (w'.rangeAt g 0 (sdc ⟨1, 0, hgSp⟩) ∧ w'.rangeAt g 10 (sdc ⟨2, 0, hgGp⟩)) ∧ sdR.At w' (.slice (some ⟨g, 0, none⟩) 2 c) [hgA.s, hgB.s] ∧ W.grownBy w' none := by
  obtain ⟨p, m, c, he, g, -, hA⟩ := h
  rw [hg_bg vG vS 3 (by decide)] at he
  have o := hA hgRw rfl (by decide) (hg_tab vG vS)
  rw [hg_eff] at o
  obtain ⟨q, cap, e1, -, -, -, -, hc⟩ := own_cell o (by decide)
  cases e1
  refine ⟨q, c, he, ⟨fun i v hv => ?_, fun i v hv => ?_⟩, RecT.Own.at o, g⟩
  · have hi : i < 10 := (List.getElem?_eq_some_iff.1 hv).1
    have q := sdR.at' (l := [hgA.s, hgB.s]) (j := 0) (x := ⟨1, 0, hgSp⟩) rfl i hi
    rw [Nat.zero_mul, Nat.zero_add] at q
    rw [Nat.zero_add, (hc i (by show i < 2 * 10; omega)).1, ← hv]
    exact q
  · have hi : i < 10 := (List.getElem?_eq_some_iff.1 hv).1
    rw [(hc (10 + i) (by show 10 + i < 2 * 10; omega)).1, ← hv]
    exact sdR.at' (l := [hgA.s, hgB.s]) (j := 1) (x := ⟨2, 0, hgGp⟩) rfl i hi
theorem hg_depp (h : DependsPost W 0 2 (atC exP (hgES vG vS)) hgT hgF hgA.s hgB.s e w') : e = .returned (.tuple #[.bool true, .int .i64 0]) ∧ W.grownBy w' none := by
  obtain ⟨b, he, g, -, hA⟩ := h
  rw [lkE_ok (hg_tab vG vS) hg_li] at he
  rw [hA hgRw hgA hgB rfl (hg_tab vG vS) hg_li, hg_dep] at he
  exact ⟨he, g⟩
theorem hg_nextp (h : NextPost W 0 2 (atC exP (hgES vG vS)) hgT hgF [hgA.s, hgB.s] e w') : e = .returned (.tuple #[.int .i64 1, .int .i64 0]) ∧ W.grownBy w' none := by
  obtain ⟨p, he, g, -, hA⟩ := h
  rw [lkE_ok (hg_tab vG vS) hg_li] at he
  have q := hA hgRw [hgA, hgB] rfl (hg_tab vG vS) hg_li
  rw [if_neg (by simp)] at q
  obtain ⟨L, h1, h2, h3⟩ := q
  rw [hg_pair h1 h2, hg_next] at h3
  rw [h3] at he
  exact ⟨he, g⟩
theorem hg_nextp2 (h : NextPost W 0 2 (atC exP (hgES vG vS)) hgT hgF [hgB.s, hgA.s] e w') : e = .returned (.tuple #[.int .i64 0, .int .i64 0]) ∧ W.grownBy w' none := by
  obtain ⟨p, he, g, -, hA⟩ := h
  rw [lkE_ok (hg_tab vG vS) hg_li2] at he
  have q := hA hgRw [hgB, hgA] rfl (hg_tab vG vS) hg_li2
  rw [if_neg (by simp)] at q
  obtain ⟨L, h1, h2, h3⟩ := q
  rw [hg_pair (h1.trans (List.Perm.swap _ _ _)) h2, hg_next] at h3
  rw [h3] at he
  exact ⟨he, g⟩
end Go.Proofs.YtmemeloehgemcaaGreat
