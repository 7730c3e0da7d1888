/-
  thing.Marked where it refuses; the document's Marked; what is left of a unit's health.
  View: what every way asks of a book and things; lists that are filled; printed.
  View: features with marks.
  View: what all ways look at first.
  Layers: what is answered of no book.
  The book of chapter 18's examples.
  Layers: the book of the chapter's examples.
  Layers: the chapter's example.
  Layers: the chapter's examples, plainly.
  Layers: awake.
  LayerNone: what is answered of no book.
  Layers: a table and a standing effect, read as data.
  Layers' laws, small helpers: Pick; lists copied; lists held against lists that are the same; heavy.
  View: the closure that tells one layer more each time.
  View: Behind, Of.
  SameFeatures, SameStandings of lists that are the same.
  A pair of books, filled alike: CopyCard; what a step keeps.
  gambitkit.Books: the program's book and the document's, filled alike, and sealed, if they may be; of every fill.
  Layers' laws: what stands while a law asks of one book; answers of effects that a layer has.
  View: Steps.
  Views, plainly: whom effects are about, step by step; Raises add up; the layers' order.
  View: is a number among numbers; is it a thing on the table; what of a layer was about it.
  Swaps: the numbers of the things on the table, by rising stamps.
-/
import Derived.Test.YthfjgpjcepmnmaaGreatS16
import Derived.Test.YthfjgpjcepmnmaaGreatS13
import Derived.Test.YthfjgpjcepmnmaaGreatS28
import Derived.Test.YthfjgpjcepmnmaaGreatS19
import Derived.Test.YthfjgpjcepmnmaaGreatS25
import Derived.Test.YthfjgpjcepmnmaaGreatS14
import Derived.Test.YthfjgpjcepmnmaaGreatS4
import Derived.BigQuiet
import Derived.Deep.RegionHeld3
import Derived.Deep.MidRow
import Derived.Maps.RangeWalk
import Derived.Test.YthfjgpjcepmnmaaGreatS27
import Derived.Test.YthfjgpjcepmnmaaGreatS18
import Derived.Shelf.SlSortCmp.NoneTotal
import Derived.Lib.RowBridge
import Derived.Lib.SortBridge
namespace Go.Proofs.YthfjgpjcepmnmaaGreat
open Go.RowKit

end Go.Proofs.YthfjgpjcepmnmaaGreat
namespace Go.Proofs.YthfjgpjcepmnmaaGreat
open Go.RowKit Go.Shelf

theorem RecT.At.take {α : Type} {R : RecT α} {w : World} {p : Option Addr} {n c : Nat} {l : List α} (h : R.At w (.slice p n c) l) (m : Nat) (hm : m ≤ n) : R.At w (.slice p m c) (l.take m) := by
  obtain ⟨p', c', e, hl, h1⟩ := h
  injection e with e1 e2 e3
  subst e1
  subst e3
  have hlm : (l.take m).length = m := by rw [List.length_take]; omega
  refine ⟨p, c, by rw [hlm], by rw [hlm]; omega, fun h0 => ?_⟩
  rw [hlm] at h0
  obtain ⟨g, off, e, hc⟩ := h1 (by omega)
  exact ⟨g, off, e, fun j x hj => hc j x (by
    rw [List.getElem?_take] at hj
    split at hj
    · exact hj
    · cases hj)⟩
end Go.Proofs.YthfjgpjcepmnmaaGreat
namespace Go.Proofs.YthfjgpjcepmnmaaGreat
open Go.RowKit Go.Shelf

end Go.Proofs.YthfjgpjcepmnmaaGreat
namespace Go.Proofs.YthfjgpjcepmnmaaGreat
open Go.RowKit Go.Shelf

end Go.Proofs.YthfjgpjcepmnmaaGreat
namespace Go.Proofs.YthfjgpjcepmnmaaGreat
open Go.RowKit Go.Shelf

theorem bgE_no {r n : Int} {cd : Int → Hd × List Pt} {ts : List Th} {fs : List Fe} {k : Int} (h : r ≠ 0) : bgE r n cd ts fs k = r := by
  unfold bgE
  rw [lkE_no h, if_neg h]
end Go.Proofs.YthfjgpjcepmnmaaGreat
namespace Go.Proofs.YthfjgpjcepmnmaaGreat
open Go.RowKit

def tgOk (b : Nat) (k : Nat) : Prop := b < k
end Go.Proofs.YthfjgpjcepmnmaaGreat
namespace Go.Proofs.YthfjgpjcepmnmaaGreat
open Go.RowKit Go.Shelf

def exP : Pl := { plNew with shut := true }
theorem cell_blockL {w : World} {g o : Nat} {v : Value} (h : w.cell? ⟨g, o, none⟩ = some v) : g < w.heap.size := by
  by_cases hg : g < w.heap.size
  · exact hg
  · have : w.heap[g]? = none := Array.getElem?_eq_none (by omega)
    simp [World.cell?, this] at h
theorem Good.oldL {ok : Nat → Prop} {w : World} {es : List Ent} (h : Good ok w es) : Good (fun k => ok k ∧ k < w.heap.size) w es := fun e he => by
  obtain ⟨h1, h2⟩ := h e he
  refine ⟨h1, fun g o n c ev hn => ⟨h2 g o n c ev hn, ?_⟩⟩
  obtain ⟨x, y, hf⟩ := h1.form
  rw [hf] at ev
  injection ev with e1 e2 e3
  have h0 : 0 < e.ps.length := by omega
  obtain ⟨g', off, cap, ev', hP⟩ := h1.part h0
  rw [hf] at ev'
  injection ev' with e1' _ _
  rw [e1] at e1'
  injection e1' with e1'
  injection e1' with e1' _ _
  subst e1'
  obtain ⟨p, hp⟩ : ∃ p, e.ps[0]? = some p := ⟨_, List.getElem?_eq_getElem h0⟩
  exact cell_blockL (hP 0 p hp).c0
theorem Book.oldL {ok : Nat → Prop} {w : World} {b : Nat} {es : List Ent} {p : Pl} (h : Book ok w b es p) : Book (fun k => ok k ∧ k < w.heap.size) w b es p := ⟨h.lies, h.good.oldL, h.srt, h.fine, h.may⟩
theorem blk_setL {w : World} {b i : Nat} {T : TypeId} {cs cs' : Array Value} {u : Value} (h : w.heap[b]? = some (.cells cs T (0, 0))) (e : cs.setIfInBounds i u = cs') : (w.setCell ⟨b, i, none⟩ u).heap[b]? = some (.cells cs' T (0, 0)) := by rw [← e]; exact block_set h i u
theorem Tryz.linfoT : (Tryz.prog.info? 100).map (fun i => (i.zero, i.size, i.bytes)) = some (some (.agg #[.int .i64 0, .int .i64 0, .int .u8 0, .int .i64 0, .int .i64 0, .int .i64 0, .int .i64 0, .int .i64 0, .int .i64 0, .int .i64 0, .bool false]), 11, 88) := by kernel_rfl
end Go.Proofs.YthfjgpjcepmnmaaGreat
namespace Go.Proofs.YthfjgpjcepmnmaaGreat
open Go.RowKit Go.Shelf

end Go.Proofs.YthfjgpjcepmnmaaGreat
namespace Go.Proofs.YthfjgpjcepmnmaaGreat
open Go.RowKit Go.Shelf

end Go.Proofs.YthfjgpjcepmnmaaGreat
namespace Go.Proofs.YthfjgpjcepmnmaaGreat
open Go.RowKit Go.Shelf

end Go.Proofs.YthfjgpjcepmnmaaGreat
namespace Go.Proofs.YthfjgpjcepmnmaaGreat
open Go.RowKit Go.Shelf

end Go.Proofs.YthfjgpjcepmnmaaGreat
namespace Go.Proofs.YthfjgpjcepmnmaaGreat
open Go.ChangeShapes Go.WideShapes Go.ChangeAt Go.RowKit Go.Deep

end Go.Proofs.YthfjgpjcepmnmaaGreat
namespace Go.Proofs.YthfjgpjcepmnmaaGreat
open Go.RowKit Go.Shelf

end Go.Proofs.YthfjgpjcepmnmaaGreat
namespace Go.Proofs.YthfjgpjcepmnmaaGreat
open Go.RowKit Go.Shelf

end Go.Proofs.YthfjgpjcepmnmaaGreat
namespace Go.Proofs.YthfjgpjcepmnmaaGreat
open Go.RowKit Go.Shelf

end Go.Proofs.YthfjgpjcepmnmaaGreat
namespace Go.Proofs.YthfjgpjcepmnmaaGreat
open Go.RowKit Go.Shelf

end Go.Proofs.YthfjgpjcepmnmaaGreat
namespace Go.Proofs.YthfjgpjcepmnmaaGreat
open Go.RowKit

end Go.Proofs.YthfjgpjcepmnmaaGreat
namespace Go.Proofs.YthfjgpjcepmnmaaGreat
open Go.RowKit

theorem C9.range {w : World} {g o : Nat} {h : Hd} {v : Value} (c : C9 w g o h v) : w.rangeAt g o (cvs h v) := fun j u hu => by
  have hj : j < 9 := (List.getElem?_eq_some_iff.1 hu).1
  rcases (by omega : j = 0 ∨ j = 1 ∨ j = 2 ∨ j = 3 ∨ j = 4 ∨ j = 5 ∨ j = 6 ∨ j = 7 ∨ j = 8) with rfl | rfl | rfl | rfl | rfl | rfl | rfl | rfl | rfl <;> (cases hu; first | exact c.c0 | exact c.c1 | exact c.c2 | exact c.c3 | exact c.c4 | exact c.c5 | exact c.c6 | exact c.c7 | exact c.c8)
end Go.Proofs.YthfjgpjcepmnmaaGreat
namespace Go.Proofs.YthfjgpjcepmnmaaGreat
open Go.RowKit Go.Shelf

theorem Tab.app {n : Int} {cd : Int → Hd × List Pt} {ts : List Th} {fs : List Fe} {R : List Rw} {F : List Fe} {k : Int} {a : Se} {w w' : World} {e : Ending} (h : Tab n cd ts fs R) (ha : a ∈ effL R F k) (q : ApplyPost w 0 n cd ts fs a.s e w') : ∃ p c, e = .returned (.tuple #[.slice p (amgL fs R (applyL R (pickF R fs) a)).length c, .int .i64 0]) ∧ w.grownBy w' none ∧ FOwn w' w.heap.size (.slice p (amgL fs R (applyL R (pickF R fs) a)).length c) (amgL fs R (applyL R (pickF R fs) a)) := by
  obtain ⟨p, m, c, e1, g, _, h1⟩ := q
  have o := h1 R a rfl h.tab (h.one ha)
  rw [lkE_ok h.tab (h.one ha)] at e1
  obtain ⟨p', c', e2⟩ := RecT.Own.form o
  cases e2
  exact ⟨p, c, e1, g, o⟩
theorem Tab.abt {n : Int} {cd : Int → Hd × List Pt} {ts : List Th} {fs : List Fe} {R : List Rw} {F : List Fe} {k : Int} {a : Se} {w w' : World} {e : Ending} (h : Tab n cd ts fs R) (ha : a ∈ effL R F k) (q : AboutPost w 0 n cd ts fs a.s e w') : ∃ p c, e = .returned (.tuple #[.slice p (numL R (aboutL R (pickF R fs) a)).length c, .int .i64 0]) ∧ w.grownBy w' none ∧ LOwnI w' w.heap.size (.slice p (numL R (aboutL R (pickF R fs) a)).length c) (numL R (aboutL R (pickF R fs) a)) := by
  obtain ⟨p, m, c, e1, g, _, h1⟩ := q
  have o := h1 R a rfl h.tab (h.one ha)
  rw [lkE_ok h.tab (h.one ha)] at e1
  obtain ⟨p', c', e2⟩ := LOwnI.form o
  cases e2
  exact ⟨p, c, e1, g, o⟩
end Go.Proofs.YthfjgpjcepmnmaaGreat
namespace Go.Proofs.YthfjgpjcepmnmaaGreat
open Go.RowKit Go.Shelf

end Go.Proofs.YthfjgpjcepmnmaaGreat
namespace Go.Proofs.YthfjgpjcepmnmaaGreat
open Go.RowKit Go.Shelf

end Go.Proofs.YthfjgpjcepmnmaaGreat
namespace Go.Proofs.YthfjgpjcepmnmaaGreat
open Go.RowKit Go.Shelf

theorem ints_in {w : World} {base : Nat} {v : Value} {l : List Int} (h : LOwnI w base v l) {j : Nat} (hj : j < l.length) : ∃ g c, v = .slice (some ⟨g, 0, none⟩) l.length c ∧ w.cell? ⟨g, j, none⟩ = some (.int .i64 (l.getD j 0)) := by
  obtain ⟨g, c, e, _, _, _, _, hc⟩ := own_cell h (by omega)
  refine ⟨g, c, e, (hc j (by omega)).1.trans ?_⟩
  unfold ints
  rw [List.getElem?_map, List.getElem?_eq_getElem hj, Option.map_some, getD_in hj]
end Go.Proofs.YthfjgpjcepmnmaaGreat
namespace Go.Proofs.YthfjgpjcepmnmaaGreat
open Go.RowKit

def onN : List Th → Nat → List Int
  | [], _ => []
  | t :: r, i => if t.place = 4 then ((i : Int) + 1) :: onN r (i + 1) else onN r (i + 1)
theorem onN_snoc : ∀ (l : List Th) (i : Nat) (t : Th), onN (l ++ [t]) i = if t.place = 4 then onN l i ++ [((i + l.length : Nat) : Int) + 1] else onN l i
  | [], i, t => by
    simp only [List.nil_append, onN, List.length_nil, Nat.add_zero]
  | s :: l, i, t => by
    have h := onN_snoc l (i + 1) t
    simp only [List.cons_append, onN, h, List.length_cons]
    rw [show i + 1 + l.length = i + (l.length + 1) by omega]
    by_cases h1 : s.place = 4 <;> by_cases h2 : t.place = 4 <;> simp [h1, h2]
theorem onN_take {ts : List Th} {k : Nat} {t : Th} (ht : ts[k]? = some t) : onN (ts.take (k + 1)) 0 = if t.place = 4 then onN (ts.take k) 0 ++ [(k : Int) + 1] else onN (ts.take k) 0 := by
  have hk := (List.getElem?_eq_some_iff.1 ht).1
  rw [List.take_add_one, ht, show (some t).toList = [t] from rfl, onN_snoc, List.length_take, Nat.zero_add, Nat.min_eq_left (by omega)]
theorem onN_len : ∀ (l : List Th) (i : Nat), (onN l i).length ≤ l.length
  | [], _ => Nat.le_refl _
  | t :: l, i => by
    have := onN_len l (i + 1)
    unfold onN
    split <;> simp <;> omega
theorem onN_in : ∀ (l : List Th) (i : Nat) (n : Int), n ∈ onN l i → (i : Int) + 1 ≤ n ∧ n ≤ ((i + l.length : Nat) : Int)
  | [], _, n, h => by cases h
  | t :: l, i, n, h => by
    unfold onN at h
    have q := onN_in l (i + 1) n
    rw [List.length_cons]
    split at h
    · rcases List.mem_cons.1 h with h | h
      · omega
      · have := q h; omega
    · have := q h; omega
theorem tbl_nums {cd : Int → Hd × List Pt} : ∀ (ts : List Th) (F : List Fe) (i : Nat), ts.length = F.length → (tblR cd (ts.zip F) i).map Rw.nu = onN ts i
  | [], _, _, _ => by simp [tblR, onN]
  | t :: ts, [], _, h => by simp at h
  | t :: ts, f :: F, i, h => by
    have q := tbl_nums (cd := cd) ts F (i + 1) (by simpa using h)
    rw [List.zip_cons_cons]
    by_cases h4 : t.place = 4
    · rw [tblR_yes h4, List.map_cons, q]; show _ = (if t.place = 4 then _ else _); rw [if_pos h4]
    · rw [tblR_no h4, q]; show _ = (if t.place = 4 then _ else _); rw [if_neg h4]
theorem perm_up {f : Int → Int} : ∀ {l m : List Int}, l.Perm m → (l.Pairwise fun a b => f a ≤ f b) → (m.Pairwise fun a b => f a < f b) → l = m
  | [], m, h, _, _ => (List.nil_perm.1 h).symm
  | a :: l, [], h, _, _ => by have := h.length_eq; simp at this
  | a :: l, b :: m, h, h1, h2 => by
    rw [List.pairwise_cons] at h1 h2
    have e : a = b := by
      rcases List.mem_cons.1 (h.mem_iff.1 List.mem_cons_self) with e | q
      · exact e
      · rcases List.mem_cons.1 (h.mem_iff.2 List.mem_cons_self) with e | q'
        · exact e.symm
        · have := h1.1 b q'; have := h2.1 a q; omega
    subst e
    rw [perm_up h.cons_inv h1.2 h2.2]
theorem Tab.nums {n : Int} {cd : Int → Hd × List Pt} {ts : List Th} {F : List Fe} {R : List Rw} (h : Tab n cd ts F R) {l : List Int} (hp : l.Perm (onN ts 0)) (hs : l.Pairwise fun a b => stOf ts a ≤ stOf ts b) : l = R.map Rw.nu := by
  have p2 : (onN ts 0).Perm (R.map Rw.nu) := by rw [← tbl_nums (cd := cd) ts F 0 h.len]; exact (h.perm.map Rw.nu).symm
  refine perm_up (hp.trans p2) hs ?_
  rw [List.pairwise_map, List.pairwise_iff_getElem]
  intro i j hi hj hij
  have q := (List.pairwise_iff_getElem.1 h.up) i j hi hj hij
  have a := (h.thing hi).2.1
  have b := (h.thing hj).2.1
  rw [getD_in hi] at a
  rw [getD_in hj] at b
  rw [a, b]
  exact q
theorem sfins_of {N : Nat} : ∀ (l : List Int), (∀ n ∈ l, 1 ≤ n ∧ n ≤ (N : Int)) → ∃ D : List (Fin N), D.map (fun i => (i.val : Int) + 1) = l
  | [], _ => ⟨[], rfl⟩
  | n :: l, h => by
    obtain ⟨D, hD⟩ := sfins_of l fun m hm => h m (List.mem_cons_of_mem _ hm)
    have h1 := h n List.mem_cons_self
    refine ⟨⟨(n - 1).toNat, by omega⟩ :: D, ?_⟩
    rw [List.map_cons, hD]
    congr 1
    show (((n - 1).toNat : Nat) : Int) + 1 = n
    omega
def sencF {N : Nat} (i : Fin N) : Value := .int .i64 ((i.val : Int) + 1)
def sstF {N : Nat} (ts : List Th) (i : Fin N) : Int := stOf ts ((i.val : Int) + 1)
def scfF {N : Nat} (ts : List Th) (i j : Fin N) : Int := Lib.compareInt (sstF ts i) (sstF ts j)
theorem sltF {N : Nat} (ts : List Th) (i j : Fin N) : Go.Proofs.ltOf (scfF ts) i j = decide (sstF ts i < sstF ts j) := by
  unfold Go.Proofs.ltOf scfF Lib.compareInt
  by_cases h1 : sstF ts i < sstF ts j
  · simp [h1]
  · by_cases h2 : sstF ts j < sstF ts i <;> simp [h1, h2]
theorem sswoF {N : Nat} [Inhabited (Fin N)] (ts : List Th) : Go.Sort.SWO (Go.Proofs.ltOf (scfF (N := N) ts)) where
  irrefl x := by rw [sltF]; simp
  trans x y z h1 h2 := by rw [sltF] at *; simp at *; omega
  ntrans x y z h1 h2 := by rw [sltF] at *; simp at *; omega
theorem sencF_map {N : Nat} (D : List (Fin N)) : D.map sencF = ints (D.map fun i => (i.val : Int) + 1) := by
  unfold ints
  rw [List.map_map]
  rfl
theorem ssorted_list {N : Nat} [Inhabited (Fin N)] {ts : List Th} {d : Array (Fin N)} {n : Nat} (hn : d.size = n) (h : Go.Sort.SortedIn (Go.Proofs.ltOf (scfF ts)) 0 n d) : (d.toList.map fun i => (i.val : Int) + 1).Pairwise fun a b => stOf ts a ≤ stOf ts b := by
  rw [List.pairwise_map, List.pairwise_iff_getElem]
  intro i j hi hj hij
  have hi' : i < d.size := by simpa using hi
  have hj' : j < d.size := by simpa using hj
  have := h i j (Nat.zero_le _) hij (by omega)
  rw [sltF] at this
  simp [hi', hj'] at this
  simp
  exact this
theorem sperm_list {N : Nat} [Inhabited (Fin N)] {d d' : Array (Fin N)} (h : Go.Sort.PermIn 0 d.size d d') : d'.toList.Perm d.toList := by
  obtain ⟨h1, _, h2⟩ := h
  have e1 : (d'.extract 0 d.size).toList = d'.toList := by rw [← h1]; simp
  have e2 : (d.extract 0 d.size).toList = d.toList := by simp
  rw [e1, e2] at h2
  exact h2
theorem ssortW_cell {α : Type} [Inhabited α] (enc : α → Value) (w : World) (g m : Nat) (d : Array α) (os : Array Obj) (a : Addr) (hg : a.block ≠ g) (hs : a.block < w.heap.size) : (Go.Proofs.sortWorld enc w g 0 m d os).cell? a = w.cell? a := by
  unfold Go.Proofs.sortWorld
  rw [Go.Sort.cell?_grow _ _ _ (by rw [Go.Sort.size_putRow]; exact hs), Go.Sort.cell?_putRow_other _ _ _ _ _ _ (Or.inl hg), Go.Sort.cell?_ahead]
set_option maxRecDepth 100000 in
set_option maxHeartbeats 2000000 in
theorem scmpSt_any (W : World) (b g off len cap i j : Nat) (sx sy : Int) (hi : i < len) (hj : j < len) (hl : len ≤ 2048) (c0 : W.cell? ⟨b, 1, none⟩ = some (.slice (some ⟨g, off, none⟩) len cap)) (cx : W.cell? ⟨g, off + i * 11 + 3, none⟩ = some (.int .i64 sx)) (cy : W.cell? ⟨g, off + j * 11 + 3, none⟩ = some (.int .i64 sy)) : Calls Tryz.prog 195 #[.int .i64 ((i : Int) + 1), .int .i64 ((j : Int) + 1), .pointer (some ⟨b, 0, none⟩)] W fun e w' => e = .returned (.int .i64 (Lib.compareInt sx sy)) ∧ ∃ q, w' = W.drewN q := by
  have hcon := AnyG.cmp_Compare_int Tryz.cmpL sx sy
  change ∀ w, Calls Tryz.prog 161 _ _ _ at hcon
  obtain ⟨r, hr⟩ : ∃ r, r = Lib.compareInt sx sy := ⟨_, rfl⟩
  rw [← hr] at hcon ⊢
  clear hr
  have hw1 : IntKind.i64.wrap (i : Int) = (i : Int) := IntWalk.i64_in _ (by omega)
  have hw2 : IntKind.i64.wrap (j : Int) = (j : Int) := IntWalk.i64_in _ (by omega)
  have hi' : (i : Int) < len := by omega
  have hj' : (j : Int) < len := by omega
  go_enter Tryz.func195, Tryz.ntmps195
  go_wp2
  go_quiet ((go_at_call 161; exact Calls.quiet_of_same (hcon _)))
  go_wp2
  go_ret
  exact ⟨rfl, nq, rfl⟩
def SsPost (w0 : World) (v : Value) (ts : List Th) (l : List Int) (e : Ending) (w' : World) : Prop := e = .returned (.tuple #[]) ∧ ∃ l', l'.Perm l ∧ (l'.Pairwise fun a b => stOf ts a ≤ stOf ts b) ∧ LOwnI w' w0.heap.size v l' ∧ w0.grownBy w' none
set_option maxRecDepth 100000 in
set_option maxHeartbeats 2000000 in
theorem sSort_any (w0 w : World) (b : Nat) (bv vt vf vl v : Value) (ts : List Th) (l : List Int) (S : ScnB w0 b bv vt vf vl) (T : thR.At w0 vt ts) (hf : ts.length ≤ 2048) (G : w0.grownBy w none) (O : LOwnI w w0.heap.size v l) (hl : ∀ n ∈ l, 1 ≤ n ∧ n ≤ (ts.length : Int)) (hk : l.length ≤ 4096) : Calls Tryz.prog 194 #[v, .func (.func 195) #[] #[.pointer (some ⟨b, 0, none⟩)]] w (SsPost w0 v ts l) := by
  obtain ⟨n, hn⟩ : ∃ n, n = l.length := ⟨_, rfl⟩
  by_cases h0 : n = 0
  · have e1 : l = [] := List.length_eq_zero_iff.1 (by omega)
    subst e1
    obtain ⟨p, cap, rfl⟩ := O.form
    have hS := fun fv W => AnyF.slices_SortFunc_none (P := Tryz.prog) (ρ := Tryz.sortL_ren) { Tryz.sortL with } p cap fv W
    change ∀ fv W, Calls Tryz.prog 194 _ _ _ at hS
    refine (hS _ _).mono ?_
    rintro e w' ⟨rfl, rfl⟩
    exact ⟨rfl, [], List.Perm.refl _, List.Pairwise.nil, O, G⟩
  · have hpos : 0 < l.length := by omega
    obtain ⟨g, cap, e1, hgb, hgs, _, _, _⟩ := own_cell O hpos
    subst e1
    have hN : 0 < ts.length := by
      have := hl (l[0]'hpos) (List.getElem_mem hpos)
      omega
    obtain ⟨pt, ct, rfl, _, hT⟩ := T
    obtain ⟨gt, off, rfl, hR⟩ := hT hN
    obtain ⟨D, hD⟩ := sfins_of (N := ts.length) l (fun m hm => hl m hm)
    haveI : Inhabited (Fin ts.length) := ⟨⟨0, hN⟩⟩
    have hDl : D.length = l.length := by rw [← hD, List.length_map]
    have cc := (scn_box S).2.1
    have O1 : w.ownsRow w0.heap.size 3 1 (.slice (some ⟨g, 0, none⟩) l.length cap) l.length (ints l) := O
    have cell0 : ∀ a x, w0.cell? a = some x → a.block < w0.heap.size := fun a x h => World.block_lt_of_cell? _ _ h
    have hcmp : CmpReads Tryz.prog 195 #[.pointer (some ⟨b, 0, none⟩)] (sencF (N := ts.length)) (scfF ts) g 0 D.toArray.size w := by
      intro m os dk hs x y
      have keep : ∀ a u, w0.cell? a = some u → (Go.Proofs.sortWorld sencF w g 0 m dk os).cell? a = some u := fun a u h => by
        have := cell0 a u h
        rw [ssortW_cell sencF w g m dk os a (by omega) (by have := G.size; omega)]
        exact G.cell h (by simp)
      have hx := x.isLt
      have hy := y.isLt
      refine scmpSt_any _ b gt off ts.length ct x.val y.val (sstF ts x) (sstF ts y) hx hy hf (keep _ _ cc) (keep _ _ ?_) (keep _ _ ?_)
      · have := hR x.val ts[x.val] (List.getElem?_eq_getElem hx) 3 _ rfl
        rw [show off + x.val * thR.k + 3 = off + x.val * 11 + 3 from rfl] at this
        rw [this]
        unfold sstF stOf
        rw [toN, List.getD_eq_getElem?_getD, List.getElem?_eq_getElem hx]
        rfl
      · have := hR y.val ts[y.val] (List.getElem?_eq_getElem hy) 3 _ rfl
        rw [show off + y.val * thR.k + 3 = off + y.val * 11 + 3 from rfl] at this
        rw [this]
        unfold sstF stOf
        rw [toN, List.getD_eq_getElem?_getD, List.getElem?_eq_getElem hy]
        rfl
    have hH : Go.Sort.Holds sencF w g 0 D.toArray := by
      intro j hj
      have hj' : j < D.length := by simpa using hj
      rw [Nat.zero_add]
      refine ⟨?_, World.ownsRow.frozenAt O1 j⟩
      rw [World.ownsRow.cellAt O1 j (by omega), ← hD, ← sencF_map, List.getElem?_map]
      simp [hj']
    have eg : ∀ args w, (callFunc 195 args).run Tryz.prog w = .ok (.enter 195 args) w := enters_of Tryz.func195 (by kernel_rfl) rfl
    have hS := Any.slices_SortFunc Tryz.sortL sencF (fun _ => rfl) (scfF ts) (sswoF ts) 195 #[.pointer (some ⟨b, 0, none⟩)] g 0 cap D.toArray w eg hcmp.lays hH (by omega) (by simp; omega)
    change Calls Tryz.prog 194 _ _ _ at hS
    have hsz2 : D.toArray.size = l.length := by simp [hDl]
    rw [← hsz2]
    refine hS.mono ?_
    rintro e w' ⟨rfl, d', q, os, hp, hs, rfl⟩
    refine ⟨rfl, ?_⟩
    have hd : d'.size = D.toArray.size := hp.1
    have hd2 : d'.toList.length = l.length := by rw [Array.length_toList, hd, hsz2]
    have ew : Go.Proofs.sortWorld sencF w g 0 q d' os = Go.Sort.grow ((w.drewN q).setCells g 0 (d'.toList.map sencF)) os := by
      unfold Go.Proofs.sortWorld
      have := Lib.sorted_world sencF w g 0 q D.toArray d'.toList os hH (by rw [Array.length_toList]; exact hd)
      rw [← this]
    rw [ew, sencF_map, hsz2]
    obtain ⟨o2, g2⟩ := sorted_own (q := q) (os := os) (vs := ints (d'.toList.map fun i => (i.val : Int) + 1)) O1 (by rw [length_ints, List.length_map, Nat.mul_one]; exact hd2)
    refine ⟨_, ?_, ssorted_list hd hs, ?_, grown_own G g2 (fun x e => by cases e; exact hgb)⟩
    · rw [← hD]
      have := sperm_list hp
      exact this.map _
    · unfold LOwnI
      rw [List.length_map, hd2]
      exact o2
end Go.Proofs.YthfjgpjcepmnmaaGreat
