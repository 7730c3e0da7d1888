/-
  What deck's laws over books share: lists handed in, what Parse answers, two lists apart.
-/
import Derived.Test.YtbcggjacjfcldaaGreatDoorD28
import Derived.Test.YtbcggjacjfcldaaGreatDoorBoB
import Derived.Test.YtbcggjacjfcldaaGreatDoorApartI
import Derived.Test.YtbcggjacjfcldaaGreatDoorD29
namespace Go.Proofs.YtbcggjacjfcldaaGreatDoor
open Go.RowKit

theorem intsB_rd {w : World} {a : Option Addr} {n c : Nat} {l : List Int} (h : IntsB w (.slice a n c) l) : Rd w a n l ∧ n ≤ c := by
  rcases h with ⟨a', e, rfl⟩ | ⟨g, o, cap, e, hc, hcell⟩
  · injection e with _ e2 e3
    subst e2
    subst e3
    exact ⟨⟨rfl, fun h => by omega⟩, Nat.le_refl _⟩
  · injection e with e1 e2 e3
    subst e1
    subst e2
    subst e3
    exact ⟨⟨rfl, fun _ => ⟨g, o, rfl, fun j hj => hcell j _ (by simp [ints, List.getD, hj])⟩⟩, hc⟩
/-- Parse's fault, and its list. -/
def pf (D : (Int × Int) ⊕ List Int) : Int × Int := match D with
  | .inl f => f
  | .inr _ => (0, 0)
def pl (D : (Int × Int) ⊕ List Int) : List Int := match D with
  | .inl _ => []
  | .inr l => l
theorem PaPost.any {D : (Int × Int) ⊕ List Int} {w w' : World} {e : Ending} (h : PaPost D w e w') : ∃ a c, e = .returned (.tuple #[.slice a (pl D).length c, .agg #[.int .i64 (pf D).1, .int .i64 (pf D).2]]) ∧ w'.ownsRow w.heap.size 3 1 (.slice a (pl D).length c) (pl D).length (ints (pl D)) ∧ w.grownBy w' none := by
  obtain ⟨g, h⟩ := h
  rcases h with ⟨f, rfl, rfl⟩ | ⟨l, v, rfl, rfl, o⟩
  · exact ⟨none, 0, rfl, ⟨rfl, Or.inl ⟨rfl, rfl⟩⟩, g⟩
  · rcases o.2 with ⟨rfl, h0⟩ | ⟨gg, cap, cur, rfl, _⟩
    · refine ⟨none, 0, ?_, ?_, g⟩
      · show _ = Ending.returned (.tuple #[.slice none l.length 0, _])
        rw [h0]
        rfl
      · show World.ownsRow _ _ _ _ (.slice none l.length 0) l.length (ints l)
        rw [h0] at o ⊢
        exact o
    · exact ⟨_, _, rfl, o, g⟩
theorem own_lst {w : World} {base n : Nat} {v : Value} {xs : List Value} (h : w.ownsRow base 3 1 v n xs) : ∃ x : Lst, v = x.v ∧ x.okI w ∧ x.a = v.ownBlock ∧ ∀ g, x.a = some g → base ≤ g ∧ g < w.heap.size := by
  rcases h.2 with ⟨e, h0⟩ | ⟨g, cap, cur, e, hb, hh, hn, hm, hs, ht⟩
  · exact ⟨⟨none, 0, 0⟩, e, Or.inl ⟨rfl, rfl, rfl⟩, by rw [e]; rfl, fun g hg => by cases hg⟩
  · exact ⟨⟨some g, n, cap⟩, e, Or.inr ⟨g, rfl, hn, hm, cur, hh, by rw [hs, Nat.mul_one]⟩, by rw [e]; rfl, fun g' hg => by cases hg; exact ⟨hb, block_lt hh⟩⟩
/-- Two lists of the call's own lie apart. -/
theorem apart2 {w0 w : World} {g b1 b2 n1 n2 : Nat} {v1 v2 : Value} {xs ys : List Value} (g0 : w0.grownBy w none) (o1 : w.ownsRow b1 3 1 v1 n1 xs) (o2 : w.ownsRow b2 3 1 v2 n2 ys) (h1 : w0.heap.size ≤ b1) (h2 : w0.heap.size ≤ b2) (hd : ∀ x, v1.ownBlock = some x → x < b2) (hA : w.heap[g]? = some (.cells #[v1, v2] 26 (0, 0))) : Calls Tryz.prog 20 #[.slice (some ⟨g, 0, none⟩) 2 2] w fun e w' => e = .returned (.bool true) ∧ w0.grownBy w' none := by
  obtain ⟨x, ex, kx, bx, rx⟩ := own_lst o1
  obtain ⟨y, ey, ky, bY, ry⟩ := own_lst o2
  refine (apartI_any g 2 [x, y] w (by simp) (by simp) (fun j z hz => ?_) (fun z hz => ?_) (fun i j a b t hi hj ha hb => ?_)).mono fun e w' h => ⟨h.1, Kpt.new g0 h.2 (fun t ht => ?_)⟩
  · rcases j with _ | _ | j
    · cases hz
      rw [block_cell hA, ← ex]
      rfl
    · cases hz
      rw [block_cell hA, ← ey]
      rfl
    · simp at hz
  · rcases List.mem_cons.1 hz with rfl | hz
    · exact kx
    · rw [List.mem_singleton.1 hz]; exact ky
  · have key : ∀ t, x.a = some t → y.a = some t → False := fun t h3 h4 => by
      have h5 := hd t (by rw [← bx]; exact h3)
      have h6 := (ry t h4).1
      omega
    rcases i with _ | _ | i <;> rcases j with _ | _ | j
    · rfl
    · cases hi; cases hj; exact (key t ha hb).elim
    · simp at hj
    · cases hi; cases hj; exact (key t hb ha).elim
    · rfl
    · simp at hj
    · simp at hi
    · simp at hi
    · simp at hi
  · unfold blocks at ht
    obtain ⟨z, hz, e⟩ := List.mem_filterMap.1 ht
    rcases List.mem_cons.1 hz with rfl | hz
    · have := (rx t e).1; omega
    · rw [List.mem_singleton.1 hz] at e
      have := (ry t e).1; omega
theorem lent_rd {w : World} {g n : Nat} {l : List Int} (h : w.ownsRow g 3 1 (.slice (some ⟨g, 0, none⟩) (n + 2) (n + 2)) (n + 2) (ints (l ++ [-77, -77]))) (hn : n = l.length) : Rd w (some ⟨g, 0, none⟩) n l := ⟨hn, fun _ => ⟨g, 0, rfl, fun j hj => by
  have hjl : j < l.length := by omega
  rw [Nat.zero_add, World.ownsRow.cellAt h j (by omega), ints_app, List.getElem?_append_left (by rw [length_ints]; exact hjl)]
  simp [ints, List.getD, hjl]⟩⟩
/-- What goes into a book, in a block of its own. -/
def FbAt (w : World) (f : Nat) (vc vm : Value) (op : Bool) : Prop := w.heap[f]? = some (.cells #[vc, vm, .bool op] 25 (0, 0))
theorem FbAt.keep {w w' : World} {f : Nat} {vc vm : Value} {op : Bool} (h : FbAt w f vc vm op) (g : w.grownBy w' none) : FbAt w' f vc vm op := grown_keep g h (by simp)
end Go.Proofs.YtbcggjacjfcldaaGreatDoor
