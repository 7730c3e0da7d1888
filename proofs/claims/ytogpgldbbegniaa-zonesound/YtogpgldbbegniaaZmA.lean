/-
  Zones in memory: things of eleven cells, decks, hands, the next stamp; each list in a block of its own; what a call may turn.
-/
import Derived.Test.YtogpgldbbegniaaPlAp
import Derived.Test.YtogpgldbbegniaaZnN
import Derived.Deep.MidRow
namespace Go.Proofs.Ytogpgldbbegniaa
open Go.RowKit

/-- The cells of a thing. -/
def thc (t : Th) : List Value := [.int .i64 t.card, .int .i64 t.owner, .int .u8 t.place, .int .i64 t.stamp, .int .i64 t.hurt, .int .i64 t.m0, .int .i64 t.m1, .int .i64 t.m2, .int .i64 t.m3, .int .i64 t.done, .bool t.fresh]
def thcs : List Th → List Value
  | [] => []
  | t :: ts => thc t ++ thcs ts
theorem thc_len (t : Th) : (thc t).length = 11 := rfl
theorem thcs_len : ∀ (ts : List Th), (thcs ts).length = ts.length * 11
  | [] => rfl
  | t :: ts => by
    show (thc t ++ thcs ts).length = _
    rw [List.length_append, thcs_len ts, thc_len, List.length_cons]
    omega
theorem thcs_app : ∀ (a b : List Th), thcs (a ++ b) = thcs a ++ thcs b
  | [], b => rfl
  | t :: a, b => by
    show thc t ++ thcs (a ++ b) = (thc t ++ thcs a) ++ thcs b
    rw [thcs_app a b, List.append_assoc]
theorem thcs_one (t : Th) : thcs [t] = thc t := List.append_nil _
theorem thcs_at : ∀ {ts : List Th} {j : Nat} {t : Th}, ts[j]? = some t → ∀ k, k < 11 → (thcs ts)[j * 11 + k]? = (thc t)[k]?
  | [], j, t, h, k, hk => by simp at h
  | s :: ts, 0, t, h, k, hk => by
    simp at h
    subst h
    show (thc s ++ thcs ts)[0 * 11 + k]? = _
    rw [Nat.zero_mul, Nat.zero_add, List.getElem?_append_left (by rw [thc_len]; exact hk)]
  | s :: ts, j + 1, t, h, k, hk => by
    show (thc s ++ thcs ts)[(j + 1) * 11 + k]? = _
    rw [List.getElem?_append_right (by rw [thc_len]; omega), thc_len, show (j + 1) * 11 + k - 11 = j * 11 + k from by omega]
    exact thcs_at (by simpa using h) k hk
theorem thcs_ones : ∀ (ts : List Th), ∀ u ∈ thcs ts, u.oneCell' = true
  | [], u, h => by cases h
  | t :: ts, u, h => by
    rcases List.mem_append.1 h with h | h
    · simp only [thc, List.mem_cons, List.not_mem_nil, or_false] at h
      rcases h with h | h | h | h | h | h | h | h | h | h | h <;> (subst h; rfl)
    · exact thcs_ones ts u h
theorem thc_one (t : Th) : (thc t).toArray.all (·.oneCell') = true := all_oneCell_toArray fun u hu => thcs_ones [t] u (by rw [thcs_one]; exact hu)
/-- Things that lie somewhere, as a list reads them. -/
def ThsAt (w : World) (v : Value) (ts : List Th) : Prop := ∃ p cap, v = .slice p ts.length cap ∧ ts.length ≤ maxLen ∧ (0 < ts.length → ∃ g off, p = some ⟨g, off, none⟩ ∧ ∀ (j : Nat) t, ts[j]? = some t → w.rangeAt g (off + j * 11) (thc t))
theorem ThsAt.keep {w w' : World} {v : Value} {ts : List Th} (h : ThsAt w v ts) (k : w.grownBy w' none) : ThsAt w' v ts := by
  obtain ⟨p, cap, e, hm, h⟩ := h
  refine ⟨p, cap, e, hm, fun h0 => ?_⟩
  obtain ⟨g, off, e2, h2⟩ := h h0
  exact ⟨g, off, e2, fun j t ht i u hu => k.cell (h2 j t ht i u hu) (by simp)⟩
theorem rangeAt_keep {w w' : World} {g off : Nat} {cs : List Value} (h : w.rangeAt g off cs) (k : w.grownBy w' none) : w'.rangeAt g off cs := fun i u hu => k.cell (h i u hu) (by simp)
/-- The eleven cells of a thing that lies there. -/
theorem range_cells {w : World} {g o : Nat} {t : Th} (h : w.rangeAt g o (thc t)) : w.cell? ⟨g, o, none⟩ = some (.int .i64 t.card) ∧ w.cell? ⟨g, o + 1, none⟩ = some (.int .i64 t.owner) ∧ w.cell? ⟨g, o + 2, none⟩ = some (.int .u8 t.place) ∧ w.cell? ⟨g, o + 3, none⟩ = some (.int .i64 t.stamp) ∧ w.cell? ⟨g, o + 4, none⟩ = some (.int .i64 t.hurt) ∧ w.cell? ⟨g, o + 5, none⟩ = some (.int .i64 t.m0) ∧ w.cell? ⟨g, o + 6, none⟩ = some (.int .i64 t.m1) ∧ w.cell? ⟨g, o + 7, none⟩ = some (.int .i64 t.m2) ∧ w.cell? ⟨g, o + 8, none⟩ = some (.int .i64 t.m3) ∧ w.cell? ⟨g, o + 9, none⟩ = some (.int .i64 t.done) ∧ w.cell? ⟨g, o + 10, none⟩ = some (.bool t.fresh) :=
  ⟨h 0 _ rfl, h 1 _ rfl, h 2 _ rfl, h 3 _ rfl, h 4 _ rfl, h 5 _ rfl, h 6 _ rfl, h 7 _ rfl, h 8 _ rfl, h 9 _ rfl, h 10 _ rfl⟩
/-- A list of numbers of the call's own. -/
def OwnI (w : World) (base : Nat) (v : Value) (l : List Int) : Prop := w.ownsRow base 3 1 v l.length (ints l)
theorem OwnI.nil (w : World) (base : Nat) : OwnI w base (.slice none 0 0) [] := ⟨rfl, Or.inl ⟨rfl, rfl⟩⟩
theorem OwnI.l {w : World} {base : Nat} {v : Value} {l : List Int} (h : OwnI w base v l) : L.Own w base v l := h
theorem OwnI.form {w : World} {base : Nat} {v : Value} {l : List Int} (h : OwnI w base v l) : ∃ p c, v = .slice p l.length c := h.l.form
theorem OwnI.lay {w : World} {base : Nat} {v : Value} {l : List Int} (h : OwnI w base v l) (o : Obj) : OwnI (w.alloc o) base v l := World.ownsRow.alloc h o
/-- A list of things of the call's own. -/
def OwnT (w : World) (base : Nat) (v : Value) (ts : List Th) : Prop := w.ownsRow base 38 11 v ts.length (thcs ts)
theorem own_cell {w : World} {base e size n : Nat} {v : Value} {xs : List Value} (h : w.ownsRow base e size v n xs) (h0 : 0 < n) : ∃ g cap, v = .slice (some ⟨g, 0, none⟩) n cap ∧ base ≤ g ∧ g < w.heap.size ∧ n ≤ cap ∧ cap ≤ maxLen ∧ ∀ (j : Nat), j < n * size → w.cell? ⟨g, j, none⟩ = xs[j]? ∧ w.frozen? ⟨g, j, none⟩ = false := by
  rcases h.2 with ⟨_, h1⟩ | ⟨g, cap, cur, e, hb, hh, hc, hm, hs, ht⟩
  · omega
  · refine ⟨g, cap, e, hb, block_lt hh, hc, hm, fun j hj => ⟨?_, block_free hh j⟩⟩
    rw [block_cell hh, ← ht, List.getElem?_take, if_pos hj]
    simp
theorem own_slice {w : World} {base e size n : Nat} {v : Value} {xs : List Value} (h : w.ownsRow base e size v n xs) : ∃ p cap, v = .slice p n cap ∧ n ≤ maxLen := by
  rcases h.2 with ⟨e1, h1⟩ | ⟨g, cap, cur, e1, hb, hh, hc, hm, hs, ht⟩
  · exact ⟨none, 0, by rw [e1, h1], by rw [h1]; exact Nat.zero_le _⟩
  · exact ⟨_, _, e1, Nat.le_trans hc hm⟩
theorem OwnT.at {w : World} {base : Nat} {v : Value} {ts : List Th} (h : OwnT w base v ts) : ThsAt w v ts := by
  obtain ⟨p, cap, e, hm⟩ := own_slice h
  refine ⟨p, cap, e, hm, fun h0 => ?_⟩
  obtain ⟨g, cap', e', _, _, _, _, hc⟩ := own_cell h h0
  rw [e] at e'
  cases e'
  refine ⟨g, 0, rfl, fun j t ht k u hu => ?_⟩
  have hk : k < 11 := (List.getElem?_eq_some_iff.1 hu).1
  have hj := (List.getElem?_eq_some_iff.1 ht).1
  rw [Nat.zero_add, (hc (j * 11 + k) (by omega)).1, thcs_at ht k hk]
  exact hu
/-- Zones' own cells. -/
def zc (vt d0 d1 h0 h1 : Value) (nx : Int) (ex : List Value) : Array Value := (vt :: d0 :: d1 :: h0 :: h1 :: .int .i64 nx :: ex).toArray
def Apart2 (x y : Value) : Prop := ∀ a, x.ownBlock = some a → y.ownBlock ≠ some a
/-- Zones at block b; S: all blocks that are theirs. -/
structure ZG (T : TypeId) (ex : List Value) (w : World) (b : Nat) (S : List Nat) (z : Zs) (vt d0 d1 h0 h1 : Value) : Prop where
  blk : w.heap[b]? = some (.cells (zc vt d0 d1 h0 h1 z.nx ex) T (0, 0))
  ts : OwnT w 0 vt z.ts
  od0 : OwnI w 0 d0 (z.dk 0)
  od1 : OwnI w 0 d1 (z.dk 1)
  oh0 : OwnI w 0 h0 (z.hd 0)
  oh1 : OwnI w 0 h1 (z.hd 1)
  inb : b ∈ S
  inS : ∀ v ∈ [vt, d0, d1, h0, h1], ∀ x, v.ownBlock = some x → x ∈ S
  dif : [d0, d1, h0, h1].Pairwise Apart2
def ZA (T : TypeId) (ex : List Value) (w : World) (b : Nat) (S : List Nat) (z : Zs) : Prop := ∃ vt d0 d1 h0 h1, ZG T ex w b S z vt d0 d1 h0 h1
/-- The program's zones. -/
def ZAt (w : World) (b : Nat) (S : List Nat) (z : Zs) : Prop := ZA 93 [] w b S z
theorem kpt_own {w w' : World} {S : List Nat} {base e size n : Nat} {v : Value} {xs : List Value} (h : w.ownsRow base e size v n xs) (k : Kpt S w w') (hv : ∀ x, v.ownBlock = some x → x ∉ S) : w'.ownsRow base e size v n xs := by
  refine ⟨h.1, ?_⟩
  rcases h.2 with h1 | ⟨g, cap, cur, e1, hb, hh, rest⟩
  · exact Or.inl h1
  · exact Or.inr ⟨g, cap, cur, e1, hb, by rw [k.block g (block_lt hh) (hv g (by rw [e1]; rfl))]; exact hh, rest⟩
theorem ZG.keep {T : TypeId} {ex : List Value} {w w' : World} {b : Nat} {S R : List Nat} {z : Zs} {vt d0 d1 h0 h1 : Value} (h : ZG T ex w b S z vt d0 d1 h0 h1) (k : Kpt R w w') (hR : ∀ x, x ∈ S → x ∉ R) : ZG T ex w' b S z vt d0 d1 h0 h1 where
  blk := by rw [k.block b (block_lt h.blk) (hR b h.inb)]; exact h.blk
  ts := kpt_own h.ts k fun x hx => hR x (h.inS vt (by simp) x hx)
  od0 := kpt_own h.od0 k fun x hx => hR x (h.inS d0 (by simp) x hx)
  od1 := kpt_own h.od1 k fun x hx => hR x (h.inS d1 (by simp) x hx)
  oh0 := kpt_own h.oh0 k fun x hx => hR x (h.inS h0 (by simp) x hx)
  oh1 := kpt_own h.oh1 k fun x hx => hR x (h.inS h1 (by simp) x hx)
  inb := h.inb
  inS := h.inS
  dif := h.dif
theorem ZA.keep {T : TypeId} {ex : List Value} {w w' : World} {b : Nat} {S R : List Nat} {z : Zs} (h : ZA T ex w b S z) (k : Kpt R w w') (hR : ∀ x, x ∈ S → x ∉ R) : ZA T ex w' b S z := by
  obtain ⟨vt, d0, d1, h0, h1, h⟩ := h
  exact ⟨vt, d0, d1, h0, h1, h.keep k hR⟩
theorem ZG.grow {T : TypeId} {ex : List Value} {w w' : World} {b : Nat} {S : List Nat} {z : Zs} {vt d0 d1 h0 h1 : Value} (h : ZG T ex w b S z vt d0 d1 h0 h1) (k : w.grownBy w' none) : ZG T ex w' b S z vt d0 d1 h0 h1 := h.keep (Kpt.of_grown k) (by simp)
theorem ZA.grow {T : TypeId} {ex : List Value} {w w' : World} {b : Nat} {S : List Nat} {z : Zs} (h : ZA T ex w b S z) (k : w.grownBy w' none) : ZA T ex w' b S z := h.keep (Kpt.of_grown k) (by simp)
theorem own_lt {w : World} {base e size n : Nat} {v : Value} {xs : List Value} (h : w.ownsRow base e size v n xs) : ∀ x, v.ownBlock = some x → x < w.heap.size := fun x hx => (World.ownsRow.lt h x hx).2
/-- All that is theirs is there. -/
def Old (w : World) (S : List Nat) : Prop := ∀ x, x ∈ S → x < w.heap.size
theorem ZG.cell {T : TypeId} {ex : List Value} {w : World} {b : Nat} {S : List Nat} {z : Zs} {vt d0 d1 h0 h1 : Value} (h : ZG T ex w b S z vt d0 d1 h0 h1) : w.cell? ⟨b, 0, none⟩ = some vt ∧ w.cell? ⟨b, 1, none⟩ = some d0 ∧ w.cell? ⟨b, 2, none⟩ = some d1 ∧ w.cell? ⟨b, 3, none⟩ = some h0 ∧ w.cell? ⟨b, 4, none⟩ = some h1 ∧ w.cell? ⟨b, 5, none⟩ = some (.int .i64 z.nx) :=
  ⟨block_cell h.blk 0, block_cell h.blk 1, block_cell h.blk 2, block_cell h.blk 3, block_cell h.blk 4, block_cell h.blk 5⟩
theorem ZG.free {T : TypeId} {ex : List Value} {w : World} {b : Nat} {S : List Nat} {z : Zs} {vt d0 d1 h0 h1 : Value} (h : ZG T ex w b S z vt d0 d1 h0 h1) (i : Nat) : w.frozen? ⟨b, i, none⟩ = false := block_free h.blk i
/-- Where a thing lies. -/
theorem ths_there {w : World} {v : Value} {ts : List Th} (h : ThsAt w v ts) {n : Int} (hn : there ts n) : ∃ g off cap, v = .slice (some ⟨g, off, none⟩) ts.length cap ∧ w.rangeAt g (off + (n - 1).toNat * 11) (thc (thAt ts n)) := by
  obtain ⟨p, cap, e, hm, h⟩ := h
  unfold there at hn
  obtain ⟨g, off, e2, h2⟩ := h (by omega)
  subst e2
  exact ⟨g, off, cap, e, h2 _ _ (there_at hn)⟩
end Go.Proofs.Ytogpgldbbegniaa
